/- Texts of a claim, joined. -/
import Derived.Test.YtpcmabdifkoihaaDoorZA8
set_option linter.unusedVariables false
set_option linter.unusedSimpArgs false
namespace Go.Proofs.YtpcmabdifkoihaaDoor
noncomputable section
namespace Ev
namespace K
open Go Go.RowKit
theorem Bi{ids:List Nat}{p:Nat}(h:(!(ids.any (Nat.beq p)))=true):p ∉ ids:=by
 intro hp
 have:ids.any (Nat.beq p)=true:=List.any_eq_true.2 ⟨p,hp,Nat.beq_refl p⟩
 rw [this]at h;simp at h
theorem Lc{e:KE}{nid p:Nat}{bl bl':List (Nat×KB)}(h:az bl p=az bl' p):az (blE e nid bl) p=az (blE e nid bl') p:=by
 have h1:az (blU e bl) p=az (blU e bl') p:=by
  unfold blU
  cases e.upd with
  |none=>exact h
  |some x=>show az ((x.1,x.2)::bl) p=az ((x.1,x.2)::bl') p;rw [aB,aB,h]
 unfold blE
 cases e.new with
 |none=>exact h1
 |some b=>simp only [aB,h1]
section free
variable {B B' : BK} {V : Vl} {ids : List Nat} (hb : ∀ p, p ∉ ids → B' p = B p)
include hb
theorem RC.free{c:KC}{x:C}(hf:tK ids c=true)(h:RC B V c x):RC B' V c x:=by
 cases c with
 |o e p=>intro e' ne l hl;rw [hb p (Bi (ids:=ids) (p:=p) hf)]at hl;exact h e' ne l hl
 |m e p=>intro e' l hl;rw [hb p (Bi (ids:=ids) (p:=p) hf)]at hl;exact h e' l hl
 |_=>exact h
theorem RCs.free:∀{l:List KC} {xs:List C},l.all (tK ids)=true->RCs B V l xs->RCs B' V l xs
 | [],xs,hf,h=>h
 |c::l,xs,hf,⟨x,s,e,h1,h2⟩=>by
  rw [List.all_cons,Bool.and_eq_true]at hf;exact⟨x,s,e,RC.free hb hf.1 h1,RCs.free hf.2 h2⟩
theorem RD1.free{k:KD}{d:D}(hf:wK ids k=true)(h:RD1 B V k d):RD1 B' V k d:=by
 cases k with
 |one c=>obtain⟨c',h1,h2⟩:=h;exact⟨c',h1,RC.free hb hf h2⟩
 |agg cs=>obtain⟨c',h1,h2⟩:=h;exact⟨c',h1,RCs.free hb hf h2⟩
 |tup ts=>exact h
omit hb in
theorem Ld{x:Bool×List KC}(hf:x.2.all (tK ids)=true):wK ids (mkD x)=true:=by
 obtain⟨b,cs⟩:=x
 cases b with
 |true=>exact hf
 |false=>match cs,hf with
  | [],hf=>exact hf
  | [c],hf=>simpa [mkD,wK]using hf
  |c::d::r,hf=>exact hf
theorem RTs.free:∀{l:List (Bool×List KC)} {xs:List D},(l.all λx=>x.2.all (tK ids))=true->RTs B V l xs->RTs B' V l xs
 | [],xs,hf,h=>h
 |c::l,xs,hf,⟨x,s,e,h1,h2⟩=>by
  rw [List.all_cons,Bool.and_eq_true]at hf;exact⟨x,s,e,RD1.free hb (Ld hf.1) h1,RTs.free hf.2 h2⟩
theorem RD.free{k:KD}{d:D}(hf:wK ids k=true)(h:RD B V k d):RD B' V k d:=by
 cases k with
 |one c=>exact RD1.free (k:= .one c) hb hf h
 |agg cs=>exact RD1.free (k:= .agg cs) hb hf h
 |tup ts=>obtain⟨ds,h1,h2⟩:=h;exact⟨ds,h1,RTs.free hb hf h2⟩
theorem BlkIs.free{b:KB}{x:Blk}(hf:Kv ids b=true)(h:BlkIs B V x b):BlkIs B' V x b:=by
 cases b with
 |box cs=>obtain⟨sz,cs',g1,g2⟩:=h;exact⟨sz,cs',g1,RCs.free hb hf g2⟩
 |rows e ne l=>exact h
 |mrows e l=>exact h
 |dead=>exact h
end free
theorem Fs{ids:List Nat}{tag:Nat}{d:KD}:wK ids (ns tag d)=wK ids d:=by
 unfold ns;split<;>rfl
section
variable {E : Env} {y : Nat → fu} {n : Nat} {F : KF} {ks : KS} {V : Vl} {f : Nat → D} {h : aC} {M tag nid : Nat} {op : Op} {G : KG} {D0 : Nat} {R : Type} {r : R}
theorem lz{ids:List Nat}{p:Nat}:az (rE ids ks).bl p=if p∈ids then some .dead else az ks.bl p:=by
 show az (ids.map (λp=>(p,KB.dead))++ks.bl) p=_;rw [bE];unfold bA;rcases sU (l:=ids) (p:=p)with⟨h1,h2⟩|⟨h1,h2⟩
 .rw [h1,if_neg h2]
 .rw [h1,if_pos h2]
theorem qz{ids:List Nat}{p:Nat}:aE F (rE ids ks) p=if p∈ids then none else aE F ks p:=by
 unfold aE bA;rw [lz];by_cases hp:p∈ids
 .rw [if_pos hp,if_pos hp]
 .rw [if_neg hp,if_neg hp]
theorem MT{ids:List Nat}{e:KE}{p:Nat}(hp:p ∉ ids):Be F (rE ids ks) nid e p=Be F ks nid e p:=by
 have:=Lc (e:=e) (nid:=nid) (show az (rE ids ks).bl p=az ks.bl p by rw [lz,if_neg hp])
 unfold Be aE bA;simp only [this]
theorem Lf{ids ms:List Nat}(hr:Rel F ks V f h)(hm:∀p b,aE F ks p=some b->b.there->V.id p∈ms->p∈ids):Rel F (rE ids ks) V f (mask h ms):=by
 have hle:LeB ks.nx (aE F ks) (aE F (rE ids ks)):=λp hp=>by
  rw [qz];split
  .exact⟨λe ne l h=>by simp at h,λe l h=>by simp at h⟩
  .exact⟨λe ne l h=>⟨e,ne,l,h,rfl⟩,λe l h=>⟨e,l,h,rfl⟩⟩
 refine⟨λi d hd=> ?_,λp b hb=> ?_,λp q b b' hp hq=> ?_⟩
 .obtain⟨g1,g2,g3⟩:=hr.sl i d hd;exact⟨g1,g2,g3.mono g2 hle (Agree.refl _ _)⟩
 .rw [qz]at hb;split at hb
  .simp at hb
  .rename_i hp;obtain⟨g1,g2,g3⟩:=hr.bl p b hb;refine⟨g1,g2,?_⟩;have g4:=g3.mono g2 hle (Agree.refl _ _);by_cases ht:b.there
   .exact g4.heap (by rw [tH,if_neg λhh=>hp (hm p b hb ht hh)])
   .cases b with
    |mrows e l=>exact λhl=>absurd hl ht
    |dead=>trivial
    |box cs=>exact absurd trivial ht
    |rows e ne l=>exact absurd trivial ht
 .rw [qz]at hp hq;split at hp
  .simp at hp
  .split at hq
   .simp at hq
   .exact hr.inj p q b b' hp hq
open Classical in
def oId(ks:KS)(V:Vl)(p:Nat):List Nat:=if∃b,az ks.bl p=some b/\b.there then [V.id p]else []
def sW(ks:KS)(V:Vl)(l:List Nat):List Nat:=l.flatMap (oId ks V)
def rL(ks:KS)(V:Vl)(O:List (List Nat)):List (List Nat):=O.map (sW ks V)
theorem oV{O:List (List Nat)}{j:Nat}:(rL ks V O).getD j []=sW ks V (O.getD j []):=by
 unfold rL;rw [List.getD_eq_getElem?_getD,List.getElem?_map,List.getD_eq_getElem?_getD];cases O[j]? <;>rfl
theorem oy{l:List Nat}{x:Nat}(h:x∈sW ks V l):∃p∈l,∃b,az ks.bl p=some b/\b.there/\x=V.id p:=by
 unfold sW at h;obtain⟨p,hp,hx⟩:=List.mem_flatMap.1 h;unfold oId at hx;split at hx
 .rename_i hh;obtain⟨b,h1,h2⟩:=hh;exact⟨p,hp,b,h1,h2,by simpa using hx⟩
 .simp at hx
theorem oz{b:KB}(h:b.there):b≠ .dead:=by rintro rfl;exact h
theorem rM(hr:Rel F ks V f h){p:Nat}{b:KB}(hp:aE F ks p=some b)(ht:b.there):V.id p<h.length:=
 let⟨_,hz⟩:=qo (hr.bl p b hp).2.2 ht;yB hz
theorem GA(hr:Rel F ks V f h):∀{os rs O:List (List Nat)},djB os rs O=true->DJ (rL ks V os) rs (rL ks V O)
 | [],rs,O,_=>by cases rs<;>trivial
 |o::os,[],O,_=>trivial
 |o::os,r::rs,O,hd=>by
  have hd':((r.all λj=>Kx o (O.getD j []))&& djB os rs O)=true:=hd;rw [Bool.and_eq_true]at hd';refine⟨λj hj x hx=> ?_,GA hr hd'.2⟩;rw [oV];intro hx2;obtain⟨p,p1,b,p2,p3,rfl⟩:=oy hx;obtain⟨q,q1,b',q2,q3,q4⟩:=oy hx2
  have:=hr.inj p q b b' (aA p2 (oz p3)) (aA q2 (oz q3)) p3 q3 q4
  subst this;have h1:=List.all_eq_true.1 hd'.1 j hj;unfold Kx at h1;exact Bi (List.all_eq_true.1 h1 p p1) q1
theorem MU(hr:Rel F ks V f h){O:List (List Nat)}:∀l∈rL ks V O,∀k∈l,k<h.length:=by
 intro l hl k hk;obtain⟨o,h1,rfl⟩:=List.mem_map.1 hl;obtain⟨p,_,b,p2,p3,rfl⟩:=oy hk;exact rM hr (aA p2 (oz p3)) p3
section
variable {Rl O : List (List Nat)} {N : List (Bool × List Nat)} {nw : List (Nat × Nat)} {i j p q : Nat}
theorem Dt(hj:j∈Rl.getD i [])(hp:p∈O.getD j []):p∈gR Rl O N nw i:=List.mem_flatMap.2 ⟨j,hj,List.mem_append.2 (.inl hp)⟩
theorem Du(hj:j∈Rl.getD i [])(hq:q∈(N.getD j (false,[])).2)(hp:az nw q=some p):p∈gR Rl O N nw i:=List.mem_flatMap.2 ⟨j,hj,List.mem_append.2 (.inr (List.mem_append.2 (.inl (List.mem_flatMap.2 ⟨q,hq,by rw [hp];exact List.mem_singleton.2 rfl⟩))))⟩
theorem Dv(hj:j∈Rl.getD i [])(hn:(N.getD j (false,[])).1=true)(hp:az nw j=some p):p∈gR Rl O N nw i:=List.mem_flatMap.2 ⟨j,hj,List.mem_append.2 (.inr (List.mem_append.2 (.inr (by rw [hn,hp];exact List.mem_singleton.2 rfl))))⟩
end
structure TInv(F:KF)(ks0:KS)(V0:Vl)(b w:Nat)(nw:List (Nat×Nat))(i:Nat)(ks:KS)(V:Vl)(f:Nat->D)(H:aC):Prop where
 rel:Rel F ks V f H
 ext:Ext F ks0 V0 ks V
 len:H.length=b+w
 th:∀p bl,aE F ks p=some bl->bl.there->(p<ks0.nx/\∃b0,aE F ks0 p=some b0/\b0.there)∨∃j,az nw j=some p
 nw:∀j q,az nw j=some q->j<i/\V.id q=b+j/\q<ks.nx
 free:∀j,i<=j->aJ H (b+j)=none
section
variable {ks0 : KS} {V0 : Vl} {f0 : Nat → D} {h0 : aC} {w i : Nat} {nw : List (Nat × Nat)} {H : aC} {Rl O : List (List Nat)} {N : List (Bool × List Nat)}
theorem TInv.mask(hr0:Rel F ks0 V0 f0 h0)(hi:TInv F ks0 V0 h0.length w nw i ks V f H){p:Nat}{bl:KB}(hp:aE F ks p=some bl)(ht:bl.there)(hm:V.id p∈(Rl.getD i []).flatMap (bg h0.length (rL ks0 V0 O) N)):p∈gR Rl O N nw i:=by
 obtain⟨j,hj,hx⟩:=List.mem_flatMap.1 hm;unfold bg at hx;rw [oV]at hx;rcases hi.th p bl hp ht with⟨h1,b0,h2,h3⟩|⟨j0,h1⟩
 .rw [(hi.ext.agree p h1).1]at hx;have hlt:=rM hr0 h2 h3;rcases List.mem_append.1 hx with hx|hx
  .obtain⟨q,q1,b1,q2,q3,q4⟩:=oy hx
   have:=hr0.inj p q b0 b1 h2 (aA q2 (oz q3)) h3 q3 q4
   subst this;exact Dt hj q1
  .exfalso;rcases List.mem_append.1 hx with hx|hx
   .obtain⟨k,_,hk⟩:=List.mem_map.1 hx;omega
   .split at hx
    .have:=List.mem_singleton.1 hx;omega
    .simp at hx
 .obtain⟨h2,h3,h4⟩:=hi.nw j0 p h1;rw [h3]at hx;rcases List.mem_append.1 hx with hx|hx
  .obtain⟨q,q1,b1,q2,q3,q4⟩:=oy hx
   have:=rM hr0 (aA q2 (oz q3)) q3
   omega
  .rcases List.mem_append.1 hx with hx|hx
   .obtain⟨k,k1,k2⟩:=List.mem_map.1 hx
    have:k=j0:=by omega
    subst this;exact Du hj k1 h1
   .split at hx
    .rename_i hn
     have:=List.mem_singleton.1 hx
     have:j0=j:=by omega
     subst this;exact Dv hj hn h1
    .simp at hx
theorem oX{b:KB}(h1:isM b=false)(h2:b≠ .dead):b.there:=by
 cases b with
 |mrows e l=>simp [isM]at h1
 |dead=>exact absurd rfl h2
 |box cs=>trivial
 |rows e ne l=>trivial
theorem MV(hr0:Rel F ks0 V0 f0 h0)(hi:TInv F ks0 V0 h0.length w nw i ks V f H){p:Nat}{b0:KB}(hb:az ks.bl p=some b0)(hd:b0≠ .dead){uo:List (Nat×Blk)}(huo:(b0.there/\∃x,uo= [(V.id p,x)])∨(¬b0.there/\uo= [])):∀(P Q:List Nat),yV ks0 ks nw p P Q=true->uo.map (·.1)=sW ks0 V0 P++Q.map (h0.length+·)/\∀x∈sW ks0 V0 P++Q.map (h0.length+·),x<h0.length+i
 | [q],[],ho=>by
  have ho':(Nat.beq p q && Kw ks0 ks p)=true:=ho;rw [Bool.and_eq_true]at ho'
  have:=Nat.eq_of_beq_eq_true ho'.1
  subst this;have h2:=ho'.2;unfold Kw at h2;split at h2
  .rename_i x0 y0 hx0 hy0;rw [hb]at hy0;cases hy0;have hx0d:x0≠ .dead:=by rintro rfl;simp at h2
   have hm:isM x0=isM b0:=by
    cases x0 with
    |dead=>exact absurd rfl hx0d
    |_=>simpa using h2
   have hp0:=(hr0.bl p x0 (aA hx0 hx0d)).1
   have key:x0.there↔b0.there:=by
    cases x0 with
    |dead=>exact absurd rfl hx0d
    |box cs=>exact⟨λ_=>oX hm.symm hd,λ_=>trivial⟩
    |rows e ne l=>exact⟨λ_=>oX hm.symm hd,λ_=>trivial⟩
    |mrows e l=>cases b0 with
     |mrows e' l'=>
      obtain⟨e1,l1,g1,g2⟩:=(hi.ext.le p hp0).2 e' l' (aA hb hd);rw [aA hx0 hx0d]at g1;cases g1;show l≠[]↔l'≠[];rw [<-List.length_pos_iff,<-List.length_pos_iff,g2]
     |_=>simp [isM]at hm
   have e1:sW ks0 V0 [p]=oId ks0 V0 p:=by simp [sW]
   rw [e1,List.map_nil,List.append_nil];rcases huo with⟨h3,x,rfl⟩|⟨h3,rfl⟩
   .have h4:oId ks0 V0 p= [V0.id p]:=if_pos ⟨x0,hx0,key.2 h3⟩;rw [h4]
    have:=rM hr0 (aA hx0 hx0d) (key.2 h3)
    exact⟨by show [V.id p]=_;rw [(hi.ext.agree p hp0).1],λz hz=>by have:=List.mem_singleton.1 hz;omega⟩
   .have h4:oId ks0 V0 p= []:=if_neg λ⟨b,g1,g2⟩=>by rw [hx0]at g1;cases g1;exact h3 (key.1 g2)
    rw [h4];exact⟨rfl,λz hz=>by simp at hz⟩
  .simp at h2
 | [],[j],ho=>by
  have ho':Fc ks nw p j=true:=ho;unfold Fc at ho';rw [Bool.and_eq_true]at ho';obtain⟨h1,h2⟩:=ho';split at h1
  .rename_i q hq
   have:=Nat.eq_of_beq_eq_true h1
   subst this;rw [hb]at h2;have hth:b0.there:=oX (by simpa using h2) hd;obtain⟨k1,k2,k3⟩:=hi.nw j p hq;rcases huo with⟨_,x,rfl⟩|⟨h3,_⟩
   .refine⟨?_,λz hz=> ?_⟩
    .show [V.id p]=_;rw [k2];simp [sW]
    .have:z=h0.length+j:=by simpa [sW]using hz
     omega
   .exact absurd hth h3
  .simp at h1
 | [],[],ho=>by simp [yV]at ho
 | [],_::_::_,ho=>by simp [yV]at ho
 | [_],_::_,ho=>by simp [yV]at ho
 |_::_::_,_,ho=>by simp [yV]at ho
theorem Lg(hr0:Rel F ks0 V0 f0 h0)(hi:TInv F ks0 V0 h0.length w nw i ks V f H){e:KE}{ids:List Nat}(hef:yW ks0 ks O N nw i ids e=true)(hupd:∀p b,e.upd=some (p,b)->∃b0,az ks.bl p=some b0/\b0≠ .dead/\ScB ks.nx b/\b0.like b)(hnew:∀b,e.new=some b->ScB ks.nx b/\b≠ .dead){B':BK}{V':Vl}{u:List (Nat×Blk)}(hreal:KH B' V' V ks (h0.length+i) e u):
  u.map (·.1)=bg h0.length (rL ks0 V0 O) N i/\∀x∈bg h0.length (rL ks0 V0 O) N i,x<h0.length+(i+1):=by
 unfold yW at hef;simp only [Bool.and_eq_true]at hef;obtain⟨⟨_,h2⟩,h3⟩:=hef;obtain⟨uo,un,rfl,huo,hun⟩:=hreal
 have hO:uo.map (·.1)=sW ks0 V0 (O.getD i [])++(N.getD i (false,[])).2.map (h0.length+·)/\∀x∈sW ks0 V0 (O.getD i [])++(N.getD i (false,[])).2.map (h0.length+·),x<h0.length+i:=by
  cases hu:e.upd with
  |none=>
   rw [hu]at huo h2;simp only [Bool.and_eq_true,List.isEmpty_iff]at h2;rw [show uo= []from huo,h2.1,h2.2];exact⟨rfl,λx hx=>by simp [sW]at hx⟩
  |some z=>
   obtain⟨p,b⟩:=z;rw [hu]at huo h2;simp only [Bool.and_eq_true]at h2;obtain⟨b0,g1,g2,_,_⟩:=hupd p b hu;refine MV hr0 hi g1 g2 ?_ _ _ h2.2;rcases huo with⟨x,k1,_,k2⟩|⟨k1,_,k2⟩
   .exact .inl ⟨k2 b0 g1,x,k1⟩
   .exact .inr ⟨k2 b0 g1,k1⟩
 have hN:un.map (·.1)=(if(N.getD i (false,[])).1 then [h0.length+i]else []):=by
  cases hn:e.new with
  |none=>
   rw [hn]at hun h3;have h3':(N.getD i (false,[])).1=false:=by simpa using h3
   rw [show un= []from hun,h3'];rfl
  |some b=>
   rw [hn]at hun h3;simp only [Bool.and_eq_true]at h3;rw [h3.1.1];have hth:b.there:=oX (by simpa using h3.2) (hnew b hn).2;rcases hun with⟨x,k1,_,_⟩|⟨_,k2⟩
   .rw [k1];rfl
   .exact absurd hth k2
 unfold bg;rw [oV,List.map_append,hO.1,hN,List.append_assoc];refine⟨rfl,λx hx=> ?_⟩;rw [<-List.append_assoc]at hx;rcases List.mem_append.1 hx with hx|hx
 .have:=hO.2 x hx;omega
 .split at hx
  .have:=List.mem_singleton.1 hx;omega
  .simp at hx
theorem zo:∀(u:List (Nat×Blk)) (H:aC),(∀x∈u,x.1<H.length)->(Ev.apply H u).length=H.length
 | [],H,h=>rfl
 |x::u,H,h=>by
  have h1:=gA x.2 (h x (by simp));show(Ev.apply (aK H x.1 x.2) u).length=_;rw [zo u _ (λz hz=>by rw [h1];exact h z (by simp [hz])),h1]
theorem xi(hG:GOk G E D0)(hD:D0<=n){ops:Array Oper}{κ:KS->Option R}(hr0:Rel F ks0 V0 f0 h0):∀(l:List Oper) (i:Nat) (nw:List (Nat×Nat)) {ks:KS} {V:Vl} {f:Nat->D} {H:aC},i+l.length=w->tL G F ops.toList Rl O N ks0 κ i nw l ks=some r->TInv F ks0 V0 h0.length w nw i ks V f H->cH (Post F ks0 V0 κ r) (evW E (cpR E n) ops h0.length (bg h0.length (rL ks0 V0 O) N) (λi=>(Rl.getD i []).flatMap (bg h0.length (rL ks0 V0 O) N)) i l {t:=tab F.nt f,h:=H})
 | [],i,nw,ks,V,f,H,hl,hs,hi=>⟨ks,V,f,rfl,hi.rel,hs,hi.ext⟩
 |o::l,i,nw,ks,V,f,H,hl,hs,hi=>by
  unfold tL at hs;obtain⟨bb,ks1,g1,g2,g3,g4,g5,g6⟩:=zh hi.rel hs;obtain⟨g,gg1,gg2⟩:=du g2;have hl':i+1+l.length=w:=by rw [List.length_cons]at hl;omega
  cases bb with
  |false=>
   simp only [cond_false]at g1
   cases hq:Fd O N i with
   |false=>rw [hq]at g1;simp at g1
   |true=>
    rw [hq]at g1;simp only [cond_true]at g1;obtain⟨k1,k2⟩:=xc g4 g3;have hi':TInv F ks0 V0 h0.length w nw (i+1) (yQ o.dst ks1) V (upO o.dst co f) H:=⟨k1,hi.ext.trans (g5.trans k2),hi.len,λp bl hp ht=>let⟨b0,q1,q2⟩:=g6 p bl hp ht;hi.th p b0 q1 q2,λj q hj=>let⟨q1,q2,q3⟩:=hi.nw j q hj;⟨by omega,q2,Nat.lt_of_lt_of_le q3 g5.nx⟩,λj hj=>hi.free j (by omega)⟩;have ih:=xi hG hD hr0 l (i+1) nw hl' g1 hi'
    have hU:bg h0.length (rL ks0 V0 O) N i= []:=by
     unfold Fd at hq;simp only [Bool.and_eq_true,List.isEmpty_iff,Bool.not_eq_true']at hq;unfold bg;rw [oV,hq.1.1,hq.1.2,hq.2];rfl
    cases ho:o.dst with
    |none=>rw [ho]at ih;exact ED gg1 ho (iB gg2) (by rw [hU];rfl) (by rw [hU];rfl) (jt _) ih
    |some d=>
     rw [ho]at ih g3;exact yH gg1 ho (ew (by simpa [jU]using g3)) (iB gg2) (by rw [hU];rfl) (by rw [hU];rfl) (jt _) (by rw [gS];exact ih)
  |true=>
   simp only [cond_true]at g1;obtain⟨op',ks2,k1,k2,k3,k4,k5,k6⟩:=zi (E:=E) (n:=n) g4 g1;have hi2:TInv F ks0 V0 h0.length w nw i ks2 V f H:=⟨k4,hi.ext.trans (g5.trans k5),hi.len,λp bl hp ht=>let⟨b0,q1,q2⟩:=(g6.trans k6) p bl hp ht;hi.th p b0 q1 q2,λj q hj=>let⟨q1,q2,q3⟩:=hi.nw j q hj;⟨q1,q2,Nat.lt_of_lt_of_le q3 (g5.trans k5).nx⟩,hi.free⟩;have hmr:=Lf (ids:=gR Rl O N nw i) (ms:=(Rl.getD i []).flatMap (bg h0.length (rL ks0 V0 O) N)) hi2.rel λp bl hp ht hm=>hi2.mask hr0 hp ht hm;obtain⟨e,e1,e2⟩:=wW (M:=ks2.nx+2) hG hD hmr (Nat.le_refl _) (Nat.le_succ _) (by show ks2.nx<_;omega) (by show ks2.nx+1<_;omega) k1;have e1':cond (yW ks0 ks2 O N nw i (gR Rl O N nw i) e) (tL G F ops.toList Rl O N ks0 κ (i+1) (nwE e i (ks2.nx+1) nw) l (EY o.dst ks2.nx (ks2.nx+1) e ks2)) none=some r:=e1
   cases hef:yW ks0 ks2 O N nw i (gR Rl O N nw i) e with
   |false=>rw [hef]at e1';simp at e1'
   |true=>
    rw [hef]at e1';simp only [cond_true]at e1';obtain⟨bo,hrun⟩:=e2.run;obtain⟨v,u,s1,s2,s3⟩:=hrun (h0.length+i)
    have hnot:∀p b,e.upd=some (p,b)->p ∉ gR Rl O N nw i:=λp b hb hp=>by
     obtain⟨b0,q1,q2,_⟩:=e2.upd p b hb;rw [lz,if_pos hp]at q1;cases q1;exact q2 rfl
    have hupd:∀p b,e.upd=some (p,b)->∃b0,az ks2.bl p=some b0/\b0≠ .dead/\ScB ks2.nx b/\b0.like b:=λp b hb=>by
     obtain⟨b0,q1,q2⟩:=e2.upd p b hb;rw [lz,if_neg (hnot p b hb)]at q1;exact⟨b0,q1,q2⟩
    have hfr:=hef;unfold yW at hfr;simp only [Bool.and_eq_true]at hfr;obtain⟨⟨f1,f2⟩,f3⟩:=hfr;have hbe:∀p,p ∉ gR Rl O N nw i->Be F ks2 (ks2.nx+1) e p=Be F (rE (gR Rl O N nw i) ks2) (ks2.nx+1) e p:=λp hp=>(MT hp).symm;have s2':RD (Be F ks2 (ks2.nx+1) e) (V.set (ks2.nx+1) (h0.length+i) ks2.nx bo) (ns ks2.nx e.v) v:=RD.free hbe (by rw [Fs];exact f1) s2
    have s3':KH (Be F ks2 (ks2.nx+1) e) (V.set (ks2.nx+1) (h0.length+i) ks2.nx bo) V ks2 (h0.length+i) e u:=by
     obtain⟨uo,un,q1,q2,q3⟩:=s3;refine⟨uo,un,q1,?_,?_⟩
     .cases hu:e.upd with
      |none=>rw [hu]at q2;exact q2
      |some z=>
       obtain⟨p,b⟩:=z;have hp:=hnot p b hu;rw [hu]at q2 f2;simp only [Bool.and_eq_true]at f2;have hlk:az (rE (gR Rl O N nw i) ks2).bl p=az ks2.bl p:=by rw [lz,if_neg hp]
       rcases q2 with⟨x,z1,z2,z3⟩|⟨z1,z2,z3⟩
       .exact .inl ⟨x,z1,BlkIs.free hbe f2.1 z2,λb0 hb0=>z3 b0 (by rw [hlk];exact hb0)⟩
       .exact .inr ⟨z1,z2,λb0 hb0=>z3 b0 (by rw [hlk];exact hb0)⟩
     .cases hn:e.new with
      |none=>rw [hn]at q3;exact q3
      |some b=>
       rw [hn]at q3 f3;simp only [Bool.and_eq_true]at f3;rcases q3 with⟨x,z1,z2,z3⟩|⟨z1,z2⟩
       .exact .inl ⟨x,z1,BlkIs.free hbe f3.1.2 z2,z3⟩
       .exact .inr ⟨z1,z2⟩
    obtain⟨t1,t2⟩:=Lg hr0 hi2 hef hupd e2.new s3';have hnone:aJ H (h0.length+i)=none:=hi2.free i (Nat.le_refl _);have hh:=qp u H (wZ k4 hupd s3' hnone);obtain⟨w1,w2⟩:=wY (M:=ks2.nx+2) k4 (Nat.le_refl _) (Nat.le_succ _) (by omega) (by omega) g3 hupd e2.new e2.sc s2' s3' (λ_=>hnone) hh;have hult:∀x∈u,x.1<h0.length+(i+1):=λx hx=>t2 x.1 (t1▸List.mem_map_of_mem hx)
    have hi':TInv F ks0 V0 h0.length w (nwE e i (ks2.nx+1) nw) (i+1) (EY o.dst ks2.nx (ks2.nx+1) e ks2) (V.set (ks2.nx+1) (h0.length+i) ks2.nx bo) (upO o.dst v f) (Ev.apply H u):=by
     have hnwl:∀j q,az nw j=some q->az (nwE e i (ks2.nx+1) nw) j=some q:=λj q hj=>by
      unfold nwE;split
      .rw [aB,if_neg (by have:=(hi2.nw j q hj).1;omega)];exact hj
      .exact hj
     refine⟨w1,hi2.ext.trans w2,?_,?_,?_,?_⟩
     .rw [zo u H (λx hx=>by have:=hult x hx;rw [hi2.len];omega),hi2.len]
     .intro p bl hp ht
      have hold:∀b0,aE F ks2 p=some b0->b0.there->(p<ks0.nx/\∃b0,aE F ks0 p=some b0/\b0.there)∨∃j,az (nwE e i (ks2.nx+1) nw) j=some p:=λb0 z1 z2=>by
       rcases hi2.th p b0 z1 z2 with h1|⟨j,hj⟩
       .exact .inl h1
       .exact .inr ⟨j,hnwl j p hj⟩
      have hp':Be F ks2 (ks2.nx+1) e p=some bl:=hp;rcases wX (λb hb=>(e2.new b hb).2) hp' with⟨rfl,h1⟩|h1|⟨h1,h2,h3⟩
      .refine .inr ⟨i,?_⟩;unfold nwE;rw [h1];simp only [aB,if_true]
      .obtain⟨b0,z1,z2,_,_⟩:=hupd p bl h1;refine hold b0 (aA z1 z2) ?_;obtain⟨uo,un,q1,q2,q3⟩:=s3';rw [h1]at q2;rcases q2 with⟨x,_,_,z3⟩|⟨_,z3,_⟩
       .exact z3 b0 z1
       .exact absurd ht z3
      .exact hold bl h3 ht
     .intro j q hj
      have hcase:(j=i/\q=ks2.nx+1)∨az nw j=some q:=by
       unfold nwE at hj;split at hj
       .rw [aB]at hj;split at hj
        .rename_i hji;cases hj;exact .inl ⟨hji,rfl⟩
        .exact .inr hj
       .exact .inr hj
      rcases hcase with⟨rfl,rfl⟩|hj
      .exact⟨Nat.lt_succ_self _,Vl.set_id,by show _<ks2.nx+2;omega⟩
      .obtain⟨z1,z2,z3⟩:=hi2.nw j q hj;exact⟨by omega,by rw [(w2.agree q z3).1,z2],by show _<ks2.nx+2;omega⟩
     .intro j hj;rw [hh.out _ λx hx=>by have:=hult x hx;omega];exact hi2.free j (by omega)
    have ih:=xi hG hD hr0 l (i+1) _ hl' e1' hi';have hst:=(eF gg2).trans ((k2 (h0.length+i) _).trans s1)
    have hall:(bg h0.length (rL ks0 V0 O) N i).all (·<H.length)=true:=List.all_eq_true.2 λx hx=>by
     have:=t2 x hx
     have h3:=hi2.len;exact decide_eq_true (by omega)
    cases ho:o.dst with
    |none=>rw [ho]at ih;exact ED gg1 ho hst t1 hall rfl ih
    |some d=>
     rw [ho]at ih g3;exact yH gg1 ho (ew (by simpa [jU]using g3)) hst t1 hall rfl (by rw [gS];exact ih)
theorem Io(hG:GOk G E D0)(hD:D0<=n){id:Nat}{l:List Oper}{κ:Ex->KS->Option R}(hq:fB ⟨l⟩=true)(hn:mD ⟨l⟩ N=true)(hdj:djB O (gB ⟨l⟩) O=true)(hold:AQ ks O=true)(hs:tL G F l (gB ⟨l⟩) O N ks (κ .normal) 0 [] l ks=some r)(hr:Rel F ks V f h):WpC E y n (.region id ⟨l⟩ true) (λe s=>∃ks' V' f',s.t=tab F.nt f'/\Rel F ks' V' f' s.h/\κ e ks'=some r/\Ext F ks V ks' V') {t:=tab F.nt f,h:=h}:=by
 refine yI l.length rfl (rL ks V O) N (gB ⟨l⟩) hq hn rfl (GA hr hdj) (MU hr) λh' h1 h2=> ?_;refine xi (ops:=⟨l⟩) (w:=l.length) hG hD hr l 0 [] (by omega) hs ⟨hr.heap h2,Ext.refl _ _ _,h1,λp bl hp ht=> .inl ⟨(hr.bl p bl hp).1,bl,hp,ht⟩,λj q hj=>by simp [az]at hj,λj hj=> ?_⟩;rw [h2];unfold aJ;rw [List.getElem?_eq_none (by omega)]
end
end
section
variable {F : KF} {ks : KS} {V : Vl} {f : Nat → D} {h : aC} {R : Type} {r : R}
theorem nq{p:Nat}(hl:az ks.bl p=some .dead):aE F ks p=none:=by
 unfold aE bA;rw [hl]
theorem oY{bl bl':List (Nat×KB)}{p:Nat}{sl sl':List (Nat×KD)}{n n':Nat}(hl:az bl p=az bl' p):aE F ⟨sl,bl,n⟩ p=aE F ⟨sl',bl',n'⟩ p:=by
 unfold aE bA;simp only [hl]
theorem RCs.set{B:BK}{V:Vl}{c:KC}:∀{cs:List KC} {xs:List C} {j:Nat},RCs B V cs xs->(∀x,xs[j]? =some x->RC B V c x)->RCs B V (cs.set j c) xs
 | [],xs,j,h,_=>h
 |k::cs,xs,0,⟨x,s,e,h1,h2⟩,hc=>⟨x,s,e,hc x (by rw [e];rfl),h2⟩
 |k::cs,xs,j+1,⟨x,s,e,h1,h2⟩,hc=>⟨x,s,e,h1,RCs.set (j:=j) h2 λy hy=>hc y (by rw [e];exact hy)⟩
theorem RCs.get{B:BK}{V:Vl}{c:KC}:∀{cs:List KC} {xs:List C} {j:Nat} {x:C},RCs B V cs xs->cs[j]? =some c->xs[j]? =some x->RC B V c x
 | [],xs,j,x,_,h,_=>by simp at h
 |k::cs,xs,0,x,⟨y,s,e,h1,h2⟩,hc,hx=>by
  subst e;simp only [List.getElem?_cons_zero,zsI]at hc hx;subst hc hx;exact h1
 |k::cs,xs,j+1,x,⟨y,s,e,h1,h2⟩,hc,hx=>by
  subst e;exact RCs.get (j:=j) h2 (by simpa using hc) (by simpa using hx)
theorem Ft{b:BR}{κ:KS->Option R}(hr:Rel F ks V f h)(hs:uw F ks b κ=some r):∃ks' V',κ ks'=some r/\Rel F ks' V' f h/\Ext F ks V ks' V':=by
 have triv:κ ks=some r->∃ks' V',κ ks'=some r/\Rel F ks' V' f h/\Ext F ks V ks' V':=λhk=>⟨ks,V,hk,hr,Ext.refl _ _ _⟩;have hlt:∀{p b},az ks.bl p=some b->b≠ .dead->p<ks.nx:=λ{p b} hl hd=>(hr.bl p b (aA hl hd)).1
 cases b with
 |sl i j=>
  simp only [uw]at hs;split at hs
  rotate_left
  .exact triv hs
  rename_i e p hi;split at hs
  rotate_left
  .exact triv hs
  rename_i e' l hp;have hpn:=hlt hp (by simp);have hBp:aE F ks p=some (.mrows e' l):=aA hp (by simp);obtain⟨s1,s2,s3⟩:=hr.sl i _ hi
  have hc:∃c,f i= .one c/\c=moC l (V.id p):=by
   obtain⟨c,h1,h2⟩:=(show∃c',f i= .one c'/\RC (aE F ks) V (.m e p) c' from s3);exact⟨c,h1,h2 e' l hBp⟩
  obtain⟨c,hc1,hc2⟩:=hc;by_cases hl0:l.length=0
  .rw [if_pos hl0]at hs;obtain rfl:l= []:=List.eq_nil_of_length_eq_zero hl0
   have hB:∀x,aE F {ks with sl:=(i,.one .nil)::ks.sl,bl:=(p,.dead)::ks.bl} x=if x=p then none else aE F ks x:=λx=>by
    by_cases hx:x=p
    .rw [if_pos hx];exact nq (by rw [hx,aB,if_pos rfl])
    .rw [if_neg hx];exact oY (by rw [aB,if_neg hx])
   have hle:LeB ks.nx (aE F ks) (aE F {ks with sl:=(i,.one .nil)::ks.sl,bl:=(p,.dead)::ks.bl}):=λx hx=>by
    constructor
    .intro e0 ne l' hb;rw [hB]at hb;split at hb
     .cases hb
     .exact⟨e0,ne,l',hb,rfl⟩
    .intro e0 l' hb;rw [hB]at hb;split at hb
     .cases hb
     .exact⟨e0,l',hb,rfl⟩
   refine⟨_,V,hs,⟨λx d hx=> ?_,λx b hb=> ?_,λx y b b' hb hb' t t' e0=> ?_⟩,⟨Nat.le_refl _,Agree.refl _ _,hle,λx hx hn=> ?_⟩⟩
   .by_cases hxi:x=i
    .subst hxi
     have hx':d= .one .nil:=by
      have:ig F {ks with sl:=(x,.one .nil)::ks.sl,bl:=(p,.dead)::ks.bl} x=some (.one .nil):=by unfold ig bA;rw [aB,if_pos rfl]
      rw [this]at hx;exact(Option.some.inj hx).symm
     subst hx';exact⟨s1,trivial,c,hc1,hc2⟩
    .have hx':ig F ks x=some d:=by
      rw [<-hx];unfold ig bA;rw [aB,if_neg hxi]
     obtain⟨g1,g2,g3⟩:=hr.sl x d hx';exact⟨g1,g2,g3.mono g2 hle (Agree.refl _ _)⟩
   .rw [hB]at hb;split at hb
    .cases hb
    .obtain⟨g1,g2,g3⟩:=hr.bl x b hb;exact⟨g1,g2,g3.mono g2 hle (Agree.refl _ _)⟩
   .rw [hB]at hb hb';split at hb
    .cases hb
    .split at hb'
     .cases hb'
     .exact hr.inj x y b b' hb hb' t t' e0
   .have hxp:x≠p:=by rintro rfl;rw [hp]at hn;cases hn
    rw [aB,if_neg hxp];exact hn
  .rw [if_neg hl0]at hs;have hne:l≠[]:=λh=>hl0 (by rw [h];rfl);have hpx:ks.nx≠p:=by omega
   have hB:∀x,aE F {ks with sl:=(i,.one (.o e ks.nx))::ks.sl,bl:=(ks.nx,.rows e' true l)::(p,.dead)::ks.bl,nx:=ks.nx+1} x=if x=ks.nx then some (.rows e' true l)else if x=p then none else aE F ks x:=λx=>by
    by_cases hx:x=ks.nx
    .rw [if_pos hx];exact aA (by rw [hx,aB,if_pos rfl]) (by simp)
    .rw [if_neg hx];by_cases hx2:x=p
     .rw [if_pos hx2];exact nq (by rw [hx2,aB,if_neg (Ne.symm hpx),aB,if_pos rfl])
     .rw [if_neg hx2];exact oY (by rw [aB,if_neg hx,aB,if_neg hx2])
   have hle:LeB ks.nx (aE F ks) (aE F {ks with sl:=(i,.one (.o e ks.nx))::ks.sl,bl:=(ks.nx,.rows e' true l)::(p,.dead)::ks.bl,nx:=ks.nx+1}):=λx hx=>by
    constructor
    .intro e0 ne l' hb;rw [hB,if_neg (by omega)]at hb;split at hb
     .cases hb
     .exact⟨e0,ne,l',hb,rfl⟩
    .intro e0 l' hb;rw [hB,if_neg (by omega)]at hb;split at hb
     .cases hb
     .exact⟨e0,l',hb,rfl⟩
   have hag:Agree ks.nx V {V with id:=λx=>if x=ks.nx then V.id p else V.id x}:=λq hq=>⟨if_neg (by omega),rfl⟩;have hid:∀x,x<ks.nx->(if x=ks.nx then V.id p else V.id x)=V.id x:=λx hx=>if_neg (by omega);have hBk:aJ h (V.id p)=some (e'.size,l.map (aL e'.row)):=(hr.bl p _ hBp).2.2 hne;refine⟨_,{V with id:=λx=>if x=ks.nx then V.id p else V.id x},hs,⟨λx d hx=> ?_,λx b hb=> ?_,λx y b b' hb hb' t t' e0=> ?_⟩,⟨Nat.le_succ _,hag,hle,λx hx hn=> ?_⟩⟩
   .by_cases hxi:x=i
    .subst hxi
     have hx':d= .one (.o e ks.nx):=by
      have:ig F {ks with sl:=(x,.one (.o e ks.nx))::ks.sl,bl:=(ks.nx,.rows e' true l)::(p,.dead)::ks.bl,nx:=ks.nx+1} x=some (.one (.o e ks.nx)):=by unfold ig bA;rw [aB,if_pos rfl]
      rw [this]at hx;exact(Option.some.inj hx).symm
     subst hx';refine⟨s1,Nat.lt_succ_self _,c,hc1,λe0 ne l0 hb=> ?_⟩;rw [hB,if_pos rfl]at hb;cases hb;rw [hc2];show moC l (V.id p)= .own (if ks.nx=ks.nx then V.id p else V.id ks.nx) 0 l.length;rw [if_pos rfl]
     cases l with
     |nil=>exact absurd rfl hne
     |cons a t=>rfl
    .have hx':ig F ks x=some d:=by
      rw [<-hx];unfold ig bA;rw [aB,if_neg hxi]
     obtain⟨g1,g2,g3⟩:=hr.sl x d hx';exact⟨g1,g2.mono (Nat.le_succ _),g3.mono g2 hle hag⟩
   .rw [hB]at hb;split at hb
    .rename_i hx;cases hb;refine⟨by subst hx;exact Nat.lt_succ_self _,trivial,?_,λ_=>hne⟩;show aJ h (if x=ks.nx then V.id p else V.id x)=_;rw [if_pos hx];exact hBk
    .split at hb
     .cases hb
     .obtain⟨g1,g2,g3⟩:=hr.bl x b hb;refine⟨Nat.lt_succ_of_lt g1,g2.mono (Nat.le_succ _),?_⟩
      have:=g3.mono g2 hle hag
      show RB _ _ h (if x=ks.nx then V.id p else V.id x) b;rw [hid x g1];exact this
   .have old:∀{x b},(if x=ks.nx then some (.rows e' true l)else if x=p then none else aE F ks x)=some b->x≠ks.nx->x≠p/\aE F ks x=some b:=λ{x b} hb hx=>by
     rw [if_neg hx]at hb;split at hb
     .cases hb
     .rename_i hp';exact⟨hp',hb⟩
    rw [hB]at hb hb';change (if x=ks.nx then V.id p else V.id x)=(if y=ks.nx then V.id p else V.id y)at e0;by_cases hx:x=ks.nx
    .by_cases hy:y=ks.nx
     .rw [hx,hy]
     .obtain⟨y1,y2⟩:=old hb' hy;rw [if_pos hx,if_neg hy]at e0;exact absurd (hr.inj p y _ _ hBp y2 hne t' e0).symm y1
    .obtain⟨x1,x2⟩:=old hb hx;by_cases hy:y=ks.nx
     .rw [if_neg hx,if_pos hy]at e0;exact absurd (hr.inj x p _ _ x2 hBp t hne e0) x1
     .obtain⟨y1,y2⟩:=old hb' hy;rw [if_neg hx,if_neg hy]at e0;exact hr.inj x y _ _ x2 y2 t t' e0
   .have hxp:x≠p:=by rintro rfl;rw [hp]at hn;cases hn
    have hxn:ks.nx≠x:=by omega
    rw [aB,if_neg (Ne.symm hxn),aB,if_neg hxp];exact hn
 |bx i j=>
  simp only [uw]at hs;split at hs
  rotate_left
  .exact triv hs
  rename_i q hi;split at hs
  rotate_left
  .exact triv hs
  rename_i cs hq;split at hs
  rotate_left
  .exact triv hs
  rename_i e p hj;split at hs
  rotate_left
  .exact triv hs
  rename_i e' l hp;have hpn:=hlt hp (by simp);have hqn:=hlt hq (by simp);have hBp:aE F ks p=some (.mrows e' l):=aA hp (by simp);have hBq:aE F ks q=some (.box cs):=aA hq (by simp);have hqp:q≠p:=by rintro rfl;rw [hq]at hp;cases hp
  obtain⟨q1,q2,sz,xs,q3,q4⟩:=hr.bl q _ hBq;by_cases hl0:l.length=0
  .rw [if_pos hl0]at hs;obtain rfl:l= []:=List.eq_nil_of_length_eq_zero hl0
   have hB:∀x,aE F {ks with bl:=(q,.box (cs.set j .nil))::(p,.dead)::ks.bl} x=if x=q then some (.box (cs.set j .nil))else if x=p then none else aE F ks x:=λx=>by
    by_cases hx:x=q
    .rw [if_pos hx];exact aA (by rw [hx,aB,if_pos rfl]) (by simp)
    .rw [if_neg hx];by_cases hx2:x=p
     .rw [if_pos hx2];exact nq (by rw [hx2,aB,if_neg (Ne.symm hqp),aB,if_pos rfl])
     .rw [if_neg hx2];exact oY (by rw [aB,if_neg hx,aB,if_neg hx2])
   have hle:LeB ks.nx (aE F ks) (aE F {ks with bl:=(q,.box (cs.set j .nil))::(p,.dead)::ks.bl}):=λx hx=>by
    constructor
    .intro e0 ne l' hb;rw [hB]at hb;split at hb
     .cases hb
     .split at hb
      .cases hb
      .exact⟨e0,ne,l',hb,rfl⟩
    .intro e0 l' hb;rw [hB]at hb;split at hb
     .cases hb
     .split at hb
      .cases hb
      .exact⟨e0,l',hb,rfl⟩
   refine⟨_,V,hs,⟨λx d hx=> ?_,λx b hb=> ?_,λx y b b' hb hb' t t' e0=> ?_⟩,⟨Nat.le_refl _,Agree.refl _ _,hle,λx hx hn=> ?_⟩⟩
   .obtain⟨g1,g2,g3⟩:=hr.sl x d hx;exact⟨g1,g2,g3.mono g2 hle (Agree.refl _ _)⟩
   .rw [hB]at hb;split at hb
    .rename_i hx;cases hb;subst hx;refine⟨q1,λc hc=> ?_,sz,xs,q3,RCs.set (q4.mono q2 hle (Agree.refl _ _)) λx hx=> ?_⟩
     .rcases List.mem_or_eq_of_mem_set hc with hc|rfl
      .exact q2 c hc
      .trivial
     .exact RCs.get q4 hj hx e' [] hBp
    .split at hb
     .cases hb
     .obtain⟨g1,g2,g3⟩:=hr.bl x b hb;exact⟨g1,g2,g3.mono g2 hle (Agree.refl _ _)⟩
   .have old:∀{x b},(if x=q then some (.box (cs.set j .nil))else if x=p then none else aE F ks x)=some b->∃b0,aE F ks x=some b0/\(b.there->b0.there):=λ{x b} hb=>by
     split at hb
     .rename_i hx;subst hx;exact⟨_,hBq,λ_=>trivial⟩
     .split at hb
      .cases hb
      .exact⟨b,hb,id⟩
    rw [hB]at hb hb';obtain⟨b0,g1,g2⟩:=old hb;obtain⟨b1,g3,g4⟩:=old hb';exact hr.inj x y b0 b1 g1 g3 (g2 t) (g4 t') e0
   .have hxp:x≠p:=by rintro rfl;rw [hp]at hn;cases hn
    have hxq:x≠q:=by rintro rfl;rw [hq]at hn;cases hn
    rw [aB,if_neg hxq,aB,if_neg hxp];exact hn
  .rw [if_neg hl0]at hs;have hne:l≠[]:=λh=>hl0 (by rw [h];rfl);have hpx:ks.nx≠p:=by omega
   have hqx:ks.nx≠q:=by omega
   have hB:∀x,aE F {ks with bl:=(q,.box (cs.set j (.o e ks.nx)))::(ks.nx,.rows e' true l)::(p,.dead)::ks.bl,nx:=ks.nx+1} x=if x=q then some (.box (cs.set j (.o e ks.nx)))else if x=ks.nx then some (.rows e' true l)else if x=p then none else aE F ks x:=λx=>by
    by_cases hx0:x=q
    .rw [if_pos hx0];exact aA (by rw [hx0,aB,if_pos rfl]) (by simp)
    rw [if_neg hx0];by_cases hx:x=ks.nx
    .rw [if_pos hx];exact aA (by rw [hx,aB,if_neg hqx,aB,if_pos rfl]) (by simp)
    .rw [if_neg hx];by_cases hx2:x=p
     .rw [if_pos hx2];exact nq (by rw [hx2,aB,if_neg (Ne.symm hqp),aB,if_neg (Ne.symm hpx),aB,if_pos rfl])
     .rw [if_neg hx2];exact oY (by rw [aB,if_neg hx0,aB,if_neg hx,aB,if_neg hx2])
   have hle:LeB ks.nx (aE F ks) (aE F {ks with bl:=(q,.box (cs.set j (.o e ks.nx)))::(ks.nx,.rows e' true l)::(p,.dead)::ks.bl,nx:=ks.nx+1}):=λx hx=>by
    constructor
    .intro e0 ne l' hb;rw [hB]at hb;split at hb
     .cases hb
     .rw [if_neg (by omega)]at hb;split at hb
      .cases hb
      .exact⟨e0,ne,l',hb,rfl⟩
    .intro e0 l' hb;rw [hB]at hb;split at hb
     .cases hb
     .rw [if_neg (by omega)]at hb;split at hb
      .cases hb
      .exact⟨e0,l',hb,rfl⟩
   have hag:Agree ks.nx V {V with id:=λx=>if x=ks.nx then V.id p else V.id x}:=λq hq=>⟨if_neg (by omega),rfl⟩;have hid:∀x,x<ks.nx->(if x=ks.nx then V.id p else V.id x)=V.id x:=λx hx=>if_neg (by omega);have hBk:aJ h (V.id p)=some (e'.size,l.map (aL e'.row)):=(hr.bl p _ hBp).2.2 hne;refine⟨_,{V with id:=λx=>if x=ks.nx then V.id p else V.id x},hs,⟨λx d hx=> ?_,λx b hb=> ?_,λx y b b' hb hb' t t' e0=> ?_⟩,⟨Nat.le_succ _,hag,hle,λx hx hn=> ?_⟩⟩
   .obtain⟨g1,g2,g3⟩:=hr.sl x d hx;exact⟨g1,g2.mono (Nat.le_succ _),g3.mono g2 hle hag⟩
   .rw [hB]at hb;split at hb
    .rename_i hx;cases hb;subst hx;refine⟨Nat.lt_succ_of_lt q1,λc hc=> ?_,sz,xs,?_,RCs.set (q4.mono q2 hle hag) λx hx=> ?_⟩
     .rcases List.mem_or_eq_of_mem_set hc with hc|rfl
      .exact(q2 c hc).mono (Nat.le_succ _)
      .exact Nat.lt_succ_self _
     .show aJ h (if x=ks.nx then V.id p else V.id x)=_;rw [hid x q1];exact q3
     .have h0:=RCs.get q4 hj hx e' l hBp;intro e0 ne l0 hb;rw [hB,if_neg hqx,if_pos rfl]at hb;cases hb;rw [h0];show moC l (V.id p)= .own (if ks.nx=ks.nx then V.id p else V.id ks.nx) 0 l.length;rw [if_pos rfl]
      cases l with
      |nil=>exact absurd rfl hne
      |cons a t=>rfl
    .split at hb
     .rename_i hx;cases hb;refine⟨by subst hx;exact Nat.lt_succ_self _,trivial,?_,λ_=>hne⟩;show aJ h (if x=ks.nx then V.id p else V.id x)=_;rw [if_pos hx];exact hBk
     .split at hb
      .cases hb
      .obtain⟨g1,g2,g3⟩:=hr.bl x b hb;refine⟨Nat.lt_succ_of_lt g1,g2.mono (Nat.le_succ _),?_⟩
       have:=g3.mono g2 hle hag
       show RB _ _ h (if x=ks.nx then V.id p else V.id x) b;rw [hid x g1];exact this
   .have old:∀{x b},(if x=q then some (.box (cs.set j (.o e ks.nx)))else if x=ks.nx then some (.rows e' true l)else if x=p then none else aE F ks x)=some b->x≠ks.nx->x≠p/\∃b0,aE F ks x=some b0/\(b.there->b0.there):=λ{x b} hb hx=>by
     by_cases hx0:x=q
     .subst hx0;exact⟨hqp,_,hBq,λ_=>trivial⟩
     .rw [if_neg hx0,if_neg hx]at hb;split at hb
      .cases hb
      .rename_i hp';exact⟨hp',b,hb,id⟩
    rw [hB]at hb hb';change (if x=ks.nx then V.id p else V.id x)=(if y=ks.nx then V.id p else V.id y)at e0;by_cases hx:x=ks.nx
    .by_cases hy:y=ks.nx
     .rw [hx,hy]
     .obtain⟨y1,b1,y2,y3⟩:=old hb' hy;rw [if_pos hx,if_neg hy]at e0;exact absurd (hr.inj p y _ _ hBp y2 hne (y3 t') e0).symm y1
    .obtain⟨x1,b0,x2,x3⟩:=old hb hx;by_cases hy:y=ks.nx
     .rw [if_neg hx,if_pos hy]at e0;exact absurd (hr.inj x p _ _ x2 hBp (x3 t) hne e0) x1
     .obtain⟨y1,b1,y2,y3⟩:=old hb' hy;rw [if_neg hx,if_neg hy]at e0;exact hr.inj x y _ _ x2 y2 (x3 t) (y3 t') e0
   .have hxp:x≠p:=by rintro rfl;rw [hp]at hn;cases hn
    have hxq:x≠q:=by rintro rfl;rw [hq]at hn;cases hn
    have hxn:ks.nx≠x:=by omega
    rw [aB,if_neg hxq,aB,if_neg (Ne.symm hxn),aB,if_neg hxp];exact hn
theorem zp{κ:KS->Option R}:∀(bs:List BR) {ks:KS} {V:Vl},Rel F ks V f h->wL F κ bs ks=some r->∃ks' V',κ ks'=some r/\Rel F ks' V' f h/\Ext F ks V ks' V'
 | [],ks,V,hr,hs=>⟨ks,V,hs,hr,Ext.refl _ _ _⟩
 |b::bs,ks,V,hr,hs=>by
  obtain⟨ks1,V1,h1,h2,h3⟩:=Ft (κ:=λks=>wL F κ bs ks) hr hs;obtain⟨ks2,V2,g1,g2,g3⟩:=zp bs h2 h1;exact⟨ks2,V2,g1,g2,h3.trans g3⟩
end
end K
end Ev
end
noncomputable section
namespace Ev
namespace K
open Go Go.RowKit
section
variable {E : Env} {y : Nat → fu} {n : Nat} {G : KG} {D0 : Nat}
section loop
variable {F : KF} {ks : KS} {V : Vl} {f : Nat → D} {h : aC} {a : Da} {cs : List KC} {x0 : dR a.head.sh} {ks2 : KS} {V1 V2 : Vl} {f2 : Nat → D} {x1 : dR a.head.sh}
theorem qA{F:KF}{ks:KS}:∀{bs:List (Nat×List Sh)} {p:Nat},p∈oo F ks bs->∃v∈bs,eQ F ks v.1=some p
 | [],p,h=>by simp [oo]at h
 |v::r,p,h=>by
  unfold oo at h;split at h
  .rename_i q hq;rcases List.mem_cons.1 h with rfl|h
   .exact⟨v,by simp,hq⟩
   .obtain⟨w,h1,h2⟩:=qA h;exact⟨w,by simp [h1],h2⟩
  .obtain⟨w,h1,h2⟩:=qA h;exact⟨w,by simp [h1],h2⟩
theorem xj(hr:Rel F ks V f h)(hok:iG F ks=true)(hcs:fX F ks a.head=some cs)(hrd:RdCs ks a.head.sh cs x0)(ha1:Agree ks.nx V V1)(hl1:LeB ks.nx (aE F ks) (aE (aO F ks a cs) (ce F ks a.head x1))){s:St}(hst:s.t=tab F.nt f2)(hr2:Rel (aO F ks a cs) ks2 V2 f2 s.h)(hok2:iG (aO F ks a cs) ks2=true)(hext:Ext (aO F ks a cs) (ce F ks a.head x1) V1 ks2 V2){e:Ex}:∀{l:List (Ex×Pt)} {R:Type} {r:R} {κ:XT l->Option R},(∀x∈l,pf F ks (aO F ks a cs) x.2=true)->rC (aO F ks a cs) ks2 e l κ=some r->∃v,κ v=some r/\JX F ks V a.keep (dS F ks a cs) l v e s
 | [],R,r,κ,hb,hs=>by simp [rC]at hs
 |x::l,R,r,κ,hb,hs=>by
  unfold rC at hs
  cases hx:rB e x.1 with
  |false=>
   rw [hx]at hs;obtain⟨v,h1,h2⟩:=xj hr hok hcs hrd ha1 hl1 hst hr2 hok2 hext (λz hz=>hb z (by simp [hz])) hs;exact⟨.inr v,h1,h2⟩
  |true=>
   rw [hx]at hs;obtain⟨cs2,v,g1,g2,g3,g4⟩:=np hr2 hs;have hbs:=hb x (by simp)
   have hkb:∀p,bA (wJ F ks a.keep (dS F ks a cs) x.2 v).bl F.bl p=az ((ce F ks x.2 v).bl++((dS F ks a cs).map (λp=>(p,KB.dead))++(ks.bl++F.bl))) p:=λp=>by
    rw [<-bE];show az ((ce F ks x.2 v).bl++((dS F ks a cs).map (λp=>(p,KB.dead))++ks.bl)++F.bl) p=_;rw [List.append_assoc,List.append_assoc]
   obtain⟨V3,hr3,ha3,hl3⟩:=Gz (Fb:=F) (kb:=wJ F ks a.keep (dS F ks a cs) x.2 v) hr hok hcs hr2 hok2 hext hbs g1 g2 g3 rfl rfl (λi d hd=>by
    have hd':bA (jw x.2.vs ((aZ x.2.sh v ks.nx).map (·.1))++pB F ks a.keep) F.sl i=some d:=hd;rw [<-bE,List.append_assoc,bE]at hd';unfold bA at hd'
    cases hl:az (jw x.2.vs ((aZ x.2.sh v ks.nx).map (·.1))) i with
    |some d'=>rw [hl]at hd';cases hd';exact .inl rfl
    |none=>rw [hl]at hd';exact .inr hd') hkb
   have hnx1:ks.nx<=(ce F ks a.head x1).nx:=by show ks.nx<=ks.nx+_;omega
   refine⟨.inl v,g4,Gy hx,V3,f2,hst,hr3,⟨by show ks.nx<=ks.nx+_;omega,?_,?_,?_⟩⟩
   .exact(ha1.trans hext.agree hnx1).trans ha3 (Nat.le_refl _)
   .exact(hl1.trans hext.le hnx1).trans hl3 (Nat.le_refl _)
   .intro p hp hl;have h2:=Pq hcs hrd hext hp hl;show az ((ce F ks x.2 v).bl++((dS F ks a cs).map (λp=>(p,KB.dead))++ks.bl)) p=none;obtain⟨ca,cb,cw,_,hcb2,_,_⟩:=gG g1
    have e1:az (ce F ks x.2 v).bl p=none:=by
     refine ou (λw hw he=> ?_) (λw hw he=> ?_) hp
     .obtain⟨q,c,j1,j2⟩:=ly hcb2 w hw;rw [zl hok hok2 hbs w hw,he]at j1;cases j1;rw [h2]at j2;simp at j2
     .obtain⟨q,j1,j2⟩:=zn hr hok2 hcs hext hbs w hw;rw [he]at j2;cases j2;obtain⟨q,k1,k2⟩:=qx g1 hw;rw [j1]at k1;cases k1;obtain⟨b,k3,_⟩:=rK g3 k2;rw [h2]at k3;simp at k3
    rw [bE];unfold bA;rw [e1];simp only [bE];unfold bA;rcases sU (l:=dS F ks a cs) (p:=p)with⟨h1,h2⟩|⟨h1,h2⟩
    .rw [h1];exact hl
    .exfalso;rcases List.mem_append.1 h2 with h2|h2
     .obtain⟨b',k1,_⟩:=rK hrd h2;rw [hl]at k1;simp at k1
     .obtain⟨w,hw,hpw⟩:=qA h2;obtain⟨ca,cb,cw,_,hcb,_,_⟩:=gG hcs;obtain⟨p'',c'',j1,j2⟩:=ly hcb w hw;rw [hpw]at j1;cases j1;rw [hl]at j2;simp at j2
end loop
theorem Dw(hG:GOk G E D0)(hD:D0<=n){A:MI}{call:yT}(hcall:Fl E n call):∀(c:Code) (R:Type) (F:KF) (ks:KS) (κ:Ex->KS->Option R) (r:R) (V:Vl) (f:Nat->D) (h:aC),gT G A call c R F ks κ=some r->Rel F ks V f h->WpC E y n c (PostC F ks V κ r) {t:=tab F.nt f,h:=h}:=by
 intro c
 induction c with
 |skip=>intro R F ks κ r V f h hs hr;exact CD ⟨ks,V,f,rfl,hr,hs,Ext.refl _ _ _⟩
 |region id ops draw=>
  intro R F ks κ r V f h hs hr;obtain⟨l⟩:=ops
  cases draw with
  |false=>
   have hs':yd G call F (Array.toList ⟨l⟩) (κ .normal) l ks=some r:=hs;exact CK (rJ (ops:=⟨l⟩) hG hD hcall l hs' hr)
  |true=>
   have hs':cond (fB ⟨l⟩) (match az A.tn id with
    |none=>ol G F l (κ .normal) l ks
    |some T=>wL F (λks=>match EZ F ks T.old with
     |some O=>cond (mD ⟨l⟩ T.new && djB O (gB ⟨l⟩) O && AQ ks O) (tL G F l (gB ⟨l⟩) O T.new ks (κ .normal) 0 [] l ks) none
     |none=>none) T.old.flatten ks) (match nF ⟨l⟩with
    |some m=>cond (nb ⟨l⟩) (ol G F l (yd G call F l (κ .normal) (l.drop m)) (l.take m) ks) none
    |none=>none)=some r:=hs
   cases hq:fB ⟨l⟩with
   |true=>
    rw [hq]at hs';simp only [cond_true]at hs';split at hs'
    .exact wo l.length rfl hq λh' h1 h2=>oU (ops:=⟨l⟩) (κ:=κ .normal) hG hD l 0 hs' (hr.heap h2)
    .rename_i T hT;obtain⟨ks1,V1,hs1,hr1,hx1⟩:=zp _ hr hs';clear hs';rename_i hs0;split at hs1
     .rename_i O hO
      cases hc:(mD ⟨l⟩ T.new && djB O (gB ⟨l⟩) O && AQ ks1 O)with
      |false=>rw [hc]at hs1;simp at hs1
      |true=>
       rw [hc]at hs1;simp only [Bool.and_eq_true]at hc;exact(Io hG hD hq hc.1.1 hc.1.2 hc.2 hs1 hr1).mono λe s ⟨ks',V',f',a1,a2,a3,a4⟩=>⟨ks',V',f',a1,a2,a3,hx1.trans a4⟩
     .simp at hs1
   |false=>
    rw [hq]at hs';simp only [cond_false]at hs';split at hs'
    .rename_i m hc
     cases hp:nb ⟨l⟩with
     |false=>rw [hp]at hs';simp at hs'
     |true=>
      rw [hp]at hs';have hr':Rel F ks V f (h++List.replicate (Array.mk l).size .no):=hr.heap λk=>qd _ _ _;refine Lb m hc hp (Ds (oU (ops:=⟨l⟩) (b:=h.length) (κ:=yd G call F l (κ .normal) (l.drop m)) hG hD (l.take m) 0 hs' hr') λt ht=> ?_);obtain⟨ks',V',f',h1,h2,h3,h4⟩:=ht;simp only at h1 h2;subst h1;exact oT (rJ (ops:=⟨l⟩) hG hD hcall (l.drop m) h3 h2) λs hs=>Post.ext h4 hs
    .simp at hs'
 |seq a b iha ihb=>
  intro R F ks κ r V f h hs hr
  have hs':(match A.lp.find? λz=>z.join &&(some z.key==gF a && Nat.beq z.sz (rD a))with
   |none=>gT G A call a R F ks λe ks=>match e with
    | .normal=>gT G A call b R F ks κ
    |e=>κ e ks
   |some z=>match fX F ks z.head,iG F ks with
    |some cs,true=>cond (pf F ks (aO F ks z cs) z.head && z.exs.all λx=>pf F ks (aO F ks z cs) x.2) (rA F ks z.head λx0=>
     (gT G A call a (XT z.exs) (aO F ks z cs) (ce F ks z.head x0) λe ks2=>cond (iG (aO F ks z cs) ks2) (rC (aO F ks z cs) ks2 e z.exs some) none).bind λy=>afterX F ks z.keep (dS F ks z cs) z.exs y λe ks=>match e with
      | .normal=>gT G A call b R F ks κ
      |e=>κ e ks) none
    |_,_=>none)=some r:=hs
  have key:∀e s,PostC F ks V (λe ks=>match e with
    | .normal=>gT G A call b R F ks κ
    |e=>κ e ks) r e s->nZ (WpC E y n b (PostC F ks V κ r)) (PostC F ks V κ r) e s:=by
   intro e s hp;obtain⟨ks',V',f',h1,h2,h3,h4⟩:=hp;obtain⟨t,hh⟩:=s;simp only at h1 h2;subst h1
   cases e with
   |normal=>exact(ihb R F ks' κ r V' f' hh h3 h2).mono λe s hp=>hp.ext h4
   |ret=>exact⟨ks',V',f',rfl,h2,h3,h4⟩
   |exit id=>exact⟨ks',V',f',rfl,h2,h3,h4⟩
  split at hs'
  .exact Ay ((iha R F ks _ r V f h hs' hr).mono key)
  .rename_i z hz;split at hs'
   .rename_i cs hcs hok
    cases hbs:(pf F ks (aO F ks z cs) z.head && z.exs.all λx=>pf F ks (aO F ks z cs) x.2)with
    |false=>rw [hbs]at hs';simp at hs'
    |true=>
     rw [hbs]at hs';rw [Bool.and_eq_true]at hbs;obtain⟨hbs0,hbsx⟩:=hbs;obtain⟨cs',x0,g1,g2,g3,g4⟩:=np hr hs';rw [hcs]at g1;cases g1;rw [zbE]at g4;obtain⟨out,g4,g5⟩:=g4;obtain⟨V1,hr1,ha1,hl1⟩:=uq hr hok hcs g2 g3;refine Ay ((iha _ (aO F ks z cs) (ce F ks z.head x0) _ out V1 f h g4 hr1).mono λe s hp=>key e s ?_);obtain⟨ks2,V2,f2,t1,r2,k1,ext⟩:=hp;dsimp only at k1
     cases hok2:iG (aO F ks z cs) ks2 with
     |false=>rw [hok2]at k1;simp at k1
     |true=>
      rw [hok2]at k1;obtain⟨v,j1,j2⟩:=xj hr hok hcs g3 ha1 hl1 t1 r2 hok2 ext (λw hw=>List.all_eq_true.1 hbsx w hw) k1;cases j1;exact sV g5 j2
   .simp at hs'
 |cond c a b iha ihb=>
  intro R F ks κ r V f h hs hr
  have hs':(match kO F ks c with
   |some (.one c)=>kIf c ks λt ks=>cond t (gT G A call a R F ks κ) (gT G A call b R F ks κ)
   |_=>none)=some r:=hs
  split at hs'
  .rename_i c0 hc;obtain⟨d,d1,d2,c',rfl,d3⟩:=bX hr hc;obtain⟨t,ks',g1,rfl,g3,g4⟩:=Po hr d3 hs';have e1:opnd (tab F.nt f) c=some (.one (bC t)):=(bV F.nt f c).trans d1;refine wk e1 rfl ?_
   cases t with
   |true=>exact(iha R F ks' κ r V f h g1 g3).mono λe s hp=>hp.ext g4
   |false=>exact(ihb R F ks' κ r V f h g1 g3).mono λe s hp=>hp.ext g4
  .simp at hs'
 |block id b ih=>
  intro R F ks κ r V f h hs hr;have hs':gT G A call b R F ks (λe ks=>κ (cond (rB e (.exit id)) .normal e) ks)=some r:=hs;refine yA ((ih R F ks _ r V f h hs' hr).mono λe s hp=> ?_);obtain⟨ks',V',f',h1,h2,h3,h4⟩:=hp;refine⟨ks',V',f',h1,h2,?_,h4⟩;rw [<-h3]
  have:(if e= .exit id then Ex.normal else e)=cond (rB e (.exit id)) .normal e:=by
   cases hx:rB e (.exit id)with
   |true=>rw [if_pos (Gy hx)];rfl
   |false=>rw [if_neg (λhe=>by subst he;simp [rB]at hx)];rfl
  rw [this]
 |loop b ih=>
  intro R F ks κ r V f h hs hr
  have hs':(match A.lp.find? λa=> !a.join && some a.key==gF b with
   |none=>none
   |some a=>match fX F ks a.head,iG F ks with
    |some cs,true=>cond (pf F ks (aO F ks a cs) a.head && a.exs.all λx=>pf F ks (aO F ks a cs) x.2 && !rB x.1 .normal) (rA F ks a.head λx0=>
     (bF (λx=>gT G A call b (dR a.head.sh ⊕ XT a.exs) (aO F ks a cs) (ce F ks a.head x) λe ks2=>cond (iG (aO F ks a cs) ks2) (match e with
      | .normal=>rA (aO F ks a cs) ks2 a.head λy=>some (.inl y)
      |e=>rC (aO F ks a cs) ks2 e a.exs λy=>some (.inr y)) none) x0).bind λy=>afterX F ks a.keep (dS F ks a cs) a.exs y κ) none
    |_,_=>none)=some r:=hs
  split at hs'
  .simp at hs'
  .rename_i a ha;split at hs'
   .rename_i cs hcs hok
    cases hbs:(pf F ks (aO F ks a cs) a.head && a.exs.all λx=>pf F ks (aO F ks a cs) x.2 && !rB x.1 .normal)with
    |false=>rw [hbs]at hs';simp at hs'
    |true=>
     rw [hbs]at hs';rw [Bool.and_eq_true]at hbs;obtain⟨hbs0,hbsx⟩:=hbs;obtain⟨cs',x0,g1,g2,g3,g4⟩:=np hr hs';rw [hcs]at g1;cases g1;rw [zbE]at g4;obtain⟨out,g4,g5⟩:=g4;obtain⟨V1,hr1,ha1,hl1⟩:=uq hr hok hcs g2 g3;refine WpC.mono (yM _ (λx s=>∃V1 f1,s.t=tab F.nt f1/\Rel (aO F ks a cs) (ce F ks a.head x) V1 f1 s.h/\Agree ks.nx V V1/\LeB ks.nx (aE F ks) (aE (aO F ks a cs) (ce F ks a.head x))) (λo e s=>JX F ks V a.keep (dS F ks a cs) a.exs o e s) (λr s=>kq (λz hz=>by have:=List.all_eq_true.1 hbsx z hz;rw [Bool.and_eq_true]at this;simpa using this.2) r s) ?_ x0 out _ g4 ⟨V1,f,rfl,hr1,ha1,hl1⟩) λe s hj=>sV g5 hj;intro x o s hb hI;obtain⟨W1,f1,e1,r1,a1,l1⟩:=hI;obtain⟨t,hh⟩:=s;simp only at e1 r1;subst e1;refine(ih _ (aO F ks a cs) (ce F ks a.head x) _ o W1 f1 hh hb r1).mono λe s hp=> ?_;obtain⟨ks2,V2,f2,t1,r2,k1,ext⟩:=hp;dsimp only at k1
     cases hok2:iG (aO F ks a cs) ks2 with
     |false=>rw [hok2]at k1;simp at k1
     |true=>
      rw [hok2]at k1;simp only [cond_true]at k1
      have hx:e≠ .normal->rC (aO F ks a cs) ks2 e a.exs (λy=>some (.inr y))=some o->∃v,o= .inr v/\JX F ks V a.keep (dS F ks a cs) a.exs v e s:=by
       intro hne hk;obtain⟨v,j1,j2⟩:=xj hr hok hcs g3 a1 l1 t1 r2 hok2 ext (λz hz=>by have:=List.all_eq_true.1 hbsx z hz;rw [Bool.and_eq_true]at this;exact this.1) hk;exact⟨v,(Option.some.inj j1).symm,j2⟩
      cases e with
      |normal=>
       obtain⟨cs2,v,w1,w2,w3,w4⟩:=np r2 k1;cases w4
       obtain⟨V3,hr3,ha3,hl3⟩:=Gz (Fb:=aO F ks a cs) (kb:=ce F ks a.head v) hr hok hcs r2 hok2 ext hbs0 w1 w2 w3 rfl rfl (λi d hd=>by
        have hd':bA (jw a.head.vs ((aZ a.head.sh v ks.nx).map (·.1))) (aO F ks a cs).sl i=some d:=hd;unfold bA at hd'
        cases hl:az (jw a.head.vs ((aZ a.head.sh v ks.nx).map (·.1))) i with
        |some d'=>rw [hl]at hd';cases hd';exact .inl rfl
        |none=>rw [hl]at hd';exact .inr hd') (λp=>(bE _ _ p).symm)
       exact⟨rfl,V3,f2,t1,hr3,(a1.trans ext.agree (by show ks.nx<=ks.nx+_;omega)).trans ha3 (Nat.le_refl _),(l1.trans ext.le (by show ks.nx<=ks.nx+_;omega)).trans hl3 (Nat.le_refl _)⟩
      |ret=>obtain⟨v,rfl,j⟩:=hx (by simp) k1;exact j
      |exit id=>obtain⟨v,rfl,j⟩:=hx (by simp) k1;exact j
   .simp at hs'
 |exit id=>intro R F ks κ r V f h hs hr;exact CF ⟨ks,V,f,rfl,hr,hs,Ext.refl _ _ _⟩
 |ret=>intro R F ks κ r V f h hs hr;exact FX ⟨ks,V,f,rfl,hr,hs,Ext.refl _ _ _⟩
 |label l=>intro R F ks κ r V f h hs hr;exact HQ ⟨ks,V,f,rfl,hr,hs,Ext.refl _ _ _⟩
 |scope b ih=>
  intro R F ks κ r V f h hs hr;exact HR (ih R F ks κ r V f h hs hr)
 |_=>intro R F ks κ r V f h hs hr;simp [gT]at hs
end
end K
end Ev
end
noncomputable section
namespace Ev
namespace K
open Go Go.RowKit
section
variable {E : Env} {n : Nat} {F : KF} {ks : KS} {V : Vl} {f : Nat → D} {h : aC} {G : KG} {D0 : Nat}
theorem xk{k i j bz:Nat}{ag:Bool}{sz:Nat}{es:List (List C)}{e cs:List C}{d:D}(hg:aJ h k=some (bz,es))(he:es[i]? =some e)(hc:Ev.cut e j sz=some cs)(hv:dr ag cs=some d):load h ag sz (.one (.ptr k i j))=some d:=by
 simp only [load,hg,zbB,zbS,he,hc,hv]
theorem Lh(hr:Rel F ks V f h){z:Nat×Bool}{a:KD}{a':D}{R:Type}{r:R}{κ:KD->Option R}(hs:iX F ks z a κ=some r)(ha:RD (aE F ks) V a a'):∃d d',κ d=some r/\load h z.2 (if z.2 then z.1 else 1) a'=some d'/\RD (aE F ks) V d d'/\ScD ks.nx d:=by
 have hz:wd z=if z.2 then z.1 else 1:=by unfold wd;cases z.2<;>rfl
 cases a with
 |tup ts=>simp [iX]at hs
 |agg cs=>simp [iX]at hs
 |one c=>
  obtain⟨c',rfl,hc⟩:=ha
  cases c with
  |ptr p j=>
   simp only [iX]at hs;split at hs
   .rename_i cs hp;simp only [zbE]at hs;obtain⟨d2,⟨cs2,g1,g2⟩,g3⟩:=hs;obtain⟨g4,g5,sz,cs',g6,g7⟩:=hr.bl p _ hp;obtain⟨c2,g8,g9⟩:=g7.cut g1;obtain⟨d3,k1,k2,k3⟩:=ik g2 (jF g5 g1) g9;rw [show c'=_ from hc];exact⟨_,d3,g3,xk g6 rfl (by rw [<-hz];exact g8) k1,k2,k3⟩
   .simp at hs
  |ip e fr x i y j=>
   simp only [iX,zbE]at hs;obtain⟨d2,⟨cs2,g1,g2⟩,g3⟩:=hs;obtain⟨fl,e1,e2,e3⟩:=hc;obtain⟨c2,g8,g9⟩:=(eK (B:=aE F ks) (V:=V) e3 e y).cut g1;obtain⟨d3,k1,k2,k3⟩:=ik g2 (jF (gd ks.nx fr e y) g1) g9;refine⟨_,d3,g3,?_,k2,k3⟩;rw [e1];simp only [load,zbB,aG (r:=e.row) e2,zbS];rw [<-hz,g8];exact k1
  |pe p i j=>
   simp only [iX]at hs;rw [hc.2];split at hs
   .rename_i e ne l hp;simp only [zbE]at hs;obtain⟨y,g0,d2,⟨cs2,g1,g2⟩,g3⟩:=hs;obtain⟨g4,g5,g6,_⟩:=hr.bl p _ hp;obtain⟨c2,g8,g9⟩:=(eK (B:=aE F ks) (V:=V) (λ_=>rfl) e y).cut g1;obtain⟨d3,k1,k2,k3⟩:=ik g2 (jF (gd ks.nx true e y) g1) g9;exact⟨_,d3,g3,xk g6 (oS g0).2 (by rw [<-hz];exact g8) k1,k2,k3⟩
   .rename_i e l hp;simp only [zbE]at hs;obtain⟨y,g0,d2,⟨cs2,g1,g2⟩,g3⟩:=hs;obtain⟨g4,g5,g6⟩:=hr.bl p _ hp;obtain⟨c2,g8,g9⟩:=(eK (B:=aE F ks) (V:=V) (λ_=>rfl) e y).cut g1;obtain⟨d3,k1,k2,k3⟩:=ik g2 (jF (gd ks.nx true e y) g1) g9;exact⟨_,d3,g3,xk (g6 (AX g0)) (oS g0).2 (by rw [<-hz];exact g8) k1,k2,k3⟩
   .simp at hs
  |_=>simp [iX]at hs
theorem uz(hG:GOk G E D0)(hr:Rel F ks V f h):∀{rv:List ResultVar} {R:Type} {r:R} {κ:List KD->Option R},AR G F ks rv κ=some r->∃ds ds',rv.mapM (cQ E {t:=tab F.nt f,h:=h})=some ds'/\RDl (aE F ks) V ds ds'/\(∀d∈ds,ScD ks.nx d)/\κ ds=some r
 | [],R,r,κ,hs=>⟨[],[],rfl,rfl,by simp,hs⟩
 | .tmp t::rv,R,r,κ,hs=>by
  simp only [AR,zbE]at hs;obtain⟨d,g1,g2⟩:=hs;obtain⟨k1,k2,k3⟩:=hr.sl t d g1;obtain⟨ds,ds',e1,e2,e3,e4⟩:=uz hG hr g2;refine⟨d::ds,f t::ds',?_,⟨_,_,rfl,k3,e2⟩,λx hx=> ?_,e4⟩
  .rw [List.mapM_cons,e1];show((tab F.nt f)[t]?).bind _=_;rw [jC,if_pos k1];rfl
  .rcases List.mem_cons.1 hx with rfl|hx
   .exact k2
   .exact e3 x hx
 | .cell a ty::rv,R,r,κ,hs=>by
  simp only [AR]at hs;split at hs
  .rename_i z d hz hd;have hz':=AW hG hz;obtain⟨k1,k2,k3⟩:=hr.sl a d hd;obtain⟨v,v',g1,g2,g3,g4⟩:=Lh hr hs k3;obtain⟨ds,ds',e1,e2,e3,e4⟩:=uz hG hr g1;refine⟨v::ds,v'::ds',?_,⟨_,_,rfl,g3,e2⟩,λx hx=> ?_,e4⟩
   .unfold dM at hz';simp only [zbE,zsI]at hz';obtain⟨ti,w1,w2⟩:=hz';rw [List.mapM_cons,e1];show(((E.ti ty).bind λt'=>((tab F.nt f)[a]?).bind λd=>load h (br t'.desc) (if br t'.desc then t'.size else 1) d).bind _)=_;rw [w1,jC,if_pos k1];subst w2;simp only [zbS];rw [g2];rfl
   .rcases List.mem_cons.1 hx with rfl|hx
    .exact g4
    .exact e3 x hx
  .simp at hs
theorem Bj:∀{ds:List KD} {ds':List D} {ts:List (Bool×List KC)},tupK.tups ds=some ts->RDl (aE F ks) V ds ds'->(∀d∈ds,ScD ks.nx d)->RTs (aE F ks) V ts ds'/\∀x∈ts,Scs ks.nx x.2
 | [],ds',ts,h,hr,hs=>by
  have:=Option.some.inj (show some []=some ts from h)
  subst this;exact⟨hr,by simp⟩
 | .one c::r,ds',ts,h,⟨d,s,e,h1,h2⟩,hs=>by
  simp only [tupK.tups,Option.map_eq_some_iff]at h;obtain⟨ts',g1,rfl⟩:=h;obtain⟨k1,k2⟩:=Bj g1 h2 λx hx=>hs x (by simp [hx]);refine⟨⟨d,s,e,h1,k1⟩,λx hx=> ?_⟩;rcases List.mem_cons.1 hx with rfl|hx
  .exact λy hy=>by rw [List.mem_singleton.1 hy];exact hs (.one c) (by simp)
  .exact k2 x hx
 | .agg cs::r,ds',ts,h,⟨d,s,e,h1,h2⟩,hs=>by
  simp only [tupK.tups,Option.map_eq_some_iff]at h;obtain⟨ts',g1,rfl⟩:=h;obtain⟨k1,k2⟩:=Bj g1 h2 λx hx=>hs x (by simp [hx]);refine⟨⟨d,s,e,h1,k1⟩,λx hx=> ?_⟩;rcases List.mem_cons.1 hx with rfl|hx
  .exact hs (.agg cs) (by simp)
  .exact k2 x hx
 | .tup ts'::r,ds',ts,h,hr,hs=>by simp [tupK.tups]at h
theorem MW{ds:List KD}{ds':List D}{d:KD}(h:tupK ds=some d)(hr:RDl (aE F ks) V ds ds')(hs:∀d∈ds,ScD ks.nx d):RD (aE F ks) V d (gV ds')/\ScD ks.nx d:=by
 match ds,h,hr,hs with
 | [x],h,⟨d',s,e,h1,h2⟩,hs=>
  cases h;rw [e,show s= []from h2];exact⟨h1,hs d (by simp)⟩
 | [],h,hr,hs=>
  cases h;rw [show ds'= []from hr];exact⟨⟨[],rfl,rfl⟩,λx hx=>by simp at hx⟩
 |x::x'::r,h,hr,hs=>
  have h':(tupK.tups (x::x'::r)).map KD.tup=some d:=h;rw [Option.map_eq_some_iff]at h';obtain⟨ts,g1,rfl⟩:=h';obtain⟨k1,k2⟩:=Bj g1 hr hs;obtain⟨d1,s1,e1,_,d2,s2,e2,_,_⟩:=hr;refine⟨⟨ds',?_,k1⟩,k2⟩;rw [e1,e2];rfl
theorem zq:∀{l:List KD} {q i:Nat} {d:KD},az (ye q l) i=some d->∃j,i=q+j/\l[j]? =some d
 | [],q,i,d,h=>by simp [ye,az]at h
 |a::l,q,i,d,h=>by
  unfold ye at h;rw [aB]at h;split at h
  .rename_i hi;cases h;exact⟨0,by omega,rfl⟩
  .obtain⟨j,h1,h2⟩:=zq h;exact⟨j+1,by omega,by simpa using h2⟩
theorem GB{B:BK}:∀{l:List KD} {l':List D} {j:Nat} {d:KD},RDl B V l l'->l[j]? =some d->∃d',l'[j]? =some d'/\RD B V d d'
 | [],l',j,d,h,hj=>by simp at hj
 |a::l,l',0,d,⟨x,s,e,h1,h2⟩,hj=>by simp at hj;subst hj e;exact⟨x,rfl,h1⟩
 |a::l,l',j+1,d,⟨x,s,e,h1,h2⟩,hj=>by subst e;simpa using GB h2 (by simpa using hj)
theorem GC{B:BK}:∀{l:List KD} {l':List D},RDl B V l l'->l'.length=l.length
 | [],l',h=>by rw [show l'= []from h];rfl
 |a::l,l',⟨x,s,e,h1,h2⟩=>by rw [e,List.length_cons,List.length_cons,GC h2]
theorem zr{nt nx:Nat}{bl:List (Nat×KB)}{args:List KD}{args':List D}(hb:KY F {sl:= [],bl:=bl,nx:=nx} V h)(hs:∀d∈args,ScD nx d)(hr:RDl (aE F {sl:= [],bl:=bl,nx:=nx}) V args args')(hl:args.length<=nt):Rel {F with sl:= [],nt:=nt} {sl:=ye 0 args,bl:=bl,nx:=nx} V (fA args') h:=by
 refine⟨?_,hb.bl,hb.inj⟩;intro i d hd;have hd':bA (ye 0 args) [] i=some d:=hd;unfold bA at hd'
 cases hl':az (ye 0 args) i with
 |none=>rw [hl']at hd';simp [az]at hd'
 |some d0=>
  rw [hl']at hd';cases hd';obtain⟨j,h1,h2⟩:=zq hl';rw [Nat.zero_add]at h1;subst h1;obtain⟨d',h3,h4⟩:=GB hr h2;have hi:i<args.length:=(List.getElem?_eq_some_iff.1 h2).1;refine⟨Nat.lt_of_lt_of_le hi hl,hs d (List.mem_of_getElem? h2),?_⟩;show RD _ _ d (args'.getD i co);rw [List.getD_eq_getElem?_getD,h3];exact h4
theorem Dx{e:Ex}(h:tM e=true):e= .normal∨e= .ret:=by
 cases e with
 |normal=>exact .inl rfl
 |ret=>exact .inr rfl
 |exit id=>simp [tM]at h
theorem Dy(hG:GOk G E D0)(A:gh):∀(c n:Nat),D0+c<=n->Fl E n (Db G A c)
 |0,n,hn=>λR F k args ks κ r V h args' hs hb hsc hr=>by simp [Db]at hs
 |c+1,n,hn=>λR F k args ks κ r V h args' hs hb hsc hr=>by
  unfold Db at hs;split at hs
  .rename_i fi hfi;obtain⟨g1,g2⟩:=hG.fi k fi hfi;split at hs
   .rename_i hlen
    match n,hn with
    |n0+1,hn=>
     refine⟨n0,fi,rfl,g1,g2,by rw [GC hr];exact hlen,?_⟩;have hrel:Rel {F with sl:= [],nt:=fi.nt} {ks with sl:=ye 0 args} V (fA args') h:=zr ⟨hb.bl,hb.inj⟩ hsc hr hlen;refine(Dw (y:=nY) hG (by omega) (Dy hG A c n0 (by omega)) fi.body R _ _ _ r V _ h hs hrel).mono λe s hp=> ?_;obtain⟨ks',V',f',h1,h2,h3,h4⟩:=hp;obtain⟨t,hh⟩:=s;simp only at h1 h2;subst h1;dsimp only at h3
     cases he:tM e with
     |false=>rw [he]at h3;simp at h3
     |true=>
      rw [he]at h3;obtain⟨ds,ds',e1,e2,e3,e4⟩:=uz hG h2 h3;rw [zbE]at e4;obtain⟨d,e5,e6⟩:=e4;obtain⟨k1,k2⟩:=MW e5 e2 e3;exact⟨Dx he,ds',e1,ks',V',d,e6,k2,k1,⟨h2.bl,h2.inj⟩,⟨h4.nx,h4.agree,h4.le,h4.dom⟩⟩
   .simp at hs
  .simp at hs
theorem qB:∀{e:Ty} (x:e.val),e.plain=true->(aL e.row x).all pG=true
 | .I _,_,_=>rfl
 | .B,_,_=>rfl
 | .S _,_,hp=>by simp [Ty.plain]at hp
 | .U,_,_=>rfl
 | .C a b,x,hp=>by
  simp only [Ty.plain,Bool.and_eq_true]at hp;unfold aL;show((a.row x.1++b.row x.2).map (pC true)).all pG=true;rw [List.map_append,List.all_append];have h1:=qB x.1 hp.1;have h2:=qB x.2 hp.2;unfold aL at h1 h2;rw [h1,h2];rfl
theorem xl{B:BK}:∀{l:List (Bool×List KC)} {ds:List D},RTs B V l ds->RDl B V (l.map mkD) ds
 | [],ds,h=>h
 |x::l,ds,⟨d,s,e,h1,h2⟩=>⟨d,s,e,Fg h1,xl h2⟩
theorem GD(fr:Bool):∀(ts:List TyD) (x:vals ts),(oe fr ts x).length=ts.length
 | [],_=>rfl
 | [t],x=>rfl
 |t::t'::r,x=>by show(oe fr (t'::r) x.2).length+1=_;rw [GD fr (t'::r)];rfl
theorem Bk:∀(ts:List TyD) (x:vals ts),(fp ts x).length=ts.length
 | [],_=>rfl
 | [t],x=>rfl
 |t::t'::r,x=>by show(fp (t'::r) x.2).length+1=_;rw [Bk (t'::r)];rfl
theorem Ip{B:BK}{ts:List TyD}{ds:List KD}{ds':List D}{x:vals ts}(hd:lU B ts ds=some x)(hr:RDl B V ds ds')(hno:sO ds=false):cA h ds'=false:=by
 unfold cA;split
 .rename_i k m
  match ds,hr,hno,hd with
  | [d],⟨y,s,e,h1,h2⟩,hno,hd=>
   rw [show s= []from h2]at e;simp only [List.cons.injEq,and_true]at e;subst e
   match ts,x,hd with
   | [t],x,hd=>
    have hd':AM B t d=some x:=hd
    cases d with
    |one c=>
     obtain⟨c',e1,e2⟩:=h1;cases e1
     cases c with
     |o e p=>simp [sO]at hno
     |m e p=>simp [sO]at hno
     |n k y=>exact absurd (show C.own _ 0 _=_ from e2) (by simp)
     |b v=>exact absurd (show C.own _ 0 _=_ from e2) (by simp)
     |p t P d=>exact absurd e2.1 (by simp)
     |bv y=>exact absurd (show C.own _ 0 _=_ from e2) (by simp)
     |v y=>exact absurd (show C.own _ 0 _=_ from e2) (by simp)
     |nil=>exact absurd (show C.own _ 0 _=_ from e2) (by simp)
     |s e fr y=>obtain⟨fl,e3,_⟩:=e2;exact absurd e3 (by simp)
     |ptr p j=>exact absurd (show C.own _ 0 _=_ from e2) (by simp)
     |pe p i j=>exact absurd e2.2 (by simp)
     |ip e fr y i z j=>obtain⟨fl,e3,_⟩:=e2;exact absurd e3 (by simp)
     |clo fn ps=>exact absurd (show C.own _ 0 _=_ from e2) (by simp)
     |yld p=>exact absurd (show C.own _ 0 _=_ from e2) (by simp)
    |agg cs=>obtain⟨c',e1,_⟩:=h1;simp at e1
    |tup ts=>simp [AM]at hd'
   | [],x,hd=>simp [lU]at hd
   |_::_::_,x,hd=>simp [lU]at hd
  | [],hr,_,_=>exact absurd (show [_]=_ from hr) (by simp)
  |_::_::_,⟨y,s,e,h1,y2,s2,e2,_,_⟩,_,_=>rw [e2]at e;simp at e
 .rfl
theorem rN{rv:List ResultVar}{e:Ty}{l:List e.val}{k:Nat}{ex:Ex}{s:St}(he:ex= .normal∨ex= .ret)(hres:rv.mapM (cQ E s)=some [.one (.own k 0 l.length)])(hg:aJ s.h k=some (e.size,l.map (aL e.row)))(hp:e.plain=true):hZ E rv (.own,[.one (.s true e.size (l.map e.row))]) ex s:=by
 have ho:cA s.h [.one (.own k 0 l.length)]=true:=by
  simp only [cA,hg,List.length_map,BEq.rfl,Bool.true_and,List.all_map];rw [List.all_eq_true];exact λx _=>qB x hp
 have hv:cz s.h (.one (.own k 0 l.length))=some (true,.one (.s true e.size (l.map e.row))):=by
  show(eN s.h 6 _).bind _=_;rw [cd (r:=e.row) (L:= [[(k,e.size,l.map (aL e.row))]]) 0 rfl (λx h m=>wN m) s.h (jx hg) 4];rfl
 have key:cH (λq:Kind×List TD=>q=(.own,[.one (.s true e.size (l.map e.row))])) ((rv.mapM (cQ E s)).bind λrs=>(rs.mapM (cz s.h)).map λl=>(if cA s.h rs then .own else if l.all (·.1)then .fresh else .any,l.map (·.2))):=by
  rw [hres];simp only [zbS,List.mapM_cons,hv,List.mapM_nil,Option.pure_def,zbB,Option.map_some,ho];rfl
 rcases he with rfl|rfl<;>exact key
theorem mN{rv:List ResultVar}{ds':List D}{l:List (Bool×TD)}{ex:Ex}{s:St}(he:ex= .normal∨ex= .ret)(hres:rv.mapM (cQ E s)=some ds')(hv:ds'.mapM (cz s.h)=some l)(ho:cA s.h ds'=false):hZ E rv (cond (l.all (·.1)) .fresh .any,l.map (·.2)) ex s:=by
 have key:cH (λq:Kind×List TD=>q=(cond (l.all (·.1)) .fresh .any,l.map (·.2))) ((rv.mapM (cQ E s)).bind λrs=>(rs.mapM (cz s.h)).map λl=>(if cA s.h rs then .own else if l.all (·.1)then .fresh else .any,l.map (·.2))):=by
  rw [hres];simp only [zbS,hv,Option.map_some,ho];show(_,_)=(_,_);cases l.all (·.1)<;>rfl
 rcases he with rfl|rfl<;>exact key
theorem MX(hG:GOk G E D0)(A:gh){fi:FI}{k:FuncId}{c:Nat}{ins:List TyD}{ok:OutK}{x:vals ins}{out:ok.val}(hax:E.ax k=none)(hf:E.fn k=some fi)(hl:ins.length<=fi.nt)(hs:gX G A fi k c ins ok x=some out)(m:Nat):Gp E (m+(D0+c)+1) k (fp ins x) ok out:=by
 unfold gX at hs;have hb:KY {nt:=fi.nt} {sl:= [],bl:= [],nx:=0} ⟨λ_=>0,λ_=>false⟩ []:=⟨λp b hb=>by simp [aE,bA,az]at hb,λp q b b' hb=>by simp [aE,bA,az]at hb⟩;have hargs:RDl (aE {nt:=fi.nt} {sl:= [],bl:= [],nx:=0}) ⟨λ_=>0,λ_=>false⟩ ((oe false ins x).map mkD) ((fp ins x).map (cR false)):=xl (rF (λh=>h) ins x)
 have hsc:∀d∈(oe false ins x).map mkD,ScD 0 d:=λd hd=>by
  obtain⟨y,h1,rfl⟩:=List.mem_map.1 hd;exact ux (wO 0 false ins x y h1)
 have hrel:Rel {nt:=fi.nt} {sl:=Gm ins x,bl:= [],nx:=0} ⟨λ_=>0,λ_=>false⟩ (fA ((fp ins x).map (cR false))) []:=zr (F:={nt:=fi.nt}) hb hsc hargs (by rw [List.length_map,GD];exact hl);have hw:=Dw (y:=nY) (n:=m+(D0+c)) hG (by omega) (Dy hG A c _ (by omega)) fi.body ok.val _ _ _ out _ _ [] hs hrel;have hend:∀r,(∀e s,PostC {nt:=fi.nt} {sl:=Gm ins x,bl:= [],nx:=0} ⟨λ_=>0,λ_=>false⟩ (λe ks=>cond (tM e) (AR G {nt:=fi.nt} ks fi.results λds=>AS (aE {nt:=fi.nt} ks) ok ds) none) out e s->hZ E fi.results r e s)->RunsP E (m+(D0+c)+1) k (fp ins x) r:=λr hq=>mE hax hf (by rw [Bk];exact hl) (hw.mono hq)
 have hopen:∀e s,PostC {nt:=fi.nt} {sl:=Gm ins x,bl:= [],nx:=0} ⟨λ_=>0,λ_=>false⟩ (λe ks=>cond (tM e) (AR G {nt:=fi.nt} ks fi.results λds=>AS (aE {nt:=fi.nt} ks) ok ds) none) out e s->∃ks' V' f' ds ds',(e= .normal∨e= .ret)/\Rel {nt:=fi.nt} ks' V' f' s.h/\fi.results.mapM (cQ E s)=some ds'/\RDl (aE {nt:=fi.nt} ks') V' ds ds'/\AS (aE {nt:=fi.nt} ks') ok ds=some out:=by
  intro e s hp;obtain⟨ks',V',f',h1,h2,h3,h4⟩:=hp;obtain⟨t,hh⟩:=s;simp only at h1 h2;subst h1;dsimp only at h3
  cases he:tM e with
  |false=>rw [he]at h3;simp at h3
  |true=>
   rw [he]at h3;obtain⟨ds,ds',e1,e2,e3,e4⟩:=uz hG h2 h3;exact⟨ks',V',f',ds,ds',Dx he,h2,e1,e2,e4⟩
 cases ok with
 |data fr ts=>
  have hdata:∀(ks':KS) (V':Vl) (ds:List KD) (ds':List D) (hh:aC) (f':Nat->D),Rel {nt:=fi.nt} ks' V' f' hh->RDl (aE {nt:=fi.nt} ks') V' ds ds'->AS (aE {nt:=fi.nt} ks') (.data fr ts) ds=some out->∃l,ds'.mapM (cz hh)=some l/\l.map (·.2)=fp ts out/\(fr=true->l.all (·.1)=true)/\cA hh ds'=false:=by
   intro ks' V' ds ds' hh f' h2 e2 e4;unfold AS at e4;simp only at e4;split at e4
   .simp at e4
   .rename_i hc;obtain⟨l,l1,l2,l3⟩:=qk h2.bls e4 e2
    have hno:sO ds=false:=by cases ho:sO ds with|true=>simp [ho]at hc|false=>rfl
    refine⟨l,l1,l2,λhfr=>l3 ?_,Ip e4 e2 hno⟩
    cases ha:ds.all frD with
    |true=>rfl
    |false=>simp [hfr,ha]at hc
  cases fr with
  |true=>
   refine hend _ λe s hp=> ?_;obtain⟨ks',V',f',ds,ds',he,h2,e1,e2,e4⟩:=hopen e s hp;obtain⟨l,l1,l2,l3,l4⟩:=hdata ks' V' ds ds' s.h f' h2 e2 e4
   have:=mN (E:=E) he e1 l1 l4
   rw [l3 rfl,l2]at this;exact this
  |false=>
   -- is it new? that is settled when it has run
   obtain⟨e,s,hrun,hp⟩:=hw;obtain⟨ks',V',f',ds,ds',he,h2,e1,e2,e4⟩:=hopen e s hp;obtain⟨l,l1,l2,_,l4⟩:=hdata ks' V' ds ds' s.h f' h2 e2 e4
   have:=mN (E:=E) he e1 l1 l4
   rw [l2]at this;exact⟨l.all (·.1),mE hax hf (by rw [Bk];exact hl) ⟨e,s,hrun,this⟩⟩
 |own ty=>
  refine hend _ λe s hp=> ?_;obtain⟨ks',V',f',ds,ds',he,h2,e1,e2,e4⟩:=hopen e s hp;unfold AS at e4;simp only at e4;unfold Kz at e4;split at e4
  .rename_i e0 p;split at e4
   .rename_i e' ne l hB;split at e4
    .rename_i hpl;rw [Option.map_eq_some_iff]at e4;obtain⟨l2,g0,rfl⟩:=e4;obtain⟨hty,g0⟩:=bP g0;cases hty;subst g0;obtain⟨y,s',e5,⟨c',e6,e7⟩,e8⟩:=e2;rw [show s'= []from e8]at e5;rw [e5,e6,e7 _ _ _ hB]at e1;exact rN he e1 (h2.bl p _ hB).2.2.1 hpl
    .simp at e4
   .simp at e4
  .simp at e4
 |mown ty=>
  refine hend _ λe s hp=> ?_;obtain⟨ks',V',f',ds,ds',he,h2,e1,e2,e4⟩:=hopen e s hp
  have hnil:∀{ds'':List D},RDl (aE {nt:=fi.nt} ks') V' [.one .nil] ds''->fi.results.mapM (cQ E s)=some ds''->hZ E fi.results (Kd ty.size ty.row []) e s:=by
   intro ds'' e2 e1;obtain⟨y,s',e5,⟨c',e6,e7⟩,e8⟩:=e2;rw [show s'= []from e8]at e5;rw [e5,e6,show c'=_ from e7]at e1;exact mN (E:=E) (l:= [(true,.one (.s false 0 []))]) he e1 rfl rfl
  unfold AS at e4;simp only at e4;unfold Gk at e4;split at e4
  .cases e4;exact hnil e2 e1
  .rename_i e0 p;split at e4
   .rename_i e' l hB;split at e4
    .rename_i hpl;rw [Option.map_eq_some_iff]at e4;obtain⟨l2,g0,rfl⟩:=e4;obtain⟨hty,g0⟩:=bP g0;cases hty;subst g0;obtain⟨y,s',e5,⟨c',e6,e7⟩,e8⟩:=e2;rw [show s'= []from e8]at e5;rw [e5,e6,e7 _ _ hB]at e1
     cases l with
     |nil=>exact mN (E:=E) (l:= [(true,.one (.s false 0 []))]) he e1 rfl rfl
     |cons a l=>exact rN he e1 ((h2.bl p _ hB).2.2 (by simp)) hpl
    .simp at e4
   .simp at e4
  .rename_i e0 p;split at e4
   .rename_i e' ne l hB;split at e4
    .rename_i hpl;rw [Bool.and_eq_true]at hpl;rw [Option.map_eq_some_iff]at e4;obtain⟨l2,g0,rfl⟩:=e4;obtain⟨hty,g0⟩:=bP g0;cases hty;subst g0;obtain⟨y,s',e5,⟨c',e6,e7⟩,e8⟩:=e2;rw [show s'= []from e8]at e5;rw [e5,e6,e7 _ _ _ hB]at e1;obtain⟨w1,w2,w3,w4⟩:=h2.bl p _ hB
     cases l with
     |nil=>exact absurd rfl (w4 hpl.2)
     |cons a l=>exact rN he e1 w3 hpl.1
    .simp at e4
   .simp at e4
  .simp at e4
 |gown ty=>
  refine hend _ λe s hp=> ?_;obtain⟨ks',V',f',ds,ds',he,h2,e1,e2,e4⟩:=hopen e s hp;unfold AS at e4;simp only at e4;unfold Gl at e4;split at e4
  .cases e4;obtain⟨y,s',e5,⟨c',e6,e7⟩,e8⟩:=e2;rw [show s'= []from e8]at e5;rw [e5,e6,show c'=_ from e7]at e1;exact mN (E:=E) (l:= [(true,.one (.s false 0 []))]) he e1 rfl rfl
  .rename_i e0 p;split at e4
   .rename_i e' l hB;split at e4
    .rename_i hpl;rw [Option.map_eq_some_iff]at e4;obtain⟨l2,g0,rfl⟩:=e4;obtain⟨hty,g0⟩:=bP g0;cases hty;subst g0;obtain⟨y,s',e5,⟨c',e6,e7⟩,e8⟩:=e2;rw [show s'= []from e8]at e5;rw [e5,e6,e7 _ _ hB]at e1
     cases l with
     |nil=>exact mN (E:=E) (l:= [(true,.one (.s false 0 []))]) he e1 rfl rfl
     |cons a l=>exact rN he e1 ((h2.bl p _ hB).2.2 (by simp)) hpl
    .simp at e4
   .simp at e4
  .rename_i e0 p;split at e4
   .rename_i e' ne l hB;split at e4
    .rename_i hpl;rw [Option.map_eq_some_iff]at e4;obtain⟨l2,g0,rfl⟩:=e4;obtain⟨hty,g0⟩:=bP g0;cases hty;subst g0;obtain⟨y,s',e5,⟨c',e6,e7⟩,e8⟩:=e2;rw [show s'= []from e8]at e5;rw [e5,e6,e7 _ _ _ hB]at e1;exact rN he e1 (h2.bl p _ hB).2.2.1 hpl
    .simp at e4
   .simp at e4
  .simp at e4
end
end K
end Ev
end
noncomputable section
namespace Ev
namespace K
open Go Go.RowKit
def Pr(E:Env)(D:Nat):List eh->Prop
 | []=>True
 |e::r=>(e.d<=D/\je E e)/\Pr E D r
def Ps(E:Env):List (FuncId×FI)->Prop
 | []=>True
 |x::r=>(E.fn x.1=some x.2/\E.ax x.1=some λ_=>none)/\Ps E r
def MY(E:Env):List (Nat×TI)->Prop
 | []=>True
 |x::r=>E.ti x.1=some x.2/\MY E r
def MZ(P:Program):List (Nat×List IntKind)->Prop
 | []=>True
 |x::r=>MK P x.1 x.2/\MZ P r
theorem Dz{E:Env}{D:Nat}:∀{l:List eh},Pr E D l->∀e∈l,e.d<=D/\je E e
 | [],_,e,h=>by simp at h
 |a::l,⟨h1,h2⟩,e,h=>by
  rcases List.mem_cons.1 h with rfl|h
  .exact h1
  .exact Dz h2 e h
theorem zt{E:Env}:∀{l:List (FuncId×FI)},Ps E l->∀k f,az l k=some f->E.fn k=some f/\E.ax k=some λ_=>none
 | [],_,k,f,h=>by simp [az]at h
 |a::l,⟨h1,h2⟩,k,f,h=>by
  rw [show a::l=(a.1,a.2)::l from rfl,aB]at h;split at h
  .rename_i hk;cases h;subst hk;exact h1
  .exact zt h2 k f h
theorem zu{E:Env}:∀{l:List (Nat×TI)},MY E l->∀k f,az l k=some f->E.ti k=some f
 | [],_,k,f,h=>by simp [az]at h
 |a::l,⟨h1,h2⟩,k,f,h=>by
  rw [show a::l=(a.1,a.2)::l from rfl,aB]at h;split at h
  .rename_i hk;cases h;subst hk;exact h1
  .exact zu h2 k f h
theorem zv{P:Program}:∀{l:List (Nat×List IntKind)},MZ P l->∀k f,az l k=some f->MK P k f
 | [],_,k,f,h=>by simp [az]at h
 |a::l,⟨h1,h2⟩,k,f,h=>by
  rw [show a::l=(a.1,a.2)::l from rfl,aB]at h;split at h
  .rename_i hk;cases h;subst hk;exact h1
  .exact zv h2 k f h
theorem gok{E:Env}{D:Nat}{tt:List (Nat×TI)}{eqs:List (Nat×List IntKind)}{fns:List eh}{fi:List (FuncId×FI)}(hE:E.Ok)(ht:MY E tt)(hq:MZ E.P eqs)(hf:Pr E D fns)(hi:Ps E fi):GOk ⟨tt,eqs,fns,fi⟩ E D:=⟨hE,zu ht,zv hq,Dz hf,zt hi⟩
def mkE(G:KG)(A:gh)(fi:FI)(k:FuncId)(c:Nat)(ins:List TyD)(out:OutK)(d:Nat):eh:=⟨k,ins,out,gX G A fi k c ins out,d⟩
theorem Bl{E:Env}{D:Nat}{G:KG}{A:gh}{fi:FI}{k:FuncId}{c:Nat}{ins:List TyD}{out:OutK}{d:Nat}(hG:GOk G E D)(hax:E.ax k=none)(hf:E.fn k=some fi)(hl:Nat.ble ins.length fi.nt=true)(hd:D+c+1=d):je E (mkE G A fi k c ins out d):=λm a o h=>by
 subst hd;exact MX hG A hax hf (Nat.le_of_ble_eq_true hl) h m
def fiF(f:Func):FI:=⟨f.ntmps,f.results.toList,f.body.getD .skip⟩
theorem zw{P:Program}{k:FuncId}{f:Func}{b:Code}(h:P.funcs[k]? =some f)(hb:f.body=some b):aY P k=some (fiF f):=by
 unfold aY fiF;rw [h];simp only [hb];rfl
theorem NZ{P:Program}{ty:TypeId}{k0 k1:IntKind}(h:∀(x y:Operand) (a0 b0 a1 b1:Int),aq P (do eqGuard .eql ty x y (.agg #[.int k0 a0,.int k1 a1]) (.agg #[.int k0 b0,.int k1 b1]);binOp .eql ty (.agg #[.int k0 a0,.int k1 a1]) (.agg #[.int k0 b0,.int k1 b1]))=some (.bool (a0==b0 &&(a1==b1 && true))))
  (h':∀(x y:Operand) (a0 b0 a1 b1:Int),aq P (do eqGuard .neq ty x y (.agg #[.int k0 a0,.int k1 a1]) (.agg #[.int k0 b0,.int k1 b1]);binOp .neq ty (.agg #[.int k0 a0,.int k1 a1]) (.agg #[.int k0 b0,.int k1 b1]))=some (.bool (!(a0==b0 &&(a1==b1 && true))))):MK P ty [k0,k1]:=λx y l hl=>by
 match l,hl with
 | [(a0,b0),(a1,b1)],_=>
  have e:(a0==b0 &&(a1==b1 && true))= @decide (eqP [(a0,b0),(a1,b1)]) (eqD [(a0,b0),(a1,b1)]):=io (by simp [eqP]);exact⟨(h x y a0 b0 a1 b1).trans (by rw [e]),(h' x y a0 b0 a1 b1).trans (by rw [e])⟩
end K
@[reducible] def nE {R:Type} (v:Empty):Option R:=K.afterX.match_1 (λ_=>Option R) v
end Ev
end
end Go.Proofs.YtpcmabdifkoihaaDoor
