/- Texts of a claim, joined. -/
import Derived.Test.YtjjbpdldbdmoeaaZM9
set_option linter.unusedVariables false
set_option linter.unusedSimpArgs false
namespace Go.Proofs.Ytjjbpdldbdmoeaa
noncomputable section
namespace Ev
namespace K
open Go Go.RowKit
section
variable {E : Env} {y : Nat → cM} {n : Nat} {G : KG} {D0 : Nat}
section loop
variable {F : KF} {ks : KS} {V : Vl} {f : Nat → D} {h : Heap} {a : xH} {cs : List KC} {x0 : bZ a.head.sh} {ks2 : KS} {V1 V2 : Vl} {f2 : Nat → D} {x1 : bZ a.head.sh}
theorem kr{F:KF}{ks:KS}:∀{bs:List (Nat×List Sh)} {p:Nat},p∈jh F ks bs->∃v∈bs,cG F ks v.1=some p
 | [],p,h=>by simp [jh]at h
 |v::r,p,h=>by
  unfold jh at h;split at h
  .rename_i q hq;rcases List.mem_cons.1 h with rfl|h
   .exact⟨v,by simp,hq⟩
   .obtain⟨w,h1,h2⟩:=kr h;exact⟨w,by simp [h1],h2⟩
  .obtain⟨w,h1,h2⟩:=kr h;exact⟨w,by simp [h1],h2⟩
theorem pF(hr:Rel F ks V f h)(hok:ez F ks=true)(hcs:cY F ks a.head=some cs)(hrd:RdCs ks a.head.sh cs x0)(ha1:Agree ks.nx V V1)(hl1:LeB ks.nx (aj F ks) (aj (al F ks a cs) (aP F ks a.head x1))){s:St}(hst:s.t=tab F.nt f2)(hr2:Rel (al F ks a cs) ks2 V2 f2 s.h)(hok2:ez (al F ks a cs) ks2=true)(hext:Ext (al F ks a cs) (aP F ks a.head x1) V1 ks2 V2){e:Ex}:∀{l:List (Ex×Pt)} {R:Type} {r:R} {κ:XT l->Option R},(∀x∈l,jH F ks (al F ks a cs) x.2=true)->mB (al F ks a cs) ks2 e l κ=some r->∃v,κ v=some r/\JX F ks V a.keep (cd F ks a cs) l v e s
 | [],R,r,κ,hb,hs=>by simp [mB]at hs
 |x::l,R,r,κ,hb,hs=>by
  unfold mB at hs
  cases hx:mA e x.1 with
  |false=>
   rw [hx]at hs;obtain⟨v,h1,h2⟩:=pF hr hok hcs hrd ha1 hl1 hst hr2 hok2 hext (λz hz=>hb z (by simp [hz])) hs;exact⟨.inr v,h1,h2⟩
  |true=>
   rw [hx]at hs;obtain⟨cs2,v,g1,g2,g3,g4⟩:=iu hr2 hs;have hbs:=hb x (by simp)
   have hkb:∀p,aH (qZ F ks a.keep (cd F ks a cs) x.2 v).bl F.bl p=af ((aP F ks x.2 v).bl++((cd F ks a cs).map (λp=>(p,KB.dead))++(ks.bl++F.bl))) p:=λp=>by
    rw [<-aD];show af ((aP F ks x.2 v).bl++((cd F ks a cs).map (λp=>(p,KB.dead))++ks.bl)++F.bl) p=_;rw [List.append_assoc,List.append_assoc]
   obtain⟨V3,hr3,ha3,hl3⟩:=AP (Fb:=F) (kb:=qZ F ks a.keep (cd F ks a cs) x.2 v) hr hok hcs hr2 hok2 hext hbs g1 g2 g3 rfl rfl (λi d hd=>by
    have hd':aH (eW x.2.vs ((an x.2.sh v ks.nx).map (·.1))++jS F ks a.keep) F.sl i=some d:=hd;rw [<-aD,List.append_assoc,aD]at hd';unfold aH at hd'
    cases hl:af (eW x.2.vs ((an x.2.sh v ks.nx).map (·.1))) i with
    |some d'=>rw [hl]at hd';cases hd';exact .inl rfl
    |none=>rw [hl]at hd';exact .inr hd') hkb
   have hnx1:ks.nx<=(aP F ks a.head x1).nx:=by show ks.nx<=ks.nx+_;omega
   refine⟨.inl v,g4,AO hx,V3,f2,hst,hr3,⟨by show ks.nx<=ks.nx+_;omega,?_,?_,?_⟩⟩
   .exact(ha1.trans hext.agree hnx1).trans ha3 (Nat.le_refl _)
   .exact(hl1.trans hext.le hnx1).trans hl3 (Nat.le_refl _)
   .intro p hp hl;have h2:=LG hcs hrd hext hp hl;show af ((aP F ks x.2 v).bl++((cd F ks a cs).map (λp=>(p,KB.dead))++ks.bl)) p=none;obtain⟨ca,cb,cw,_,hcb2,_,_⟩:=dI g1
    have e1:af (aP F ks x.2 v).bl p=none:=by
     refine jm (λw hw he=> ?_) (λw hw he=> ?_) hp
     .obtain⟨q,c,j1,j2⟩:=fX hcb2 w hw;rw [tX hok hok2 hbs w hw,he]at j1;cases j1;rw [h2]at j2;simp at j2
     .obtain⟨q,j1,j2⟩:=tZ hr hok2 hcs hext hbs w hw;rw [he]at j2;cases j2;obtain⟨q,k1,k2⟩:=ln g1 hw;rw [j1]at k1;cases k1;obtain⟨b,k3,_⟩:=mJ g3 k2;rw [h2]at k3;simp at k3
    rw [aD];unfold aH;rw [e1];simp only [aD];unfold aH;rcases nJ (l:=cd F ks a cs) (p:=p)with⟨h1,h2⟩|⟨h1,h2⟩
    .rw [h1];exact hl
    .exfalso;rcases List.mem_append.1 h2 with h2|h2
     .obtain⟨b',k1,_⟩:=mJ hrd h2;rw [hl]at k1;simp at k1
     .obtain⟨w,hw,hpw⟩:=kr h2;obtain⟨ca,cb,cw,_,hcb,_,_⟩:=dI hcs;obtain⟨p'',c'',j1,j2⟩:=fX hcb w hw;rw [hpw]at j1;cases j1;rw [hl]at j2;simp at j2
end loop
theorem vZ(hG:GOk G E D0)(hD:D0<=n){A:HL}{call:tF}(hcall:zG E n call):∀(c:Code) (R:Type) (F:KF) (ks:KS) (κ:Ex->KS->Option R) (r:R) (V:Vl) (f:Nat->D) (h:Heap),dS G A call c R F ks κ=some r->Rel F ks V f h->WpC E y n c (PostC F ks V κ r) {t:=tab F.nt f,h:=h}:=by
 intro c
 induction c with
 |skip=>intro R F ks κ r V f h hs hr;exact xe ⟨ks,V,f,rfl,hr,hs,Ext.refl _ _ _⟩
 |region id ops draw=>
  intro R F ks κ r V f h hs hr;obtain⟨l⟩:=ops
  cases draw with
  |false=>
   have hs':sf G call F (Array.toList ⟨l⟩) (κ .normal) l ks=some r:=hs;exact xm (mI (ops:=⟨l⟩) hG hD hcall l hs' hr)
  |true=>
   have hs':cond (cL ⟨l⟩) (match af A.tn id with
    |none=>jf G F l (κ .normal) l ks
    |some T=>match zv F ks T.old with
     |some O=>cond (gI ⟨l⟩ T.new && djB O (dz ⟨l⟩) O && vA ks O) (oz G F l (dz ⟨l⟩) O T.new ks (κ .normal) 0 [] l ks) none
     |none=>none) (match iJ ⟨l⟩with
    |some m=>cond (hZ ⟨l⟩) (jf G F l (sf G call F l (κ .normal) (l.drop m)) (l.take m) ks) none
    |none=>none)=some r:=hs
   cases hq:cL ⟨l⟩with
   |true=>
    rw [hq]at hs';simp only [cond_true]at hs';split at hs'
    .exact qz l.length rfl hq λh' h1 h2=>jB (ops:=⟨l⟩) (κ:=κ .normal) hG hD l 0 hs' (hr.heap h2)
    .split at hs'
     .rename_i T hT _ O hO
      cases hc:(gI ⟨l⟩ T.new && djB O (dz ⟨l⟩) O && vA ks O)with
      |false=>rw [hc]at hs';simp at hs'
      |true=>
       rw [hc]at hs';simp only [Bool.and_eq_true]at hc;exact Cf hG hD hq hc.1.1 hc.1.2 hc.2 hs' hr
     .simp at hs'
   |false=>
    rw [hq]at hs';simp only [cond_false]at hs';split at hs'
    .rename_i m hc
     cases hp:hZ ⟨l⟩with
     |false=>rw [hp]at hs';simp at hs'
     |true=>
      rw [hp]at hs';have hr':Rel F ks V f (h++List.replicate (Array.mk l).size .no):=hr.heap λk=>kJ _ _ _;refine Ga m hc hp (xW (jB (ops:=⟨l⟩) (b:=h.length) (κ:=sf G call F l (κ .normal) (l.drop m)) hG hD (l.take m) 0 hs' hr') λt ht=> ?_);obtain⟨ks',V',f',h1,h2,h3,h4⟩:=ht;simp only at h1 h2;subst h1;exact jA (mI (ops:=⟨l⟩) hG hD hcall (l.drop m) h3 h2) λs hs=>Post.ext h4 hs
    .simp at hs'
 |seq a b iha ihb=>
  intro R F ks κ r V f h hs hr
  have hs':(match A.lp.find? λz=>z.join &&(some z.key==dH a && Nat.beq z.sz (mC a))with
   |none=>dS G A call a R F ks λe ks=>match e with
    | .normal=>dS G A call b R F ks κ
    |e=>κ e ks
   |some z=>match cY F ks z.head,ez F ks with
    |some cs,true=>cond (jH F ks (al F ks z cs) z.head && z.exs.all λx=>jH F ks (al F ks z cs) x.2) (mz F ks z.head λx0=>
     (dS G A call a (XT z.exs) (al F ks z cs) (aP F ks z.head x0) λe ks2=>cond (ez (al F ks z cs) ks2) (mB (al F ks z cs) ks2 e z.exs some) none).bind λy=>afterX F ks z.keep (cd F ks z cs) z.exs y λe ks=>match e with
      | .normal=>dS G A call b R F ks κ
      |e=>κ e ks) none
    |_,_=>none)=some r:=hs
  have key:∀e s,PostC F ks V (λe ks=>match e with
    | .normal=>dS G A call b R F ks κ
    |e=>κ e ks) r e s->iZ (WpC E y n b (PostC F ks V κ r)) (PostC F ks V κ r) e s:=by
   intro e s hp;obtain⟨ks',V',f',h1,h2,h3,h4⟩:=hp;obtain⟨t,hh⟩:=s;simp only at h1 h2;subst h1
   cases e with
   |normal=>exact(ihb R F ks' κ r V' f' hh h3 h2).mono λe s hp=>hp.ext h4
   |ret=>exact⟨ks',V',f',rfl,h2,h3,h4⟩
   |exit id=>exact⟨ks',V',f',rfl,h2,h3,h4⟩
  split at hs'
  .exact uX ((iha R F ks _ r V f h hs' hr).mono key)
  .rename_i z hz;split at hs'
   .rename_i cs hcs hok
    cases hbs:(jH F ks (al F ks z cs) z.head && z.exs.all λx=>jH F ks (al F ks z cs) x.2)with
    |false=>rw [hbs]at hs';simp at hs'
    |true=>
     rw [hbs]at hs';rw [Bool.and_eq_true]at hbs;obtain⟨hbs0,hbsx⟩:=hbs;obtain⟨cs',x0,g1,g2,g3,g4⟩:=iu hr hs';rw [hcs]at g1;cases g1;rw [zbE]at g4;obtain⟨out,g4,g5⟩:=g4;obtain⟨V1,hr1,ha1,hl1⟩:=oZ hr hok hcs g2 g3;refine uX ((iha _ (al F ks z cs) (aP F ks z.head x0) _ out V1 f h g4 hr1).mono λe s hp=>key e s ?_);obtain⟨ks2,V2,f2,t1,r2,k1,ext⟩:=hp;dsimp only at k1
     cases hok2:ez (al F ks z cs) ks2 with
     |false=>rw [hok2]at k1;simp at k1
     |true=>
      rw [hok2]at k1;obtain⟨v,j1,j2⟩:=pF hr hok hcs g3 ha1 hl1 t1 r2 hok2 ext (λw hw=>List.all_eq_true.1 hbsx w hw) k1;cases j1;exact nK g5 j2
   .simp at hs'
 |cond c a b iha ihb=>
  intro R F ks κ r V f h hs hr
  have hs':(match kO F ks c with
   |some (.one c)=>kIf c ks λt ks=>cond t (dS G A call a R F ks κ) (dS G A call b R F ks κ)
   |_=>none)=some r:=hs
  split at hs'
  .rename_i c0 hc;obtain⟨d,d1,d2,c',rfl,d3⟩:=aO hr hc;obtain⟨t,ks',g1,rfl,g3,g4⟩:=LE hr d3 hs';have e1:opnd (tab F.nt f) c=some (.one (bC t)):=(aQ F.nt f c).trans d1;refine qv e1 rfl ?_
   cases t with
   |true=>exact(iha R F ks' κ r V f h g1 g3).mono λe s hp=>hp.ext g4
   |false=>exact(ihb R F ks' κ r V f h g1 g3).mono λe s hp=>hp.ext g4
  .simp at hs'
 |block id b ih=>
  intro R F ks κ r V f h hs hr;have hs':dS G A call b R F ks (λe ks=>κ (cond (mA e (.exit id)) .normal e) ks)=some r:=hs;refine sP ((ih R F ks _ r V f h hs' hr).mono λe s hp=> ?_);obtain⟨ks',V',f',h1,h2,h3,h4⟩:=hp;refine⟨ks',V',f',h1,h2,?_,h4⟩;rw [<-h3]
  have:(if e= .exit id then Ex.normal else e)=cond (mA e (.exit id)) .normal e:=by
   cases hx:mA e (.exit id)with
   |true=>rw [if_pos (AO hx)];rfl
   |false=>rw [if_neg (λhe=>by subst he;simp [mA]at hx)];rfl
  rw [this]
 |loop b ih=>
  intro R F ks κ r V f h hs hr
  have hs':(match A.lp.find? λa=> !a.join && some a.key==dH b with
   |none=>none
   |some a=>match cY F ks a.head,ez F ks with
    |some cs,true=>cond (jH F ks (al F ks a cs) a.head && a.exs.all λx=>jH F ks (al F ks a cs) x.2 && !mA x.1 .normal) (mz F ks a.head λx0=>
     (cD (λx=>dS G A call b (bZ a.head.sh ⊕ XT a.exs) (al F ks a cs) (aP F ks a.head x) λe ks2=>cond (ez (al F ks a cs) ks2) (match e with
      | .normal=>mz (al F ks a cs) ks2 a.head λy=>some (.inl y)
      |e=>mB (al F ks a cs) ks2 e a.exs λy=>some (.inr y)) none) x0).bind λy=>afterX F ks a.keep (cd F ks a cs) a.exs y κ) none
    |_,_=>none)=some r:=hs
  split at hs'
  .simp at hs'
  .rename_i a ha;split at hs'
   .rename_i cs hcs hok
    cases hbs:(jH F ks (al F ks a cs) a.head && a.exs.all λx=>jH F ks (al F ks a cs) x.2 && !mA x.1 .normal)with
    |false=>rw [hbs]at hs';simp at hs'
    |true=>
     rw [hbs]at hs';rw [Bool.and_eq_true]at hbs;obtain⟨hbs0,hbsx⟩:=hbs;obtain⟨cs',x0,g1,g2,g3,g4⟩:=iu hr hs';rw [hcs]at g1;cases g1;rw [zbE]at g4;obtain⟨out,g4,g5⟩:=g4;obtain⟨V1,hr1,ha1,hl1⟩:=oZ hr hok hcs g2 g3;refine WpC.mono (tr _ (λx s=>∃V1 f1,s.t=tab F.nt f1/\Rel (al F ks a cs) (aP F ks a.head x) V1 f1 s.h/\Agree ks.nx V V1/\LeB ks.nx (aj F ks) (aj (al F ks a cs) (aP F ks a.head x))) (λo e s=>JX F ks V a.keep (cd F ks a cs) a.exs o e s) (λr s=>sd (λz hz=>by have:=List.all_eq_true.1 hbsx z hz;rw [Bool.and_eq_true]at this;simpa using this.2) r s) ?_ x0 out _ g4 ⟨V1,f,rfl,hr1,ha1,hl1⟩) λe s hj=>nK g5 hj;intro x o s hb hI;obtain⟨W1,f1,e1,r1,a1,l1⟩:=hI;obtain⟨t,hh⟩:=s;simp only at e1 r1;subst e1;refine(ih _ (al F ks a cs) (aP F ks a.head x) _ o W1 f1 hh hb r1).mono λe s hp=> ?_;obtain⟨ks2,V2,f2,t1,r2,k1,ext⟩:=hp;dsimp only at k1
     cases hok2:ez (al F ks a cs) ks2 with
     |false=>rw [hok2]at k1;simp at k1
     |true=>
      rw [hok2]at k1;simp only [cond_true]at k1
      have hx:e≠ .normal->mB (al F ks a cs) ks2 e a.exs (λy=>some (.inr y))=some o->∃v,o= .inr v/\JX F ks V a.keep (cd F ks a cs) a.exs v e s:=by
       intro hne hk;obtain⟨v,j1,j2⟩:=pF hr hok hcs g3 a1 l1 t1 r2 hok2 ext (λz hz=>by have:=List.all_eq_true.1 hbsx z hz;rw [Bool.and_eq_true]at this;exact this.1) hk;exact⟨v,(Option.some.inj j1).symm,j2⟩
      cases e with
      |normal=>
       obtain⟨cs2,v,w1,w2,w3,w4⟩:=iu r2 k1;cases w4
       obtain⟨V3,hr3,ha3,hl3⟩:=AP (Fb:=al F ks a cs) (kb:=aP F ks a.head v) hr hok hcs r2 hok2 ext hbs0 w1 w2 w3 rfl rfl (λi d hd=>by
        have hd':aH (eW a.head.vs ((an a.head.sh v ks.nx).map (·.1))) (al F ks a cs).sl i=some d:=hd;unfold aH at hd'
        cases hl:af (eW a.head.vs ((an a.head.sh v ks.nx).map (·.1))) i with
        |some d'=>rw [hl]at hd';cases hd';exact .inl rfl
        |none=>rw [hl]at hd';exact .inr hd') (λp=>(aD _ _ p).symm)
       exact⟨rfl,V3,f2,t1,hr3,(a1.trans ext.agree (by show ks.nx<=ks.nx+_;omega)).trans ha3 (Nat.le_refl _),(l1.trans ext.le (by show ks.nx<=ks.nx+_;omega)).trans hl3 (Nat.le_refl _)⟩
      |ret=>obtain⟨v,rfl,j⟩:=hx (by simp) k1;exact j
      |exit id=>obtain⟨v,rfl,j⟩:=hx (by simp) k1;exact j
   .simp at hs'
 |exit id=>intro R F ks κ r V f h hs hr;exact xf ⟨ks,V,f,rfl,hr,hs,Ext.refl _ _ _⟩
 |ret=>intro R F ks κ r V f h hs hr;exact Am ⟨ks,V,f,rfl,hr,hs,Ext.refl _ _ _⟩
 |label l=>intro R F ks κ r V f h hs hr;exact BC ⟨ks,V,f,rfl,hr,hs,Ext.refl _ _ _⟩
 |scope b ih=>
  intro R F ks κ r V f h hs hr;exact BD (ih R F ks κ r V f h hs hr)
 |_=>intro R F ks κ r V f h hs hr;simp [dS]at hs
end
end K
end Ev
end
noncomputable section
namespace Ev
namespace K
open Go Go.RowKit
section
variable {E : Env} {n : Nat} {F : KF} {ks : KS} {V : Vl} {f : Nat → D} {h : Heap} {G : KG} {D0 : Nat}
theorem pG{k i j bz:Nat}{ag:Bool}{sz:Nat}{es:List (List C)}{e cs:List C}{d:D}(hg:ai h k=some (bz,es))(he:es[i]? =some e)(hc:Ev.cut e j sz=some cs)(hv:bY ag cs=some d):load h ag sz (.one (.ptr k i j))=some d:=by
 simp only [load,hg,zbB,zbS,he,hc,hv]
theorem Cn(hr:Rel F ks V f h){z:Nat×Bool}{a:KD}{a':D}{R:Type}{r:R}{κ:KD->Option R}(hs:eK F ks z a κ=some r)(ha:RD (aj F ks) V a a'):∃d d',κ d=some r/\load h z.2 (if z.2 then z.1 else 1) a'=some d'/\RD (aj F ks) V d d'/\ScD ks.nx d:=by
 have hz:wd z=if z.2 then z.1 else 1:=by unfold wd;cases z.2<;>rfl
 cases a with
 |tup ts=>simp [eK]at hs
 |agg cs=>simp [eK]at hs
 |one c=>
  obtain⟨c',rfl,hc⟩:=ha
  cases c with
  |ptr p j=>
   simp only [eK]at hs;split at hs
   .rename_i cs hp;simp only [zbE]at hs;obtain⟨d2,⟨cs2,g1,g2⟩,g3⟩:=hs;obtain⟨g4,g5,sz,cs',g6,g7⟩:=hr.bl p _ hp;obtain⟨c2,g8,g9⟩:=g7.cut g1;obtain⟨d3,k1,k2,k3⟩:=dX g2 (fe g5 g1) g9;rw [show c'=_ from hc];exact⟨_,d3,g3,pG g6 rfl (by rw [<-hz];exact g8) k1,k2,k3⟩
   .simp at hs
  |ip e fr x i y j=>
   simp only [eK,zbE]at hs;obtain⟨d2,⟨cs2,g1,g2⟩,g3⟩:=hs;obtain⟨fl,e1,e2,e3⟩:=hc;obtain⟨c2,g8,g9⟩:=(cA (B:=aj F ks) (V:=V) e3 e y).cut g1;obtain⟨d3,k1,k2,k3⟩:=dX g2 (fe (dp ks.nx fr e y) g1) g9;refine⟨_,d3,g3,?_,k2,k3⟩;rw [e1];simp only [load,zbB,aJ (r:=e.row) e2,zbS];rw [<-hz,g8];exact k1
  |pe p i j=>
   simp only [eK]at hs;rw [hc.2];split at hs
   .rename_i e ne l hp;simp only [zbE]at hs;obtain⟨y,g0,d2,⟨cs2,g1,g2⟩,g3⟩:=hs;obtain⟨g4,g5,g6,_⟩:=hr.bl p _ hp;obtain⟨c2,g8,g9⟩:=(cA (B:=aj F ks) (V:=V) (λ_=>rfl) e y).cut g1;obtain⟨d3,k1,k2,k3⟩:=dX g2 (fe (dp ks.nx true e y) g1) g9;exact⟨_,d3,g3,pG g6 (gW g0).2 (by rw [<-hz];exact g8) k1,k2,k3⟩
   .rename_i e l hp;simp only [zbE]at hs;obtain⟨y,g0,d2,⟨cs2,g1,g2⟩,g3⟩:=hs;obtain⟨g4,g5,g6⟩:=hr.bl p _ hp;obtain⟨c2,g8,g9⟩:=(cA (B:=aj F ks) (V:=V) (λ_=>rfl) e y).cut g1;obtain⟨d3,k1,k2,k3⟩:=dX g2 (fe (dp ks.nx true e y) g1) g9;exact⟨_,d3,g3,pG (g6 (vH g0)) (gW g0).2 (by rw [<-hz];exact g8) k1,k2,k3⟩
   .simp at hs
  |_=>simp [eK]at hs
theorem oU(hG:GOk G E D0)(hr:Rel F ks V f h):∀{rv:List ResultVar} {R:Type} {r:R} {κ:List KD->Option R},vB G F ks rv κ=some r->∃ds ds',rv.mapM (bw E {t:=tab F.nt f,h:=h})=some ds'/\RDl (aj F ks) V ds ds'/\(∀d∈ds,ScD ks.nx d)/\κ ds=some r
 | [],R,r,κ,hs=>⟨[],[],rfl,rfl,by simp,hs⟩
 | .tmp t::rv,R,r,κ,hs=>by
  simp only [vB,zbE]at hs;obtain⟨d,g1,g2⟩:=hs;obtain⟨k1,k2,k3⟩:=hr.sl t d g1;obtain⟨ds,ds',e1,e2,e3,e4⟩:=oU hG hr g2;refine⟨d::ds,f t::ds',?_,⟨_,_,rfl,k3,e2⟩,λx hx=> ?_,e4⟩
  .rw [List.mapM_cons,e1];show((tab F.nt f)[t]?).bind _=_;rw [gg,if_pos k1];rfl
  .rcases List.mem_cons.1 hx with rfl|hx
   .exact k2
   .exact e3 x hx
 | .cell a ty::rv,R,r,κ,hs=>by
  simp only [vB]at hs;split at hs
  .rename_i z d hz hd;have hz':=vG hG hz;obtain⟨k1,k2,k3⟩:=hr.sl a d hd;obtain⟨v,v',g1,g2,g3,g4⟩:=Cn hr hs k3;obtain⟨ds,ds',e1,e2,e3,e4⟩:=oU hG hr g1;refine⟨v::ds,v'::ds',?_,⟨_,_,rfl,g3,e2⟩,λx hx=> ?_,e4⟩
   .unfold dU at hz';simp only [zbE,zsI]at hz';obtain⟨ti,w1,w2⟩:=hz';rw [List.mapM_cons,e1];show(((E.ti ty).bind λt'=>((tab F.nt f)[a]?).bind λd=>load h (aE t'.desc) (if aE t'.desc then t'.size else 1) d).bind _)=_;rw [w1,gg,if_pos k1];subst w2;simp only [zbS];rw [g2];rfl
   .rcases List.mem_cons.1 hx with rfl|hx
    .exact g4
    .exact e3 x hx
  .simp at hs
theorem um:∀{ds:List KD} {ds':List D} {ts:List (Bool×List KC)},tupK.tups ds=some ts->RDl (aj F ks) V ds ds'->(∀d∈ds,ScD ks.nx d)->RTs (aj F ks) V ts ds'/\∀x∈ts,Scs ks.nx x.2
 | [],ds',ts,h,hr,hs=>by
  have:=Option.some.inj (show some []=some ts from h)
  subst this;exact⟨hr,by simp⟩
 | .one c::r,ds',ts,h,⟨d,s,e,h1,h2⟩,hs=>by
  simp only [tupK.tups,Option.map_eq_some_iff]at h;obtain⟨ts',g1,rfl⟩:=h;obtain⟨k1,k2⟩:=um g1 h2 λx hx=>hs x (by simp [hx]);refine⟨⟨d,s,e,h1,k1⟩,λx hx=> ?_⟩;rcases List.mem_cons.1 hx with rfl|hx
  .exact λy hy=>by rw [List.mem_singleton.1 hy];exact hs (.one c) (by simp)
  .exact k2 x hx
 | .agg cs::r,ds',ts,h,⟨d,s,e,h1,h2⟩,hs=>by
  simp only [tupK.tups,Option.map_eq_some_iff]at h;obtain⟨ts',g1,rfl⟩:=h;obtain⟨k1,k2⟩:=um g1 h2 λx hx=>hs x (by simp [hx]);refine⟨⟨d,s,e,h1,k1⟩,λx hx=> ?_⟩;rcases List.mem_cons.1 hx with rfl|hx
  .exact hs (.agg cs) (by simp)
  .exact k2 x hx
 | .tup ts'::r,ds',ts,h,hr,hs=>by simp [tupK.tups]at h
theorem Gm{ds:List KD}{ds':List D}{d:KD}(h:tupK ds=some d)(hr:RDl (aj F ks) V ds ds')(hs:∀d∈ds,ScD ks.nx d):RD (aj F ks) V d (fK ds')/\ScD ks.nx d:=by
 match ds,h,hr,hs with
 | [x],h,⟨d',s,e,h1,h2⟩,hs=>
  cases h;rw [e,show s= []from h2];exact⟨h1,hs d (by simp)⟩
 | [],h,hr,hs=>
  cases h;rw [show ds'= []from hr];exact⟨⟨[],rfl,rfl⟩,λx hx=>by simp at hx⟩
 |x::x'::r,h,hr,hs=>
  have h':(tupK.tups (x::x'::r)).map KD.tup=some d:=h;rw [Option.map_eq_some_iff]at h';obtain⟨ts,g1,rfl⟩:=h';obtain⟨k1,k2⟩:=um g1 hr hs;obtain⟨d1,s1,e1,_,d2,s2,e2,_,_⟩:=hr;refine⟨⟨ds',?_,k1⟩,k2⟩;rw [e1,e2];rfl
theorem su:∀{l:List KD} {q i:Nat} {d:KD},af (sg q l) i=some d->∃j,i=q+j/\l[j]? =some d
 | [],q,i,d,h=>by simp [sg,af]at h
 |a::l,q,i,d,h=>by
  unfold sg at h;rw [av]at h;split at h
  .rename_i hi;cases h;exact⟨0,by omega,rfl⟩
  .obtain⟨j,h1,h2⟩:=su h;exact⟨j+1,by omega,by simpa using h2⟩
theorem zV{B:BK}:∀{l:List KD} {l':List D} {j:Nat} {d:KD},RDl B V l l'->l[j]? =some d->∃d',l'[j]? =some d'/\RD B V d d'
 | [],l',j,d,h,hj=>by simp at hj
 |a::l,l',0,d,⟨x,s,e,h1,h2⟩,hj=>by simp at hj;subst hj e;exact⟨x,rfl,h1⟩
 |a::l,l',j+1,d,⟨x,s,e,h1,h2⟩,hj=>by subst e;simpa using zV h2 (by simpa using hj)
theorem zW{B:BK}:∀{l:List KD} {l':List D},RDl B V l l'->l'.length=l.length
 | [],l',h=>by rw [show l'= []from h];rfl
 |a::l,l',⟨x,s,e,h1,h2⟩=>by rw [e,List.length_cons,List.length_cons,zW h2]
theorem sv{nt nx:Nat}{bl:List (Nat×KB)}{args:List KD}{args':List D}(hb:FX F {sl:= [],bl:=bl,nx:=nx} V h)(hs:∀d∈args,ScD nx d)(hr:RDl (aj F {sl:= [],bl:=bl,nx:=nx}) V args args')(hl:args.length<=nt):Rel {F with sl:= [],nt:=nt} {sl:=sg 0 args,bl:=bl,nx:=nx} V (fA args') h:=by
 refine⟨?_,hb.bl,hb.inj⟩;intro i d hd;have hd':aH (sg 0 args) [] i=some d:=hd;unfold aH at hd'
 cases hl':af (sg 0 args) i with
 |none=>rw [hl']at hd';simp [af]at hd'
 |some d0=>
  rw [hl']at hd';cases hd';obtain⟨j,h1,h2⟩:=su hl';rw [Nat.zero_add]at h1;subst h1;obtain⟨d',h3,h4⟩:=zV hr h2;have hi:i<args.length:=(List.getElem?_eq_some_iff.1 h2).1;refine⟨Nat.lt_of_lt_of_le hi hl,hs d (List.mem_of_getElem? h2),?_⟩;show RD _ _ d (args'.getD i aX);rw [List.getD_eq_getElem?_getD,h3];exact h4
theorem wa{e:Ex}(h:oA e=true):e= .normal∨e= .ret:=by
 cases e with
 |normal=>exact .inl rfl
 |ret=>exact .inr rfl
 |exit id=>simp [oA]at h
theorem we(hG:GOk G E D0)(A:fG):∀(c n:Nat),D0+c<=n->zG E n (xI G A c)
 |0,n,hn=>λR F k args ks κ r V h args' hs hb hsc hr=>by simp [xI]at hs
 |c+1,n,hn=>λR F k args ks κ r V h args' hs hb hsc hr=>by
  unfold xI at hs;split at hs
  .rename_i fi hfi;obtain⟨g1,g2⟩:=hG.fi k fi hfi;split at hs
   .rename_i hlen
    match n,hn with
    |n0+1,hn=>
     refine⟨n0,fi,rfl,g1,g2,by rw [zW hr];exact hlen,?_⟩;have hrel:Rel {F with sl:= [],nt:=fi.nt} {ks with sl:=sg 0 args} V (fA args') h:=sv ⟨hb.bl,hb.inj⟩ hsc hr hlen;refine(vZ (y:=nY) hG (by omega) (we hG A c n0 (by omega)) fi.body R _ _ _ r V _ h hs hrel).mono λe s hp=> ?_;obtain⟨ks',V',f',h1,h2,h3,h4⟩:=hp;obtain⟨t,hh⟩:=s;simp only at h1 h2;subst h1;dsimp only at h3
     cases he:oA e with
     |false=>rw [he]at h3;simp at h3
     |true=>
      rw [he]at h3;obtain⟨ds,ds',e1,e2,e3,e4⟩:=oU hG h2 h3;rw [zbE]at e4;obtain⟨d,e5,e6⟩:=e4;obtain⟨k1,k2⟩:=Gm e5 e2 e3;exact⟨wa he,ds',e1,ks',V',d,e6,k2,k1,⟨h2.bl,h2.inj⟩,⟨h4.nx,h4.agree,h4.le,h4.dom⟩⟩
   .simp at hs
  .simp at hs
theorem ku:∀{e:Ty} (x:e.val),e.plain=true->(aZ e.row x).all jW=true
 | .I _,_,_=>rfl
 | .B,_,_=>rfl
 | .S _,_,hp=>by simp [Ty.plain]at hp
 | .U,_,_=>rfl
 | .C a b,x,hp=>by
  simp only [Ty.plain,Bool.and_eq_true]at hp;unfold aZ;show((a.row x.1++b.row x.2).map (pC true)).all jW=true;rw [List.map_append,List.all_append];have h1:=ku x.1 hp.1;have h2:=ku x.2 hp.2;unfold aZ at h1 h2;rw [h1,h2];rfl
theorem pH{B:BK}:∀{l:List (Bool×List KC)} {ds:List D},RTs B V l ds->RDl B V (l.map mkD) ds
 | [],ds,h=>h
 |x::l,ds,⟨d,s,e,h1,h2⟩=>⟨d,s,e,zB h1,pH h2⟩
theorem zX(fr:Bool):∀(ts:List TyD) (x:cl ts),(jc fr ts x).length=ts.length
 | [],_=>rfl
 | [t],x=>rfl
 |t::t'::r,x=>by show(jc fr (t'::r) x.2).length+1=_;rw [zX fr (t'::r)];rfl
theorem uq:∀(ts:List TyD) (x:cl ts),(dF ts x).length=ts.length
 | [],_=>rfl
 | [t],x=>rfl
 |t::t'::r,x=>by show(dF (t'::r) x.2).length+1=_;rw [uq (t'::r)];rfl
theorem AZ{B:BK}{ts:List TyD}{ds:List KD}{ds':List D}{x:cl ts}(hd:gn B ts ds=some x)(hr:RDl B V ds ds')(hno:nD ds=false):bJ h ds'=false:=by
 unfold bJ;split
 .rename_i k m
  match ds,hr,hno,hd with
  | [d],⟨y,s,e,h1,h2⟩,hno,hd=>
   rw [show s= []from h2]at e;simp only [List.cons.injEq,and_true]at e;subst e
   match ts,x,hd with
   | [t],x,hd=>
    have hd':vu B t d=some x:=hd
    cases d with
    |one c=>
     obtain⟨c',e1,e2⟩:=h1;cases e1
     cases c with
     |o e p=>simp [nD]at hno
     |m e p=>simp [nD]at hno
     |n k y=>exact absurd (show C.own _ 0 _=_ from e2) (by simp)
     |b v=>exact absurd (show C.own _ 0 _=_ from e2) (by simp)
     |p t P d=>exact absurd e2.1 (by simp)
     |bv y=>exact absurd (show C.own _ 0 _=_ from e2) (by simp)
     |v y=>exact absurd (show C.own _ 0 _=_ from e2) (by simp)
     |nil=>exact absurd (show C.own _ 0 _=_ from e2) (by simp)
     |s e fr y=>obtain⟨fl,e3,_⟩:=e2;exact absurd e3 (by simp)
     |ptr p j=>exact absurd (show C.own _ 0 _=_ from e2) (by simp)
     |pe p i j=>exact absurd e2.2 (by simp)
     |ip e fr y i z j=>obtain⟨fl,e3,_⟩:=e2;exact absurd e3 (by simp)
     |clo fn ps=>exact absurd (show C.own _ 0 _=_ from e2) (by simp)
     |yld p=>exact absurd (show C.own _ 0 _=_ from e2) (by simp)
    |agg cs=>obtain⟨c',e1,_⟩:=h1;simp at e1
    |tup ts=>simp [vu]at hd'
   | [],x,hd=>simp [gn]at hd
   |_::_::_,x,hd=>simp [gn]at hd
  | [],hr,_,_=>exact absurd (show [_]=_ from hr) (by simp)
  |_::_::_,⟨y,s,e,h1,y2,s2,e2,_,_⟩,_,_=>rw [e2]at e;simp at e
 .rfl
theorem lE{rv:List ResultVar}{e:Ty}{l:List e.val}{k:Nat}{ex:Ex}{s:St}(he:ex= .normal∨ex= .ret)(hres:rv.mapM (bw E s)=some [.one (.own k 0 l.length)])(hg:ai s.h k=some (e.size,l.map (aZ e.row)))(hp:e.plain=true):gZ E rv (.own,[.one (.s true e.size (l.map e.row))]) ex s:=by
 have ho:bJ s.h [.one (.own k 0 l.length)]=true:=by
  simp only [bJ,hg,List.length_map,BEq.rfl,Bool.true_and,List.all_map];rw [List.all_eq_true];exact λx _=>ku x hp
 have hv:br s.h (.one (.own k 0 l.length))=some (true,.one (.s true e.size (l.map e.row))):=by
  show(cm s.h 6 _).bind _=_;rw [qD (r:=e.row) (L:= [[(k,e.size,l.map (aZ e.row))]]) 0 rfl (λx h m=>rd m) s.h (eX hg) 4];rfl
 have key:bm (λq:Kind×List TD=>q=(.own,[.one (.s true e.size (l.map e.row))])) ((rv.mapM (bw E s)).bind λrs=>(rs.mapM (br s.h)).map λl=>(if bJ s.h rs then .own else if l.all (·.1)then .fresh else .any,l.map (·.2))):=by
  rw [hres];simp only [zbS,List.mapM_cons,hv,List.mapM_nil,Option.pure_def,zbB,Option.map_some,ho];rfl
 rcases he with rfl|rfl<;>exact key
theorem gz{rv:List ResultVar}{ds':List D}{l:List (Bool×TD)}{ex:Ex}{s:St}(he:ex= .normal∨ex= .ret)(hres:rv.mapM (bw E s)=some ds')(hv:ds'.mapM (br s.h)=some l)(ho:bJ s.h ds'=false):gZ E rv (cond (l.all (·.1)) .fresh .any,l.map (·.2)) ex s:=by
 have key:bm (λq:Kind×List TD=>q=(cond (l.all (·.1)) .fresh .any,l.map (·.2))) ((rv.mapM (bw E s)).bind λrs=>(rs.mapM (br s.h)).map λl=>(if bJ s.h rs then .own else if l.all (·.1)then .fresh else .any,l.map (·.2))):=by
  rw [hres];simp only [zbS,hv,Option.map_some,ho];show(_,_)=(_,_);cases l.all (·.1)<;>rfl
 rcases he with rfl|rfl<;>exact key
theorem Gn(hG:GOk G E D0)(A:fG){fi:FI}{k:FuncId}{c:Nat}{ins:List TyD}{ok:OutK}{x:cl ins}{out:ok.val}(hax:E.ax k=none)(hf:E.fn k=some fi)(hl:ins.length<=fi.nt)(hs:gO G A fi k c ins ok x=some out)(m:Nat):AF E (m+(D0+c)+1) k (dF ins x) ok out:=by
 unfold gO at hs;have hb:FX {nt:=fi.nt} {sl:= [],bl:= [],nx:=0} ⟨λ_=>0,λ_=>false⟩ []:=⟨λp b hb=>by simp [aj,aH,af]at hb,λp q b b' hb=>by simp [aj,aH,af]at hb⟩;have hargs:RDl (aj {nt:=fi.nt} {sl:= [],bl:= [],nx:=0}) ⟨λ_=>0,λ_=>false⟩ ((jc false ins x).map mkD) ((dF ins x).map (bu false)):=pH (mE (λh=>h) ins x)
 have hsc:∀d∈(jc false ins x).map mkD,ScD 0 d:=λd hd=>by
  obtain⟨y,h1,rfl⟩:=List.mem_map.1 hd;exact pk (re 0 false ins x y h1)
 have hrel:Rel {nt:=fi.nt} {sl:=AD ins x,bl:= [],nx:=0} ⟨λ_=>0,λ_=>false⟩ (fA ((dF ins x).map (bu false))) []:=sv (F:={nt:=fi.nt}) hb hsc hargs (by rw [List.length_map,zX];exact hl);have hw:=vZ (y:=nY) (n:=m+(D0+c)) hG (by omega) (we hG A c _ (by omega)) fi.body ok.val _ _ _ out _ _ [] hs hrel;have hend:∀r,(∀e s,PostC {nt:=fi.nt} {sl:=AD ins x,bl:= [],nx:=0} ⟨λ_=>0,λ_=>false⟩ (λe ks=>cond (oA e) (vB G {nt:=fi.nt} ks fi.results λds=>vC (aj {nt:=fi.nt} ks) ok ds) none) out e s->gZ E fi.results r e s)->RunsP E (m+(D0+c)+1) k (dF ins x) r:=λr hq=>mm hax hf (by rw [uq];exact hl) (hw.mono hq)
 have hopen:∀e s,PostC {nt:=fi.nt} {sl:=AD ins x,bl:= [],nx:=0} ⟨λ_=>0,λ_=>false⟩ (λe ks=>cond (oA e) (vB G {nt:=fi.nt} ks fi.results λds=>vC (aj {nt:=fi.nt} ks) ok ds) none) out e s->∃ks' V' f' ds ds',(e= .normal∨e= .ret)/\Rel {nt:=fi.nt} ks' V' f' s.h/\fi.results.mapM (bw E s)=some ds'/\RDl (aj {nt:=fi.nt} ks') V' ds ds'/\vC (aj {nt:=fi.nt} ks') ok ds=some out:=by
  intro e s hp;obtain⟨ks',V',f',h1,h2,h3,h4⟩:=hp;obtain⟨t,hh⟩:=s;simp only at h1 h2;subst h1;dsimp only at h3
  cases he:oA e with
  |false=>rw [he]at h3;simp at h3
  |true=>
   rw [he]at h3;obtain⟨ds,ds',e1,e2,e3,e4⟩:=oU hG h2 h3;exact⟨ks',V',f',ds,ds',wa he,h2,e1,e2,e4⟩
 cases ok with
 |data fr ts=>
  have hdata:∀(ks':KS) (V':Vl) (ds:List KD) (ds':List D) (hh:Heap) (f':Nat->D),Rel {nt:=fi.nt} ks' V' f' hh->RDl (aj {nt:=fi.nt} ks') V' ds ds'->vC (aj {nt:=fi.nt} ks') (.data fr ts) ds=some out->∃l,ds'.mapM (br hh)=some l/\l.map (·.2)=dF ts out/\(fr=true->l.all (·.1)=true)/\bJ hh ds'=false:=by
   intro ks' V' ds ds' hh f' h2 e2 e4;unfold vC at e4;simp only at e4;split at e4
   .simp at e4
   .rename_i hc;obtain⟨l,l1,l2,l3⟩:=kV h2.bls e4 e2
    have hno:nD ds=false:=by cases ho:nD ds with|true=>simp [ho]at hc|false=>rfl
    refine⟨l,l1,l2,λhfr=>l3 ?_,AZ e4 e2 hno⟩
    cases ha:ds.all frD with
    |true=>rfl
    |false=>simp [hfr,ha]at hc
  cases fr with
  |true=>
   refine hend _ λe s hp=> ?_;obtain⟨ks',V',f',ds,ds',he,h2,e1,e2,e4⟩:=hopen e s hp;obtain⟨l,l1,l2,l3,l4⟩:=hdata ks' V' ds ds' s.h f' h2 e2 e4
   have:=gz (E:=E) he e1 l1 l4
   rw [l3 rfl,l2]at this;exact this
  |false=>
   -- is it new? that is settled when it has run
   obtain⟨e,s,hrun,hp⟩:=hw;obtain⟨ks',V',f',ds,ds',he,h2,e1,e2,e4⟩:=hopen e s hp;obtain⟨l,l1,l2,_,l4⟩:=hdata ks' V' ds ds' s.h f' h2 e2 e4
   have:=gz (E:=E) he e1 l1 l4
   rw [l2]at this;exact⟨l.all (·.1),mm hax hf (by rw [uq];exact hl) ⟨e,s,hrun,this⟩⟩
 |own ty=>
  refine hend _ λe s hp=> ?_;obtain⟨ks',V',f',ds,ds',he,h2,e1,e2,e4⟩:=hopen e s hp;unfold vC at e4;simp only at e4;unfold FE at e4;split at e4
  .rename_i e0 p;split at e4
   .rename_i e' ne l hB;split at e4
    .rename_i hpl;rw [Option.map_eq_some_iff]at e4;obtain⟨l2,g0,rfl⟩:=e4;obtain⟨hty,g0⟩:=aI g0;cases hty;subst g0;obtain⟨y,s',e5,⟨c',e6,e7⟩,e8⟩:=e2;rw [show s'= []from e8]at e5;rw [e5,e6,e7 _ _ _ hB]at e1;exact lE he e1 (h2.bl p _ hB).2.2.1 hpl
    .simp at e4
   .simp at e4
  .simp at e4
 |mown ty=>
  refine hend _ λe s hp=> ?_;obtain⟨ks',V',f',ds,ds',he,h2,e1,e2,e4⟩:=hopen e s hp
  have hnil:∀{ds'':List D},RDl (aj {nt:=fi.nt} ks') V' [.one .nil] ds''->fi.results.mapM (bw E s)=some ds''->gZ E fi.results (BM ty.size ty.row []) e s:=by
   intro ds'' e2 e1;obtain⟨y,s',e5,⟨c',e6,e7⟩,e8⟩:=e2;rw [show s'= []from e8]at e5;rw [e5,e6,show c'=_ from e7]at e1;exact gz (E:=E) (l:= [(true,.one (.s false 0 []))]) he e1 rfl rfl
  unfold vC at e4;simp only at e4;unfold AB at e4;split at e4
  .cases e4;exact hnil e2 e1
  .rename_i e0 p;split at e4
   .rename_i e' l hB;split at e4
    .rename_i hpl;rw [Option.map_eq_some_iff]at e4;obtain⟨l2,g0,rfl⟩:=e4;obtain⟨hty,g0⟩:=aI g0;cases hty;subst g0;obtain⟨y,s',e5,⟨c',e6,e7⟩,e8⟩:=e2;rw [show s'= []from e8]at e5;rw [e5,e6,e7 _ _ hB]at e1
     cases l with
     |nil=>exact gz (E:=E) (l:= [(true,.one (.s false 0 []))]) he e1 rfl rfl
     |cons a l=>exact lE he e1 ((h2.bl p _ hB).2.2 (by simp)) hpl
    .simp at e4
   .simp at e4
  .rename_i e0 p;split at e4
   .rename_i e' ne l hB;split at e4
    .rename_i hpl;rw [Bool.and_eq_true]at hpl;rw [Option.map_eq_some_iff]at e4;obtain⟨l2,g0,rfl⟩:=e4;obtain⟨hty,g0⟩:=aI g0;cases hty;subst g0;obtain⟨y,s',e5,⟨c',e6,e7⟩,e8⟩:=e2;rw [show s'= []from e8]at e5;rw [e5,e6,e7 _ _ _ hB]at e1;obtain⟨w1,w2,w3,w4⟩:=h2.bl p _ hB
     cases l with
     |nil=>exact absurd rfl (w4 hpl.2)
     |cons a l=>exact lE he e1 w3 hpl.1
    .simp at e4
   .simp at e4
  .simp at e4
 |gown ty=>
  refine hend _ λe s hp=> ?_;obtain⟨ks',V',f',ds,ds',he,h2,e1,e2,e4⟩:=hopen e s hp;unfold vC at e4;simp only at e4;unfold AC at e4;split at e4
  .cases e4;obtain⟨y,s',e5,⟨c',e6,e7⟩,e8⟩:=e2;rw [show s'= []from e8]at e5;rw [e5,e6,show c'=_ from e7]at e1;exact gz (E:=E) (l:= [(true,.one (.s false 0 []))]) he e1 rfl rfl
  .rename_i e0 p;split at e4
   .rename_i e' l hB;split at e4
    .rename_i hpl;rw [Option.map_eq_some_iff]at e4;obtain⟨l2,g0,rfl⟩:=e4;obtain⟨hty,g0⟩:=aI g0;cases hty;subst g0;obtain⟨y,s',e5,⟨c',e6,e7⟩,e8⟩:=e2;rw [show s'= []from e8]at e5;rw [e5,e6,e7 _ _ hB]at e1
     cases l with
     |nil=>exact gz (E:=E) (l:= [(true,.one (.s false 0 []))]) he e1 rfl rfl
     |cons a l=>exact lE he e1 ((h2.bl p _ hB).2.2 (by simp)) hpl
    .simp at e4
   .simp at e4
  .rename_i e0 p;split at e4
   .rename_i e' ne l hB;split at e4
    .rename_i hpl;rw [Option.map_eq_some_iff]at e4;obtain⟨l2,g0,rfl⟩:=e4;obtain⟨hty,g0⟩:=aI g0;cases hty;subst g0;obtain⟨y,s',e5,⟨c',e6,e7⟩,e8⟩:=e2;rw [show s'= []from e8]at e5;rw [e5,e6,e7 _ _ _ hB]at e1;exact lE he e1 (h2.bl p _ hB).2.2.1 hpl
    .simp at e4
   .simp at e4
  .simp at e4
end
end K
end Ev
end
noncomputable section
namespace Ev
namespace K
open Go Go.RowKit
def IL(E:Env)(D:Nat):List cK->Prop
 | []=>True
 |e::r=>(e.d<=D/\cn E e)/\IL E D r
def IM(E:Env):List (FuncId×FI)->Prop
 | []=>True
 |x::r=>(E.fn x.1=some x.2/\E.ax x.1=some λ_=>none)/\IM E r
def Co(E:Env):List (Nat×TI)->Prop
 | []=>True
 |x::r=>E.ti x.1=some x.2/\Co E r
def Cp(P:Program):List (Nat×List IntKind)->Prop
 | []=>True
 |x::r=>HU P x.1 x.2/\Cp P r
theorem wg{E:Env}{D:Nat}:∀{l:List cK},IL E D l->∀e∈l,e.d<=D/\cn E e
 | [],_,e,h=>by simp at h
 |a::l,⟨h1,h2⟩,e,h=>by
  rcases List.mem_cons.1 h with rfl|h
  .exact h1
  .exact wg h2 e h
theorem sw{E:Env}:∀{l:List (FuncId×FI)},IM E l->∀k f,af l k=some f->E.fn k=some f/\E.ax k=some λ_=>none
 | [],_,k,f,h=>by simp [af]at h
 |a::l,⟨h1,h2⟩,k,f,h=>by
  rw [show a::l=(a.1,a.2)::l from rfl,av]at h;split at h
  .rename_i hk;cases h;subst hk;exact h1
  .exact sw h2 k f h
theorem sx{E:Env}:∀{l:List (Nat×TI)},Co E l->∀k f,af l k=some f->E.ti k=some f
 | [],_,k,f,h=>by simp [af]at h
 |a::l,⟨h1,h2⟩,k,f,h=>by
  rw [show a::l=(a.1,a.2)::l from rfl,av]at h;split at h
  .rename_i hk;cases h;subst hk;exact h1
  .exact sx h2 k f h
theorem sy{P:Program}:∀{l:List (Nat×List IntKind)},Cp P l->∀k f,af l k=some f->HU P k f
 | [],_,k,f,h=>by simp [af]at h
 |a::l,⟨h1,h2⟩,k,f,h=>by
  rw [show a::l=(a.1,a.2)::l from rfl,av]at h;split at h
  .rename_i hk;cases h;subst hk;exact h1
  .exact sy h2 k f h
theorem gok{E:Env}{D:Nat}{tt:List (Nat×TI)}{eqs:List (Nat×List IntKind)}{fns:List cK}{fi:List (FuncId×FI)}(hE:E.Ok)(ht:Co E tt)(hq:Cp E.P eqs)(hf:IL E D fns)(hi:IM E fi):GOk ⟨tt,eqs,fns,fi⟩ E D:=⟨hE,sx ht,sy hq,wg hf,sw hi⟩
def mkE(G:KG)(A:fG)(fi:FI)(k:FuncId)(c:Nat)(ins:List TyD)(out:OutK)(d:Nat):cK:=⟨k,ins,out,gO G A fi k c ins out,d⟩
theorem fu{E:Env}{D:Nat}{G:KG}{A:fG}{fi:FI}{k:FuncId}{c:Nat}{ins:List TyD}{out:OutK}{d:Nat}(hG:GOk G E D)(hax:E.ax k=none)(hf:E.fn k=some fi)(hl:Nat.ble ins.length fi.nt=true)(hd:D+c+1=d):cn E (mkE G A fi k c ins out d):=λm a o h=>by
 subst hd;exact Gn hG A hax hf (Nat.le_of_ble_eq_true hl) h m
def fiF(f:Func):FI:=⟨f.ntmps,f.results.toList,f.body.getD .skip⟩
theorem iv{P:Program}{k:FuncId}{f:Func}{b:Code}(h:P.funcs[k]? =some f)(hb:f.body=some b):jE P k=some (fiF f):=by
 unfold jE fiF;rw [h];simp only [hb];rfl
theorem Ij{P:Program}{ty:TypeId}{k0 k1:IntKind}(h:∀(x y:Operand) (a0 b0 a1 b1:Int),ae P (do eqGuard .eql ty x y (.agg #[.int k0 a0,.int k1 a1]) (.agg #[.int k0 b0,.int k1 b1]);binOp .eql ty (.agg #[.int k0 a0,.int k1 a1]) (.agg #[.int k0 b0,.int k1 b1]))=some (.bool (a0==b0 &&(a1==b1 && true))))
  (h':∀(x y:Operand) (a0 b0 a1 b1:Int),ae P (do eqGuard .neq ty x y (.agg #[.int k0 a0,.int k1 a1]) (.agg #[.int k0 b0,.int k1 b1]);binOp .neq ty (.agg #[.int k0 a0,.int k1 a1]) (.agg #[.int k0 b0,.int k1 b1]))=some (.bool (!(a0==b0 &&(a1==b1 && true))))):HU P ty [k0,k1]:=λx y l hl=>by
 match l,hl with
 | [(a0,b0),(a1,b1)],_=>
  have e:(a0==b0 &&(a1==b1 && true))= @decide (eqP [(a0,b0),(a1,b1)]) (eqD [(a0,b0),(a1,b1)]):=dZ (by simp [eqP]);exact⟨(h x y a0 b0 a1 b1).trans (by rw [e]),(h' x y a0 b0 a1 b1).trans (by rw [e])⟩
end K
@[reducible] def nE {R:Type} (v:Empty):Option R:=K.afterX.match_1 (λ_=>Option R) v
end Ev
end
noncomputable section
namespace Ev
namespace K
open Go Go.RowKit
set_option maxRecDepth 100000
set_option maxHeartbeats 1000000
def i1:TI:=(⟨.func #[] #[] false,[.nilFunc],1,8⟩:TI)
def i4:TI:=(⟨.bool,[.bool false],1,1⟩:TI)
def i7:TI:=(⟨.struct (aG Try.prog 7),[.int .i64 0,.int .i64 0,.bool false,.int .u8 0],4,24⟩:TI)
def i8:TI:=(⟨.struct (aG Try.prog 8),[.int .i64 0,.int .i64 0,.bool false,.int .u8 0],4,24⟩:TI)
def i15:TI:=(⟨.pointer 166,[.pointer none],1,8⟩:TI)
def i16:TI:=(⟨.pointer 169,[.pointer none],1,8⟩:TI)
def i17:TI:=(⟨.pointer 178,[.pointer none],1,8⟩:TI)
def i18:TI:=(⟨.struct (aG Try.prog 18),[.pointer none],1,8⟩:TI)
def i19:TI:=(⟨.struct (aG Try.prog 19),[.pointer none],1,8⟩:TI)
def i23:TI:=(⟨.slice 3,[.slice none 0 0],1,24⟩:TI)
def i24:TI:=(⟨.slice 2,[.slice none 0 0],1,24⟩:TI)
def i25:TI:=(⟨.struct (aG Try.prog 25),[.int .i64 0,.int .i64 0,.slice none 0 0,.slice none 0 0,.slice none 0 0,.slice none 0 0],6,112⟩:TI)
def i26:TI:=(⟨.struct (aG Try.prog 26),[.int .i64 0,.int .i64 0,.slice none 0 0,.slice none 0 0,.slice none 0 0,.slice none 0 0],6,112⟩:TI)
def i27:TI:=(⟨.slice 62,[.slice none 0 0],1,24⟩:TI)
def i28:TI:=(⟨.struct (aG Try.prog 28),[.int .i64 0,.slice none 0 0],2,32⟩:TI)
def i29:TI:=(⟨.struct (aG Try.prog 29),[.int .i64 0,.slice none 0 0],2,32⟩:TI)
def i30:TI:=(⟨.func #[] #[4] false,[.nilFunc],1,8⟩:TI)
def i31:TI:=(⟨.func #[29] #[29] false,[.nilFunc],1,8⟩:TI)
def i32:TI:=(⟨.slice 69,[.slice none 0 0],1,24⟩:TI)
def i35:TI:=(⟨.func #[22,26,29,44,4] #[32,33] false,[.nilFunc],1,8⟩:TI)
def i36:TI:=(⟨.func #[32,32] #[4] false,[.nilFunc],1,8⟩:TI)
def i37:TI:=(⟨.func #[22,26,29] #[4] false,[.nilFunc],1,8⟩:TI)
def i38:TI:=(⟨.slice 32,[.slice none 0 0],1,24⟩:TI)
def i39:TI:=(⟨.func #[22,38] #[32,33] true,[.nilFunc],1,8⟩:TI)
def i40:TI:=(⟨.func #[22,38] #[32,33] false,[.nilFunc],1,8⟩:TI)
def i41:TI:=(⟨.func #[22,38] #[4] false,[.nilFunc],1,8⟩:TI)
def i42:TI:=(⟨.array 2 5,[.int .u8 0,.int .u8 0],2,2⟩:TI)
def i43:TI:=(⟨.slice 60,[.slice none 0 0],1,24⟩:TI)
def i44:TI:=(⟨.slice 65,[.slice none 0 0],1,24⟩:TI)
def i45:TI:=(⟨.struct (aG Try.prog 45),[.int .i64 0,.int .u8 0,.int .u8 0,.slice none 0 0,.slice none 0 0,.slice none 0 0,.slice none 0 0,.bool false],8,120⟩:TI)
def i46:TI:=(⟨.struct (aG Try.prog 46),[.int .i64 0,.int .u8 0,.int .u8 0,.slice none 0 0,.slice none 0 0,.slice none 0 0,.slice none 0 0,.bool false],8,120⟩:TI)
def i47:TI:=(⟨.func #[22] #[22] false,[.nilFunc],1,8⟩:TI)
def i48:TI:=(⟨.struct (aG Try.prog 48),[.int .i64 0,.int .i64 0,.slice none 0 0,.slice none 0 0,.slice none 0 0],5,88⟩:TI)
def i49:TI:=(⟨.struct (aG Try.prog 49),[.int .i64 0,.int .i64 0,.slice none 0 0,.slice none 0 0,.slice none 0 0],5,88⟩:TI)
def i50:TI:=(⟨.func #[] #[49] false,[.nilFunc],1,8⟩:TI)
def i51:TI:=(⟨.func #[27] #[29] false,[.nilFunc],1,8⟩:TI)
def i52:TI:=(⟨.func #[49] #[26] false,[.nilFunc],1,8⟩:TI)
def i53:TI:=(⟨.func #[49,54,54] #[49] false,[.nilFunc],1,8⟩:TI)
def i54:TI:=(⟨.array 2 3,[.int .i64 0,.int .i64 0],2,16⟩:TI)
def i55:TI:=(⟨.func #[29,3,3] #[29] false,[.nilFunc],1,8⟩:TI)
def i56:TI:=(⟨.func #[46,5] #[4] false,[.nilFunc],1,8⟩:TI)
def i58:TI:=(⟨.func #[22,3,3,43] #[49,33] false,[.nilFunc],1,8⟩:TI)
def i59:TI:=(⟨.struct (aG Try.prog 59),[.int .i64 0,.int .i64 0,.int .i64 0],3,24⟩:TI)
def i60:TI:=(⟨.struct (aG Try.prog 60),[.int .i64 0,.int .i64 0,.int .i64 0],3,24⟩:TI)
def i61:TI:=(⟨.struct (aG Try.prog 61),[.int .i64 0,.int .i64 0],2,16⟩:TI)
def i62:TI:=(⟨.struct (aG Try.prog 62),[.int .i64 0,.int .i64 0],2,16⟩:TI)
def i64:TI:=(⟨.func #[22,26,29,44,4] #[29,33] false,[.nilFunc],1,8⟩:TI)
def i66:TI:=(⟨.struct (aG Try.prog 66),[.int .i64 0,.int .u64 0],2,16⟩:TI)
def i67:TI:=(⟨.struct (aG Try.prog 67),[.int .i64 0,.int .u64 0],2,16⟩:TI)
def i68:TI:=(⟨.struct (aG Try.prog 68),[.int .i64 0,.int .i64 0,.int .u64 0],3,24⟩:TI)
def i69:TI:=(⟨.struct (aG Try.prog 69),[.int .i64 0,.int .i64 0,.int .u64 0],3,24⟩:TI)
def i70:TI:=(⟨.func #[26,29] #[3] false,[.nilFunc],1,8⟩:TI)
def i71:TI:=(⟨.func #[22] #[4] false,[.nilFunc],1,8⟩:TI)
def i72:TI:=(⟨.func #[26] #[26] false,[.nilFunc],1,8⟩:TI)
def i73:TI:=(⟨.func #[29] #[4] false,[.nilFunc],1,8⟩:TI)
def i74:TI:=(⟨.slice 80,[.slice none 0 0],1,24⟩:TI)
def i77:TI:=(⟨.func #[26,29] #[76] false,[.nilFunc],1,8⟩:TI)
def i78:TI:=(⟨.pointer 80,[.pointer none],1,8⟩:TI)
def i79:TI:=(⟨.struct (aG Try.prog 79),[.int .i64 0,.int .u64 0,.bool false],3,24⟩:TI)
def i80:TI:=(⟨.struct (aG Try.prog 80),[.int .i64 0,.int .u64 0,.bool false],3,24⟩:TI)
def i81:TI:=(⟨.func #[22,2,2] #[67] false,[.nilFunc],1,8⟩:TI)
def i82:TI:=(⟨.func #[22,67,67] #[67] false,[.nilFunc],1,8⟩:TI)
def i83:TI:=(⟨.func #[44,3] #[4] false,[.nilFunc],1,8⟩:TI)
def i84:TI:=(⟨.func #[22,49,87,44,4] #[32,33] false,[.nilFunc],1,8⟩:TI)
def i85:TI:=(⟨.func #[26] #[49] false,[.nilFunc],1,8⟩:TI)
def i86:TI:=(⟨.struct (aG Try.prog 86),[.int .i64 0,.slice none 0 0,.slice none 0 0],3,56⟩:TI)
def i87:TI:=(⟨.struct (aG Try.prog 87),[.int .i64 0,.slice none 0 0,.slice none 0 0],3,56⟩:TI)
def i88:TI:=(⟨.func #[29] #[87] false,[.nilFunc],1,8⟩:TI)
def i89:TI:=(⟨.pointer 93,[.pointer none],1,8⟩:TI)
def i92:TI:=(⟨.struct (aG Try.prog 92),[.slice none 0 0],1,24⟩:TI)
def i93:TI:=(⟨.struct (aG Try.prog 93),[.slice none 0 0],1,24⟩:TI)
def i94:TI:=(⟨.func #[32] #[4] false,[.nilFunc],1,8⟩:TI)
def i95:TI:=(⟨.func #[132,20] #[] false,[.nilFunc],1,8⟩:TI)
def i96:TI:=(⟨.struct (aG Try.prog 96),[.int .i64 0,.slice none 0 0],2,32⟩:TI)
def i97:TI:=(⟨.struct (aG Try.prog 97),[.int .i64 0,.slice none 0 0],2,32⟩:TI)
def i98:TI:=(⟨.func #[] #[3] false,[.nilFunc],1,8⟩:TI)
def i99:TI:=(⟨.func #[132] #[20] false,[.nilFunc],1,8⟩:TI)
def LM:TI:=(⟨.func #[22,32,69] #[32] false,[.nilFunc],1,8⟩:TI)
def LN:TI:=(⟨.func #[22,32,32] #[32] false,[.nilFunc],1,8⟩:TI)
def LO:TI:=(⟨.func #[42,43] #[49] false,[.nilFunc],1,8⟩:TI)
def LP:TI:=(⟨.func #[22,2] #[2] false,[.nilFunc],1,8⟩:TI)
def LR:TI:=(⟨.func #[5,27] #[29] false,[.nilFunc],1,8⟩:TI)
def LS:TI:=(⟨.func #[5] #[3] false,[.nilFunc],1,8⟩:TI)
def LT:TI:=(⟨.func #[49] #[49] false,[.nilFunc],1,8⟩:TI)
def LU:TI:=(⟨.func #[49,3] #[27] false,[.nilFunc],1,8⟩:TI)
def LV:TI:=(⟨.func #[49] #[43] false,[.nilFunc],1,8⟩:TI)
def LW:TI:=(⟨.func #[3,3,43] #[49] false,[.nilFunc],1,8⟩:TI)
def LX:TI:=(⟨.slice 112,[.slice none 0 0],1,24⟩:TI)
def LY:TI:=(⟨.struct (aG Try.prog 111),[.int .i64 0,.int .i64 0,.int .i64 0],3,24⟩:TI)
def LZ:TI:=(⟨.struct (aG Try.prog 112),[.int .i64 0,.int .i64 0,.int .i64 0],3,24⟩:TI)
def Ma:TI:=(⟨.func #[22,110] #[110,33] false,[.nilFunc],1,8⟩:TI)
def Mb:TI:=(⟨.func #[22,3,32] #[29,33] false,[.nilFunc],1,8⟩:TI)
def Mc:TI:=(⟨.func #[26,23] #[3] false,[.nilFunc],1,8⟩:TI)
def Md:TI:=(⟨.func #[29] #[23] false,[.nilFunc],1,8⟩:TI)
def Me:TI:=(⟨.func #[26] #[4] false,[.nilFunc],1,8⟩:TI)
def Mf:TI:=(⟨.func #[3] #[4] false,[.nilFunc],1,8⟩:TI)
def Mh:TI:=(⟨.func #[3,2] #[4] false,[.nilFunc],1,8⟩:TI)
def Mi:TI:=(⟨.func #[2] #[67] false,[.nilFunc],1,8⟩:TI)
def Mj:TI:=(⟨.func #[67,67] #[67] false,[.nilFunc],1,8⟩:TI)
def Mk:TI:=(⟨.func #[4] #[67] false,[.nilFunc],1,8⟩:TI)
def Ml:TI:=(⟨.func #[2,2] #[67] false,[.nilFunc],1,8⟩:TI)
def Mm:TI:=(⟨.func #[3] #[65] false,[.nilFunc],1,8⟩:TI)
def Mn:TI:=(⟨.func #[87] #[29] false,[.nilFunc],1,8⟩:TI)
def Mo:TI:=(⟨.func #[29,3] #[2,4] false,[.nilFunc],1,8⟩:TI)
def Mp:TI:=(⟨.func #[3] #[87] false,[.nilFunc],1,8⟩:TI)
def Mq:TI:=(⟨.func #[3,23] #[44] false,[.nilFunc],1,8⟩:TI)
def Mr:TI:=(⟨.func #[20] #[] false,[.nilFunc],1,8⟩:TI)
def Ms:TI:=(⟨.func #[132,3] #[] false,[.nilFunc],1,8⟩:TI)
def Mt:TI:=(⟨.func #[3,3] #[] false,[.nilFunc],1,8⟩:TI)
def Mu:TI:=(⟨.func #[132,3,3] #[4] false,[.nilFunc],1,8⟩:TI)
def Mv:TI:=(⟨.func #[] #[20] false,[.nilFunc],1,8⟩:TI)
def Mw:TI:=(⟨.func #[43] #[43] false,[.nilFunc],1,8⟩:TI)
def My:TI:=(⟨.func #[3,3] #[49] false,[.nilFunc],1,8⟩:TI)
def Mz:TI:=(⟨.func #[22,3,27] #[29,33] false,[.nilFunc],1,8⟩:TI)
def MA:TI:=(⟨.func #[49] #[4] false,[.nilFunc],1,8⟩:TI)
def MB:TI:=(⟨.slice 67,[.slice none 0 0],1,24⟩:TI)
def MC:TI:=(⟨.func #[112,112] #[4] false,[.nilFunc],1,8⟩:TI)
def MD:TI:=(⟨.func #[67] #[2,4] false,[.nilFunc],1,8⟩:TI)
def ME:TI:=(⟨.func #[22,3,32] #[33] false,[.nilFunc],1,8⟩:TI)
def MF:TI:=(⟨.func #[22,67] #[2,4] false,[.nilFunc],1,8⟩:TI)
def MG:TI:=(⟨.func #[22] #[2] false,[.nilFunc],1,8⟩:TI)
def MH:TI:=(⟨.func #[26,3] #[3,3] false,[.nilFunc],1,8⟩:TI)
def MI:TI:=(⟨.func #[23,3] #[4] false,[.nilFunc],1,8⟩:TI)
def MJ:TI:=(⟨.func #[67,67] #[3] false,[.nilFunc],1,8⟩:TI)
def MK:TI:=(⟨.array 4 65,[.int .u64 0,.int .u64 0,.int .u64 0,.int .u64 0],4,32⟩:TI)
def ML:TI:=(⟨.func #[65,65] #[153] false,[.nilFunc],1,8⟩:TI)
def MM:TI:=(⟨.func #[67,3] #[67] false,[.nilFunc],1,8⟩:TI)
def MN:TI:=(⟨.func #[87] #[4] false,[.nilFunc],1,8⟩:TI)
def MO:TI:=(⟨.func #[44] #[23] false,[.nilFunc],1,8⟩:TI)
def MP:TI:=(⟨.func #[3] #[44] false,[.nilFunc],1,8⟩:TI)
def MQ:TI:=(⟨.func #[44,3] #[44] false,[.nilFunc],1,8⟩:TI)
def MR:TI:=(⟨.func #[3,3] #[4] false,[.nilFunc],1,8⟩:TI)
def MS:TI:=(⟨.func #[67] #[67] false,[.nilFunc],1,8⟩:TI)
def MT:TI:=(⟨.func #[3] #[3] false,[.nilFunc],1,8⟩:TI)
def MU:TI:=(⟨.func #[44,3,4] #[44] false,[.nilFunc],1,8⟩:TI)
def MV:TI:=(⟨.func #[] #[9] false,[.nilFunc],1,8⟩:TI)
def MW:TI:=(⟨.array 0 16,[],0,0⟩:TI)
def MX:TI:=(⟨.struct (aG Try.prog 168),[],0,0⟩:TI)
def MY:TI:=(⟨.struct (aG Try.prog 169),[],0,0⟩:TI)
def MZ:TI:=(⟨.int .u32,[.int .u32 0],1,4⟩:TI)
def Na:TI:=(⟨.func #[179,179] #[4] false,[.nilFunc],1,8⟩:TI)
def Nb:TI:=(⟨.pointer 5,[.pointer none],1,8⟩:TI)
def Nc:TI:=(⟨.struct (aG Try.prog 177),[.int .u64 0,.int .u64 0,.int .u32 0,.int .u8 0,.int .u8 0,.int .u8 0,.int .u8 0,.nilFunc,.pointer none,.int .i32 0,.int .i32 0],11,48⟩:TI)
def Nd:TI:=(⟨.struct (aG Try.prog 178),[.int .u64 0,.int .u64 0,.int .u32 0,.int .u8 0,.int .u8 0,.int .u8 0,.int .u8 0,.nilFunc,.pointer none,.int .i32 0,.int .i32 0],11,48⟩:TI)
def TT:List (Nat×TI):= [(1,i1),
 (2,(⟨.int .i64,[.int .i64 0],1,8⟩:TI)),
 (3,(⟨.int .i64,[.int .i64 0],1,8⟩:TI)),
 (4,i4),
 (5,(⟨.int .u8,[.int .u8 0],1,1⟩:TI)),
 (6,(⟨.int .u8,[.int .u8 0],1,1⟩:TI)),
 (7,i7),
 (8,i8),
 (12,(⟨.int .u64,[.int .u64 0],1,8⟩:TI)),
 (15,i15),
 (16,i16),
 (17,i17),
 (18,i18),
 (19,i19),
 (21,(⟨.int .i32,[.int .i32 0],1,4⟩:TI)),
 (22,(⟨.int .i64,[.int .i64 0],1,8⟩:TI)),
 (23,i23),
 (24,i24),
 (25,i25),
 (26,i26),
 (27,i27),
 (28,i28),
 (29,i29),
 (30,i30),
 (31,i31),
 (32,i32),
 (33,(⟨.int .i64,[.int .i64 0],1,8⟩:TI)),
 (35,i35),
 (36,i36),
 (37,i37),
 (38,i38),
 (39,i39),
 (40,i40),
 (41,i41),
 (42,i42),
 (43,i43),
 (44,i44),
 (45,i45),
 (46,i46),
 (47,i47),
 (48,i48),
 (49,i49),
 (50,i50),
 (51,i51),
 (52,i52),
 (53,i53),
 (54,i54),
 (55,i55),
 (56,i56),
 (58,i58),
 (59,i59),
 (60,i60),
 (61,i61),
 (62,i62),
 (64,i64),
 (65,(⟨.int .u64,[.int .u64 0],1,8⟩:TI)),
 (66,i66),
 (67,i67),
 (68,i68),
 (69,i69),
 (70,i70),
 (71,i71),
 (72,i72),
 (73,i73),
 (74,i74),
 (75,(⟨.func #[120] #[] false,[.nilFunc],1,8⟩:TI)),
 (76,(⟨.func #[120] #[] false,[.nilFunc],1,8⟩:TI)),
 (77,i77),
 (78,i78),
 (79,i79),
 (80,i80),
 (81,i81),
 (82,i82),
 (83,i83),
 (84,i84),
 (85,i85),
 (86,i86),
 (87,i87),
 (88,i88),
 (89,i89),
 (90,(⟨.slice 97,[.slice none 0 0],1,24⟩:TI)),
 (91,(⟨.slice 97,[.slice none 0 0],1,24⟩:TI)),
 (92,i92),
 (93,i93),
 (94,i94),
 (95,i95),
 (96,i96),
 (97,i97),
 (98,i98),
 (99,i99),
 (100,LM),
 (101,LN),
 (102,LO),
 (103,LP),
 (104,LR),
 (105,LS),
 (106,LT),
 (107,LU),
 (108,LV),
 (109,LW),
 (110,LX),
 (111,LY),
 (112,LZ),
 (114,Ma),
 (115,Mb),
 (116,Mc),
 (117,Md),
 (118,Me),
 (119,Mf),
 (120,Mh),
 (121,Mi),
 (122,Mj),
 (123,Mk),
 (124,Ml),
 (125,Mm),
 (126,Mn),
 (128,Mo),
 (129,Mp),
 (130,Mq),
 (133,Mr),
 (134,Ms),
 (135,Mt),
 (136,Mu),
 (137,Mv),
 (138,Mw),
 (139,My),
 (140,Mz),
 (141,MA),
 (142,MB),
 (143,MC),
 (144,MD),
 (145,ME),
 (146,MF),
 (147,MG),
 (149,MH),
 (150,MI),
 (151,(⟨.int .u64,[.int .u64 0],1,8⟩:TI)),
 (152,MJ),
 (153,MK),
 (154,ML),
 (155,MM),
 (156,MN),
 (157,MO),
 (158,MP),
 (159,MQ),
 (160,MR),
 (161,MS),
 (162,MT),
 (163,MU),
 (164,MV),
 (167,MW),
 (168,MX),
 (169,MY),
 (170,MZ),
 (171,(⟨.int .u8,[.int .u8 0],1,1⟩:TI)),
 (172,(⟨.int .u8,[.int .u8 0],1,1⟩:TI)),
 (173,Na),
 (174,Nb),
 (175,(⟨.int .i32,[.int .i32 0],1,4⟩:TI)),
 (176,(⟨.int .i32,[.int .i32 0],1,4⟩:TI)),
 (177,Nc),
 (178,Nd)]
theorem tz1:ab Try.prog 1=some i1:=by kernel_rfl
theorem tz2:ab Try.prog 2=some (⟨.int .i64,[.int .i64 0],1,8⟩:TI):=by kernel_rfl
theorem tz3:ab Try.prog 3=some (⟨.int .i64,[.int .i64 0],1,8⟩:TI):=by kernel_rfl
theorem tz4:ab Try.prog 4=some i4:=by kernel_rfl
theorem tz5:ab Try.prog 5=some (⟨.int .u8,[.int .u8 0],1,1⟩:TI):=by kernel_rfl
theorem tz6:ab Try.prog 6=some (⟨.int .u8,[.int .u8 0],1,1⟩:TI):=by kernel_rfl
theorem tz7:ab Try.prog 7=some i7:=by kernel_rfl
theorem tz8:ab Try.prog 8=some i8:=by kernel_rfl
theorem IN:ab Try.prog 12=some (⟨.int .u64,[.int .u64 0],1,8⟩:TI):=by kernel_rfl
theorem IP:ab Try.prog 15=some i15:=by kernel_rfl
theorem IQ:ab Try.prog 16=some i16:=by kernel_rfl
theorem IR:ab Try.prog 17=some i17:=by kernel_rfl
theorem IS:ab Try.prog 18=some i18:=by kernel_rfl
theorem IT:ab Try.prog 19=some i19:=by kernel_rfl
theorem IU:ab Try.prog 21=some (⟨.int .i32,[.int .i32 0],1,4⟩:TI):=by kernel_rfl
theorem IV:ab Try.prog 22=some (⟨.int .i64,[.int .i64 0],1,8⟩:TI):=by kernel_rfl
theorem IW:ab Try.prog 23=some i23:=by kernel_rfl
theorem IX:ab Try.prog 24=some i24:=by kernel_rfl
theorem IY:ab Try.prog 25=some i25:=by kernel_rfl
theorem IZ:ab Try.prog 26=some i26:=by kernel_rfl
theorem Ja:ab Try.prog 27=some i27:=by kernel_rfl
theorem Jb:ab Try.prog 28=some i28:=by kernel_rfl
theorem Jc:ab Try.prog 29=some i29:=by kernel_rfl
theorem Jd:ab Try.prog 30=some i30:=by kernel_rfl
theorem Je:ab Try.prog 31=some i31:=by kernel_rfl
theorem Gp:ab Try.prog 32=some i32:=by kernel_rfl
theorem Jf:ab Try.prog 33=some (⟨.int .i64,[.int .i64 0],1,8⟩:TI):=by kernel_rfl
theorem Jg:ab Try.prog 35=some i35:=by kernel_rfl
theorem Jh:ab Try.prog 36=some i36:=by kernel_rfl
theorem Ji:ab Try.prog 37=some i37:=by kernel_rfl
theorem Gq:ab Try.prog 38=some i38:=by kernel_rfl
theorem Jj:ab Try.prog 39=some i39:=by kernel_rfl
theorem Jk:ab Try.prog 40=some i40:=by kernel_rfl
theorem Jl:ab Try.prog 41=some i41:=by kernel_rfl
theorem Jm:ab Try.prog 42=some i42:=by kernel_rfl
theorem Jn:ab Try.prog 43=some i43:=by kernel_rfl
theorem Jo:ab Try.prog 44=some i44:=by kernel_rfl
theorem Jp:ab Try.prog 45=some i45:=by kernel_rfl
theorem Jq:ab Try.prog 46=some i46:=by kernel_rfl
theorem Jr:ab Try.prog 47=some i47:=by kernel_rfl
theorem Js:ab Try.prog 48=some i48:=by kernel_rfl
theorem Jt:ab Try.prog 49=some i49:=by kernel_rfl
theorem Ju:ab Try.prog 50=some i50:=by kernel_rfl
theorem Jv:ab Try.prog 51=some i51:=by kernel_rfl
theorem Jw:ab Try.prog 52=some i52:=by kernel_rfl
theorem Jx:ab Try.prog 53=some i53:=by kernel_rfl
theorem Jy:ab Try.prog 54=some i54:=by kernel_rfl
theorem Jz:ab Try.prog 55=some i55:=by kernel_rfl
theorem JA:ab Try.prog 56=some i56:=by kernel_rfl
theorem JB:ab Try.prog 58=some i58:=by kernel_rfl
theorem JC:ab Try.prog 59=some i59:=by kernel_rfl
theorem JD:ab Try.prog 60=some i60:=by kernel_rfl
theorem JE:ab Try.prog 61=some i61:=by kernel_rfl
theorem JF:ab Try.prog 62=some i62:=by kernel_rfl
theorem JG:ab Try.prog 64=some i64:=by kernel_rfl
theorem JH:ab Try.prog 65=some (⟨.int .u64,[.int .u64 0],1,8⟩:TI):=by kernel_rfl
theorem JI:ab Try.prog 66=some i66:=by kernel_rfl
theorem JJ:ab Try.prog 67=some i67:=by kernel_rfl
theorem JK:ab Try.prog 68=some i68:=by kernel_rfl
theorem Gr:ab Try.prog 69=some i69:=by kernel_rfl
theorem JL:ab Try.prog 70=some i70:=by kernel_rfl
theorem JM:ab Try.prog 71=some i71:=by kernel_rfl
theorem JN:ab Try.prog 72=some i72:=by kernel_rfl
theorem JO:ab Try.prog 73=some i73:=by kernel_rfl
theorem JP:ab Try.prog 74=some i74:=by kernel_rfl
theorem JQ:ab Try.prog 75=some (⟨.func #[120] #[] false,[.nilFunc],1,8⟩:TI):=by kernel_rfl
theorem JR:ab Try.prog 76=some (⟨.func #[120] #[] false,[.nilFunc],1,8⟩:TI):=by kernel_rfl
theorem JS:ab Try.prog 77=some i77:=by kernel_rfl
theorem JT:ab Try.prog 78=some i78:=by kernel_rfl
theorem JU:ab Try.prog 79=some i79:=by kernel_rfl
theorem JV:ab Try.prog 80=some i80:=by kernel_rfl
theorem JW:ab Try.prog 81=some i81:=by kernel_rfl
theorem JY:ab Try.prog 82=some i82:=by kernel_rfl
theorem JZ:ab Try.prog 83=some i83:=by kernel_rfl
theorem Ka:ab Try.prog 84=some i84:=by kernel_rfl
theorem Kb:ab Try.prog 85=some i85:=by kernel_rfl
theorem Kc:ab Try.prog 86=some i86:=by kernel_rfl
theorem Kd:ab Try.prog 87=some i87:=by kernel_rfl
theorem Ke:ab Try.prog 88=some i88:=by kernel_rfl
theorem Kf:ab Try.prog 89=some i89:=by kernel_rfl
theorem Kg:ab Try.prog 90=some (⟨.slice 97,[.slice none 0 0],1,24⟩:TI):=by kernel_rfl
theorem Kh:ab Try.prog 91=some (⟨.slice 97,[.slice none 0 0],1,24⟩:TI):=by kernel_rfl
theorem Ki:ab Try.prog 92=some i92:=by kernel_rfl
theorem Kj:ab Try.prog 93=some i93:=by kernel_rfl
theorem Kk:ab Try.prog 94=some i94:=by kernel_rfl
theorem Kl:ab Try.prog 95=some i95:=by kernel_rfl
theorem Km:ab Try.prog 96=some i96:=by kernel_rfl
theorem Kn:ab Try.prog 97=some i97:=by kernel_rfl
theorem Ko:ab Try.prog 98=some i98:=by kernel_rfl
theorem Kq:ab Try.prog 99=some i99:=by kernel_rfl
theorem Cq:ab Try.prog 100=some LM:=by kernel_rfl
theorem Cr:ab Try.prog 101=some LN:=by kernel_rfl
theorem Cs:ab Try.prog 102=some LO:=by kernel_rfl
theorem Ct:ab Try.prog 103=some LP:=by kernel_rfl
theorem Cu:ab Try.prog 104=some LR:=by kernel_rfl
theorem Cv:ab Try.prog 105=some LS:=by kernel_rfl
theorem Cw:ab Try.prog 106=some LT:=by kernel_rfl
theorem Cy:ab Try.prog 107=some LU:=by kernel_rfl
theorem Cz:ab Try.prog 108=some LV:=by kernel_rfl
theorem CA:ab Try.prog 109=some LW:=by kernel_rfl
theorem CB:ab Try.prog 110=some LX:=by kernel_rfl
theorem CC:ab Try.prog 111=some LY:=by kernel_rfl
theorem CD:ab Try.prog 112=some LZ:=by kernel_rfl
theorem CE:ab Try.prog 114=some Ma:=by kernel_rfl
theorem CF:ab Try.prog 115=some Mb:=by kernel_rfl
theorem CG:ab Try.prog 116=some Mc:=by kernel_rfl
theorem CH:ab Try.prog 117=some Md:=by kernel_rfl
theorem CI:ab Try.prog 118=some Me:=by kernel_rfl
theorem CJ:ab Try.prog 119=some Mf:=by kernel_rfl
theorem CK:ab Try.prog 120=some Mh:=by kernel_rfl
theorem CL:ab Try.prog 121=some Mi:=by kernel_rfl
theorem CM:ab Try.prog 122=some Mj:=by kernel_rfl
theorem CN:ab Try.prog 123=some Mk:=by kernel_rfl
theorem CO:ab Try.prog 124=some Ml:=by kernel_rfl
theorem CP:ab Try.prog 125=some Mm:=by kernel_rfl
theorem CQ:ab Try.prog 126=some Mn:=by kernel_rfl
theorem CR:ab Try.prog 128=some Mo:=by kernel_rfl
theorem CS:ab Try.prog 129=some Mp:=by kernel_rfl
theorem CT:ab Try.prog 130=some Mq:=by kernel_rfl
theorem CU:ab Try.prog 133=some Mr:=by kernel_rfl
theorem CV:ab Try.prog 134=some Ms:=by kernel_rfl
theorem CW:ab Try.prog 135=some Mt:=by kernel_rfl
theorem CX:ab Try.prog 136=some Mu:=by kernel_rfl
theorem CY:ab Try.prog 137=some Mv:=by kernel_rfl
theorem CZ:ab Try.prog 138=some Mw:=by kernel_rfl
theorem Da:ab Try.prog 139=some My:=by kernel_rfl
theorem Db:ab Try.prog 140=some Mz:=by kernel_rfl
theorem Dc:ab Try.prog 141=some MA:=by kernel_rfl
theorem De:ab Try.prog 142=some MB:=by kernel_rfl
theorem Df:ab Try.prog 143=some MC:=by kernel_rfl
theorem Dg:ab Try.prog 144=some MD:=by kernel_rfl
theorem Dh:ab Try.prog 145=some ME:=by kernel_rfl
theorem Di:ab Try.prog 146=some MF:=by kernel_rfl
theorem Dj:ab Try.prog 147=some MG:=by kernel_rfl
theorem Dk:ab Try.prog 149=some MH:=by kernel_rfl
theorem Dl:ab Try.prog 150=some MI:=by kernel_rfl
theorem Dm:ab Try.prog 151=some (⟨.int .u64,[.int .u64 0],1,8⟩:TI):=by kernel_rfl
theorem Dn:ab Try.prog 152=some MJ:=by kernel_rfl
theorem Do:ab Try.prog 153=some MK:=by kernel_rfl
theorem Dp:ab Try.prog 154=some ML:=by kernel_rfl
theorem Dq:ab Try.prog 155=some MM:=by kernel_rfl
theorem Dr:ab Try.prog 156=some MN:=by kernel_rfl
theorem Ds:ab Try.prog 157=some MO:=by kernel_rfl
theorem Dt:ab Try.prog 158=some MP:=by kernel_rfl
theorem Du:ab Try.prog 159=some MQ:=by kernel_rfl
theorem Dv:ab Try.prog 160=some MR:=by kernel_rfl
theorem Dw:ab Try.prog 161=some MS:=by kernel_rfl
theorem Dx:ab Try.prog 162=some MT:=by kernel_rfl
theorem Dy:ab Try.prog 163=some MU:=by kernel_rfl
theorem Dz:ab Try.prog 164=some MV:=by kernel_rfl
theorem DA:ab Try.prog 167=some MW:=by kernel_rfl
theorem DB:ab Try.prog 168=some MX:=by kernel_rfl
theorem DC:ab Try.prog 169=some MY:=by kernel_rfl
theorem DD:ab Try.prog 170=some MZ:=by kernel_rfl
theorem DE:ab Try.prog 171=some (⟨.int .u8,[.int .u8 0],1,1⟩:TI):=by kernel_rfl
theorem DF:ab Try.prog 172=some (⟨.int .u8,[.int .u8 0],1,1⟩:TI):=by kernel_rfl
theorem DG:ab Try.prog 173=some Na:=by kernel_rfl
theorem DH:ab Try.prog 174=some Nb:=by kernel_rfl
theorem DI:ab Try.prog 175=some (⟨.int .i32,[.int .i32 0],1,4⟩:TI):=by kernel_rfl
theorem DK:ab Try.prog 176=some (⟨.int .i32,[.int .i32 0],1,4⟩:TI):=by kernel_rfl
theorem DL:ab Try.prog 177=some Nc:=by kernel_rfl
theorem DM:ab Try.prog 178=some Nd:=by kernel_rfl
theorem kv:Try.prog.follows .mixedOrders=true:=by kernel_rfl
theorem kw:uW Try.prog=true:=by kernel_rfl
def gS:List TD->Option (Kind×List TD):=λ_=>none
theorem zY(x y:Operand)(a0 b0 a1 b1:Int):ae Try.prog (do eqGuard .eql 67 x y (.agg #[.int .i64 a0,.int .u64 a1]) (.agg #[.int .i64 b0,.int .u64 b1]);binOp .eql 67 (.agg #[.int .i64 a0,.int .u64 a1]) (.agg #[.int .i64 b0,.int .u64 b1]))=some (.bool ((a0==b0 &&(a1==b1 && true)))):=by
 refine Fj (by kernel_rfl) ((ie 9999 67 #[.int .i64 a0,.int .u64 a1] #[.int .i64 b0,.int .u64 b1] (fs:=aG Try.prog 66) (by kernel_rfl) (by kernel_rfl)).trans ?_);rw [show(aG Try.prog 66).toList= [fld Try.prog 66 0,fld Try.prog 66 1]by kernel_rfl];exact((eU (k:= .i64) (k':= .i64) (by kernel_rfl) (by kernel_rfl) (by kernel_rfl) (by kernel_rfl)).trans (jb ((eU (k:= .u64) (k':= .u64) (by kernel_rfl) (by kernel_rfl) (by kernel_rfl) (by kernel_rfl)).trans (jb gl))))
theorem zZ(x y:Operand)(a0 b0 a1 b1:Int):ae Try.prog (do eqGuard .neq 67 x y (.agg #[.int .i64 a0,.int .u64 a1]) (.agg #[.int .i64 b0,.int .u64 b1]);binOp .neq 67 (.agg #[.int .i64 a0,.int .u64 a1]) (.agg #[.int .i64 b0,.int .u64 b1]))=some (.bool (!(a0==b0 &&(a1==b1 && true)))):=by
 refine xx (by kernel_rfl) ((ie 9999 67 #[.int .i64 a0,.int .u64 a1] #[.int .i64 b0,.int .u64 b1] (fs:=aG Try.prog 66) (by kernel_rfl) (by kernel_rfl)).trans ?_);rw [show(aG Try.prog 66).toList= [fld Try.prog 66 0,fld Try.prog 66 1]by kernel_rfl];exact((eU (k:= .i64) (k':= .i64) (by kernel_rfl) (by kernel_rfl) (by kernel_rfl) (by kernel_rfl)).trans (jb ((eU (k:= .u64) (k':= .u64) (by kernel_rfl) (by kernel_rfl) (by kernel_rfl) (by kernel_rfl)).trans (jb gl))))
def EQS:List (Nat×List IntKind):= [(67,[.i64,.u64])]
def fi4:FI:=fiF Try.f4
def OB:FI:=fiF Try.f10
def OC:FI:=fiF Try.f12
def Nf:FI:=fiF Try.f22
def Ng:FI:=fiF Try.f27
def Nh:FI:=fiF Try.f32
def OD:FI:=fiF Try.f37
def OE:FI:=fiF Try.f38
def Ni:FI:=fiF Try.f57
def Nj:FI:=fiF Try.f58
def Nk:FI:=fiF Try.f59
def Nl:FI:=fiF Try.f60
def Nm:FI:=fiF Try.f68
def Nn:FI:=fiF Try.f90
def No:FI:=fiF Try.f95
def Np:FI:=fiF Try.f96
def Nq:FI:=fiF Try.f97
abbrev yD2:TyD:=(true,.C (.I .i64) (.I .u64))
abbrev yD1:TyD:=(false,.S (.C (.I .i64) (.C (.I .i64) (.I .u64))))
abbrev yD0:TyD:=(false,.S (.S (.C (.I .i64) (.C (.I .i64) (.I .u64)))))
end K
end Ev
end
noncomputable section
namespace Ev
namespace K
open Go Go.RowKit
set_option maxRecDepth 100000
set_option maxHeartbeats 1000000
def Bc:fG:= []
def sA:KG:=⟨TT,EQS,[],[]⟩
def jp:cl [(false,.I .i64)]->Option (OutK.val (.data true [yD2])):=gO sA Bc Ni 57 0 [(false,.I .i64)] (.data true [yD2])
def sB:cK:=⟨57,[(false,.I .i64)],.data true [yD2],jp,1⟩
def pI:fG:= []
def iM:KG:=⟨TT,EQS,[],[]⟩
def dM:cl [yD2,yD2]->Option (OutK.val (.data true [(false,.I .i64)])):=gO iM pI Nn 90 0 [yD2,yD2] (.data true [(false,.I .i64)])
def iN:cK:=⟨90,[yD2,yD2],.data true [(false,.I .i64)],dM,1⟩
def rM:fG:= []
def jJ:KG:=⟨TT,EQS,[iN],[]⟩
def eg:cl [yD2,yD2]->Option (OutK.val (.data true [yD2])):=gO jJ rM Nj 58 0 [yD2,yD2] (.data true [yD2])
def jK:cK:=⟨58,[yD2,yD2],.data true [yD2],eg,2⟩
def yb:fG:= []
def pJ:KG:=⟨TT,EQS,[],[]⟩
def gA:cl [yD2,yD2]->Option (OutK.val (.data true [yD2])):=gO pJ yb Nk 59 0 [yD2,yD2] (.data true [yD2])
def pK:cK:=⟨59,[yD2,yD2],.data true [yD2],gA,1⟩
def ur:fG:= []
def lF:KG:=⟨TT,EQS,[sB],[]⟩
def eb:cl [(false,.B)]->Option (OutK.val (.data true [yD2])):=gO lF ur Nl 60 0 [(false,.B)] (.data true [yD2])
def lG:cK:=⟨60,[(false,.B)],.data true [yD2],eb,2⟩
def yc:fG:= [(27,⟨[⟨true,2,9,[4,5,6,7],⟨[],[],[]⟩,[(.normal,⟨[(8,false,[.d true .B])],[],[]⟩)]⟩],[]⟩)]
def pL:KG:=⟨TT,EQS,[jK,pK,lG],[]⟩
def iP:cl [(false,.I .i64),yD2,yD2]->Option (OutK.val (.data true [yD2])):=gO pL yc Ng 27 0 [(false,.I .i64),yD2,yD2] (.data true [yD2])
def yd:cK:=⟨27,[(false,.I .i64),yD2,yD2],.data true [yD2],iP,3⟩
def Bd:fG:= []
def sD:KG:=⟨TT,EQS,[],[]⟩
def lH:cl [(false,.I .i64)]->Option (OutK.val (.data true [(false,.B)])):=gO sD Bd Nf 22 0 [(false,.I .i64)] (.data true [(false,.B)])
def Bf:cK:=⟨22,[(false,.I .i64)],.data true [(false,.B)],lH,1⟩
def ut:fG:= [(32,⟨[⟨false,2,0,[0],⟨[(3,false,[.d true (.I .i64)])],[],[]⟩,[(.exit 0,⟨[],[],[]⟩),(.ret,⟨[(2,false,[.d true .B])],[],[]⟩)]⟩],[]⟩)]
def lI:KG:=⟨TT,EQS,[],[]⟩
def eN:cl [yD1]->Option (OutK.val (.data true [(false,.B)])):=gO lI ut Nh 32 0 [yD1] (.data true [(false,.B)])
def uv:cK:=⟨32,[yD1],.data true [(false,.B)],eN,1⟩
end K
end Ev
end
noncomputable section
namespace Ev
namespace KM
open Go Go.RowKit
def jp(x:Int):Option (Int×Int):=K.jp x
def dM(x:Int×Int)(y:Int×Int):Option (Int):=K.dM (x,y)
def eg(x:Int×Int)(y:Int×Int):Option (Int×Int):=K.eg (x,y)
def gA(x:Int×Int)(y:Int×Int):Option (Int×Int):=K.gA (x,y)
def eb(x:Bool):Option (Int×Int):=K.eb x
def iP(x:Int)(y:Int×Int)(z:Int×Int):Option (Int×Int):=K.iP (x,y,z)
def lH(x:Int):Option (Bool):=K.lH x
def eN(x:Sl (Int×(Int×Int))):Option (Bool):=K.eN x
end KM
end Ev
end
noncomputable section
namespace Ev
namespace K
open Go Go.RowKit
def pM{α:Type}(f:List T->Option α):List (List T)->Option (List α)
 | []=>some []
 |a::r=>(f a).bind λx=>(pM f r).map (x::·)
theorem sE{α:Type}{f:List T->Option α}{g:α->List T}(h:∀x,f (g x)=some x):∀l:List α,pM f (l.map g)=some l
 | []=>rfl
 |x::l=>by simp only [List.map_cons,pM,h,zbS,sE h l,Option.map_some]
theorem pN{α:Type}{f:List T->Option α}{g:α->List T}(h:∀a x,f a=some x->a=g x):∀{l:List (List T)} {r:List α},pM f l=some r->l=r.map g
 | [],r,hr=>by simp [pM]at hr;subst hr;rfl
 |a::l,r,hr=>by
  simp only [pM,zbE,Option.map_eq_some_iff]at hr;obtain⟨x,hx,r',hr',rfl⟩:=hr;rw [List.map_cons,<-h a x hx,<-pN h hr']
def gT:(e:Ty)->List T->Option e.val
 | .I k,l=>match l with
  | [.v (.int k' n)]=>if k'=k then some n else none
  |_=>none
 | .B,l=>match l with
  | [.v (.bool b)]=>some b
  |_=>none
 | .S e,l=>match l with
  | [.s nn sz rows]=>(pM (gT e) rows).map λr=>⟨nn,sz,r⟩
  |_=>none
 | .U,l=>match l with
  | []=>some ()
  |_=>none
 | .C a b,l=>(gT a (l.take a.size)).bind λx=>(gT b (l.drop a.size)).bind λy=>some (x,y)
theorem lJ:∀(e:Ty) (x:e.val),gT e (e.row x)=some x
 | .I k,x=>by simp [gT,Ty.row,iT]
 | .B,x=>by simp [gT,Ty.row,bT]
 | .S e,x=>by
  simp only [gT,Ty.row,Sl.t];rw [sE (lJ e)];rfl
 | .U,x=>rfl
 | .C a b,x=>by
  show((gT a ((a.row x.1++b.row x.2).take a.size)).bind λx1=>(gT b ((a.row x.1++b.row x.2).drop a.size)).bind λy=>some (x1,y))=some x;have e1:(a.row x.1++b.row x.2).take a.size=a.row x.1:=by rw [List.take_append_of_le_length (by rw [im];exact Nat.le_refl _),List.take_of_length_le (by rw [im];exact Nat.le_refl _)]
  have e2:(a.row x.1++b.row x.2).drop a.size=b.row x.2:=by rw [<-im a x.1,List.drop_left]
  rw [e1,lJ a,zbS,e2,lJ b];rfl
theorem fH:∀(e:Ty) (l:List T) (x:e.val),gT e l=some x->l=e.row x
 | .I k,l,x,h=>by
  simp only [gT]at h;split at h
  .split at h
   .rename_i hk;cases h;subst hk;rfl
   .simp at h
  .simp at h
 | .B,l,x,h=>by
  simp only [gT]at h;split at h
  .cases h;rfl
  .simp at h
 | .S e,l,x,h=>by
  simp only [gT]at h;split at h
  .rw [Option.map_eq_some_iff]at h;obtain⟨r,hr,rfl⟩:=h;rw [pN (fH e) hr];rfl
  .simp at h
 | .U,l,x,h=>by
  simp only [gT]at h;split at h
  .rfl
  .simp at h
 | .C a b,l,x,h=>by
  simp only [gT,zbE]at h;obtain⟨x1,h1,x2,h2,h3⟩:=h;cases h3;show l=a.row x1++b.row x2;rw [<-fH a _ _ h1,<-fH b _ _ h2,List.take_append_drop]
def pO(t:TyD)(d:TD):Option t.2.val:=
 match t,d with
 |(true,e),.agg l=>gT e l
 |(false,e),.one y=>gT e [y]
 |(false,e),.agg l=>if l.length=1 then none else gT e l
 |_,_=>none
def Ik:List T->TD
 | [y]=> .one y
 |ys=> .agg ys
theorem pP(e:Ty)(x:e.val):iF (false,e) x=Ik (e.row x):=by
 unfold iF Ik;rfl
theorem wh(t:TyD)(x:t.2.val):pO t (iF t x)=some x:=by
 obtain⟨b,e⟩:=t;have h:=lJ e x
 cases b with
 |true=>exact h
 |false=>
  change e.val at x;rw [show iF (false,e) x=_ from pP e x];generalize e.row x=l at h
  match l,h with
  | [],h=>exact h
  | [y],h=>exact h
  |a::b::r,h=>
   show(if(a::b::r).length=1 then none else gT e (a::b::r))=some x;rw [if_neg (by simp)];exact h
theorem pQ(t:TyD)(d:TD)(x:t.2.val)(h:pO t d=some x):d=iF t x:=by
 obtain⟨b,e⟩:=t
 cases b with
 |true=>
  cases d with
  |one y=>simp [pO]at h
  |agg l=>exact congrArg TD.agg (fH e l x h)
 |false=>
  change e.val at x
  cases d with
  |one y=>rw [show iF (false,e) x=_ from pP e x,<-fH e [y] x h];rfl
  |agg l=>
   simp only [pO]at h;split at h
   .simp at h
   .rename_i hl
    have:=fH e l x h
    rw [show iF (false,e) x=_ from pP e x,<-this]
    match l,hl with
    | [],_=>rfl
    | [y],hl=>simp at hl
    |a::b::r,_=>rfl
def ky:(ts:List TyD)->List TD->Option (cl ts)
 | [],l=>match l with
  | []=>some ()
  |_=>none
 | [t],l=>match l with
  | [d]=>pO t d
  |_=>none
 |t::t'::r,l=>match l with
  |d::ds=>(pO t d).bind λx=>(ky (t'::r) ds).bind λy=>some (x,y)
  | []=>none
theorem sG:∀(ts:List TyD) (x:cl ts),ky ts (dF ts x)=some x
 | [],_=>rfl
 | [t],x=>wh t x
 |t::t'::r,x=>by
  show(pO t (iF t x.1)).bind _=_;rw [wh t x.1,zbS,sG (t'::r) x.2];rfl
theorem nR:∀(ts:List TyD) (l:List TD) (x:cl ts),ky ts l=some x->l=dF ts x
 | [],l,x,h=>by
  simp only [ky]at h;split at h
  .rfl
  .simp at h
 | [t],l,x,h=>by
  simp only [ky]at h;split at h
  .exact congrArg (·:: []) (pQ t _ x h)
  .simp at h
 |t::t'::r,l,x,h=>by
  simp only [ky]at h;split at h
  .simp only [zbE]at h;obtain⟨y,h1,z,h2,h3⟩:=h;cases h3;show _=iF t y::dF (t'::r) z;rw [<-pQ t _ y h1,<-nR (t'::r) _ z h2]
  .simp at h
def sH(ins:List TyD)(kind:Kind)(ts:List TyD)(g:cl ins->Option (cl ts))(vs:List TD):Option (Kind×List TD):=(ky ins vs).bind λa=>(g a).bind λx=>some (kind,dF ts x)
theorem Gs{P:Program}{k:FuncId}{ins:List TyD}{kind:Kind}{ts:List TyD}{g:cl ins->Option (cl ts)}(he:Enters P k)(h:∀a x,g a=some x->cN P k (dF ins a) kind (dF ts x)):∀vs kind' rs,sH ins kind ts g vs=some (kind',rs)->cN P k vs kind' rs/\Enters P k:=by
 intro vs kind' rs hf;simp only [sH,zbE]at hf;obtain⟨a,h1,x,h2,h3⟩:=hf;cases h3;rw [nR ins vs a h1];exact⟨h a x h2,he⟩
theorem Bg{E:Env}{k:FuncId}{ins:List TyD}{kind:Kind}{ts:List TyD}{g:cl ins->Option (cl ts)}(hx:E.ax k=some (sH ins kind ts g))(n:Nat)(a:cl ins)(x:cl ts)(h:g a=some x):RunsP E (n+1) k (dF ins a) (kind,dF ts x):=
 ja hx (by simp only [sH,sG,zbS,h])
theorem ye{E:Env}{k:FuncId}{ins:List TyD}{ts:List TyD}{g:cl ins->Option (cl ts)}(hx:E.ax k=some (sH ins .fresh ts g)):cn E ⟨k,ins,.data true ts,g,1⟩:=λm a x h=>Bg hx m a x h
end K
end Ev
end
noncomputable section
namespace Ev
namespace KM
open Go Go.RowKit
set_option maxRecDepth 100000
set_option maxHeartbeats 1000000
theorem yf(x:Int):jp x=(Ff IntKind.i64 x 63).bind λ(z:Int)=>some (z,IntKind.u64.wrap x):=by kernel_rfl
theorem oJ(x:Int×Int)(y:Int×Int):dM x y=if x.fst=y.fst/\x.snd=y.snd then some 0
else if x.fst<y.fst then some (-1)else if x.fst=y.fst then if x.snd<y.snd then some (-1)else some 1 else some 1:=by kernel_rfl
theorem pR(x:Int×Int)(y:Int×Int):eg x y=(dM y x).bind λ(out:Int)=>if out<0 then some y else some x:=by kernel_rfl
def iQ(x:Int×Int)(y:Int×Int):Int->Int->Option (Int×Int):=λ(d d_1:Int)=>some (IntKind.i64.wrap (d+d_1),IntKind.u64.wrap (x.snd+y.snd))
theorem wj(x:Int×Int)(y:Int×Int):gA x y=if IntKind.u64.wrap (x.snd+y.snd)<x.snd then iQ x y (IntKind.i64.wrap (x.fst+y.fst)) 1
else iQ x y x.fst y.fst:=by kernel_rfl
theorem rN(x:Bool):eb x=if x=true then(jp 1).bind λ(out:Int×Int)=>some out else some (0,0):=by kernel_rfl
theorem wl(x:Int)(y:Int×Int)(z:Int×Int):iP x y z=(if x=1 then some (Sum.inl true)else if x=3 then some (Sum.inl true)else some (Sum.inl (decide (x=4)))).bind λ(y_1:Bool ⊕ Empty)=>Sum.elim (λ(val:Bool)=>if val=true then(eg y z).bind λ(out:Int×Int)=>some out else if x=2 then if¬(y.fst=0/\y.snd=0)then(eb true).bind λ(out:Int×Int)=>some out else(eb (decide ¬(z.fst=0/\z.snd=0))).bind λ(out:Int×Int)=>some out else if x=5 then(gA y z).bind λ(out:Int×Int)=>some out else some (0,0)) (λ(val:Empty)=>nE val) y_1:=by kernel_rfl
theorem yg(x:Int):lH x=if x >= 1 then some (decide (x<=5))else some false:=by kernel_rfl
def dn(x:Sl (Int×Int×Int)):Int->Option (Int ⊕ PUnit ⊕ Bool ⊕ Empty):=λ(x_1:Int)=>if x_1<(↑x.l.length:Int)then(atS 3 x x_1).bind λ(y:Int×Int×Int)=>(atS 3 x (IntKind.i64.wrap (x_1 - 1))).bind λ(y_1:Int×Int×Int)=>if y.fst<=y_1.fst then some (Sum.inr (Sum.inr (Sum.inl false)))else some (Sum.inl (IntKind.i64.wrap (x_1+1)))else some (Sum.inr (Sum.inl ()))
theorem rO(x:Sl (Int×Int×Int)):eN x=(cD (dn x) 1).bind λ(y:PUnit ⊕ Bool ⊕ Empty)=>Sum.elim (λ(val:PUnit)=>some true) (λ(val:Bool ⊕ Empty)=>Sum.elim (λ(val:Bool)=>some val) (λ(val:Empty)=>nE val) val) y:=by kernel_rfl
end KM
end Ev
end
noncomputable section
namespace Ev
namespace KM
open Go
def Bh(n:Int):Prop:= -9223372036854775808<=n/\n<=9223372036854775807
def ofW(n:Int):Int×Int:=(if n<0 then -1 else 0,IntKind.u64.wrap n)
def wm(a b:Int×Int):Bool:=decide (a.1<b.1)||(decide (a.1=b.1)&& decide (a.2<b.2))
def pS(a b:Int×Int):Int×Int:=if wm b a=true then b else a
def pT(b:Bool):Int×Int:=if b=true then(0,1)else(0,0)
def DN(a b:Int×Int):Int×Int:=if IntKind.u64.wrap (a.2+b.2)<a.2 then(IntKind.i64.wrap (IntKind.i64.wrap (a.1+b.1)+1),IntKind.u64.wrap (a.2+b.2))else(IntKind.i64.wrap (a.1+b.1),IntKind.u64.wrap (a.2+b.2))
def bG(r:Int)(a b:Int×Int):Int×Int:=
 if r=1∨r=3∨r=4 then pS a b else if r=2 then pT (!(decide (a.1=0/\a.2=0)&& decide (b.1=0/\b.2=0)))else if r=5 then DN a b else(0,0)
def gU(r:Int):Bool:=decide (1<=r)&& decide (r<=5)
theorem Bi{n:Int}(h:Bh n):jp n=some (ofW n):=by
 rw [yf];unfold Ff ofW Lg;rw [if_pos (by omega)];have e:(2:Int)^(min (63:Int).toNat IntKind.i64.bits)=9223372036854775808:=by decide
 rw [e];unfold Bh at h
 have:n.fdiv 9223372036854775808=if n<0 then -1 else 0:=by
  rw [Int.fdiv_eq_ediv_of_nonneg _ (by omega)];split<;>omega
 rw [this];rfl
theorem oK(a b:Int×Int):∃c,dM a b=some c/\(c<0↔wm a b=true):=by
 obtain⟨a1,a2⟩:=a;obtain⟨b1,b2⟩:=b;rw [oJ];unfold wm;simp only;by_cases h1:a1=b1/\a2=b2
 .rw [if_pos h1];exact⟨0,rfl,by simp;omega⟩
 rw [if_neg h1];by_cases h2:a1<b1
 .rw [if_pos h2];exact⟨-1,rfl,by simp [h2]⟩
 rw [if_neg h2];by_cases h3:a1=b1
 .rw [if_pos h3];by_cases h4:a2<b2
  .rw [if_pos h4];exact⟨-1,rfl,by simp [h3,h4]⟩
  .rw [if_neg h4];exact⟨1,rfl,by simp [h3];omega⟩
 .rw [if_neg h3];exact⟨1,rfl,by simp [h3];omega⟩
theorem rP(a b:Int×Int):eg a b=some (pS a b):=by
 obtain⟨c,h1,h2⟩:=oK b a;rw [pR,h1];unfold pS;simp only [zbS];by_cases hc:c<0
 .rw [if_pos hc,if_pos (h2.1 hc)]
 .rw [if_neg hc,if_neg (λh=>hc (h2.2 h))]
theorem uw(b:Bool):eb b=some (pT b):=by
 rw [rN];unfold pT;cases b
 .rfl
 .simp only [if_true,Bi (show Bh 1 by unfold Bh;omega),zbS];rfl
theorem yh(a b:Int×Int):gA a b=some (DN a b):=by
 rw [wj];unfold DN iQ;split
 .rfl
 .obtain⟨a1,a2⟩:=a;obtain⟨b1,b2⟩:=b;rfl
theorem yi(r:Int)(a b:Int×Int):iP r a b=some (bG r a b):=by
 rw [wl];unfold bG;simp only [rP,uw,yh,zbS];by_cases h1:r=1
 .simp [h1]
 by_cases h3:r=3
 .simp [h3]
 by_cases h4:r=4
 .simp [h4]
 simp only [if_neg h1,if_neg h3,if_neg (show¬(r=1∨r=3∨r=4)by omega),decide_eq_false h4,zbS,Sum.elim_inl,Bool.false_eq_true,if_false];by_cases h2:r=2
 .simp only [if_pos h2];by_cases ha:a.1=0/\a.2=0
  .by_cases hb:b.1=0/\b.2=0
   .simp [ha,hb]
   .simp [ha,hb]
  .simp [ha]
 .simp only [if_neg h2];split<;>rfl
theorem Bj(r:Int):lH r=some (gU r):=by
 rw [yg];unfold gU;by_cases h1:r >= 1
 .rw [if_pos h1,decide_eq_true (show 1<=r from h1)];simp
 .rw [if_neg h1,decide_eq_false (show¬1<=r from h1)];rfl
end KM
end Ev
end
noncomputable section
namespace Ev
namespace KM
end KM
end Ev
namespace Sm
namespace Mg
open Go Ev Ev.KM
def risB:List (Int×Int×Int)->Bool
 | []=>true
 |a::r=>match r with
  | []=>true
  |b::_=>decide (a.1<b.1)&& risB r
theorem pU(a b:Int×Int×Int)(r:List (Int×Int×Int)):risB (a::b::r)=(decide (a.1<b.1)&& risB (b::r)):=rfl
theorem risB_iff:∀l:List (Int×Int×Int),risB l=true↔Hp.Ris l
 | []=>by simp [risB,Hp.Ris]
 | [a]=>by simp [risB,Hp.Ris]
 |a::b::r=>by
  have ih:=risB_iff (b::r);rw [pU,Bool.and_eq_true,ih,decide_eq_true_eq];unfold Hp.Ris;constructor
  .rintro⟨h1,h2⟩;refine List.pairwise_cons.2 ⟨λc hc=> ?_,h2⟩;rcases List.mem_cons.1 hc with rfl|hc
   .exact h1
   .have:=(List.pairwise_cons.1 h2).1 c hc;omega
  .intro h;have h2:=List.pairwise_cons.1 h;exact⟨h2.1 b (by simp),h2.2⟩
theorem Bk:∀(l:List (Int×Int×Int)) (j:Nat),0<j->(hj:j<l.length)->risB (l.drop (j - 1))=(decide (l[j - 1].1<l[j].1)&& risB (l.drop j)):=by
 intro l j h0 hj
 have e1:l.drop (j - 1)=l[j - 1]::l.drop j:=by
  rw [List.drop_eq_getElem_cons (by omega)];congr 2;omega
 rw [e1,List.drop_eq_getElem_cons hj,pU]
theorem ux{x:Sl (Int×Int×Int)}(hs:x.l= []∨x.sz=3)(hn:x.l.length<=9223372036854775807):eN x=some (risB x.l):=by
 rw [rO]
 have h1:∀j:Nat,0<j->(hj:j<x.l.length)->dn x j=some (if x.l[j - 1].1<x.l[j].1 then .inl ((j+1:Nat):Int)else .inr (.inr (.inl false))):=λj h0 hj=>by
  unfold dn;rw [if_pos (by omega),show IntKind.i64.wrap ((j:Int) - 1)=((j - 1:Nat):Int)by rw [yQ (by omega) (by omega)];omega,fR hs hj,fR hs (show j - 1<x.l.length by omega)];simp only [zbS,ig hj hn];by_cases hc:x.l[j - 1].1<x.l[j].1
  .rw [if_neg (by omega),if_pos hc]
  .rw [if_pos (by omega),if_neg hc]
 have h2:∀j:Nat,x.l.length<=j->dn x j=some (.inr (.inl ())):=λj hj=>by
  unfold dn;rw [if_neg (by omega)]
 by_cases hl:x.l.length<=1
 .rw [show(1:Int)=((1:Nat):Int)from rfl,kN (h2 1 hl)]
  match x.l,hl with
  | [],_=>rfl
  | [a],_=>rfl
  |a::b::r,hl=>simp at hl
 obtain⟨r,e1,e2⟩:=gm (b:=dn x) x.l.length (λj a=>0<j/\a=(j:Int)/\risB x.l=risB (x.l.drop (j - 1))) (λr=>(risB x.l=true/\r= .inl ())∨(risB x.l=false/\r= .inr (.inl false)))
  (by
   rintro j _ hj ⟨h0,rfl,hr⟩;rw [h1 j h0 hj];rw [Bk _ j h0 hj]at hr;by_cases hk:x.l[j - 1].1<x.l[j].1
   .rw [if_pos hk];exact .inl ⟨_,rfl,by omega,rfl,by rw [hr,decide_eq_true hk];simp⟩
   .rw [if_neg hk];exact .inr ⟨_,rfl,.inr ⟨by rw [hr,decide_eq_false hk];rfl,rfl⟩⟩)
  (by
   rintro _ ⟨h0,rfl,hr⟩;refine⟨_,h2 _ (Nat.le_refl _),.inl ⟨?_,rfl⟩⟩;rw [hr,List.drop_eq_getElem_cons (by omega),show x.l.length - 1+1=x.l.length by omega,List.drop_length]
   rfl)
  1 (by omega) ((1:Nat):Int) ⟨by omega,rfl,by simp⟩
 rw [show(1:Int)=((1:Nat):Int)from rfl,e1];rcases e2 with⟨g1,rfl⟩|⟨g1,rfl⟩
 .rw [g1];rfl
 .rw [g1];rfl
end Mg
end Sm
end
noncomputable section
namespace Sm
abbrev V:=Int×Int
structure Rg where
 o:Int->V
 ad:V->V->V
 na:V->Int×Bool
abbrev Ky:=Int×Int
def key(e:Int×Int×Int):Ky:=(e.1,e.2.1)
def klt(a b:Ky):Bool:=decide (a.1<b.1∨a.1=b.1/\a.2<b.2)
def upd(R:Rg)(f:Ky->Option V)(e:Int×Int×Int):Ky->Option V:=λk=>if k=key e then some (match f (key e)with|some s=>R.ad s (R.o e.2.2)|none=>R.o e.2.2)else f k
def ins(R:Rg):List (Ky×V)->(Int×Int×Int)->List (Ky×V)
 | [],e=> [(key e,R.o e.2.2)]
 |p::S,e=>if klt p.1 (key e)=true then p::ins R S e else if klt (key e) p.1=true then(key e,R.o e.2.2)::p::S else(p.1,R.ad p.2 (R.o e.2.2))::S
end Sm
end
end Go.Proofs.Ytjjbpdldbdmoeaa
