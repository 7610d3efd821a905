/- Texts of a claim, joined. -/
import Derived.Test.YthkgcllekhnecaaZS8
import Derived.Test.YthkgcllekhnecaaProg
import Derived.WalkKit
import Derived.BigQuiet
import Derived.Lib.QuietBelow
import Derived.WalkSpells
import Derived.WalkLawsBesides
import Derived.IntWalk
import Derived.Lib.Hide
import Derived.Outline
import Derived.StillTail
import Derived.Laws.OwnMore
import Derived.Maps.AppendAt
import Derived.RangeFuncBox
import Derived.Defers
import Derived.Recover
set_option linter.unusedVariables false
set_option linter.unusedSimpArgs false
namespace Go.Proofs.Ythkgcllekhnecaa
noncomputable section
namespace Ev
namespace K
open Go Go.RowKit
section
variable {E : Env} {y : Nat → dI} {n : Nat} {G : KG} {D0 : Nat}
section loop
variable {F : KF} {ks : KS} {V : Vl} {f : Nat → D} {h : ah} {a : Ez} {cs : List KC} {x0 : cl a.head.sh} {ks2 : KS} {V1 V2 : Vl} {f2 : Nat → D} {x1 : cl a.head.sh}
theorem oW{F:KF}{ks:KS}:∀{bs:List (Nat×List Sh)} {p:Nat},p∈mt F ks bs→∃v∈bs,cQ F ks v.1=some p
 | [],p,h=>by simp [mt]at h
 |v::r,p,h=>by
  unfold mt at h;split at h
  ·rename_i q hq;rcases List.mem_cons.1 h with rfl|h
   ·exact⟨v,by simp,hq⟩
   ·obtain⟨w,h1,h2⟩:=oW h;exact⟨w,by simp [h1],h2⟩
  ·obtain⟨w,h1,h2⟩:=oW h;exact⟨w,by simp [h1],h2⟩
theorem xG(hr:Rel F ks V f h)(hok:fM F ks=true)(hcs:dE F ks a.head=some cs)(hrd:RdCs ks a.head.sh cs x0)(ha1:Agree ks.nx V V1)(hl1:LeB ks.nx (ao F ks) (ao (aq F ks a cs) (ba F ks a.head x1))){s:St}(hst:s.t=tab F.nt f2)(hr2:Rel (aq F ks a cs) ks2 V2 f2 s.h)(hok2:fM (aq F ks a cs) ks2=true)(hext:Ext (aq F ks a cs) (ba F ks a.head x1) V1 ks2 V2){e:Ex}:∀{l:List (Ex×Pt)} {R:Type} {r:R} {κ:XT l→Option R},(∀x∈l,ni F ks (aq F ks a cs) x.2=true)→qB (aq F ks a cs) ks2 e l κ=some r→∃v,κ v=some r∧JX F ks V a.keep (cm F ks a cs) l v e s
 | [],R,r,κ,hb,hs=>by simp [qB]at hs
 |x::l,R,r,κ,hb,hs=>by
  unfold qB at hs
  cases hx:qA e x.1 with
  |false=>
   rw [hx]at hs;obtain⟨v,h1,h2⟩:=xG hr hok hcs hrd ha1 hl1 hst hr2 hok2 hext (fun z hz=>hb z (by simp [hz])) hs;exact⟨.inr v,h1,h2⟩
  |true=>
   rw [hx]at hs;obtain⟨cs2,v,g1,g2,g3,g4⟩:=ls hr2 hs;have hbs:=hb x (by simp)
   have hkb:∀p,aT (xg F ks a.keep (cm F ks a cs) x.2 v).bl F.bl p=ae ((ba F ks x.2 v).bl++((cm F ks a cs).map (fun p=>(p,KB.dead))++(ks.bl++F.bl))) p:=fun p=>by
    rw [←aP];show ae ((ba F ks x.2 v).bl++((cm F ks a cs).map (fun p=>(p,KB.dead))++ks.bl)++F.bl) p=_;rw [List.append_assoc,List.append_assoc]
   obtain⟨V3,hr3,ha3,hl3⟩:=Ic (Fb:=F) (kb:=xg F ks a.keep (cm F ks a cs) x.2 v) hr hok hcs hr2 hok2 hext hbs g1 g2 g3 rfl rfl (fun i d hd=>by
    have hd':aT (gA x.2.vs ((av x.2.sh v ks.nx).map (·.1))++nL F ks a.keep) F.sl i=some d:=hd;rw [←aP,List.append_assoc,aP]at hd';unfold aT at hd'
    cases hl:ae (gA x.2.vs ((av x.2.sh v ks.nx).map (·.1))) i with
    |some d'=>rw [hl]at hd';cases hd';exact .inl rfl
    |none=>rw [hl]at hd';exact .inr hd') hkb
   have hnx1:ks.nx≤(ba F ks a.head x1).nx:=by show ks.nx≤ks.nx+_;omega
   refine⟨.inl v,g4,Ib hx,V3,f2,hst,hr3,⟨by show ks.nx≤ks.nx+_;omega,?_,?_,?_⟩⟩
   ·exact(ha1.trans hext.agree hnx1).trans ha3 (Nat.le_refl _)
   ·exact(hl1.trans hext.le hnx1).trans hl3 (Nat.le_refl _)
   ·intro p hp hl;have h2:=Qr hcs hrd hext hp hl;show ae ((ba F ks x.2 v).bl++((cm F ks a cs).map (fun p=>(p,KB.dead))++ks.bl)) p=none;obtain⟨ca,cb,cw,_,hcb2,_,_⟩:=eE g1
    have e1:ae (ba F ks x.2 v).bl p=none:=by
     refine mw (fun w hw he=> ?_) (fun w hw he=> ?_) hp
     ·obtain⟨q,c,j1,j2⟩:=jk hcb2 w hw;rw [Ar hok hok2 hbs w hw,he]at j1;cases j1;rw [h2]at j2;simp at j2
     ·obtain⟨q,j1,j2⟩:=At hr hok2 hcs hext hbs w hw;rw [he]at j2;cases j2;obtain⟨q,k1,k2⟩:=oT g1 hw;rw [j1]at k1;cases k1;obtain⟨b,k3,_⟩:=qJ g3 k2;rw [h2]at k3;simp at k3
    rw [aP];unfold aT;rw [e1];simp only [aP];unfold aT;rcases sb (l:=cm F ks a cs) (p:=p)with⟨h1,h2⟩|⟨h1,h2⟩
    ·rw [h1];exact hl
    ·exfalso;rcases List.mem_append.1 h2 with h2|h2
     ·obtain⟨b',k1,_⟩:=qJ hrd h2;rw [hl]at k1;simp at k1
     ·obtain⟨w,hw,hpw⟩:=oW h2;obtain⟨ca,cb,cw,_,hcb,_,_⟩:=eE hcs;obtain⟨p'',c'',j1,j2⟩:=jk hcb w hw;rw [hpw]at j1;cases j1;rw [hl]at j2;simp at j2
end loop
theorem ES(hG:GOk G E D0)(hD:D0≤n){A:NG}{call:zZ}(hcall:GB E n call):∀(c:Code) (R:Type) (F:KF) (ks:KS) (κ:Ex→KS→Option R) (r:R) (V:Vl) (f:Nat→D) (h:ah),eW G A call c R F ks κ=some r→Rel F ks V f h→WpC E y n c (PostC F ks V κ r) {t:=tab F.nt f,h:=h}:=by
 intro c
 induction c with
 |skip=>intro R F ks κ r V f h hs hr;exact Ee ⟨ks,V,f,rfl,hr,hs,Ext.refl _ _ _⟩
 |region id ops draw=>
  intro R F ks κ r V f h hs hr;obtain⟨l⟩:=ops
  cases draw with
  |false=>
   have hs':zb G call F (Array.toList ⟨l⟩) (κ .normal) l ks=some r:=hs;exact Ek (qI (ops:=⟨l⟩) hG hD hcall l hs' hr)
  |true=>
   have hs':cond (dB ⟨l⟩) (match ae A.tn id with
    |none=>mq G F l (κ .normal) l ks
    |some T=>match Gr F ks T.old with
     |some O=>cond (ku ⟨l⟩ T.new && djB O (ew ⟨l⟩) O && Cz ks O) (sU G F l (ew ⟨l⟩) O T.new ks (κ .normal) 0 [] l ks) none
     |none=>none) (match lM ⟨l⟩with
    |some m=>cond (kY ⟨l⟩) (mq G F l (zb G call F l (κ .normal) (l.drop m)) (l.take m) ks) none
    |none=>none)=some r:=hs
   cases hq:dB ⟨l⟩with
   |true=>
    rw [hq]at hs';simp only [cond_true]at hs';split at hs'
    ·exact FW l.length rfl hq fun h' h1 h2=>mV (ops:=⟨l⟩) (κ:=κ .normal) hG hD l 0 hs' (hr.heap h2)
    ·split at hs'
     ·rename_i T hT _ O hO
      cases hc:(ku ⟨l⟩ T.new && djB O (ew ⟨l⟩) O && Cz ks O)with
      |false=>rw [hc]at hs';simp at hs'
      |true=>
       rw [hc]at hs';simp only [Bool.and_eq_true]at hc;exact Jz hG hD hq hc.1.1 hc.1.2 hc.2 hs' hr
     ·simp at hs'
   |false=>
    rw [hq]at hs';simp only [cond_false]at hs';split at hs'
    ·rename_i m hc
     cases hp:kY ⟨l⟩with
     |false=>rw [hp]at hs';simp at hs'
     |true=>
      rw [hp]at hs';have hr':Rel F ks V f (h++List.replicate (Array.mk l).size .no):=hr.heap fun k=>oF _ _ _;refine Me m hc hp (EO (mV (ops:=⟨l⟩) (b:=h.length) (κ:=zb G call F l (κ .normal) (l.drop m)) hG hD (l.take m) 0 hs' hr') fun t ht=> ?_);obtain⟨ks',V',f',h1,h2,h3,h4⟩:=ht;simp only at h1 h2;subst h1;exact mU (qI (ops:=⟨l⟩) hG hD hcall (l.drop m) h3 h2) fun s hs=>Post.ext h4 hs
    ·simp at hs'
 |seq a b iha ihb=>
  intro R F ks κ r V f h hs hr
  have hs':(match A.lp.find? fun z=>z.join &&(some z.key==eD a && Nat.beq z.sz (qC a))with
   |none=>eW G A call a R F ks fun e ks=>match e with
    | .normal=>eW G A call b R F ks κ
    |e=>κ e ks
   |some z=>match dE F ks z.head,fM F ks with
    |some cs,true=>cond (ni F ks (aq F ks z cs) z.head && z.exs.all fun x=>ni F ks (aq F ks z cs) x.2) (qz F ks z.head fun x0=>
     (eW G A call a (XT z.exs) (aq F ks z cs) (ba F ks z.head x0) fun e ks2=>cond (fM (aq F ks z cs) ks2) (qB (aq F ks z cs) ks2 e z.exs some) none).bind fun y=>afterX F ks z.keep (cm F ks z cs) z.exs y fun e ks=>match e with
      | .normal=>eW G A call b R F ks κ
      |e=>κ e ks) none
    |_,_=>none)=some r:=hs
  have key:∀e s,PostC F ks V (fun e ks=>match e with
    | .normal=>eW G A call b R F ks κ
    |e=>κ e ks) r e s→zE (WpC E y n b (PostC F ks V κ r)) (PostC F ks V κ r) e s:=by
   intro e s hp;obtain⟨ks',V',f',h1,h2,h3,h4⟩:=hp;obtain⟨t,hh⟩:=s;simp only at h1 h2;subst h1
   cases e with
   |normal=>exact(ihb R F ks' κ r V' f' hh h3 h2).mono fun e s hp=>hp.ext h4
   |ret=>exact⟨ks',V',f',rfl,h2,h3,h4⟩
   |exit id=>exact⟨ks',V',f',rfl,h2,h3,h4⟩
  split at hs'
  ·exact Cg ((iha R F ks _ r V f h hs' hr).mono key)
  ·rename_i z hz;split at hs'
   ·rename_i cs hcs hok
    cases hbs:(ni F ks (aq F ks z cs) z.head && z.exs.all fun x=>ni F ks (aq F ks z cs) x.2)with
    |false=>rw [hbs]at hs';simp at hs'
    |true=>
     rw [hbs]at hs';rw [Bool.and_eq_true]at hbs;obtain⟨hbs0,hbsx⟩:=hbs;obtain⟨cs',x0,g1,g2,g3,g4⟩:=ls hr hs';rw [hcs]at g1;cases g1;rw [zbE]at g4;obtain⟨out,g4,g5⟩:=g4;obtain⟨V1,hr1,ha1,hl1⟩:=ut hr hok hcs g2 g3;refine Cg ((iha _ (aq F ks z cs) (ba F ks z.head x0) _ out V1 f h g4 hr1).mono fun e s hp=>key e s ?_);obtain⟨ks2,V2,f2,t1,r2,k1,ext⟩:=hp;dsimp only at k1
     cases hok2:fM (aq F ks z cs) ks2 with
     |false=>rw [hok2]at k1;simp at k1
     |true=>
      rw [hok2]at k1;obtain⟨v,j1,j2⟩:=xG hr hok hcs g3 ha1 hl1 t1 r2 hok2 ext (fun w hw=>List.all_eq_true.1 hbsx w hw) k1;cases j1;exact sd g5 j2
   ·simp at hs'
 |cond c a b iha ihb=>
  intro R F ks κ r V f h hs hr
  have hs':(match kO F ks c with
   |some (.one c)=>kIf c ks fun t ks=>cond t (eW G A call a R F ks κ) (eW G A call b R F ks κ)
   |_=>none)=some r:=hs
  split at hs'
  ·rename_i c0 hc;obtain⟨d,d1,d2,c',rfl,d3⟩:=aY hr hc;obtain⟨t,ks',g1,rfl,g3,g4⟩:=Qp hr d3 hs';have e1:opnd (tab F.nt f) c=some (.one (bC t)):=(bk F.nt f c).trans d1;refine wK e1 rfl ?_
   cases t with
   |true=>exact(iha R F ks' κ r V f h g1 g3).mono fun e s hp=>hp.ext g4
   |false=>exact(ihb R F ks' κ r V f h g1 g3).mono fun e s hp=>hp.ext g4
  ·simp at hs'
 |block id b ih=>
  intro R F ks κ r V f h hs hr;have hs':eW G A call b R F ks (fun e ks=>κ (cond (qA e (.exit id)) .normal e) ks)=some r:=hs;refine zF ((ih R F ks _ r V f h hs' hr).mono fun e s hp=> ?_);obtain⟨ks',V',f',h1,h2,h3,h4⟩:=hp;refine⟨ks',V',f',h1,h2,?_,h4⟩;rw [←h3]
  have:(if e= .exit id then Ex.normal else e)=cond (qA e (.exit id)) .normal e:=by
   cases hx:qA e (.exit id)with
   |true=>rw [if_pos (Ib hx)];rfl
   |false=>rw [if_neg (fun he=>by subst he;simp [qA]at hx)];rfl
  rw [this]
 |loop b ih=>
  intro R F ks κ r V f h hs hr
  have hs':(match A.lp.find? fun a=> !a.join && some a.key==eD b with
   |none=>none
   |some a=>match dE F ks a.head,fM F ks with
    |some cs,true=>cond (ni F ks (aq F ks a cs) a.head && a.exs.all fun x=>ni F ks (aq F ks a cs) x.2 && !qA x.1 .normal) (qz F ks a.head fun x0=>
     (aM (fun x=>eW G A call b (cl a.head.sh ⊕ XT a.exs) (aq F ks a cs) (ba F ks a.head x) fun e ks2=>cond (fM (aq F ks a cs) ks2) (match e with
      | .normal=>qz (aq F ks a cs) ks2 a.head fun y=>some (.inl y)
      |e=>qB (aq F ks a cs) ks2 e a.exs fun y=>some (.inr y)) none) x0).bind fun y=>afterX F ks a.keep (cm F ks a cs) a.exs y κ) none
    |_,_=>none)=some r:=hs
  split at hs'
  ·simp at hs'
  ·rename_i a ha;split at hs'
   ·rename_i cs hcs hok
    cases hbs:(ni F ks (aq F ks a cs) a.head && a.exs.all fun x=>ni F ks (aq F ks a cs) x.2 && !qA x.1 .normal)with
    |false=>rw [hbs]at hs';simp at hs'
    |true=>
     rw [hbs]at hs';rw [Bool.and_eq_true]at hbs;obtain⟨hbs0,hbsx⟩:=hbs;obtain⟨cs',x0,g1,g2,g3,g4⟩:=ls hr hs';rw [hcs]at g1;cases g1;rw [zbE]at g4;obtain⟨out,g4,g5⟩:=g4;obtain⟨V1,hr1,ha1,hl1⟩:=ut hr hok hcs g2 g3;refine WpC.mono (zQ _ (fun x s=>∃V1 f1,s.t=tab F.nt f1∧Rel (aq F ks a cs) (ba F ks a.head x) V1 f1 s.h∧Agree ks.nx V V1∧LeB ks.nx (ao F ks) (ao (aq F ks a cs) (ba F ks a.head x))) (fun o e s=>JX F ks V a.keep (cm F ks a cs) a.exs o e s) (fun r s=>Nm (fun z hz=>by have:=List.all_eq_true.1 hbsx z hz;rw [Bool.and_eq_true]at this;simpa using this.2) r s) ?_ x0 out _ g4 ⟨V1,f,rfl,hr1,ha1,hl1⟩) fun e s hj=>sd g5 hj;intro x o s hb hI;obtain⟨W1,f1,e1,r1,a1,l1⟩:=hI;obtain⟨t,hh⟩:=s;simp only at e1 r1;subst e1;refine(ih _ (aq F ks a cs) (ba F ks a.head x) _ o W1 f1 hh hb r1).mono fun e s hp=> ?_;obtain⟨ks2,V2,f2,t1,r2,k1,ext⟩:=hp;dsimp only at k1
     cases hok2:fM (aq F ks a cs) ks2 with
     |false=>rw [hok2]at k1;simp at k1
     |true=>
      rw [hok2]at k1;simp only [cond_true]at k1
      have hx:e≠ .normal→qB (aq F ks a cs) ks2 e a.exs (fun y=>some (.inr y))=some o→∃v,o= .inr v∧JX F ks V a.keep (cm F ks a cs) a.exs v e s:=by
       intro hne hk;obtain⟨v,j1,j2⟩:=xG hr hok hcs g3 a1 l1 t1 r2 hok2 ext (fun z hz=>by have:=List.all_eq_true.1 hbsx z hz;rw [Bool.and_eq_true]at this;exact this.1) hk;exact⟨v,(Option.some.inj j1).symm,j2⟩
      cases e with
      |normal=>
       obtain⟨cs2,v,w1,w2,w3,w4⟩:=ls r2 k1;cases w4
       obtain⟨V3,hr3,ha3,hl3⟩:=Ic (Fb:=aq F ks a cs) (kb:=ba F ks a.head v) hr hok hcs r2 hok2 ext hbs0 w1 w2 w3 rfl rfl (fun i d hd=>by
        have hd':aT (gA a.head.vs ((av a.head.sh v ks.nx).map (·.1))) (aq F ks a cs).sl i=some d:=hd;unfold aT at hd'
        cases hl:ae (gA a.head.vs ((av a.head.sh v ks.nx).map (·.1))) i with
        |some d'=>rw [hl]at hd';cases hd';exact .inl rfl
        |none=>rw [hl]at hd';exact .inr hd') (fun p=>(aP _ _ p).symm)
       exact⟨rfl,V3,f2,t1,hr3,(a1.trans ext.agree (by show ks.nx≤ks.nx+_;omega)).trans ha3 (Nat.le_refl _),(l1.trans ext.le (by show ks.nx≤ks.nx+_;omega)).trans hl3 (Nat.le_refl _)⟩
      |ret=>obtain⟨v,rfl,j⟩:=hx (by simp) k1;exact j
      |exit id=>obtain⟨v,rfl,j⟩:=hx (by simp) k1;exact j
   ·simp at hs'
 |exit id=>intro R F ks κ r V f h hs hr;exact Ef ⟨ks,V,f,rfl,hr,hs,Ext.refl _ _ _⟩
 |ret=>intro R F ks κ r V f h hs hr;exact Hq ⟨ks,V,f,rfl,hr,hs,Ext.refl _ _ _⟩
 |label l=>intro R F ks κ r V f h hs hr;exact Jd ⟨ks,V,f,rfl,hr,hs,Ext.refl _ _ _⟩
 |scope b ih=>
  intro R F ks κ r V f h hs hr;exact Je (ih R F ks κ r V f h hs hr)
 |_=>intro R F ks κ r V f h hs hr;simp [eW]at hs
end
end K
end Ev
end
noncomputable section
namespace Ev
namespace K
open Go Go.RowKit
section
variable {E : Env} {n : Nat} {F : KF} {ks : KS} {V : Vl} {f : Nat → D} {h : ah} {G : KG} {D0 : Nat}
theorem xH{k i j bz:Nat}{ag:Bool}{sz:Nat}{es:List (List C)}{e cs:List C}{d:D}(hg:an h k=some (bz,es))(he:es[i]? =some e)(hc:Ev.cut e j sz=some cs)(hv:bW ag cs=some d):load h ag sz (.one (.ptr k i j))=some d:=by
 simp only [load,hg,zbB,zbS,he,hc,hv]
theorem Mj(hr:Rel F ks V f h){z:Nat×Bool}{a:KD}{a':D}{R:Type}{r:R}{κ:KD→Option R}(hs:gh F ks z a κ=some r)(ha:RD (ao F ks) V a a'):∃d d',κ d=some r∧load h z.2 (if z.2 then z.1 else 1) a'=some d'∧RD (ao F ks) V d d'∧ScD ks.nx d:=by
 have hz:wd z=if z.2 then z.1 else 1:=by unfold wd;cases z.2<;>rfl
 cases a with
 |tup ts=>simp [gh]at hs
 |agg cs=>simp [gh]at hs
 |one c=>
  obtain⟨c',rfl,hc⟩:=ha
  cases c with
  |ptr p j=>
   simp only [gh]at hs;split at hs
   ·rename_i cs hp;simp only [zbE]at hs;obtain⟨d2,⟨cs2,g1,g2⟩,g3⟩:=hs;obtain⟨g4,g5,sz,cs',g6,g7⟩:=hr.bl p _ hp;obtain⟨c2,g8,g9⟩:=g7.cut g1;obtain⟨d3,k1,k2,k3⟩:=fj g2 (gO g5 g1) g9;rw [show c'=_ from hc];exact⟨_,d3,g3,xH g6 rfl (by rw [←hz];exact g8) k1,k2,k3⟩
   ·simp at hs
  |ip e fr x i y j=>
   simp only [gh,zbE]at hs;obtain⟨d2,⟨cs2,g1,g2⟩,g3⟩:=hs;obtain⟨fl,e1,e2,e3⟩:=hc;obtain⟨c2,g8,g9⟩:=(cH (B:=ao F ks) (V:=V) e3 e y).cut g1;obtain⟨d3,k1,k2,k3⟩:=fj g2 (gO (dS ks.nx fr e y) g1) g9;refine⟨_,d3,g3,?_,k2,k3⟩;rw [e1];simp only [load,zbB,uC (r:=e.row) e2,zbS];rw [←hz,g8];exact k1
  |pe p i j=>
   simp only [gh]at hs;rw [hc.2];split at hs
   ·rename_i e ne l hp;simp only [zbE]at hs;obtain⟨y,g0,d2,⟨cs2,g1,g2⟩,g3⟩:=hs;obtain⟨g4,g5,g6,_⟩:=hr.bl p _ hp;obtain⟨c2,g8,g9⟩:=(cH (B:=ao F ks) (V:=V) (fun _=>rfl) e y).cut g1;obtain⟨d3,k1,k2,k3⟩:=fj g2 (gO (dS ks.nx true e y) g1) g9;exact⟨_,d3,g3,xH g6 (mT g0).2 (by rw [←hz];exact g8) k1,k2,k3⟩
   ·rename_i e l hp;simp only [zbE]at hs;obtain⟨y,g0,d2,⟨cs2,g1,g2⟩,g3⟩:=hs;obtain⟨g4,g5,g6⟩:=hr.bl p _ hp;obtain⟨c2,g8,g9⟩:=(cH (B:=ao F ks) (V:=V) (fun _=>rfl) e y).cut g1;obtain⟨d3,k1,k2,k3⟩:=fj g2 (gO (dS ks.nx true e y) g1) g9;exact⟨_,d3,g3,xH (g6 (CG g0)) (mT g0).2 (by rw [←hz];exact g8) k1,k2,k3⟩
   ·simp at hs
  |_=>simp [gh]at hs
theorem uI(hG:GOk G E D0)(hr:Rel F ks V f h):∀{rv:List ResultVar} {R:Type} {r:R} {κ:List KD→Option R},CA G F ks rv κ=some r→∃ds ds',rv.mapM (bN E {t:=tab F.nt f,h:=h})=some ds'∧RDl (ao F ks) V ds ds'∧(∀d∈ds,ScD ks.nx d)∧κ ds=some r
 | [],R,r,κ,hs=>⟨[],[],rfl,rfl,by simp,hs⟩
 | .tmp t::rv,R,r,κ,hs=>by
  simp only [CA,zbE]at hs;obtain⟨d,g1,g2⟩:=hs;obtain⟨k1,k2,k3⟩:=hr.sl t d g1;obtain⟨ds,ds',e1,e2,e3,e4⟩:=uI hG hr g2;refine⟨d::ds,f t::ds',?_,⟨_,_,rfl,k3,e2⟩,fun x hx=> ?_,e4⟩
  ·rw [List.mapM_cons,e1];show((tab F.nt f)[t]?).bind _=_;rw [jF,if_pos k1];rfl
  ·rcases List.mem_cons.1 hx with rfl|hx
   ·exact k2
   ·exact e3 x hx
 | .cell a ty::rv,R,r,κ,hs=>by
  simp only [CA]at hs;split at hs
  ·rename_i z d hz hd;have hz':=CF hG hz;obtain⟨k1,k2,k3⟩:=hr.sl a d hd;obtain⟨v,v',g1,g2,g3,g4⟩:=Mj hr hs k3;obtain⟨ds,ds',e1,e2,e3,e4⟩:=uI hG hr g1;refine⟨v::ds,v'::ds',?_,⟨_,_,rfl,g3,e2⟩,fun x hx=> ?_,e4⟩
   ·unfold fE at hz';simp only [zbE,zsI]at hz';obtain⟨ti,w1,w2⟩:=hz';rw [List.mapM_cons,e1];show(((E.ti ty).bind fun t'=>((tab F.nt f)[a]?).bind fun d=>load h (aH t'.desc) (if aH t'.desc then t'.size else 1) d).bind _)=_;rw [w1,jF,if_pos k1];subst w2;simp only [zbS];rw [g2];rfl
   ·rcases List.mem_cons.1 hx with rfl|hx
    ·exact g4
    ·exact e3 x hx
  ·simp at hs
theorem CP:∀{ds:List KD} {ds':List D} {ts:List (Bool×List KC)},tupK.tups ds=some ts→RDl (ao F ks) V ds ds'→(∀d∈ds,ScD ks.nx d)→RTs (ao F ks) V ts ds'∧∀x∈ts,Scs ks.nx x.2
 | [],ds',ts,h,hr,hs=>by
  have:=Option.some.inj (show some []=some ts from h)
  subst this;exact⟨hr,by simp⟩
 | .one c::r,ds',ts,h,⟨d,s,e,h1,h2⟩,hs=>by
  simp only [tupK.tups,Option.map_eq_some_iff]at h;obtain⟨ts',g1,rfl⟩:=h;obtain⟨k1,k2⟩:=CP g1 h2 fun x hx=>hs x (by simp [hx]);refine⟨⟨d,s,e,h1,k1⟩,fun x hx=> ?_⟩;rcases List.mem_cons.1 hx with rfl|hx
  ·exact fun y hy=>by rw [List.mem_singleton.1 hy];exact hs (.one c) (by simp)
  ·exact k2 x hx
 | .agg cs::r,ds',ts,h,⟨d,s,e,h1,h2⟩,hs=>by
  simp only [tupK.tups,Option.map_eq_some_iff]at h;obtain⟨ts',g1,rfl⟩:=h;obtain⟨k1,k2⟩:=CP g1 h2 fun x hx=>hs x (by simp [hx]);refine⟨⟨d,s,e,h1,k1⟩,fun x hx=> ?_⟩;rcases List.mem_cons.1 hx with rfl|hx
  ·exact hs (.agg cs) (by simp)
  ·exact k2 x hx
 | .tup ts'::r,ds',ts,h,hr,hs=>by simp [tupK.tups]at h
theorem NV{ds:List KD}{ds':List D}{d:KD}(h:tupK ds=some d)(hr:RDl (ao F ks) V ds ds')(hs:∀d∈ds,ScD ks.nx d):RD (ao F ks) V d (iJ ds')∧ScD ks.nx d:=by
 match ds,h,hr,hs with
 | [x],h,⟨d',s,e,h1,h2⟩,hs=>
  cases h;rw [e,show s= []from h2];exact⟨h1,hs d (by simp)⟩
 | [],h,hr,hs=>
  cases h;rw [show ds'= []from hr];exact⟨⟨[],rfl,rfl⟩,fun x hx=>by simp at hx⟩
 |x::x'::r,h,hr,hs=>
  have h':(tupK.tups (x::x'::r)).map KD.tup=some d:=h;rw [Option.map_eq_some_iff]at h';obtain⟨ts,g1,rfl⟩:=h';obtain⟨k1,k2⟩:=CP g1 hr hs;obtain⟨d1,s1,e1,_,d2,s2,e2,_,_⟩:=hr;refine⟨⟨ds',?_,k1⟩,k2⟩;rw [e1,e2];rfl
theorem Av:∀{l:List KD} {q i:Nat} {d:KD},ae (zc q l) i=some d→∃j,i=q+j∧l[j]? =some d
 | [],q,i,d,h=>by simp [zc,ae]at h
 |a::l,q,i,d,h=>by
  unfold zc at h;rw [aB]at h;split at h
  ·rename_i hi;cases h;exact⟨0,by omega,rfl⟩
  ·obtain⟨j,h1,h2⟩:=Av h;exact⟨j+1,by omega,by simpa using h2⟩
theorem Ie{B:BK}:∀{l:List KD} {l':List D} {j:Nat} {d:KD},RDl B V l l'→l[j]? =some d→∃d',l'[j]? =some d'∧RD B V d d'
 | [],l',j,d,h,hj=>by simp at hj
 |a::l,l',0,d,⟨x,s,e,h1,h2⟩,hj=>by simp at hj;subst hj e;exact⟨x,rfl,h1⟩
 |a::l,l',j+1,d,⟨x,s,e,h1,h2⟩,hj=>by subst e;simpa using Ie h2 (by simpa using hj)
theorem If{B:BK}:∀{l:List KD} {l':List D},RDl B V l l'→l'.length=l.length
 | [],l',h=>by rw [show l'= []from h];rfl
 |a::l,l',⟨x,s,e,h1,h2⟩=>by rw [e,List.length_cons,List.length_cons,If h2]
theorem Aw{nt nx:Nat}{bl:List (Nat×KB)}{args:List KD}{args':List D}(hb:Mb F {sl:= [],bl:=bl,nx:=nx} V h)(hs:∀d∈args,ScD nx d)(hr:RDl (ao F {sl:= [],bl:=bl,nx:=nx}) V args args')(hl:args.length≤nt):Rel {F with sl:= [],nt:=nt} {sl:=zc 0 args,bl:=bl,nx:=nx} V (fA args') h:=by
 refine⟨?_,hb.bl,hb.inj⟩;intro i d hd;have hd':aT (zc 0 args) [] i=some d:=hd;unfold aT at hd'
 cases hl':ae (zc 0 args) i with
 |none=>rw [hl']at hd';simp [ae]at hd'
 |some d0=>
  rw [hl']at hd';cases hd';obtain⟨j,h1,h2⟩:=Av hl';rw [Nat.zero_add]at h1;subst h1;obtain⟨d',h3,h4⟩:=Ie hr h2;have hi:i<args.length:=(List.getElem?_eq_some_iff.1 h2).1;refine⟨Nat.lt_of_lt_of_le hi hl,hs d (List.mem_of_getElem? h2),?_⟩;show RD _ _ d (args'.getD i bE);rw [List.getD_eq_getElem?_getD,h3];exact h4
theorem ET{e:Ex}(h:sV e=true):e= .normal∨e= .ret:=by
 cases e with
 |normal=>exact .inl rfl
 |ret=>exact .inr rfl
 |exit id=>simp [sV]at h
theorem EU(hG:GOk G E D0)(A:bQ):∀(c n:Nat),D0+c≤n→GB E n (EA G A c)
 |0,n,hn=>fun R F k args ks κ r V h args' hs hb hsc hr=>by simp [EA]at hs
 |c+1,n,hn=>fun R F k args ks κ r V h args' hs hb hsc hr=>by
  unfold EA at hs;split at hs
  ·rename_i fi hfi;obtain⟨g1,g2⟩:=hG.fi k fi hfi;split at hs
   ·rename_i hlen
    match n,hn with
    |n0+1,hn=>
     refine⟨n0,fi,rfl,g1,g2,by rw [If hr];exact hlen,?_⟩;have hrel:Rel {F with sl:= [],nt:=fi.nt} {ks with sl:=zc 0 args} V (fA args') h:=Aw ⟨hb.bl,hb.inj⟩ hsc hr hlen;refine(ES (y:=nY) hG (by omega) (EU hG A c n0 (by omega)) fi.body R _ _ _ r V _ h hs hrel).mono fun e s hp=> ?_;obtain⟨ks',V',f',h1,h2,h3,h4⟩:=hp;obtain⟨t,hh⟩:=s;simp only at h1 h2;subst h1;dsimp only at h3
     cases he:sV e with
     |false=>rw [he]at h3;simp at h3
     |true=>
      rw [he]at h3;obtain⟨ds,ds',e1,e2,e3,e4⟩:=uI hG h2 h3;rw [zbE]at e4;obtain⟨d,e5,e6⟩:=e4;obtain⟨k1,k2⟩:=NV e5 e2 e3;exact⟨ET he,ds',e1,ks',V',d,e6,k2,k1,⟨h2.bl,h2.inj⟩,⟨h4.nx,h4.agree,h4.le,h4.dom⟩⟩
   ·simp at hs
  ·simp at hs
theorem oX:∀{e:Ty} (x:e.val),e.plain=true→(cv e.row x).all uL=true
 | .I _,_,_=>rfl
 | .B,_,_=>rfl
 | .S _,_,hp=>by simp [Ty.plain]at hp
 | .U,_,_=>rfl
 | .C a b,x,hp=>by
  simp only [Ty.plain,Bool.and_eq_true]at hp;unfold cv;show((a.row x.1++b.row x.2).map (pC true)).all uL=true;rw [List.map_append,List.all_append];have h1:=oX x.1 hp.1;have h2:=oX x.2 hp.2;unfold cv at h1 h2;rw [h1,h2];rfl
theorem xI{B:BK}:∀{l:List (Bool×List KC)} {ds:List D},RTs B V l ds→RDl B V (l.map mkD) ds
 | [],ds,h=>h
 |x::l,ds,⟨d,s,e,h1,h2⟩=>⟨d,s,e,Gw h1,xI h2⟩
theorem Ig(fr:Bool):∀(ts:List TyD) (x:aE ts),(ml fr ts x).length=ts.length
 | [],_=>rfl
 | [t],x=>rfl
 |t::t'::r,x=>by show(ml fr (t'::r) x.2).length+1=_;rw [Ig fr (t'::r)];rfl
theorem CQ:∀(ts:List TyD) (x:aE ts),(bp ts x).length=ts.length
 | [],_=>rfl
 | [t],x=>rfl
 |t::t'::r,x=>by show(bp (t'::r) x.2).length+1=_;rw [CQ (t'::r)];rfl
theorem JA{B:BK}{ts:List TyD}{ds:List KD}{ds':List D}{x:aE ts}(hd:jH B ts ds=some x)(hr:RDl B V ds ds')(hno:rW ds=false):cJ h ds'=false:=by
 unfold cJ;split
 ·rename_i k m
  match ds,hr,hno,hd with
  | [d],⟨y,s,e,h1,h2⟩,hno,hd=>
   rw [show s= []from h2]at e;simp only [List.cons.injEq,and_true]at e;subst e
   match ts,x,hd with
   | [t],x,hd=>
    have hd':Cv B t d=some x:=hd
    cases d with
    |one c=>
     obtain⟨c',e1,e2⟩:=h1;cases e1
     cases c with
     |o e p=>simp [rW]at hno
     |m e p=>simp [rW]at hno
     |n k y=>exact absurd (show C.own _ 0 _=_ from e2) (by simp)
     |b v=>exact absurd (show C.own _ 0 _=_ from e2) (by simp)
     |p t P d=>exact absurd e2.1 (by simp)
     |bv y=>exact absurd (show C.own _ 0 _=_ from e2) (by simp)
     |v y=>exact absurd (show C.own _ 0 _=_ from e2) (by simp)
     |nil=>exact absurd (show C.own _ 0 _=_ from e2) (by simp)
     |s e fr y=>obtain⟨fl,e3,_⟩:=e2;exact absurd e3 (by simp)
     |ptr p j=>exact absurd (show C.own _ 0 _=_ from e2) (by simp)
     |pe p i j=>exact absurd e2.2 (by simp)
     |ip e fr y i z j=>obtain⟨fl,e3,_⟩:=e2;exact absurd e3 (by simp)
     |clo fn ps=>exact absurd (show C.own _ 0 _=_ from e2) (by simp)
     |yld p=>exact absurd (show C.own _ 0 _=_ from e2) (by simp)
    |agg cs=>obtain⟨c',e1,_⟩:=h1;simp at e1
    |tup ts=>simp [Cv]at hd'
   | [],x,hd=>simp [jH]at hd
   |_::_::_,x,hd=>simp [jH]at hd
  | [],hr,_,_=>exact absurd (show [_]=_ from hr) (by simp)
  |_::_::_,⟨y,s,e,h1,y2,s2,e2,_,_⟩,_,_=>rw [e2]at e;simp at e
 ·rfl
theorem qM{rv:List ResultVar}{e:Ty}{l:List e.val}{k:Nat}{ex:Ex}{s:St}(he:ex= .normal∨ex= .ret)(hres:rv.mapM (bN E s)=some [.one (.own k 0 l.length)])(hg:an s.h k=some (e.size,l.map (cv e.row)))(hp:e.plain=true):wN E rv (.own,[.one (.s true e.size (l.map e.row))]) ex s:=by
 have ho:cJ s.h [.one (.own k 0 l.length)]=true:=by
  simp only [cJ,hg,List.length_map,BEq.rfl,Bool.true_and,List.all_map];rw [List.all_eq_true];exact fun x _=>oX x hp
 have hv:bO s.h (.one (.own k 0 l.length))=some (true,.one (.s true e.size (l.map e.row))):=by
  show(cX s.h 6 _).bind _=_;rw [Cn (r:=e.row) (L:= [[(k,e.size,l.map (cv e.row))]]) 0 rfl (fun x h m=>xj m) s.h (gB hg) 4];rfl
 have key:bI (fun q:Kind×List TD=>q=(.own,[.one (.s true e.size (l.map e.row))])) ((rv.mapM (bN E s)).bind fun rs=>(rs.mapM (bO s.h)).map fun l=>(if cJ s.h rs then .own else if l.all (·.1)then .fresh else .any,l.map (·.2))):=by
  rw [hres];simp only [zbS,List.mapM_cons,hv,List.mapM_nil,Option.pure_def,zbB,Option.map_some,ho];rfl
 rcases he with rfl|rfl<;>exact key
theorem kE{rv:List ResultVar}{ds':List D}{l:List (Bool×TD)}{ex:Ex}{s:St}(he:ex= .normal∨ex= .ret)(hres:rv.mapM (bN E s)=some ds')(hv:ds'.mapM (bO s.h)=some l)(ho:cJ s.h ds'=false):wN E rv (cond (l.all (·.1)) .fresh .any,l.map (·.2)) ex s:=by
 have key:bI (fun q:Kind×List TD=>q=(cond (l.all (·.1)) .fresh .any,l.map (·.2))) ((rv.mapM (bN E s)).bind fun rs=>(rs.mapM (bO s.h)).map fun l=>(if cJ s.h rs then .own else if l.all (·.1)then .fresh else .any,l.map (·.2))):=by
  rw [hres];simp only [zbS,hv,Option.map_some,ho];show(_,_)=(_,_);cases l.all (·.1)<;>rfl
 rcases he with rfl|rfl<;>exact key
theorem NW(hG:GOk G E D0)(A:bQ){fi:FI}{k:FuncId}{c:Nat}{ins:List TyD}{ok:OutK}{x:aE ins}{out:ok.val}(hax:E.ax k=none)(hf:E.fn k=some fi)(hl:ins.length≤fi.nt)(hs:ce G A fi k c ins ok x=some out)(m:Nat):HQ E (m+(D0+c)+1) k (bp ins x) ok out:=by
 unfold ce at hs;have hb:Mb {nt:=fi.nt} {sl:= [],bl:= [],nx:=0} ⟨fun _=>0,fun _=>false⟩ []:=⟨fun p b hb=>by simp [ao,aT,ae]at hb,fun p q b b' hb=>by simp [ao,aT,ae]at hb⟩;have hargs:RDl (ao {nt:=fi.nt} {sl:= [],bl:= [],nx:=0}) ⟨fun _=>0,fun _=>false⟩ ((ml false ins x).map mkD) ((bp ins x).map (bF false)):=xI (qE (fun h=>h) ins x)
 have hsc:∀d∈(ml false ins x).map mkD,ScD 0 d:=fun d hd=>by
  obtain⟨y,h1,rfl⟩:=List.mem_map.1 hd;exact uG (xk 0 false ins x y h1)
 have hrel:Rel {nt:=fi.nt} {sl:=HO ins x,bl:= [],nx:=0} ⟨fun _=>0,fun _=>false⟩ (fA ((bp ins x).map (bF false))) []:=Aw (F:={nt:=fi.nt}) hb hsc hargs (by rw [List.length_map,Ig];exact hl);have hw:=ES (y:=nY) (n:=m+(D0+c)) hG (by omega) (EU hG A c _ (by omega)) fi.body ok.val _ _ _ out _ _ [] hs hrel;have hend:∀r,(∀e s,PostC {nt:=fi.nt} {sl:=HO ins x,bl:= [],nx:=0} ⟨fun _=>0,fun _=>false⟩ (fun e ks=>cond (sV e) (CA G {nt:=fi.nt} ks fi.results fun ds=>CB (ao {nt:=fi.nt} ks) ok ds) none) out e s→wN E fi.results r e s)→RunsP E (m+(D0+c)+1) k (bp ins x) r:=fun r hq=>qn hax hf (by rw [CQ];exact hl) (hw.mono hq)
 have hopen:∀e s,PostC {nt:=fi.nt} {sl:=HO ins x,bl:= [],nx:=0} ⟨fun _=>0,fun _=>false⟩ (fun e ks=>cond (sV e) (CA G {nt:=fi.nt} ks fi.results fun ds=>CB (ao {nt:=fi.nt} ks) ok ds) none) out e s→∃ks' V' f' ds ds',(e= .normal∨e= .ret)∧Rel {nt:=fi.nt} ks' V' f' s.h∧fi.results.mapM (bN E s)=some ds'∧RDl (ao {nt:=fi.nt} ks') V' ds ds'∧CB (ao {nt:=fi.nt} ks') ok ds=some out:=by
  intro e s hp;obtain⟨ks',V',f',h1,h2,h3,h4⟩:=hp;obtain⟨t,hh⟩:=s;simp only at h1 h2;subst h1;dsimp only at h3
  cases he:sV e with
  |false=>rw [he]at h3;simp at h3
  |true=>
   rw [he]at h3;obtain⟨ds,ds',e1,e2,e3,e4⟩:=uI hG h2 h3;exact⟨ks',V',f',ds,ds',ET he,h2,e1,e2,e4⟩
 cases ok with
 |data fr ts=>
  have hdata:∀(ks':KS) (V':Vl) (ds:List KD) (ds':List D) (hh:ah) (f':Nat→D),Rel {nt:=fi.nt} ks' V' f' hh→RDl (ao {nt:=fi.nt} ks') V' ds ds'→CB (ao {nt:=fi.nt} ks') (.data fr ts) ds=some out→∃l,ds'.mapM (bO hh)=some l∧l.map (·.2)=bp ts out∧(fr=true→l.all (·.1)=true)∧cJ hh ds'=false:=by
   intro ks' V' ds ds' hh f' h2 e2 e4;unfold CB at e4;simp only at e4;split at e4
   ·simp at e4
   ·rename_i hc;obtain⟨l,l1,l2,l3⟩:=oJ h2.bls e4 e2
    have hno:rW ds=false:=by cases ho:rW ds with|true=>simp [ho]at hc|false=>rfl
    refine⟨l,l1,l2,fun hfr=>l3 ?_,JA e4 e2 hno⟩
    cases ha:ds.all frD with
    |true=>rfl
    |false=>simp [hfr,ha]at hc
  cases fr with
  |true=>
   refine hend _ fun e s hp=> ?_;obtain⟨ks',V',f',ds,ds',he,h2,e1,e2,e4⟩:=hopen e s hp;obtain⟨l,l1,l2,l3,l4⟩:=hdata ks' V' ds ds' s.h f' h2 e2 e4
   have:=kE (E:=E) he e1 l1 l4
   rw [l3 rfl,l2]at this;exact this
  |false=>
   -- is it new? that is settled when it has run
   obtain⟨e,s,hrun,hp⟩:=hw;obtain⟨ks',V',f',ds,ds',he,h2,e1,e2,e4⟩:=hopen e s hp;obtain⟨l,l1,l2,_,l4⟩:=hdata ks' V' ds ds' s.h f' h2 e2 e4
   have:=kE (E:=E) he e1 l1 l4
   rw [l2]at this;exact⟨l.all (·.1),qn hax hf (by rw [CQ];exact hl) ⟨e,s,hrun,this⟩⟩
 |own ty=>
  refine hend _ fun e s hp=> ?_;obtain⟨ks',V',f',ds,ds',he,h2,e1,e2,e4⟩:=hopen e s hp;unfold CB at e4;simp only at e4;unfold LL at e4;split at e4
  ·rename_i e0 p;split at e4
   ·rename_i e' ne l hB;split at e4
    ·rename_i hpl;rw [Option.map_eq_some_iff]at e4;obtain⟨l2,g0,rfl⟩:=e4;obtain⟨hty,g0⟩:=aU g0;cases hty;subst g0;obtain⟨y,s',e5,⟨c',e6,e7⟩,e8⟩:=e2;rw [show s'= []from e8]at e5;rw [e5,e6,e7 _ _ _ hB]at e1;exact qM he e1 (h2.bl p _ hB).2.2.1 hpl
    ·simp at e4
   ·simp at e4
  ·simp at e4
 |mown ty=>
  refine hend _ fun e s hp=> ?_;obtain⟨ks',V',f',ds,ds',he,h2,e1,e2,e4⟩:=hopen e s hp
  have hnil:∀{ds'':List D},RDl (ao {nt:=fi.nt} ks') V' [.one .nil] ds''→fi.results.mapM (bN E s)=some ds''→wN E fi.results (PZ ty.size ty.row []) e s:=by
   intro ds'' e2 e1;obtain⟨y,s',e5,⟨c',e6,e7⟩,e8⟩:=e2;rw [show s'= []from e8]at e5;rw [e5,e6,show c'=_ from e7]at e1;exact kE (E:=E) (l:= [(true,.one (.s false 0 []))]) he e1 rfl rfl
  unfold CB at e4;simp only at e4;unfold HL at e4;split at e4
  ·cases e4;exact hnil e2 e1
  ·rename_i e0 p;split at e4
   ·rename_i e' l hB;split at e4
    ·rename_i hpl;rw [Option.map_eq_some_iff]at e4;obtain⟨l2,g0,rfl⟩:=e4;obtain⟨hty,g0⟩:=aU g0;cases hty;subst g0;obtain⟨y,s',e5,⟨c',e6,e7⟩,e8⟩:=e2;rw [show s'= []from e8]at e5;rw [e5,e6,e7 _ _ hB]at e1
     cases l with
     |nil=>exact kE (E:=E) (l:= [(true,.one (.s false 0 []))]) he e1 rfl rfl
     |cons a l=>exact qM he e1 ((h2.bl p _ hB).2.2 (by simp)) hpl
    ·simp at e4
   ·simp at e4
  ·rename_i e0 p;split at e4
   ·rename_i e' ne l hB;split at e4
    ·rename_i hpl;rw [Bool.and_eq_true]at hpl;rw [Option.map_eq_some_iff]at e4;obtain⟨l2,g0,rfl⟩:=e4;obtain⟨hty,g0⟩:=aU g0;cases hty;subst g0;obtain⟨y,s',e5,⟨c',e6,e7⟩,e8⟩:=e2;rw [show s'= []from e8]at e5;rw [e5,e6,e7 _ _ _ hB]at e1;obtain⟨w1,w2,w3,w4⟩:=h2.bl p _ hB
     cases l with
     |nil=>exact absurd rfl (w4 hpl.2)
     |cons a l=>exact qM he e1 w3 hpl.1
    ·simp at e4
   ·simp at e4
  ·simp at e4
 |gown ty=>
  refine hend _ fun e s hp=> ?_;obtain⟨ks',V',f',ds,ds',he,h2,e1,e2,e4⟩:=hopen e s hp;unfold CB at e4;simp only at e4;unfold HM at e4;split at e4
  ·cases e4;obtain⟨y,s',e5,⟨c',e6,e7⟩,e8⟩:=e2;rw [show s'= []from e8]at e5;rw [e5,e6,show c'=_ from e7]at e1;exact kE (E:=E) (l:= [(true,.one (.s false 0 []))]) he e1 rfl rfl
  ·rename_i e0 p;split at e4
   ·rename_i e' l hB;split at e4
    ·rename_i hpl;rw [Option.map_eq_some_iff]at e4;obtain⟨l2,g0,rfl⟩:=e4;obtain⟨hty,g0⟩:=aU g0;cases hty;subst g0;obtain⟨y,s',e5,⟨c',e6,e7⟩,e8⟩:=e2;rw [show s'= []from e8]at e5;rw [e5,e6,e7 _ _ hB]at e1
     cases l with
     |nil=>exact kE (E:=E) (l:= [(true,.one (.s false 0 []))]) he e1 rfl rfl
     |cons a l=>exact qM he e1 ((h2.bl p _ hB).2.2 (by simp)) hpl
    ·simp at e4
   ·simp at e4
  ·rename_i e0 p;split at e4
   ·rename_i e' ne l hB;split at e4
    ·rename_i hpl;rw [Option.map_eq_some_iff]at e4;obtain⟨l2,g0,rfl⟩:=e4;obtain⟨hty,g0⟩:=aU g0;cases hty;subst g0;obtain⟨y,s',e5,⟨c',e6,e7⟩,e8⟩:=e2;rw [show s'= []from e8]at e5;rw [e5,e6,e7 _ _ _ hB]at e1;exact qM he e1 (h2.bl p _ hB).2.2.1 hpl
    ·simp at e4
   ·simp at e4
  ·simp at e4
end
end K
end Ev
end
noncomputable section
namespace Ev
namespace K
open Go Go.RowKit
def Qs(E:Env)(D:Nat):List aF→Prop
 | []=>True
 |e::r=>(e.d≤D∧af E e)∧Qs E D r
def Qt(E:Env):List (FuncId×FI)→Prop
 | []=>True
 |x::r=>(E.fn x.1=some x.2∧E.ax x.1=some fun _=>none)∧Qt E r
def JB(E:Env):List (Nat×TI)→Prop
 | []=>True
 |x::r=>E.ti x.1=some x.2∧JB E r
def JC(P:Program):List (Nat×List IntKind)→Prop
 | []=>True
 |x::r=>NI P x.1 x.2∧JC P r
theorem EW{E:Env}{D:Nat}:∀{l:List aF},Qs E D l→∀e∈l,e.d≤D∧af E e
 | [],_,e,h=>by simp at h
 |a::l,⟨h1,h2⟩,e,h=>by
  rcases List.mem_cons.1 h with rfl|h
  ·exact h1
  ·exact EW h2 e h
theorem Ay{E:Env}:∀{l:List (FuncId×FI)},Qt E l→∀k f,ae l k=some f→E.fn k=some f∧E.ax k=some fun _=>none
 | [],_,k,f,h=>by simp [ae]at h
 |a::l,⟨h1,h2⟩,k,f,h=>by
  rw [show a::l=(a.1,a.2)::l from rfl,aB]at h;split at h
  ·rename_i hk;cases h;subst hk;exact h1
  ·exact Ay h2 k f h
theorem Az{E:Env}:∀{l:List (Nat×TI)},JB E l→∀k f,ae l k=some f→E.ti k=some f
 | [],_,k,f,h=>by simp [ae]at h
 |a::l,⟨h1,h2⟩,k,f,h=>by
  rw [show a::l=(a.1,a.2)::l from rfl,aB]at h;split at h
  ·rename_i hk;cases h;subst hk;exact h1
  ·exact Az h2 k f h
theorem AA{P:Program}:∀{l:List (Nat×List IntKind)},JC P l→∀k f,ae l k=some f→NI P k f
 | [],_,k,f,h=>by simp [ae]at h
 |a::l,⟨h1,h2⟩,k,f,h=>by
  rw [show a::l=(a.1,a.2)::l from rfl,aB]at h;split at h
  ·rename_i hk;cases h;subst hk;exact h1
  ·exact AA h2 k f h
theorem gok{E:Env}{D:Nat}{tt:List (Nat×TI)}{eqs:List (Nat×List IntKind)}{fns:List aF}{fi:List (FuncId×FI)}(hE:E.Ok)(ht:JB E tt)(hq:JC E.P eqs)(hf:Qs E D fns)(hi:Qt E fi):GOk ⟨tt,eqs,fns,fi⟩ E D:=⟨hE,Az ht,AA hq,EW hf,Ay hi⟩
def mkE(G:KG)(A:bQ)(fi:FI)(k:FuncId)(c:Nat)(ins:List TyD)(out:OutK)(d:Nat):aF:=⟨k,ins,out,ce G A fi k c ins out,d⟩
theorem aD{E:Env}{D:Nat}{G:KG}{A:bQ}{fi:FI}{k:FuncId}{c:Nat}{ins:List TyD}{out:OutK}{d:Nat}(hG:GOk G E D)(hax:E.ax k=none)(hf:E.fn k=some fi)(hl:Nat.ble ins.length fi.nt=true)(hd:D+c+1=d):af E (mkE G A fi k c ins out d):=fun m a o h=>by
 subst hd;exact NW hG A hax hf (Nat.le_of_ble_eq_true hl) h m
def fiF(f:Func):FI:=⟨f.ntmps,f.results.toList,f.body.getD .skip⟩
theorem aR{P:Program}{k:FuncId}{f:Func}{b:Code}(h:P.funcs[k]? =some f)(hb:f.body=some b):Ec P k=some (fiF f):=by
 unfold Ec fiF;rw [h];simp only [hb];rfl
theorem Ih{P:Program}{ty:TypeId}{k0 k1:IntKind}(h:∀(x y:Operand) (a0 b0 a1 b1:Int),am P (do eqGuard .eql ty x y (.agg #[.int k0 a0,.int k1 a1]) (.agg #[.int k0 b0,.int k1 b1]);binOp .eql ty (.agg #[.int k0 a0,.int k1 a1]) (.agg #[.int k0 b0,.int k1 b1]))=some (.bool (a0==b0 &&(a1==b1 && true))))
  (h':∀(x y:Operand) (a0 b0 a1 b1:Int),am P (do eqGuard .neq ty x y (.agg #[.int k0 a0,.int k1 a1]) (.agg #[.int k0 b0,.int k1 b1]);binOp .neq ty (.agg #[.int k0 a0,.int k1 a1]) (.agg #[.int k0 b0,.int k1 b1]))=some (.bool (!(a0==b0 &&(a1==b1 && true))))):NI P ty [k0,k1]:=fun x y l hl=>by
 match l,hl with
 | [(a0,b0),(a1,b1)],_=>
  have e:(a0==b0 &&(a1==b1 && true))= @decide (eqP [(a0,b0),(a1,b1)]) (eqD [(a0,b0),(a1,b1)]):=fq (by simp [eqP]);exact⟨(h x y a0 b0 a1 b1).trans (by rw [e]),(h' x y a0 b0 a1 b1).trans (by rw [e])⟩
end K
@[reducible] def nE {R:Type} (v:Empty):Option R:=K.afterX.match_1 (fun _=>Option R) v
end Ev
end
noncomputable section
namespace Ev
namespace K
open Go Go.RowKit
set_option maxRecDepth 100000
set_option maxHeartbeats 1000000
def i1:TI:=(⟨.func #[] #[] false,[.nilFunc],1,8⟩:TI)
def i4:TI:=(⟨.bool,[.bool false],1,1⟩:TI)
def i7:TI:=(⟨.struct (eS Try.prog 7),[.int .i64 0,.int .i64 0,.bool false,.int .u8 0],4,24⟩:TI)
def i8:TI:=(⟨.struct (eS Try.prog 8),[.int .i64 0,.int .i64 0,.bool false,.int .u8 0],4,24⟩:TI)
def i15:TI:=(⟨.pointer 116,[.pointer none],1,8⟩:TI)
def i16:TI:=(⟨.pointer 119,[.pointer none],1,8⟩:TI)
def i17:TI:=(⟨.pointer 128,[.pointer none],1,8⟩:TI)
def i18:TI:=(⟨.struct (eS Try.prog 18),[.pointer none],1,8⟩:TI)
def i19:TI:=(⟨.struct (eS Try.prog 19),[.pointer none],1,8⟩:TI)
def i23:TI:=(⟨.slice 30,[.slice none 0 0],1,24⟩:TI)
def i24:TI:=(⟨.struct (eS Try.prog 24),[.int .i64 0,.slice none 0 0],2,32⟩:TI)
def i25:TI:=(⟨.struct (eS Try.prog 25),[.int .i64 0,.slice none 0 0],2,32⟩:TI)
def i28:TI:=(⟨.func #[22,3,23] #[25,26] false,[.nilFunc],1,8⟩:TI)
def i29:TI:=(⟨.struct (eS Try.prog 29),[.int .i64 0,.int .i64 0],2,16⟩:TI)
def i30:TI:=(⟨.struct (eS Try.prog 30),[.int .i64 0,.int .i64 0],2,16⟩:TI)
def i31:TI:=(⟨.func #[] #[4] false,[.nilFunc],1,8⟩:TI)
def i32:TI:=(⟨.func #[25,25] #[4] false,[.nilFunc],1,8⟩:TI)
def i33:TI:=(⟨.func #[3,2] #[25] false,[.nilFunc],1,8⟩:TI)
def i34:TI:=(⟨.func #[22,3,23] #[4] false,[.nilFunc],1,8⟩:TI)
def i35:TI:=(⟨.array 2 3,[.int .i64 0,.int .i64 0],2,16⟩:TI)
def i36:TI:=(⟨.func #[25] #[25] false,[.nilFunc],1,8⟩:TI)
def i38:TI:=(⟨.func #[25,3] #[2,4] false,[.nilFunc],1,8⟩:TI)
def i39:TI:=(⟨.func #[25] #[4] false,[.nilFunc],1,8⟩:TI)
def i40:TI:=(⟨.func #[25,3,2] #[25] false,[.nilFunc],1,8⟩:TI)
def i41:TI:=(⟨.func #[25,3] #[25] false,[.nilFunc],1,8⟩:TI)
def i42:TI:=(⟨.func #[43,43] #[4] false,[.nilFunc],1,8⟩:TI)
def i43:TI:=(⟨.slice 3,[.slice none 0 0],1,24⟩:TI)
def i44:TI:=(⟨.func #[25] #[43] false,[.nilFunc],1,8⟩:TI)
def i45:TI:=(⟨.func #[25,3,3] #[25] false,[.nilFunc],1,8⟩:TI)
def i46:TI:=(⟨.func #[25,35,2] #[4] false,[.nilFunc],1,8⟩:TI)
def i47:TI:=(⟨.slice 25,[.slice none 0 0],1,24⟩:TI)
def i48:TI:=(⟨.func #[47] #[25,26] true,[.nilFunc],1,8⟩:TI)
def i49:TI:=(⟨.func #[47] #[25,26] false,[.nilFunc],1,8⟩:TI)
def i50:TI:=(⟨.func #[47] #[4] false,[.nilFunc],1,8⟩:TI)
def i51:TI:=(⟨.func #[5,23] #[25] false,[.nilFunc],1,8⟩:TI)
def i52:TI:=(⟨.func #[5,23,30] #[4] false,[.nilFunc],1,8⟩:TI)
def i53:TI:=(⟨.array 2 5,[.int .u8 0,.int .u8 0],2,2⟩:TI)
def i54:TI:=(⟨.func #[5,23,53] #[4] false,[.nilFunc],1,8⟩:TI)
def i55:TI:=(⟨.func #[22] #[4] false,[.nilFunc],1,8⟩:TI)
def i56:TI:=(⟨.func #[3] #[4] false,[.nilFunc],1,8⟩:TI)
def i57:TI:=(⟨.func #[23,58] #[4] false,[.nilFunc],1,8⟩:TI)
def i58:TI:=(⟨.func #[30] #[4] false,[.nilFunc],1,8⟩:TI)
def i61:TI:=(⟨.struct (eS Try.prog 61),[.int .i64 0,.int .u64 0],2,16⟩:TI)
def i62:TI:=(⟨.struct (eS Try.prog 62),[.int .i64 0,.int .u64 0],2,16⟩:TI)
def i64:TI:=(⟨.func #[22,62,62] #[62] false,[.nilFunc],1,8⟩:TI)
def i65:TI:=(⟨.func #[2] #[62] false,[.nilFunc],1,8⟩:TI)
def i66:TI:=(⟨.func #[22,62] #[2,4] false,[.nilFunc],1,8⟩:TI)
def i67:TI:=(⟨.func #[23,69] #[] false,[.nilFunc],1,8⟩:TI)
def i68:TI:=(⟨.func #[3,3] #[3] false,[.nilFunc],1,8⟩:TI)
def i69:TI:=(⟨.func #[30,30] #[3] false,[.nilFunc],1,8⟩:TI)
def i70:TI:=(⟨.slice 72,[.slice none 0 0],1,24⟩:TI)
def i71:TI:=(⟨.struct (eS Try.prog 71),[.int .i64 0,.int .i64 0,.int .i64 0],3,24⟩:TI)
def i72:TI:=(⟨.struct (eS Try.prog 72),[.int .i64 0,.int .i64 0,.int .i64 0],3,24⟩:TI)
def i74:TI:=(⟨.func #[22,70] #[70,26] false,[.nilFunc],1,8⟩:TI)
def i75:TI:=(⟨.func #[23,23] #[4] false,[.nilFunc],1,8⟩:TI)
def i77:TI:=(⟨.func #[25,3] #[3,4] false,[.nilFunc],1,8⟩:TI)
def i78:TI:=(⟨.func #[23] #[23] false,[.nilFunc],1,8⟩:TI)
def i79:TI:=(⟨.func #[23,3,23] #[23] true,[.nilFunc],1,8⟩:TI)
def i80:TI:=(⟨.func #[23,3,3] #[23] false,[.nilFunc],1,8⟩:TI)
def i81:TI:=(⟨.func #[23,3] #[23] false,[.nilFunc],1,8⟩:TI)
def i82:TI:=(⟨.func #[23,58] #[3] false,[.nilFunc],1,8⟩:TI)
def i83:TI:=(⟨.func #[62,62] #[62] false,[.nilFunc],1,8⟩:TI)
def i84:TI:=(⟨.func #[4] #[62] false,[.nilFunc],1,8⟩:TI)
def i86:TI:=(⟨.func #[62] #[2,4] false,[.nilFunc],1,8⟩:TI)
def i87:TI:=(⟨.func #[23,3,3,3,69] #[] false,[.nilFunc],1,8⟩:TI)
def i88:TI:=(⟨.func #[85] #[3] false,[.nilFunc],1,8⟩:TI)
def i89:TI:=(⟨.slice 62,[.slice none 0 0],1,24⟩:TI)
def i90:TI:=(⟨.func #[72,72] #[4] false,[.nilFunc],1,8⟩:TI)
def i91:TI:=(⟨.func #[3,56] #[3] false,[.nilFunc],1,8⟩:TI)
def i92:TI:=(⟨.func #[23,3] #[] false,[.nilFunc],1,8⟩:TI)
def i93:TI:=(⟨.func #[62,62] #[3] false,[.nilFunc],1,8⟩:TI)
def i94:TI:=(⟨.func #[23,3,3,69] #[] false,[.nilFunc],1,8⟩:TI)
def i97:TI:=(⟨.func #[23,3,3,69] #[3,95] false,[.nilFunc],1,8⟩:TI)
def i98:TI:=(⟨.func #[23,3,3,69] #[4] false,[.nilFunc],1,8⟩:TI)
def i99:TI:=(⟨.func #[23,3,3,3,69] #[3] false,[.nilFunc],1,8⟩:TI)
def Sq:TI:=(⟨.func #[23,3,3,3,69] #[3,4] false,[.nilFunc],1,8⟩:TI)
def Sr:TI:=(⟨.func #[102] #[3] false,[.nilFunc],1,8⟩:TI)
def Ss:TI:=(⟨.int .u32,[.int .u32 0],1,4⟩:TI)
def Su:TI:=(⟨.func #[60] #[3] false,[.nilFunc],1,8⟩:TI)
def Sw:TI:=(⟨.func #[3] #[85] false,[.nilFunc],1,8⟩:TI)
def Sx:TI:=(⟨.func #[] #[60] false,[.nilFunc],1,8⟩:TI)
def Sy:TI:=(⟨.func #[23,3,108,69] #[3] false,[.nilFunc],1,8⟩:TI)
def Sz:TI:=(⟨.pointer 3,[.pointer none],1,8⟩:TI)
def SA:TI:=(⟨.func #[23,3,3,3,108,69] #[3] false,[.nilFunc],1,8⟩:TI)
def SB:TI:=(⟨.func #[23] #[] false,[.nilFunc],1,8⟩:TI)
def SC:TI:=(⟨.pointer 104,[.pointer none],1,8⟩:TI)
def SD:TI:=(⟨.func #[23,3,3,108,69] #[3,3] false,[.nilFunc],1,8⟩:TI)
def SE:TI:=(⟨.func #[] #[9] false,[.nilFunc],1,8⟩:TI)
def SF:TI:=(⟨.array 0 16,[],0,0⟩:TI)
def SG:TI:=(⟨.struct (eS Try.prog 118),[],0,0⟩:TI)
def SH:TI:=(⟨.struct (eS Try.prog 119),[],0,0⟩:TI)
def SI:TI:=(⟨.func #[] #[3] false,[.nilFunc],1,8⟩:TI)
def SJ:TI:=(⟨.func #[129,129] #[4] false,[.nilFunc],1,8⟩:TI)
def SK:TI:=(⟨.pointer 5,[.pointer none],1,8⟩:TI)
def SM:TI:=(⟨.struct (eS Try.prog 127),[.int .u64 0,.int .u64 0,.int .u32 0,.int .u8 0,.int .u8 0,.int .u8 0,.int .u8 0,.nilFunc,.pointer none,.int .i32 0,.int .i32 0],11,48⟩:TI)
def SN:TI:=(⟨.struct (eS Try.prog 128),[.int .u64 0,.int .u64 0,.int .u32 0,.int .u8 0,.int .u8 0,.int .u8 0,.int .u8 0,.nilFunc,.pointer none,.int .i32 0,.int .i32 0],11,48⟩:TI)
def TT:List (Nat×TI):= [(1,i1),
 (2,(⟨.int .i64,[.int .i64 0],1,8⟩:TI)),
 (3,(⟨.int .i64,[.int .i64 0],1,8⟩:TI)),
 (4,i4),
 (5,(⟨.int .u8,[.int .u8 0],1,1⟩:TI)),
 (6,(⟨.int .u8,[.int .u8 0],1,1⟩:TI)),
 (7,i7),
 (8,i8),
 (12,(⟨.int .u64,[.int .u64 0],1,8⟩:TI)),
 (15,i15),
 (16,i16),
 (17,i17),
 (18,i18),
 (19,i19),
 (21,(⟨.int .i32,[.int .i32 0],1,4⟩:TI)),
 (22,(⟨.int .i64,[.int .i64 0],1,8⟩:TI)),
 (23,i23),
 (24,i24),
 (25,i25),
 (26,(⟨.int .i64,[.int .i64 0],1,8⟩:TI)),
 (28,i28),
 (29,i29),
 (30,i30),
 (31,i31),
 (32,i32),
 (33,i33),
 (34,i34),
 (35,i35),
 (36,i36),
 (38,i38),
 (39,i39),
 (40,i40),
 (41,i41),
 (42,i42),
 (43,i43),
 (44,i44),
 (45,i45),
 (46,i46),
 (47,i47),
 (48,i48),
 (49,i49),
 (50,i50),
 (51,i51),
 (52,i52),
 (53,i53),
 (54,i54),
 (55,i55),
 (56,i56),
 (57,i57),
 (58,i58),
 (60,(⟨.int .u64,[.int .u64 0],1,8⟩:TI)),
 (61,i61),
 (62,i62),
 (64,i64),
 (65,i65),
 (66,i66),
 (67,i67),
 (68,i68),
 (69,i69),
 (70,i70),
 (71,i71),
 (72,i72),
 (74,i74),
 (75,i75),
 (77,i77),
 (78,i78),
 (79,i79),
 (80,i80),
 (81,i81),
 (82,i82),
 (83,i83),
 (84,i84),
 (85,(⟨.int .u64,[.int .u64 0],1,8⟩:TI)),
 (86,i86),
 (87,i87),
 (88,i88),
 (89,i89),
 (90,i90),
 (91,i91),
 (92,i92),
 (93,i93),
 (94,i94),
 (95,(⟨.int .i64,[.int .i64 0],1,8⟩:TI)),
 (97,i97),
 (98,i98),
 (99,i99),
 (100,Sq),
 (101,Sr),
 (102,Ss),
 (103,Su),
 (104,(⟨.int .u64,[.int .u64 0],1,8⟩:TI)),
 (105,Sw),
 (106,Sx),
 (107,Sy),
 (108,Sz),
 (109,SA),
 (110,SB),
 (111,SC),
 (113,SD),
 (114,SE),
 (117,SF),
 (118,SG),
 (119,SH),
 (120,SI),
 (121,(⟨.int .u8,[.int .u8 0],1,1⟩:TI)),
 (122,(⟨.int .u8,[.int .u8 0],1,1⟩:TI)),
 (123,SJ),
 (124,SK),
 (125,(⟨.int .i32,[.int .i32 0],1,4⟩:TI)),
 (126,(⟨.int .i32,[.int .i32 0],1,4⟩:TI)),
 (127,SM),
 (128,SN)]
theorem tz1:au Try.prog 1=some i1:=by kernel_rfl
theorem tz2:au Try.prog 2=some (⟨.int .i64,[.int .i64 0],1,8⟩:TI):=by kernel_rfl
theorem tz3:au Try.prog 3=some (⟨.int .i64,[.int .i64 0],1,8⟩:TI):=by kernel_rfl
theorem tz4:au Try.prog 4=some i4:=by kernel_rfl
theorem tz5:au Try.prog 5=some (⟨.int .u8,[.int .u8 0],1,1⟩:TI):=by kernel_rfl
theorem tz6:au Try.prog 6=some (⟨.int .u8,[.int .u8 0],1,1⟩:TI):=by kernel_rfl
theorem tz7:au Try.prog 7=some i7:=by kernel_rfl
theorem tz8:au Try.prog 8=some i8:=by kernel_rfl
theorem SO:au Try.prog 12=some (⟨.int .u64,[.int .u64 0],1,8⟩:TI):=by kernel_rfl
theorem SP:au Try.prog 15=some i15:=by kernel_rfl
theorem SQ:au Try.prog 16=some i16:=by kernel_rfl
theorem SR:au Try.prog 17=some i17:=by kernel_rfl
theorem SS:au Try.prog 18=some i18:=by kernel_rfl
theorem ST:au Try.prog 19=some i19:=by kernel_rfl
theorem SU:au Try.prog 21=some (⟨.int .i32,[.int .i32 0],1,4⟩:TI):=by kernel_rfl
theorem SV:au Try.prog 22=some (⟨.int .i64,[.int .i64 0],1,8⟩:TI):=by kernel_rfl
theorem SW:au Try.prog 23=some i23:=by kernel_rfl
theorem SX:au Try.prog 24=some i24:=by kernel_rfl
theorem SY:au Try.prog 25=some i25:=by kernel_rfl
theorem SZ:au Try.prog 26=some (⟨.int .i64,[.int .i64 0],1,8⟩:TI):=by kernel_rfl
theorem Ta:au Try.prog 28=some i28:=by kernel_rfl
theorem Tb:au Try.prog 29=some i29:=by kernel_rfl
theorem Tc:au Try.prog 30=some i30:=by kernel_rfl
theorem Td:au Try.prog 31=some i31:=by kernel_rfl
theorem Te:au Try.prog 32=some i32:=by kernel_rfl
theorem Tf:au Try.prog 33=some i33:=by kernel_rfl
theorem Tg:au Try.prog 34=some i34:=by kernel_rfl
theorem Ti:au Try.prog 35=some i35:=by kernel_rfl
theorem Tj:au Try.prog 36=some i36:=by kernel_rfl
theorem Tk:au Try.prog 38=some i38:=by kernel_rfl
theorem Tl:au Try.prog 39=some i39:=by kernel_rfl
theorem Tm:au Try.prog 40=some i40:=by kernel_rfl
theorem Tn:au Try.prog 41=some i41:=by kernel_rfl
theorem To:au Try.prog 42=some i42:=by kernel_rfl
theorem Tp:au Try.prog 43=some i43:=by kernel_rfl
theorem Tq:au Try.prog 44=some i44:=by kernel_rfl
theorem Tr:au Try.prog 45=some i45:=by kernel_rfl
theorem Ts:au Try.prog 46=some i46:=by kernel_rfl
theorem Tt:au Try.prog 47=some i47:=by kernel_rfl
theorem Tu:au Try.prog 48=some i48:=by kernel_rfl
theorem Tv:au Try.prog 49=some i49:=by kernel_rfl
theorem Tw:au Try.prog 50=some i50:=by kernel_rfl
theorem Tx:au Try.prog 51=some i51:=by kernel_rfl
theorem Tz:au Try.prog 52=some i52:=by kernel_rfl
theorem TA:au Try.prog 53=some i53:=by kernel_rfl
theorem TB:au Try.prog 54=some i54:=by kernel_rfl
theorem TC:au Try.prog 55=some i55:=by kernel_rfl
theorem TE:au Try.prog 56=some i56:=by kernel_rfl
theorem TF:au Try.prog 57=some i57:=by kernel_rfl
theorem TG:au Try.prog 58=some i58:=by kernel_rfl
theorem TH:au Try.prog 60=some (⟨.int .u64,[.int .u64 0],1,8⟩:TI):=by kernel_rfl
theorem TJ:au Try.prog 61=some i61:=by kernel_rfl
theorem TK:au Try.prog 62=some i62:=by kernel_rfl
theorem TL:au Try.prog 64=some i64:=by kernel_rfl
theorem TM:au Try.prog 65=some i65:=by kernel_rfl
theorem TN:au Try.prog 66=some i66:=by kernel_rfl
theorem TO:au Try.prog 67=some i67:=by kernel_rfl
theorem TP:au Try.prog 68=some i68:=by kernel_rfl
theorem TQ:au Try.prog 69=some i69:=by kernel_rfl
theorem TR:au Try.prog 70=some i70:=by kernel_rfl
theorem TS:au Try.prog 71=some i71:=by kernel_rfl
theorem TU:au Try.prog 72=some i72:=by kernel_rfl
theorem TV:au Try.prog 74=some i74:=by kernel_rfl
theorem TW:au Try.prog 75=some i75:=by kernel_rfl
theorem TX:au Try.prog 77=some i77:=by kernel_rfl
theorem TY:au Try.prog 78=some i78:=by kernel_rfl
theorem TZ:au Try.prog 79=some i79:=by kernel_rfl
theorem Ua:au Try.prog 80=some i80:=by kernel_rfl
theorem Ub:au Try.prog 81=some i81:=by kernel_rfl
theorem Uc:au Try.prog 82=some i82:=by kernel_rfl
theorem Ud:au Try.prog 83=some i83:=by kernel_rfl
theorem Ue:au Try.prog 84=some i84:=by kernel_rfl
theorem Uf:au Try.prog 85=some (⟨.int .u64,[.int .u64 0],1,8⟩:TI):=by kernel_rfl
theorem Ug:au Try.prog 86=some i86:=by kernel_rfl
theorem Uh:au Try.prog 87=some i87:=by kernel_rfl
theorem Ui:au Try.prog 88=some i88:=by kernel_rfl
theorem Uj:au Try.prog 89=some i89:=by kernel_rfl
theorem Uk:au Try.prog 90=some i90:=by kernel_rfl
theorem Ul:au Try.prog 91=some i91:=by kernel_rfl
theorem Um:au Try.prog 92=some i92:=by kernel_rfl
theorem Un:au Try.prog 93=some i93:=by kernel_rfl
theorem Uo:au Try.prog 94=some i94:=by kernel_rfl
theorem Uq:au Try.prog 95=some (⟨.int .i64,[.int .i64 0],1,8⟩:TI):=by kernel_rfl
theorem Ur:au Try.prog 97=some i97:=by kernel_rfl
theorem Us:au Try.prog 98=some i98:=by kernel_rfl
theorem Ut:au Try.prog 99=some i99:=by kernel_rfl
theorem Ov:au Try.prog 100=some Sq:=by kernel_rfl
theorem Ow:au Try.prog 101=some Sr:=by kernel_rfl
theorem Ox:au Try.prog 102=some Ss:=by kernel_rfl
theorem Oy:au Try.prog 103=some Su:=by kernel_rfl
theorem Oz:au Try.prog 104=some (⟨.int .u64,[.int .u64 0],1,8⟩:TI):=by kernel_rfl
theorem OA:au Try.prog 105=some Sw:=by kernel_rfl
theorem OC:au Try.prog 106=some Sx:=by kernel_rfl
theorem OD:au Try.prog 107=some Sy:=by kernel_rfl
theorem OE:au Try.prog 108=some Sz:=by kernel_rfl
theorem OF:au Try.prog 109=some SA:=by kernel_rfl
theorem OG:au Try.prog 110=some SB:=by kernel_rfl
theorem OH:au Try.prog 111=some SC:=by kernel_rfl
theorem OJ:au Try.prog 113=some SD:=by kernel_rfl
theorem OK:au Try.prog 114=some SE:=by kernel_rfl
theorem OL:au Try.prog 117=some SF:=by kernel_rfl
theorem OM:au Try.prog 118=some SG:=by kernel_rfl
theorem ON:au Try.prog 119=some SH:=by kernel_rfl
theorem OO:au Try.prog 120=some SI:=by kernel_rfl
theorem OP:au Try.prog 121=some (⟨.int .u8,[.int .u8 0],1,1⟩:TI):=by kernel_rfl
theorem OQ:au Try.prog 122=some (⟨.int .u8,[.int .u8 0],1,1⟩:TI):=by kernel_rfl
theorem OR:au Try.prog 123=some SJ:=by kernel_rfl
theorem OS:au Try.prog 124=some SK:=by kernel_rfl
theorem OT:au Try.prog 125=some (⟨.int .i32,[.int .i32 0],1,4⟩:TI):=by kernel_rfl
theorem OU:au Try.prog 126=some (⟨.int .i32,[.int .i32 0],1,4⟩:TI):=by kernel_rfl
theorem OV:au Try.prog 127=some SM:=by kernel_rfl
theorem OW:au Try.prog 128=some SN:=by kernel_rfl
theorem CR:Try.prog.follows .mixedOrders=true:=by kernel_rfl
theorem CS:Hp Try.prog=true:=by kernel_rfl
def aX:List TD→Option (Kind×List TD):=fun _=>none
theorem Ii(x y:Operand)(a0 b0 a1 b1:Int):am Try.prog (do eqGuard .eql 30 x y (.agg #[.int .i64 a0,.int .i64 a1]) (.agg #[.int .i64 b0,.int .i64 b1]);binOp .eql 30 (.agg #[.int .i64 a0,.int .i64 a1]) (.agg #[.int .i64 b0,.int .i64 b1]))=some (.bool ((a0==b0 &&(a1==b1 && true)))):=by
 refine Eu (by kernel_rfl) ((lf 9999 30 #[.int .i64 a0,.int .i64 a1] #[.int .i64 b0,.int .i64 b1] (fs:=eS Try.prog 29) (by kernel_rfl) (by kernel_rfl)).trans ?_);rw [show(eS Try.prog 29).toList= [fld Try.prog 29 0,fld Try.prog 29 1]by kernel_rfl];exact((fL (k:= .i64) (k':= .i64) (by kernel_rfl) (by kernel_rfl) (by kernel_rfl) (by kernel_rfl)).trans (mh ((fL (k:= .i64) (k':= .i64) (by kernel_rfl) (by kernel_rfl) (by kernel_rfl) (by kernel_rfl)).trans (mh jG))))
theorem Ij(x y:Operand)(a0 b0 a1 b1:Int):am Try.prog (do eqGuard .neq 30 x y (.agg #[.int .i64 a0,.int .i64 a1]) (.agg #[.int .i64 b0,.int .i64 b1]);binOp .neq 30 (.agg #[.int .i64 a0,.int .i64 a1]) (.agg #[.int .i64 b0,.int .i64 b1]))=some (.bool (!(a0==b0 &&(a1==b1 && true)))):=by
 refine Ew (by kernel_rfl) ((lf 9999 30 #[.int .i64 a0,.int .i64 a1] #[.int .i64 b0,.int .i64 b1] (fs:=eS Try.prog 29) (by kernel_rfl) (by kernel_rfl)).trans ?_);rw [show(eS Try.prog 29).toList= [fld Try.prog 29 0,fld Try.prog 29 1]by kernel_rfl];exact((fL (k:= .i64) (k':= .i64) (by kernel_rfl) (by kernel_rfl) (by kernel_rfl) (by kernel_rfl)).trans (mh ((fL (k:= .i64) (k':= .i64) (by kernel_rfl) (by kernel_rfl) (by kernel_rfl) (by kernel_rfl)).trans (mh jG))))
theorem Ik(x y:Operand)(a0 b0 a1 b1:Int):am Try.prog (do eqGuard .eql 62 x y (.agg #[.int .i64 a0,.int .u64 a1]) (.agg #[.int .i64 b0,.int .u64 b1]);binOp .eql 62 (.agg #[.int .i64 a0,.int .u64 a1]) (.agg #[.int .i64 b0,.int .u64 b1]))=some (.bool ((a0==b0 &&(a1==b1 && true)))):=by
 refine Eu (by kernel_rfl) ((lf 9999 62 #[.int .i64 a0,.int .u64 a1] #[.int .i64 b0,.int .u64 b1] (fs:=eS Try.prog 61) (by kernel_rfl) (by kernel_rfl)).trans ?_);rw [show(eS Try.prog 61).toList= [fld Try.prog 61 0,fld Try.prog 61 1]by kernel_rfl];exact((fL (k:= .i64) (k':= .i64) (by kernel_rfl) (by kernel_rfl) (by kernel_rfl) (by kernel_rfl)).trans (mh ((fL (k:= .u64) (k':= .u64) (by kernel_rfl) (by kernel_rfl) (by kernel_rfl) (by kernel_rfl)).trans (mh jG))))
theorem Il(x y:Operand)(a0 b0 a1 b1:Int):am Try.prog (do eqGuard .neq 62 x y (.agg #[.int .i64 a0,.int .u64 a1]) (.agg #[.int .i64 b0,.int .u64 b1]);binOp .neq 62 (.agg #[.int .i64 a0,.int .u64 a1]) (.agg #[.int .i64 b0,.int .u64 b1]))=some (.bool (!(a0==b0 &&(a1==b1 && true)))):=by
 refine Ew (by kernel_rfl) ((lf 9999 62 #[.int .i64 a0,.int .u64 a1] #[.int .i64 b0,.int .u64 b1] (fs:=eS Try.prog 61) (by kernel_rfl) (by kernel_rfl)).trans ?_);rw [show(eS Try.prog 61).toList= [fld Try.prog 61 0,fld Try.prog 61 1]by kernel_rfl];exact((fL (k:= .i64) (k':= .i64) (by kernel_rfl) (by kernel_rfl) (by kernel_rfl) (by kernel_rfl)).trans (mh ((fL (k:= .u64) (k':= .u64) (by kernel_rfl) (by kernel_rfl) (by kernel_rfl) (by kernel_rfl)).trans (mh jG))))
def EQS:List (Nat×List IntKind):= [(30,[.i64,.i64]),(62,[.i64,.u64])]
def fi3:FI:=fiF Try.f3
def fi4:FI:=fiF Try.f4
def fi6:FI:=fiF Try.f6
def fi7:FI:=fiF Try.f7
def fi9:FI:=fiF Try.f9
def Uu:FI:=fiF Try.f11
def Uv:FI:=fiF Try.f12
def Uw:FI:=fiF Try.f13
def Ux:FI:=fiF Try.f14
def Uy:FI:=fiF Try.f15
def Uz:FI:=fiF Try.f16
def Qu:FI:=fiF Try.f17
def UA:FI:=fiF Try.f18
def UB:FI:=fiF Try.f20
def UC:FI:=fiF Try.f22
def UD:FI:=fiF Try.f23
def UE:FI:=fiF Try.f24
def UF:FI:=fiF Try.f25
def UG:FI:=fiF Try.f26
def UH:FI:=fiF Try.f27
def UI:FI:=fiF Try.f28
def UJ:FI:=fiF Try.f29
def UK:FI:=fiF Try.f32
def UL:FI:=fiF Try.f33
def UM:FI:=fiF Try.f34
def Qv:FI:=fiF Try.f35
def UN:FI:=fiF Try.f38
def UO:FI:=fiF Try.f39
def UP:FI:=fiF Try.f40
def UQ:FI:=fiF Try.f44
def UR:FI:=fiF Try.f45
def US:FI:=fiF Try.f46
def Qw:FI:=fiF Try.f47
def Qx:FI:=fiF Try.f48
def UT:FI:=fiF Try.f49
def UU:FI:=fiF Try.f53
def UV:FI:=fiF Try.f54
def UW:FI:=fiF Try.f56
def UX:FI:=fiF Try.f57
def UY:FI:=fiF Try.f58
def UZ:FI:=fiF Try.f59
def Vd:FI:=fiF Try.f63
def Ve:FI:=fiF Try.f64
def Vf:FI:=fiF Try.f65
def Vg:FI:=fiF Try.f66
def Qy:FI:=fiF Try.f67
def Qz:FI:=fiF Try.f68
def Vh:FI:=fiF Try.f71
def Vi:FI:=fiF Try.f82
def Vj:FI:=fiF Try.f83
def Vk:FI:=fiF Try.f84
abbrev yD5:TyD:=(true,.C (.I .i64) (.I .i64))
abbrev yD4:TyD:=(true,.C (.I .i64) (.I .u64))
abbrev yD3:TyD:=(false,.S (.C (.I .i64) (.I .i64)))
abbrev yD2:TyD:=(true,.C (.I .i64) (.C (.I .i64) (.I .i64)))
abbrev yD1:TyD:=(true,.C (.I .i64) (.S (.C (.I .i64) (.I .i64))))
abbrev yD0:TyD:=(false,.S (.C (.I .i64) (.C (.I .i64) (.I .i64))))
end K
end Ev
end
noncomputable section
namespace Ev
namespace K
open Go Go.RowKit
set_option maxRecDepth 100000
set_option maxHeartbeats 1000000
def JD:bQ:= []
def AB:KG:=⟨TT,EQS,[],[]⟩
def kI:aE [(false,.I .i64)]→Option (OutK.val (.data true [yD4])):=ce AB JD UO 39 0 [(false,.I .i64)] (.data true [yD4])
def sf:aF:=⟨39,[(false,.I .i64)],.data true [yD4],kI,1⟩
def xJ:bQ:= []
def mA:KG:=⟨TT,EQS,[],[]⟩
def eK:aE [yD4,yD4]→Option (OutK.val (.data true [(false,.I .i64)])):=ce mA xJ Vh 71 0 [yD4,yD4] (.data true [(false,.I .i64)])
def mB:aF:=⟨71,[yD4,yD4],.data true [(false,.I .i64)],eK,1⟩
def ze:bQ:= []
def nN:KG:=⟨TT,EQS,[mB],[]⟩
def fG:aE [yD4,yD4]→Option (OutK.val (.data true [yD4])):=ce nN ze UW 56 0 [yD4,yD4] (.data true [yD4])
def nO:aF:=⟨56,[yD4,yD4],.data true [yD4],fG,2⟩
def CT:bQ:= []
def qN:KG:=⟨TT,EQS,[sf],[]⟩
def fv:aE [(false,.B)]→Option (OutK.val (.data true [yD4])):=ce qN CT UX 57 0 [(false,.B)] (.data true [yD4])
def qO:aF:=⟨57,[(false,.B)],.data true [yD4],fv,2⟩
def GI:bQ:= []
def xK:KG:=⟨TT,EQS,[],[]⟩
def jZ:aE [yD4,yD4]→Option (OutK.val (.data true [yD4])):=ce xK GI UY 58 0 [yD4,yD4] (.data true [yD4])
def xL:aF:=⟨58,[yD4,yD4],.data true [yD4],jZ,1⟩
def GJ:bQ:= [(38,⟨[⟨true,2,9,[4,5,6,7],⟨[],[],[]⟩,[(.normal,⟨[(8,false,[.d true .B])],[],[]⟩)]⟩],[]⟩)]
def xM:KG:=⟨TT,EQS,[nO,qO,xL],[]⟩
def lQ:aE [(false,.I .i64),yD4,yD4]→Option (OutK.val (.data true [yD4])):=ce xM GJ UN 38 0 [(false,.I .i64),yD4,yD4] (.data true [yD4])
def GK:aF:=⟨38,[(false,.I .i64),yD4,yD4],.data true [yD4],lQ,3⟩
def zf:bQ:= []
def nP:KG:=⟨TT,EQS,[sf],[]⟩
def gS:aE [yD4]→Option (OutK.val (.data true [(false,.I .i64),(false,.B)])):=ce nP zf UZ 59 0 [yD4] (.data true [(false,.I .i64),(false,.B)])
def nQ:aF:=⟨59,[yD4],.data true [(false,.I .i64),(false,.B)],gS,2⟩
def zg:bQ:= []
def nR:KG:=⟨TT,EQS,[nQ],[]⟩
def gT:aE [(false,.I .i64),yD4]→Option (OutK.val (.data true [(false,.I .i64),(false,.B)])):=ce nR zg UP 40 0 [(false,.I .i64),yD4] (.data true [(false,.I .i64),(false,.B)])
def zh:aF:=⟨40,[(false,.I .i64),yD4],.data true [(false,.I .i64),(false,.B)],gT,3⟩
def JE:bQ:= []
def AC:KG:=⟨TT,EQS,[],[]⟩
def pu:aE [(false,.I .i64)]→Option (OutK.val (.data true [(false,.B)])):=ce AC JE UM 34 0 [(false,.I .i64)] (.data true [(false,.B)])
def JF:aF:=⟨34,[(false,.I .i64)],.data true [(false,.B)],pu,1⟩
def CU:bQ:= []
def lu:KG:=⟨TT,EQS,[],[]⟩
def ec:aE [(false,.I .i64)]→Option (OutK.val (.data true [(false,.B)])):=ce lu CU Qv 35 0 [(false,.I .i64)] (.data true [(false,.B)])
def iw:aF:=⟨35,[(false,.I .i64)],.data true [(false,.B)],ec,1⟩
def zi:bQ:= [(17,⟨[⟨false,5,0,[1,11,12],⟨[(3,false,[.d true (.I .i64)]),(13,false,[.d true (.I .i64)])],[],[]⟩,[(.exit 0,⟨[],[],[]⟩),(.ret,⟨[(2,false,[.d true .B])],[],[]⟩)]⟩],[]⟩)]
def jU:KG:=⟨TT,EQS,[iw],[]⟩
def dq:aE [yD1]→Option (OutK.val (.data true [(false,.B)])):=ce jU zi Qu 17 0 [yD1] (.data true [(false,.B)])
def dU:aF:=⟨17,[yD1],.data true [(false,.B)],dq,2⟩
def CV:bQ:= []
def lv:KG:=⟨TT,EQS,[dU],[]⟩
def spvec_sure:aE [yD1]→Option (OutK.val (.data false [yD1])):=ce lv CV Qw 47 0 [yD1] (.data false [yD1])
def dH:aF:=⟨47,[yD1],.data false [yD1],spvec_sure,3⟩
def CW:bQ:= [(67,⟨[⟨false,2,0,[1],⟨[(5,false,[.d true (.I .i64)]),(6,false,[.d true (.I .i64)])],[],[]⟩,[(.exit 0,⟨[(5,false,[.d true (.I .i64)])],[],[]⟩)]⟩],[]⟩)]
def lw:KG:=⟨TT,EQS,[],[(67,Qy),(68,Qz)]⟩
def co:aE [yD1,(false,.I .i64)]→Option (OutK.val (.data true [(false,.I .i64),(false,.B)])):=ce lw CW Qx 48 6 [yD1,(false,.I .i64)] (.data true [(false,.I .i64),(false,.B)])
def iy:aF:=⟨48,[yD1,(false,.I .i64)],.data true [(false,.I .i64),(false,.B)],co,7⟩
end K
end Ev
end
noncomputable section
namespace Ev
namespace K
open Go Go.RowKit
def xN{α:Type}(f:List T→Option α):List (List T)→Option (List α)
 | []=>some []
 |a::r=>(f a).bind fun x=>(xN f r).map (x::·)
theorem AD{α:Type}{f:List T→Option α}{g:α→List T}(h:∀x,f (g x)=some x):∀l:List α,xN f (l.map g)=some l
 | []=>rfl
 |x::l=>by simp only [List.map_cons,xN,h,zbS,AD h l,Option.map_some]
theorem xO{α:Type}{f:List T→Option α}{g:α→List T}(h:∀a x,f a=some x→a=g x):∀{l:List (List T)} {r:List α},xN f l=some r→l=r.map g
 | [],r,hr=>by simp [xN]at hr;subst hr;rfl
 |a::l,r,hr=>by
  simp only [xN,zbE,Option.map_eq_some_iff]at hr;obtain⟨x,hx,r',hr',rfl⟩:=hr;rw [List.map_cons,←h a x hx,←xO h hr']
def lx:(e:Ty)→List T→Option e.val
 | .I k,l=>match l with
  | [.v (.int k' n)]=>if k'=k then some n else none
  |_=>none
 | .B,l=>match l with
  | [.v (.bool b)]=>some b
  |_=>none
 | .S e,l=>match l with
  | [.s nn sz rows]=>(xN (lx e) rows).map fun r=>⟨nn,sz,r⟩
  |_=>none
 | .U,l=>match l with
  | []=>some ()
  |_=>none
 | .C a b,l=>(lx a (l.take a.size)).bind fun x=>(lx b (l.drop a.size)).bind fun y=>some (x,y)
theorem qP:∀(e:Ty) (x:e.val),lx e (e.row x)=some x
 | .I k,x=>by simp [lx,Ty.row,iT]
 | .B,x=>by simp [lx,Ty.row,bT]
 | .S e,x=>by
  simp only [lx,Ty.row,Sl.t];rw [AD (qP e)];rfl
 | .U,x=>rfl
 | .C a b,x=>by
  show((lx a ((a.row x.1++b.row x.2).take a.size)).bind fun x1=>(lx b ((a.row x.1++b.row x.2).drop a.size)).bind fun y=>some (x1,y))=some x;have e1:(a.row x.1++b.row x.2).take a.size=a.row x.1:=by rw [List.take_append_of_le_length (by rw [ll];exact Nat.le_refl _),List.take_of_length_le (by rw [ll];exact Nat.le_refl _)]
  have e2:(a.row x.1++b.row x.2).drop a.size=b.row x.2:=by rw [←ll a x.1,List.drop_left]
  rw [e1,qP a,zbS,e2,qP b];rfl
theorem iI:∀(e:Ty) (l:List T) (x:e.val),lx e l=some x→l=e.row x
 | .I k,l,x,h=>by
  simp only [lx]at h;split at h
  ·split at h
   ·rename_i hk;cases h;subst hk;rfl
   ·simp at h
  ·simp at h
 | .B,l,x,h=>by
  simp only [lx]at h;split at h
  ·cases h;rfl
  ·simp at h
 | .S e,l,x,h=>by
  simp only [lx]at h;split at h
  ·rw [Option.map_eq_some_iff]at h;obtain⟨r,hr,rfl⟩:=h;rw [xO (iI e) hr];rfl
  ·simp at h
 | .U,l,x,h=>by
  simp only [lx]at h;split at h
  ·rfl
  ·simp at h
 | .C a b,l,x,h=>by
  simp only [lx,zbE]at h;obtain⟨x1,h1,x2,h2,h3⟩:=h;cases h3;show l=a.row x1++b.row x2;rw [←iI a _ _ h1,←iI b _ _ h2,List.take_append_drop]
def xP(t:TyD)(d:TD):Option t.2.val:=
 match t,d with
 |(true,e),.agg l=>lx e l
 |(false,e),.one y=>lx e [y]
 |(false,e),.agg l=>if l.length=1 then none else lx e l
 |_,_=>none
def OX:List T→TD
 | [y]=> .one y
 |ys=> .agg ys
theorem xQ(e:Ty)(x:e.val):kA (false,e) x=OX (e.row x):=by
 unfold kA OX;rfl
theorem EX(t:TyD)(x:t.2.val):xP t (kA t x)=some x:=by
 obtain⟨b,e⟩:=t;have h:=qP e x
 cases b with
 |true=>exact h
 |false=>
  change e.val at x;rw [show kA (false,e) x=_ from xQ e x];generalize e.row x=l at h
  match l,h with
  | [],h=>exact h
  | [y],h=>exact h
  |a::b::r,h=>
   show(if(a::b::r).length=1 then none else lx e (a::b::r))=some x;rw [if_neg (by simp)];exact h
theorem xR(t:TyD)(d:TD)(x:t.2.val)(h:xP t d=some x):d=kA t x:=by
 obtain⟨b,e⟩:=t
 cases b with
 |true=>
  cases d with
  |one y=>simp [xP]at h
  |agg l=>exact congrArg TD.agg (iI e l x h)
 |false=>
  change e.val at x
  cases d with
  |one y=>rw [show kA (false,e) x=_ from xQ e x,←iI e [y] x h];rfl
  |agg l=>
   simp only [xP]at h;split at h
   ·simp at h
   ·rename_i hl
    have:=iI e l x h
    rw [show kA (false,e) x=_ from xQ e x,←this]
    match l,hl with
    | [],_=>rfl
    | [y],hl=>simp at hl
    |a::b::r,_=>rfl
def oY:(ts:List TyD)→List TD→Option (aE ts)
 | [],l=>match l with
  | []=>some ()
  |_=>none
 | [t],l=>match l with
  | [d]=>xP t d
  |_=>none
 |t::t'::r,l=>match l with
  |d::ds=>(xP t d).bind fun x=>(oY (t'::r) ds).bind fun y=>some (x,y)
  | []=>none
theorem AE:∀(ts:List TyD) (x:aE ts),oY ts (bp ts x)=some x
 | [],_=>rfl
 | [t],x=>EX t x
 |t::t'::r,x=>by
  show(xP t (kA t x.1)).bind _=_;rw [EX t x.1,zbS,AE (t'::r) x.2];rfl
theorem tk:∀(ts:List TyD) (l:List TD) (x:aE ts),oY ts l=some x→l=bp ts x
 | [],l,x,h=>by
  simp only [oY]at h;split at h
  ·rfl
  ·simp at h
 | [t],l,x,h=>by
  simp only [oY]at h;split at h
  ·exact congrArg (·:: []) (xR t _ x h)
  ·simp at h
 |t::t'::r,l,x,h=>by
  simp only [oY]at h;split at h
  ·simp only [zbE]at h;obtain⟨y,h1,z,h2,h3⟩:=h;cases h3;show _=kA t y::bp (t'::r) z;rw [←xR t _ y h1,←tk (t'::r) _ z h2]
  ·simp at h
def tr(ins:List TyD)(kind:Kind)(ts:List TyD)(g:aE ins→Option (aE ts))(vs:List TD):Option (Kind×List TD):=(oY ins vs).bind fun a=>(g a).bind fun x=>some (kind,bp ts x)
theorem CX{P:Program}{k:FuncId}{ins:List TyD}{kind:Kind}{ts:List TyD}{g:aE ins→Option (aE ts)}(he:Enters P k)(h:∀a x,g a=some x→dr P k (bp ins a) kind (bp ts x)):∀vs kind' rs,tr ins kind ts g vs=some (kind',rs)→dr P k vs kind' rs∧Enters P k:=by
 intro vs kind' rs hf;simp only [tr,zbE]at hf;obtain⟨a,h1,x,h2,h3⟩:=hf;cases h3;rw [tk ins vs a h1];exact⟨h a x h2,he⟩
theorem JG{E:Env}{k:FuncId}{ins:List TyD}{kind:Kind}{ts:List TyD}{g:aE ins→Option (aE ts)}(hx:E.ax k=some (tr ins kind ts g))(n:Nat)(a:aE ins)(x:aE ts)(h:g a=some x):RunsP E (n+1) k (bp ins a) (kind,bp ts x):=
 gf hx (by simp only [tr,AE,zbS,h])
theorem oZ{E:Env}{k:FuncId}{ins:List TyD}{ts:List TyD}{g:aE ins→Option (aE ts)}(hx:E.ax k=some (tr ins .fresh ts g)):af E ⟨k,ins,.data true ts,g,1⟩:=fun m a x h=>JG hx m a x h
end K
end Ev
end
noncomputable section
open Go.RowKit Go.Sort
def Has(w:World)(b:Nat):Prop:=b<w.heap.size
def Vm(w:World)(os:Array Obj)(b:Nat):Prop:=w.heap.size≤b∧b<w.heap.size+os.size
theorem Has.of{w:World}{b:Nat}(h:b<w.heap.size):Has w b:=h
@[go_sem] theorem QC (w:World) (o:Obj) (b:Nat):Has (w.alloc o) b=(b=w.heap.size∨Has w b):=by
 unfold Has;simp;omega
@[go_sem] theorem Vn (w:World) (d:Nat) (os:Array Obj) (b:Nat):Has (grow (redrawn w d) os) b=(Has w b∨Vm w os b):=by
 unfold Has Vm;simp [grow,redrawn];omega
@[go_sem] theorem OY (w:World) (a:Addr) (v:Value) (b:Nat):Has (w.setCell a v) b=Has w b:=by
 unfold Has;simp [World.setCell]
@[go_sem] theorem Vo (w:World) (b:Nat):Has w.drew b=Has w b:=rfl
@[go_sem] theorem Vq {w:World} {d:Nat} {os:Array Obj} {a:Addr} (h:Has w a.block):(grow (redrawn w d) os).cell? a=w.cell? a:=
 (below_regrown w d os).cell h
@[go_sem] theorem QD {w:World} {d:Nat} {os:Array Obj} {a:Addr} (h:Has w a.block):(grow (redrawn w d) os).frozen? a=w.frozen? a:=
 (below_regrown w d os).frozen h
@[go_sem] theorem Vr {w:World} {o:Obj} {a:Addr} (h:Has w a.block):(w.alloc o).cell? a=w.cell? a:=
 ((Below.refl w.heap.size w).alloc (Nat.le_refl _) o).cell h
@[go_sem] theorem QE {w:World} {o:Obj} {a:Addr} (h:Has w a.block):(w.alloc o).frozen? a=w.frozen? a:=
 ((Below.refl w.heap.size w).alloc (Nat.le_refl _) o).frozen h
@[go_sem] theorem QA {w:World} {o:Obj} {a:Addr} {v:Value} (h:Has w a.block):(w.alloc o).setCell a v=(w.setCell a v).alloc o:=by
 unfold Has at h;simp only [World.setCell,World.alloc];congr 1;apply Array.ext_getElem?;intro k;simp only [Array.getElem?_modify,Array.getElem?_push,Array.size_modify];by_cases hk:k=w.heap.size
 ·subst hk;simp;omega
 ·simp [hk]
@[go_sem] theorem Ws {α:Type} (p:Prop) [Decidable p] (x y:α) (w:World):(if p then Result.ok x w else Result.ok y w)=Result.ok (if p then x else y) w:=by
 split<;>rfl
@[go_sem] theorem QF (p:Prop) [Decidable p] (x y:Value):(if p then Next.value x else Next.value y)=Next.value (if p then x else y):=by
 split<;>rfl
theorem bl1(w:World)(a:Obj):Below w.heap.size w (w.alloc a):=(Below.refl _ _).alloc (Nat.le_refl _) _
theorem bl2(w:World)(a b:Obj):Below w.heap.size w ((w.alloc a).alloc b):=(bl1 w a).alloc (by simp) _
theorem blg{w w1:World}(h:Below w.heap.size w w1)(d:Nat)(os:Array Obj):Below w.heap.size w (grow (redrawn w1 d) os):=
 h.trans ((below_regrown w1 d os).mono h.size)
theorem JH(w:World)(a b:Array Obj):grow (grow w a) b=grow w (a++b):=by simp [grow,Array.append_assoc]
@[go_sem] theorem WB (w:World) (d d2:Nat) (os os2:Array Obj):grow (redrawn (grow (redrawn w d) os) d2) os2=grow (redrawn w d2) (os++os2):=by
 simp [grow,redrawn,Array.append_assoc]
@[go_sem] theorem Vs (w:World) (d:Nat) (os:Array Obj):(grow (redrawn w d) os).heap.size=w.heap.size+os.size:=by simp [grow,redrawn]
@[go_sem] theorem QB {w:World} {d:Nat} {os:Array Obj} {a:Addr} {v:Value} (h:Has w a.block):(grow (redrawn w d) os).setCell a v=grow (redrawn (w.setCell a v) d) os:=by
 unfold Has at h;simp only [grow,redrawn,World.setCell];congr 1;apply Array.ext_getElem?;intro k;rw [Array.getElem?_modify];by_cases hk:k<w.heap.size
 ·rw [Array.getElem?_append_left hk,Array.getElem?_append_left (by simpa using hk),Array.getElem?_modify]
 ·rw [if_neg (by omega),Array.getElem?_append_right (by omega),Array.getElem?_append_right (by simpa using by omega)];simp
@[go_sem] theorem NX (w:World) (d:Nat):(redrawn w d).heap=w.heap:=rfl
theorem bla{w w1:World}(h:Below w.heap.size w w1)(o:Obj):Below w.heap.size w (w1.alloc o):=h.alloc h.size o
theorem bls{w w1:World}(h:Below w.heap.size w w1){p:Addr}(hp:w.heap.size≤p.block)(v:Value):Below w.heap.size w (w1.setCell p v):=h.setCell hp v
@[go_sem] theorem Wt:IntKind.u64.signed=false:=rfl
@[go_sem] theorem Wu:IntKind.i64.signed=true:=rfl
@[go_sem] theorem WC:IntKind.u8.signed=false:=rfl
@[go_sem] theorem Ww:IntKind.u32.signed=false:=rfl
end
noncomputable section
open Go Go.RowKit Go.Sort
section
variable {P : Program} {ops : Array Oper} {md : Region.Mode} {C : World → Prop}
def Mk(P:Program)(md:Region.Mode)(ops:Array Oper)(C:World→Prop)(n:Nat)(L:Array Bool→Act→Prop):Nat→Array Bool→Act→Prop
 |0,s,a=>L s a
 |f+1,s,a=>(∃i,i∈Region.ready md ops s)∧∀i∈Region.ready md ops s,i<n∧qOp P ops C i (Mk P md ops C n L f (s.setIfInBounds i true)) a
theorem zj{n g:Nat}{L:Array Bool→Act→Prop}{Q':Exit→Act→World→Prop}(hL:∀s a w,C w→L s a→wpAny P md ops Q' g s a w):
  ∀(f:Nat) (s:Array Bool) (a:Act) (w:World),C w→Mk P md ops C n L f s a→wpAny P md ops Q' (f+g) s a w:=by
 intro f
 induction f with
 |zero=>intro s a w hw h;rw [Nat.zero_add];exact hL s a w hw h
 |succ f ih=>
  intro s a w hw h;obtain⟨⟨i0,hi0⟩,hall⟩:=h;rw [Nat.add_right_comm];refine⟨fun h0=> ?_,fun i hi=>wpOp_of_qOp hw (fun a' w' hw' h'=>ih _ a' w' hw' h') (hall i hi).2⟩;rw [h0]at hi0;cases hi0
theorem GL{n i:Nat}{oi:Oper}{v:Value}{L:Array Bool→Act→Prop}(hi:ops[i]? =some oi)(hsel:Region.noSelect ops=true)
  (hs:Region.sinkB md ops n=true) (hc:Region.chainB md ops n=true) (hn:n<ops.size) (hin:i<n) (hdone:∀s a,L s a→∀j∈Region.ready md ops s,n≤j) (f:Nat):
  ∀(s:Array Bool) (a:Act),HeadInv md ops n s→
   (∀j oj,ops[j]? =some oj→j≠i→s.getD j true=false→(∀e∈oj.after,Region.binds md e=true→e.on≠i)→oi.apart ops oj=true)→
   i∈Region.ready md ops s→YieldsIn P ops C oi v a→
   Mk P md ops C n L f (s.setIfInBounds i true) (a.put oi.dst v)→Mk P md ops C n L (f+1) s a:=by
 have sel:=Region.noSelect_spec hsel
 induction f with
 |zero=>
  intro s a inv _ hr hy H;refine⟨⟨i,hr⟩,fun j hj=> ?_⟩;have hjn:j<n:=Nat.lt_of_not_le fun h=>tail_waits hs hc hn inv _ i rfl hin (mem_ready.1 hr).1 j h hj;refine⟨hjn,?_⟩;by_cases hji:j=i
  ·rw [hji];exact hy.qOp hi H
  ·have:=hdone _ _ H j (ready_mono hj hji)
   omega
 |succ f ih=>
  intro s a inv hfree hr hy H;refine⟨⟨i,hr⟩,fun j hj=> ?_⟩;have hun:=(mem_ready.1 hr).1;have hjn:j<n:=Nat.lt_of_not_le fun h=>tail_waits hs hc hn inv _ i rfl hin hun j h hj;refine⟨hjn,?_⟩;by_cases hji:j=i
  ·rw [hji];exact hy.qOp hi H
  ·obtain⟨hjun,oj,hoj,hall⟩:=mem_ready.1 hj
   have hnot:∀e∈oj.after,Region.binds md e=true→e.on≠i:=by
    intro e he hb heq;have hd:=hall e he hb;rw [heq,getD_both hun]at hd;cases hd
   have hp:=qOp_put hoj (hfree j oj hoj hji hjun hnot) (fun cs b=>sel i oi cs b hi) (fun cs b=>sel j oj cs b hoj) hy (H.2 j (ready_mono hj hji)).2;refine qOp_mono (fun a' h3=>ih _ a' (inv.set hj hjn) ?_ (ready_mono hr (Ne.symm hji)) h3.1 ?_) hp
   ·intro k ok hk hki hkun hno;refine hfree k ok hk hki ?_ hno;by_cases hjk:j=k
    ·rw [←hjk];exact hjun
    ·rwa [getD_set_ne true hjk]at hkun
   ·rw [Array.setIfInBounds_comm _ _ hji];exact h3.2
theorem Ml{n g:Nat}{Lq:Act→Prop}(hsel:Region.noSelect ops=true)(hs:Region.sinkB md ops n=true)(hc:Region.chainB md ops n=true)(hn:n<ops.size)(l:List Oper):
  ∀(k:Nat) (s:Array Bool) (a:Act),(∀j,j<l.length→l[j]? =ops[k+j]?)→k+l.length=n→HeadInv md ops n s→
  Region.lexHead md ops g l.length k s=true→wpQuiet P ops C Lq l a→
  Mk P md ops C n (fun s' a'=>Region.seqB md ops g n s'=true∧Lq a') l.length s a:=by
 induction l with
 |nil=>
  intro k s a _ hk _ hB h;have hk':k=n:=by simpa using hk
  rw [←hk'];exact⟨by simpa [Region.lexHead]using hB,h⟩
 |cons o l ih=>
  intro k s a hl hk inv hB h;have h0:ops[k]? =some o:=by simpa using (hl 0 (by simp)).symm
  simp only [List.length_cons]at hk hB;simp only [Region.lexHead,Bool.and_eq_true]at hB;have hkn:k<n:=by omega
  have hr:k∈Region.ready md ops s:=by simpa using hB.1.1
  have hq:qOp P ops C k (wpQuiet P ops C Lq l) a:=by unfold qOp;simp only [h0];exact h
  obtain⟨v,hy,hK⟩:=yieldsIn_of_qOp h0 hq;refine GL h0 hsel hs hc hn hkn (fun s' a' hL=>seqB_ready hL.1) l.length s a inv (Region.free_spec h0 hB.1.2) hr hy (ih (k+1) _ _ (fun j hj=> ?_) (by omega) (inv.set hr hkn) hB.2 hK)
  have:=hl (j+1) (by simp;omega)
  simpa [Nat.add_assoc,Nat.add_comm 1 j]using this
theorem mC{id:Nat}{Q:Exit→Act→World→Prop}{a:Act}{w:World}{l:List Oper}(n:Nat)(hm:P.follows .mixedOrders=true)(hB:Region.lexTailB .any l.toArray n=true)
  (hC:C {w with drawn:=w.drawn+1}) (h:wpQuiet P l.toArray C (fun a'=>∀w',C w'→wpList P l.toArray Q (l.drop n) a' w') (l.take n) a):(Code.region id l.toArray true).wp P Q a w:=by
 simp only [Region.lexTailB,Bool.and_eq_true,decide_eq_true_eq]at hB;obtain⟨⟨⟨⟨hsel,hn⟩,hs⟩,hc⟩,hlex⟩:=hB;have hn':n<l.length:=by simpa using hn
 have htl:(l.take n).length=n:=by simp;omega
 have hdl:(l.drop n).length=l.toArray.size - n:=by simp
 have H:=Ml (C:=C) (md:= .any) (g:=l.toArray.size - n) hsel hs hc hn (l.take n) 0 (Array.replicate l.toArray.size false) a (fun j hj=>by
  have hj':j<n:=by rw [htl]at hj;exact hj
  simp [hj']) (by simpa using htl) ⟨by simp,fun j oj _ hl=>(by rw [getD_replicate_false]at hl;cases hl),fun t _ ht=>getD_in (by simpa using ht) (getD_replicate_false _ _)⟩ (by rw [htl];exact hlex) h
 refine wp_region_any hm ?_
 have R:=zj (Q':=Q) (g:=l.toArray.size - n) (fun s a' w' hw hL=>by
  have:=wpAny_of_seq (md:= .any) (Q':=Q) (l.drop n) n s a' w' (fun j=>by simp [List.getElem?_drop]) (by rw [hdl];exact hL.1) (hL.2 w' hw)
  rwa [hdl]at this) _ _ _ _ hC H
 rw [htl,show n+(l.toArray.size - n)=l.toArray.size by omega]at R;exact R
theorem hZ{id:Nat}{Q:Exit→Act→World→Prop}{a:Act}{w:World}{l:List Oper}(n:Nat)(hm:P.follows .mixedOrders=true)(hB:Region.lexTailB .any l.toArray n=true)
  (h:wpQuiet P l.toArray (fun w'=>∃p:Regrown,w'=grow (redrawn w p.d) p.os) (fun a'=>∀w',(∃p:Regrown,w'=grow (redrawn w p.d) p.os)→wpList P l.toArray Q (l.drop n) a' w') (l.take n) a):(Code.region id l.toArray true).wp P Q a w:=
 mC (C:=fun w'=>∃p:Regrown,w'=grow (redrawn w p.d) p.os) n hm hB ⟨⟨w.drawn+1,#[]⟩,by rw [grow_empty];rfl⟩ h
end
end
noncomputable section
open Go.RowKit Go.Sort
def CellsAt(W:World)(B:Nat)(t:TypeId)(cs:Array Value):Prop:=W.heap[B]? =some (.cells cs t (0,0))
theorem CellsAt.lt{W:World}{B:Nat}{t:TypeId}{cs:Array Value}(h:CellsAt W B t cs):B<W.heap.size:=(Array.getElem?_eq_some_iff.1 h).1
theorem CellsAt.cell{W:World}{B:Nat}{t:TypeId}{cs:Array Value}(h:CellsAt W B t cs)(i:Nat):W.cell? ⟨B,i,none⟩=cs[i]? :=by
 simp [World.cell?,show W.heap[B]? =_ from h]
theorem CellsAt.frozen{W:World}{B:Nat}{t:TypeId}{cs:Array Value}(h:CellsAt W B t cs)(i:Nat):W.frozen? ⟨B,i,none⟩=false:=by simp [World.frozen?,show W.heap[B]? =_ from h]
theorem CellsAt.set{W:World}{B:Nat}{t:TypeId}{cs:Array Value}(h:CellsAt W B t cs)(i:Nat)(v:Value):CellsAt (W.setCell ⟨B,i,none⟩ v) B t (cs.setIfInBounds i v):=by
 obtain⟨hlt,hk⟩:=Array.getElem?_eq_some_iff.1 h;show(W.heap.modify B _)[B]? =_;rw [Array.getElem?_eq_getElem (by rw [Array.size_modify];exact hlt),Array.getElem_modify_self,hk];rfl
theorem CellsAt.kept{W W':World}{B:Nat}{t:TypeId}{cs:Array Value}(h:CellsAt W B t cs)(hb:W'.heap[B]? =W.heap[B]?):CellsAt W' B t cs:=hb.trans h
theorem CellsAt.below{W W':World}{B:Nat}{t:TypeId}{cs:Array Value}(h:CellsAt W B t cs)(hb:Below W.heap.size W W'):CellsAt W' B t cs:=h.kept (hb.block B h.lt)
theorem CellsAt.grown{W W':World}{B:Nat}{t:TypeId}{cs:Array Value}{row:Option Nat}(h:CellsAt W B t cs)(hg:W.grownBy W' row)(hne:some B≠row):CellsAt W' B t cs:=h.kept (hg.block B h.lt hne)
theorem eF{W:World}{B B':Nat}{t:TypeId}{cs:Array Value}(h:CellsAt W B t cs)(hne:B≠B')(v:Value)(i:Nat):CellsAt (W.setCell ⟨B',i,none⟩ v) B t cs:=
 (Below.heap_setCell W ⟨B',i,none⟩ v B hne).trans h
def Rd8(w:World)(a:Option Addr)(n:Nat)(f:Nat→Int):Prop:=∀i,i<n→∃b,a=some b∧b.block<w.heap.size∧w.cell? (b.add i)=some (.int .u8 (f i))∧0≤f i∧f i≤255
@[go_sem] theorem qQ (b:Addr) (k:Nat):(b.add k).block=b.block:=by unfold Addr.add;split<;>rfl
theorem bV{w w':World}(h:Below w.heap.size w w')(row:Option Nat):w.grownBy w' row:=⟨h.os,h.tape,h.output,h.size,fun k hk _=>h.block k hk⟩
theorem Rd8.grown{W W':World}{a:Option Addr}{n:Nat}{f:Nat→Int}{row:Option Nat}(h:Rd8 W a n f)(hg:W.grownBy W' row)(hne:∀b,a=some b→some b.block≠row):Rd8 W' a n f:=by
 intro i hi;obtain⟨b,hb,h1,h2,h3⟩:=h i hi;refine⟨b,hb,Nat.lt_of_lt_of_le h1 hg.size,?_,h3⟩;rw [←h2]
 have:=hg.block b.block h1 (hne b hb)
 unfold World.cell?;rw [qQ,this]
theorem Rd8.cut{W:World}{a:Option Addr}{n p k:Nat}{f:Nat→Int}(h:Rd8 W a n f)(hp:p+k≤n):Rd8 W (Option.map (fun x=>x.add p) a) k (fun i=>f (p+i)):=by
 intro i hi;obtain⟨b,rfl,h1,h2,h3⟩:=h (p+i) (by omega);refine⟨b.add p,rfl,by rw [qQ];exact h1,?_,h3⟩;rw [←h2];congr 1;unfold Addr.add;by_cases h4:p=0<;>by_cases h5:i=0<;>simp [h4,h5];omega
theorem ai(W:World)(b i:Nat)(v:Value):W.grownBy (W.setCell ⟨b,i,none⟩ v) (some b):=
 ⟨rfl,rfl,rfl,(KeepsWalks.setCell W _ v).size,fun k _ hk=>Below.heap_setCell _ _ _ k (fun e=>hk (by rw [e]))⟩
theorem gD{A B:World}{n r:Nat}(h:A.grownBy B (some r))(hn:n≤A.heap.size)(hr:n≤r):Below n A B:=⟨h.os,h.tape,h.output,h.size,fun k hk=>h.block k (by omega) (by simp;omega)⟩
theorem pc{A B:World}(h:A.grownBy B none):Below A.heap.size A B:=⟨h.os,h.tape,h.output,h.size,fun k hk=>h.block k hk (by simp)⟩
end
end Go.Proofs.Ythkgcllekhnecaa
