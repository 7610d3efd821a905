/- Texts of a claim, joined. -/
import Derived.Test.YtoamaaicfjkmhaaGreatZR8
import Derived.Test.YtoamaaicfjkmhaaGreatProg
import Derived.BigQuiet
import Derived.Lib.QuietBelow
import Derived.WalkSpells
import Derived.WalkLawsBesides
import Derived.Lib.Hide
import Derived.Outline
import Derived.StillTail
set_option linter.unusedVariables false
set_option linter.unusedSimpArgs false
namespace Go.Proofs.YtoamaaicfjkmhaaGreat
noncomputable section
namespace Ev
namespace K
open Go Go.RowKit
section
variable {E : Env} {n : Nat} {F : KF} {ks : KS} {V : Vl} {f : Nat → D} {h : am} {G : KG} {D0 : Nat}
theorem xc{k i j bz:Nat}{ag:Bool}{sz:Nat}{es:List (List C)}{e cs:List C}{d:D}(hg:ap h k=some (bz,es))(he:es[i]? =some e)(hc:Ev.cut e j sz=some cs)(hv:bX ag cs=some d):load h ag sz (.one (.ptr k i j))=some d:=by
 simp only [load,hg,zbB,zbS,he,hc,hv]
theorem ME(hr:Rel F ks V f h){z:Nat×Bool}{a:KD}{a':D}{R:Type}{r:R}{κ:KD->Option R}(hs:fY F ks z a κ=some r)(ha:RD (an F ks) V a a'):∃d d',κ d=some r/\load h z.2 (if z.2 then z.1 else 1) a'=some d'/\RD (an F ks) V d d'/\ScD ks.nx d:=by
 have hz:wd z=if z.2 then z.1 else 1:=by unfold wd;cases z.2<;>rfl
 cases a with
 |tup ts=>simp [fY]at hs
 |agg cs=>simp [fY]at hs
 |one c=>
  obtain⟨c',rfl,hc⟩:=ha
  cases c with
  |ptr p j=>
   simp only [fY]at hs;split at hs
   .rename_i cs hp;simp only [zbE]at hs;obtain⟨d2,⟨cs2,g1,g2⟩,g3⟩:=hs;obtain⟨g4,g5,sz,cs',g6,g7⟩:=hr.bl p _ hp;obtain⟨c2,g8,g9⟩:=g7.cut g1;obtain⟨d3,k1,k2,k3⟩:=fc g2 (gx g5 g1) g9;rw [show c'=_ from hc];exact⟨_,d3,g3,xc g6 rfl (by rw [<-hz];exact g8) k1,k2,k3⟩
   .simp at hs
  |ip e fr x i y j=>
   simp only [fY,zbE]at hs;obtain⟨d2,⟨cs2,g1,g2⟩,g3⟩:=hs;obtain⟨fl,e1,e2,e3⟩:=hc;obtain⟨c2,g8,g9⟩:=(cC (B:=an F ks) (V:=V) e3 e y).cut g1;obtain⟨d3,k1,k2,k3⟩:=fc g2 (gx (dS ks.nx fr e y) g1) g9;refine⟨_,d3,g3,?_,k2,k3⟩;rw [e1];simp only [load,zbB,Bf (r:=e.row) e2,zbS];rw [<-hz,g8];exact k1
  |pe p i j=>
   simp only [fY]at hs;rw [hc.2];split at hs
   .rename_i e ne l hp;simp only [zbE]at hs;obtain⟨y,g0,d2,⟨cs2,g1,g2⟩,g3⟩:=hs;obtain⟨g4,g5,g6,_⟩:=hr.bl p _ hp;obtain⟨c2,g8,g9⟩:=(cC (B:=an F ks) (V:=V) (λ_=>rfl) e y).cut g1;obtain⟨d3,k1,k2,k3⟩:=fc g2 (gx (dS ks.nx true e y) g1) g9;exact⟨_,d3,g3,xc g6 (mW g0).2 (by rw [<-hz];exact g8) k1,k2,k3⟩
   .rename_i e l hp;simp only [zbE]at hs;obtain⟨y,g0,d2,⟨cs2,g1,g2⟩,g3⟩:=hs;obtain⟨g4,g5,g6⟩:=hr.bl p _ hp;obtain⟨c2,g8,g9⟩:=(cC (B:=an F ks) (V:=V) (λ_=>rfl) e y).cut g1;obtain⟨d3,k1,k2,k3⟩:=fc g2 (gx (dS ks.nx true e y) g1) g9;exact⟨_,d3,g3,xc (g6 (Bs g0)) (mW g0).2 (by rw [<-hz];exact g8) k1,k2,k3⟩
   .simp at hs
  |_=>simp [fY]at hs
theorem uB(hG:GOk G E D0)(hr:Rel F ks V f h):∀{rv:List ResultVar} {R:Type} {r:R} {κ:List KD->Option R},Bn G F ks rv κ=some r->∃ds ds',rv.mapM (bY E {t:=tab F.nt f,h:=h})=some ds'/\RDl (an F ks) V ds ds'/\(∀d∈ds,ScD ks.nx d)/\κ ds=some r
 | [],R,r,κ,hs=>⟨[],[],rfl,rfl,by simp,hs⟩
 | .tmp t::rv,R,r,κ,hs=>by
  simp only [Bn,zbE]at hs;obtain⟨d,g1,g2⟩:=hs;obtain⟨k1,k2,k3⟩:=hr.sl t d g1;obtain⟨ds,ds',e1,e2,e3,e4⟩:=uB hG hr g2;refine⟨d::ds,f t::ds',?_,⟨_,_,rfl,k3,e2⟩,λx hx=> ?_,e4⟩
  .rw [List.mapM_cons,e1];show((tab F.nt f)[t]?).bind _=_;rw [iZ,if_pos k1];rfl
  .rcases List.mem_cons.1 hx with rfl|hx
   .exact k2
   .exact e3 x hx
 | .cell a ty::rv,R,r,κ,hs=>by
  simp only [Bn]at hs;split at hs
  .rename_i z d hz hd;have hz':=Br hG hz;obtain⟨k1,k2,k3⟩:=hr.sl a d hd;obtain⟨v,v',g1,g2,g3,g4⟩:=ME hr hs k3;obtain⟨ds,ds',e1,e2,e3,e4⟩:=uB hG hr g1;refine⟨v::ds,v'::ds',?_,⟨_,_,rfl,g3,e2⟩,λx hx=> ?_,e4⟩
   .unfold ji at hz';simp only [zbE,zsI]at hz';obtain⟨ti,w1,w2⟩:=hz';rw [List.mapM_cons,e1];show(((E.ti ty).bind λt'=>((tab F.nt f)[a]?).bind λd=>load h (aP t'.desc) (if aP t'.desc then t'.size else 1) d).bind _)=_;rw [w1,iZ,if_pos k1];subst w2;simp only [zbS];rw [g2];rfl
   .rcases List.mem_cons.1 hx with rfl|hx
    .exact g4
    .exact e3 x hx
  .simp at hs
theorem BE:∀{ds:List KD} {ds':List D} {ts:List (Bool×List KC)},tupK.tups ds=some ts->RDl (an F ks) V ds ds'->(∀d∈ds,ScD ks.nx d)->RTs (an F ks) V ts ds'/\∀x∈ts,Scs ks.nx x.2
 | [],ds',ts,h,hr,hs=>by
  have:=Option.some.inj (show some []=some ts from h)
  subst this;exact⟨hr,by simp⟩
 | .one c::r,ds',ts,h,⟨d,s,e,h1,h2⟩,hs=>by
  simp only [tupK.tups,Option.map_eq_some_iff]at h;obtain⟨ts',g1,rfl⟩:=h;obtain⟨k1,k2⟩:=BE g1 h2 λx hx=>hs x (by simp [hx]);refine⟨⟨d,s,e,h1,k1⟩,λx hx=> ?_⟩;rcases List.mem_cons.1 hx with rfl|hx
  .exact λy hy=>by rw [List.mem_singleton.1 hy];exact hs (.one c) (by simp)
  .exact k2 x hx
 | .agg cs::r,ds',ts,h,⟨d,s,e,h1,h2⟩,hs=>by
  simp only [tupK.tups,Option.map_eq_some_iff]at h;obtain⟨ts',g1,rfl⟩:=h;obtain⟨k1,k2⟩:=BE g1 h2 λx hx=>hs x (by simp [hx]);refine⟨⟨d,s,e,h1,k1⟩,λx hx=> ?_⟩;rcases List.mem_cons.1 hx with rfl|hx
  .exact hs (.agg cs) (by simp)
  .exact k2 x hx
 | .tup ts'::r,ds',ts,h,hr,hs=>by simp [tupK.tups]at h
theorem Oi{ds:List KD}{ds':List D}{d:KD}(h:tupK ds=some d)(hr:RDl (an F ks) V ds ds')(hs:∀d∈ds,ScD ks.nx d):RD (an F ks) V d (jI ds')/\ScD ks.nx d:=by
 match ds,h,hr,hs with
 | [x],h,⟨d',s,e,h1,h2⟩,hs=>
  cases h;rw [e,show s= []from h2];exact⟨h1,hs d (by simp)⟩
 | [],h,hr,hs=>
  cases h;rw [show ds'= []from hr];exact⟨⟨[],rfl,rfl⟩,λx hx=>by simp at hx⟩
 |x::x'::r,h,hr,hs=>
  have h':(tupK.tups (x::x'::r)).map KD.tup=some d:=h;rw [Option.map_eq_some_iff]at h';obtain⟨ts,g1,rfl⟩:=h';obtain⟨k1,k2⟩:=BE g1 hr hs;obtain⟨d1,s1,e1,_,d2,s2,e2,_,_⟩:=hr;refine⟨⟨ds',?_,k1⟩,k2⟩;rw [e1,e2];rfl
theorem zS:∀{l:List KD} {q i:Nat} {d:KD},aj (ym q l) i=some d->∃j,i=q+j/\l[j]? =some d
 | [],q,i,d,h=>by simp [ym,aj]at h
 |a::l,q,i,d,h=>by
  unfold ym at h;rw [al]at h;split at h
  .rename_i hi;cases h;exact⟨0,by omega,rfl⟩
  .obtain⟨j,h1,h2⟩:=zS h;exact⟨j+1,by omega,by simpa using h2⟩
theorem He{B:BK}:∀{l:List KD} {l':List D} {j:Nat} {d:KD},RDl B V l l'->l[j]? =some d->∃d',l'[j]? =some d'/\RD B V d d'
 | [],l',j,d,h,hj=>by simp at hj
 |a::l,l',0,d,⟨x,s,e,h1,h2⟩,hj=>by simp at hj;subst hj e;exact⟨x,rfl,h1⟩
 |a::l,l',j+1,d,⟨x,s,e,h1,h2⟩,hj=>by subst e;simpa using He h2 (by simpa using hj)
theorem Hg{B:BK}:∀{l:List KD} {l':List D},RDl B V l l'->l'.length=l.length
 | [],l',h=>by rw [show l'= []from h];rfl
 |a::l,l',⟨x,s,e,h1,h2⟩=>by rw [e,List.length_cons,List.length_cons,Hg h2]
theorem zT{nt nx:Nat}{bl:List (Nat×KB)}{args:List KD}{args':List D}(hb:Mu F {sl:= [],bl:=bl,nx:=nx} V h)(hs:∀d∈args,ScD nx d)(hr:RDl (an F {sl:= [],bl:=bl,nx:=nx}) V args args')(hl:args.length<=nt):Rel {F with sl:= [],nt:=nt} {sl:=ym 0 args,bl:=bl,nx:=nx} V (fA args') h:=by
 refine⟨?_,hb.bl,hb.inj⟩;intro i d hd;have hd':aN (ym 0 args) [] i=some d:=hd;unfold aN at hd'
 cases hl':aj (ym 0 args) i with
 |none=>rw [hl']at hd';simp [aj]at hd'
 |some d0=>
  rw [hl']at hd';cases hd';obtain⟨j,h1,h2⟩:=zS hl';rw [Nat.zero_add]at h1;subst h1;obtain⟨d',h3,h4⟩:=He hr h2;have hi:i<args.length:=(List.getElem?_eq_some_iff.1 h2).1;refine⟨Nat.lt_of_lt_of_le hi hl,hs d (List.mem_of_getElem? h2),?_⟩;show RD _ _ d (args'.getD i bF);rw [List.getD_eq_getElem?_getD,h3];exact h4
theorem DU{e:Ex}(h:sN e=true):e= .normal∨e= .ret:=by
 cases e with
 |normal=>exact .inl rfl
 |ret=>exact .inr rfl
 |exit id=>simp [sN]at h
theorem DV(hG:GOk G E D0)(A:cj):∀(c n:Nat),D0+c<=n->FH E n (DA G A c)
 |0,n,hn=>λR F k args ks κ r V h args' hs hb hsc hr=>by simp [DA]at hs
 |c+1,n,hn=>λR F k args ks κ r V h args' hs hb hsc hr=>by
  unfold DA at hs;split at hs
  .rename_i fi hfi;obtain⟨g1,g2⟩:=hG.fi k fi hfi;split at hs
   .rename_i hlen
    match n,hn with
    |n0+1,hn=>
     refine⟨n0,fi,rfl,g1,g2,by rw [Hg hr];exact hlen,?_⟩;have hrel:Rel {F with sl:= [],nt:=fi.nt} {ks with sl:=ym 0 args} V (fA args') h:=zT ⟨hb.bl,hb.inj⟩ hsc hr hlen;refine(DT (y:=nY) hG (by omega) (DV hG A c n0 (by omega)) fi.body R _ _ _ r V _ h hs hrel).mono λe s hp=> ?_;obtain⟨ks',V',f',h1,h2,h3,h4⟩:=hp;obtain⟨t,hh⟩:=s;simp only at h1 h2;subst h1;dsimp only at h3
     cases he:sN e with
     |false=>rw [he]at h3;simp at h3
     |true=>
      rw [he]at h3;obtain⟨ds,ds',e1,e2,e3,e4⟩:=uB hG h2 h3;rw [zbE]at e4;obtain⟨d,e5,e6⟩:=e4;obtain⟨k1,k2⟩:=Oi e5 e2 e3;exact⟨DU he,ds',e1,ks',V',d,e6,k2,k1,⟨h2.bl,h2.inj⟩,⟨h4.nx,h4.agree,h4.le,h4.dom⟩⟩
   .simp at hs
  .simp at hs
theorem pw:∀{e:Ty} (x:e.val),e.plain=true->(cU e.row x).all uE=true
 | .I _,_,_=>rfl
 | .B,_,_=>rfl
 | .S _,_,hp=>by simp [Ty.plain]at hp
 | .U,_,_=>rfl
 | .C a b,x,hp=>by
  simp only [Ty.plain,Bool.and_eq_true]at hp;unfold cU;show((a.row x.1++b.row x.2).map (pC true)).all uE=true;rw [List.map_append,List.all_append];have h1:=pw x.1 hp.1;have h2:=pw x.2 hp.2;unfold cU at h1 h2;rw [h1,h2];rfl
theorem xd{B:BK}:∀{l:List (Bool×List KC)} {ds:List D},RTs B V l ds->RDl B V (l.map mkD) ds
 | [],ds,h=>h
 |x::l,ds,⟨d,s,e,h1,h2⟩=>⟨d,s,e,Fz h1,xd h2⟩
theorem Hh(fr:Bool):∀(ts:List TyD) (x:aO ts),(mn fr ts x).length=ts.length
 | [],_=>rfl
 | [t],x=>rfl
 |t::t'::r,x=>by show(mn fr (t'::r) x.2).length+1=_;rw [Hh fr (t'::r)];rfl
theorem BF:∀(ts:List TyD) (x:aO ts),(bZ ts x).length=ts.length
 | [],_=>rfl
 | [t],x=>rfl
 |t::t'::r,x=>by show(bZ (t'::r) x.2).length+1=_;rw [BF (t'::r)];rfl
theorem Jd{B:BK}{ts:List TyD}{ds:List KD}{ds':List D}{x:aO ts}(hd:jb B ts ds=some x)(hr:RDl B V ds ds')(hno:sd ds=false):dT h ds'=false:=by
 unfold dT;split
 .rename_i k m
  match ds,hr,hno,hd with
  | [d],⟨y,s,e,h1,h2⟩,hno,hd=>
   rw [show s= []from h2]at e;simp only [List.cons.injEq,and_true]at e;subst e
   match ts,x,hd with
   | [t],x,hd=>
    have hd':Bi B t d=some x:=hd
    cases d with
    |one c=>
     obtain⟨c',e1,e2⟩:=h1;cases e1
     cases c with
     |o e p=>simp [sd]at hno
     |m e p=>simp [sd]at hno
     |n k y=>exact absurd (show C.own _ 0 _=_ from e2) (by simp)
     |b v=>exact absurd (show C.own _ 0 _=_ from e2) (by simp)
     |p t P d=>exact absurd e2.1 (by simp)
     |bv y=>exact absurd (show C.own _ 0 _=_ from e2) (by simp)
     |v y=>exact absurd (show C.own _ 0 _=_ from e2) (by simp)
     |nil=>exact absurd (show C.own _ 0 _=_ from e2) (by simp)
     |s e fr y=>obtain⟨fl,e3,_⟩:=e2;exact absurd e3 (by simp)
     |ptr p j=>exact absurd (show C.own _ 0 _=_ from e2) (by simp)
     |pe p i j=>exact absurd e2.2 (by simp)
     |ip e fr y i z j=>obtain⟨fl,e3,_⟩:=e2;exact absurd e3 (by simp)
     |clo fn ps=>exact absurd (show C.own _ 0 _=_ from e2) (by simp)
     |yld p=>exact absurd (show C.own _ 0 _=_ from e2) (by simp)
    |agg cs=>obtain⟨c',e1,_⟩:=h1;simp at e1
    |tup ts=>simp [Bi]at hd'
   | [],x,hd=>simp [jb]at hd
   |_::_::_,x,hd=>simp [jb]at hd
  | [],hr,_,_=>exact absurd (show [_]=_ from hr) (by simp)
  |_::_::_,⟨y,s,e,h1,y2,s2,e2,_,_⟩,_,_=>rw [e2]at e;simp at e
 .rfl
theorem qN{rv:List ResultVar}{e:Ty}{l:List e.val}{k:Nat}{ex:Ex}{s:St}(he:ex= .normal∨ex= .ret)(hres:rv.mapM (bY E s)=some [.one (.own k 0 l.length)])(hg:ap s.h k=some (e.size,l.map (cU e.row)))(hp:e.plain=true):Fg E rv (.own,[.one (.s true e.size (l.map e.row))]) ex s:=by
 have ho:dT s.h [.one (.own k 0 l.length)]=true:=by
  simp only [dT,hg,List.length_map,BEq.rfl,Bool.true_and,List.all_map];rw [List.all_eq_true];exact λx _=>pw x hp
 have hv:cr s.h (.one (.own k 0 l.length))=some (true,.one (.s true e.size (l.map e.row))):=by
  show(eV s.h 6 _).bind _=_;rw [Fo (r:=e.row) (L:= [[(k,e.size,l.map (cU e.row))]]) 0 rfl (λx h m=>wF m) s.h (gp hg) 4];rfl
 have key:bO (λq:Kind×List TD=>q=(.own,[.one (.s true e.size (l.map e.row))])) ((rv.mapM (bY E s)).bind λrs=>(rs.mapM (cr s.h)).map λl=>(if dT s.h rs then .own else if l.all (·.1)then .fresh else .any,l.map (·.2))):=by
  rw [hres];simp only [zbS,List.mapM_cons,hv,List.mapM_nil,Option.pure_def,zbB,Option.map_some,ho];rfl
 rcases he with rfl|rfl<;>exact key
theorem jG{rv:List ResultVar}{ds':List D}{l:List (Bool×TD)}{ex:Ex}{s:St}(he:ex= .normal∨ex= .ret)(hres:rv.mapM (bY E s)=some ds')(hv:ds'.mapM (cr s.h)=some l)(ho:dT s.h ds'=false):Fg E rv (cond (l.all (·.1)) .fresh .any,l.map (·.2)) ex s:=by
 have key:bO (λq:Kind×List TD=>q=(cond (l.all (·.1)) .fresh .any,l.map (·.2))) ((rv.mapM (bY E s)).bind λrs=>(rs.mapM (cr s.h)).map λl=>(if dT s.h rs then .own else if l.all (·.1)then .fresh else .any,l.map (·.2))):=by
  rw [hres];simp only [zbS,hv,Option.map_some,ho];show(_,_)=(_,_);cases l.all (·.1)<;>rfl
 rcases he with rfl|rfl<;>exact key
theorem Oj(hG:GOk G E D0)(A:cj){fi:FI}{k:FuncId}{c:Nat}{ins:List TyD}{ok:OutK}{x:aO ins}{out:ok.val}(hax:E.ax k=none)(hf:E.fn k=some fi)(hl:ins.length<=fi.nt)(hs:cB G A fi k c ins ok x=some out)(m:Nat):GS E (m+(D0+c)+1) k (bZ ins x) ok out:=by
 unfold cB at hs;have hb:Mu {nt:=fi.nt} {sl:= [],bl:= [],nx:=0} ⟨λ_=>0,λ_=>false⟩ []:=⟨λp b hb=>by simp [an,aN,aj]at hb,λp q b b' hb=>by simp [an,aN,aj]at hb⟩;have hargs:RDl (an {nt:=fi.nt} {sl:= [],bl:= [],nx:=0}) ⟨λ_=>0,λ_=>false⟩ ((mn false ins x).map mkD) ((bZ ins x).map (cg false)):=xd (qF (λh=>h) ins x)
 have hsc:∀d∈(mn false ins x).map mkD,ScD 0 d:=λd hd=>by
  obtain⟨y,h1,rfl⟩:=List.mem_map.1 hd;exact uz (wG 0 false ins x y h1)
 have hrel:Rel {nt:=fi.nt} {sl:=GQ ins x,bl:= [],nx:=0} ⟨λ_=>0,λ_=>false⟩ (fA ((bZ ins x).map (cg false))) []:=zT (F:={nt:=fi.nt}) hb hsc hargs (by rw [List.length_map,Hh];exact hl);have hw:=DT (y:=nY) (n:=m+(D0+c)) hG (by omega) (DV hG A c _ (by omega)) fi.body ok.val _ _ _ out _ _ [] hs hrel;have hend:∀r,(∀e s,PostC {nt:=fi.nt} {sl:=GQ ins x,bl:= [],nx:=0} ⟨λ_=>0,λ_=>false⟩ (λe ks=>cond (sN e) (Bn G {nt:=fi.nt} ks fi.results λds=>Bo (an {nt:=fi.nt} ks) ok ds) none) out e s->Fg E fi.results r e s)->RunsP E (m+(D0+c)+1) k (bZ ins x) r:=λr hq=>Dq hax hf (by rw [BF];exact hl) (hw.mono hq)
 have hopen:∀e s,PostC {nt:=fi.nt} {sl:=GQ ins x,bl:= [],nx:=0} ⟨λ_=>0,λ_=>false⟩ (λe ks=>cond (sN e) (Bn G {nt:=fi.nt} ks fi.results λds=>Bo (an {nt:=fi.nt} ks) ok ds) none) out e s->∃ks' V' f' ds ds',(e= .normal∨e= .ret)/\Rel {nt:=fi.nt} ks' V' f' s.h/\fi.results.mapM (bY E s)=some ds'/\RDl (an {nt:=fi.nt} ks') V' ds ds'/\Bo (an {nt:=fi.nt} ks') ok ds=some out:=by
  intro e s hp;obtain⟨ks',V',f',h1,h2,h3,h4⟩:=hp;obtain⟨t,hh⟩:=s;simp only at h1 h2;subst h1;dsimp only at h3
  cases he:sN e with
  |false=>rw [he]at h3;simp at h3
  |true=>
   rw [he]at h3;obtain⟨ds,ds',e1,e2,e3,e4⟩:=uB hG h2 h3;exact⟨ks',V',f',ds,ds',DU he,h2,e1,e2,e4⟩
 cases ok with
 |data fr ts=>
  have hdata:∀(ks':KS) (V':Vl) (ds:List KD) (ds':List D) (hh:am) (f':Nat->D),Rel {nt:=fi.nt} ks' V' f' hh->RDl (an {nt:=fi.nt} ks') V' ds ds'->Bo (an {nt:=fi.nt} ks') (.data fr ts) ds=some out->∃l,ds'.mapM (cr hh)=some l/\l.map (·.2)=bZ ts out/\(fr=true->l.all (·.1)=true)/\dT hh ds'=false:=by
   intro ks' V' ds ds' hh f' h2 e2 e4;unfold Bo at e4;simp only at e4;split at e4
   .simp at e4
   .rename_i hc;obtain⟨l,l1,l2,l3⟩:=pc h2.bls e4 e2
    have hno:sd ds=false:=by cases ho:sd ds with|true=>simp [ho]at hc|false=>rfl
    refine⟨l,l1,l2,λhfr=>l3 ?_,Jd e4 e2 hno⟩
    cases ha:ds.all frD with
    |true=>rfl
    |false=>simp [hfr,ha]at hc
  cases fr with
  |true=>
   refine hend _ λe s hp=> ?_;obtain⟨ks',V',f',ds,ds',he,h2,e1,e2,e4⟩:=hopen e s hp;obtain⟨l,l1,l2,l3,l4⟩:=hdata ks' V' ds ds' s.h f' h2 e2 e4
   have:=jG (E:=E) he e1 l1 l4
   rw [l3 rfl,l2]at this;exact this
  |false=>
   -- is it new? that is settled when it has run
   obtain⟨e,s,hrun,hp⟩:=hw;obtain⟨ks',V',f',ds,ds',he,h2,e1,e2,e4⟩:=hopen e s hp;obtain⟨l,l1,l2,_,l4⟩:=hdata ks' V' ds ds' s.h f' h2 e2 e4
   have:=jG (E:=E) he e1 l1 l4
   rw [l2]at this;exact⟨l.all (·.1),Dq hax hf (by rw [BF];exact hl) ⟨e,s,hrun,this⟩⟩
 |own ty=>
  refine hend _ λe s hp=> ?_;obtain⟨ks',V',f',ds,ds',he,h2,e1,e2,e4⟩:=hopen e s hp;unfold Bo at e4;simp only at e4;unfold Me at e4;split at e4
  .rename_i e0 p;split at e4
   .rename_i e' ne l hB;split at e4
    .rename_i hpl;rw [Option.map_eq_some_iff]at e4;obtain⟨l2,g0,rfl⟩:=e4;obtain⟨hty,g0⟩:=aV g0;cases hty;subst g0;obtain⟨y,s',e5,⟨c',e6,e7⟩,e8⟩:=e2;rw [show s'= []from e8]at e5;rw [e5,e6,e7 _ _ _ hB]at e1;exact qN he e1 (h2.bl p _ hB).2.2.1 hpl
    .simp at e4
   .simp at e4
  .simp at e4
 |mown ty=>
  refine hend _ λe s hp=> ?_;obtain⟨ks',V',f',ds,ds',he,h2,e1,e2,e4⟩:=hopen e s hp
  have hnil:∀{ds'':List D},RDl (an {nt:=fi.nt} ks') V' [.one .nil] ds''->fi.results.mapM (bY E s)=some ds''->Fg E fi.results (TE ty.size ty.row []) e s:=by
   intro ds'' e2 e1;obtain⟨y,s',e5,⟨c',e6,e7⟩,e8⟩:=e2;rw [show s'= []from e8]at e5;rw [e5,e6,show c'=_ from e7]at e1;exact jG (E:=E) (l:= [(true,.one (.s false 0 []))]) he e1 rfl rfl
  unfold Bo at e4;simp only at e4;unfold GO at e4;split at e4
  .cases e4;exact hnil e2 e1
  .rename_i e0 p;split at e4
   .rename_i e' l hB;split at e4
    .rename_i hpl;rw [Option.map_eq_some_iff]at e4;obtain⟨l2,g0,rfl⟩:=e4;obtain⟨hty,g0⟩:=aV g0;cases hty;subst g0;obtain⟨y,s',e5,⟨c',e6,e7⟩,e8⟩:=e2;rw [show s'= []from e8]at e5;rw [e5,e6,e7 _ _ hB]at e1
     cases l with
     |nil=>exact jG (E:=E) (l:= [(true,.one (.s false 0 []))]) he e1 rfl rfl
     |cons a l=>exact qN he e1 ((h2.bl p _ hB).2.2 (by simp)) hpl
    .simp at e4
   .simp at e4
  .rename_i e0 p;split at e4
   .rename_i e' ne l hB;split at e4
    .rename_i hpl;rw [Bool.and_eq_true]at hpl;rw [Option.map_eq_some_iff]at e4;obtain⟨l2,g0,rfl⟩:=e4;obtain⟨hty,g0⟩:=aV g0;cases hty;subst g0;obtain⟨y,s',e5,⟨c',e6,e7⟩,e8⟩:=e2;rw [show s'= []from e8]at e5;rw [e5,e6,e7 _ _ _ hB]at e1;obtain⟨w1,w2,w3,w4⟩:=h2.bl p _ hB
     cases l with
     |nil=>exact absurd rfl (w4 hpl.2)
     |cons a l=>exact qN he e1 w3 hpl.1
    .simp at e4
   .simp at e4
  .simp at e4
 |gown ty=>
  refine hend _ λe s hp=> ?_;obtain⟨ks',V',f',ds,ds',he,h2,e1,e2,e4⟩:=hopen e s hp;unfold Bo at e4;simp only at e4;unfold GP at e4;split at e4
  .cases e4;obtain⟨y,s',e5,⟨c',e6,e7⟩,e8⟩:=e2;rw [show s'= []from e8]at e5;rw [e5,e6,show c'=_ from e7]at e1;exact jG (E:=E) (l:= [(true,.one (.s false 0 []))]) he e1 rfl rfl
  .rename_i e0 p;split at e4
   .rename_i e' l hB;split at e4
    .rename_i hpl;rw [Option.map_eq_some_iff]at e4;obtain⟨l2,g0,rfl⟩:=e4;obtain⟨hty,g0⟩:=aV g0;cases hty;subst g0;obtain⟨y,s',e5,⟨c',e6,e7⟩,e8⟩:=e2;rw [show s'= []from e8]at e5;rw [e5,e6,e7 _ _ hB]at e1
     cases l with
     |nil=>exact jG (E:=E) (l:= [(true,.one (.s false 0 []))]) he e1 rfl rfl
     |cons a l=>exact qN he e1 ((h2.bl p _ hB).2.2 (by simp)) hpl
    .simp at e4
   .simp at e4
  .rename_i e0 p;split at e4
   .rename_i e' ne l hB;split at e4
    .rename_i hpl;rw [Option.map_eq_some_iff]at e4;obtain⟨l2,g0,rfl⟩:=e4;obtain⟨hty,g0⟩:=aV g0;cases hty;subst g0;obtain⟨y,s',e5,⟨c',e6,e7⟩,e8⟩:=e2;rw [show s'= []from e8]at e5;rw [e5,e6,e7 _ _ _ hB]at e1;exact qN he e1 (h2.bl p _ hB).2.2.1 hpl
    .simp at e4
   .simp at e4
  .simp at e4
end
end K
end Ev
end
noncomputable section
namespace Ev
namespace K
open Go Go.RowKit
def Si(E:Env)(D:Nat):List aR->Prop
 | []=>True
 |e::r=>(e.d<=D/\ar E e)/\Si E D r
def Sj(E:Env):List (FuncId×FI)->Prop
 | []=>True
 |x::r=>(E.fn x.1=some x.2/\E.ax x.1=some λ_=>none)/\Sj E r
def MF(E:Env):List (Nat×TI)->Prop
 | []=>True
 |x::r=>E.ti x.1=some x.2/\MF E r
def MG(P:Program):List (Nat×List IntKind)->Prop
 | []=>True
 |x::r=>Mh P x.1 x.2/\MG P r
theorem DW{E:Env}{D:Nat}:∀{l:List aR},Si E D l->∀e∈l,e.d<=D/\ar E e
 | [],_,e,h=>by simp at h
 |a::l,⟨h1,h2⟩,e,h=>by
  rcases List.mem_cons.1 h with rfl|h
  .exact h1
  .exact DW h2 e h
theorem zU{E:Env}:∀{l:List (FuncId×FI)},Sj E l->∀k f,aj l k=some f->E.fn k=some f/\E.ax k=some λ_=>none
 | [],_,k,f,h=>by simp [aj]at h
 |a::l,⟨h1,h2⟩,k,f,h=>by
  rw [show a::l=(a.1,a.2)::l from rfl,al]at h;split at h
  .rename_i hk;cases h;subst hk;exact h1
  .exact zU h2 k f h
theorem zV{E:Env}:∀{l:List (Nat×TI)},MF E l->∀k f,aj l k=some f->E.ti k=some f
 | [],_,k,f,h=>by simp [aj]at h
 |a::l,⟨h1,h2⟩,k,f,h=>by
  rw [show a::l=(a.1,a.2)::l from rfl,al]at h;split at h
  .rename_i hk;cases h;subst hk;exact h1
  .exact zV h2 k f h
theorem zW{P:Program}:∀{l:List (Nat×List IntKind)},MG P l->∀k f,aj l k=some f->Mh P k f
 | [],_,k,f,h=>by simp [aj]at h
 |a::l,⟨h1,h2⟩,k,f,h=>by
  rw [show a::l=(a.1,a.2)::l from rfl,al]at h;split at h
  .rename_i hk;cases h;subst hk;exact h1
  .exact zW h2 k f h
theorem gok{E:Env}{D:Nat}{tt:List (Nat×TI)}{eqs:List (Nat×List IntKind)}{fns:List aR}{fi:List (FuncId×FI)}(hE:E.Ok)(ht:MF E tt)(hq:MG E.P eqs)(hf:Si E D fns)(hi:Sj E fi):GOk ⟨tt,eqs,fns,fi⟩ E D:=⟨hE,zV ht,zW hq,DW hf,zU hi⟩
def mkE(G:KG)(A:cj)(fi:FI)(k:FuncId)(c:Nat)(ins:List TyD)(out:OutK)(d:Nat):aR:=⟨k,ins,out,cB G A fi k c ins out,d⟩
theorem aL{E:Env}{D:Nat}{G:KG}{A:cj}{fi:FI}{k:FuncId}{c:Nat}{ins:List TyD}{out:OutK}{d:Nat}(hG:GOk G E D)(hax:E.ax k=none)(hf:E.fn k=some fi)(hl:Nat.ble ins.length fi.nt=true)(hd:D+c+1=d):ar E (mkE G A fi k c ins out d):=λm a o h=>by
 subst hd;exact Oj hG A hax hf (Nat.le_of_ble_eq_true hl) h m
def fiF(f:Func):FI:=⟨f.ntmps,f.results.toList,f.body.getD .skip⟩
theorem aX{P:Program}{k:FuncId}{f:Func}{b:Code}(h:P.funcs[k]? =some f)(hb:f.body=some b):Nv P k=some (fiF f):=by
 unfold Nv fiF;rw [h];simp only [hb];rfl
theorem Hi{P:Program}{ty:TypeId}{k0 k1:IntKind}(h:∀(x y:Operand) (a0 b0 a1 b1:Int),ao P (do eqGuard .eql ty x y (.agg #[.int k0 a0,.int k1 a1]) (.agg #[.int k0 b0,.int k1 b1]);binOp .eql ty (.agg #[.int k0 a0,.int k1 a1]) (.agg #[.int k0 b0,.int k1 b1]))=some (.bool (a0==b0 &&(a1==b1 && true))))
  (h':∀(x y:Operand) (a0 b0 a1 b1:Int),ao P (do eqGuard .neq ty x y (.agg #[.int k0 a0,.int k1 a1]) (.agg #[.int k0 b0,.int k1 b1]);binOp .neq ty (.agg #[.int k0 a0,.int k1 a1]) (.agg #[.int k0 b0,.int k1 b1]))=some (.bool (!(a0==b0 &&(a1==b1 && true))))):Mh P ty [k0,k1]:=λx y l hl=>by
 match l,hl with
 | [(a0,b0),(a1,b1)],_=>
  have e:(a0==b0 &&(a1==b1 && true))= @decide (eqP [(a0,b0),(a1,b1)]) (eqD [(a0,b0),(a1,b1)]):=eP (by simp [eqP]);exact⟨(h x y a0 b0 a1 b1).trans (by rw [e]),(h' x y a0 b0 a1 b1).trans (by rw [e])⟩
theorem Hj{P:Program}{ty:TypeId}{k0 k1 k2:IntKind}(h:∀(x y:Operand) (a0 b0 a1 b1 a2 b2:Int),ao P (do eqGuard .eql ty x y (.agg #[.int k0 a0,.int k1 a1,.int k2 a2]) (.agg #[.int k0 b0,.int k1 b1,.int k2 b2]);binOp .eql ty (.agg #[.int k0 a0,.int k1 a1,.int k2 a2]) (.agg #[.int k0 b0,.int k1 b1,.int k2 b2]))=some (.bool (a0==b0 &&(a1==b1 &&(a2==b2 && true)))))
  (h':∀(x y:Operand) (a0 b0 a1 b1 a2 b2:Int),ao P (do eqGuard .neq ty x y (.agg #[.int k0 a0,.int k1 a1,.int k2 a2]) (.agg #[.int k0 b0,.int k1 b1,.int k2 b2]);binOp .neq ty (.agg #[.int k0 a0,.int k1 a1,.int k2 a2]) (.agg #[.int k0 b0,.int k1 b1,.int k2 b2]))=some (.bool (!(a0==b0 &&(a1==b1 &&(a2==b2 && true)))))):Mh P ty [k0,k1,k2]:=λx y l hl=>by
 match l,hl with
 | [(a0,b0),(a1,b1),(a2,b2)],_=>
  have e:(a0==b0 &&(a1==b1 &&(a2==b2 && true)))= @decide (eqP [(a0,b0),(a1,b1),(a2,b2)]) (eqD [(a0,b0),(a1,b1),(a2,b2)]):=eP (by simp [eqP]);exact⟨(h x y a0 b0 a1 b1 a2 b2).trans (by rw [e]),(h' x y a0 b0 a1 b1 a2 b2).trans (by rw [e])⟩
end K
@[reducible] def nE {R:Type} (v:Empty):Option R:=K.afterX.match_1 (λ_=>Option R) v
end Ev
end
noncomputable section
namespace Ev
namespace K
open Go Go.RowKit
set_option maxRecDepth 100000
set_option maxHeartbeats 1000000
def i1:TI:=(⟨.func #[] #[] false,[.nilFunc],1,8⟩:TI)
def i4:TI:=(⟨.bool,[.bool false],1,1⟩:TI)
def i7:TI:=(⟨.struct (cA Tryz.prog 7),[.int .i64 0,.int .i64 0,.bool false,.int .u8 0],4,24⟩:TI)
def i8:TI:=(⟨.struct (cA Tryz.prog 8),[.int .i64 0,.int .i64 0,.bool false,.int .u8 0],4,24⟩:TI)
def i15:TI:=(⟨.pointer 170,[.pointer none],1,8⟩:TI)
def i16:TI:=(⟨.pointer 173,[.pointer none],1,8⟩:TI)
def i17:TI:=(⟨.pointer 181,[.pointer none],1,8⟩:TI)
def i18:TI:=(⟨.struct (cA Tryz.prog 18),[.pointer none],1,8⟩:TI)
def i19:TI:=(⟨.struct (cA Tryz.prog 19),[.pointer none],1,8⟩:TI)
def i22:TI:=(⟨.slice 52,[.slice none 0 0],1,24⟩:TI)
def i23:TI:=(⟨.struct (cA Tryz.prog 23),[.int .i64 0,.slice none 0 0],2,32⟩:TI)
def i24:TI:=(⟨.struct (cA Tryz.prog 24),[.int .i64 0,.slice none 0 0],2,32⟩:TI)
def i25:TI:=(⟨.func #[] #[4] false,[.nilFunc],1,8⟩:TI)
def i26:TI:=(⟨.slice 5,[.slice none 0 0],1,24⟩:TI)
def i29:TI:=(⟨.func #[24] #[26,27] false,[.nilFunc],1,8⟩:TI)
def i30:TI:=(⟨.func #[26,26] #[4] false,[.nilFunc],1,8⟩:TI)
def i31:TI:=(⟨.func #[24] #[4] false,[.nilFunc],1,8⟩:TI)
def i32:TI:=(⟨.struct (cA Tryz.prog 32),[.int .i64 0,.int .i64 0],2,16⟩:TI)
def i33:TI:=(⟨.struct (cA Tryz.prog 33),[.int .i64 0,.int .i64 0],2,16⟩:TI)
def i35:TI:=(⟨.func #[26] #[24,33] false,[.nilFunc],1,8⟩:TI)
def i36:TI:=(⟨.func #[24,24] #[4] false,[.nilFunc],1,8⟩:TI)
def i37:TI:=(⟨.func #[26] #[4] false,[.nilFunc],1,8⟩:TI)
def i38:TI:=(⟨.func #[24] #[27] false,[.nilFunc],1,8⟩:TI)
def i39:TI:=(⟨.func #[22] #[4] false,[.nilFunc],1,8⟩:TI)
def i40:TI:=(⟨.array 2 3,[.int .i64 0,.int .i64 0],2,16⟩:TI)
def i41:TI:=(⟨.slice 54,[.slice none 0 0],1,24⟩:TI)
def i42:TI:=(⟨.func #[3,3,41] #[26,27] false,[.nilFunc],1,8⟩:TI)
def i44:TI:=(⟨.func #[26] #[3,3,41,33] false,[.nilFunc],1,8⟩:TI)
def i45:TI:=(⟨.func #[41,41] #[4] false,[.nilFunc],1,8⟩:TI)
def i46:TI:=(⟨.func #[40,41,26] #[4] false,[.nilFunc],1,8⟩:TI)
def i47:TI:=(⟨.func #[24] #[24] false,[.nilFunc],1,8⟩:TI)
def i48:TI:=(⟨.func #[24,26] #[4] false,[.nilFunc],1,8⟩:TI)
def i49:TI:=(⟨.int .u16,[.int .u16 0],1,2⟩:TI)
def i50:TI:=(⟨.func #[24,49,26] #[4] false,[.nilFunc],1,8⟩:TI)
def i51:TI:=(⟨.struct (cA Tryz.prog 51),[.int .i64 0,.int .i64 0,.int .i64 0],3,24⟩:TI)
def i52:TI:=(⟨.struct (cA Tryz.prog 52),[.int .i64 0,.int .i64 0,.int .i64 0],3,24⟩:TI)
def i53:TI:=(⟨.struct (cA Tryz.prog 53),[.int .i64 0,.int .i64 0,.int .i64 0],3,24⟩:TI)
def i54:TI:=(⟨.struct (cA Tryz.prog 54),[.int .i64 0,.int .i64 0,.int .i64 0],3,24⟩:TI)
def i55:TI:=(⟨.func #[22] #[5] false,[.nilFunc],1,8⟩:TI)
def i56:TI:=(⟨.func #[5] #[26] false,[.nilFunc],1,8⟩:TI)
def i57:TI:=(⟨.func #[89] #[26] true,[.nilFunc],1,8⟩:TI)
def i58:TI:=(⟨.func #[59] #[26] false,[.nilFunc],1,8⟩:TI)
def i59:TI:=(⟨.int .u32,[.int .u32 0],1,4⟩:TI)
def i60:TI:=(⟨.func #[26,61] #[24,33] false,[.nilFunc],1,8⟩:TI)
def i61:TI:=(⟨.func #[98] #[24] false,[.nilFunc],1,8⟩:TI)
def i62:TI:=(⟨.pointer 105,[.pointer none],1,8⟩:TI)
def i63:TI:=(⟨.func #[26] #[62] false,[.nilFunc],1,8⟩:TI)
def i64:TI:=(⟨.func #[62,9] #[] false,[.nilFunc],1,8⟩:TI)
def i65:TI:=(⟨.func #[] #[3] false,[.nilFunc],1,8⟩:TI)
def i66:TI:=(⟨.func #[] #[5] false,[.nilFunc],1,8⟩:TI)
def i67:TI:=(⟨.func #[27,3] #[] false,[.nilFunc],1,8⟩:TI)
def i68:TI:=(⟨.func #[62,3,27] #[3] false,[.nilFunc],1,8⟩:TI)
def i69:TI:=(⟨.func #[] #[33] false,[.nilFunc],1,8⟩:TI)
def i70:TI:=(⟨.func #[22,22] #[4] false,[.nilFunc],1,8⟩:TI)
def i71:TI:=(⟨.func #[52,52] #[4] false,[.nilFunc],1,8⟩:TI)
def i72:TI:=(⟨.func #[3,3,41] #[27] false,[.nilFunc],1,8⟩:TI)
def i73:TI:=(⟨.func #[2] #[26] false,[.nilFunc],1,8⟩:TI)
def i74:TI:=(⟨.func #[54,54] #[4] false,[.nilFunc],1,8⟩:TI)
def i75:TI:=(⟨.struct (cA Tryz.prog 75),[.int .i64 0,.int .i64 0,.slice none 0 0],3,40⟩:TI)
def i76:TI:=(⟨.struct (cA Tryz.prog 76),[.int .i64 0,.int .i64 0,.slice none 0 0],3,40⟩:TI)
def i78:TI:=(⟨.func #[26,79] #[76,33] false,[.nilFunc],1,8⟩:TI)
def i79:TI:=(⟨.func #[98] #[76] false,[.nilFunc],1,8⟩:TI)
def i80:TI:=(⟨.func #[] #[2] false,[.nilFunc],1,8⟩:TI)
def i82:TI:=(⟨.func #[83,22] #[22,27] false,[.nilFunc],1,8⟩:TI)
def i84:TI:=(⟨.func #[22,86] #[4] false,[.nilFunc],1,8⟩:TI)
def i85:TI:=(⟨.func #[3,3] #[4] false,[.nilFunc],1,8⟩:TI)
def i86:TI:=(⟨.func #[52] #[4] false,[.nilFunc],1,8⟩:TI)
def i87:TI:=(⟨.func #[52,52] #[3] false,[.nilFunc],1,8⟩:TI)
def i88:TI:=(⟨.func #[5,3] #[26] false,[.nilFunc],1,8⟩:TI)
def i89:TI:=(⟨.slice 3,[.slice none 0 0],1,24⟩:TI)
def i90:TI:=(⟨.func #[91,3] #[26] false,[.nilFunc],1,8⟩:TI)
def i92:TI:=(⟨.struct (cA Tryz.prog 92),[.int .i64 0,.int .i64 0],2,16⟩:TI)
def i93:TI:=(⟨.struct (cA Tryz.prog 93),[.int .i64 0,.int .i64 0],2,16⟩:TI)
def i95:TI:=(⟨.pointer 127,[.pointer none],1,8⟩:TI)
def i96:TI:=(⟨.func #[26] #[95] false,[.nilFunc],1,8⟩:TI)
def i97:TI:=(⟨.struct (cA Tryz.prog 97),[.pointer none],1,8⟩:TI)
def i98:TI:=(⟨.struct (cA Tryz.prog 98),[.pointer none],1,8⟩:TI)
def i99:TI:=(⟨.func #[4,27,3] #[] false,[.nilFunc],1,8⟩:TI)
def TK:TI:=(⟨.func #[9] #[] false,[.nilFunc],1,8⟩:TI)
def TL:TI:=(⟨.func #[3,27] #[3] false,[.nilFunc],1,8⟩:TI)
def TM:TI:=(⟨.func #[3,103] #[22] false,[.nilFunc],1,8⟩:TI)
def TN:TI:=(⟨.func #[3] #[52] false,[.nilFunc],1,8⟩:TI)
def TO:TI:=(⟨.struct (cA Tryz.prog 104),[.slice none 0 0,.int .i64 0,.int .i64 0,.int .i64 0],4,48⟩:TI)
def TP:TI:=(⟨.struct (cA Tryz.prog 105),[.slice none 0 0,.int .i64 0,.int .i64 0,.int .i64 0],4,48⟩:TI)
def TQ:TI:=(⟨.func #[3] #[26] false,[.nilFunc],1,8⟩:TI)
def TR:TI:=(⟨.func #[3] #[91] false,[.nilFunc],1,8⟩:TI)
def TS:TI:=(⟨.func #[] #[59] false,[.nilFunc],1,8⟩:TI)
def TU:TI:=(⟨.func #[2,3] #[26] false,[.nilFunc],1,8⟩:TI)
def TV:TI:=(⟨.func #[3,111] #[41] false,[.nilFunc],1,8⟩:TI)
def TW:TI:=(⟨.func #[3] #[54] false,[.nilFunc],1,8⟩:TI)
def TX:TI:=(⟨.func #[83] #[4] false,[.nilFunc],1,8⟩:TI)
def TY:TI:=(⟨.slice 115,[.slice none 0 0],1,24⟩:TI)
def TZ:TI:=(⟨.struct (cA Tryz.prog 114),[.int .i64 0,.int .u64 0],2,16⟩:TI)
def Ua:TI:=(⟨.struct (cA Tryz.prog 115),[.int .i64 0,.int .u64 0],2,16⟩:TI)
def Ub:TI:=(⟨.func #[2] #[115] false,[.nilFunc],1,8⟩:TI)
def Uc:TI:=(⟨.func #[83,115,115] #[115] false,[.nilFunc],1,8⟩:TI)
def Ud:TI:=(⟨.func #[115] #[2,4] false,[.nilFunc],1,8⟩:TI)
def Ue:TI:=(⟨.func #[22,86] #[3] false,[.nilFunc],1,8⟩:TI)
def Uf:TI:=(⟨.func #[89] #[3] true,[.nilFunc],1,8⟩:TI)
def Ug:TI:=(⟨.func #[3,3] #[3] false,[.nilFunc],1,8⟩:TI)
def Uh:TI:=(⟨.func #[59,3] #[26] false,[.nilFunc],1,8⟩:TI)
def Ui:TI:=(⟨.func #[26] #[26] false,[.nilFunc],1,8⟩:TI)
def Uj:TI:=(⟨.struct (cA Tryz.prog 126),[.slice none 0 0,.int .i64 0,.int .i64 0,.int .i64 0],4,48⟩:TI)
def Uk:TI:=(⟨.struct (cA Tryz.prog 127),[.slice none 0 0,.int .i64 0,.int .i64 0,.int .i64 0],4,48⟩:TI)
def Ul:TI:=(⟨.func #[95,3,129] #[5] false,[.nilFunc],1,8⟩:TI)
def Um:TI:=(⟨.func #[26] #[5] false,[.nilFunc],1,8⟩:TI)
def Un:TI:=(⟨.func #[95,3,131] #[2] false,[.nilFunc],1,8⟩:TI)
def Uo:TI:=(⟨.func #[26] #[2] false,[.nilFunc],1,8⟩:TI)
def Uq:TI:=(⟨.func #[115,115] #[3] false,[.nilFunc],1,8⟩:TI)
def Ur:TI:=(⟨.func #[4] #[115] false,[.nilFunc],1,8⟩:TI)
def Us:TI:=(⟨.func #[115,115] #[115] false,[.nilFunc],1,8⟩:TI)
def Ut:TI:=(⟨.func #[3] #[4] false,[.nilFunc],1,8⟩:TI)
def Uu:TI:=(⟨.func #[95,3,125] #[26] false,[.nilFunc],1,8⟩:TI)
def Uv:TI:=(⟨.struct (cA Tryz.prog 137),[.int .i64 0,.int .i64 0],2,16⟩:TI)
def Uw:TI:=(⟨.struct (cA Tryz.prog 138),[.int .i64 0,.int .i64 0],2,16⟩:TI)
def Ux:TI:=(⟨.func #[95,3,141] #[59] false,[.nilFunc],1,8⟩:TI)
def Uy:TI:=(⟨.func #[26] #[59] false,[.nilFunc],1,8⟩:TI)
def Uz:TI:=(⟨.func #[22] #[22] false,[.nilFunc],1,8⟩:TI)
def UA:TI:=(⟨.func #[83,115] #[2,4] false,[.nilFunc],1,8⟩:TI)
def UB:TI:=(⟨.func #[22,87] #[] false,[.nilFunc],1,8⟩:TI)
def UC:TI:=(⟨.func #[22,3,3,3,87] #[] false,[.nilFunc],1,8⟩:TI)
def UD:TI:=(⟨.func #[123] #[3] false,[.nilFunc],1,8⟩:TI)
def UE:TI:=(⟨.func #[22,3,3,87] #[] false,[.nilFunc],1,8⟩:TI)
def UF:TI:=(⟨.func #[22,3,3,87] #[3,150] false,[.nilFunc],1,8⟩:TI)
def UG:TI:=(⟨.func #[22,3,3,87] #[4] false,[.nilFunc],1,8⟩:TI)
def UH:TI:=(⟨.func #[22,3,3,3,87] #[3] false,[.nilFunc],1,8⟩:TI)
def UI:TI:=(⟨.func #[22,3,3,3,87] #[3,4] false,[.nilFunc],1,8⟩:TI)
def UJ:TI:=(⟨.func #[59] #[3] false,[.nilFunc],1,8⟩:TI)
def UK:TI:=(⟨.func #[91] #[3] false,[.nilFunc],1,8⟩:TI)
def UL:TI:=(⟨.func #[3] #[123] false,[.nilFunc],1,8⟩:TI)
def UM:TI:=(⟨.func #[] #[91] false,[.nilFunc],1,8⟩:TI)
def UN:TI:=(⟨.func #[22,3,163,87] #[3] false,[.nilFunc],1,8⟩:TI)
def UO:TI:=(⟨.pointer 3,[.pointer none],1,8⟩:TI)
def UP:TI:=(⟨.func #[22,3,3,3,163,87] #[3] false,[.nilFunc],1,8⟩:TI)
def UQ:TI:=(⟨.pointer 159,[.pointer none],1,8⟩:TI)
def UR:TI:=(⟨.func #[22,3,3,163,87] #[3,3] false,[.nilFunc],1,8⟩:TI)
def US:TI:=(⟨.func #[] #[9] false,[.nilFunc],1,8⟩:TI)
def UT:TI:=(⟨.array 0 16,[],0,0⟩:TI)
def UU:TI:=(⟨.struct (cA Tryz.prog 172),[],0,0⟩:TI)
def UV:TI:=(⟨.struct (cA Tryz.prog 173),[],0,0⟩:TI)
def UW:TI:=(⟨.func #[182,182] #[4] false,[.nilFunc],1,8⟩:TI)
def UX:TI:=(⟨.pointer 5,[.pointer none],1,8⟩:TI)
def UY:TI:=(⟨.struct (cA Tryz.prog 180),[.int .u64 0,.int .u64 0,.int .u32 0,.int .u8 0,.int .u8 0,.int .u8 0,.int .u8 0,.nilFunc,.pointer none,.int .i32 0,.int .i32 0],11,48⟩:TI)
def UZ:TI:=(⟨.struct (cA Tryz.prog 181),[.int .u64 0,.int .u64 0,.int .u32 0,.int .u8 0,.int .u8 0,.int .u8 0,.int .u8 0,.nilFunc,.pointer none,.int .i32 0,.int .i32 0],11,48⟩:TI)
def TT:List (Nat×TI):= [(1,i1),
 (2,(⟨.int .i64,[.int .i64 0],1,8⟩:TI)),
 (3,(⟨.int .i64,[.int .i64 0],1,8⟩:TI)),
 (4,i4),
 (5,(⟨.int .u8,[.int .u8 0],1,1⟩:TI)),
 (6,(⟨.int .u8,[.int .u8 0],1,1⟩:TI)),
 (7,i7),
 (8,i8),
 (12,(⟨.int .u64,[.int .u64 0],1,8⟩:TI)),
 (15,i15),
 (16,i16),
 (17,i17),
 (18,i18),
 (19,i19),
 (21,(⟨.int .i32,[.int .i32 0],1,4⟩:TI)),
 (22,i22),
 (23,i23),
 (24,i24),
 (25,i25),
 (26,i26),
 (27,(⟨.int .i64,[.int .i64 0],1,8⟩:TI)),
 (29,i29),
 (30,i30),
 (31,i31),
 (32,i32),
 (33,i33),
 (35,i35),
 (36,i36),
 (37,i37),
 (38,i38),
 (39,i39),
 (40,i40),
 (41,i41),
 (42,i42),
 (44,i44),
 (45,i45),
 (46,i46),
 (47,i47),
 (48,i48),
 (49,i49),
 (50,i50),
 (51,i51),
 (52,i52),
 (53,i53),
 (54,i54),
 (55,i55),
 (56,i56),
 (57,i57),
 (58,i58),
 (59,i59),
 (60,i60),
 (61,i61),
 (62,i62),
 (63,i63),
 (64,i64),
 (65,i65),
 (66,i66),
 (67,i67),
 (68,i68),
 (69,i69),
 (70,i70),
 (71,i71),
 (72,i72),
 (73,i73),
 (74,i74),
 (75,i75),
 (76,i76),
 (78,i78),
 (79,i79),
 (80,i80),
 (82,i82),
 (83,(⟨.int .i64,[.int .i64 0],1,8⟩:TI)),
 (84,i84),
 (85,i85),
 (86,i86),
 (87,i87),
 (88,i88),
 (89,i89),
 (90,i90),
 (91,(⟨.int .u64,[.int .u64 0],1,8⟩:TI)),
 (92,i92),
 (93,i93),
 (95,i95),
 (96,i96),
 (97,i97),
 (98,i98),
 (99,i99),
 (100,TK),
 (101,TL),
 (102,TM),
 (103,TN),
 (104,TO),
 (105,TP),
 (106,TQ),
 (107,TR),
 (108,TS),
 (109,TU),
 (110,TV),
 (111,TW),
 (112,TX),
 (113,TY),
 (114,TZ),
 (115,Ua),
 (116,Ub),
 (117,Uc),
 (119,Ud),
 (120,Ue),
 (121,Uf),
 (122,Ug),
 (123,(⟨.int .u64,[.int .u64 0],1,8⟩:TI)),
 (124,Uh),
 (125,Ui),
 (126,Uj),
 (127,Uk),
 (128,Ul),
 (129,Um),
 (130,Un),
 (131,Uo),
 (132,Uq),
 (133,Ur),
 (134,Us),
 (135,Ut),
 (136,Uu),
 (137,Uv),
 (138,Uw),
 (140,Ux),
 (141,Uy),
 (142,Uz),
 (145,UA),
 (146,UB),
 (147,UC),
 (148,UD),
 (149,UE),
 (150,(⟨.int .i64,[.int .i64 0],1,8⟩:TI)),
 (152,UF),
 (153,UG),
 (154,UH),
 (156,UI),
 (157,UJ),
 (158,UK),
 (159,(⟨.int .u64,[.int .u64 0],1,8⟩:TI)),
 (160,UL),
 (161,UM),
 (162,UN),
 (163,UO),
 (164,UP),
 (165,UQ),
 (167,UR),
 (168,US),
 (171,UT),
 (172,UU),
 (173,UV),
 (174,(⟨.int .u8,[.int .u8 0],1,1⟩:TI)),
 (175,(⟨.int .u8,[.int .u8 0],1,1⟩:TI)),
 (176,UW),
 (177,UX),
 (178,(⟨.int .i32,[.int .i32 0],1,4⟩:TI)),
 (179,(⟨.int .i32,[.int .i32 0],1,4⟩:TI)),
 (180,UY),
 (181,UZ)]
theorem tz1:aq Tryz.prog 1=some i1:=by kernel_rfl
theorem tz2:aq Tryz.prog 2=some (⟨.int .i64,[.int .i64 0],1,8⟩:TI):=by kernel_rfl
theorem tz3:aq Tryz.prog 3=some (⟨.int .i64,[.int .i64 0],1,8⟩:TI):=by kernel_rfl
theorem tz4:aq Tryz.prog 4=some i4:=by kernel_rfl
theorem tz5:aq Tryz.prog 5=some (⟨.int .u8,[.int .u8 0],1,1⟩:TI):=by kernel_rfl
theorem tz6:aq Tryz.prog 6=some (⟨.int .u8,[.int .u8 0],1,1⟩:TI):=by kernel_rfl
theorem tz7:aq Tryz.prog 7=some i7:=by kernel_rfl
theorem tz8:aq Tryz.prog 8=some i8:=by kernel_rfl
theorem Vc:aq Tryz.prog 12=some (⟨.int .u64,[.int .u64 0],1,8⟩:TI):=by kernel_rfl
theorem Vd:aq Tryz.prog 15=some i15:=by kernel_rfl
theorem Ve:aq Tryz.prog 16=some i16:=by kernel_rfl
theorem Vf:aq Tryz.prog 17=some i17:=by kernel_rfl
theorem Vg:aq Tryz.prog 18=some i18:=by kernel_rfl
theorem Vh:aq Tryz.prog 19=some i19:=by kernel_rfl
theorem Vi:aq Tryz.prog 21=some (⟨.int .i32,[.int .i32 0],1,4⟩:TI):=by kernel_rfl
theorem Vj:aq Tryz.prog 22=some i22:=by kernel_rfl
theorem Vk:aq Tryz.prog 23=some i23:=by kernel_rfl
theorem Vm:aq Tryz.prog 24=some i24:=by kernel_rfl
theorem Vn:aq Tryz.prog 25=some i25:=by kernel_rfl
theorem Vo:aq Tryz.prog 26=some i26:=by kernel_rfl
theorem Vp:aq Tryz.prog 27=some (⟨.int .i64,[.int .i64 0],1,8⟩:TI):=by kernel_rfl
theorem Vq:aq Tryz.prog 29=some i29:=by kernel_rfl
theorem Vr:aq Tryz.prog 30=some i30:=by kernel_rfl
theorem Vs:aq Tryz.prog 31=some i31:=by kernel_rfl
theorem Vt:aq Tryz.prog 32=some i32:=by kernel_rfl
theorem Vu:aq Tryz.prog 33=some i33:=by kernel_rfl
theorem Vv:aq Tryz.prog 35=some i35:=by kernel_rfl
theorem Vw:aq Tryz.prog 36=some i36:=by kernel_rfl
theorem Vx:aq Tryz.prog 37=some i37:=by kernel_rfl
theorem Vy:aq Tryz.prog 38=some i38:=by kernel_rfl
theorem Vz:aq Tryz.prog 39=some i39:=by kernel_rfl
theorem VA:aq Tryz.prog 40=some i40:=by kernel_rfl
theorem VB:aq Tryz.prog 41=some i41:=by kernel_rfl
theorem VC:aq Tryz.prog 42=some i42:=by kernel_rfl
theorem VD:aq Tryz.prog 44=some i44:=by kernel_rfl
theorem VE:aq Tryz.prog 45=some i45:=by kernel_rfl
theorem VF:aq Tryz.prog 46=some i46:=by kernel_rfl
theorem VG:aq Tryz.prog 47=some i47:=by kernel_rfl
theorem VH:aq Tryz.prog 48=some i48:=by kernel_rfl
theorem VI:aq Tryz.prog 49=some i49:=by kernel_rfl
theorem VJ:aq Tryz.prog 50=some i50:=by kernel_rfl
theorem VK:aq Tryz.prog 51=some i51:=by kernel_rfl
theorem VL:aq Tryz.prog 52=some i52:=by kernel_rfl
theorem VM:aq Tryz.prog 53=some i53:=by kernel_rfl
theorem VN:aq Tryz.prog 54=some i54:=by kernel_rfl
theorem VO:aq Tryz.prog 55=some i55:=by kernel_rfl
theorem VP:aq Tryz.prog 56=some i56:=by kernel_rfl
theorem VQ:aq Tryz.prog 57=some i57:=by kernel_rfl
theorem VR:aq Tryz.prog 58=some i58:=by kernel_rfl
theorem VS:aq Tryz.prog 59=some i59:=by kernel_rfl
theorem VT:aq Tryz.prog 60=some i60:=by kernel_rfl
theorem VU:aq Tryz.prog 61=some i61:=by kernel_rfl
theorem VV:aq Tryz.prog 62=some i62:=by kernel_rfl
theorem VW:aq Tryz.prog 63=some i63:=by kernel_rfl
theorem VX:aq Tryz.prog 64=some i64:=by kernel_rfl
theorem VY:aq Tryz.prog 65=some i65:=by kernel_rfl
theorem VZ:aq Tryz.prog 66=some i66:=by kernel_rfl
theorem Wa:aq Tryz.prog 67=some i67:=by kernel_rfl
theorem Wb:aq Tryz.prog 68=some i68:=by kernel_rfl
theorem Wc:aq Tryz.prog 69=some i69:=by kernel_rfl
theorem Wd:aq Tryz.prog 70=some i70:=by kernel_rfl
theorem We:aq Tryz.prog 71=some i71:=by kernel_rfl
theorem Wf:aq Tryz.prog 72=some i72:=by kernel_rfl
theorem Wg:aq Tryz.prog 73=some i73:=by kernel_rfl
theorem Wh:aq Tryz.prog 74=some i74:=by kernel_rfl
theorem Wi:aq Tryz.prog 75=some i75:=by kernel_rfl
theorem Wj:aq Tryz.prog 76=some i76:=by kernel_rfl
theorem Wk:aq Tryz.prog 78=some i78:=by kernel_rfl
theorem Wl:aq Tryz.prog 79=some i79:=by kernel_rfl
theorem Wm:aq Tryz.prog 80=some i80:=by kernel_rfl
theorem Wn:aq Tryz.prog 82=some i82:=by kernel_rfl
theorem Wo:aq Tryz.prog 83=some (⟨.int .i64,[.int .i64 0],1,8⟩:TI):=by kernel_rfl
theorem Wp:aq Tryz.prog 84=some i84:=by kernel_rfl
theorem Wq:aq Tryz.prog 85=some i85:=by kernel_rfl
theorem Wr:aq Tryz.prog 86=some i86:=by kernel_rfl
theorem Ws:aq Tryz.prog 87=some i87:=by kernel_rfl
theorem Wt:aq Tryz.prog 88=some i88:=by kernel_rfl
theorem Wu:aq Tryz.prog 89=some i89:=by kernel_rfl
theorem Wv:aq Tryz.prog 90=some i90:=by kernel_rfl
theorem Ww:aq Tryz.prog 91=some (⟨.int .u64,[.int .u64 0],1,8⟩:TI):=by kernel_rfl
theorem Wx:aq Tryz.prog 92=some i92:=by kernel_rfl
theorem Wy:aq Tryz.prog 93=some i93:=by kernel_rfl
theorem Wz:aq Tryz.prog 95=some i95:=by kernel_rfl
theorem WA:aq Tryz.prog 96=some i96:=by kernel_rfl
theorem WC:aq Tryz.prog 97=some i97:=by kernel_rfl
theorem WD:aq Tryz.prog 98=some i98:=by kernel_rfl
theorem WE:aq Tryz.prog 99=some i99:=by kernel_rfl
theorem OJ:aq Tryz.prog 100=some TK:=by kernel_rfl
theorem OK:aq Tryz.prog 101=some TL:=by kernel_rfl
theorem OL:aq Tryz.prog 102=some TM:=by kernel_rfl
theorem OM:aq Tryz.prog 103=some TN:=by kernel_rfl
theorem ON:aq Tryz.prog 104=some TO:=by kernel_rfl
theorem OO:aq Tryz.prog 105=some TP:=by kernel_rfl
theorem OP:aq Tryz.prog 106=some TQ:=by kernel_rfl
theorem OQ:aq Tryz.prog 107=some TR:=by kernel_rfl
theorem OR:aq Tryz.prog 108=some TS:=by kernel_rfl
theorem OS:aq Tryz.prog 109=some TU:=by kernel_rfl
theorem OT:aq Tryz.prog 110=some TV:=by kernel_rfl
theorem OU:aq Tryz.prog 111=some TW:=by kernel_rfl
theorem OV:aq Tryz.prog 112=some TX:=by kernel_rfl
theorem OW:aq Tryz.prog 113=some TY:=by kernel_rfl
theorem OX:aq Tryz.prog 114=some TZ:=by kernel_rfl
theorem OY:aq Tryz.prog 115=some Ua:=by kernel_rfl
theorem OZ:aq Tryz.prog 116=some Ub:=by kernel_rfl
theorem Pa:aq Tryz.prog 117=some Uc:=by kernel_rfl
theorem Pb:aq Tryz.prog 119=some Ud:=by kernel_rfl
theorem Pc:aq Tryz.prog 120=some Ue:=by kernel_rfl
theorem Pd:aq Tryz.prog 121=some Uf:=by kernel_rfl
theorem Pe:aq Tryz.prog 122=some Ug:=by kernel_rfl
theorem Pf:aq Tryz.prog 123=some (⟨.int .u64,[.int .u64 0],1,8⟩:TI):=by kernel_rfl
theorem Pg:aq Tryz.prog 124=some Uh:=by kernel_rfl
theorem Ph:aq Tryz.prog 125=some Ui:=by kernel_rfl
theorem Pi:aq Tryz.prog 126=some Uj:=by kernel_rfl
theorem Pj:aq Tryz.prog 127=some Uk:=by kernel_rfl
theorem Pk:aq Tryz.prog 128=some Ul:=by kernel_rfl
theorem Pm:aq Tryz.prog 129=some Um:=by kernel_rfl
theorem Pn:aq Tryz.prog 130=some Un:=by kernel_rfl
theorem Po:aq Tryz.prog 131=some Uo:=by kernel_rfl
theorem Pp:aq Tryz.prog 132=some Uq:=by kernel_rfl
theorem Pq:aq Tryz.prog 133=some Ur:=by kernel_rfl
theorem Pr:aq Tryz.prog 134=some Us:=by kernel_rfl
theorem Ps:aq Tryz.prog 135=some Ut:=by kernel_rfl
theorem Pu:aq Tryz.prog 136=some Uu:=by kernel_rfl
theorem Pv:aq Tryz.prog 137=some Uv:=by kernel_rfl
theorem Pw:aq Tryz.prog 138=some Uw:=by kernel_rfl
theorem Px:aq Tryz.prog 140=some Ux:=by kernel_rfl
theorem Py:aq Tryz.prog 141=some Uy:=by kernel_rfl
theorem Pz:aq Tryz.prog 142=some Uz:=by kernel_rfl
theorem PA:aq Tryz.prog 145=some UA:=by kernel_rfl
theorem PB:aq Tryz.prog 146=some UB:=by kernel_rfl
theorem PE:aq Tryz.prog 147=some UC:=by kernel_rfl
theorem PF:aq Tryz.prog 148=some UD:=by kernel_rfl
theorem PG:aq Tryz.prog 149=some UE:=by kernel_rfl
theorem PH:aq Tryz.prog 150=some (⟨.int .i64,[.int .i64 0],1,8⟩:TI):=by kernel_rfl
theorem PI:aq Tryz.prog 152=some UF:=by kernel_rfl
theorem PJ:aq Tryz.prog 153=some UG:=by kernel_rfl
theorem PK:aq Tryz.prog 154=some UH:=by kernel_rfl
theorem PL:aq Tryz.prog 156=some UI:=by kernel_rfl
theorem PM:aq Tryz.prog 157=some UJ:=by kernel_rfl
theorem PO:aq Tryz.prog 158=some UK:=by kernel_rfl
theorem PP:aq Tryz.prog 159=some (⟨.int .u64,[.int .u64 0],1,8⟩:TI):=by kernel_rfl
theorem PQ:aq Tryz.prog 160=some UL:=by kernel_rfl
theorem PU:aq Tryz.prog 161=some UM:=by kernel_rfl
theorem PV:aq Tryz.prog 162=some UN:=by kernel_rfl
theorem PX:aq Tryz.prog 163=some UO:=by kernel_rfl
theorem PY:aq Tryz.prog 164=some UP:=by kernel_rfl
theorem PZ:aq Tryz.prog 165=some UQ:=by kernel_rfl
theorem Qa:aq Tryz.prog 167=some UR:=by kernel_rfl
theorem Qb:aq Tryz.prog 168=some US:=by kernel_rfl
theorem Qc:aq Tryz.prog 171=some UT:=by kernel_rfl
theorem Qd:aq Tryz.prog 172=some UU:=by kernel_rfl
theorem Qe:aq Tryz.prog 173=some UV:=by kernel_rfl
theorem Qf:aq Tryz.prog 174=some (⟨.int .u8,[.int .u8 0],1,1⟩:TI):=by kernel_rfl
theorem Qg:aq Tryz.prog 175=some (⟨.int .u8,[.int .u8 0],1,1⟩:TI):=by kernel_rfl
theorem Qh:aq Tryz.prog 176=some UW:=by kernel_rfl
theorem Qi:aq Tryz.prog 177=some UX:=by kernel_rfl
theorem Qj:aq Tryz.prog 178=some (⟨.int .i32,[.int .i32 0],1,4⟩:TI):=by kernel_rfl
theorem Qk:aq Tryz.prog 179=some (⟨.int .i32,[.int .i32 0],1,4⟩:TI):=by kernel_rfl
theorem Ql:aq Tryz.prog 180=some UY:=by kernel_rfl
theorem Qm:aq Tryz.prog 181=some UZ:=by kernel_rfl
theorem FS:Tryz.prog.follows .mixedOrders=true:=by kernel_rfl
theorem FT:GC Tryz.prog=true:=by kernel_rfl
def av:List TD->Option (Kind×List TD):=λ_=>none
theorem Hk(x y:Operand)(a0 b0 a1 b1:Int):ao Tryz.prog (do eqGuard .eql 33 x y (.agg #[.int .i64 a0,.int .i64 a1]) (.agg #[.int .i64 b0,.int .i64 b1]);binOp .eql 33 (.agg #[.int .i64 a0,.int .i64 a1]) (.agg #[.int .i64 b0,.int .i64 b1]))=some (.bool ((a0==b0 &&(a1==b1 && true)))):=by
 refine qw (by kernel_rfl) ((ep 9999 33 #[.int .i64 a0,.int .i64 a1] #[.int .i64 b0,.int .i64 b1] (fs:=cA Tryz.prog 32) (by kernel_rfl) (by kernel_rfl)).trans ?_);rw [show(cA Tryz.prog 32).toList= [fld Tryz.prog 32 0,fld Tryz.prog 32 1]by kernel_rfl];exact((bh (k:= .i64) (k':= .i64) (by kernel_rfl) (by kernel_rfl) (by kernel_rfl) (by kernel_rfl)).trans (dp ((bh (k:= .i64) (k':= .i64) (by kernel_rfl) (by kernel_rfl) (by kernel_rfl) (by kernel_rfl)).trans (dp du))))
theorem Hl(x y:Operand)(a0 b0 a1 b1:Int):ao Tryz.prog (do eqGuard .neq 33 x y (.agg #[.int .i64 a0,.int .i64 a1]) (.agg #[.int .i64 b0,.int .i64 b1]);binOp .neq 33 (.agg #[.int .i64 a0,.int .i64 a1]) (.agg #[.int .i64 b0,.int .i64 b1]))=some (.bool (!(a0==b0 &&(a1==b1 && true)))):=by
 refine qx (by kernel_rfl) ((ep 9999 33 #[.int .i64 a0,.int .i64 a1] #[.int .i64 b0,.int .i64 b1] (fs:=cA Tryz.prog 32) (by kernel_rfl) (by kernel_rfl)).trans ?_);rw [show(cA Tryz.prog 32).toList= [fld Tryz.prog 32 0,fld Tryz.prog 32 1]by kernel_rfl];exact((bh (k:= .i64) (k':= .i64) (by kernel_rfl) (by kernel_rfl) (by kernel_rfl) (by kernel_rfl)).trans (dp ((bh (k:= .i64) (k':= .i64) (by kernel_rfl) (by kernel_rfl) (by kernel_rfl) (by kernel_rfl)).trans (dp du))))
theorem Hm(x y:Operand)(a0 b0 a1 b1 a2 b2:Int):ao Tryz.prog (do eqGuard .eql 52 x y (.agg #[.int .i64 a0,.int .i64 a1,.int .i64 a2]) (.agg #[.int .i64 b0,.int .i64 b1,.int .i64 b2]);binOp .eql 52 (.agg #[.int .i64 a0,.int .i64 a1,.int .i64 a2]) (.agg #[.int .i64 b0,.int .i64 b1,.int .i64 b2]))=some (.bool ((a0==b0 &&(a1==b1 &&(a2==b2 && true))))):=by
 refine qw (by kernel_rfl) ((ep 9999 52 #[.int .i64 a0,.int .i64 a1,.int .i64 a2] #[.int .i64 b0,.int .i64 b1,.int .i64 b2] (fs:=cA Tryz.prog 51) (by kernel_rfl) (by kernel_rfl)).trans ?_);rw [show(cA Tryz.prog 51).toList= [fld Tryz.prog 51 0,fld Tryz.prog 51 1,fld Tryz.prog 51 2]by kernel_rfl];exact((bh (k:= .i64) (k':= .i64) (by kernel_rfl) (by kernel_rfl) (by kernel_rfl) (by kernel_rfl)).trans (dp ((bh (k:= .i64) (k':= .i64) (by kernel_rfl) (by kernel_rfl) (by kernel_rfl) (by kernel_rfl)).trans (dp ((bh (k:= .i64) (k':= .i64) (by kernel_rfl) (by kernel_rfl) (by kernel_rfl) (by kernel_rfl)).trans (dp du))))))
theorem Hn(x y:Operand)(a0 b0 a1 b1 a2 b2:Int):ao Tryz.prog (do eqGuard .neq 52 x y (.agg #[.int .i64 a0,.int .i64 a1,.int .i64 a2]) (.agg #[.int .i64 b0,.int .i64 b1,.int .i64 b2]);binOp .neq 52 (.agg #[.int .i64 a0,.int .i64 a1,.int .i64 a2]) (.agg #[.int .i64 b0,.int .i64 b1,.int .i64 b2]))=some (.bool (!(a0==b0 &&(a1==b1 &&(a2==b2 && true))))):=by
 refine qx (by kernel_rfl) ((ep 9999 52 #[.int .i64 a0,.int .i64 a1,.int .i64 a2] #[.int .i64 b0,.int .i64 b1,.int .i64 b2] (fs:=cA Tryz.prog 51) (by kernel_rfl) (by kernel_rfl)).trans ?_);rw [show(cA Tryz.prog 51).toList= [fld Tryz.prog 51 0,fld Tryz.prog 51 1,fld Tryz.prog 51 2]by kernel_rfl];exact((bh (k:= .i64) (k':= .i64) (by kernel_rfl) (by kernel_rfl) (by kernel_rfl) (by kernel_rfl)).trans (dp ((bh (k:= .i64) (k':= .i64) (by kernel_rfl) (by kernel_rfl) (by kernel_rfl) (by kernel_rfl)).trans (dp ((bh (k:= .i64) (k':= .i64) (by kernel_rfl) (by kernel_rfl) (by kernel_rfl) (by kernel_rfl)).trans (dp du))))))
theorem Ho(x y:Operand)(a0 b0 a1 b1 a2 b2:Int):ao Tryz.prog (do eqGuard .eql 54 x y (.agg #[.int .i64 a0,.int .i64 a1,.int .i64 a2]) (.agg #[.int .i64 b0,.int .i64 b1,.int .i64 b2]);binOp .eql 54 (.agg #[.int .i64 a0,.int .i64 a1,.int .i64 a2]) (.agg #[.int .i64 b0,.int .i64 b1,.int .i64 b2]))=some (.bool ((a0==b0 &&(a1==b1 &&(a2==b2 && true))))):=by
 refine qw (by kernel_rfl) ((ep 9999 54 #[.int .i64 a0,.int .i64 a1,.int .i64 a2] #[.int .i64 b0,.int .i64 b1,.int .i64 b2] (fs:=cA Tryz.prog 53) (by kernel_rfl) (by kernel_rfl)).trans ?_);rw [show(cA Tryz.prog 53).toList= [fld Tryz.prog 53 0,fld Tryz.prog 53 1,fld Tryz.prog 53 2]by kernel_rfl];exact((bh (k:= .i64) (k':= .i64) (by kernel_rfl) (by kernel_rfl) (by kernel_rfl) (by kernel_rfl)).trans (dp ((bh (k:= .i64) (k':= .i64) (by kernel_rfl) (by kernel_rfl) (by kernel_rfl) (by kernel_rfl)).trans (dp ((bh (k:= .i64) (k':= .i64) (by kernel_rfl) (by kernel_rfl) (by kernel_rfl) (by kernel_rfl)).trans (dp du))))))
theorem Hp(x y:Operand)(a0 b0 a1 b1 a2 b2:Int):ao Tryz.prog (do eqGuard .neq 54 x y (.agg #[.int .i64 a0,.int .i64 a1,.int .i64 a2]) (.agg #[.int .i64 b0,.int .i64 b1,.int .i64 b2]);binOp .neq 54 (.agg #[.int .i64 a0,.int .i64 a1,.int .i64 a2]) (.agg #[.int .i64 b0,.int .i64 b1,.int .i64 b2]))=some (.bool (!(a0==b0 &&(a1==b1 &&(a2==b2 && true))))):=by
 refine qx (by kernel_rfl) ((ep 9999 54 #[.int .i64 a0,.int .i64 a1,.int .i64 a2] #[.int .i64 b0,.int .i64 b1,.int .i64 b2] (fs:=cA Tryz.prog 53) (by kernel_rfl) (by kernel_rfl)).trans ?_);rw [show(cA Tryz.prog 53).toList= [fld Tryz.prog 53 0,fld Tryz.prog 53 1,fld Tryz.prog 53 2]by kernel_rfl];exact((bh (k:= .i64) (k':= .i64) (by kernel_rfl) (by kernel_rfl) (by kernel_rfl) (by kernel_rfl)).trans (dp ((bh (k:= .i64) (k':= .i64) (by kernel_rfl) (by kernel_rfl) (by kernel_rfl) (by kernel_rfl)).trans (dp ((bh (k:= .i64) (k':= .i64) (by kernel_rfl) (by kernel_rfl) (by kernel_rfl) (by kernel_rfl)).trans (dp du))))))
theorem DX(x y:Operand)(a0 b0 a1 b1:Int):ao Tryz.prog (do eqGuard .eql 115 x y (.agg #[.int .i64 a0,.int .u64 a1]) (.agg #[.int .i64 b0,.int .u64 b1]);binOp .eql 115 (.agg #[.int .i64 a0,.int .u64 a1]) (.agg #[.int .i64 b0,.int .u64 b1]))=some (.bool ((a0==b0 &&(a1==b1 && true)))):=by
 refine qw (by kernel_rfl) ((ep 9999 115 #[.int .i64 a0,.int .u64 a1] #[.int .i64 b0,.int .u64 b1] (fs:=cA Tryz.prog 114) (by kernel_rfl) (by kernel_rfl)).trans ?_);rw [show(cA Tryz.prog 114).toList= [fld Tryz.prog 114 0,fld Tryz.prog 114 1]by kernel_rfl];exact((bh (k:= .i64) (k':= .i64) (by kernel_rfl) (by kernel_rfl) (by kernel_rfl) (by kernel_rfl)).trans (dp ((bh (k:= .u64) (k':= .u64) (by kernel_rfl) (by kernel_rfl) (by kernel_rfl) (by kernel_rfl)).trans (dp du))))
theorem DY(x y:Operand)(a0 b0 a1 b1:Int):ao Tryz.prog (do eqGuard .neq 115 x y (.agg #[.int .i64 a0,.int .u64 a1]) (.agg #[.int .i64 b0,.int .u64 b1]);binOp .neq 115 (.agg #[.int .i64 a0,.int .u64 a1]) (.agg #[.int .i64 b0,.int .u64 b1]))=some (.bool (!(a0==b0 &&(a1==b1 && true)))):=by
 refine qx (by kernel_rfl) ((ep 9999 115 #[.int .i64 a0,.int .u64 a1] #[.int .i64 b0,.int .u64 b1] (fs:=cA Tryz.prog 114) (by kernel_rfl) (by kernel_rfl)).trans ?_);rw [show(cA Tryz.prog 114).toList= [fld Tryz.prog 114 0,fld Tryz.prog 114 1]by kernel_rfl];exact((bh (k:= .i64) (k':= .i64) (by kernel_rfl) (by kernel_rfl) (by kernel_rfl) (by kernel_rfl)).trans (dp ((bh (k:= .u64) (k':= .u64) (by kernel_rfl) (by kernel_rfl) (by kernel_rfl) (by kernel_rfl)).trans (dp du))))
def EQS:List (Nat×List IntKind):= [(33,[.i64,.i64]),(52,[.i64,.i64,.i64]),(54,[.i64,.i64,.i64]),(115,[.i64,.u64])]
def fi4:FI:=fiF Tryz.f4
def fi9:FI:=fiF Tryz.f9
def WF:FI:=fiF Tryz.f10
def WG:FI:=fiF Tryz.f11
def WH:FI:=fiF Tryz.f14
def WI:FI:=fiF Tryz.f15
def WJ:FI:=fiF Tryz.f16
def WK:FI:=fiF Tryz.f17
def WL:FI:=fiF Tryz.f18
def WM:FI:=fiF Tryz.f24
def WN:FI:=fiF Tryz.f25
def Sk:FI:=fiF Tryz.f26
def WO:FI:=fiF Tryz.f27
def WP:FI:=fiF Tryz.f28
def WQ:FI:=fiF Tryz.f29
def WR:FI:=fiF Tryz.f30
def WS:FI:=fiF Tryz.f41
def Sn:FI:=fiF Tryz.f43
def WT:FI:=fiF Tryz.f51
def WU:FI:=fiF Tryz.f52
def WW:FI:=fiF Tryz.f53
def WX:FI:=fiF Tryz.f54
def WY:FI:=fiF Tryz.f55
def So:FI:=fiF Tryz.f56
def WZ:FI:=fiF Tryz.f57
def Xa:FI:=fiF Tryz.f58
def Xc:FI:=fiF Tryz.f59
def Xd:FI:=fiF Tryz.f81
def Xe:FI:=fiF Tryz.f82
def Xf:FI:=fiF Tryz.f83
def Xg:FI:=fiF Tryz.f84
def Xh:FI:=fiF Tryz.f85
def Sp:FI:=fiF Tryz.f86
def Sq:FI:=fiF Tryz.f87
def Xi:FI:=fiF Tryz.f88
def Xj:FI:=fiF Tryz.f99
def Qn:FI:=fiF Tryz.f100
def Qo:FI:=fiF Tryz.f101
def MH:FI:=fiF Tryz.f102
def Qp:FI:=fiF Tryz.f108
def Qq:FI:=fiF Tryz.f110
def Qr:FI:=fiF Tryz.f111
def Qs:FI:=fiF Tryz.f112
def Qt:FI:=fiF Tryz.f117
def Qu:FI:=fiF Tryz.f118
def Qv:FI:=fiF Tryz.f119
def Qw:FI:=fiF Tryz.f120
def Qx:FI:=fiF Tryz.f123
abbrev yD3:TyD:=(true,.C (.I .i64) (.I .u64))
abbrev yD2:TyD:=(true,.C (.I .i64) (.C (.I .i64) (.I .i64)))
abbrev yD1:TyD:=(false,.S (.C (.I .i64) (.C (.I .i64) (.I .i64))))
abbrev yD0:TyD:=(true,.C (.I .i64) (.S (.C (.I .i64) (.C (.I .i64) (.I .i64)))))
end K
end Ev
end
noncomputable section
namespace Ev
namespace K
open Go Go.RowKit
set_option maxRecDepth 100000
set_option maxHeartbeats 1000000
def Je:cj:= []
def zX:KG:=⟨TT,EQS,[],[]⟩
def jM:aO [(false,.I .i64)]->Option (OutK.val (.data true [yD3])):=cB zX Je Qr 111 0 [(false,.I .i64)] (.data true [yD3])
def so:aR:=⟨111,[(false,.I .i64)],.data true [yD3],jM,1⟩
def xe:cj:= []
def mC:KG:=⟨TT,EQS,[],[]⟩
def eF:aO [yD3,yD3]->Option (OutK.val (.data true [(false,.I .i64)])):=cB mC xe Qx 123 0 [yD3,yD3] (.data true [(false,.I .i64)])
def mD:aR:=⟨123,[yD3,yD3],.data true [(false,.I .i64)],eF,1⟩
def yn:cj:= []
def nU:KG:=⟨TT,EQS,[mD],[]⟩
def fu:aO [yD3,yD3]->Option (OutK.val (.data true [yD3])):=cB nU yn Qt 117 0 [yD3,yD3] (.data true [yD3])
def nV:aR:=⟨117,[yD3,yD3],.data true [yD3],fu,2⟩
def BG:cj:= []
def qO:KG:=⟨TT,EQS,[so],[]⟩
def fp:aO [(false,.B)]->Option (OutK.val (.data true [yD3])):=cB qO BG Qu 118 0 [(false,.B)] (.data true [yD3])
def qP:aR:=⟨118,[(false,.B)],.data true [yD3],fp,2⟩
def FU:cj:= []
def xf:KG:=⟨TT,EQS,[],[]⟩
def jt:aO [yD3,yD3]->Option (OutK.val (.data true [yD3])):=cB xf FU Qv 119 0 [yD3,yD3] (.data true [yD3])
def xg:aR:=⟨119,[yD3,yD3],.data true [yD3],jt,1⟩
def FV:cj:= [(110,⟨[⟨true,2,9,[4,5,6,7],⟨[],[],[]⟩,[(.normal,⟨[(8,false,[.d true .B])],[],[]⟩)]⟩],[]⟩)]
def xh:KG:=⟨TT,EQS,[nV,qP,xg],[]⟩
def ly:aO [(false,.I .i64),yD3,yD3]->Option (OutK.val (.data true [yD3])):=cB xh FV Qq 110 0 [(false,.I .i64),yD3,yD3] (.data true [yD3])
def FW:aR:=⟨110,[(false,.I .i64),yD3,yD3],.data true [yD3],ly,3⟩
def yo:cj:= []
def nX:KG:=⟨TT,EQS,[so],[]⟩
def gA:aO [yD3]->Option (OutK.val (.data true [(false,.I .i64),(false,.B)])):=cB nX yo Qw 120 0 [yD3] (.data true [(false,.I .i64),(false,.B)])
def nZ:aR:=⟨120,[yD3],.data true [(false,.I .i64),(false,.B)],gA,2⟩
def yp:cj:= []
def ob:KG:=⟨TT,EQS,[nZ],[]⟩
def gC:aO [(false,.I .i64),yD3]->Option (OutK.val (.data true [(false,.I .i64),(false,.B)])):=cB ob yp Qs 112 0 [(false,.I .i64),yD3] (.data true [(false,.I .i64),(false,.B)])
def yq:aR:=⟨112,[(false,.I .i64),yD3],.data true [(false,.I .i64),(false,.B)],gC,3⟩
def Jf:cj:= []
def zY:KG:=⟨TT,EQS,[],[]⟩
def pJ:aO [(false,.I .i64)]->Option (OutK.val (.data true [(false,.B)])):=cB zY Jf Qp 108 0 [(false,.I .i64)] (.data true [(false,.B)])
def Jg:aR:=⟨108,[(false,.I .i64)],.data true [(false,.B)],pJ,1⟩
def BI:cj:= [(86,⟨[⟨false,3,0,[3,6,7],⟨[(8,false,[.d true (.I .i64)])],[],[]⟩,[(.exit 0,⟨[],[],[]⟩),(.ret,⟨[(2,false,[.d true (.I .i64)])],[],[]⟩)]⟩],[]⟩)]
def kr:KG:=⟨TT,EQS,[],[]⟩
def gc:aO [(false,.S (.I .i64))]->Option (OutK.val (.data true [(false,.I .i64)])):=cB kr BI Sp 86 0 [(false,.S (.I .i64))] (.data true [(false,.I .i64)])
def kt:aR:=⟨86,[(false,.S (.I .i64))],.data true [(false,.I .i64)],gc,1⟩
def ub:cj:= []
def gS:KG:=⟨TT,EQS,[],[]⟩
def dL:aO [(false,.I .i64)]->Option (OutK.val (.data true [(false,.B)])):=cB gS ub MH 102 0 [(false,.I .i64)] (.data true [(false,.B)])
def gT:aR:=⟨102,[(false,.I .i64)],.data true [(false,.B)],dL,1⟩
def qQ:cj:= []
def ga:KG:=⟨TT,EQS,[gT],[]⟩
def ci:aO [(false,.I .i64),(false,.I .i64)]->Option (OutK.val (.data true [(false,.I .i64)])):=cB ga qQ Sq 87 0 [(false,.I .i64),(false,.I .i64)] (.data true [(false,.I .i64)])
def gb:aR:=⟨87,[(false,.I .i64),(false,.I .i64)],.data true [(false,.I .i64)],ci,2⟩
def xi:cj:= [(56,⟨[],[(1,⟨[[],[],[],[],[],[],[],[],[],[],[],[],[]],[(false,[]),(false,[]),(false,[]),(false,[]),(false,[]),(false,[]),(false,[]),(false,[]),(false,[]),(false,[]),(true,[]),(false,[]),(false,[])]⟩)]⟩)]
def iM:KG:=⟨TT,EQS,[kt,gb],[]⟩
def eG:aO [yD2,yD2]->Option (OutK.val (.data true [(false,.I .i64)])):=cB iM xi So 56 0 [yD2,yD2] (.data true [(false,.I .i64)])
def iN:aR:=⟨56,[yD2,yD2],.data true [(false,.I .i64)],eG,3⟩
def yr:cj:= [(26,⟨[⟨false,2,0,[0],⟨[(3,false,[.d true (.I .i64)])],[],[]⟩,[(.exit 0,⟨[],[],[]⟩),(.ret,⟨[(2,false,[.d true .B])],[],[]⟩)]⟩],[]⟩)]
def jo:KG:=⟨TT,EQS,[iN],[]⟩
def dq:aO [yD1]->Option (OutK.val (.data true [(false,.B)])):=cB jo yr Sk 26 0 [yD1] (.data true [(false,.B)])
def jp:aR:=⟨26,[yD1],.data true [(false,.B)],dq,4⟩
def yu:cj:= []
def jq:KG:=⟨TT,EQS,[],[]⟩
def cO:aO [yD2,yD2]->Option (OutK.val (.data true [(false,.B)])):=cB jq yu Sn 43 0 [yD2,yD2] (.data true [(false,.B)])
def gy:aR:=⟨43,[yD2,yD2],.data true [(false,.B)],cO,1⟩
def FX:cj:= []
def xj:KG:=⟨TT,EQS,[],[]⟩
def ju:aO [(false,.I .i64)]->Option (OutK.val (.data true [(false,.B)])):=cB xj FX Xd 81 0 [(false,.I .i64)] (.data true [(false,.B)])
def xk:aR:=⟨81,[(false,.I .i64)],.data true [(false,.B)],ju,1⟩
def FY:cj:= []
def xl:KG:=⟨TT,EQS,[],[]⟩
def jv:aO [(false,.I .i64)]->Option (OutK.val (.data true [yD3])):=cB xl FY Xe 82 0 [(false,.I .i64)] (.data true [yD3])
def xm:aR:=⟨82,[(false,.I .i64)],.data true [yD3],jv,1⟩
def uc:cj:= []
def kQ:KG:=⟨TT,EQS,[],[]⟩
def cS:aO [yD3,yD3]->Option (OutK.val (.data true [(false,.I .i64)])):=cB kQ uc Xj 99 0 [yD3,yD3] (.data true [(false,.I .i64)])
def kS:aR:=⟨99,[yD3,yD3],.data true [(false,.I .i64)],cS,1⟩
def yv:cj:= []
def oc:KG:=⟨TT,EQS,[],[]⟩
def ec:aO [(false,.B)]->Option (OutK.val (.data true [yD3])):=cB oc yv Qn 100 0 [(false,.B)] (.data true [yD3])
def od:aR:=⟨100,[(false,.B)],.data true [yD3],ec,1⟩
def DZ:cj:= [(101,⟨[⟨true,3,5,[2,4,5],⟨[(6,false,[.d true (.I .i64)])],[],[]⟩,[(.normal,⟨[(6,false,[.d true (.I .i64)])],[],[]⟩)]⟩],[]⟩)]
def sU:KG:=⟨TT,EQS,[],[]⟩
def ie:aO [yD3,yD3]->Option (OutK.val (.data true [yD3])):=cB sU DZ Qo 101 0 [yD3,yD3] (.data true [yD3])
def sV:aR:=⟨101,[yD3,yD3],.data true [yD3],ie,1⟩
def Ea:cj:= [(83,⟨[⟨true,3,9,[4,5,6,7],⟨[],[],[]⟩,[(.normal,⟨[(9,false,[.d true .B])],[],[]⟩)]⟩],[]⟩)]
def sW:KG:=⟨TT,EQS,[kS,od,sV],[]⟩
def ig:aO [(false,.I .i64),yD3,yD3]->Option (OutK.val (.data true [yD3])):=cB sW Ea Xf 83 0 [(false,.I .i64),yD3,yD3] (.data true [yD3])
def sY:aR:=⟨83,[(false,.I .i64),yD3,yD3],.data true [yD3],ig,2⟩
def xn:cj:= []
def mE:KG:=⟨TT,EQS,[],[]⟩
def dw:aO [yD3]->Option (OutK.val (.data true [(false,.I .i64),(false,.B)])):=cB mE xn Xg 84 0 [yD3] (.data true [(false,.I .i64),(false,.B)])
def mF:aR:=⟨84,[yD3],.data true [(false,.I .i64),(false,.B)],dw,1⟩
def ud:cj:= [(51,⟨[⟨false,6,0,[0,1],⟨[(6,false,[.m (.C (.I .i64) (.C (.I .i64) (.I .i64)))]),(7,false,[.m (.C (.I .i64) (.I .u64))]),(8,false,[.d true (.I .i64)])],[],[]⟩,[(.exit 0,⟨[(6,false,[.m (.C (.I .i64) (.C (.I .i64) (.I .i64)))]),(7,false,[.m (.C (.I .i64) (.I .u64))])],[],[]⟩)]⟩,⟨false,9,0,[0,1,6,7,8],⟨[(9,false,[.d true (.I .i64)])],[],[]⟩,[(.exit 2,⟨[(9,false,[.d true (.I .i64)])],[],[]⟩)]⟩,⟨false,17,0,[0,1,6,7,8,9,10],⟨[(11,false,[.d true (.I .i64)])],[],[(.sl 6 0,.C (.I .i64) (.C (.I .i64) (.I .i64))),(.sl 7 0,.C (.I .i64) (.I .u64))]⟩,[(.exit 4,⟨[],[],[(.sl 6 0,.C (.I .i64) (.C (.I .i64) (.I .i64))),(.sl 7 0,.C (.I .i64) (.I .u64))]⟩)]⟩,⟨false,24,0,[7],⟨[(6,false,[.m (.C (.I .i64) (.C (.I .i64) (.I .i64)))]),(12,false,[.d true (.I .i64)])],[],[]⟩,[(.exit 6,⟨[(6,false,[.m (.C (.I .i64) (.C (.I .i64) (.I .i64)))])],[],[]⟩),(.ret,⟨[(4,false,[.m (.C (.I .i64) (.C (.I .i64) (.I .i64)))]),(5,false,[.d true (.I .i64)])],[],[]⟩)]⟩],[(13,⟨[[],[],[],[],[],[],[],[],[],[],[.sl 7 0]],[(false,[]),(false,[]),(false,[]),(false,[]),(false,[]),(false,[]),(false,[]),(false,[]),(false,[]),(false,[]),(false,[])]⟩),(21,⟨[[],[],[],[],[],[],[],[],[],[],[],[],[],[],[.sl 6 0]],[(false,[]),(false,[]),(false,[]),(false,[]),(false,[]),(false,[]),(false,[]),(false,[]),(false,[]),(false,[]),(false,[]),(false,[]),(false,[]),(false,[]),(false,[])]⟩)]⟩)]
def kZ:KG:=⟨TT,EQS,[gy,xk,xm,sY,mF],[]⟩
def dO:aO [(false,.I .i64),yD1]->Option (OutK.val (.data true [yD1,(false,.I .i64)])):=cB kZ ud WT 51 0 [(false,.I .i64),yD1] (.data true [yD1,(false,.I .i64)])
def la:aR:=⟨51,[(false,.I .i64),yD1],.data true [yD1,(false,.I .i64)],dO,3⟩
def yw:cj:= []
def oe:KG:=⟨TT,EQS,[la],[]⟩
def dr:aO [yD0]->Option (OutK.val (.data true [yD0])):=cB oe yw WM 24 0 [yD0] (.data true [yD0])
def yx:aR:=⟨24,[yD0],.data true [yD0],dr,4⟩
end K
end Ev
end
noncomputable section
namespace Ev
namespace K
open Go Go.RowKit
def xo{α:Type}(f:List T->Option α):List (List T)->Option (List α)
 | []=>some []
 |a::r=>(f a).bind λx=>(xo f r).map (x::·)
theorem zZ{α:Type}{f:List T->Option α}{g:α->List T}(h:∀x,f (g x)=some x):∀l:List α,xo f (l.map g)=some l
 | []=>rfl
 |x::l=>by simp only [List.map_cons,xo,h,zbS,zZ h l,Option.map_some]
theorem xp{α:Type}{f:List T->Option α}{g:α->List T}(h:∀a x,f a=some x->a=g x):∀{l:List (List T)} {r:List α},xo f l=some r->l=r.map g
 | [],r,hr=>by simp [xo]at hr;subst hr;rfl
 |a::l,r,hr=>by
  simp only [xo,zbE,Option.map_eq_some_iff]at hr;obtain⟨x,hx,r',hr',rfl⟩:=hr;rw [List.map_cons,<-h a x hx,<-xp h hr']
def ku:(e:Ty)->List T->Option e.val
 | .I k,l=>match l with
  | [.v (.int k' n)]=>if k'=k then some n else none
  |_=>none
 | .B,l=>match l with
  | [.v (.bool b)]=>some b
  |_=>none
 | .S e,l=>match l with
  | [.s nn sz rows]=>(xo (ku e) rows).map λr=>⟨nn,sz,r⟩
  |_=>none
 | .U,l=>match l with
  | []=>some ()
  |_=>none
 | .C a b,l=>(ku a (l.take a.size)).bind λx=>(ku b (l.drop a.size)).bind λy=>some (x,y)
theorem qR:∀(e:Ty) (x:e.val),ku e (e.row x)=some x
 | .I k,x=>by simp [ku,Ty.row,iT]
 | .B,x=>by simp [ku,Ty.row,bT]
 | .S e,x=>by
  simp only [ku,Ty.row,Sl.t];rw [zZ (qR e)];rfl
 | .U,x=>rfl
 | .C a b,x=>by
  show((ku a ((a.row x.1++b.row x.2).take a.size)).bind λx1=>(ku b ((a.row x.1++b.row x.2).drop a.size)).bind λy=>some (x1,y))=some x;have e1:(a.row x.1++b.row x.2).take a.size=a.row x.1:=by rw [List.take_append_of_le_length (by rw [jY];exact Nat.le_refl _),List.take_of_length_le (by rw [jY];exact Nat.le_refl _)]
  have e2:(a.row x.1++b.row x.2).drop a.size=b.row x.2:=by rw [<-jY a x.1,List.drop_left]
  rw [e1,qR a,zbS,e2,qR b];rfl
theorem io:∀(e:Ty) (l:List T) (x:e.val),ku e l=some x->l=e.row x
 | .I k,l,x,h=>by
  simp only [ku]at h;split at h
  .split at h
   .rename_i hk;cases h;subst hk;rfl
   .simp at h
  .simp at h
 | .B,l,x,h=>by
  simp only [ku]at h;split at h
  .cases h;rfl
  .simp at h
 | .S e,l,x,h=>by
  simp only [ku]at h;split at h
  .rw [Option.map_eq_some_iff]at h;obtain⟨r,hr,rfl⟩:=h;rw [xp (io e) hr];rfl
  .simp at h
 | .U,l,x,h=>by
  simp only [ku]at h;split at h
  .rfl
  .simp at h
 | .C a b,l,x,h=>by
  simp only [ku,zbE]at h;obtain⟨x1,h1,x2,h2,h3⟩:=h;cases h3;show l=a.row x1++b.row x2;rw [<-io a _ _ h1,<-io b _ _ h2,List.take_append_drop]
def xq(t:TyD)(d:TD):Option t.2.val:=
 match t,d with
 |(true,e),.agg l=>ku e l
 |(false,e),.one y=>ku e [y]
 |(false,e),.agg l=>if l.length=1 then none else ku e l
 |_,_=>none
def Qy:List T->TD
 | [y]=> .one y
 |ys=> .agg ys
theorem xt(e:Ty)(x:e.val):jW (false,e) x=Qy (e.row x):=by
 unfold jW Qy;rfl
theorem Eb(t:TyD)(x:t.2.val):xq t (jW t x)=some x:=by
 obtain⟨b,e⟩:=t;have h:=qR e x
 cases b with
 |true=>exact h
 |false=>
  change e.val at x;rw [show jW (false,e) x=_ from xt e x];generalize e.row x=l at h
  match l,h with
  | [],h=>exact h
  | [y],h=>exact h
  |a::b::r,h=>
   show(if(a::b::r).length=1 then none else ku e (a::b::r))=some x;rw [if_neg (by simp)];exact h
theorem xu(t:TyD)(d:TD)(x:t.2.val)(h:xq t d=some x):d=jW t x:=by
 obtain⟨b,e⟩:=t
 cases b with
 |true=>
  cases d with
  |one y=>simp [xq]at h
  |agg l=>exact congrArg TD.agg (io e l x h)
 |false=>
  change e.val at x
  cases d with
  |one y=>rw [show jW (false,e) x=_ from xt e x,<-io e [y] x h];rfl
  |agg l=>
   simp only [xq]at h;split at h
   .simp at h
   .rename_i hl
    have:=io e l x h
    rw [show jW (false,e) x=_ from xt e x,<-this]
    match l,hl with
    | [],_=>rfl
    | [y],hl=>simp at hl
    |a::b::r,_=>rfl
def px:(ts:List TyD)->List TD->Option (aO ts)
 | [],l=>match l with
  | []=>some ()
  |_=>none
 | [t],l=>match l with
  | [d]=>xq t d
  |_=>none
 |t::t'::r,l=>match l with
  |d::ds=>(xq t d).bind λx=>(px (t'::r) ds).bind λy=>some (x,y)
  | []=>none
theorem Aa:∀(ts:List TyD) (x:aO ts),px ts (bZ ts x)=some x
 | [],_=>rfl
 | [t],x=>Eb t x
 |t::t'::r,x=>by
  show(xq t (jW t x.1)).bind _=_;rw [Eb t x.1,zbS,Aa (t'::r) x.2];rfl
theorem sZ:∀(ts:List TyD) (l:List TD) (x:aO ts),px ts l=some x->l=bZ ts x
 | [],l,x,h=>by
  simp only [px]at h;split at h
  .rfl
  .simp at h
 | [t],l,x,h=>by
  simp only [px]at h;split at h
  .exact congrArg (·:: []) (xu t _ x h)
  .simp at h
 |t::t'::r,l,x,h=>by
  simp only [px]at h;split at h
  .simp only [zbE]at h;obtain⟨y,h1,z,h2,h3⟩:=h;cases h3;show _=jW t y::bZ (t'::r) z;rw [<-xu t _ y h1,<-sZ (t'::r) _ z h2]
  .simp at h
def og(ins:List TyD)(kind:Kind)(ts:List TyD)(g:aO ins->Option (aO ts))(vs:List TD):Option (Kind×List TD):=(px ins vs).bind λa=>(g a).bind λx=>some (kind,bZ ts x)
theorem qS{P:Program}{k:FuncId}{ins:List TyD}{kind:Kind}{ts:List TyD}{g:aO ins->Option (aO ts)}(he:Enters P k)(h:∀a x,g a=some x->eR P k (bZ ins a) kind (bZ ts x)):∀vs kind' rs,og ins kind ts g vs=some (kind',rs)->eR P k vs kind' rs/\Enters P k:=by
 intro vs kind' rs hf;simp only [og,zbE]at hf;obtain⟨a,h1,x,h2,h3⟩:=hf;cases h3;rw [sZ ins vs a h1];exact⟨h a x h2,he⟩
theorem Jh{E:Env}{k:FuncId}{ins:List TyD}{kind:Kind}{ts:List TyD}{g:aO ins->Option (aO ts)}(hx:E.ax k=some (og ins kind ts g))(n:Nat)(a:aO ins)(x:aO ts)(h:g a=some x):RunsP E (n+1) k (bZ ins a) (kind,bZ ts x):=
 Do hx (by simp only [og,Aa,zbS,h])
theorem py{E:Env}{k:FuncId}{ins:List TyD}{ts:List TyD}{g:aO ins->Option (aO ts)}(hx:E.ax k=some (og ins .fresh ts g)):ar E ⟨k,ins,.data true ts,g,1⟩:=λm a x h=>Jh hx m a x h
end K
end Ev
end
noncomputable section
open Go.RowKit Go.Sort
def Has(w:World)(b:Nat):Prop:=b<w.heap.size
def Xk(w:World)(os:Array Obj)(b:Nat):Prop:=w.heap.size<=b/\b<w.heap.size+os.size
theorem Has.of{w:World}{b:Nat}(h:b<w.heap.size):Has w b:=h
@[go_sem] theorem Sv (w:World) (o:Obj) (b:Nat):Has (w.alloc o) b=(b=w.heap.size∨Has w b):=by
 unfold Has;simp;omega
@[go_sem] theorem Xl (w:World) (d:Nat) (os:Array Obj) (b:Nat):Has (grow (redrawn w d) os) b=(Has w b∨Xk w os b):=by
 unfold Has Xk;simp [grow,redrawn];omega
@[go_sem] theorem Qz (w:World) (a:Addr) (v:Value) (b:Nat):Has (w.setCell a v) b=Has w b:=by
 unfold Has;simp [World.setCell]
@[go_sem] theorem Xm (w:World) (b:Nat):Has w.drew b=Has w b:=rfl
@[go_sem] theorem Xo {w:World} {d:Nat} {os:Array Obj} {a:Addr} (h:Has w a.block):(grow (redrawn w d) os).cell? a=w.cell? a:=
 (below_regrown w d os).cell h
@[go_sem] theorem Sw {w:World} {d:Nat} {os:Array Obj} {a:Addr} (h:Has w a.block):(grow (redrawn w d) os).frozen? a=w.frozen? a:=
 (below_regrown w d os).frozen h
@[go_sem] theorem Xp {w:World} {o:Obj} {a:Addr} (h:Has w a.block):(w.alloc o).cell? a=w.cell? a:=
 ((Below.refl w.heap.size w).alloc (Nat.le_refl _) o).cell h
@[go_sem] theorem Sy {w:World} {o:Obj} {a:Addr} (h:Has w a.block):(w.alloc o).frozen? a=w.frozen? a:=
 ((Below.refl w.heap.size w).alloc (Nat.le_refl _) o).frozen h
@[go_sem] theorem Sr {w:World} {o:Obj} {a:Addr} {v:Value} (h:Has w a.block):(w.alloc o).setCell a v=(w.setCell a v).alloc o:=by
 unfold Has at h;simp only [World.setCell,World.alloc];congr 1;apply Array.ext_getElem?;intro k;simp only [Array.getElem?_modify,Array.getElem?_push,Array.size_modify];by_cases hk:k=w.heap.size
 .subst hk;simp;omega
 .simp [hk]
@[go_sem] theorem Yf {α:Type} (p:Prop) [Decidable p] (x y:α) (w:World):(if p then Result.ok x w else Result.ok y w)=Result.ok (if p then x else y) w:=by
 split<;>rfl
@[go_sem] theorem Sz (p:Prop) [Decidable p] (x y:Value):(if p then Next.value x else Next.value y)=Next.value (if p then x else y):=by
 split<;>rfl
theorem bl1(w:World)(a:Obj):Below w.heap.size w (w.alloc a):=(Below.refl _ _).alloc (Nat.le_refl _) _
theorem bl2(w:World)(a b:Obj):Below w.heap.size w ((w.alloc a).alloc b):=(bl1 w a).alloc (by simp) _
theorem blg{w w1:World}(h:Below w.heap.size w w1)(d:Nat)(os:Array Obj):Below w.heap.size w (grow (redrawn w1 d) os):=
 h.trans ((below_regrown w1 d os).mono h.size)
theorem grow_grow(w:World)(a b:Array Obj):grow (grow w a) b=grow w (a++b):=by simp [grow,Array.append_assoc]
@[go_sem] theorem Yk (w:World) (d d2:Nat) (os os2:Array Obj):grow (redrawn (grow (redrawn w d) os) d2) os2=grow (redrawn w d2) (os++os2):=by
 simp [grow,redrawn,Array.append_assoc]
@[go_sem] theorem Xq (w:World) (d:Nat) (os:Array Obj):(grow (redrawn w d) os).heap.size=w.heap.size+os.size:=by simp [grow,redrawn]
@[go_sem] theorem Ss {w:World} {d:Nat} {os:Array Obj} {a:Addr} {v:Value} (h:Has w a.block):(grow (redrawn w d) os).setCell a v=grow (redrawn (w.setCell a v) d) os:=by
 unfold Has at h;simp only [grow,redrawn,World.setCell];congr 1;apply Array.ext_getElem?;intro k;rw [Array.getElem?_modify];by_cases hk:k<w.heap.size
 .rw [Array.getElem?_append_left hk,Array.getElem?_append_left (by simpa using hk),Array.getElem?_modify]
 .rw [if_neg (by omega),Array.getElem?_append_right (by omega),Array.getElem?_append_right (by simpa using by omega)];simp
@[go_sem] theorem Ol (w:World) (d:Nat):(redrawn w d).heap=w.heap:=rfl
theorem bla{w w1:World}(h:Below w.heap.size w w1)(o:Obj):Below w.heap.size w (w1.alloc o):=h.alloc h.size o
theorem bls{w w1:World}(h:Below w.heap.size w w1){p:Addr}(hp:w.heap.size<=p.block)(v:Value):Below w.heap.size w (w1.setCell p v):=h.setCell hp v
@[go_sem] theorem Yg:IntKind.u64.signed=false:=rfl
@[go_sem] theorem Yh:IntKind.i64.signed=true:=rfl
@[go_sem] theorem Yl:IntKind.u8.signed=false:=rfl
@[go_sem] theorem Yi:IntKind.u32.signed=false:=rfl
end
noncomputable section
open Go Go.RowKit Go.Sort
section
variable {P : Program} {ops : Array Oper} {md : Region.Mode} {C : World → Prop}
def MI(P:Program)(md:Region.Mode)(ops:Array Oper)(C:World->Prop)(n:Nat)(L:Array Bool->Act->Prop):Nat->Array Bool->Act->Prop
 |0,s,a=>L s a
 |f+1,s,a=>(∃i,i∈Region.ready md ops s)/\∀i∈Region.ready md ops s,i<n/\qOp P ops C i (MI P md ops C n L f (s.setIfInBounds i true)) a
theorem yz{n g:Nat}{L:Array Bool->Act->Prop}{Q':Exit->Act->World->Prop}(hL:∀s a w,C w->L s a->wpAny P md ops Q' g s a w):
  ∀(f:Nat) (s:Array Bool) (a:Act) (w:World),C w->MI P md ops C n L f s a->wpAny P md ops Q' (f+g) s a w:=by
 intro f
 induction f with
 |zero=>intro s a w hw h;rw [Nat.zero_add];exact hL s a w hw h
 |succ f ih=>
  intro s a w hw h;obtain⟨⟨i0,hi0⟩,hall⟩:=h;rw [Nat.add_right_comm];refine⟨λh0=> ?_,λi hi=>wpOp_of_qOp hw (λa' w' hw' h'=>ih _ a' w' hw' h') (hall i hi).2⟩;rw [h0]at hi0;cases hi0
theorem FZ{n i:Nat}{oi:Oper}{v:Value}{L:Array Bool->Act->Prop}(hi:ops[i]? =some oi)(hsel:Region.noSelect ops=true)
  (hs:Region.sinkB md ops n=true) (hc:Region.chainB md ops n=true) (hn:n<ops.size) (hin:i<n) (hdone:∀s a,L s a->∀j∈Region.ready md ops s,n<=j) (f:Nat):
  ∀(s:Array Bool) (a:Act),HeadInv md ops n s->
   (∀j oj,ops[j]? =some oj->j≠i->s.getD j true=false->(∀e∈oj.after,Region.binds md e=true->e.on≠i)->oi.apart ops oj=true)->
   i∈Region.ready md ops s->YieldsIn P ops C oi v a->
   MI P md ops C n L f (s.setIfInBounds i true) (a.put oi.dst v)->MI P md ops C n L (f+1) s a:=by
 have sel:=Region.noSelect_spec hsel
 induction f with
 |zero=>
  intro s a inv _ hr hy H;refine⟨⟨i,hr⟩,λj hj=> ?_⟩;have hjn:j<n:=Nat.lt_of_not_le λh=>tail_waits hs hc hn inv _ i rfl hin (mem_ready.1 hr).1 j h hj;refine⟨hjn,?_⟩;by_cases hji:j=i
  .rw [hji];exact hy.qOp hi H
  .have:=hdone _ _ H j (ready_mono hj hji)
   omega
 |succ f ih=>
  intro s a inv hfree hr hy H;refine⟨⟨i,hr⟩,λj hj=> ?_⟩;have hun:=(mem_ready.1 hr).1;have hjn:j<n:=Nat.lt_of_not_le λh=>tail_waits hs hc hn inv _ i rfl hin hun j h hj;refine⟨hjn,?_⟩;by_cases hji:j=i
  .rw [hji];exact hy.qOp hi H
  .obtain⟨hjun,oj,hoj,hall⟩:=mem_ready.1 hj
   have hnot:∀e∈oj.after,Region.binds md e=true->e.on≠i:=by
    intro e he hb heq;have hd:=hall e he hb;rw [heq,getD_both hun]at hd;cases hd
   have hp:=qOp_put hoj (hfree j oj hoj hji hjun hnot) (λcs b=>sel i oi cs b hi) (λcs b=>sel j oj cs b hoj) hy (H.2 j (ready_mono hj hji)).2;refine qOp_mono (λa' h3=>ih _ a' (inv.set hj hjn) ?_ (ready_mono hr (Ne.symm hji)) h3.1 ?_) hp
   .intro k ok hk hki hkun hno;refine hfree k ok hk hki ?_ hno;by_cases hjk:j=k
    .rw [<-hjk];exact hjun
    .rwa [getD_set_ne true hjk]at hkun
   .rw [Array.setIfInBounds_comm _ _ hji];exact h3.2
theorem MJ{n g:Nat}{Lq:Act->Prop}(hsel:Region.noSelect ops=true)(hs:Region.sinkB md ops n=true)(hc:Region.chainB md ops n=true)(hn:n<ops.size)(l:List Oper):
  ∀(k:Nat) (s:Array Bool) (a:Act),(∀j,j<l.length->l[j]? =ops[k+j]?)->k+l.length=n->HeadInv md ops n s->
  Region.lexHead md ops g l.length k s=true->wpQuiet P ops C Lq l a->
  MI P md ops C n (λs' a'=>Region.seqB md ops g n s'=true/\Lq a') l.length s a:=by
 induction l with
 |nil=>
  intro k s a _ hk _ hB h;have hk':k=n:=by simpa using hk
  rw [<-hk'];exact⟨by simpa [Region.lexHead]using hB,h⟩
 |cons o l ih=>
  intro k s a hl hk inv hB h;have h0:ops[k]? =some o:=by simpa using (hl 0 (by simp)).symm
  simp only [List.length_cons]at hk hB;simp only [Region.lexHead,Bool.and_eq_true]at hB;have hkn:k<n:=by omega
  have hr:k∈Region.ready md ops s:=by simpa using hB.1.1
  have hq:qOp P ops C k (wpQuiet P ops C Lq l) a:=by unfold qOp;simp only [h0];exact h
  obtain⟨v,hy,hK⟩:=yieldsIn_of_qOp h0 hq;refine FZ h0 hsel hs hc hn hkn (λs' a' hL=>seqB_ready hL.1) l.length s a inv (Region.free_spec h0 hB.1.2) hr hy (ih (k+1) _ _ (λj hj=> ?_) (by omega) (inv.set hr hkn) hB.2 hK)
  have:=hl (j+1) (by simp;omega)
  simpa [Nat.add_assoc,Nat.add_comm 1 j]using this
theorem gP{id:Nat}{Q:Exit->Act->World->Prop}{a:Act}{w:World}{l:List Oper}(n:Nat)(hm:P.follows .mixedOrders=true)(hB:Region.lexTailB .any l.toArray n=true)
  (hC:C {w with drawn:=w.drawn+1}) (h:wpQuiet P l.toArray C (λa'=>∀w',C w'->wpList P l.toArray Q (l.drop n) a' w') (l.take n) a):(Code.region id l.toArray true).wp P Q a w:=by
 simp only [Region.lexTailB,Bool.and_eq_true,decide_eq_true_eq]at hB;obtain⟨⟨⟨⟨hsel,hn⟩,hs⟩,hc⟩,hlex⟩:=hB;have hn':n<l.length:=by simpa using hn
 have htl:(l.take n).length=n:=by simp;omega
 have hdl:(l.drop n).length=l.toArray.size - n:=by simp
 have H:=MJ (C:=C) (md:= .any) (g:=l.toArray.size - n) hsel hs hc hn (l.take n) 0 (Array.replicate l.toArray.size false) a (λj hj=>by
  have hj':j<n:=by rw [htl]at hj;exact hj
  simp [hj']) (by simpa using htl) ⟨by simp,λj oj _ hl=>(by rw [getD_replicate_false]at hl;cases hl),λt _ ht=>getD_in (by simpa using ht) (getD_replicate_false _ _)⟩ (by rw [htl];exact hlex) h
 refine wp_region_any hm ?_
 have R:=yz (Q':=Q) (g:=l.toArray.size - n) (λs a' w' hw hL=>by
  have:=wpAny_of_seq (md:= .any) (Q':=Q) (l.drop n) n s a' w' (λj=>by simp [List.getElem?_drop]) (by rw [hdl];exact hL.1) (hL.2 w' hw)
  rwa [hdl]at this) _ _ _ _ hC H
 rw [htl,show n+(l.toArray.size - n)=l.toArray.size by omega]at R;exact R
theorem aB{id:Nat}{Q:Exit->Act->World->Prop}{a:Act}{w:World}{l:List Oper}(n:Nat)(hm:P.follows .mixedOrders=true)(hB:Region.lexTailB .any l.toArray n=true)
  (h:wpQuiet P l.toArray (λw'=>∃p:Regrown,w'=grow (redrawn w p.d) p.os) (λa'=>∀w',(∃p:Regrown,w'=grow (redrawn w p.d) p.os)->wpList P l.toArray Q (l.drop n) a' w') (l.take n) a):(Code.region id l.toArray true).wp P Q a w:=
 gP (C:=λw'=>∃p:Regrown,w'=grow (redrawn w p.d) p.os) n hm hB ⟨⟨w.drawn+1,#[]⟩,by rw [grow_empty];rfl⟩ h
end
end
end Go.Proofs.YtoamaaicfjkmhaaGreat
