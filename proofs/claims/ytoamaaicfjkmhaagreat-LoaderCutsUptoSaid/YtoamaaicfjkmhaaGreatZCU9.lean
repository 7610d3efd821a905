/- Texts of a claim, joined. -/
import Derived.Test.YtoamaaicfjkmhaaGreatZCU8
import Derived.Test.YtoamaaicfjkmhaaGreatProg
import Derived.BigQuiet
import Derived.Lib.QuietBelow
import Derived.WalkSpells
import Derived.WalkLawsBesides
import Derived.Lib.Hide
import Derived.Outline
import Derived.StillTail
set_option linter.unusedVariables false
set_option linter.unusedSimpArgs false
namespace Go.Proofs.YtoamaaicfjkmhaaGreat
noncomputable section
namespace Ev
namespace K
open Go Go.RowKit
section
variable {E : Env} {n : Nat} {F : KF} {ks : KS} {V : Vl} {f : Nat → D} {h : am} {G : KG} {D0 : Nat}
theorem uW{k i j bz:Nat}{ag:Bool}{sz:Nat}{es:List (List C)}{e cs:List C}{d:D}(hg:ap h k=some (bz,es))(he:es[i]? =some e)(hc:Ev.cut e j sz=some cs)(hv:cd ag cs=some d):load h ag sz (.one (.ptr k i j))=some d:=by
 simp only [load,hg,zbB,zbS,he,hc,hv]
theorem Kf(hr:Rel F ks V f h){z:Nat×Bool}{a:KD}{a':D}{R:Type}{r:R}{κ:KD->Option R}(hs:fF F ks z a κ=some r)(ha:RD (an F ks) V a a'):∃d d',κ d=some r/\load h z.2 (if z.2 then z.1 else 1) a'=some d'/\RD (an F ks) V d d'/\ScD ks.nx d:=by
 have hz:wd z=if z.2 then z.1 else 1:=by unfold wd;cases z.2<;>rfl
 cases a with
 |tup ts=>simp [fF]at hs
 |agg cs=>simp [fF]at hs
 |one c=>
  obtain⟨c',rfl,hc⟩:=ha
  cases c with
  |ptr p j=>
   simp only [fF]at hs;split at hs
   .rename_i cs hp;simp only [zbE]at hs;obtain⟨d2,⟨cs2,g1,g2⟩,g3⟩:=hs;obtain⟨g4,g5,sz,cs',g6,g7⟩:=hr.bl p _ hp;obtain⟨c2,g8,g9⟩:=g7.cut g1;obtain⟨d3,k1,k2,k3⟩:=eL g2 (fT g5 g1) g9;rw [show c'=_ from hc];exact⟨_,d3,g3,uW g6 rfl (by rw [<-hz];exact g8) k1,k2,k3⟩
   .simp at hs
  |ip e fr x i y j=>
   simp only [fF,zbE]at hs;obtain⟨d2,⟨cs2,g1,g2⟩,g3⟩:=hs;obtain⟨fl,e1,e2,e3⟩:=hc;obtain⟨c2,g8,g9⟩:=(cD (B:=an F ks) (V:=V) e3 e y).cut g1;obtain⟨d3,k1,k2,k3⟩:=eL g2 (fT (dF ks.nx fr e y) g1) g9;refine⟨_,d3,g3,?_,k2,k3⟩;rw [e1];simp only [load,zbB,yW (r:=e.row) e2,zbS];rw [<-hz,g8];exact k1
  |pe p i j=>
   simp only [fF]at hs;rw [hc.2];split at hs
   .rename_i e ne l hp;simp only [zbE]at hs;obtain⟨y,g0,d2,⟨cs2,g1,g2⟩,g3⟩:=hs;obtain⟨g4,g5,g6,_⟩:=hr.bl p _ hp;obtain⟨c2,g8,g9⟩:=(cD (B:=an F ks) (V:=V) (λ_=>rfl) e y).cut g1;obtain⟨d3,k1,k2,k3⟩:=eL g2 (fT (dF ks.nx true e y) g1) g9;exact⟨_,d3,g3,uW g6 (lV g0).2 (by rw [<-hz];exact g8) k1,k2,k3⟩
   .rename_i e l hp;simp only [zbE]at hs;obtain⟨y,g0,d2,⟨cs2,g1,g2⟩,g3⟩:=hs;obtain⟨g4,g5,g6⟩:=hr.bl p _ hp;obtain⟨c2,g8,g9⟩:=(cD (B:=an F ks) (V:=V) (λ_=>rfl) e y).cut g1;obtain⟨d3,k1,k2,k3⟩:=eL g2 (fT (dF ks.nx true e y) g1) g9;exact⟨_,d3,g3,uW (g6 (zn g0)) (lV g0).2 (by rw [<-hz];exact g8) k1,k2,k3⟩
   .simp at hs
  |_=>simp [fF]at hs
theorem sq(hG:GOk G E D0)(hr:Rel F ks V f h):∀{rv:List ResultVar} {R:Type} {r:R} {κ:List KD->Option R},zi G F ks rv κ=some r->∃ds ds',rv.mapM (ce E {t:=tab F.nt f,h:=h})=some ds'/\RDl (an F ks) V ds ds'/\(∀d∈ds,ScD ks.nx d)/\κ ds=some r
 | [],R,r,κ,hs=>⟨[],[],rfl,rfl,by simp,hs⟩
 | .tmp t::rv,R,r,κ,hs=>by
  simp only [zi,zbE]at hs;obtain⟨d,g1,g2⟩:=hs;obtain⟨k1,k2,k3⟩:=hr.sl t d g1;obtain⟨ds,ds',e1,e2,e3,e4⟩:=sq hG hr g2;refine⟨d::ds,f t::ds',?_,⟨_,_,rfl,k3,e2⟩,λx hx=> ?_,e4⟩
  .rw [List.mapM_cons,e1];show((tab F.nt f)[t]?).bind _=_;rw [io,if_pos k1];rfl
  .rcases List.mem_cons.1 hx with rfl|hx
   .exact k2
   .exact e3 x hx
 | .cell a ty::rv,R,r,κ,hs=>by
  simp only [zi]at hs;split at hs
  .rename_i z d hz hd;have hz':=zm hG hz;obtain⟨k1,k2,k3⟩:=hr.sl a d hd;obtain⟨v,v',g1,g2,g3,g4⟩:=Kf hr hs k3;obtain⟨ds,ds',e1,e2,e3,e4⟩:=sq hG hr g1;refine⟨v::ds,v'::ds',?_,⟨_,_,rfl,g3,e2⟩,λx hx=> ?_,e4⟩
   .unfold iB at hz';simp only [zbE,zsI]at hz';obtain⟨ti,w1,w2⟩:=hz';rw [List.mapM_cons,e1];show(((E.ti ty).bind λt'=>((tab F.nt f)[a]?).bind λd=>load h (aN t'.desc) (if aN t'.desc then t'.size else 1) d).bind _)=_;rw [w1,io,if_pos k1];subst w2;simp only [zbS];rw [g2];rfl
   .rcases List.mem_cons.1 hx with rfl|hx
    .exact g4
    .exact e3 x hx
  .simp at hs
theorem zx:∀{ds:List KD} {ds':List D} {ts:List (Bool×List KC)},tupK.tups ds=some ts->RDl (an F ks) V ds ds'->(∀d∈ds,ScD ks.nx d)->RTs (an F ks) V ts ds'/\∀x∈ts,Scs ks.nx x.2
 | [],ds',ts,h,hr,hs=>by
  have:=Option.some.inj (show some []=some ts from h)
  subst this;exact⟨hr,by simp⟩
 | .one c::r,ds',ts,h,⟨d,s,e,h1,h2⟩,hs=>by
  simp only [tupK.tups,Option.map_eq_some_iff]at h;obtain⟨ts',g1,rfl⟩:=h;obtain⟨k1,k2⟩:=zx g1 h2 λx hx=>hs x (by simp [hx]);refine⟨⟨d,s,e,h1,k1⟩,λx hx=> ?_⟩;rcases List.mem_cons.1 hx with rfl|hx
  .exact λy hy=>by rw [List.mem_singleton.1 hy];exact hs (.one c) (by simp)
  .exact k2 x hx
 | .agg cs::r,ds',ts,h,⟨d,s,e,h1,h2⟩,hs=>by
  simp only [tupK.tups,Option.map_eq_some_iff]at h;obtain⟨ts',g1,rfl⟩:=h;obtain⟨k1,k2⟩:=zx g1 h2 λx hx=>hs x (by simp [hx]);refine⟨⟨d,s,e,h1,k1⟩,λx hx=> ?_⟩;rcases List.mem_cons.1 hx with rfl|hx
  .exact hs (.agg cs) (by simp)
  .exact k2 x hx
 | .tup ts'::r,ds',ts,h,hr,hs=>by simp [tupK.tups]at h
theorem LW{ds:List KD}{ds':List D}{d:KD}(h:tupK ds=some d)(hr:RDl (an F ks) V ds ds')(hs:∀d∈ds,ScD ks.nx d):RD (an F ks) V d (ji ds')/\ScD ks.nx d:=by
 match ds,h,hr,hs with
 | [x],h,⟨d',s,e,h1,h2⟩,hs=>
  cases h;rw [e,show s= []from h2];exact⟨h1,hs d (by simp)⟩
 | [],h,hr,hs=>
  cases h;rw [show ds'= []from hr];exact⟨⟨[],rfl,rfl⟩,λx hx=>by simp at hx⟩
 |x::x'::r,h,hr,hs=>
  have h':(tupK.tups (x::x'::r)).map KD.tup=some d:=h;rw [Option.map_eq_some_iff]at h';obtain⟨ts,g1,rfl⟩:=h';obtain⟨k1,k2⟩:=zx g1 hr hs;obtain⟨d1,s1,e1,_,d2,s2,e2,_,_⟩:=hr;refine⟨⟨ds',?_,k1⟩,k2⟩;rw [e1,e2];rfl
theorem xH:∀{l:List KD} {q i:Nat} {d:KD},ak (wg q l) i=some d->∃j,i=q+j/\l[j]? =some d
 | [],q,i,d,h=>by simp [wg,ak]at h
 |a::l,q,i,d,h=>by
  unfold wg at h;rw [al]at h;split at h
  .rename_i hi;cases h;exact⟨0,by omega,rfl⟩
  .obtain⟨j,h1,h2⟩:=xH h;exact⟨j+1,by omega,by simpa using h2⟩
theorem ET{B:BK}:∀{l:List KD} {l':List D} {j:Nat} {d:KD},RDl B V l l'->l[j]? =some d->∃d',l'[j]? =some d'/\RD B V d d'
 | [],l',j,d,h,hj=>by simp at hj
 |a::l,l',0,d,⟨x,s,e,h1,h2⟩,hj=>by simp at hj;subst hj e;exact⟨x,rfl,h1⟩
 |a::l,l',j+1,d,⟨x,s,e,h1,h2⟩,hj=>by subst e;simpa using ET h2 (by simpa using hj)
theorem EU{B:BK}:∀{l:List KD} {l':List D},RDl B V l l'->l'.length=l.length
 | [],l',h=>by rw [show l'= []from h];rfl
 |a::l,l',⟨x,s,e,h1,h2⟩=>by rw [e,List.length_cons,List.length_cons,EU h2]
theorem xI{nt nx:Nat}{bl:List (Nat×KB)}{args:List KD}{args':List D}(hb:JW F {sl:= [],bl:=bl,nx:=nx} V h)(hs:∀d∈args,ScD nx d)(hr:RDl (an F {sl:= [],bl:=bl,nx:=nx}) V args args')(hl:args.length<=nt):Rel {F with sl:= [],nt:=nt} {sl:=wg 0 args,bl:=bl,nx:=nx} V (fA args') h:=by
 refine⟨?_,hb.bl,hb.inj⟩;intro i d hd;have hd':aO (wg 0 args) [] i=some d:=hd;unfold aO at hd'
 cases hl':ak (wg 0 args) i with
 |none=>rw [hl']at hd';simp [ak]at hd'
 |some d0=>
  rw [hl']at hd';cases hd';obtain⟨j,h1,h2⟩:=xH hl';rw [Nat.zero_add]at h1;subst h1;obtain⟨d',h3,h4⟩:=ET hr h2;have hi:i<args.length:=(List.getElem?_eq_some_iff.1 h2).1;refine⟨Nat.lt_of_lt_of_le hi hl,hs d (List.mem_of_getElem? h2),?_⟩;show RD _ _ d (args'.getD i bI);rw [List.getD_eq_getElem?_getD,h3];exact h4
theorem BP{e:Ex}(h:rd e=true):e= .normal∨e= .ret:=by
 cases e with
 |normal=>exact .inl rfl
 |ret=>exact .inr rfl
 |exit id=>simp [rd]at h
theorem BQ(hG:GOk G E D0)(A:dH):∀(c n:Nat),D0+c<=n->Dv E n (Bq G A c)
 |0,n,hn=>λR F k args ks κ r V h args' hs hb hsc hr=>by simp [Bq]at hs
 |c+1,n,hn=>λR F k args ks κ r V h args' hs hb hsc hr=>by
  unfold Bq at hs;split at hs
  .rename_i fi hfi;obtain⟨g1,g2⟩:=hG.fi k fi hfi;split at hs
   .rename_i hlen
    match n,hn with
    |n0+1,hn=>
     refine⟨n0,fi,rfl,g1,g2,by rw [EU hr];exact hlen,?_⟩;have hrel:Rel {F with sl:= [],nt:=fi.nt} {ks with sl:=wg 0 args} V (fA args') h:=xI ⟨hb.bl,hb.inj⟩ hsc hr hlen;refine(BO (y:=nY) hG (by omega) (BQ hG A c n0 (by omega)) fi.body R _ _ _ r V _ h hs hrel).mono λe s hp=> ?_;obtain⟨ks',V',f',h1,h2,h3,h4⟩:=hp;obtain⟨t,hh⟩:=s;simp only at h1 h2;subst h1;dsimp only at h3
     cases he:rd e with
     |false=>rw [he]at h3;simp at h3
     |true=>
      rw [he]at h3;obtain⟨ds,ds',e1,e2,e3,e4⟩:=sq hG h2 h3;rw [zbE]at e4;obtain⟨d,e5,e6⟩:=e4;obtain⟨k1,k2⟩:=LW e5 e2 e3;exact⟨BP he,ds',e1,ks',V',d,e6,k2,k1,⟨h2.bl,h2.inj⟩,⟨h4.nx,h4.agree,h4.le,h4.dom⟩⟩
   .simp at hs
  .simp at hs
theorem nM:∀{e:Ty} (x:e.val),e.plain=true->(cQ e.row x).all su=true
 | .I _,_,_=>rfl
 | .B,_,_=>rfl
 | .S _,_,hp=>by simp [Ty.plain]at hp
 | .U,_,_=>rfl
 | .C a b,x,hp=>by
  simp only [Ty.plain,Bool.and_eq_true]at hp;unfold cQ;show((a.row x.1++b.row x.2).map (pC true)).all su=true;rw [List.map_append,List.all_append];have h1:=nM x.1 hp.1;have h2:=nM x.2 hp.2;unfold cQ at h1 h2;rw [h1,h2];rfl
theorem uX{B:BK}:∀{l:List (Bool×List KC)} {ds:List D},RTs B V l ds->RDl B V (l.map mkD) ds
 | [],ds,h=>h
 |x::l,ds,⟨d,s,e,h1,h2⟩=>⟨d,s,e,Dq h1,uX h2⟩
theorem EW(fr:Bool):∀(ts:List TyD) (x:ba ts),(kI fr ts x).length=ts.length
 | [],_=>rfl
 | [t],x=>rfl
 |t::t'::r,x=>by show(kI fr (t'::r) x.2).length+1=_;rw [EW fr (t'::r)];rfl
theorem zy:∀(ts:List TyD) (x:ba ts),(bW ts x).length=ts.length
 | [],_=>rfl
 | [t],x=>rfl
 |t::t'::r,x=>by show(bW (t'::r) x.2).length+1=_;rw [zy (t'::r)];rfl
theorem GO{B:BK}{ts:List TyD}{ds:List KD}{ds':List D}{x:ba ts}(hd:ir B ts ds=some x)(hr:RDl B V ds ds')(hno:qy ds=false):dG h ds'=false:=by
 unfold dG;split
 .rename_i k m
  match ds,hr,hno,hd with
  | [d],⟨y,s,e,h1,h2⟩,hno,hd=>
   rw [show s= []from h2]at e;simp only [List.cons.injEq,and_true]at e;subst e
   match ts,x,hd with
   | [t],x,hd=>
    have hd':yZ B t d=some x:=hd
    cases d with
    |one c=>
     obtain⟨c',e1,e2⟩:=h1;cases e1
     cases c with
     |o e p=>simp [qy]at hno
     |m e p=>simp [qy]at hno
     |n k y=>exact absurd (show C.own _ 0 _=_ from e2) (by simp)
     |b v=>exact absurd (show C.own _ 0 _=_ from e2) (by simp)
     |p t P d=>exact absurd e2.1 (by simp)
     |bv y=>exact absurd (show C.own _ 0 _=_ from e2) (by simp)
     |v y=>exact absurd (show C.own _ 0 _=_ from e2) (by simp)
     |nil=>exact absurd (show C.own _ 0 _=_ from e2) (by simp)
     |s e fr y=>obtain⟨fl,e3,_⟩:=e2;exact absurd e3 (by simp)
     |ptr p j=>exact absurd (show C.own _ 0 _=_ from e2) (by simp)
     |pe p i j=>exact absurd e2.2 (by simp)
     |ip e fr y i z j=>obtain⟨fl,e3,_⟩:=e2;exact absurd e3 (by simp)
     |clo fn ps=>exact absurd (show C.own _ 0 _=_ from e2) (by simp)
     |yld p=>exact absurd (show C.own _ 0 _=_ from e2) (by simp)
    |agg cs=>obtain⟨c',e1,_⟩:=h1;simp at e1
    |tup ts=>simp [yZ]at hd'
   | [],x,hd=>simp [ir]at hd
   |_::_::_,x,hd=>simp [ir]at hd
  | [],hr,_,_=>exact absurd (show [_]=_ from hr) (by simp)
  |_::_::_,⟨y,s,e,h1,y2,s2,e2,_,_⟩,_,_=>rw [e2]at e;simp at e
 .rfl
theorem pr{rv:List ResultVar}{e:Ty}{l:List e.val}{k:Nat}{ex:Ex}{s:St}(he:ex= .normal∨ex= .ret)(hres:rv.mapM (ce E s)=some [.one (.own k 0 l.length)])(hg:ap s.h k=some (e.size,l.map (cQ e.row)))(hp:e.plain=true):CU E rv (.own,[.one (.s true e.size (l.map e.row))]) ex s:=by
 have ho:dG s.h [.one (.own k 0 l.length)]=true:=by
  simp only [dG,hg,List.length_map,BEq.rfl,Bool.true_and,List.all_map];rw [List.all_eq_true];exact λx _=>nM x hp
 have hv:cu s.h (.one (.own k 0 l.length))=some (true,.one (.s true e.size (l.map e.row))):=by
  show(eH s.h 6 _).bind _=_;rw [Db (r:=e.row) (L:= [[(k,e.size,l.map (cQ e.row))]]) 0 rfl (λx h m=>uz m) s.h (fO hg) 4];rfl
 have key:bS (λq:Kind×List TD=>q=(.own,[.one (.s true e.size (l.map e.row))])) ((rv.mapM (ce E s)).bind λrs=>(rs.mapM (cu s.h)).map λl=>(if dG s.h rs then .own else if l.all (·.1)then .fresh else .any,l.map (·.2))):=by
  rw [hres];simp only [zbS,List.mapM_cons,hv,List.mapM_nil,Option.pure_def,zbB,Option.map_some,ho];rfl
 rcases he with rfl|rfl<;>exact key
theorem jg{rv:List ResultVar}{ds':List D}{l:List (Bool×TD)}{ex:Ex}{s:St}(he:ex= .normal∨ex= .ret)(hres:rv.mapM (ce E s)=some ds')(hv:ds'.mapM (cu s.h)=some l)(ho:dG s.h ds'=false):CU E rv (cond (l.all (·.1)) .fresh .any,l.map (·.2)) ex s:=by
 have key:bS (λq:Kind×List TD=>q=(cond (l.all (·.1)) .fresh .any,l.map (·.2))) ((rv.mapM (ce E s)).bind λrs=>(rs.mapM (cu s.h)).map λl=>(if dG s.h rs then .own else if l.all (·.1)then .fresh else .any,l.map (·.2))):=by
  rw [hres];simp only [zbS,hv,Option.map_some,ho];show(_,_)=(_,_);cases l.all (·.1)<;>rfl
 rcases he with rfl|rfl<;>exact key
theorem LY(hG:GOk G E D0)(A:dH){fi:FI}{k:FuncId}{c:Nat}{ins:List TyD}{ok:OutK}{x:ba ins}{out:ok.val}(hax:E.ax k=none)(hf:E.fn k=some fi)(hl:ins.length<=fi.nt)(hs:eG G A fi k c ins ok x=some out)(m:Nat):EG E (m+(D0+c)+1) k (bW ins x) ok out:=by
 unfold eG at hs;have hb:JW {nt:=fi.nt} {sl:= [],bl:= [],nx:=0} ⟨λ_=>0,λ_=>false⟩ []:=⟨λp b hb=>by simp [an,aO,ak]at hb,λp q b b' hb=>by simp [an,aO,ak]at hb⟩;have hargs:RDl (an {nt:=fi.nt} {sl:= [],bl:= [],nx:=0}) ⟨λ_=>0,λ_=>false⟩ ((kI false ins x).map mkD) ((bW ins x).map (cm false)):=uX (pg (λh=>h) ins x)
 have hsc:∀d∈(kI false ins x).map mkD,ScD 0 d:=λd hd=>by
  obtain⟨y,h1,rfl⟩:=List.mem_map.1 hd;exact sn (uA 0 false ins x y h1)
 have hrel:Rel {nt:=fi.nt} {sl:=EE ins x,bl:= [],nx:=0} ⟨λ_=>0,λ_=>false⟩ (fA ((bW ins x).map (cm false))) []:=xI (F:={nt:=fi.nt}) hb hsc hargs (by rw [List.length_map,EW];exact hl);have hw:=BO (y:=nY) (n:=m+(D0+c)) hG (by omega) (BQ hG A c _ (by omega)) fi.body ok.val _ _ _ out _ _ [] hs hrel;have hend:∀r,(∀e s,PostC {nt:=fi.nt} {sl:=EE ins x,bl:= [],nx:=0} ⟨λ_=>0,λ_=>false⟩ (λe ks=>cond (rd e) (zi G {nt:=fi.nt} ks fi.results λds=>zj (an {nt:=fi.nt} ks) ok ds) none) out e s->CU E fi.results r e s)->RunsP E (m+(D0+c)+1) k (bW ins x) r:=λr hq=>Bg hax hf (by rw [zy];exact hl) (hw.mono hq)
 have hopen:∀e s,PostC {nt:=fi.nt} {sl:=EE ins x,bl:= [],nx:=0} ⟨λ_=>0,λ_=>false⟩ (λe ks=>cond (rd e) (zi G {nt:=fi.nt} ks fi.results λds=>zj (an {nt:=fi.nt} ks) ok ds) none) out e s->∃ks' V' f' ds ds',(e= .normal∨e= .ret)/\Rel {nt:=fi.nt} ks' V' f' s.h/\fi.results.mapM (ce E s)=some ds'/\RDl (an {nt:=fi.nt} ks') V' ds ds'/\zj (an {nt:=fi.nt} ks') ok ds=some out:=by
  intro e s hp;obtain⟨ks',V',f',h1,h2,h3,h4⟩:=hp;obtain⟨t,hh⟩:=s;simp only at h1 h2;subst h1;dsimp only at h3
  cases he:rd e with
  |false=>rw [he]at h3;simp at h3
  |true=>
   rw [he]at h3;obtain⟨ds,ds',e1,e2,e3,e4⟩:=sq hG h2 h3;exact⟨ks',V',f',ds,ds',BP he,h2,e1,e2,e4⟩
 cases ok with
 |data fr ts=>
  have hdata:∀(ks':KS) (V':Vl) (ds:List KD) (ds':List D) (hh:am) (f':Nat->D),Rel {nt:=fi.nt} ks' V' f' hh->RDl (an {nt:=fi.nt} ks') V' ds ds'->zj (an {nt:=fi.nt} ks') (.data fr ts) ds=some out->∃l,ds'.mapM (cu hh)=some l/\l.map (·.2)=bW ts out/\(fr=true->l.all (·.1)=true)/\dG hh ds'=false:=by
   intro ks' V' ds ds' hh f' h2 e2 e4;unfold zj at e4;simp only at e4;split at e4
   .simp at e4
   .rename_i hc;obtain⟨l,l1,l2,l3⟩:=nv h2.bls e4 e2
    have hno:qy ds=false:=by cases ho:qy ds with|true=>simp [ho]at hc|false=>rfl
    refine⟨l,l1,l2,λhfr=>l3 ?_,GO e4 e2 hno⟩
    cases ha:ds.all frD with
    |true=>rfl
    |false=>simp [hfr,ha]at hc
  cases fr with
  |true=>
   refine hend _ λe s hp=> ?_;obtain⟨ks',V',f',ds,ds',he,h2,e1,e2,e4⟩:=hopen e s hp;obtain⟨l,l1,l2,l3,l4⟩:=hdata ks' V' ds ds' s.h f' h2 e2 e4
   have:=jg (E:=E) he e1 l1 l4
   rw [l3 rfl,l2]at this;exact this
  |false=>
   -- is it new? that is settled when it has run
   obtain⟨e,s,hrun,hp⟩:=hw;obtain⟨ks',V',f',ds,ds',he,h2,e1,e2,e4⟩:=hopen e s hp;obtain⟨l,l1,l2,_,l4⟩:=hdata ks' V' ds ds' s.h f' h2 e2 e4
   have:=jg (E:=E) he e1 l1 l4
   rw [l2]at this;exact⟨l.all (·.1),Bg hax hf (by rw [zy];exact hl) ⟨e,s,hrun,this⟩⟩
 |own ty=>
  refine hend _ λe s hp=> ?_;obtain⟨ks',V',f',ds,ds',he,h2,e1,e2,e4⟩:=hopen e s hp;unfold zj at e4;simp only at e4;unfold JG at e4;split at e4
  .rename_i e0 p;split at e4
   .rename_i e' ne l hB;split at e4
    .rename_i hpl;rw [Option.map_eq_some_iff]at e4;obtain⟨l2,g0,rfl⟩:=e4;obtain⟨hty,g0⟩:=aS g0;cases hty;subst g0;obtain⟨y,s',e5,⟨c',e6,e7⟩,e8⟩:=e2;rw [show s'= []from e8]at e5;rw [e5,e6,e7 _ _ _ hB]at e1;exact pr he e1 (h2.bl p _ hB).2.2.1 hpl
    .simp at e4
   .simp at e4
  .simp at e4
 |mown ty=>
  refine hend _ λe s hp=> ?_;obtain⟨ks',V',f',ds,ds',he,h2,e1,e2,e4⟩:=hopen e s hp
  have hnil:∀{ds'':List D},RDl (an {nt:=fi.nt} ks') V' [.one .nil] ds''->fi.results.mapM (ce E s)=some ds''->CU E fi.results (Rf ty.size ty.row []) e s:=by
   intro ds'' e2 e1;obtain⟨y,s',e5,⟨c',e6,e7⟩,e8⟩:=e2;rw [show s'= []from e8]at e5;rw [e5,e6,show c'=_ from e7]at e1;exact jg (E:=E) (l:= [(true,.one (.s false 0 []))]) he e1 rfl rfl
  unfold zj at e4;simp only at e4;unfold EC at e4;split at e4
  .cases e4;exact hnil e2 e1
  .rename_i e0 p;split at e4
   .rename_i e' l hB;split at e4
    .rename_i hpl;rw [Option.map_eq_some_iff]at e4;obtain⟨l2,g0,rfl⟩:=e4;obtain⟨hty,g0⟩:=aS g0;cases hty;subst g0;obtain⟨y,s',e5,⟨c',e6,e7⟩,e8⟩:=e2;rw [show s'= []from e8]at e5;rw [e5,e6,e7 _ _ hB]at e1
     cases l with
     |nil=>exact jg (E:=E) (l:= [(true,.one (.s false 0 []))]) he e1 rfl rfl
     |cons a l=>exact pr he e1 ((h2.bl p _ hB).2.2 (by simp)) hpl
    .simp at e4
   .simp at e4
  .rename_i e0 p;split at e4
   .rename_i e' ne l hB;split at e4
    .rename_i hpl;rw [zbE]at e4;obtain⟨l2,g0,e4⟩:=e4;obtain⟨hty,g0⟩:=aS g0;cases hty;subst g0;obtain⟨y,s',e5,⟨c',e6,e7⟩,e8⟩:=e2;rw [show s'= []from e8]at e5;rw [e5,e6,e7 _ _ _ hB]at e1;obtain⟨w1,w2,w3,w4⟩:=h2.bl p _ hB
     cases l with
     |nil=>
      cases ne with
      |true=>exact absurd rfl (w4 rfl)
      |false=>simp [neL]at e4
     |cons a l=>
      obtain rfl:=(by cases ne<;>simpa [neL]using e4:_=_);exact pr he e1 w3 hpl
    .simp at e4
   .simp at e4
  .simp at e4
 |gown ty=>
  refine hend _ λe s hp=> ?_;obtain⟨ks',V',f',ds,ds',he,h2,e1,e2,e4⟩:=hopen e s hp;unfold zj at e4;simp only at e4;unfold ED at e4;split at e4
  .cases e4;obtain⟨y,s',e5,⟨c',e6,e7⟩,e8⟩:=e2;rw [show s'= []from e8]at e5;rw [e5,e6,show c'=_ from e7]at e1;exact jg (E:=E) (l:= [(true,.one (.s false 0 []))]) he e1 rfl rfl
  .rename_i e0 p;split at e4
   .rename_i e' l hB;split at e4
    .rename_i hpl;rw [Option.map_eq_some_iff]at e4;obtain⟨l2,g0,rfl⟩:=e4;obtain⟨hty,g0⟩:=aS g0;cases hty;subst g0;obtain⟨y,s',e5,⟨c',e6,e7⟩,e8⟩:=e2;rw [show s'= []from e8]at e5;rw [e5,e6,e7 _ _ hB]at e1
     cases l with
     |nil=>exact jg (E:=E) (l:= [(true,.one (.s false 0 []))]) he e1 rfl rfl
     |cons a l=>exact pr he e1 ((h2.bl p _ hB).2.2 (by simp)) hpl
    .simp at e4
   .simp at e4
  .rename_i e0 p;split at e4
   .rename_i e' ne l hB;split at e4
    .rename_i hpl;rw [Option.map_eq_some_iff]at e4;obtain⟨l2,g0,rfl⟩:=e4;obtain⟨hty,g0⟩:=aS g0;cases hty;subst g0;obtain⟨y,s',e5,⟨c',e6,e7⟩,e8⟩:=e2;rw [show s'= []from e8]at e5;rw [e5,e6,e7 _ _ _ hB]at e1;exact pr he e1 (h2.bl p _ hB).2.2.1 hpl
    .simp at e4
   .simp at e4
  .simp at e4
end
end K
end Ev
end
noncomputable section
namespace Ev
namespace K
open Go Go.RowKit
def PB(E:Env)(D:Nat):List bu->Prop
 | []=>True
 |e::r=>(e.d<=D/\aC E e)/\PB E D r
def PE(E:Env):List (FuncId×FI)->Prop
 | []=>True
 |x::r=>(E.fn x.1=some x.2/\E.ax x.1=some λ_=>none)/\PE E r
def Kg(E:Env):List (Nat×TI)->Prop
 | []=>True
 |x::r=>E.ti x.1=some x.2/\Kg E r
def Kh(P:Program):List (Nat×List IntKind)->Prop
 | []=>True
 |x::r=>JJ P x.1 x.2/\Kh P r
theorem BS{E:Env}{D:Nat}:∀{l:List bu},PB E D l->∀e∈l,e.d<=D/\aC E e
 | [],_,e,h=>by simp at h
 |a::l,⟨h1,h2⟩,e,h=>by
  rcases List.mem_cons.1 h with rfl|h
  .exact h1
  .exact BS h2 e h
theorem xJ{E:Env}:∀{l:List (FuncId×FI)},PE E l->∀k f,ak l k=some f->E.fn k=some f/\E.ax k=some λ_=>none
 | [],_,k,f,h=>by simp [ak]at h
 |a::l,⟨h1,h2⟩,k,f,h=>by
  rw [show a::l=(a.1,a.2)::l from rfl,al]at h;split at h
  .rename_i hk;cases h;subst hk;exact h1
  .exact xJ h2 k f h
theorem xK{E:Env}:∀{l:List (Nat×TI)},Kg E l->∀k f,ak l k=some f->E.ti k=some f
 | [],_,k,f,h=>by simp [ak]at h
 |a::l,⟨h1,h2⟩,k,f,h=>by
  rw [show a::l=(a.1,a.2)::l from rfl,al]at h;split at h
  .rename_i hk;cases h;subst hk;exact h1
  .exact xK h2 k f h
theorem xL{P:Program}:∀{l:List (Nat×List IntKind)},Kh P l->∀k f,ak l k=some f->JJ P k f
 | [],_,k,f,h=>by simp [ak]at h
 |a::l,⟨h1,h2⟩,k,f,h=>by
  rw [show a::l=(a.1,a.2)::l from rfl,al]at h;split at h
  .rename_i hk;cases h;subst hk;exact h1
  .exact xL h2 k f h
theorem gok{E:Env}{D:Nat}{tt:List (Nat×TI)}{eqs:List (Nat×List IntKind)}{fns:List bu}{fi:List (FuncId×FI)}(hE:E.Ok)(ht:Kg E tt)(hq:Kh E.P eqs)(hf:PB E D fns)(hi:PE E fi):GOk ⟨tt,eqs,fns,fi⟩ E D:=⟨hE,xK ht,xL hq,BS hf,xJ hi⟩
def mkE(G:KG)(A:dH)(fi:FI)(k:FuncId)(c:Nat)(ins:List TyD)(out:OutK)(d:Nat):bu:=⟨k,ins,out,eG G A fi k c ins out,d⟩
theorem aU{E:Env}{D:Nat}{G:KG}{A:dH}{fi:FI}{k:FuncId}{c:Nat}{ins:List TyD}{out:OutK}{d:Nat}(hG:GOk G E D)(hax:E.ax k=none)(hf:E.fn k=some fi)(hl:Nat.ble ins.length fi.nt=true)(hd:D+c+1=d):aC E (mkE G A fi k c ins out d):=λm a o h=>by
 subst hd;exact LY hG A hax hf (Nat.le_of_ble_eq_true hl) h m
def fiF(f:Func):FI:=⟨f.ntmps,f.results.toList,f.body.getD .skip⟩
theorem bH{P:Program}{k:FuncId}{f:Func}{b:Code}(h:P.funcs[k]? =some f)(hb:f.body=some b):Lh P k=some (fiF f):=by
 unfold Lh fiF;rw [h];simp only [hb];rfl
theorem EX{P:Program}{ty:TypeId}{k0 k1:IntKind}(h:∀(x y:Operand) (a0 b0 a1 b1:Int),ao P (do eqGuard .eql ty x y (.agg #[.int k0 a0,.int k1 a1]) (.agg #[.int k0 b0,.int k1 b1]);binOp .eql ty (.agg #[.int k0 a0,.int k1 a1]) (.agg #[.int k0 b0,.int k1 b1]))=some (.bool (a0==b0 &&(a1==b1 && true))))
  (h':∀(x y:Operand) (a0 b0 a1 b1:Int),ao P (do eqGuard .neq ty x y (.agg #[.int k0 a0,.int k1 a1]) (.agg #[.int k0 b0,.int k1 b1]);binOp .neq ty (.agg #[.int k0 a0,.int k1 a1]) (.agg #[.int k0 b0,.int k1 b1]))=some (.bool (!(a0==b0 &&(a1==b1 && true))))):JJ P ty [k0,k1]:=λx y l hl=>by
 match l,hl with
 | [(a0,b0),(a1,b1)],_=>
  have e:(a0==b0 &&(a1==b1 && true))= @decide (eqP [(a0,b0),(a1,b1)]) (eqD [(a0,b0),(a1,b1)]):=eB (by simp [eqP]);exact⟨(h x y a0 b0 a1 b1).trans (by rw [e]),(h' x y a0 b0 a1 b1).trans (by rw [e])⟩
theorem EY{P:Program}{ty:TypeId}{k0 k1 k2:IntKind}(h:∀(x y:Operand) (a0 b0 a1 b1 a2 b2:Int),ao P (do eqGuard .eql ty x y (.agg #[.int k0 a0,.int k1 a1,.int k2 a2]) (.agg #[.int k0 b0,.int k1 b1,.int k2 b2]);binOp .eql ty (.agg #[.int k0 a0,.int k1 a1,.int k2 a2]) (.agg #[.int k0 b0,.int k1 b1,.int k2 b2]))=some (.bool (a0==b0 &&(a1==b1 &&(a2==b2 && true)))))
  (h':∀(x y:Operand) (a0 b0 a1 b1 a2 b2:Int),ao P (do eqGuard .neq ty x y (.agg #[.int k0 a0,.int k1 a1,.int k2 a2]) (.agg #[.int k0 b0,.int k1 b1,.int k2 b2]);binOp .neq ty (.agg #[.int k0 a0,.int k1 a1,.int k2 a2]) (.agg #[.int k0 b0,.int k1 b1,.int k2 b2]))=some (.bool (!(a0==b0 &&(a1==b1 &&(a2==b2 && true)))))):JJ P ty [k0,k1,k2]:=λx y l hl=>by
 match l,hl with
 | [(a0,b0),(a1,b1),(a2,b2)],_=>
  have e:(a0==b0 &&(a1==b1 &&(a2==b2 && true)))= @decide (eqP [(a0,b0),(a1,b1),(a2,b2)]) (eqD [(a0,b0),(a1,b1),(a2,b2)]):=eB (by simp [eqP]);exact⟨(h x y a0 b0 a1 b1 a2 b2).trans (by rw [e]),(h' x y a0 b0 a1 b1 a2 b2).trans (by rw [e])⟩
end K
@[reducible] def nE {R:Type} (v:Empty):Option R:=K.afterX.match_1 (λ_=>Option R) v
end Ev
end
noncomputable section
namespace Ev
namespace K
open Go Go.RowKit
set_option maxRecDepth 100000
set_option maxHeartbeats 1000000
def i1:TI:=(⟨.func #[] #[] false,[.nilFunc],1,8⟩:TI)
def i4:TI:=(⟨.bool,[.bool false],1,1⟩:TI)
def i7:TI:=(⟨.struct (cq Tryz.prog 7),[.int .i64 0,.int .i64 0,.bool false,.int .u8 0],4,24⟩:TI)
def i8:TI:=(⟨.struct (cq Tryz.prog 8),[.int .i64 0,.int .i64 0,.bool false,.int .u8 0],4,24⟩:TI)
def i15:TI:=(⟨.pointer 170,[.pointer none],1,8⟩:TI)
def i16:TI:=(⟨.pointer 173,[.pointer none],1,8⟩:TI)
def i17:TI:=(⟨.pointer 181,[.pointer none],1,8⟩:TI)
def i18:TI:=(⟨.struct (cq Tryz.prog 18),[.pointer none],1,8⟩:TI)
def i19:TI:=(⟨.struct (cq Tryz.prog 19),[.pointer none],1,8⟩:TI)
def i22:TI:=(⟨.slice 52,[.slice none 0 0],1,24⟩:TI)
def i23:TI:=(⟨.struct (cq Tryz.prog 23),[.int .i64 0,.slice none 0 0],2,32⟩:TI)
def i24:TI:=(⟨.struct (cq Tryz.prog 24),[.int .i64 0,.slice none 0 0],2,32⟩:TI)
def i25:TI:=(⟨.func #[] #[4] false,[.nilFunc],1,8⟩:TI)
def i26:TI:=(⟨.slice 5,[.slice none 0 0],1,24⟩:TI)
def i29:TI:=(⟨.func #[24] #[26,27] false,[.nilFunc],1,8⟩:TI)
def i30:TI:=(⟨.func #[26,26] #[4] false,[.nilFunc],1,8⟩:TI)
def i31:TI:=(⟨.func #[24] #[4] false,[.nilFunc],1,8⟩:TI)
def i32:TI:=(⟨.struct (cq Tryz.prog 32),[.int .i64 0,.int .i64 0],2,16⟩:TI)
def i33:TI:=(⟨.struct (cq Tryz.prog 33),[.int .i64 0,.int .i64 0],2,16⟩:TI)
def i35:TI:=(⟨.func #[26] #[24,33] false,[.nilFunc],1,8⟩:TI)
def i36:TI:=(⟨.func #[24,24] #[4] false,[.nilFunc],1,8⟩:TI)
def i37:TI:=(⟨.func #[26] #[4] false,[.nilFunc],1,8⟩:TI)
def i38:TI:=(⟨.func #[24] #[27] false,[.nilFunc],1,8⟩:TI)
def i39:TI:=(⟨.func #[22] #[4] false,[.nilFunc],1,8⟩:TI)
def i40:TI:=(⟨.array 2 3,[.int .i64 0,.int .i64 0],2,16⟩:TI)
def i41:TI:=(⟨.slice 54,[.slice none 0 0],1,24⟩:TI)
def i42:TI:=(⟨.func #[3,3,41] #[26,27] false,[.nilFunc],1,8⟩:TI)
def i44:TI:=(⟨.func #[26] #[3,3,41,33] false,[.nilFunc],1,8⟩:TI)
def i45:TI:=(⟨.func #[41,41] #[4] false,[.nilFunc],1,8⟩:TI)
def i46:TI:=(⟨.func #[40,41,26] #[4] false,[.nilFunc],1,8⟩:TI)
def i47:TI:=(⟨.func #[24] #[24] false,[.nilFunc],1,8⟩:TI)
def i48:TI:=(⟨.func #[24,26] #[4] false,[.nilFunc],1,8⟩:TI)
def i49:TI:=(⟨.int .u16,[.int .u16 0],1,2⟩:TI)
def i50:TI:=(⟨.func #[24,49,26] #[4] false,[.nilFunc],1,8⟩:TI)
def i51:TI:=(⟨.struct (cq Tryz.prog 51),[.int .i64 0,.int .i64 0,.int .i64 0],3,24⟩:TI)
def i52:TI:=(⟨.struct (cq Tryz.prog 52),[.int .i64 0,.int .i64 0,.int .i64 0],3,24⟩:TI)
def i53:TI:=(⟨.struct (cq Tryz.prog 53),[.int .i64 0,.int .i64 0,.int .i64 0],3,24⟩:TI)
def i54:TI:=(⟨.struct (cq Tryz.prog 54),[.int .i64 0,.int .i64 0,.int .i64 0],3,24⟩:TI)
def i55:TI:=(⟨.func #[22] #[5] false,[.nilFunc],1,8⟩:TI)
def i56:TI:=(⟨.func #[5] #[26] false,[.nilFunc],1,8⟩:TI)
def i57:TI:=(⟨.func #[89] #[26] true,[.nilFunc],1,8⟩:TI)
def i58:TI:=(⟨.func #[59] #[26] false,[.nilFunc],1,8⟩:TI)
def i59:TI:=(⟨.int .u32,[.int .u32 0],1,4⟩:TI)
def i60:TI:=(⟨.func #[26,61] #[24,33] false,[.nilFunc],1,8⟩:TI)
def i61:TI:=(⟨.func #[98] #[24] false,[.nilFunc],1,8⟩:TI)
def i62:TI:=(⟨.pointer 105,[.pointer none],1,8⟩:TI)
def i63:TI:=(⟨.func #[26] #[62] false,[.nilFunc],1,8⟩:TI)
def i64:TI:=(⟨.func #[62,9] #[] false,[.nilFunc],1,8⟩:TI)
def i65:TI:=(⟨.func #[] #[3] false,[.nilFunc],1,8⟩:TI)
def i66:TI:=(⟨.func #[] #[5] false,[.nilFunc],1,8⟩:TI)
def i67:TI:=(⟨.func #[27,3] #[] false,[.nilFunc],1,8⟩:TI)
def i68:TI:=(⟨.func #[62,3,27] #[3] false,[.nilFunc],1,8⟩:TI)
def i69:TI:=(⟨.func #[] #[33] false,[.nilFunc],1,8⟩:TI)
def i70:TI:=(⟨.func #[22,22] #[4] false,[.nilFunc],1,8⟩:TI)
def i71:TI:=(⟨.func #[52,52] #[4] false,[.nilFunc],1,8⟩:TI)
def i72:TI:=(⟨.func #[3,3,41] #[27] false,[.nilFunc],1,8⟩:TI)
def i73:TI:=(⟨.func #[2] #[26] false,[.nilFunc],1,8⟩:TI)
def i74:TI:=(⟨.func #[54,54] #[4] false,[.nilFunc],1,8⟩:TI)
def i75:TI:=(⟨.struct (cq Tryz.prog 75),[.int .i64 0,.int .i64 0,.slice none 0 0],3,40⟩:TI)
def i76:TI:=(⟨.struct (cq Tryz.prog 76),[.int .i64 0,.int .i64 0,.slice none 0 0],3,40⟩:TI)
def i78:TI:=(⟨.func #[26,79] #[76,33] false,[.nilFunc],1,8⟩:TI)
def i79:TI:=(⟨.func #[98] #[76] false,[.nilFunc],1,8⟩:TI)
def i80:TI:=(⟨.func #[] #[2] false,[.nilFunc],1,8⟩:TI)
def i82:TI:=(⟨.func #[83,22] #[22,27] false,[.nilFunc],1,8⟩:TI)
def i84:TI:=(⟨.func #[22,86] #[4] false,[.nilFunc],1,8⟩:TI)
def i85:TI:=(⟨.func #[3,3] #[4] false,[.nilFunc],1,8⟩:TI)
def i86:TI:=(⟨.func #[52] #[4] false,[.nilFunc],1,8⟩:TI)
def i87:TI:=(⟨.func #[52,52] #[3] false,[.nilFunc],1,8⟩:TI)
def i88:TI:=(⟨.func #[5,3] #[26] false,[.nilFunc],1,8⟩:TI)
def i89:TI:=(⟨.slice 3,[.slice none 0 0],1,24⟩:TI)
def i90:TI:=(⟨.func #[91,3] #[26] false,[.nilFunc],1,8⟩:TI)
def i92:TI:=(⟨.struct (cq Tryz.prog 92),[.int .i64 0,.int .i64 0],2,16⟩:TI)
def i93:TI:=(⟨.struct (cq Tryz.prog 93),[.int .i64 0,.int .i64 0],2,16⟩:TI)
def i95:TI:=(⟨.pointer 127,[.pointer none],1,8⟩:TI)
def i96:TI:=(⟨.func #[26] #[95] false,[.nilFunc],1,8⟩:TI)
def i97:TI:=(⟨.struct (cq Tryz.prog 97),[.pointer none],1,8⟩:TI)
def i98:TI:=(⟨.struct (cq Tryz.prog 98),[.pointer none],1,8⟩:TI)
def i99:TI:=(⟨.func #[4,27,3] #[] false,[.nilFunc],1,8⟩:TI)
def Rn:TI:=(⟨.func #[9] #[] false,[.nilFunc],1,8⟩:TI)
def Ro:TI:=(⟨.func #[3,27] #[3] false,[.nilFunc],1,8⟩:TI)
def Rp:TI:=(⟨.func #[3,103] #[22] false,[.nilFunc],1,8⟩:TI)
def Rq:TI:=(⟨.func #[3] #[52] false,[.nilFunc],1,8⟩:TI)
def Rr:TI:=(⟨.struct (cq Tryz.prog 104),[.slice none 0 0,.int .i64 0,.int .i64 0,.int .i64 0],4,48⟩:TI)
def Rs:TI:=(⟨.struct (cq Tryz.prog 105),[.slice none 0 0,.int .i64 0,.int .i64 0,.int .i64 0],4,48⟩:TI)
def Rt:TI:=(⟨.func #[3] #[26] false,[.nilFunc],1,8⟩:TI)
def Ru:TI:=(⟨.func #[3] #[91] false,[.nilFunc],1,8⟩:TI)
def Rv:TI:=(⟨.func #[] #[59] false,[.nilFunc],1,8⟩:TI)
def Rw:TI:=(⟨.func #[2,3] #[26] false,[.nilFunc],1,8⟩:TI)
def Rx:TI:=(⟨.func #[3,111] #[41] false,[.nilFunc],1,8⟩:TI)
def Ry:TI:=(⟨.func #[3] #[54] false,[.nilFunc],1,8⟩:TI)
def Rz:TI:=(⟨.func #[83] #[4] false,[.nilFunc],1,8⟩:TI)
def RA:TI:=(⟨.slice 115,[.slice none 0 0],1,24⟩:TI)
def RE:TI:=(⟨.struct (cq Tryz.prog 114),[.int .i64 0,.int .u64 0],2,16⟩:TI)
def RF:TI:=(⟨.struct (cq Tryz.prog 115),[.int .i64 0,.int .u64 0],2,16⟩:TI)
def RH:TI:=(⟨.func #[2] #[115] false,[.nilFunc],1,8⟩:TI)
def RI:TI:=(⟨.func #[83,115,115] #[115] false,[.nilFunc],1,8⟩:TI)
def RJ:TI:=(⟨.func #[115] #[2,4] false,[.nilFunc],1,8⟩:TI)
def RK:TI:=(⟨.func #[22,86] #[3] false,[.nilFunc],1,8⟩:TI)
def RL:TI:=(⟨.func #[89] #[3] true,[.nilFunc],1,8⟩:TI)
def RM:TI:=(⟨.func #[3,3] #[3] false,[.nilFunc],1,8⟩:TI)
def RN:TI:=(⟨.func #[59,3] #[26] false,[.nilFunc],1,8⟩:TI)
def RO:TI:=(⟨.func #[26] #[26] false,[.nilFunc],1,8⟩:TI)
def RP:TI:=(⟨.struct (cq Tryz.prog 126),[.slice none 0 0,.int .i64 0,.int .i64 0,.int .i64 0],4,48⟩:TI)
def RQ:TI:=(⟨.struct (cq Tryz.prog 127),[.slice none 0 0,.int .i64 0,.int .i64 0,.int .i64 0],4,48⟩:TI)
def RT:TI:=(⟨.func #[95,3,129] #[5] false,[.nilFunc],1,8⟩:TI)
def RU:TI:=(⟨.func #[26] #[5] false,[.nilFunc],1,8⟩:TI)
def RV:TI:=(⟨.func #[95,3,131] #[2] false,[.nilFunc],1,8⟩:TI)
def RY:TI:=(⟨.func #[26] #[2] false,[.nilFunc],1,8⟩:TI)
def RZ:TI:=(⟨.func #[115,115] #[3] false,[.nilFunc],1,8⟩:TI)
def Sf:TI:=(⟨.func #[4] #[115] false,[.nilFunc],1,8⟩:TI)
def Sg:TI:=(⟨.func #[115,115] #[115] false,[.nilFunc],1,8⟩:TI)
def Si:TI:=(⟨.func #[3] #[4] false,[.nilFunc],1,8⟩:TI)
def Sj:TI:=(⟨.func #[95,3,125] #[26] false,[.nilFunc],1,8⟩:TI)
def Sk:TI:=(⟨.struct (cq Tryz.prog 137),[.int .i64 0,.int .i64 0],2,16⟩:TI)
def Sn:TI:=(⟨.struct (cq Tryz.prog 138),[.int .i64 0,.int .i64 0],2,16⟩:TI)
def So:TI:=(⟨.func #[95,3,141] #[59] false,[.nilFunc],1,8⟩:TI)
def Sp:TI:=(⟨.func #[26] #[59] false,[.nilFunc],1,8⟩:TI)
def Sq:TI:=(⟨.func #[22] #[22] false,[.nilFunc],1,8⟩:TI)
def Sr:TI:=(⟨.func #[83,115] #[2,4] false,[.nilFunc],1,8⟩:TI)
def Ss:TI:=(⟨.func #[22,87] #[] false,[.nilFunc],1,8⟩:TI)
def Su:TI:=(⟨.func #[22,3,3,3,87] #[] false,[.nilFunc],1,8⟩:TI)
def Sv:TI:=(⟨.func #[123] #[3] false,[.nilFunc],1,8⟩:TI)
def Sw:TI:=(⟨.func #[22,3,3,87] #[] false,[.nilFunc],1,8⟩:TI)
def Sy:TI:=(⟨.func #[22,3,3,87] #[3,150] false,[.nilFunc],1,8⟩:TI)
def Sz:TI:=(⟨.func #[22,3,3,87] #[4] false,[.nilFunc],1,8⟩:TI)
def SA:TI:=(⟨.func #[22,3,3,3,87] #[3] false,[.nilFunc],1,8⟩:TI)
def SB:TI:=(⟨.func #[22,3,3,3,87] #[3,4] false,[.nilFunc],1,8⟩:TI)
def SC:TI:=(⟨.func #[59] #[3] false,[.nilFunc],1,8⟩:TI)
def SD:TI:=(⟨.func #[91] #[3] false,[.nilFunc],1,8⟩:TI)
def SE:TI:=(⟨.func #[3] #[123] false,[.nilFunc],1,8⟩:TI)
def SF:TI:=(⟨.func #[] #[91] false,[.nilFunc],1,8⟩:TI)
def SG:TI:=(⟨.func #[22,3,163,87] #[3] false,[.nilFunc],1,8⟩:TI)
def SH:TI:=(⟨.pointer 3,[.pointer none],1,8⟩:TI)
def SI:TI:=(⟨.func #[22,3,3,3,163,87] #[3] false,[.nilFunc],1,8⟩:TI)
def SJ:TI:=(⟨.pointer 159,[.pointer none],1,8⟩:TI)
def SK:TI:=(⟨.func #[22,3,3,163,87] #[3,3] false,[.nilFunc],1,8⟩:TI)
def SM:TI:=(⟨.func #[] #[9] false,[.nilFunc],1,8⟩:TI)
def SN:TI:=(⟨.array 0 16,[],0,0⟩:TI)
def SO:TI:=(⟨.struct (cq Tryz.prog 172),[],0,0⟩:TI)
def SP:TI:=(⟨.struct (cq Tryz.prog 173),[],0,0⟩:TI)
def SQ:TI:=(⟨.func #[182,182] #[4] false,[.nilFunc],1,8⟩:TI)
def SR:TI:=(⟨.pointer 5,[.pointer none],1,8⟩:TI)
def SS:TI:=(⟨.struct (cq Tryz.prog 180),[.int .u64 0,.int .u64 0,.int .u32 0,.int .u8 0,.int .u8 0,.int .u8 0,.int .u8 0,.nilFunc,.pointer none,.int .i32 0,.int .i32 0],11,48⟩:TI)
def ST:TI:=(⟨.struct (cq Tryz.prog 181),[.int .u64 0,.int .u64 0,.int .u32 0,.int .u8 0,.int .u8 0,.int .u8 0,.int .u8 0,.nilFunc,.pointer none,.int .i32 0,.int .i32 0],11,48⟩:TI)
def TT:List (Nat×TI):= [(1,i1),
 (2,(⟨.int .i64,[.int .i64 0],1,8⟩:TI)),
 (3,(⟨.int .i64,[.int .i64 0],1,8⟩:TI)),
 (4,i4),
 (5,(⟨.int .u8,[.int .u8 0],1,1⟩:TI)),
 (6,(⟨.int .u8,[.int .u8 0],1,1⟩:TI)),
 (7,i7),
 (8,i8),
 (12,(⟨.int .u64,[.int .u64 0],1,8⟩:TI)),
 (15,i15),
 (16,i16),
 (17,i17),
 (18,i18),
 (19,i19),
 (21,(⟨.int .i32,[.int .i32 0],1,4⟩:TI)),
 (22,i22),
 (23,i23),
 (24,i24),
 (25,i25),
 (26,i26),
 (27,(⟨.int .i64,[.int .i64 0],1,8⟩:TI)),
 (29,i29),
 (30,i30),
 (31,i31),
 (32,i32),
 (33,i33),
 (35,i35),
 (36,i36),
 (37,i37),
 (38,i38),
 (39,i39),
 (40,i40),
 (41,i41),
 (42,i42),
 (44,i44),
 (45,i45),
 (46,i46),
 (47,i47),
 (48,i48),
 (49,i49),
 (50,i50),
 (51,i51),
 (52,i52),
 (53,i53),
 (54,i54),
 (55,i55),
 (56,i56),
 (57,i57),
 (58,i58),
 (59,i59),
 (60,i60),
 (61,i61),
 (62,i62),
 (63,i63),
 (64,i64),
 (65,i65),
 (66,i66),
 (67,i67),
 (68,i68),
 (69,i69),
 (70,i70),
 (71,i71),
 (72,i72),
 (73,i73),
 (74,i74),
 (75,i75),
 (76,i76),
 (78,i78),
 (79,i79),
 (80,i80),
 (82,i82),
 (83,(⟨.int .i64,[.int .i64 0],1,8⟩:TI)),
 (84,i84),
 (85,i85),
 (86,i86),
 (87,i87),
 (88,i88),
 (89,i89),
 (90,i90),
 (91,(⟨.int .u64,[.int .u64 0],1,8⟩:TI)),
 (92,i92),
 (93,i93),
 (95,i95),
 (96,i96),
 (97,i97),
 (98,i98),
 (99,i99),
 (100,Rn),
 (101,Ro),
 (102,Rp),
 (103,Rq),
 (104,Rr),
 (105,Rs),
 (106,Rt),
 (107,Ru),
 (108,Rv),
 (109,Rw),
 (110,Rx),
 (111,Ry),
 (112,Rz),
 (113,RA),
 (114,RE),
 (115,RF),
 (116,RH),
 (117,RI),
 (119,RJ),
 (120,RK),
 (121,RL),
 (122,RM),
 (123,(⟨.int .u64,[.int .u64 0],1,8⟩:TI)),
 (124,RN),
 (125,RO),
 (126,RP),
 (127,RQ),
 (128,RT),
 (129,RU),
 (130,RV),
 (131,RY),
 (132,RZ),
 (133,Sf),
 (134,Sg),
 (135,Si),
 (136,Sj),
 (137,Sk),
 (138,Sn),
 (140,So),
 (141,Sp),
 (142,Sq),
 (145,Sr),
 (146,Ss),
 (147,Su),
 (148,Sv),
 (149,Sw),
 (150,(⟨.int .i64,[.int .i64 0],1,8⟩:TI)),
 (152,Sy),
 (153,Sz),
 (154,SA),
 (156,SB),
 (157,SC),
 (158,SD),
 (159,(⟨.int .u64,[.int .u64 0],1,8⟩:TI)),
 (160,SE),
 (161,SF),
 (162,SG),
 (163,SH),
 (164,SI),
 (165,SJ),
 (167,SK),
 (168,SM),
 (171,SN),
 (172,SO),
 (173,SP),
 (174,(⟨.int .u8,[.int .u8 0],1,1⟩:TI)),
 (175,(⟨.int .u8,[.int .u8 0],1,1⟩:TI)),
 (176,SQ),
 (177,SR),
 (178,(⟨.int .i32,[.int .i32 0],1,4⟩:TI)),
 (179,(⟨.int .i32,[.int .i32 0],1,4⟩:TI)),
 (180,SS),
 (181,ST)]
theorem tz1:aq Tryz.prog 1=some i1:=by kernel_rfl
theorem tz2:aq Tryz.prog 2=some (⟨.int .i64,[.int .i64 0],1,8⟩:TI):=by kernel_rfl
theorem tz3:aq Tryz.prog 3=some (⟨.int .i64,[.int .i64 0],1,8⟩:TI):=by kernel_rfl
theorem tz4:aq Tryz.prog 4=some i4:=by kernel_rfl
theorem tz5:aq Tryz.prog 5=some (⟨.int .u8,[.int .u8 0],1,1⟩:TI):=by kernel_rfl
theorem tz6:aq Tryz.prog 6=some (⟨.int .u8,[.int .u8 0],1,1⟩:TI):=by kernel_rfl
theorem tz7:aq Tryz.prog 7=some i7:=by kernel_rfl
theorem tz8:aq Tryz.prog 8=some i8:=by kernel_rfl
theorem SU:aq Tryz.prog 12=some (⟨.int .u64,[.int .u64 0],1,8⟩:TI):=by kernel_rfl
theorem SV:aq Tryz.prog 15=some i15:=by kernel_rfl
theorem SW:aq Tryz.prog 16=some i16:=by kernel_rfl
theorem SX:aq Tryz.prog 17=some i17:=by kernel_rfl
theorem SY:aq Tryz.prog 18=some i18:=by kernel_rfl
theorem SZ:aq Tryz.prog 19=some i19:=by kernel_rfl
theorem Ta:aq Tryz.prog 21=some (⟨.int .i32,[.int .i32 0],1,4⟩:TI):=by kernel_rfl
theorem Tb:aq Tryz.prog 22=some i22:=by kernel_rfl
theorem Tc:aq Tryz.prog 23=some i23:=by kernel_rfl
theorem Td:aq Tryz.prog 24=some i24:=by kernel_rfl
theorem Te:aq Tryz.prog 25=some i25:=by kernel_rfl
theorem Tf:aq Tryz.prog 26=some i26:=by kernel_rfl
theorem Tg:aq Tryz.prog 27=some (⟨.int .i64,[.int .i64 0],1,8⟩:TI):=by kernel_rfl
theorem Ti:aq Tryz.prog 29=some i29:=by kernel_rfl
theorem Tj:aq Tryz.prog 30=some i30:=by kernel_rfl
theorem Tk:aq Tryz.prog 31=some i31:=by kernel_rfl
theorem Tl:aq Tryz.prog 32=some i32:=by kernel_rfl
theorem Tm:aq Tryz.prog 33=some i33:=by kernel_rfl
theorem Tn:aq Tryz.prog 35=some i35:=by kernel_rfl
theorem To:aq Tryz.prog 36=some i36:=by kernel_rfl
theorem Tp:aq Tryz.prog 37=some i37:=by kernel_rfl
theorem Tq:aq Tryz.prog 38=some i38:=by kernel_rfl
theorem Tr:aq Tryz.prog 39=some i39:=by kernel_rfl
theorem Ts:aq Tryz.prog 40=some i40:=by kernel_rfl
theorem Tt:aq Tryz.prog 41=some i41:=by kernel_rfl
theorem Tu:aq Tryz.prog 42=some i42:=by kernel_rfl
theorem Tv:aq Tryz.prog 44=some i44:=by kernel_rfl
theorem Tw:aq Tryz.prog 45=some i45:=by kernel_rfl
theorem Tx:aq Tryz.prog 46=some i46:=by kernel_rfl
theorem Tz:aq Tryz.prog 47=some i47:=by kernel_rfl
theorem TA:aq Tryz.prog 48=some i48:=by kernel_rfl
theorem TB:aq Tryz.prog 49=some i49:=by kernel_rfl
theorem TC:aq Tryz.prog 50=some i50:=by kernel_rfl
theorem TE:aq Tryz.prog 51=some i51:=by kernel_rfl
theorem TF:aq Tryz.prog 52=some i52:=by kernel_rfl
theorem TG:aq Tryz.prog 53=some i53:=by kernel_rfl
theorem TH:aq Tryz.prog 54=some i54:=by kernel_rfl
theorem TJ:aq Tryz.prog 55=some i55:=by kernel_rfl
theorem TK:aq Tryz.prog 56=some i56:=by kernel_rfl
theorem TL:aq Tryz.prog 57=some i57:=by kernel_rfl
theorem TM:aq Tryz.prog 58=some i58:=by kernel_rfl
theorem TN:aq Tryz.prog 59=some i59:=by kernel_rfl
theorem TO:aq Tryz.prog 60=some i60:=by kernel_rfl
theorem TP:aq Tryz.prog 61=some i61:=by kernel_rfl
theorem TQ:aq Tryz.prog 62=some i62:=by kernel_rfl
theorem TR:aq Tryz.prog 63=some i63:=by kernel_rfl
theorem TS:aq Tryz.prog 64=some i64:=by kernel_rfl
theorem TU:aq Tryz.prog 65=some i65:=by kernel_rfl
theorem TV:aq Tryz.prog 66=some i66:=by kernel_rfl
theorem TW:aq Tryz.prog 67=some i67:=by kernel_rfl
theorem TX:aq Tryz.prog 68=some i68:=by kernel_rfl
theorem TY:aq Tryz.prog 69=some i69:=by kernel_rfl
theorem TZ:aq Tryz.prog 70=some i70:=by kernel_rfl
theorem Ua:aq Tryz.prog 71=some i71:=by kernel_rfl
theorem Ub:aq Tryz.prog 72=some i72:=by kernel_rfl
theorem Uc:aq Tryz.prog 73=some i73:=by kernel_rfl
theorem Ud:aq Tryz.prog 74=some i74:=by kernel_rfl
theorem Ue:aq Tryz.prog 75=some i75:=by kernel_rfl
theorem Uf:aq Tryz.prog 76=some i76:=by kernel_rfl
theorem Ug:aq Tryz.prog 78=some i78:=by kernel_rfl
theorem Uh:aq Tryz.prog 79=some i79:=by kernel_rfl
theorem Ui:aq Tryz.prog 80=some i80:=by kernel_rfl
theorem Uj:aq Tryz.prog 82=some i82:=by kernel_rfl
theorem Uk:aq Tryz.prog 83=some (⟨.int .i64,[.int .i64 0],1,8⟩:TI):=by kernel_rfl
theorem Ul:aq Tryz.prog 84=some i84:=by kernel_rfl
theorem Um:aq Tryz.prog 85=some i85:=by kernel_rfl
theorem Un:aq Tryz.prog 86=some i86:=by kernel_rfl
theorem Uo:aq Tryz.prog 87=some i87:=by kernel_rfl
theorem Uq:aq Tryz.prog 88=some i88:=by kernel_rfl
theorem Ur:aq Tryz.prog 89=some i89:=by kernel_rfl
theorem Us:aq Tryz.prog 90=some i90:=by kernel_rfl
theorem Ut:aq Tryz.prog 91=some (⟨.int .u64,[.int .u64 0],1,8⟩:TI):=by kernel_rfl
theorem Uu:aq Tryz.prog 92=some i92:=by kernel_rfl
theorem Uv:aq Tryz.prog 93=some i93:=by kernel_rfl
theorem Uw:aq Tryz.prog 95=some i95:=by kernel_rfl
theorem Ux:aq Tryz.prog 96=some i96:=by kernel_rfl
theorem Uy:aq Tryz.prog 97=some i97:=by kernel_rfl
theorem Uz:aq Tryz.prog 98=some i98:=by kernel_rfl
theorem UA:aq Tryz.prog 99=some i99:=by kernel_rfl
theorem Mw:aq Tryz.prog 100=some Rn:=by kernel_rfl
theorem My:aq Tryz.prog 101=some Ro:=by kernel_rfl
theorem Mz:aq Tryz.prog 102=some Rp:=by kernel_rfl
theorem MA:aq Tryz.prog 103=some Rq:=by kernel_rfl
theorem MC:aq Tryz.prog 104=some Rr:=by kernel_rfl
theorem MD:aq Tryz.prog 105=some Rs:=by kernel_rfl
theorem ME:aq Tryz.prog 106=some Rt:=by kernel_rfl
theorem MF:aq Tryz.prog 107=some Ru:=by kernel_rfl
theorem MG:aq Tryz.prog 108=some Rv:=by kernel_rfl
theorem MH:aq Tryz.prog 109=some Rw:=by kernel_rfl
theorem MI:aq Tryz.prog 110=some Rx:=by kernel_rfl
theorem MJ:aq Tryz.prog 111=some Ry:=by kernel_rfl
theorem MK:aq Tryz.prog 112=some Rz:=by kernel_rfl
theorem ML:aq Tryz.prog 113=some RA:=by kernel_rfl
theorem MM:aq Tryz.prog 114=some RE:=by kernel_rfl
theorem MN:aq Tryz.prog 115=some RF:=by kernel_rfl
theorem MO:aq Tryz.prog 116=some RH:=by kernel_rfl
theorem MP:aq Tryz.prog 117=some RI:=by kernel_rfl
theorem MQ:aq Tryz.prog 119=some RJ:=by kernel_rfl
theorem MR:aq Tryz.prog 120=some RK:=by kernel_rfl
theorem MS:aq Tryz.prog 121=some RL:=by kernel_rfl
theorem MT:aq Tryz.prog 122=some RM:=by kernel_rfl
theorem MU:aq Tryz.prog 123=some (⟨.int .u64,[.int .u64 0],1,8⟩:TI):=by kernel_rfl
theorem MV:aq Tryz.prog 124=some RN:=by kernel_rfl
theorem MW:aq Tryz.prog 125=some RO:=by kernel_rfl
theorem MX:aq Tryz.prog 126=some RP:=by kernel_rfl
theorem MY:aq Tryz.prog 127=some RQ:=by kernel_rfl
theorem MZ:aq Tryz.prog 128=some RT:=by kernel_rfl
theorem Na:aq Tryz.prog 129=some RU:=by kernel_rfl
theorem Nb:aq Tryz.prog 130=some RV:=by kernel_rfl
theorem Nc:aq Tryz.prog 131=some RY:=by kernel_rfl
theorem Nd:aq Tryz.prog 132=some RZ:=by kernel_rfl
theorem Nf:aq Tryz.prog 133=some Sf:=by kernel_rfl
theorem Ng:aq Tryz.prog 134=some Sg:=by kernel_rfl
theorem Nh:aq Tryz.prog 135=some Si:=by kernel_rfl
theorem Ni:aq Tryz.prog 136=some Sj:=by kernel_rfl
theorem Nj:aq Tryz.prog 137=some Sk:=by kernel_rfl
theorem Nk:aq Tryz.prog 138=some Sn:=by kernel_rfl
theorem Nl:aq Tryz.prog 140=some So:=by kernel_rfl
theorem Nm:aq Tryz.prog 141=some Sp:=by kernel_rfl
theorem Nn:aq Tryz.prog 142=some Sq:=by kernel_rfl
theorem No:aq Tryz.prog 145=some Sr:=by kernel_rfl
theorem Np:aq Tryz.prog 146=some Ss:=by kernel_rfl
theorem Nq:aq Tryz.prog 147=some Su:=by kernel_rfl
theorem Nr:aq Tryz.prog 148=some Sv:=by kernel_rfl
theorem Ns:aq Tryz.prog 149=some Sw:=by kernel_rfl
theorem Nt:aq Tryz.prog 150=some (⟨.int .i64,[.int .i64 0],1,8⟩:TI):=by kernel_rfl
theorem Nu:aq Tryz.prog 152=some Sy:=by kernel_rfl
theorem Nv:aq Tryz.prog 153=some Sz:=by kernel_rfl
theorem Nw:aq Tryz.prog 154=some SA:=by kernel_rfl
theorem Nx:aq Tryz.prog 156=some SB:=by kernel_rfl
theorem Ny:aq Tryz.prog 157=some SC:=by kernel_rfl
theorem Nz:aq Tryz.prog 158=some SD:=by kernel_rfl
theorem NA:aq Tryz.prog 159=some (⟨.int .u64,[.int .u64 0],1,8⟩:TI):=by kernel_rfl
theorem NC:aq Tryz.prog 160=some SE:=by kernel_rfl
theorem ND:aq Tryz.prog 161=some SF:=by kernel_rfl
theorem NE:aq Tryz.prog 162=some SG:=by kernel_rfl
theorem NF:aq Tryz.prog 163=some SH:=by kernel_rfl
theorem NG:aq Tryz.prog 164=some SI:=by kernel_rfl
theorem NH:aq Tryz.prog 165=some SJ:=by kernel_rfl
theorem NI:aq Tryz.prog 167=some SK:=by kernel_rfl
theorem NJ:aq Tryz.prog 168=some SM:=by kernel_rfl
theorem NK:aq Tryz.prog 171=some SN:=by kernel_rfl
theorem NL:aq Tryz.prog 172=some SO:=by kernel_rfl
theorem NM:aq Tryz.prog 173=some SP:=by kernel_rfl
theorem NN:aq Tryz.prog 174=some (⟨.int .u8,[.int .u8 0],1,1⟩:TI):=by kernel_rfl
theorem NO:aq Tryz.prog 175=some (⟨.int .u8,[.int .u8 0],1,1⟩:TI):=by kernel_rfl
theorem NP:aq Tryz.prog 176=some SQ:=by kernel_rfl
theorem NQ:aq Tryz.prog 177=some SR:=by kernel_rfl
theorem NR:aq Tryz.prog 178=some (⟨.int .i32,[.int .i32 0],1,4⟩:TI):=by kernel_rfl
theorem NS:aq Tryz.prog 179=some (⟨.int .i32,[.int .i32 0],1,4⟩:TI):=by kernel_rfl
theorem NT:aq Tryz.prog 180=some SS:=by kernel_rfl
theorem NU:aq Tryz.prog 181=some ST:=by kernel_rfl
theorem DD:Tryz.prog.follows .mixedOrders=true:=by kernel_rfl
theorem DE:Eo Tryz.prog=true:=by kernel_rfl
def ay:List TD->Option (Kind×List TD):=λ_=>none
theorem EZ(x y:Operand)(a0 b0 a1 b1:Int):ao Tryz.prog (do eqGuard .eql 33 x y (.agg #[.int .i64 a0,.int .i64 a1]) (.agg #[.int .i64 b0,.int .i64 b1]);binOp .eql 33 (.agg #[.int .i64 a0,.int .i64 a1]) (.agg #[.int .i64 b0,.int .i64 b1]))=some (.bool ((a0==b0 &&(a1==b1 && true)))):=by
 refine oT (by kernel_rfl) ((dV 9999 33 #[.int .i64 a0,.int .i64 a1] #[.int .i64 b0,.int .i64 b1] (fs:=cq Tryz.prog 32) (by kernel_rfl) (by kernel_rfl)).trans ?_);rw [show(cq Tryz.prog 32).toList= [fld Tryz.prog 32 0,fld Tryz.prog 32 1]by kernel_rfl];exact((bh (k:= .i64) (k':= .i64) (by kernel_rfl) (by kernel_rfl) (by kernel_rfl) (by kernel_rfl)).trans (de ((bh (k:= .i64) (k':= .i64) (by kernel_rfl) (by kernel_rfl) (by kernel_rfl) (by kernel_rfl)).trans (de dm))))
theorem Fc(x y:Operand)(a0 b0 a1 b1:Int):ao Tryz.prog (do eqGuard .neq 33 x y (.agg #[.int .i64 a0,.int .i64 a1]) (.agg #[.int .i64 b0,.int .i64 b1]);binOp .neq 33 (.agg #[.int .i64 a0,.int .i64 a1]) (.agg #[.int .i64 b0,.int .i64 b1]))=some (.bool (!(a0==b0 &&(a1==b1 && true)))):=by
 refine oU (by kernel_rfl) ((dV 9999 33 #[.int .i64 a0,.int .i64 a1] #[.int .i64 b0,.int .i64 b1] (fs:=cq Tryz.prog 32) (by kernel_rfl) (by kernel_rfl)).trans ?_);rw [show(cq Tryz.prog 32).toList= [fld Tryz.prog 32 0,fld Tryz.prog 32 1]by kernel_rfl];exact((bh (k:= .i64) (k':= .i64) (by kernel_rfl) (by kernel_rfl) (by kernel_rfl) (by kernel_rfl)).trans (de ((bh (k:= .i64) (k':= .i64) (by kernel_rfl) (by kernel_rfl) (by kernel_rfl) (by kernel_rfl)).trans (de dm))))
theorem Fd(x y:Operand)(a0 b0 a1 b1 a2 b2:Int):ao Tryz.prog (do eqGuard .eql 52 x y (.agg #[.int .i64 a0,.int .i64 a1,.int .i64 a2]) (.agg #[.int .i64 b0,.int .i64 b1,.int .i64 b2]);binOp .eql 52 (.agg #[.int .i64 a0,.int .i64 a1,.int .i64 a2]) (.agg #[.int .i64 b0,.int .i64 b1,.int .i64 b2]))=some (.bool ((a0==b0 &&(a1==b1 &&(a2==b2 && true))))):=by
 refine oT (by kernel_rfl) ((dV 9999 52 #[.int .i64 a0,.int .i64 a1,.int .i64 a2] #[.int .i64 b0,.int .i64 b1,.int .i64 b2] (fs:=cq Tryz.prog 51) (by kernel_rfl) (by kernel_rfl)).trans ?_);rw [show(cq Tryz.prog 51).toList= [fld Tryz.prog 51 0,fld Tryz.prog 51 1,fld Tryz.prog 51 2]by kernel_rfl];exact((bh (k:= .i64) (k':= .i64) (by kernel_rfl) (by kernel_rfl) (by kernel_rfl) (by kernel_rfl)).trans (de ((bh (k:= .i64) (k':= .i64) (by kernel_rfl) (by kernel_rfl) (by kernel_rfl) (by kernel_rfl)).trans (de ((bh (k:= .i64) (k':= .i64) (by kernel_rfl) (by kernel_rfl) (by kernel_rfl) (by kernel_rfl)).trans (de dm))))))
theorem Fe(x y:Operand)(a0 b0 a1 b1 a2 b2:Int):ao Tryz.prog (do eqGuard .neq 52 x y (.agg #[.int .i64 a0,.int .i64 a1,.int .i64 a2]) (.agg #[.int .i64 b0,.int .i64 b1,.int .i64 b2]);binOp .neq 52 (.agg #[.int .i64 a0,.int .i64 a1,.int .i64 a2]) (.agg #[.int .i64 b0,.int .i64 b1,.int .i64 b2]))=some (.bool (!(a0==b0 &&(a1==b1 &&(a2==b2 && true))))):=by
 refine oU (by kernel_rfl) ((dV 9999 52 #[.int .i64 a0,.int .i64 a1,.int .i64 a2] #[.int .i64 b0,.int .i64 b1,.int .i64 b2] (fs:=cq Tryz.prog 51) (by kernel_rfl) (by kernel_rfl)).trans ?_);rw [show(cq Tryz.prog 51).toList= [fld Tryz.prog 51 0,fld Tryz.prog 51 1,fld Tryz.prog 51 2]by kernel_rfl];exact((bh (k:= .i64) (k':= .i64) (by kernel_rfl) (by kernel_rfl) (by kernel_rfl) (by kernel_rfl)).trans (de ((bh (k:= .i64) (k':= .i64) (by kernel_rfl) (by kernel_rfl) (by kernel_rfl) (by kernel_rfl)).trans (de ((bh (k:= .i64) (k':= .i64) (by kernel_rfl) (by kernel_rfl) (by kernel_rfl) (by kernel_rfl)).trans (de dm))))))
theorem Ff(x y:Operand)(a0 b0 a1 b1 a2 b2:Int):ao Tryz.prog (do eqGuard .eql 54 x y (.agg #[.int .i64 a0,.int .i64 a1,.int .i64 a2]) (.agg #[.int .i64 b0,.int .i64 b1,.int .i64 b2]);binOp .eql 54 (.agg #[.int .i64 a0,.int .i64 a1,.int .i64 a2]) (.agg #[.int .i64 b0,.int .i64 b1,.int .i64 b2]))=some (.bool ((a0==b0 &&(a1==b1 &&(a2==b2 && true))))):=by
 refine oT (by kernel_rfl) ((dV 9999 54 #[.int .i64 a0,.int .i64 a1,.int .i64 a2] #[.int .i64 b0,.int .i64 b1,.int .i64 b2] (fs:=cq Tryz.prog 53) (by kernel_rfl) (by kernel_rfl)).trans ?_);rw [show(cq Tryz.prog 53).toList= [fld Tryz.prog 53 0,fld Tryz.prog 53 1,fld Tryz.prog 53 2]by kernel_rfl];exact((bh (k:= .i64) (k':= .i64) (by kernel_rfl) (by kernel_rfl) (by kernel_rfl) (by kernel_rfl)).trans (de ((bh (k:= .i64) (k':= .i64) (by kernel_rfl) (by kernel_rfl) (by kernel_rfl) (by kernel_rfl)).trans (de ((bh (k:= .i64) (k':= .i64) (by kernel_rfl) (by kernel_rfl) (by kernel_rfl) (by kernel_rfl)).trans (de dm))))))
theorem Fg(x y:Operand)(a0 b0 a1 b1 a2 b2:Int):ao Tryz.prog (do eqGuard .neq 54 x y (.agg #[.int .i64 a0,.int .i64 a1,.int .i64 a2]) (.agg #[.int .i64 b0,.int .i64 b1,.int .i64 b2]);binOp .neq 54 (.agg #[.int .i64 a0,.int .i64 a1,.int .i64 a2]) (.agg #[.int .i64 b0,.int .i64 b1,.int .i64 b2]))=some (.bool (!(a0==b0 &&(a1==b1 &&(a2==b2 && true))))):=by
 refine oU (by kernel_rfl) ((dV 9999 54 #[.int .i64 a0,.int .i64 a1,.int .i64 a2] #[.int .i64 b0,.int .i64 b1,.int .i64 b2] (fs:=cq Tryz.prog 53) (by kernel_rfl) (by kernel_rfl)).trans ?_);rw [show(cq Tryz.prog 53).toList= [fld Tryz.prog 53 0,fld Tryz.prog 53 1,fld Tryz.prog 53 2]by kernel_rfl];exact((bh (k:= .i64) (k':= .i64) (by kernel_rfl) (by kernel_rfl) (by kernel_rfl) (by kernel_rfl)).trans (de ((bh (k:= .i64) (k':= .i64) (by kernel_rfl) (by kernel_rfl) (by kernel_rfl) (by kernel_rfl)).trans (de ((bh (k:= .i64) (k':= .i64) (by kernel_rfl) (by kernel_rfl) (by kernel_rfl) (by kernel_rfl)).trans (de dm))))))
theorem BT(x y:Operand)(a0 b0 a1 b1:Int):ao Tryz.prog (do eqGuard .eql 115 x y (.agg #[.int .i64 a0,.int .u64 a1]) (.agg #[.int .i64 b0,.int .u64 b1]);binOp .eql 115 (.agg #[.int .i64 a0,.int .u64 a1]) (.agg #[.int .i64 b0,.int .u64 b1]))=some (.bool ((a0==b0 &&(a1==b1 && true)))):=by
 refine oT (by kernel_rfl) ((dV 9999 115 #[.int .i64 a0,.int .u64 a1] #[.int .i64 b0,.int .u64 b1] (fs:=cq Tryz.prog 114) (by kernel_rfl) (by kernel_rfl)).trans ?_);rw [show(cq Tryz.prog 114).toList= [fld Tryz.prog 114 0,fld Tryz.prog 114 1]by kernel_rfl];exact((bh (k:= .i64) (k':= .i64) (by kernel_rfl) (by kernel_rfl) (by kernel_rfl) (by kernel_rfl)).trans (de ((bh (k:= .u64) (k':= .u64) (by kernel_rfl) (by kernel_rfl) (by kernel_rfl) (by kernel_rfl)).trans (de dm))))
theorem BV(x y:Operand)(a0 b0 a1 b1:Int):ao Tryz.prog (do eqGuard .neq 115 x y (.agg #[.int .i64 a0,.int .u64 a1]) (.agg #[.int .i64 b0,.int .u64 b1]);binOp .neq 115 (.agg #[.int .i64 a0,.int .u64 a1]) (.agg #[.int .i64 b0,.int .u64 b1]))=some (.bool (!(a0==b0 &&(a1==b1 && true)))):=by
 refine oU (by kernel_rfl) ((dV 9999 115 #[.int .i64 a0,.int .u64 a1] #[.int .i64 b0,.int .u64 b1] (fs:=cq Tryz.prog 114) (by kernel_rfl) (by kernel_rfl)).trans ?_);rw [show(cq Tryz.prog 114).toList= [fld Tryz.prog 114 0,fld Tryz.prog 114 1]by kernel_rfl];exact((bh (k:= .i64) (k':= .i64) (by kernel_rfl) (by kernel_rfl) (by kernel_rfl) (by kernel_rfl)).trans (de ((bh (k:= .u64) (k':= .u64) (by kernel_rfl) (by kernel_rfl) (by kernel_rfl) (by kernel_rfl)).trans (de dm))))
def EQS:List (Nat×List IntKind):= [(33,[.i64,.i64]),(52,[.i64,.i64,.i64]),(54,[.i64,.i64,.i64]),(115,[.i64,.u64])]
def fi7:FI:=fiF Tryz.f7
def UB:FI:=fiF Tryz.f10
def UC:FI:=fiF Tryz.f17
def UD:FI:=fiF Tryz.f18
def PF:FI:=fiF Tryz.f24
def UE:FI:=fiF Tryz.f26
def UF:FI:=fiF Tryz.f30
def PG:FI:=fiF Tryz.f43
def PH:FI:=fiF Tryz.f51
def UG:FI:=fiF Tryz.f56
def UH:FI:=fiF Tryz.f59
def PI:FI:=fiF Tryz.f81
def PJ:FI:=fiF Tryz.f82
def PK:FI:=fiF Tryz.f83
def PL:FI:=fiF Tryz.f84
def UI:FI:=fiF Tryz.f86
def UJ:FI:=fiF Tryz.f87
def PM:FI:=fiF Tryz.f99
def Ki:FI:=fiF Tryz.f100
def Kj:FI:=fiF Tryz.f101
def NV:FI:=fiF Tryz.f102
def NW:FI:=fiF Tryz.f108
def NX:FI:=fiF Tryz.f110
def NY:FI:=fiF Tryz.f111
def NZ:FI:=fiF Tryz.f112
def Oa:FI:=fiF Tryz.f117
def Ob:FI:=fiF Tryz.f118
def Oc:FI:=fiF Tryz.f119
def Od:FI:=fiF Tryz.f120
def Oe:FI:=fiF Tryz.f123
abbrev yD3:TyD:=(true,.C (.I .i64) (.I .u64))
abbrev yD2:TyD:=(true,.C (.I .i64) (.C (.I .i64) (.I .i64)))
abbrev yD1:TyD:=(false,.S (.C (.I .i64) (.C (.I .i64) (.I .i64))))
abbrev yD0:TyD:=(true,.C (.I .i64) (.S (.C (.I .i64) (.C (.I .i64) (.I .i64)))))
end K
end Ev
end
noncomputable section
namespace Ev
namespace K
open Go Go.RowKit
set_option maxRecDepth 100000
set_option maxHeartbeats 1000000
def GP:dH:= []
def xM:KG:=⟨TT,EQS,[],[]⟩
def jo:ba [(false,.I .i64)]->Option (OutK.val (.data true [yD3])):=eG xM GP NY 111 0 [(false,.I .i64)] (.data true [yD3])
def qG:bu:=⟨111,[(false,.I .i64)],.data true [yD3],jo,1⟩
def uY:dH:= []
def lh:KG:=⟨TT,EQS,[],[]⟩
def ee:ba [yD3,yD3]->Option (OutK.val (.data true [(false,.I .i64)])):=eG lh uY Oe 123 0 [yD3,yD3] (.data true [(false,.I .i64)])
def lk:bu:=⟨123,[yD3,yD3],.data true [(false,.I .i64)],ee,1⟩
def wh:dH:= []
def mF:KG:=⟨TT,EQS,[lk],[]⟩
def eT:ba [yD3,yD3]->Option (OutK.val (.data true [yD3])):=eG mF wh Oa 117 0 [yD3,yD3] (.data true [yD3])
def mG:bu:=⟨117,[yD3,yD3],.data true [yD3],eT,2⟩
def zA:dH:= []
def pu:KG:=⟨TT,EQS,[qG],[]⟩
def eR:ba [(false,.B)]->Option (OutK.val (.data true [yD3])):=eG pu zA Ob 118 0 [(false,.B)] (.data true [yD3])
def pw:bu:=⟨118,[(false,.B)],.data true [yD3],eR,2⟩
def DF:dH:= []
def uZ:KG:=⟨TT,EQS,[],[]⟩
def iP:ba [yD3,yD3]->Option (OutK.val (.data true [yD3])):=eG uZ DF Oc 119 0 [yD3,yD3] (.data true [yD3])
def vc:bu:=⟨119,[yD3,yD3],.data true [yD3],iP,1⟩
def DG:dH:= [(110,⟨[⟨true,2,9,[4,5,6,7],⟨[],[],[]⟩,[(.normal,⟨[(8,false,[.d true .B])],[],[]⟩)]⟩],[]⟩)]
def vd:KG:=⟨TT,EQS,[mG,pw,vc],[]⟩
def jW:ba [(false,.I .i64),yD3,yD3]->Option (OutK.val (.data true [yD3])):=eG vd DG NX 110 0 [(false,.I .i64),yD3,yD3] (.data true [yD3])
def DH:bu:=⟨110,[(false,.I .i64),yD3,yD3],.data true [yD3],jW,3⟩
def wi:dH:= []
def mH:KG:=⟨TT,EQS,[qG],[]⟩
def fW:ba [yD3]->Option (OutK.val (.data true [(false,.I .i64),(false,.B)])):=eG mH wi Od 120 0 [yD3] (.data true [(false,.I .i64),(false,.B)])
def mI:bu:=⟨120,[yD3],.data true [(false,.I .i64),(false,.B)],fW,2⟩
def wj:dH:= []
def mJ:KG:=⟨TT,EQS,[mI],[]⟩
def fX:ba [(false,.I .i64),yD3]->Option (OutK.val (.data true [(false,.I .i64),(false,.B)])):=eG mJ wj NZ 112 0 [(false,.I .i64),yD3] (.data true [(false,.I .i64),(false,.B)])
def wk:bu:=⟨112,[(false,.I .i64),yD3],.data true [(false,.I .i64),(false,.B)],fX,3⟩
def GQ:dH:= []
def xN:KG:=⟨TT,EQS,[],[]⟩
def og:ba [(false,.I .i64)]->Option (OutK.val (.data true [(false,.B)])):=eG xN GQ NW 108 0 [(false,.I .i64)] (.data true [(false,.B)])
def GR:bu:=⟨108,[(false,.I .i64)],.data true [(false,.B)],og,1⟩
def zB:dH:= [(86,⟨[⟨false,3,0,[3,6,7],⟨[(8,false,[.d true (.I .i64)])],[],[]⟩,[(.exit 0,⟨[],[],[]⟩),(.ret,⟨[(2,false,[.d true (.I .i64)])],[],[]⟩)]⟩],[]⟩)]
def px:KG:=⟨TT,EQS,[],[]⟩
def fI:ba [(false,.S (.I .i64))]->Option (OutK.val (.data true [(false,.I .i64)])):=eG px zB UI 86 0 [(false,.S (.I .i64))] (.data true [(false,.I .i64)])
def py:bu:=⟨86,[(false,.S (.I .i64))],.data true [(false,.I .i64)],fI,1⟩
def rU:dH:= []
def jK:KG:=⟨TT,EQS,[],[]⟩
def dD:ba [(false,.I .i64)]->Option (OutK.val (.data true [(false,.B)])):=eG jK rU NV 102 0 [(false,.I .i64)] (.data true [(false,.B)])
def jL:bu:=⟨102,[(false,.I .i64)],.data true [(false,.B)],dD,1⟩
def pz:dH:= []
def iu:KG:=⟨TT,EQS,[jL],[]⟩
def cn:ba [(false,.I .i64),(false,.I .i64)]->Option (OutK.val (.data true [(false,.I .i64)])):=eG iu pz UJ 87 0 [(false,.I .i64),(false,.I .i64)] (.data true [(false,.I .i64)])
def iv:bu:=⟨87,[(false,.I .i64),(false,.I .i64)],.data true [(false,.I .i64)],cn,2⟩
def ve:dH:= [(56,⟨[],[(1,⟨[[],[],[],[],[],[],[],[],[],[],[],[],[]],[(false,[]),(false,[]),(false,[]),(false,[]),(false,[]),(false,[]),(false,[]),(false,[]),(false,[]),(false,[]),(true,[]),(false,[]),(false,[])]⟩)]⟩)]
def ll:KG:=⟨TT,EQS,[py,iv],[]⟩
def eh:ba [yD2,yD2]->Option (OutK.val (.data true [(false,.I .i64)])):=eG ll ve UG 56 0 [yD2,yD2] (.data true [(false,.I .i64)])
def lq:bu:=⟨56,[yD2,yD2],.data true [(false,.I .i64)],eh,3⟩
def wl:dH:= [(26,⟨[⟨false,2,0,[0],⟨[(3,false,[.d true (.I .i64)])],[],[]⟩,[(.exit 0,⟨[],[],[]⟩),(.ret,⟨[(2,false,[.d true .B])],[],[]⟩)]⟩],[]⟩)]
def mK:KG:=⟨TT,EQS,[lq],[]⟩
def dS:ba [yD1]->Option (OutK.val (.data true [(false,.B)])):=eG mK wl UE 26 0 [yD1] (.data true [(false,.B)])
def wm:bu:=⟨26,[yD1],.data true [(false,.B)],dS,4⟩
def wn:dH:= []
def iI:KG:=⟨TT,EQS,[],[]⟩
def cJ:ba [yD2,yD2]->Option (OutK.val (.data true [(false,.B)])):=eG iI wn PG 43 0 [yD2,yD2] (.data true [(false,.B)])
def fU:bu:=⟨43,[yD2,yD2],.data true [(false,.B)],cJ,1⟩
def DI:dH:= []
def nO:KG:=⟨TT,EQS,[],[]⟩
def iQ:ba [(false,.I .i64)]->Option (OutK.val (.data true [(false,.B)])):=eG nO DI PI 81 0 [(false,.I .i64)] (.data true [(false,.B)])
def nQ:bu:=⟨81,[(false,.I .i64)],.data true [(false,.B)],iQ,1⟩
def DK:dH:= []
def nR:KG:=⟨TT,EQS,[],[]⟩
def iR:ba [(false,.I .i64)]->Option (OutK.val (.data true [yD3])):=eG nR DK PJ 82 0 [(false,.I .i64)] (.data true [yD3])
def nS:bu:=⟨82,[(false,.I .i64)],.data true [yD3],iR,1⟩
def rW:dH:= []
def gn:KG:=⟨TT,EQS,[],[]⟩
def cO:ba [yD3,yD3]->Option (OutK.val (.data true [(false,.I .i64)])):=eG gn rW PM 99 0 [yD3,yD3] (.data true [(false,.I .i64)])
def go:bu:=⟨99,[yD3,yD3],.data true [(false,.I .i64)],cO,1⟩
def wo:dH:= []
def iJ:KG:=⟨TT,EQS,[],[]⟩
def dT:ba [(false,.B)]->Option (OutK.val (.data true [yD3])):=eG iJ wo Ki 100 0 [(false,.B)] (.data true [yD3])
def iK:bu:=⟨100,[(false,.B)],.data true [yD3],dT,1⟩
def BX:dH:= [(101,⟨[⟨true,3,5,[2,4,5],⟨[(6,false,[.d true (.I .i64)])],[],[]⟩,[(.normal,⟨[(6,false,[.d true (.I .i64)])],[],[]⟩)]⟩],[]⟩)]
def lr:KG:=⟨TT,EQS,[],[]⟩
def gC:ba [yD3,yD3]->Option (OutK.val (.data true [yD3])):=eG lr BX Kj 101 0 [yD3,yD3] (.data true [yD3])
def lu:bu:=⟨101,[yD3,yD3],.data true [yD3],gC,1⟩
def BY:dH:= [(83,⟨[⟨true,3,9,[4,5,6,7],⟨[],[],[]⟩,[(.normal,⟨[(9,false,[.d true .B])],[],[]⟩)]⟩],[]⟩)]
def lv:KG:=⟨TT,EQS,[go,iK,lu],[]⟩
def gD:ba [(false,.I .i64),yD3,yD3]->Option (OutK.val (.data true [yD3])):=eG lv BY PK 83 0 [(false,.I .i64),yD3,yD3] (.data true [yD3])
def lx:bu:=⟨83,[(false,.I .i64),yD3,yD3],.data true [yD3],gD,2⟩
def vh:dH:= []
def ie:KG:=⟨TT,EQS,[],[]⟩
def dn:ba [yD3]->Option (OutK.val (.data true [(false,.I .i64),(false,.B)])):=eG ie vh PL 84 0 [yD3] (.data true [(false,.I .i64),(false,.B)])
def ig:bu:=⟨84,[yD3],.data true [(false,.I .i64),(false,.B)],dn,1⟩
def rX:dH:= [(51,⟨[⟨false,6,0,[0,1],⟨[(6,false,[.m (.C (.I .i64) (.C (.I .i64) (.I .i64)))]),(7,false,[.m (.C (.I .i64) (.I .u64))]),(8,false,[.d true (.I .i64)])],[],[]⟩,[(.exit 0,⟨[(6,false,[.m (.C (.I .i64) (.C (.I .i64) (.I .i64)))]),(7,false,[.m (.C (.I .i64) (.I .u64))])],[],[]⟩)]⟩,⟨false,9,0,[0,1,6,7,8],⟨[(9,false,[.d true (.I .i64)])],[],[]⟩,[(.exit 2,⟨[(9,false,[.d true (.I .i64)])],[],[]⟩)]⟩,⟨false,17,0,[0,1,6,7,8,9,10],⟨[(11,false,[.d true (.I .i64)])],[],[(.sl 6 0,.C (.I .i64) (.C (.I .i64) (.I .i64))),(.sl 7 0,.C (.I .i64) (.I .u64))]⟩,[(.exit 4,⟨[],[],[(.sl 6 0,.C (.I .i64) (.C (.I .i64) (.I .i64))),(.sl 7 0,.C (.I .i64) (.I .u64))]⟩)]⟩,⟨false,24,0,[7],⟨[(6,false,[.m (.C (.I .i64) (.C (.I .i64) (.I .i64)))]),(12,false,[.d true (.I .i64)])],[],[]⟩,[(.exit 6,⟨[(6,false,[.m (.C (.I .i64) (.C (.I .i64) (.I .i64)))])],[],[]⟩),(.ret,⟨[(4,false,[.m (.C (.I .i64) (.C (.I .i64) (.I .i64)))]),(5,false,[.d true (.I .i64)])],[],[]⟩)]⟩],[(13,⟨[[],[],[],[],[],[],[],[],[],[],[.sl 7 0]],[(false,[]),(false,[]),(false,[]),(false,[]),(false,[]),(false,[]),(false,[]),(false,[]),(false,[]),(false,[]),(false,[])]⟩),(21,⟨[[],[],[],[],[],[],[],[],[],[],[],[],[],[],[.sl 6 0]],[(false,[]),(false,[]),(false,[]),(false,[]),(false,[]),(false,[]),(false,[]),(false,[]),(false,[]),(false,[]),(false,[]),(false,[]),(false,[]),(false,[]),(false,[])]⟩)]⟩)]
def gp:KG:=⟨TT,EQS,[fU,nQ,nS,lx,ig],[]⟩
def dE:ba [(false,.I .i64),yD1]->Option (OutK.val (.data true [yD1,(false,.I .i64)])):=eG gp rX PH 51 0 [(false,.I .i64),yD1] (.data true [yD1,(false,.I .i64)])
def gq:bu:=⟨51,[(false,.I .i64),yD1],.data true [yD1,(false,.I .i64)],dE,3⟩
def wq:dH:= []
def iL:KG:=⟨TT,EQS,[gq],[]⟩
def dh:ba [yD0]->Option (OutK.val (.data true [yD0])):=eG iL wq PF 24 0 [yD0] (.data true [yD0])
def iM:bu:=⟨24,[yD0],.data true [yD0],dh,4⟩
end K
end Ev
end
noncomputable section
namespace Ev
namespace K
open Go Go.RowKit
def vi{α:Type}(f:List T->Option α):List (List T)->Option (List α)
 | []=>some []
 |a::r=>(f a).bind λx=>(vi f r).map (x::·)
theorem xO{α:Type}{f:List T->Option α}{g:α->List T}(h:∀x,f (g x)=some x):∀l:List α,vi f (l.map g)=some l
 | []=>rfl
 |x::l=>by simp only [List.map_cons,vi,h,zbS,xO h l,Option.map_some]
theorem vj{α:Type}{f:List T->Option α}{g:α->List T}(h:∀a x,f a=some x->a=g x):∀{l:List (List T)} {r:List α},vi f l=some r->l=r.map g
 | [],r,hr=>by simp [vi]at hr;subst hr;rfl
 |a::l,r,hr=>by
  simp only [vi,zbE,Option.map_eq_some_iff]at hr;obtain⟨x,hx,r',hr',rfl⟩:=hr;rw [List.map_cons,<-h a x hx,<-vj h hr']
def jG:(e:Ty)->List T->Option e.val
 | .I k,l=>match l with
  | [.v (.int k' n)]=>if k'=k then some n else none
  |_=>none
 | .B,l=>match l with
  | [.v (.bool b)]=>some b
  |_=>none
 | .S e,l=>match l with
  | [.s nn sz rows]=>(vi (jG e) rows).map λr=>⟨nn,sz,r⟩
  |_=>none
 | .U,l=>match l with
  | []=>some ()
  |_=>none
 | .C a b,l=>(jG a (l.take a.size)).bind λx=>(jG b (l.drop a.size)).bind λy=>some (x,y)
theorem pA:∀(e:Ty) (x:e.val),jG e (e.row x)=some x
 | .I k,x=>by simp [jG,Ty.row,iT]
 | .B,x=>by simp [jG,Ty.row,bT]
 | .S e,x=>by
  simp only [jG,Ty.row,Sl.t];rw [xO (pA e)];rfl
 | .U,x=>rfl
 | .C a b,x=>by
  show((jG a ((a.row x.1++b.row x.2).take a.size)).bind λx1=>(jG b ((a.row x.1++b.row x.2).drop a.size)).bind λy=>some (x1,y))=some x;have e1:(a.row x.1++b.row x.2).take a.size=a.row x.1:=by rw [List.take_append_of_le_length (by rw [jA];exact Nat.le_refl _),List.take_of_length_le (by rw [jA];exact Nat.le_refl _)]
  have e2:(a.row x.1++b.row x.2).drop a.size=b.row x.2:=by rw [<-jA a x.1,List.drop_left]
  rw [e1,pA a,zbS,e2,pA b];rfl
theorem gJ:∀(e:Ty) (l:List T) (x:e.val),jG e l=some x->l=e.row x
 | .I k,l,x,h=>by
  simp only [jG]at h;split at h
  .split at h
   .rename_i hk;cases h;subst hk;rfl
   .simp at h
  .simp at h
 | .B,l,x,h=>by
  simp only [jG]at h;split at h
  .cases h;rfl
  .simp at h
 | .S e,l,x,h=>by
  simp only [jG]at h;split at h
  .rw [Option.map_eq_some_iff]at h;obtain⟨r,hr,rfl⟩:=h;rw [vj (gJ e) hr];rfl
  .simp at h
 | .U,l,x,h=>by
  simp only [jG]at h;split at h
  .rfl
  .simp at h
 | .C a b,l,x,h=>by
  simp only [jG,zbE]at h;obtain⟨x1,h1,x2,h2,h3⟩:=h;cases h3;show l=a.row x1++b.row x2;rw [<-gJ a _ _ h1,<-gJ b _ _ h2,List.take_append_drop]
def vk(t:TyD)(d:TD):Option t.2.val:=
 match t,d with
 |(true,e),.agg l=>jG e l
 |(false,e),.one y=>jG e [y]
 |(false,e),.agg l=>if l.length=1 then none else jG e l
 |_,_=>none
def Of:List T->TD
 | [y]=> .one y
 |ys=> .agg ys
theorem vl(e:Ty)(x:e.val):iG (false,e) x=Of (e.row x):=by
 unfold iG Of;rfl
theorem BZ(t:TyD)(x:t.2.val):vk t (iG t x)=some x:=by
 obtain⟨b,e⟩:=t;have h:=pA e x
 cases b with
 |true=>exact h
 |false=>
  change e.val at x;rw [show iG (false,e) x=_ from vl e x];generalize e.row x=l at h
  match l,h with
  | [],h=>exact h
  | [y],h=>exact h
  |a::b::r,h=>
   show(if(a::b::r).length=1 then none else jG e (a::b::r))=some x;rw [if_neg (by simp)];exact h
theorem vm(t:TyD)(d:TD)(x:t.2.val)(h:vk t d=some x):d=iG t x:=by
 obtain⟨b,e⟩:=t
 cases b with
 |true=>
  cases d with
  |one y=>simp [vk]at h
  |agg l=>exact congrArg TD.agg (gJ e l x h)
 |false=>
  change e.val at x
  cases d with
  |one y=>rw [show iG (false,e) x=_ from vl e x,<-gJ e [y] x h];rfl
  |agg l=>
   simp only [vk]at h;split at h
   .simp at h
   .rename_i hl
    have:=gJ e l x h
    rw [show iG (false,e) x=_ from vl e x,<-this]
    match l,hl with
    | [],_=>rfl
    | [y],hl=>simp at hl
    |a::b::r,_=>rfl
def nT:(ts:List TyD)->List TD->Option (ba ts)
 | [],l=>match l with
  | []=>some ()
  |_=>none
 | [t],l=>match l with
  | [d]=>vk t d
  |_=>none
 |t::t'::r,l=>match l with
  |d::ds=>(vk t d).bind λx=>(nT (t'::r) ds).bind λy=>some (x,y)
  | []=>none
theorem xP:∀(ts:List TyD) (x:ba ts),nT ts (bW ts x)=some x
 | [],_=>rfl
 | [t],x=>BZ t x
 |t::t'::r,x=>by
  show(vk t (iG t x.1)).bind _=_;rw [BZ t x.1,zbS,xP (t'::r) x.2];rfl
theorem rm:∀(ts:List TyD) (l:List TD) (x:ba ts),nT ts l=some x->l=bW ts x
 | [],l,x,h=>by
  simp only [nT]at h;split at h
  .rfl
  .simp at h
 | [t],l,x,h=>by
  simp only [nT]at h;split at h
  .exact congrArg (·:: []) (vm t _ x h)
  .simp at h
 |t::t'::r,l,x,h=>by
  simp only [nT]at h;split at h
  .simp only [zbE]at h;obtain⟨y,h1,z,h2,h3⟩:=h;cases h3;show _=iG t y::bW (t'::r) z;rw [<-vm t _ y h1,<-rm (t'::r) _ z h2]
  .simp at h
def ly(ins:List TyD)(kind:Kind)(ts:List TyD)(g:ba ins->Option (ba ts))(vs:List TD):Option (Kind×List TD):=(nT ins vs).bind λa=>(g a).bind λx=>some (kind,bW ts x)
theorem mc{P:Program}{k:FuncId}{ins:List TyD}{kind:Kind}{ts:List TyD}{g:ba ins->Option (ba ts)}(he:Enters P k)(h:∀a x,g a=some x->dP P k (bW ins a) kind (bW ts x)):∀vs kind' rs,ly ins kind ts g vs=some (kind',rs)->dP P k vs kind' rs/\Enters P k:=by
 intro vs kind' rs hf;simp only [ly,zbE]at hf;obtain⟨a,h1,x,h2,h3⟩:=hf;cases h3;rw [rm ins vs a h1];exact⟨h a x h2,he⟩
theorem GS{E:Env}{k:FuncId}{ins:List TyD}{kind:Kind}{ts:List TyD}{g:ba ins->Option (ba ts)}(hx:E.ax k=some (ly ins kind ts g))(n:Nat)(a:ba ins)(x:ba ts)(h:g a=some x):RunsP E (n+1) k (bW ins a) (kind,bW ts x):=
 Bd hx (by simp only [ly,xP,zbS,h])
theorem DL{E:Env}{k:FuncId}{ins:List TyD}{ts:List TyD}{g:ba ins->Option (ba ts)}(hx:E.ax k=some (ly ins .fresh ts g)):aC E ⟨k,ins,.data true ts,g,1⟩:=λm a x h=>GS hx m a x h
end K
end Ev
end
noncomputable section
open Go.RowKit Go.Sort
def Has(w:World)(b:Nat):Prop:=b<w.heap.size
def UK(w:World)(os:Array Obj)(b:Nat):Prop:=w.heap.size<=b/\b<w.heap.size+os.size
theorem Has.of{w:World}{b:Nat}(h:b<w.heap.size):Has w b:=h
@[go_sem] theorem PU (w:World) (o:Obj) (b:Nat):Has (w.alloc o) b=(b=w.heap.size∨Has w b):=by
 unfold Has;simp;omega
@[go_sem] theorem UL (w:World) (d:Nat) (os:Array Obj) (b:Nat):Has (grow (redrawn w d) os) b=(Has w b∨UK w os b):=by
 unfold Has UK;simp [grow,redrawn];omega
@[go_sem] theorem Og (w:World) (a:Addr) (v:Value) (b:Nat):Has (w.setCell a v) b=Has w b:=by
 unfold Has;simp [World.setCell]
@[go_sem] theorem UM (w:World) (b:Nat):Has w.drew b=Has w b:=rfl
@[go_sem] theorem UO {w:World} {d:Nat} {os:Array Obj} {a:Addr} (h:Has w a.block):(grow (redrawn w d) os).cell? a=w.cell? a:=
 (below_regrown w d os).cell h
@[go_sem] theorem PV {w:World} {d:Nat} {os:Array Obj} {a:Addr} (h:Has w a.block):(grow (redrawn w d) os).frozen? a=w.frozen? a:=
 (below_regrown w d os).frozen h
@[go_sem] theorem UP {w:World} {o:Obj} {a:Addr} (h:Has w a.block):(w.alloc o).cell? a=w.cell? a:=
 ((Below.refl w.heap.size w).alloc (Nat.le_refl _) o).cell h
@[go_sem] theorem PX {w:World} {o:Obj} {a:Addr} (h:Has w a.block):(w.alloc o).frozen? a=w.frozen? a:=
 ((Below.refl w.heap.size w).alloc (Nat.le_refl _) o).frozen h
@[go_sem] theorem PO {w:World} {o:Obj} {a:Addr} {v:Value} (h:Has w a.block):(w.alloc o).setCell a v=(w.setCell a v).alloc o:=by
 unfold Has at h;simp only [World.setCell,World.alloc];congr 1;apply Array.ext_getElem?;intro k;simp only [Array.getElem?_modify,Array.getElem?_push,Array.size_modify];by_cases hk:k=w.heap.size
 .subst hk;simp;omega
 .simp [hk]
@[go_sem] theorem Vq {α:Type} (p:Prop) [Decidable p] (x y:α) (w:World):(if p then Result.ok x w else Result.ok y w)=Result.ok (if p then x else y) w:=by
 split<;>rfl
@[go_sem] theorem PY (p:Prop) [Decidable p] (x y:Value):(if p then Next.value x else Next.value y)=Next.value (if p then x else y):=by
 split<;>rfl
theorem bl1(w:World)(a:Obj):Below w.heap.size w (w.alloc a):=(Below.refl _ _).alloc (Nat.le_refl _) _
theorem bl2(w:World)(a b:Obj):Below w.heap.size w ((w.alloc a).alloc b):=(bl1 w a).alloc (by simp) _
theorem blg{w w1:World}(h:Below w.heap.size w w1)(d:Nat)(os:Array Obj):Below w.heap.size w (grow (redrawn w1 d) os):=
 h.trans ((below_regrown w1 d os).mono h.size)
theorem grow_grow(w:World)(a b:Array Obj):grow (grow w a) b=grow w (a++b):=by simp [grow,Array.append_assoc]
@[go_sem] theorem Vz (w:World) (d d2:Nat) (os os2:Array Obj):grow (redrawn (grow (redrawn w d) os) d2) os2=grow (redrawn w d2) (os++os2):=by
 simp [grow,redrawn,Array.append_assoc]
@[go_sem] theorem UQ (w:World) (d:Nat) (os:Array Obj):(grow (redrawn w d) os).heap.size=w.heap.size+os.size:=by simp [grow,redrawn]
@[go_sem] theorem PP {w:World} {d:Nat} {os:Array Obj} {a:Addr} {v:Value} (h:Has w a.block):(grow (redrawn w d) os).setCell a v=grow (redrawn (w.setCell a v) d) os:=by
 unfold Has at h;simp only [grow,redrawn,World.setCell];congr 1;apply Array.ext_getElem?;intro k;rw [Array.getElem?_modify];by_cases hk:k<w.heap.size
 .rw [Array.getElem?_append_left hk,Array.getElem?_append_left (by simpa using hk),Array.getElem?_modify]
 .rw [if_neg (by omega),Array.getElem?_append_right (by omega),Array.getElem?_append_right (by simpa using by omega)];simp
@[go_sem] theorem LZ (w:World) (d:Nat):(redrawn w d).heap=w.heap:=rfl
theorem bla{w w1:World}(h:Below w.heap.size w w1)(o:Obj):Below w.heap.size w (w1.alloc o):=h.alloc h.size o
theorem bls{w w1:World}(h:Below w.heap.size w w1){p:Addr}(hp:w.heap.size<=p.block)(v:Value):Below w.heap.size w (w1.setCell p v):=h.setCell hp v
@[go_sem] theorem Vr:IntKind.u64.signed=false:=rfl
@[go_sem] theorem Vs:IntKind.i64.signed=true:=rfl
@[go_sem] theorem VA:IntKind.u8.signed=false:=rfl
@[go_sem] theorem Vt:IntKind.u32.signed=false:=rfl
end
noncomputable section
open Go Go.RowKit Go.Sort
section
variable {P : Program} {ops : Array Oper} {md : Region.Mode} {C : World → Prop}
def Kk(P:Program)(md:Region.Mode)(ops:Array Oper)(C:World->Prop)(n:Nat)(L:Array Bool->Act->Prop):Nat->Array Bool->Act->Prop
 |0,s,a=>L s a
 |f+1,s,a=>(∃i,i∈Region.ready md ops s)/\∀i∈Region.ready md ops s,i<n/\qOp P ops C i (Kk P md ops C n L f (s.setIfInBounds i true)) a
theorem wu{n g:Nat}{L:Array Bool->Act->Prop}{Q':Exit->Act->World->Prop}(hL:∀s a w,C w->L s a->wpAny P md ops Q' g s a w):
  ∀(f:Nat) (s:Array Bool) (a:Act) (w:World),C w->Kk P md ops C n L f s a->wpAny P md ops Q' (f+g) s a w:=by
 intro f
 induction f with
 |zero=>intro s a w hw h;rw [Nat.zero_add];exact hL s a w hw h
 |succ f ih=>
  intro s a w hw h;obtain⟨⟨i0,hi0⟩,hall⟩:=h;rw [Nat.add_right_comm];refine⟨λh0=> ?_,λi hi=>wpOp_of_qOp hw (λa' w' hw' h'=>ih _ a' w' hw' h') (hall i hi).2⟩;rw [h0]at hi0;cases hi0
theorem DM{n i:Nat}{oi:Oper}{v:Value}{L:Array Bool->Act->Prop}(hi:ops[i]? =some oi)(hsel:Region.noSelect ops=true)
  (hs:Region.sinkB md ops n=true) (hc:Region.chainB md ops n=true) (hn:n<ops.size) (hin:i<n) (hdone:∀s a,L s a->∀j∈Region.ready md ops s,n<=j) (f:Nat):
  ∀(s:Array Bool) (a:Act),HeadInv md ops n s->
   (∀j oj,ops[j]? =some oj->j≠i->s.getD j true=false->(∀e∈oj.after,Region.binds md e=true->e.on≠i)->oi.apart ops oj=true)->
   i∈Region.ready md ops s->YieldsIn P ops C oi v a->
   Kk P md ops C n L f (s.setIfInBounds i true) (a.put oi.dst v)->Kk P md ops C n L (f+1) s a:=by
 have sel:=Region.noSelect_spec hsel
 induction f with
 |zero=>
  intro s a inv _ hr hy H;refine⟨⟨i,hr⟩,λj hj=> ?_⟩;have hjn:j<n:=Nat.lt_of_not_le λh=>tail_waits hs hc hn inv _ i rfl hin (mem_ready.1 hr).1 j h hj;refine⟨hjn,?_⟩;by_cases hji:j=i
  .rw [hji];exact hy.qOp hi H
  .have:=hdone _ _ H j (ready_mono hj hji)
   omega
 |succ f ih=>
  intro s a inv hfree hr hy H;refine⟨⟨i,hr⟩,λj hj=> ?_⟩;have hun:=(mem_ready.1 hr).1;have hjn:j<n:=Nat.lt_of_not_le λh=>tail_waits hs hc hn inv _ i rfl hin hun j h hj;refine⟨hjn,?_⟩;by_cases hji:j=i
  .rw [hji];exact hy.qOp hi H
  .obtain⟨hjun,oj,hoj,hall⟩:=mem_ready.1 hj
   have hnot:∀e∈oj.after,Region.binds md e=true->e.on≠i:=by
    intro e he hb heq;have hd:=hall e he hb;rw [heq,getD_both hun]at hd;cases hd
   have hp:=qOp_put hoj (hfree j oj hoj hji hjun hnot) (λcs b=>sel i oi cs b hi) (λcs b=>sel j oj cs b hoj) hy (H.2 j (ready_mono hj hji)).2;refine qOp_mono (λa' h3=>ih _ a' (inv.set hj hjn) ?_ (ready_mono hr (Ne.symm hji)) h3.1 ?_) hp
   .intro k ok hk hki hkun hno;refine hfree k ok hk hki ?_ hno;by_cases hjk:j=k
    .rw [<-hjk];exact hjun
    .rwa [getD_set_ne true hjk]at hkun
   .rw [Array.setIfInBounds_comm _ _ hji];exact h3.2
theorem Kl{n g:Nat}{Lq:Act->Prop}(hsel:Region.noSelect ops=true)(hs:Region.sinkB md ops n=true)(hc:Region.chainB md ops n=true)(hn:n<ops.size)(l:List Oper):
  ∀(k:Nat) (s:Array Bool) (a:Act),(∀j,j<l.length->l[j]? =ops[k+j]?)->k+l.length=n->HeadInv md ops n s->
  Region.lexHead md ops g l.length k s=true->wpQuiet P ops C Lq l a->
  Kk P md ops C n (λs' a'=>Region.seqB md ops g n s'=true/\Lq a') l.length s a:=by
 induction l with
 |nil=>
  intro k s a _ hk _ hB h;have hk':k=n:=by simpa using hk
  rw [<-hk'];exact⟨by simpa [Region.lexHead]using hB,h⟩
 |cons o l ih=>
  intro k s a hl hk inv hB h;have h0:ops[k]? =some o:=by simpa using (hl 0 (by simp)).symm
  simp only [List.length_cons]at hk hB;simp only [Region.lexHead,Bool.and_eq_true]at hB;have hkn:k<n:=by omega
  have hr:k∈Region.ready md ops s:=by simpa using hB.1.1
  have hq:qOp P ops C k (wpQuiet P ops C Lq l) a:=by unfold qOp;simp only [h0];exact h
  obtain⟨v,hy,hK⟩:=yieldsIn_of_qOp h0 hq;refine DM h0 hsel hs hc hn hkn (λs' a' hL=>seqB_ready hL.1) l.length s a inv (Region.free_spec h0 hB.1.2) hr hy (ih (k+1) _ _ (λj hj=> ?_) (by omega) (inv.set hr hkn) hB.2 hK)
  have:=hl (j+1) (by simp;omega)
  simpa [Nat.add_assoc,Nat.add_comm 1 j]using this
theorem gl{id:Nat}{Q:Exit->Act->World->Prop}{a:Act}{w:World}{l:List Oper}(n:Nat)(hm:P.follows .mixedOrders=true)(hB:Region.lexTailB .any l.toArray n=true)
  (hC:C {w with drawn:=w.drawn+1}) (h:wpQuiet P l.toArray C (λa'=>∀w',C w'->wpList P l.toArray Q (l.drop n) a' w') (l.take n) a):(Code.region id l.toArray true).wp P Q a w:=by
 simp only [Region.lexTailB,Bool.and_eq_true,decide_eq_true_eq]at hB;obtain⟨⟨⟨⟨hsel,hn⟩,hs⟩,hc⟩,hlex⟩:=hB;have hn':n<l.length:=by simpa using hn
 have htl:(l.take n).length=n:=by simp;omega
 have hdl:(l.drop n).length=l.toArray.size - n:=by simp
 have H:=Kl (C:=C) (md:= .any) (g:=l.toArray.size - n) hsel hs hc hn (l.take n) 0 (Array.replicate l.toArray.size false) a (λj hj=>by
  have hj':j<n:=by rw [htl]at hj;exact hj
  simp [hj']) (by simpa using htl) ⟨by simp,λj oj _ hl=>(by rw [getD_replicate_false]at hl;cases hl),λt _ ht=>getD_in (by simpa using ht) (getD_replicate_false _ _)⟩ (by rw [htl];exact hlex) h
 refine wp_region_any hm ?_
 have R:=wu (Q':=Q) (g:=l.toArray.size - n) (λs a' w' hw hL=>by
  have:=wpAny_of_seq (md:= .any) (Q':=Q) (l.drop n) n s a' w' (λj=>by simp [List.getElem?_drop]) (by rw [hdl];exact hL.1) (hL.2 w' hw)
  rwa [hdl]at this) _ _ _ _ hC H
 rw [htl,show n+(l.toArray.size - n)=l.toArray.size by omega]at R;exact R
theorem av{id:Nat}{Q:Exit->Act->World->Prop}{a:Act}{w:World}{l:List Oper}(n:Nat)(hm:P.follows .mixedOrders=true)(hB:Region.lexTailB .any l.toArray n=true)
  (h:wpQuiet P l.toArray (λw'=>∃p:Regrown,w'=grow (redrawn w p.d) p.os) (λa'=>∀w',(∃p:Regrown,w'=grow (redrawn w p.d) p.os)->wpList P l.toArray Q (l.drop n) a' w') (l.take n) a):(Code.region id l.toArray true).wp P Q a w:=
 gl (C:=λw'=>∃p:Regrown,w'=grow (redrawn w p.d) p.os) n hm hB ⟨⟨w.drawn+1,#[]⟩,by rw [grow_empty];rfl⟩ h
end
end
end Go.Proofs.YtoamaaicfjkmhaaGreat
