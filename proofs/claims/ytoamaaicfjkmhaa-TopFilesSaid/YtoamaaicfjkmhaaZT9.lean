/- Texts of a claim, joined. -/
import Derived.Test.YtoamaaicfjkmhaaZT8
import Derived.Test.YtoamaaicfjkmhaaProg
import Derived.BigQuiet
import Derived.Lib.QuietBelow
import Derived.WalkSpells
import Derived.WalkLawsBesides
import Derived.Lib.Hide
import Derived.Outline
import Derived.StillTail
import Derived.Laws.OwnMore
import Derived.Maps.AppendAt
import Derived.RangeFuncBox
import Derived.Defers
import Derived.Recover
set_option linter.unusedVariables false
set_option linter.unusedSimpArgs false
namespace Go.Proofs.Ytoamaaicfjkmhaa
noncomputable section
namespace Ev
namespace K
open Go Go.RowKit
section
variable {E : Env} {n : Nat} {F : KF} {ks : KS} {V : Vl} {f : Nat → D} {h : am} {G : KG} {D0 : Nat}
theorem uJ{k i j bz:Nat}{ag:Bool}{sz:Nat}{es:List (List C)}{e cs:List C}{d:D}(hg:ap h k=some (bz,es))(he:es[i]? =some e)(hc:Ev.cut e j sz=some cs)(hv:bN ag cs=some d):load h ag sz (.one (.ptr k i j))=some d:=by
 simp only [load,hg,zbB,zbS,he,hc,hv]
theorem Jt(hr:Rel F ks V f h){z:Nat×Bool}{a:KD}{a':D}{R:Type}{r:R}{κ:KD->Option R}(hs:fE F ks z a κ=some r)(ha:RD (an F ks) V a a'):∃d d',κ d=some r/\load h z.2 (if z.2 then z.1 else 1) a'=some d'/\RD (an F ks) V d d'/\ScD ks.nx d:=by
 have hz:wd z=if z.2 then z.1 else 1:=by unfold wd;cases z.2<;>rfl
 cases a with
 |tup ts=>simp [fE]at hs
 |agg cs=>simp [fE]at hs
 |one c=>
  obtain⟨c',rfl,hc⟩:=ha
  cases c with
  |ptr p j=>
   simp only [fE]at hs;split at hs
   .rename_i cs hp;simp only [zbE]at hs;obtain⟨d2,⟨cs2,g1,g2⟩,g3⟩:=hs;obtain⟨g4,g5,sz,cs',g6,g7⟩:=hr.bl p _ hp;obtain⟨c2,g8,g9⟩:=g7.cut g1;obtain⟨d3,k1,k2,k3⟩:=eo g2 (fV g5 g1) g9;rw [show c'=_ from hc];exact⟨_,d3,g3,uJ g6 rfl (by rw [<-hz];exact g8) k1,k2,k3⟩
   .simp at hs
  |ip e fr x i y j=>
   simp only [fE,zbE]at hs;obtain⟨d2,⟨cs2,g1,g2⟩,g3⟩:=hs;obtain⟨fl,e1,e2,e3⟩:=hc;obtain⟨c2,g8,g9⟩:=(ci (B:=an F ks) (V:=V) e3 e y).cut g1;obtain⟨d3,k1,k2,k3⟩:=eo g2 (fV (dh ks.nx fr e y) g1) g9;refine⟨_,d3,g3,?_,k2,k3⟩;rw [e1];simp only [load,zbB,yw (r:=e.row) e2,zbS];rw [<-hz,g8];exact k1
  |pe p i j=>
   simp only [fE]at hs;rw [hc.2];split at hs
   .rename_i e ne l hp;simp only [zbE]at hs;obtain⟨y,g0,d2,⟨cs2,g1,g2⟩,g3⟩:=hs;obtain⟨g4,g5,g6,_⟩:=hr.bl p _ hp;obtain⟨c2,g8,g9⟩:=(ci (B:=an F ks) (V:=V) (λ_=>rfl) e y).cut g1;obtain⟨d3,k1,k2,k3⟩:=eo g2 (fV (dh ks.nx true e y) g1) g9;exact⟨_,d3,g3,uJ g6 (lz g0).2 (by rw [<-hz];exact g8) k1,k2,k3⟩
   .rename_i e l hp;simp only [zbE]at hs;obtain⟨y,g0,d2,⟨cs2,g1,g2⟩,g3⟩:=hs;obtain⟨g4,g5,g6⟩:=hr.bl p _ hp;obtain⟨c2,g8,g9⟩:=(ci (B:=an F ks) (V:=V) (λ_=>rfl) e y).cut g1;obtain⟨d3,k1,k2,k3⟩:=eo g2 (fV (dh ks.nx true e y) g1) g9;exact⟨_,d3,g3,uJ (g6 (yL g0)) (lz g0).2 (by rw [<-hz];exact g8) k1,k2,k3⟩
   .simp at hs
  |_=>simp [fE]at hs
theorem rQ(hG:GOk G E D0)(hr:Rel F ks V f h):∀{rv:List ResultVar} {R:Type} {r:R} {κ:List KD->Option R},yG G F ks rv κ=some r->∃ds ds',rv.mapM (bO E {t:=tab F.nt f,h:=h})=some ds'/\RDl (an F ks) V ds ds'/\(∀d∈ds,ScD ks.nx d)/\κ ds=some r
 | [],R,r,κ,hs=>⟨[],[],rfl,rfl,by simp,hs⟩
 | .tmp t::rv,R,r,κ,hs=>by
  simp only [yG,zbE]at hs;obtain⟨d,g1,g2⟩:=hs;obtain⟨k1,k2,k3⟩:=hr.sl t d g1;obtain⟨ds,ds',e1,e2,e3,e4⟩:=rQ hG hr g2;refine⟨d::ds,f t::ds',?_,⟨_,_,rfl,k3,e2⟩,λx hx=> ?_,e4⟩
  .rw [List.mapM_cons,e1];show((tab F.nt f)[t]?).bind _=_;rw [im,if_pos k1];rfl
  .rcases List.mem_cons.1 hx with rfl|hx
   .exact k2
   .exact e3 x hx
 | .cell a ty::rv,R,r,κ,hs=>by
  simp only [yG]at hs;split at hs
  .rename_i z d hz hd;have hz':=yK hG hz;obtain⟨k1,k2,k3⟩:=hr.sl a d hd;obtain⟨v,v',g1,g2,g3,g4⟩:=Jt hr hs k3;obtain⟨ds,ds',e1,e2,e3,e4⟩:=rQ hG hr g1;refine⟨v::ds,v'::ds',?_,⟨_,_,rfl,g3,e2⟩,λx hx=> ?_,e4⟩
   .unfold iy at hz';simp only [zbE,zsI]at hz';obtain⟨ti,w1,w2⟩:=hz';rw [List.mapM_cons,e1];show(((E.ti ty).bind λt'=>((tab F.nt f)[a]?).bind λd=>load h (aK t'.desc) (if aK t'.desc then t'.size else 1) d).bind _)=_;rw [w1,im,if_pos k1];subst w2;simp only [zbS];rw [g2];rfl
   .rcases List.mem_cons.1 hx with rfl|hx
    .exact g4
    .exact e3 x hx
  .simp at hs
theorem yW:∀{ds:List KD} {ds':List D} {ts:List (Bool×List KC)},tupK.tups ds=some ts->RDl (an F ks) V ds ds'->(∀d∈ds,ScD ks.nx d)->RTs (an F ks) V ts ds'/\∀x∈ts,Scs ks.nx x.2
 | [],ds',ts,h,hr,hs=>by
  have:=Option.some.inj (show some []=some ts from h)
  subst this;exact⟨hr,by simp⟩
 | .one c::r,ds',ts,h,⟨d,s,e,h1,h2⟩,hs=>by
  simp only [tupK.tups,Option.map_eq_some_iff]at h;obtain⟨ts',g1,rfl⟩:=h;obtain⟨k1,k2⟩:=yW g1 h2 λx hx=>hs x (by simp [hx]);refine⟨⟨d,s,e,h1,k1⟩,λx hx=> ?_⟩;rcases List.mem_cons.1 hx with rfl|hx
  .exact λy hy=>by rw [List.mem_singleton.1 hy];exact hs (.one c) (by simp)
  .exact k2 x hx
 | .agg cs::r,ds',ts,h,⟨d,s,e,h1,h2⟩,hs=>by
  simp only [tupK.tups,Option.map_eq_some_iff]at h;obtain⟨ts',g1,rfl⟩:=h;obtain⟨k1,k2⟩:=yW g1 h2 λx hx=>hs x (by simp [hx]);refine⟨⟨d,s,e,h1,k1⟩,λx hx=> ?_⟩;rcases List.mem_cons.1 hx with rfl|hx
  .exact hs (.agg cs) (by simp)
  .exact k2 x hx
 | .tup ts'::r,ds',ts,h,hr,hs=>by simp [tupK.tups]at h
theorem Lj{ds:List KD}{ds':List D}{d:KD}(h:tupK ds=some d)(hr:RDl (an F ks) V ds ds')(hs:∀d∈ds,ScD ks.nx d):RD (an F ks) V d (iX ds')/\ScD ks.nx d:=by
 match ds,h,hr,hs with
 | [x],h,⟨d',s,e,h1,h2⟩,hs=>
  cases h;rw [e,show s= []from h2];exact⟨h1,hs d (by simp)⟩
 | [],h,hr,hs=>
  cases h;rw [show ds'= []from hr];exact⟨⟨[],rfl,rfl⟩,λx hx=>by simp at hx⟩
 |x::x'::r,h,hr,hs=>
  have h':(tupK.tups (x::x'::r)).map KD.tup=some d:=h;rw [Option.map_eq_some_iff]at h';obtain⟨ts,g1,rfl⟩:=h';obtain⟨k1,k2⟩:=yW g1 hr hs;obtain⟨d1,s1,e1,_,d2,s2,e2,_,_⟩:=hr;refine⟨⟨ds',?_,k1⟩,k2⟩;rw [e1,e2];rfl
theorem xq:∀{l:List KD} {q i:Nat} {d:KD},ak (vN q l) i=some d->∃j,i=q+j/\l[j]? =some d
 | [],q,i,d,h=>by simp [vN,ak]at h
 |a::l,q,i,d,h=>by
  unfold vN at h;rw [al]at h;split at h
  .rename_i hi;cases h;exact⟨0,by omega,rfl⟩
  .obtain⟨j,h1,h2⟩:=xq h;exact⟨j+1,by omega,by simpa using h2⟩
theorem DY{B:BK}:∀{l:List KD} {l':List D} {j:Nat} {d:KD},RDl B V l l'->l[j]? =some d->∃d',l'[j]? =some d'/\RD B V d d'
 | [],l',j,d,h,hj=>by simp at hj
 |a::l,l',0,d,⟨x,s,e,h1,h2⟩,hj=>by simp at hj;subst hj e;exact⟨x,rfl,h1⟩
 |a::l,l',j+1,d,⟨x,s,e,h1,h2⟩,hj=>by subst e;simpa using DY h2 (by simpa using hj)
theorem DZ{B:BK}:∀{l:List KD} {l':List D},RDl B V l l'->l'.length=l.length
 | [],l',h=>by rw [show l'= []from h];rfl
 |a::l,l',⟨x,s,e,h1,h2⟩=>by rw [e,List.length_cons,List.length_cons,DZ h2]
theorem xt{nt nx:Nat}{bl:List (Nat×KB)}{args:List KD}{args':List D}(hb:Jl F {sl:= [],bl:=bl,nx:=nx} V h)(hs:∀d∈args,ScD nx d)(hr:RDl (an F {sl:= [],bl:=bl,nx:=nx}) V args args')(hl:args.length<=nt):Rel {F with sl:= [],nt:=nt} {sl:=vN 0 args,bl:=bl,nx:=nx} V (fA args') h:=by
 refine⟨?_,hb.bl,hb.inj⟩;intro i d hd;have hd':aJ (vN 0 args) [] i=some d:=hd;unfold aJ at hd'
 cases hl':ak (vN 0 args) i with
 |none=>rw [hl']at hd';simp [ak]at hd'
 |some d0=>
  rw [hl']at hd';cases hd';obtain⟨j,h1,h2⟩:=xq hl';rw [Nat.zero_add]at h1;subst h1;obtain⟨d',h3,h4⟩:=DY hr h2;have hi:i<args.length:=(List.getElem?_eq_some_iff.1 h2).1;refine⟨Nat.lt_of_lt_of_le hi hl,hs d (List.mem_of_getElem? h2),?_⟩;show RD _ _ d (args'.getD i br);rw [List.getD_eq_getElem?_getD,h3];exact h4
theorem AU{e:Ex}(h:qF e=true):e= .normal∨e= .ret:=by
 cases e with
 |normal=>exact .inl rfl
 |ret=>exact .inr rfl
 |exit id=>simp [qF]at h
theorem AV(hG:GOk G E D0)(A:cH):∀(c n:Nat),D0+c<=n->CK E n (AB G A c)
 |0,n,hn=>λR F k args ks κ r V h args' hs hb hsc hr=>by simp [AB]at hs
 |c+1,n,hn=>λR F k args ks κ r V h args' hs hb hsc hr=>by
  unfold AB at hs;split at hs
  .rename_i fi hfi;obtain⟨g1,g2⟩:=hG.fi k fi hfi;split at hs
   .rename_i hlen
    match n,hn with
    |n0+1,hn=>
     refine⟨n0,fi,rfl,g1,g2,by rw [DZ hr];exact hlen,?_⟩;have hrel:Rel {F with sl:= [],nt:=fi.nt} {ks with sl:=vN 0 args} V (fA args') h:=xt ⟨hb.bl,hb.inj⟩ hsc hr hlen;refine(AT (y:=nY) hG (by omega) (AV hG A c n0 (by omega)) fi.body R _ _ _ r V _ h hs hrel).mono λe s hp=> ?_;obtain⟨ks',V',f',h1,h2,h3,h4⟩:=hp;obtain⟨t,hh⟩:=s;simp only at h1 h2;subst h1;dsimp only at h3
     cases he:qF e with
     |false=>rw [he]at h3;simp at h3
     |true=>
      rw [he]at h3;obtain⟨ds,ds',e1,e2,e3,e4⟩:=rQ hG h2 h3;rw [zbE]at e4;obtain⟨d,e5,e6⟩:=e4;obtain⟨k1,k2⟩:=Lj e5 e2 e3;exact⟨AU he,ds',e1,ks',V',d,e6,k2,k1,⟨h2.bl,h2.inj⟩,⟨h4.nx,h4.agree,h4.le,h4.dom⟩⟩
   .simp at hs
  .simp at hs
theorem nu:∀{e:Ty} (x:e.val),e.plain=true->(cC e.row x).all rU=true
 | .I _,_,_=>rfl
 | .B,_,_=>rfl
 | .S _,_,hp=>by simp [Ty.plain]at hp
 | .U,_,_=>rfl
 | .C a b,x,hp=>by
  simp only [Ty.plain,Bool.and_eq_true]at hp;unfold cC;show((a.row x.1++b.row x.2).map (pC true)).all rU=true;rw [List.map_append,List.all_append];have h1:=nu x.1 hp.1;have h2:=nu x.2 hp.2;unfold cC at h1 h2;rw [h1,h2];rfl
theorem uK{B:BK}:∀{l:List (Bool×List KC)} {ds:List D},RTs B V l ds->RDl B V (l.map mkD) ds
 | [],ds,h=>h
 |x::l,ds,⟨d,s,e,h1,h2⟩=>⟨d,s,e,CF h1,uK h2⟩
theorem Ea(fr:Bool):∀(ts:List TyD) (x:aQ ts),(kw fr ts x).length=ts.length
 | [],_=>rfl
 | [t],x=>rfl
 |t::t'::r,x=>by show(kw fr (t'::r) x.2).length+1=_;rw [Ea fr (t'::r)];rfl
theorem yX:∀(ts:List TyD) (x:aQ ts),(bP ts x).length=ts.length
 | [],_=>rfl
 | [t],x=>rfl
 |t::t'::r,x=>by show(bP (t'::r) x.2).length+1=_;rw [yX (t'::r)];rfl
theorem Ga{B:BK}{ts:List TyD}{ds:List KD}{ds':List D}{x:aQ ts}(hd:iq B ts ds=some x)(hr:RDl B V ds ds')(hno:qb ds=false):dj h ds'=false:=by
 unfold dj;split
 .rename_i k m
  match ds,hr,hno,hd with
  | [d],⟨y,s,e,h1,h2⟩,hno,hd=>
   rw [show s= []from h2]at e;simp only [List.cons.injEq,and_true]at e;subst e
   match ts,x,hd with
   | [t],x,hd=>
    have hd':yA B t d=some x:=hd
    cases d with
    |one c=>
     obtain⟨c',e1,e2⟩:=h1;cases e1
     cases c with
     |o e p=>simp [qb]at hno
     |m e p=>simp [qb]at hno
     |n k y=>exact absurd (show C.own _ 0 _=_ from e2) (by simp)
     |b v=>exact absurd (show C.own _ 0 _=_ from e2) (by simp)
     |p t P d=>exact absurd e2.1 (by simp)
     |bv y=>exact absurd (show C.own _ 0 _=_ from e2) (by simp)
     |v y=>exact absurd (show C.own _ 0 _=_ from e2) (by simp)
     |nil=>exact absurd (show C.own _ 0 _=_ from e2) (by simp)
     |s e fr y=>obtain⟨fl,e3,_⟩:=e2;exact absurd e3 (by simp)
     |ptr p j=>exact absurd (show C.own _ 0 _=_ from e2) (by simp)
     |pe p i j=>exact absurd e2.2 (by simp)
     |ip e fr y i z j=>obtain⟨fl,e3,_⟩:=e2;exact absurd e3 (by simp)
     |clo fn ps=>exact absurd (show C.own _ 0 _=_ from e2) (by simp)
     |yld p=>exact absurd (show C.own _ 0 _=_ from e2) (by simp)
    |agg cs=>obtain⟨c',e1,_⟩:=h1;simp at e1
    |tup ts=>simp [yA]at hd'
   | [],x,hd=>simp [iq]at hd
   |_::_::_,x,hd=>simp [iq]at hd
  | [],hr,_,_=>exact absurd (show [_]=_ from hr) (by simp)
  |_::_::_,⟨y,s,e,h1,y2,s2,e2,_,_⟩,_,_=>rw [e2]at e;simp at e
 .rfl
theorem oY{rv:List ResultVar}{e:Ty}{l:List e.val}{k:Nat}{ex:Ex}{s:St}(he:ex= .normal∨ex= .ret)(hres:rv.mapM (bO E s)=some [.one (.own k 0 l.length)])(hg:ap s.h k=some (e.size,l.map (cC e.row)))(hp:e.plain=true):Cj E rv (.own,[.one (.s true e.size (l.map e.row))]) ex s:=by
 have ho:dj s.h [.one (.own k 0 l.length)]=true:=by
  simp only [dj,hg,List.length_map,BEq.rfl,Bool.true_and,List.all_map];rw [List.all_eq_true];exact λx _=>nu x hp
 have hv:bX s.h (.one (.own k 0 l.length))=some (true,.one (.s true e.size (l.map e.row))):=by
  show(ea s.h 6 _).bind _=_;rw [Cq (r:=e.row) (L:= [[(k,e.size,l.map (cC e.row))]]) 0 rfl (λx h m=>ug m) s.h (fP hg) 4];rfl
 have key:bM (λq:Kind×List TD=>q=(.own,[.one (.s true e.size (l.map e.row))])) ((rv.mapM (bO E s)).bind λrs=>(rs.mapM (bX s.h)).map λl=>(if dj s.h rs then .own else if l.all (·.1)then .fresh else .any,l.map (·.2))):=by
  rw [hres];simp only [zbS,List.mapM_cons,hv,List.mapM_nil,Option.pure_def,zbB,Option.map_some,ho];rfl
 rcases he with rfl|rfl<;>exact key
theorem iV{rv:List ResultVar}{ds':List D}{l:List (Bool×TD)}{ex:Ex}{s:St}(he:ex= .normal∨ex= .ret)(hres:rv.mapM (bO E s)=some ds')(hv:ds'.mapM (bX s.h)=some l)(ho:dj s.h ds'=false):Cj E rv (cond (l.all (·.1)) .fresh .any,l.map (·.2)) ex s:=by
 have key:bM (λq:Kind×List TD=>q=(cond (l.all (·.1)) .fresh .any,l.map (·.2))) ((rv.mapM (bO E s)).bind λrs=>(rs.mapM (bX s.h)).map λl=>(if dj s.h rs then .own else if l.all (·.1)then .fresh else .any,l.map (·.2))):=by
  rw [hres];simp only [zbS,hv,Option.map_some,ho];show(_,_)=(_,_);cases l.all (·.1)<;>rfl
 rcases he with rfl|rfl<;>exact key
theorem Lk(hG:GOk G E D0)(A:cH){fi:FI}{k:FuncId}{c:Nat}{ins:List TyD}{ok:OutK}{x:aQ ins}{out:ok.val}(hax:E.ax k=none)(hf:E.fn k=some fi)(hl:ins.length<=fi.nt)(hs:du G A fi k c ins ok x=some out)(m:Nat):DM E (m+(D0+c)+1) k (bP ins x) ok out:=by
 unfold du at hs;have hb:Jl {nt:=fi.nt} {sl:= [],bl:= [],nx:=0} ⟨λ_=>0,λ_=>false⟩ []:=⟨λp b hb=>by simp [an,aJ,ak]at hb,λp q b b' hb=>by simp [an,aJ,ak]at hb⟩;have hargs:RDl (an {nt:=fi.nt} {sl:= [],bl:= [],nx:=0}) ⟨λ_=>0,λ_=>false⟩ ((kw false ins x).map mkD) ((bP ins x).map (bS false)):=uK (oQ (λh=>h) ins x)
 have hsc:∀d∈(kw false ins x).map mkD,ScD 0 d:=λd hd=>by
  obtain⟨y,h1,rfl⟩:=List.mem_map.1 hd;exact rO (uh 0 false ins x y h1)
 have hrel:Rel {nt:=fi.nt} {sl:=DK ins x,bl:= [],nx:=0} ⟨λ_=>0,λ_=>false⟩ (fA ((bP ins x).map (bS false))) []:=xt (F:={nt:=fi.nt}) hb hsc hargs (by rw [List.length_map,Ea];exact hl);have hw:=AT (y:=nY) (n:=m+(D0+c)) hG (by omega) (AV hG A c _ (by omega)) fi.body ok.val _ _ _ out _ _ [] hs hrel;have hend:∀r,(∀e s,PostC {nt:=fi.nt} {sl:=DK ins x,bl:= [],nx:=0} ⟨λ_=>0,λ_=>false⟩ (λe ks=>cond (qF e) (yG G {nt:=fi.nt} ks fi.results λds=>yH (an {nt:=fi.nt} ks) ok ds) none) out e s->Cj E fi.results r e s)->RunsP E (m+(D0+c)+1) k (bP ins x) r:=λr hq=>Aq hax hf (by rw [yX];exact hl) (hw.mono hq)
 have hopen:∀e s,PostC {nt:=fi.nt} {sl:=DK ins x,bl:= [],nx:=0} ⟨λ_=>0,λ_=>false⟩ (λe ks=>cond (qF e) (yG G {nt:=fi.nt} ks fi.results λds=>yH (an {nt:=fi.nt} ks) ok ds) none) out e s->∃ks' V' f' ds ds',(e= .normal∨e= .ret)/\Rel {nt:=fi.nt} ks' V' f' s.h/\fi.results.mapM (bO E s)=some ds'/\RDl (an {nt:=fi.nt} ks') V' ds ds'/\yH (an {nt:=fi.nt} ks') ok ds=some out:=by
  intro e s hp;obtain⟨ks',V',f',h1,h2,h3,h4⟩:=hp;obtain⟨t,hh⟩:=s;simp only at h1 h2;subst h1;dsimp only at h3
  cases he:qF e with
  |false=>rw [he]at h3;simp at h3
  |true=>
   rw [he]at h3;obtain⟨ds,ds',e1,e2,e3,e4⟩:=rQ hG h2 h3;exact⟨ks',V',f',ds,ds',AU he,h2,e1,e2,e4⟩
 cases ok with
 |data fr ts=>
  have hdata:∀(ks':KS) (V':Vl) (ds:List KD) (ds':List D) (hh:am) (f':Nat->D),Rel {nt:=fi.nt} ks' V' f' hh->RDl (an {nt:=fi.nt} ks') V' ds ds'->yH (an {nt:=fi.nt} ks') (.data fr ts) ds=some out->∃l,ds'.mapM (bX hh)=some l/\l.map (·.2)=bP ts out/\(fr=true->l.all (·.1)=true)/\dj hh ds'=false:=by
   intro ks' V' ds ds' hh f' h2 e2 e4;unfold yH at e4;simp only at e4;split at e4
   .simp at e4
   .rename_i hc;obtain⟨l,l1,l2,l3⟩:=nd h2.bls e4 e2
    have hno:qb ds=false:=by cases ho:qb ds with|true=>simp [ho]at hc|false=>rfl
    refine⟨l,l1,l2,λhfr=>l3 ?_,Ga e4 e2 hno⟩
    cases ha:ds.all frD with
    |true=>rfl
    |false=>simp [hfr,ha]at hc
  cases fr with
  |true=>
   refine hend _ λe s hp=> ?_;obtain⟨ks',V',f',ds,ds',he,h2,e1,e2,e4⟩:=hopen e s hp;obtain⟨l,l1,l2,l3,l4⟩:=hdata ks' V' ds ds' s.h f' h2 e2 e4
   have:=iV (E:=E) he e1 l1 l4
   rw [l3 rfl,l2]at this;exact this
  |false=>
   -- is it new? that is settled when it has run
   obtain⟨e,s,hrun,hp⟩:=hw;obtain⟨ks',V',f',ds,ds',he,h2,e1,e2,e4⟩:=hopen e s hp;obtain⟨l,l1,l2,_,l4⟩:=hdata ks' V' ds ds' s.h f' h2 e2 e4
   have:=iV (E:=E) he e1 l1 l4
   rw [l2]at this;exact⟨l.all (·.1),Aq hax hf (by rw [yX];exact hl) ⟨e,s,hrun,this⟩⟩
 |own ty=>
  refine hend _ λe s hp=> ?_;obtain⟨ks',V',f',ds,ds',he,h2,e1,e2,e4⟩:=hopen e s hp;unfold yH at e4;simp only at e4;unfold IV at e4;split at e4
  .rename_i e0 p;split at e4
   .rename_i e' ne l hB;split at e4
    .rename_i hpl;rw [Option.map_eq_some_iff]at e4;obtain⟨l2,g0,rfl⟩:=e4;obtain⟨hty,g0⟩:=aO g0;cases hty;subst g0;obtain⟨y,s',e5,⟨c',e6,e7⟩,e8⟩:=e2;rw [show s'= []from e8]at e5;rw [e5,e6,e7 _ _ _ hB]at e1;exact oY he e1 (h2.bl p _ hB).2.2.1 hpl
    .simp at e4
   .simp at e4
  .simp at e4
 |mown ty=>
  refine hend _ λe s hp=> ?_;obtain⟨ks',V',f',ds,ds',he,h2,e1,e2,e4⟩:=hopen e s hp
  have hnil:∀{ds'':List D},RDl (an {nt:=fi.nt} ks') V' [.one .nil] ds''->fi.results.mapM (bO E s)=some ds''->Cj E fi.results (PB ty.size ty.row []) e s:=by
   intro ds'' e2 e1;obtain⟨y,s',e5,⟨c',e6,e7⟩,e8⟩:=e2;rw [show s'= []from e8]at e5;rw [e5,e6,show c'=_ from e7]at e1;exact iV (E:=E) (l:= [(true,.one (.s false 0 []))]) he e1 rfl rfl
  unfold yH at e4;simp only at e4;unfold DH at e4;split at e4
  .cases e4;exact hnil e2 e1
  .rename_i e0 p;split at e4
   .rename_i e' l hB;split at e4
    .rename_i hpl;rw [Option.map_eq_some_iff]at e4;obtain⟨l2,g0,rfl⟩:=e4;obtain⟨hty,g0⟩:=aO g0;cases hty;subst g0;obtain⟨y,s',e5,⟨c',e6,e7⟩,e8⟩:=e2;rw [show s'= []from e8]at e5;rw [e5,e6,e7 _ _ hB]at e1
     cases l with
     |nil=>exact iV (E:=E) (l:= [(true,.one (.s false 0 []))]) he e1 rfl rfl
     |cons a l=>exact oY he e1 ((h2.bl p _ hB).2.2 (by simp)) hpl
    .simp at e4
   .simp at e4
  .rename_i e0 p;split at e4
   .rename_i e' ne l hB;split at e4
    .rename_i hpl;rw [zbE]at e4;obtain⟨l2,g0,e4⟩:=e4;obtain⟨hty,g0⟩:=aO g0;cases hty;subst g0;obtain⟨y,s',e5,⟨c',e6,e7⟩,e8⟩:=e2;rw [show s'= []from e8]at e5;rw [e5,e6,e7 _ _ _ hB]at e1;obtain⟨w1,w2,w3,w4⟩:=h2.bl p _ hB
     cases l with
     |nil=>
      cases ne with
      |true=>exact absurd rfl (w4 rfl)
      |false=>simp [neL]at e4
     |cons a l=>
      obtain rfl:=(by cases ne<;>simpa [neL]using e4:_=_);exact oY he e1 w3 hpl
    .simp at e4
   .simp at e4
  .simp at e4
 |gown ty=>
  refine hend _ λe s hp=> ?_;obtain⟨ks',V',f',ds,ds',he,h2,e1,e2,e4⟩:=hopen e s hp;unfold yH at e4;simp only at e4;unfold DI at e4;split at e4
  .cases e4;obtain⟨y,s',e5,⟨c',e6,e7⟩,e8⟩:=e2;rw [show s'= []from e8]at e5;rw [e5,e6,show c'=_ from e7]at e1;exact iV (E:=E) (l:= [(true,.one (.s false 0 []))]) he e1 rfl rfl
  .rename_i e0 p;split at e4
   .rename_i e' l hB;split at e4
    .rename_i hpl;rw [Option.map_eq_some_iff]at e4;obtain⟨l2,g0,rfl⟩:=e4;obtain⟨hty,g0⟩:=aO g0;cases hty;subst g0;obtain⟨y,s',e5,⟨c',e6,e7⟩,e8⟩:=e2;rw [show s'= []from e8]at e5;rw [e5,e6,e7 _ _ hB]at e1
     cases l with
     |nil=>exact iV (E:=E) (l:= [(true,.one (.s false 0 []))]) he e1 rfl rfl
     |cons a l=>exact oY he e1 ((h2.bl p _ hB).2.2 (by simp)) hpl
    .simp at e4
   .simp at e4
  .rename_i e0 p;split at e4
   .rename_i e' ne l hB;split at e4
    .rename_i hpl;rw [Option.map_eq_some_iff]at e4;obtain⟨l2,g0,rfl⟩:=e4;obtain⟨hty,g0⟩:=aO g0;cases hty;subst g0;obtain⟨y,s',e5,⟨c',e6,e7⟩,e8⟩:=e2;rw [show s'= []from e8]at e5;rw [e5,e6,e7 _ _ _ hB]at e1;exact oY he e1 (h2.bl p _ hB).2.2.1 hpl
    .simp at e4
   .simp at e4
  .simp at e4
end
end K
end Ev
end
noncomputable section
namespace Ev
namespace K
open Go Go.RowKit
def Oc(E:Env)(D:Nat):List aX->Prop
 | []=>True
 |e::r=>(e.d<=D/\ay E e)/\Oc E D r
def Od(E:Env):List (FuncId×FI)->Prop
 | []=>True
 |x::r=>(E.fn x.1=some x.2/\E.ax x.1=some λ_=>none)/\Od E r
def Ju(E:Env):List (Nat×TI)->Prop
 | []=>True
 |x::r=>E.ti x.1=some x.2/\Ju E r
def Jv(P:Program):List (Nat×List IntKind)->Prop
 | []=>True
 |x::r=>IY P x.1 x.2/\Jv P r
theorem AW{E:Env}{D:Nat}:∀{l:List aX},Oc E D l->∀e∈l,e.d<=D/\ay E e
 | [],_,e,h=>by simp at h
 |a::l,⟨h1,h2⟩,e,h=>by
  rcases List.mem_cons.1 h with rfl|h
  .exact h1
  .exact AW h2 e h
theorem xu{E:Env}:∀{l:List (FuncId×FI)},Od E l->∀k f,ak l k=some f->E.fn k=some f/\E.ax k=some λ_=>none
 | [],_,k,f,h=>by simp [ak]at h
 |a::l,⟨h1,h2⟩,k,f,h=>by
  rw [show a::l=(a.1,a.2)::l from rfl,al]at h;split at h
  .rename_i hk;cases h;subst hk;exact h1
  .exact xu h2 k f h
theorem xv{E:Env}:∀{l:List (Nat×TI)},Ju E l->∀k f,ak l k=some f->E.ti k=some f
 | [],_,k,f,h=>by simp [ak]at h
 |a::l,⟨h1,h2⟩,k,f,h=>by
  rw [show a::l=(a.1,a.2)::l from rfl,al]at h;split at h
  .rename_i hk;cases h;subst hk;exact h1
  .exact xv h2 k f h
theorem xw{P:Program}:∀{l:List (Nat×List IntKind)},Jv P l->∀k f,ak l k=some f->IY P k f
 | [],_,k,f,h=>by simp [ak]at h
 |a::l,⟨h1,h2⟩,k,f,h=>by
  rw [show a::l=(a.1,a.2)::l from rfl,al]at h;split at h
  .rename_i hk;cases h;subst hk;exact h1
  .exact xw h2 k f h
theorem gok{E:Env}{D:Nat}{tt:List (Nat×TI)}{eqs:List (Nat×List IntKind)}{fns:List aX}{fi:List (FuncId×FI)}(hE:E.Ok)(ht:Ju E tt)(hq:Jv E.P eqs)(hf:Oc E D fns)(hi:Od E fi):GOk ⟨tt,eqs,fns,fi⟩ E D:=⟨hE,xv ht,xw hq,AW hf,xu hi⟩
def mkE(G:KG)(A:cH)(fi:FI)(k:FuncId)(c:Nat)(ins:List TyD)(out:OutK)(d:Nat):aX:=⟨k,ins,out,du G A fi k c ins out,d⟩
theorem aS{E:Env}{D:Nat}{G:KG}{A:cH}{fi:FI}{k:FuncId}{c:Nat}{ins:List TyD}{out:OutK}{d:Nat}(hG:GOk G E D)(hax:E.ax k=none)(hf:E.fn k=some fi)(hl:Nat.ble ins.length fi.nt=true)(hd:D+c+1=d):ay E (mkE G A fi k c ins out d):=λm a o h=>by
 subst hd;exact Lk hG A hax hf (Nat.le_of_ble_eq_true hl) h m
def fiF(f:Func):FI:=⟨f.ntmps,f.results.toList,f.body.getD .skip⟩
theorem bk{P:Program}{k:FuncId}{f:Func}{b:Code}(h:P.funcs[k]? =some f)(hb:f.body=some b):Kl P k=some (fiF f):=by
 unfold Kl fiF;rw [h];simp only [hb];rfl
theorem Eb{P:Program}{ty:TypeId}{k0 k1:IntKind}(h:∀(x y:Operand) (a0 b0 a1 b1:Int),ao P (do eqGuard .eql ty x y (.agg #[.int k0 a0,.int k1 a1]) (.agg #[.int k0 b0,.int k1 b1]);binOp .eql ty (.agg #[.int k0 a0,.int k1 a1]) (.agg #[.int k0 b0,.int k1 b1]))=some (.bool (a0==b0 &&(a1==b1 && true))))
  (h':∀(x y:Operand) (a0 b0 a1 b1:Int),ao P (do eqGuard .neq ty x y (.agg #[.int k0 a0,.int k1 a1]) (.agg #[.int k0 b0,.int k1 b1]);binOp .neq ty (.agg #[.int k0 a0,.int k1 a1]) (.agg #[.int k0 b0,.int k1 b1]))=some (.bool (!(a0==b0 &&(a1==b1 && true))))):IY P ty [k0,k1]:=λx y l hl=>by
 match l,hl with
 | [(a0,b0),(a1,b1)],_=>
  have e:(a0==b0 &&(a1==b1 && true))= @decide (eqP [(a0,b0),(a1,b1)]) (eqD [(a0,b0),(a1,b1)]):=dV (by simp [eqP]);exact⟨(h x y a0 b0 a1 b1).trans (by rw [e]),(h' x y a0 b0 a1 b1).trans (by rw [e])⟩
theorem Ec{P:Program}{ty:TypeId}{k0 k1 k2:IntKind}(h:∀(x y:Operand) (a0 b0 a1 b1 a2 b2:Int),ao P (do eqGuard .eql ty x y (.agg #[.int k0 a0,.int k1 a1,.int k2 a2]) (.agg #[.int k0 b0,.int k1 b1,.int k2 b2]);binOp .eql ty (.agg #[.int k0 a0,.int k1 a1,.int k2 a2]) (.agg #[.int k0 b0,.int k1 b1,.int k2 b2]))=some (.bool (a0==b0 &&(a1==b1 &&(a2==b2 && true)))))
  (h':∀(x y:Operand) (a0 b0 a1 b1 a2 b2:Int),ao P (do eqGuard .neq ty x y (.agg #[.int k0 a0,.int k1 a1,.int k2 a2]) (.agg #[.int k0 b0,.int k1 b1,.int k2 b2]);binOp .neq ty (.agg #[.int k0 a0,.int k1 a1,.int k2 a2]) (.agg #[.int k0 b0,.int k1 b1,.int k2 b2]))=some (.bool (!(a0==b0 &&(a1==b1 &&(a2==b2 && true)))))):IY P ty [k0,k1,k2]:=λx y l hl=>by
 match l,hl with
 | [(a0,b0),(a1,b1),(a2,b2)],_=>
  have e:(a0==b0 &&(a1==b1 &&(a2==b2 && true)))= @decide (eqP [(a0,b0),(a1,b1),(a2,b2)]) (eqD [(a0,b0),(a1,b1),(a2,b2)]):=dV (by simp [eqP]);exact⟨(h x y a0 b0 a1 b1 a2 b2).trans (by rw [e]),(h' x y a0 b0 a1 b1 a2 b2).trans (by rw [e])⟩
end K
@[reducible] def nE {R:Type} (v:Empty):Option R:=K.afterX.match_1 (λ_=>Option R) v
end Ev
end
noncomputable section
namespace Ev
namespace K
open Go Go.RowKit
set_option maxRecDepth 100000
set_option maxHeartbeats 1000000
def i1:TI:=(⟨.func #[] #[] false,[.nilFunc],1,8⟩:TI)
def i4:TI:=(⟨.bool,[.bool false],1,1⟩:TI)
def i7:TI:=(⟨.struct (bZ Try.prog 7),[.int .i64 0,.int .i64 0,.bool false,.int .u8 0],4,24⟩:TI)
def i8:TI:=(⟨.struct (bZ Try.prog 8),[.int .i64 0,.int .i64 0,.bool false,.int .u8 0],4,24⟩:TI)
def i15:TI:=(⟨.pointer 159,[.pointer none],1,8⟩:TI)
def i16:TI:=(⟨.pointer 162,[.pointer none],1,8⟩:TI)
def i17:TI:=(⟨.pointer 170,[.pointer none],1,8⟩:TI)
def i18:TI:=(⟨.struct (bZ Try.prog 18),[.pointer none],1,8⟩:TI)
def i19:TI:=(⟨.struct (bZ Try.prog 19),[.pointer none],1,8⟩:TI)
def i22:TI:=(⟨.array 2 3,[.int .i64 0,.int .i64 0],2,16⟩:TI)
def i23:TI:=(⟨.slice 50,[.slice none 0 0],1,24⟩:TI)
def i24:TI:=(⟨.slice 5,[.slice none 0 0],1,24⟩:TI)
def i25:TI:=(⟨.func #[] #[4] false,[.nilFunc],1,8⟩:TI)
def i28:TI:=(⟨.func #[3,3,23] #[24,26] false,[.nilFunc],1,8⟩:TI)
def i29:TI:=(⟨.struct (bZ Try.prog 29),[.int .i64 0,.int .i64 0],2,16⟩:TI)
def i30:TI:=(⟨.struct (bZ Try.prog 30),[.int .i64 0,.int .i64 0],2,16⟩:TI)
def i32:TI:=(⟨.func #[24] #[3,3,23,30] false,[.nilFunc],1,8⟩:TI)
def i33:TI:=(⟨.func #[23,23] #[4] false,[.nilFunc],1,8⟩:TI)
def i34:TI:=(⟨.func #[24,24] #[4] false,[.nilFunc],1,8⟩:TI)
def i35:TI:=(⟨.func #[22,23,24] #[4] false,[.nilFunc],1,8⟩:TI)
def i36:TI:=(⟨.slice 48,[.slice none 0 0],1,24⟩:TI)
def i37:TI:=(⟨.struct (bZ Try.prog 37),[.int .i64 0,.slice none 0 0],2,32⟩:TI)
def i38:TI:=(⟨.struct (bZ Try.prog 38),[.int .i64 0,.slice none 0 0],2,32⟩:TI)
def i39:TI:=(⟨.func #[38] #[38] false,[.nilFunc],1,8⟩:TI)
def i40:TI:=(⟨.func #[38] #[24,26] false,[.nilFunc],1,8⟩:TI)
def i42:TI:=(⟨.func #[24] #[38,30] false,[.nilFunc],1,8⟩:TI)
def i43:TI:=(⟨.func #[38,38] #[4] false,[.nilFunc],1,8⟩:TI)
def i44:TI:=(⟨.func #[24] #[4] false,[.nilFunc],1,8⟩:TI)
def i45:TI:=(⟨.func #[36] #[4] false,[.nilFunc],1,8⟩:TI)
def i46:TI:=(⟨.func #[38] #[4] false,[.nilFunc],1,8⟩:TI)
def i47:TI:=(⟨.struct (bZ Try.prog 47),[.int .i64 0,.int .i64 0,.int .i64 0],3,24⟩:TI)
def i48:TI:=(⟨.struct (bZ Try.prog 48),[.int .i64 0,.int .i64 0,.int .i64 0],3,24⟩:TI)
def i49:TI:=(⟨.struct (bZ Try.prog 49),[.int .i64 0,.int .i64 0,.int .i64 0],3,24⟩:TI)
def i50:TI:=(⟨.struct (bZ Try.prog 50),[.int .i64 0,.int .i64 0,.int .i64 0],3,24⟩:TI)
def i51:TI:=(⟨.func #[3,3,23] #[26] false,[.nilFunc],1,8⟩:TI)
def i52:TI:=(⟨.func #[75] #[24] true,[.nilFunc],1,8⟩:TI)
def i53:TI:=(⟨.func #[2] #[24] false,[.nilFunc],1,8⟩:TI)
def i54:TI:=(⟨.struct (bZ Try.prog 54),[.int .i64 0,.int .i64 0,.slice none 0 0],3,40⟩:TI)
def i55:TI:=(⟨.struct (bZ Try.prog 55),[.int .i64 0,.int .i64 0,.slice none 0 0],3,40⟩:TI)
def i57:TI:=(⟨.func #[24,58] #[55,30] false,[.nilFunc],1,8⟩:TI)
def i58:TI:=(⟨.func #[85] #[55] false,[.nilFunc],1,8⟩:TI)
def i59:TI:=(⟨.func #[3,3] #[3] false,[.nilFunc],1,8⟩:TI)
def i60:TI:=(⟨.func #[36] #[36] false,[.nilFunc],1,8⟩:TI)
def i61:TI:=(⟨.func #[48] #[48] false,[.nilFunc],1,8⟩:TI)
def i62:TI:=(⟨.func #[38] #[26] false,[.nilFunc],1,8⟩:TI)
def i63:TI:=(⟨.func #[36] #[5] false,[.nilFunc],1,8⟩:TI)
def i64:TI:=(⟨.func #[5] #[24] false,[.nilFunc],1,8⟩:TI)
def i65:TI:=(⟨.func #[24,66] #[38,30] false,[.nilFunc],1,8⟩:TI)
def i66:TI:=(⟨.func #[85] #[38] false,[.nilFunc],1,8⟩:TI)
def i67:TI:=(⟨.func #[36,36] #[4] false,[.nilFunc],1,8⟩:TI)
def i68:TI:=(⟨.func #[38,69,61] #[38] false,[.nilFunc],1,8⟩:TI)
def i69:TI:=(⟨.func #[48] #[4] false,[.nilFunc],1,8⟩:TI)
def i70:TI:=(⟨.func #[48,48] #[3] false,[.nilFunc],1,8⟩:TI)
def i72:TI:=(⟨.func #[73,36] #[36,26] false,[.nilFunc],1,8⟩:TI)
def i74:TI:=(⟨.func #[50,50] #[4] false,[.nilFunc],1,8⟩:TI)
def i75:TI:=(⟨.slice 3,[.slice none 0 0],1,24⟩:TI)
def i76:TI:=(⟨.func #[77] #[24] false,[.nilFunc],1,8⟩:TI)
def i77:TI:=(⟨.int .u32,[.int .u32 0],1,4⟩:TI)
def i78:TI:=(⟨.func #[2,3] #[24] false,[.nilFunc],1,8⟩:TI)
def i79:TI:=(⟨.struct (bZ Try.prog 79),[.int .i64 0,.int .i64 0],2,16⟩:TI)
def i80:TI:=(⟨.struct (bZ Try.prog 80),[.int .i64 0,.int .i64 0],2,16⟩:TI)
def i82:TI:=(⟨.pointer 115,[.pointer none],1,8⟩:TI)
def i83:TI:=(⟨.func #[24] #[82] false,[.nilFunc],1,8⟩:TI)
def i84:TI:=(⟨.struct (bZ Try.prog 84),[.pointer none],1,8⟩:TI)
def i85:TI:=(⟨.struct (bZ Try.prog 85),[.pointer none],1,8⟩:TI)
def i86:TI:=(⟨.func #[4,26,3] #[] false,[.nilFunc],1,8⟩:TI)
def i87:TI:=(⟨.func #[] #[3] false,[.nilFunc],1,8⟩:TI)
def i88:TI:=(⟨.func #[9] #[] false,[.nilFunc],1,8⟩:TI)
def i89:TI:=(⟨.func #[3,26] #[3] false,[.nilFunc],1,8⟩:TI)
def i90:TI:=(⟨.func #[3,92] #[23] false,[.nilFunc],1,8⟩:TI)
def i91:TI:=(⟨.func #[] #[2] false,[.nilFunc],1,8⟩:TI)
def i92:TI:=(⟨.func #[3] #[50] false,[.nilFunc],1,8⟩:TI)
def i93:TI:=(⟨.func #[36,69] #[4] false,[.nilFunc],1,8⟩:TI)
def i94:TI:=(⟨.func #[3,3] #[4] false,[.nilFunc],1,8⟩:TI)
def i95:TI:=(⟨.func #[5,3] #[24] false,[.nilFunc],1,8⟩:TI)
def i96:TI:=(⟨.func #[] #[5] false,[.nilFunc],1,8⟩:TI)
def i97:TI:=(⟨.func #[3,98] #[36] false,[.nilFunc],1,8⟩:TI)
def i98:TI:=(⟨.func #[3] #[48] false,[.nilFunc],1,8⟩:TI)
def i99:TI:=(⟨.func #[75] #[3] true,[.nilFunc],1,8⟩:TI)
def PI:TI:=(⟨.func #[73] #[4] false,[.nilFunc],1,8⟩:TI)
def PJ:TI:=(⟨.struct (bZ Try.prog 103),[.int .i64 0,.int .u64 0],2,16⟩:TI)
def PK:TI:=(⟨.struct (bZ Try.prog 104),[.int .i64 0,.int .u64 0],2,16⟩:TI)
def PL:TI:=(⟨.func #[73,104,104] #[104] false,[.nilFunc],1,8⟩:TI)
def PM:TI:=(⟨.func #[2] #[104] false,[.nilFunc],1,8⟩:TI)
def PO:TI:=(⟨.func #[73,104] #[2,4] false,[.nilFunc],1,8⟩:TI)
def PP:TI:=(⟨.func #[36,70] #[] false,[.nilFunc],1,8⟩:TI)
def PQ:TI:=(⟨.func #[77,3] #[24] false,[.nilFunc],1,8⟩:TI)
def PU:TI:=(⟨.func #[24] #[24] false,[.nilFunc],1,8⟩:TI)
def PV:TI:=(⟨.struct (bZ Try.prog 114),[.slice none 0 0,.int .i64 0,.int .i64 0,.int .i64 0],4,48⟩:TI)
def PX:TI:=(⟨.struct (bZ Try.prog 115),[.slice none 0 0,.int .i64 0,.int .i64 0,.int .i64 0],4,48⟩:TI)
def PY:TI:=(⟨.func #[26,3] #[] false,[.nilFunc],1,8⟩:TI)
def PZ:TI:=(⟨.func #[] #[30] false,[.nilFunc],1,8⟩:TI)
def Qa:TI:=(⟨.func #[3] #[24] false,[.nilFunc],1,8⟩:TI)
def Qb:TI:=(⟨.func #[] #[77] false,[.nilFunc],1,8⟩:TI)
def Qc:TI:=(⟨.func #[82,3,121] #[2] false,[.nilFunc],1,8⟩:TI)
def Qd:TI:=(⟨.func #[24] #[2] false,[.nilFunc],1,8⟩:TI)
def Qe:TI:=(⟨.func #[36,69] #[3] false,[.nilFunc],1,8⟩:TI)
def Qf:TI:=(⟨.func #[82,3,124] #[5] false,[.nilFunc],1,8⟩:TI)
def Qg:TI:=(⟨.func #[24] #[5] false,[.nilFunc],1,8⟩:TI)
def Qh:TI:=(⟨.func #[3] #[4] false,[.nilFunc],1,8⟩:TI)
def Qi:TI:=(⟨.func #[104,104] #[104] false,[.nilFunc],1,8⟩:TI)
def Qj:TI:=(⟨.func #[4] #[104] false,[.nilFunc],1,8⟩:TI)
def Qk:TI:=(⟨.func #[104] #[2,4] false,[.nilFunc],1,8⟩:TI)
def Ql:TI:=(⟨.func #[36,3,3,3,70] #[] false,[.nilFunc],1,8⟩:TI)
def Qm:TI:=(⟨.func #[112] #[3] false,[.nilFunc],1,8⟩:TI)
def Qn:TI:=(⟨.func #[82,3,113] #[24] false,[.nilFunc],1,8⟩:TI)
def Qo:TI:=(⟨.func #[82,3,133] #[77] false,[.nilFunc],1,8⟩:TI)
def Qp:TI:=(⟨.func #[24] #[77] false,[.nilFunc],1,8⟩:TI)
def Qq:TI:=(⟨.struct (bZ Try.prog 134),[.int .i64 0,.int .i64 0],2,16⟩:TI)
def Qr:TI:=(⟨.struct (bZ Try.prog 135),[.int .i64 0,.int .i64 0],2,16⟩:TI)
def Qs:TI:=(⟨.func #[104,104] #[3] false,[.nilFunc],1,8⟩:TI)
def Qt:TI:=(⟨.func #[36,3,3,70] #[] false,[.nilFunc],1,8⟩:TI)
def Qu:TI:=(⟨.func #[36,3,3,70] #[3,139] false,[.nilFunc],1,8⟩:TI)
def Qv:TI:=(⟨.func #[36,3,3,70] #[4] false,[.nilFunc],1,8⟩:TI)
def Qw:TI:=(⟨.func #[36,3,3,3,70] #[3] false,[.nilFunc],1,8⟩:TI)
def Qx:TI:=(⟨.func #[36,3,3,3,70] #[3,4] false,[.nilFunc],1,8⟩:TI)
def Qy:TI:=(⟨.func #[77] #[3] false,[.nilFunc],1,8⟩:TI)
def Qz:TI:=(⟨.func #[102] #[3] false,[.nilFunc],1,8⟩:TI)
def QA:TI:=(⟨.func #[3] #[112] false,[.nilFunc],1,8⟩:TI)
def QB:TI:=(⟨.func #[] #[102] false,[.nilFunc],1,8⟩:TI)
def QC:TI:=(⟨.func #[36,3,152,70] #[3] false,[.nilFunc],1,8⟩:TI)
def QD:TI:=(⟨.pointer 3,[.pointer none],1,8⟩:TI)
def QE:TI:=(⟨.func #[36,3,3,3,152,70] #[3] false,[.nilFunc],1,8⟩:TI)
def QF:TI:=(⟨.pointer 148,[.pointer none],1,8⟩:TI)
def QG:TI:=(⟨.func #[36,3,3,152,70] #[3,3] false,[.nilFunc],1,8⟩:TI)
def QH:TI:=(⟨.func #[] #[9] false,[.nilFunc],1,8⟩:TI)
def QI:TI:=(⟨.array 0 16,[],0,0⟩:TI)
def QJ:TI:=(⟨.struct (bZ Try.prog 161),[],0,0⟩:TI)
def QK:TI:=(⟨.struct (bZ Try.prog 162),[],0,0⟩:TI)
def QL:TI:=(⟨.func #[171,171] #[4] false,[.nilFunc],1,8⟩:TI)
def QM:TI:=(⟨.pointer 5,[.pointer none],1,8⟩:TI)
def QN:TI:=(⟨.struct (bZ Try.prog 169),[.int .u64 0,.int .u64 0,.int .u32 0,.int .u8 0,.int .u8 0,.int .u8 0,.int .u8 0,.nilFunc,.pointer none,.int .i32 0,.int .i32 0],11,48⟩:TI)
def QO:TI:=(⟨.struct (bZ Try.prog 170),[.int .u64 0,.int .u64 0,.int .u32 0,.int .u8 0,.int .u8 0,.int .u8 0,.int .u8 0,.nilFunc,.pointer none,.int .i32 0,.int .i32 0],11,48⟩:TI)
def TT:List (Nat×TI):= [(1,i1),
 (2,(⟨.int .i64,[.int .i64 0],1,8⟩:TI)),
 (3,(⟨.int .i64,[.int .i64 0],1,8⟩:TI)),
 (4,i4),
 (5,(⟨.int .u8,[.int .u8 0],1,1⟩:TI)),
 (6,(⟨.int .u8,[.int .u8 0],1,1⟩:TI)),
 (7,i7),
 (8,i8),
 (12,(⟨.int .u64,[.int .u64 0],1,8⟩:TI)),
 (15,i15),
 (16,i16),
 (17,i17),
 (18,i18),
 (19,i19),
 (21,(⟨.int .i32,[.int .i32 0],1,4⟩:TI)),
 (22,i22),
 (23,i23),
 (24,i24),
 (25,i25),
 (26,(⟨.int .i64,[.int .i64 0],1,8⟩:TI)),
 (28,i28),
 (29,i29),
 (30,i30),
 (32,i32),
 (33,i33),
 (34,i34),
 (35,i35),
 (36,i36),
 (37,i37),
 (38,i38),
 (39,i39),
 (40,i40),
 (42,i42),
 (43,i43),
 (44,i44),
 (45,i45),
 (46,i46),
 (47,i47),
 (48,i48),
 (49,i49),
 (50,i50),
 (51,i51),
 (52,i52),
 (53,i53),
 (54,i54),
 (55,i55),
 (57,i57),
 (58,i58),
 (59,i59),
 (60,i60),
 (61,i61),
 (62,i62),
 (63,i63),
 (64,i64),
 (65,i65),
 (66,i66),
 (67,i67),
 (68,i68),
 (69,i69),
 (70,i70),
 (72,i72),
 (73,(⟨.int .i64,[.int .i64 0],1,8⟩:TI)),
 (74,i74),
 (75,i75),
 (76,i76),
 (77,i77),
 (78,i78),
 (79,i79),
 (80,i80),
 (82,i82),
 (83,i83),
 (84,i84),
 (85,i85),
 (86,i86),
 (87,i87),
 (88,i88),
 (89,i89),
 (90,i90),
 (91,i91),
 (92,i92),
 (93,i93),
 (94,i94),
 (95,i95),
 (96,i96),
 (97,i97),
 (98,i98),
 (99,i99),
 (100,PI),
 (102,(⟨.int .u64,[.int .u64 0],1,8⟩:TI)),
 (103,PJ),
 (104,PK),
 (106,PL),
 (107,PM),
 (109,PO),
 (110,PP),
 (111,PQ),
 (112,(⟨.int .u64,[.int .u64 0],1,8⟩:TI)),
 (113,PU),
 (114,PV),
 (115,PX),
 (116,PY),
 (117,PZ),
 (118,Qa),
 (119,Qb),
 (120,Qc),
 (121,Qd),
 (122,Qe),
 (123,Qf),
 (124,Qg),
 (125,Qh),
 (126,Qi),
 (127,Qj),
 (128,Qk),
 (129,Ql),
 (130,Qm),
 (131,Qn),
 (132,Qo),
 (133,Qp),
 (134,Qq),
 (135,Qr),
 (137,Qs),
 (138,Qt),
 (139,(⟨.int .i64,[.int .i64 0],1,8⟩:TI)),
 (141,Qu),
 (142,Qv),
 (143,Qw),
 (145,Qx),
 (146,Qy),
 (147,Qz),
 (148,(⟨.int .u64,[.int .u64 0],1,8⟩:TI)),
 (149,QA),
 (150,QB),
 (151,QC),
 (152,QD),
 (153,QE),
 (154,QF),
 (156,QG),
 (157,QH),
 (160,QI),
 (161,QJ),
 (162,QK),
 (163,(⟨.int .u8,[.int .u8 0],1,1⟩:TI)),
 (164,(⟨.int .u8,[.int .u8 0],1,1⟩:TI)),
 (165,QL),
 (166,QM),
 (167,(⟨.int .i32,[.int .i32 0],1,4⟩:TI)),
 (168,(⟨.int .i32,[.int .i32 0],1,4⟩:TI)),
 (169,QN),
 (170,QO)]
theorem tz1:aq Try.prog 1=some i1:=by kernel_rfl
theorem tz2:aq Try.prog 2=some (⟨.int .i64,[.int .i64 0],1,8⟩:TI):=by kernel_rfl
theorem tz3:aq Try.prog 3=some (⟨.int .i64,[.int .i64 0],1,8⟩:TI):=by kernel_rfl
theorem tz4:aq Try.prog 4=some i4:=by kernel_rfl
theorem tz5:aq Try.prog 5=some (⟨.int .u8,[.int .u8 0],1,1⟩:TI):=by kernel_rfl
theorem tz6:aq Try.prog 6=some (⟨.int .u8,[.int .u8 0],1,1⟩:TI):=by kernel_rfl
theorem tz7:aq Try.prog 7=some i7:=by kernel_rfl
theorem tz8:aq Try.prog 8=some i8:=by kernel_rfl
theorem QP:aq Try.prog 12=some (⟨.int .u64,[.int .u64 0],1,8⟩:TI):=by kernel_rfl
theorem QQ:aq Try.prog 15=some i15:=by kernel_rfl
theorem QR:aq Try.prog 16=some i16:=by kernel_rfl
theorem QS:aq Try.prog 17=some i17:=by kernel_rfl
theorem QU:aq Try.prog 18=some i18:=by kernel_rfl
theorem QV:aq Try.prog 19=some i19:=by kernel_rfl
theorem QW:aq Try.prog 21=some (⟨.int .i32,[.int .i32 0],1,4⟩:TI):=by kernel_rfl
theorem QX:aq Try.prog 22=some i22:=by kernel_rfl
theorem QY:aq Try.prog 23=some i23:=by kernel_rfl
theorem QZ:aq Try.prog 24=some i24:=by kernel_rfl
theorem Ra:aq Try.prog 25=some i25:=by kernel_rfl
theorem Rb:aq Try.prog 26=some (⟨.int .i64,[.int .i64 0],1,8⟩:TI):=by kernel_rfl
theorem Rc:aq Try.prog 28=some i28:=by kernel_rfl
theorem Rd:aq Try.prog 29=some i29:=by kernel_rfl
theorem Re:aq Try.prog 30=some i30:=by kernel_rfl
theorem Rf:aq Try.prog 32=some i32:=by kernel_rfl
theorem Rh:aq Try.prog 33=some i33:=by kernel_rfl
theorem Ri:aq Try.prog 34=some i34:=by kernel_rfl
theorem Rj:aq Try.prog 35=some i35:=by kernel_rfl
theorem Rk:aq Try.prog 36=some i36:=by kernel_rfl
theorem Rm:aq Try.prog 37=some i37:=by kernel_rfl
theorem Rn:aq Try.prog 38=some i38:=by kernel_rfl
theorem Ro:aq Try.prog 39=some i39:=by kernel_rfl
theorem Rp:aq Try.prog 40=some i40:=by kernel_rfl
theorem Rq:aq Try.prog 42=some i42:=by kernel_rfl
theorem Rr:aq Try.prog 43=some i43:=by kernel_rfl
theorem Rs:aq Try.prog 44=some i44:=by kernel_rfl
theorem Rt:aq Try.prog 45=some i45:=by kernel_rfl
theorem Ru:aq Try.prog 46=some i46:=by kernel_rfl
theorem Rv:aq Try.prog 47=some i47:=by kernel_rfl
theorem Rw:aq Try.prog 48=some i48:=by kernel_rfl
theorem Rx:aq Try.prog 49=some i49:=by kernel_rfl
theorem Ry:aq Try.prog 50=some i50:=by kernel_rfl
theorem Rz:aq Try.prog 51=some i51:=by kernel_rfl
theorem RA:aq Try.prog 52=some i52:=by kernel_rfl
theorem RE:aq Try.prog 53=some i53:=by kernel_rfl
theorem RF:aq Try.prog 54=some i54:=by kernel_rfl
theorem RH:aq Try.prog 55=some i55:=by kernel_rfl
theorem RI:aq Try.prog 57=some i57:=by kernel_rfl
theorem RJ:aq Try.prog 58=some i58:=by kernel_rfl
theorem RK:aq Try.prog 59=some i59:=by kernel_rfl
theorem RL:aq Try.prog 60=some i60:=by kernel_rfl
theorem RM:aq Try.prog 61=some i61:=by kernel_rfl
theorem RN:aq Try.prog 62=some i62:=by kernel_rfl
theorem RO:aq Try.prog 63=some i63:=by kernel_rfl
theorem RP:aq Try.prog 64=some i64:=by kernel_rfl
theorem RQ:aq Try.prog 65=some i65:=by kernel_rfl
theorem RT:aq Try.prog 66=some i66:=by kernel_rfl
theorem RU:aq Try.prog 67=some i67:=by kernel_rfl
theorem RV:aq Try.prog 68=some i68:=by kernel_rfl
theorem RY:aq Try.prog 69=some i69:=by kernel_rfl
theorem RZ:aq Try.prog 70=some i70:=by kernel_rfl
theorem Sa:aq Try.prog 72=some i72:=by kernel_rfl
theorem Sb:aq Try.prog 73=some (⟨.int .i64,[.int .i64 0],1,8⟩:TI):=by kernel_rfl
theorem Sd:aq Try.prog 74=some i74:=by kernel_rfl
theorem Se:aq Try.prog 75=some i75:=by kernel_rfl
theorem Sf:aq Try.prog 76=some i76:=by kernel_rfl
theorem Sg:aq Try.prog 77=some i77:=by kernel_rfl
theorem Si:aq Try.prog 78=some i78:=by kernel_rfl
theorem Sj:aq Try.prog 79=some i79:=by kernel_rfl
theorem Sk:aq Try.prog 80=some i80:=by kernel_rfl
theorem Sn:aq Try.prog 82=some i82:=by kernel_rfl
theorem So:aq Try.prog 83=some i83:=by kernel_rfl
theorem Sp:aq Try.prog 84=some i84:=by kernel_rfl
theorem Sq:aq Try.prog 85=some i85:=by kernel_rfl
theorem Sr:aq Try.prog 86=some i86:=by kernel_rfl
theorem Ss:aq Try.prog 87=some i87:=by kernel_rfl
theorem Su:aq Try.prog 88=some i88:=by kernel_rfl
theorem Sv:aq Try.prog 89=some i89:=by kernel_rfl
theorem Sw:aq Try.prog 90=some i90:=by kernel_rfl
theorem Sx:aq Try.prog 91=some i91:=by kernel_rfl
theorem Sy:aq Try.prog 92=some i92:=by kernel_rfl
theorem Sz:aq Try.prog 93=some i93:=by kernel_rfl
theorem SA:aq Try.prog 94=some i94:=by kernel_rfl
theorem SB:aq Try.prog 95=some i95:=by kernel_rfl
theorem SC:aq Try.prog 96=some i96:=by kernel_rfl
theorem SD:aq Try.prog 97=some i97:=by kernel_rfl
theorem SE:aq Try.prog 98=some i98:=by kernel_rfl
theorem SF:aq Try.prog 99=some i99:=by kernel_rfl
theorem LL:aq Try.prog 100=some PI:=by kernel_rfl
theorem LM:aq Try.prog 102=some (⟨.int .u64,[.int .u64 0],1,8⟩:TI):=by kernel_rfl
theorem LN:aq Try.prog 103=some PJ:=by kernel_rfl
theorem LP:aq Try.prog 104=some PK:=by kernel_rfl
theorem LQ:aq Try.prog 106=some PL:=by kernel_rfl
theorem LR:aq Try.prog 107=some PM:=by kernel_rfl
theorem LS:aq Try.prog 109=some PO:=by kernel_rfl
theorem LT:aq Try.prog 110=some PP:=by kernel_rfl
theorem LU:aq Try.prog 111=some PQ:=by kernel_rfl
theorem LV:aq Try.prog 112=some (⟨.int .u64,[.int .u64 0],1,8⟩:TI):=by kernel_rfl
theorem LW:aq Try.prog 113=some PU:=by kernel_rfl
theorem LY:aq Try.prog 114=some PV:=by kernel_rfl
theorem LZ:aq Try.prog 115=some PX:=by kernel_rfl
theorem Ma:aq Try.prog 116=some PY:=by kernel_rfl
theorem Mb:aq Try.prog 117=some PZ:=by kernel_rfl
theorem Mc:aq Try.prog 118=some Qa:=by kernel_rfl
theorem Md:aq Try.prog 119=some Qb:=by kernel_rfl
theorem Me:aq Try.prog 120=some Qc:=by kernel_rfl
theorem Mf:aq Try.prog 121=some Qd:=by kernel_rfl
theorem Mg:aq Try.prog 122=some Qe:=by kernel_rfl
theorem Mh:aq Try.prog 123=some Qf:=by kernel_rfl
theorem Mi:aq Try.prog 124=some Qg:=by kernel_rfl
theorem Mj:aq Try.prog 125=some Qh:=by kernel_rfl
theorem Mk:aq Try.prog 126=some Qi:=by kernel_rfl
theorem Ml:aq Try.prog 127=some Qj:=by kernel_rfl
theorem Mm:aq Try.prog 128=some Qk:=by kernel_rfl
theorem Mn:aq Try.prog 129=some Ql:=by kernel_rfl
theorem Mo:aq Try.prog 130=some Qm:=by kernel_rfl
theorem Mp:aq Try.prog 131=some Qn:=by kernel_rfl
theorem Mq:aq Try.prog 132=some Qo:=by kernel_rfl
theorem Mr:aq Try.prog 133=some Qp:=by kernel_rfl
theorem Ms:aq Try.prog 134=some Qq:=by kernel_rfl
theorem Mt:aq Try.prog 135=some Qr:=by kernel_rfl
theorem Mu:aq Try.prog 137=some Qs:=by kernel_rfl
theorem Mv:aq Try.prog 138=some Qt:=by kernel_rfl
theorem Mw:aq Try.prog 139=some (⟨.int .i64,[.int .i64 0],1,8⟩:TI):=by kernel_rfl
theorem My:aq Try.prog 141=some Qu:=by kernel_rfl
theorem Mz:aq Try.prog 142=some Qv:=by kernel_rfl
theorem MA:aq Try.prog 143=some Qw:=by kernel_rfl
theorem MC:aq Try.prog 145=some Qx:=by kernel_rfl
theorem MD:aq Try.prog 146=some Qy:=by kernel_rfl
theorem ME:aq Try.prog 147=some Qz:=by kernel_rfl
theorem MF:aq Try.prog 148=some (⟨.int .u64,[.int .u64 0],1,8⟩:TI):=by kernel_rfl
theorem MG:aq Try.prog 149=some QA:=by kernel_rfl
theorem MH:aq Try.prog 150=some QB:=by kernel_rfl
theorem MI:aq Try.prog 151=some QC:=by kernel_rfl
theorem MJ:aq Try.prog 152=some QD:=by kernel_rfl
theorem MK:aq Try.prog 153=some QE:=by kernel_rfl
theorem ML:aq Try.prog 154=some QF:=by kernel_rfl
theorem MM:aq Try.prog 156=some QG:=by kernel_rfl
theorem MN:aq Try.prog 157=some QH:=by kernel_rfl
theorem MO:aq Try.prog 160=some QI:=by kernel_rfl
theorem MP:aq Try.prog 161=some QJ:=by kernel_rfl
theorem MQ:aq Try.prog 162=some QK:=by kernel_rfl
theorem MR:aq Try.prog 163=some (⟨.int .u8,[.int .u8 0],1,1⟩:TI):=by kernel_rfl
theorem MS:aq Try.prog 164=some (⟨.int .u8,[.int .u8 0],1,1⟩:TI):=by kernel_rfl
theorem MT:aq Try.prog 165=some QL:=by kernel_rfl
theorem MU:aq Try.prog 166=some QM:=by kernel_rfl
theorem MV:aq Try.prog 167=some (⟨.int .i32,[.int .i32 0],1,4⟩:TI):=by kernel_rfl
theorem MW:aq Try.prog 168=some (⟨.int .i32,[.int .i32 0],1,4⟩:TI):=by kernel_rfl
theorem MX:aq Try.prog 169=some QN:=by kernel_rfl
theorem MY:aq Try.prog 170=some QO:=by kernel_rfl
theorem CS:Try.prog.follows .mixedOrders=true:=by kernel_rfl
theorem CT:Dw Try.prog=true:=by kernel_rfl
def au:List TD->Option (Kind×List TD):=λ_=>none
theorem Ee(x y:Operand)(a0 b0 a1 b1:Int):ao Try.prog (do eqGuard .eql 30 x y (.agg #[.int .i64 a0,.int .i64 a1]) (.agg #[.int .i64 b0,.int .i64 b1]);binOp .eql 30 (.agg #[.int .i64 a0,.int .i64 a1]) (.agg #[.int .i64 b0,.int .i64 b1]))=some (.bool ((a0==b0 &&(a1==b1 && true)))):=by
 refine oG (by kernel_rfl) ((dD 9999 30 #[.int .i64 a0,.int .i64 a1] #[.int .i64 b0,.int .i64 b1] (fs:=bZ Try.prog 29) (by kernel_rfl) (by kernel_rfl)).trans ?_);rw [show(bZ Try.prog 29).toList= [fld Try.prog 29 0,fld Try.prog 29 1]by kernel_rfl];exact((aW (k:= .i64) (k':= .i64) (by kernel_rfl) (by kernel_rfl) (by kernel_rfl) (by kernel_rfl)).trans (cG ((aW (k:= .i64) (k':= .i64) (by kernel_rfl) (by kernel_rfl) (by kernel_rfl) (by kernel_rfl)).trans (cG cI))))
theorem Ef(x y:Operand)(a0 b0 a1 b1:Int):ao Try.prog (do eqGuard .neq 30 x y (.agg #[.int .i64 a0,.int .i64 a1]) (.agg #[.int .i64 b0,.int .i64 b1]);binOp .neq 30 (.agg #[.int .i64 a0,.int .i64 a1]) (.agg #[.int .i64 b0,.int .i64 b1]))=some (.bool (!(a0==b0 &&(a1==b1 && true)))):=by
 refine oH (by kernel_rfl) ((dD 9999 30 #[.int .i64 a0,.int .i64 a1] #[.int .i64 b0,.int .i64 b1] (fs:=bZ Try.prog 29) (by kernel_rfl) (by kernel_rfl)).trans ?_);rw [show(bZ Try.prog 29).toList= [fld Try.prog 29 0,fld Try.prog 29 1]by kernel_rfl];exact((aW (k:= .i64) (k':= .i64) (by kernel_rfl) (by kernel_rfl) (by kernel_rfl) (by kernel_rfl)).trans (cG ((aW (k:= .i64) (k':= .i64) (by kernel_rfl) (by kernel_rfl) (by kernel_rfl) (by kernel_rfl)).trans (cG cI))))
theorem Eh(x y:Operand)(a0 b0 a1 b1 a2 b2:Int):ao Try.prog (do eqGuard .eql 48 x y (.agg #[.int .i64 a0,.int .i64 a1,.int .i64 a2]) (.agg #[.int .i64 b0,.int .i64 b1,.int .i64 b2]);binOp .eql 48 (.agg #[.int .i64 a0,.int .i64 a1,.int .i64 a2]) (.agg #[.int .i64 b0,.int .i64 b1,.int .i64 b2]))=some (.bool ((a0==b0 &&(a1==b1 &&(a2==b2 && true))))):=by
 refine oG (by kernel_rfl) ((dD 9999 48 #[.int .i64 a0,.int .i64 a1,.int .i64 a2] #[.int .i64 b0,.int .i64 b1,.int .i64 b2] (fs:=bZ Try.prog 47) (by kernel_rfl) (by kernel_rfl)).trans ?_);rw [show(bZ Try.prog 47).toList= [fld Try.prog 47 0,fld Try.prog 47 1,fld Try.prog 47 2]by kernel_rfl];exact((aW (k:= .i64) (k':= .i64) (by kernel_rfl) (by kernel_rfl) (by kernel_rfl) (by kernel_rfl)).trans (cG ((aW (k:= .i64) (k':= .i64) (by kernel_rfl) (by kernel_rfl) (by kernel_rfl) (by kernel_rfl)).trans (cG ((aW (k:= .i64) (k':= .i64) (by kernel_rfl) (by kernel_rfl) (by kernel_rfl) (by kernel_rfl)).trans (cG cI))))))
theorem Ei(x y:Operand)(a0 b0 a1 b1 a2 b2:Int):ao Try.prog (do eqGuard .neq 48 x y (.agg #[.int .i64 a0,.int .i64 a1,.int .i64 a2]) (.agg #[.int .i64 b0,.int .i64 b1,.int .i64 b2]);binOp .neq 48 (.agg #[.int .i64 a0,.int .i64 a1,.int .i64 a2]) (.agg #[.int .i64 b0,.int .i64 b1,.int .i64 b2]))=some (.bool (!(a0==b0 &&(a1==b1 &&(a2==b2 && true))))):=by
 refine oH (by kernel_rfl) ((dD 9999 48 #[.int .i64 a0,.int .i64 a1,.int .i64 a2] #[.int .i64 b0,.int .i64 b1,.int .i64 b2] (fs:=bZ Try.prog 47) (by kernel_rfl) (by kernel_rfl)).trans ?_);rw [show(bZ Try.prog 47).toList= [fld Try.prog 47 0,fld Try.prog 47 1,fld Try.prog 47 2]by kernel_rfl];exact((aW (k:= .i64) (k':= .i64) (by kernel_rfl) (by kernel_rfl) (by kernel_rfl) (by kernel_rfl)).trans (cG ((aW (k:= .i64) (k':= .i64) (by kernel_rfl) (by kernel_rfl) (by kernel_rfl) (by kernel_rfl)).trans (cG ((aW (k:= .i64) (k':= .i64) (by kernel_rfl) (by kernel_rfl) (by kernel_rfl) (by kernel_rfl)).trans (cG cI))))))
theorem Ej(x y:Operand)(a0 b0 a1 b1 a2 b2:Int):ao Try.prog (do eqGuard .eql 50 x y (.agg #[.int .i64 a0,.int .i64 a1,.int .i64 a2]) (.agg #[.int .i64 b0,.int .i64 b1,.int .i64 b2]);binOp .eql 50 (.agg #[.int .i64 a0,.int .i64 a1,.int .i64 a2]) (.agg #[.int .i64 b0,.int .i64 b1,.int .i64 b2]))=some (.bool ((a0==b0 &&(a1==b1 &&(a2==b2 && true))))):=by
 refine oG (by kernel_rfl) ((dD 9999 50 #[.int .i64 a0,.int .i64 a1,.int .i64 a2] #[.int .i64 b0,.int .i64 b1,.int .i64 b2] (fs:=bZ Try.prog 49) (by kernel_rfl) (by kernel_rfl)).trans ?_);rw [show(bZ Try.prog 49).toList= [fld Try.prog 49 0,fld Try.prog 49 1,fld Try.prog 49 2]by kernel_rfl];exact((aW (k:= .i64) (k':= .i64) (by kernel_rfl) (by kernel_rfl) (by kernel_rfl) (by kernel_rfl)).trans (cG ((aW (k:= .i64) (k':= .i64) (by kernel_rfl) (by kernel_rfl) (by kernel_rfl) (by kernel_rfl)).trans (cG ((aW (k:= .i64) (k':= .i64) (by kernel_rfl) (by kernel_rfl) (by kernel_rfl) (by kernel_rfl)).trans (cG cI))))))
theorem Ek(x y:Operand)(a0 b0 a1 b1 a2 b2:Int):ao Try.prog (do eqGuard .neq 50 x y (.agg #[.int .i64 a0,.int .i64 a1,.int .i64 a2]) (.agg #[.int .i64 b0,.int .i64 b1,.int .i64 b2]);binOp .neq 50 (.agg #[.int .i64 a0,.int .i64 a1,.int .i64 a2]) (.agg #[.int .i64 b0,.int .i64 b1,.int .i64 b2]))=some (.bool (!(a0==b0 &&(a1==b1 &&(a2==b2 && true))))):=by
 refine oH (by kernel_rfl) ((dD 9999 50 #[.int .i64 a0,.int .i64 a1,.int .i64 a2] #[.int .i64 b0,.int .i64 b1,.int .i64 b2] (fs:=bZ Try.prog 49) (by kernel_rfl) (by kernel_rfl)).trans ?_);rw [show(bZ Try.prog 49).toList= [fld Try.prog 49 0,fld Try.prog 49 1,fld Try.prog 49 2]by kernel_rfl];exact((aW (k:= .i64) (k':= .i64) (by kernel_rfl) (by kernel_rfl) (by kernel_rfl) (by kernel_rfl)).trans (cG ((aW (k:= .i64) (k':= .i64) (by kernel_rfl) (by kernel_rfl) (by kernel_rfl) (by kernel_rfl)).trans (cG ((aW (k:= .i64) (k':= .i64) (by kernel_rfl) (by kernel_rfl) (by kernel_rfl) (by kernel_rfl)).trans (cG cI))))))
theorem AX(x y:Operand)(a0 b0 a1 b1:Int):ao Try.prog (do eqGuard .eql 104 x y (.agg #[.int .i64 a0,.int .u64 a1]) (.agg #[.int .i64 b0,.int .u64 b1]);binOp .eql 104 (.agg #[.int .i64 a0,.int .u64 a1]) (.agg #[.int .i64 b0,.int .u64 b1]))=some (.bool ((a0==b0 &&(a1==b1 && true)))):=by
 refine oG (by kernel_rfl) ((dD 9999 104 #[.int .i64 a0,.int .u64 a1] #[.int .i64 b0,.int .u64 b1] (fs:=bZ Try.prog 103) (by kernel_rfl) (by kernel_rfl)).trans ?_);rw [show(bZ Try.prog 103).toList= [fld Try.prog 103 0,fld Try.prog 103 1]by kernel_rfl];exact((aW (k:= .i64) (k':= .i64) (by kernel_rfl) (by kernel_rfl) (by kernel_rfl) (by kernel_rfl)).trans (cG ((aW (k:= .u64) (k':= .u64) (by kernel_rfl) (by kernel_rfl) (by kernel_rfl) (by kernel_rfl)).trans (cG cI))))
theorem AY(x y:Operand)(a0 b0 a1 b1:Int):ao Try.prog (do eqGuard .neq 104 x y (.agg #[.int .i64 a0,.int .u64 a1]) (.agg #[.int .i64 b0,.int .u64 b1]);binOp .neq 104 (.agg #[.int .i64 a0,.int .u64 a1]) (.agg #[.int .i64 b0,.int .u64 b1]))=some (.bool (!(a0==b0 &&(a1==b1 && true)))):=by
 refine oH (by kernel_rfl) ((dD 9999 104 #[.int .i64 a0,.int .u64 a1] #[.int .i64 b0,.int .u64 b1] (fs:=bZ Try.prog 103) (by kernel_rfl) (by kernel_rfl)).trans ?_);rw [show(bZ Try.prog 103).toList= [fld Try.prog 103 0,fld Try.prog 103 1]by kernel_rfl];exact((aW (k:= .i64) (k':= .i64) (by kernel_rfl) (by kernel_rfl) (by kernel_rfl) (by kernel_rfl)).trans (cG ((aW (k:= .u64) (k':= .u64) (by kernel_rfl) (by kernel_rfl) (by kernel_rfl) (by kernel_rfl)).trans (cG cI))))
def EQS:List (Nat×List IntKind):= [(30,[.i64,.i64]),(48,[.i64,.i64,.i64]),(50,[.i64,.i64,.i64]),(104,[.i64,.u64])]
def fi4:FI:=fiF Try.f4
def SG:FI:=fiF Try.f11
def SH:FI:=fiF Try.f13
def SI:FI:=fiF Try.f15
def SJ:FI:=fiF Try.f16
def SK:FI:=fiF Try.f17
def Oe:FI:=fiF Try.f18
def SM:FI:=fiF Try.f19
def SN:FI:=fiF Try.f22
def SO:FI:=fiF Try.f26
def SP:FI:=fiF Try.f28
def SQ:FI:=fiF Try.f29
def SR:FI:=fiF Try.f30
def SS:FI:=fiF Try.f31
def ST:FI:=fiF Try.f34
def SU:FI:=fiF Try.f35
def SV:FI:=fiF Try.f36
def Of:FI:=fiF Try.f38
def SW:FI:=fiF Try.f42
def SX:FI:=fiF Try.f54
def SY:FI:=fiF Try.f55
def SZ:FI:=fiF Try.f56
def Ta:FI:=fiF Try.f57
def Tb:FI:=fiF Try.f58
def Og:FI:=fiF Try.f63
def Oh:FI:=fiF Try.f64
def Tc:FI:=fiF Try.f65
def Td:FI:=fiF Try.f66
def Te:FI:=fiF Try.f67
def Tf:FI:=fiF Try.f68
def Tg:FI:=fiF Try.f70
def Ti:FI:=fiF Try.f78
def Oi:FI:=fiF Try.f81
def Tj:FI:=fiF Try.f82
def Tk:FI:=fiF Try.f83
def Tl:FI:=fiF Try.f84
def Tm:FI:=fiF Try.f85
def Tn:FI:=fiF Try.f94
abbrev yD3:TyD:=(true,.C (.I .i64) (.I .u64))
abbrev yD2:TyD:=(true,.C (.I .i64) (.C (.I .i64) (.I .i64)))
abbrev yD1:TyD:=(false,.S (.C (.I .i64) (.C (.I .i64) (.I .i64))))
abbrev yD0:TyD:=(true,.C (.I .i64) (.S (.C (.I .i64) (.C (.I .i64) (.I .i64)))))
end K
end Ev
end
noncomputable section
namespace Ev
namespace K
open Go Go.RowKit
set_option maxRecDepth 100000
set_option maxHeartbeats 1000000
def Gb:cH:= []
def xx:KG:=⟨TT,EQS,[],[]⟩
def iZ:aQ [(false,.I .i64)]->Option (OutK.val (.data true [yD3])):=du xx Gb Te 67 0 [(false,.I .i64)] (.data true [yD3])
def qj:aX:=⟨67,[(false,.I .i64)],.data true [yD3],iZ,1⟩
def uL:cH:= []
def kS:KG:=⟨TT,EQS,[],[]⟩
def dK:aQ [yD3,yD3]->Option (OutK.val (.data true [(false,.I .i64)])):=du kS uL Tn 94 0 [yD3,yD3] (.data true [(false,.I .i64)])
def kZ:aX:=⟨94,[yD3,yD3],.data true [(false,.I .i64)],dK,1⟩
def vO:cH:= []
def mn:KG:=⟨TT,EQS,[kZ],[]⟩
def eH:aQ [yD3,yD3]->Option (OutK.val (.data true [yD3])):=du mn vO Tj 82 0 [yD3,yD3] (.data true [yD3])
def mq:aX:=⟨82,[yD3,yD3],.data true [yD3],eH,2⟩
def yY:cH:= []
def oZ:KG:=⟨TT,EQS,[qj],[]⟩
def eA:aQ [(false,.B)]->Option (OutK.val (.data true [yD3])):=du oZ yY Tk 83 0 [(false,.B)] (.data true [yD3])
def pc:aX:=⟨83,[(false,.B)],.data true [yD3],eA,2⟩
def CU:cH:= []
def uM:KG:=⟨TT,EQS,[],[]⟩
def iH:aQ [yD3,yD3]->Option (OutK.val (.data true [yD3])):=du uM CU Tl 84 0 [yD3,yD3] (.data true [yD3])
def uN:aX:=⟨84,[yD3,yD3],.data true [yD3],iH,1⟩
def CV:cH:= [(66,⟨[⟨true,2,9,[4,5,6,7],⟨[],[],[]⟩,[(.normal,⟨[(8,false,[.d true .B])],[],[]⟩)]⟩],[]⟩)]
def uO:KG:=⟨TT,EQS,[mq,pc,uN],[]⟩
def jM:aQ [(false,.I .i64),yD3,yD3]->Option (OutK.val (.data true [yD3])):=du uO CV Td 66 0 [(false,.I .i64),yD3,yD3] (.data true [yD3])
def CW:aX:=⟨66,[(false,.I .i64),yD3,yD3],.data true [yD3],jM,3⟩
def vP:cH:= []
def mr:KG:=⟨TT,EQS,[qj],[]⟩
def fY:aQ [yD3]->Option (OutK.val (.data true [(false,.I .i64),(false,.B)])):=du mr vP Tm 85 0 [yD3] (.data true [(false,.I .i64),(false,.B)])
def mt:aX:=⟨85,[yD3],.data true [(false,.I .i64),(false,.B)],fY,2⟩
def vQ:cH:= []
def mu:KG:=⟨TT,EQS,[mt],[]⟩
def fZ:aQ [(false,.I .i64),yD3]->Option (OutK.val (.data true [(false,.I .i64),(false,.B)])):=du mu vQ Tf 68 0 [(false,.I .i64),yD3] (.data true [(false,.I .i64),(false,.B)])
def vR:aX:=⟨68,[(false,.I .i64),yD3],.data true [(false,.I .i64),(false,.B)],fZ,3⟩
def Gc:cH:= []
def xy:KG:=⟨TT,EQS,[],[]⟩
def nJ:aQ [(false,.I .i64)]->Option (OutK.val (.data true [(false,.B)])):=du xy Gc Tc 65 0 [(false,.I .i64)] (.data true [(false,.B)])
def Ge:aX:=⟨65,[(false,.I .i64)],.data true [(false,.B)],nJ,1⟩
def yZ:cH:= [(63,⟨[⟨false,3,0,[3,6,7],⟨[(8,false,[.d true (.I .i64)])],[],[]⟩,[(.exit 0,⟨[],[],[]⟩),(.ret,⟨[(2,false,[.d true (.I .i64)])],[],[]⟩)]⟩],[]⟩)]
def js:KG:=⟨TT,EQS,[],[]⟩
def fH:aQ [(false,.S (.I .i64))]->Option (OutK.val (.data true [(false,.I .i64)])):=du js yZ Og 63 0 [(false,.S (.I .i64))] (.data true [(false,.I .i64)])
def jt:aX:=⟨63,[(false,.S (.I .i64))],.data true [(false,.I .i64)],fH,1⟩
def rB:cH:= []
def gu:KG:=⟨TT,EQS,[],[]⟩
def cZ:aQ [(false,.I .i64)]->Option (OutK.val (.data true [(false,.B)])):=du gu rB Oi 81 0 [(false,.I .i64)] (.data true [(false,.B)])
def gv:aX:=⟨81,[(false,.I .i64)],.data true [(false,.B)],cZ,1⟩
def pd:cH:= []
def fF:KG:=⟨TT,EQS,[gv],[]⟩
def bU:aQ [(false,.I .i64),(false,.I .i64)]->Option (OutK.val (.data true [(false,.I .i64)])):=du fF pd Oh 64 0 [(false,.I .i64),(false,.I .i64)] (.data true [(false,.I .i64)])
def fG:aX:=⟨64,[(false,.I .i64),(false,.I .i64)],.data true [(false,.I .i64)],bU,2⟩
def uP:cH:= [(38,⟨[],[(1,⟨[[],[],[],[],[],[],[],[],[],[],[],[],[]],[(false,[]),(false,[]),(false,[]),(false,[]),(false,[]),(false,[]),(false,[]),(false,[]),(false,[]),(false,[]),(true,[]),(false,[]),(false,[])]⟩)]⟩)]
def hZ:KG:=⟨TT,EQS,[jt,fG],[]⟩
def dL:aQ [yD2,yD2]->Option (OutK.val (.data true [(false,.I .i64)])):=du hZ uP Of 38 0 [yD2,yD2] (.data true [(false,.I .i64)])
def ia:aX:=⟨38,[yD2,yD2],.data true [(false,.I .i64)],dL,3⟩
def vS:cH:= [(18,⟨[⟨false,2,0,[0],⟨[(3,false,[.d true (.I .i64)])],[],[]⟩,[(.exit 0,⟨[],[],[]⟩),(.ret,⟨[(2,false,[.d true .B])],[],[]⟩)]⟩],[]⟩)]
def iE:KG:=⟨TT,EQS,[ia],[]⟩
def cr:aQ [yD1]->Option (OutK.val (.data true [(false,.B)])):=du iE vS Oe 18 0 [yD1] (.data true [(false,.B)])
def fW:aX:=⟨18,[yD1],.data true [(false,.B)],cr,4⟩
end K
end Ev
end
noncomputable section
namespace Ev
namespace K
open Go Go.RowKit
def uQ{α:Type}(f:List T->Option α):List (List T)->Option (List α)
 | []=>some []
 |a::r=>(f a).bind λx=>(uQ f r).map (x::·)
theorem xz{α:Type}{f:List T->Option α}{g:α->List T}(h:∀x,f (g x)=some x):∀l:List α,uQ f (l.map g)=some l
 | []=>rfl
 |x::l=>by simp only [List.map_cons,uQ,h,zbS,xz h l,Option.map_some]
theorem uR{α:Type}{f:List T->Option α}{g:α->List T}(h:∀a x,f a=some x->a=g x):∀{l:List (List T)} {r:List α},uQ f l=some r->l=r.map g
 | [],r,hr=>by simp [uQ]at hr;subst hr;rfl
 |a::l,r,hr=>by
  simp only [uQ,zbE,Option.map_eq_some_iff]at hr;obtain⟨x,hx,r',hr',rfl⟩:=hr;rw [List.map_cons,<-h a x hx,<-uR h hr']
def ju:(e:Ty)->List T->Option e.val
 | .I k,l=>match l with
  | [.v (.int k' n)]=>if k'=k then some n else none
  |_=>none
 | .B,l=>match l with
  | [.v (.bool b)]=>some b
  |_=>none
 | .S e,l=>match l with
  | [.s nn sz rows]=>(uQ (ju e) rows).map λr=>⟨nn,sz,r⟩
  |_=>none
 | .U,l=>match l with
  | []=>some ()
  |_=>none
 | .C a b,l=>(ju a (l.take a.size)).bind λx=>(ju b (l.drop a.size)).bind λy=>some (x,y)
theorem pf:∀(e:Ty) (x:e.val),ju e (e.row x)=some x
 | .I k,x=>by simp [ju,Ty.row,iT]
 | .B,x=>by simp [ju,Ty.row,bT]
 | .S e,x=>by
  simp only [ju,Ty.row,Sl.t];rw [xz (pf e)];rfl
 | .U,x=>rfl
 | .C a b,x=>by
  show((ju a ((a.row x.1++b.row x.2).take a.size)).bind λx1=>(ju b ((a.row x.1++b.row x.2).drop a.size)).bind λy=>some (x1,y))=some x;have e1:(a.row x.1++b.row x.2).take a.size=a.row x.1:=by rw [List.take_append_of_le_length (by rw [jm];exact Nat.le_refl _),List.take_of_length_le (by rw [jm];exact Nat.le_refl _)]
  have e2:(a.row x.1++b.row x.2).drop a.size=b.row x.2:=by rw [<-jm a x.1,List.drop_left]
  rw [e1,pf a,zbS,e2,pf b];rfl
theorem gG:∀(e:Ty) (l:List T) (x:e.val),ju e l=some x->l=e.row x
 | .I k,l,x,h=>by
  simp only [ju]at h;split at h
  .split at h
   .rename_i hk;cases h;subst hk;rfl
   .simp at h
  .simp at h
 | .B,l,x,h=>by
  simp only [ju]at h;split at h
  .cases h;rfl
  .simp at h
 | .S e,l,x,h=>by
  simp only [ju]at h;split at h
  .rw [Option.map_eq_some_iff]at h;obtain⟨r,hr,rfl⟩:=h;rw [uR (gG e) hr];rfl
  .simp at h
 | .U,l,x,h=>by
  simp only [ju]at h;split at h
  .rfl
  .simp at h
 | .C a b,l,x,h=>by
  simp only [ju,zbE]at h;obtain⟨x1,h1,x2,h2,h3⟩:=h;cases h3;show l=a.row x1++b.row x2;rw [<-gG a _ _ h1,<-gG b _ _ h2,List.take_append_drop]
def uS(t:TyD)(d:TD):Option t.2.val:=
 match t,d with
 |(true,e),.agg l=>ju e l
 |(false,e),.one y=>ju e [y]
 |(false,e),.agg l=>if l.length=1 then none else ju e l
 |_,_=>none
def MZ:List T->TD
 | [y]=> .one y
 |ys=> .agg ys
theorem uT(e:Ty)(x:e.val):ji (false,e) x=MZ (e.row x):=by
 unfold ji MZ;rfl
theorem AZ(t:TyD)(x:t.2.val):uS t (ji t x)=some x:=by
 obtain⟨b,e⟩:=t;have h:=pf e x
 cases b with
 |true=>exact h
 |false=>
  change e.val at x;rw [show ji (false,e) x=_ from uT e x];generalize e.row x=l at h
  match l,h with
  | [],h=>exact h
  | [y],h=>exact h
  |a::b::r,h=>
   show(if(a::b::r).length=1 then none else ju e (a::b::r))=some x;rw [if_neg (by simp)];exact h
theorem uU(t:TyD)(d:TD)(x:t.2.val)(h:uS t d=some x):d=ji t x:=by
 obtain⟨b,e⟩:=t
 cases b with
 |true=>
  cases d with
  |one y=>simp [uS]at h
  |agg l=>exact congrArg TD.agg (gG e l x h)
 |false=>
  change e.val at x
  cases d with
  |one y=>rw [show ji (false,e) x=_ from uT e x,<-gG e [y] x h];rfl
  |agg l=>
   simp only [uS]at h;split at h
   .simp at h
   .rename_i hl
    have:=gG e l x h
    rw [show ji (false,e) x=_ from uT e x,<-this]
    match l,hl with
    | [],_=>rfl
    | [y],hl=>simp at hl
    |a::b::r,_=>rfl
def nv:(ts:List TyD)->List TD->Option (aQ ts)
 | [],l=>match l with
  | []=>some ()
  |_=>none
 | [t],l=>match l with
  | [d]=>uS t d
  |_=>none
 |t::t'::r,l=>match l with
  |d::ds=>(uS t d).bind λx=>(nv (t'::r) ds).bind λy=>some (x,y)
  | []=>none
theorem xA:∀(ts:List TyD) (x:aQ ts),nv ts (bP ts x)=some x
 | [],_=>rfl
 | [t],x=>AZ t x
 |t::t'::r,x=>by
  show(uS t (ji t x.1)).bind _=_;rw [AZ t x.1,zbS,xA (t'::r) x.2];rfl
theorem qM:∀(ts:List TyD) (l:List TD) (x:aQ ts),nv ts l=some x->l=bP ts x
 | [],l,x,h=>by
  simp only [nv]at h;split at h
  .rfl
  .simp at h
 | [t],l,x,h=>by
  simp only [nv]at h;split at h
  .exact congrArg (·:: []) (uU t _ x h)
  .simp at h
 |t::t'::r,l,x,h=>by
  simp only [nv]at h;split at h
  .simp only [zbE]at h;obtain⟨y,h1,z,h2,h3⟩:=h;cases h3;show _=ji t y::bP (t'::r) z;rw [<-uU t _ y h1,<-qM (t'::r) _ z h2]
  .simp at h
def mv(ins:List TyD)(kind:Kind)(ts:List TyD)(g:aQ ins->Option (aQ ts))(vs:List TD):Option (Kind×List TD):=(nv ins vs).bind λa=>(g a).bind λx=>some (kind,bP ts x)
theorem pg{P:Program}{k:FuncId}{ins:List TyD}{kind:Kind}{ts:List TyD}{g:aQ ins->Option (aQ ts)}(he:Enters P k)(h:∀a x,g a=some x->dY P k (bP ins a) kind (bP ts x)):∀vs kind' rs,mv ins kind ts g vs=some (kind',rs)->dY P k vs kind' rs/\Enters P k:=by
 intro vs kind' rs hf;simp only [mv,zbE]at hf;obtain⟨a,h1,x,h2,h3⟩:=hf;cases h3;rw [qM ins vs a h1];exact⟨h a x h2,he⟩
theorem Gf{E:Env}{k:FuncId}{ins:List TyD}{kind:Kind}{ts:List TyD}{g:aQ ins->Option (aQ ts)}(hx:E.ax k=some (mv ins kind ts g))(n:Nat)(a:aQ ins)(x:aQ ts)(h:g a=some x):RunsP E (n+1) k (bP ins a) (kind,bP ts x):=
 Ig hx (by simp only [mv,xA,zbS,h])
theorem jv{E:Env}{k:FuncId}{ins:List TyD}{ts:List TyD}{g:aQ ins->Option (aQ ts)}(hx:E.ax k=some (mv ins .fresh ts g)):ay E ⟨k,ins,.data true ts,g,1⟩:=λm a x h=>Gf hx m a x h
end K
end Ev
end
noncomputable section
open Go.RowKit Go.Sort
def Has(w:World)(b:Nat):Prop:=b<w.heap.size
def To(w:World)(os:Array Obj)(b:Nat):Prop:=w.heap.size<=b/\b<w.heap.size+os.size
theorem Has.of{w:World}{b:Nat}(h:b<w.heap.size):Has w b:=h
@[go_sem] theorem Oq (w:World) (o:Obj) (b:Nat):Has (w.alloc o) b=(b=w.heap.size∨Has w b):=by
 unfold Has;simp;omega
@[go_sem] theorem Tp (w:World) (d:Nat) (os:Array Obj) (b:Nat):Has (grow (redrawn w d) os) b=(Has w b∨To w os b):=by
 unfold Has To;simp [grow,redrawn];omega
@[go_sem] theorem Na (w:World) (a:Addr) (v:Value) (b:Nat):Has (w.setCell a v) b=Has w b:=by
 unfold Has;simp [World.setCell]
@[go_sem] theorem Tq (w:World) (b:Nat):Has w.drew b=Has w b:=rfl
@[go_sem] theorem Ts {w:World} {d:Nat} {os:Array Obj} {a:Addr} (h:Has w a.block):(grow (redrawn w d) os).cell? a=w.cell? a:=
 (below_regrown w d os).cell h
@[go_sem] theorem Ot {w:World} {d:Nat} {os:Array Obj} {a:Addr} (h:Has w a.block):(grow (redrawn w d) os).frozen? a=w.frozen? a:=
 (below_regrown w d os).frozen h
@[go_sem] theorem Tt {w:World} {o:Obj} {a:Addr} (h:Has w a.block):(w.alloc o).cell? a=w.cell? a:=
 ((Below.refl w.heap.size w).alloc (Nat.le_refl _) o).cell h
@[go_sem] theorem Ou {w:World} {o:Obj} {a:Addr} (h:Has w a.block):(w.alloc o).frozen? a=w.frozen? a:=
 ((Below.refl w.heap.size w).alloc (Nat.le_refl _) o).frozen h
@[go_sem] theorem Oj {w:World} {o:Obj} {a:Addr} {v:Value} (h:Has w a.block):(w.alloc o).setCell a v=(w.setCell a v).alloc o:=by
 unfold Has at h;simp only [World.setCell,World.alloc];congr 1;apply Array.ext_getElem?;intro k;simp only [Array.getElem?_modify,Array.getElem?_push,Array.size_modify];by_cases hk:k=w.heap.size
 .subst hk;simp;omega
 .simp [hk]
@[go_sem] theorem Uk {α:Type} (p:Prop) [Decidable p] (x y:α) (w:World):(if p then Result.ok x w else Result.ok y w)=Result.ok (if p then x else y) w:=by
 split<;>rfl
@[go_sem] theorem Ov (p:Prop) [Decidable p] (x y:Value):(if p then Next.value x else Next.value y)=Next.value (if p then x else y):=by
 split<;>rfl
theorem bl1(w:World)(a:Obj):Below w.heap.size w (w.alloc a):=(Below.refl _ _).alloc (Nat.le_refl _) _
theorem bl2(w:World)(a b:Obj):Below w.heap.size w ((w.alloc a).alloc b):=(bl1 w a).alloc (by simp) _
theorem blg{w w1:World}(h:Below w.heap.size w w1)(d:Nat)(os:Array Obj):Below w.heap.size w (grow (redrawn w1 d) os):=
 h.trans ((below_regrown w1 d os).mono h.size)
theorem grow_grow(w:World)(a b:Array Obj):grow (grow w a) b=grow w (a++b):=by simp [grow,Array.append_assoc]
@[go_sem] theorem Us (w:World) (d d2:Nat) (os os2:Array Obj):grow (redrawn (grow (redrawn w d) os) d2) os2=grow (redrawn w d2) (os++os2):=by
 simp [grow,redrawn,Array.append_assoc]
@[go_sem] theorem Tu (w:World) (d:Nat) (os:Array Obj):(grow (redrawn w d) os).heap.size=w.heap.size+os.size:=by simp [grow,redrawn]
@[go_sem] theorem Ol {w:World} {d:Nat} {os:Array Obj} {a:Addr} {v:Value} (h:Has w a.block):(grow (redrawn w d) os).setCell a v=grow (redrawn (w.setCell a v) d) os:=by
 unfold Has at h;simp only [grow,redrawn,World.setCell];congr 1;apply Array.ext_getElem?;intro k;rw [Array.getElem?_modify];by_cases hk:k<w.heap.size
 .rw [Array.getElem?_append_left hk,Array.getElem?_append_left (by simpa using hk),Array.getElem?_modify]
 .rw [if_neg (by omega),Array.getElem?_append_right (by omega),Array.getElem?_append_right (by simpa using by omega)];simp
@[go_sem] theorem Ll (w:World) (d:Nat):(redrawn w d).heap=w.heap:=rfl
theorem bla{w w1:World}(h:Below w.heap.size w w1)(o:Obj):Below w.heap.size w (w1.alloc o):=h.alloc h.size o
theorem bls{w w1:World}(h:Below w.heap.size w w1){p:Addr}(hp:w.heap.size<=p.block)(v:Value):Below w.heap.size w (w1.setCell p v):=h.setCell hp v
@[go_sem] theorem Ul:IntKind.u64.signed=false:=rfl
@[go_sem] theorem Um:IntKind.i64.signed=true:=rfl
@[go_sem] theorem Ut:IntKind.u8.signed=false:=rfl
@[go_sem] theorem Un:IntKind.u32.signed=false:=rfl
end
noncomputable section
open Go Go.RowKit Go.Sort
section
variable {P : Program} {ops : Array Oper} {md : Region.Mode} {C : World → Prop}
def Jw(P:Program)(md:Region.Mode)(ops:Array Oper)(C:World->Prop)(n:Nat)(L:Array Bool->Act->Prop):Nat->Array Bool->Act->Prop
 |0,s,a=>L s a
 |f+1,s,a=>(∃i,i∈Region.ready md ops s)/\∀i∈Region.ready md ops s,i<n/\qOp P ops C i (Jw P md ops C n L f (s.setIfInBounds i true)) a
theorem vT{n g:Nat}{L:Array Bool->Act->Prop}{Q':Exit->Act->World->Prop}(hL:∀s a w,C w->L s a->wpAny P md ops Q' g s a w):
  ∀(f:Nat) (s:Array Bool) (a:Act) (w:World),C w->Jw P md ops C n L f s a->wpAny P md ops Q' (f+g) s a w:=by
 intro f
 induction f with
 |zero=>intro s a w hw h;rw [Nat.zero_add];exact hL s a w hw h
 |succ f ih=>
  intro s a w hw h;obtain⟨⟨i0,hi0⟩,hall⟩:=h;rw [Nat.add_right_comm];refine⟨λh0=> ?_,λi hi=>wpOp_of_qOp hw (λa' w' hw' h'=>ih _ a' w' hw' h') (hall i hi).2⟩;rw [h0]at hi0;cases hi0
theorem CX{n i:Nat}{oi:Oper}{v:Value}{L:Array Bool->Act->Prop}(hi:ops[i]? =some oi)(hsel:Region.noSelect ops=true)
  (hs:Region.sinkB md ops n=true) (hc:Region.chainB md ops n=true) (hn:n<ops.size) (hin:i<n) (hdone:∀s a,L s a->∀j∈Region.ready md ops s,n<=j) (f:Nat):
  ∀(s:Array Bool) (a:Act),HeadInv md ops n s->
   (∀j oj,ops[j]? =some oj->j≠i->s.getD j true=false->(∀e∈oj.after,Region.binds md e=true->e.on≠i)->oi.apart ops oj=true)->
   i∈Region.ready md ops s->YieldsIn P ops C oi v a->
   Jw P md ops C n L f (s.setIfInBounds i true) (a.put oi.dst v)->Jw P md ops C n L (f+1) s a:=by
 have sel:=Region.noSelect_spec hsel
 induction f with
 |zero=>
  intro s a inv _ hr hy H;refine⟨⟨i,hr⟩,λj hj=> ?_⟩;have hjn:j<n:=Nat.lt_of_not_le λh=>tail_waits hs hc hn inv _ i rfl hin (mem_ready.1 hr).1 j h hj;refine⟨hjn,?_⟩;by_cases hji:j=i
  .rw [hji];exact hy.qOp hi H
  .have:=hdone _ _ H j (ready_mono hj hji)
   omega
 |succ f ih=>
  intro s a inv hfree hr hy H;refine⟨⟨i,hr⟩,λj hj=> ?_⟩;have hun:=(mem_ready.1 hr).1;have hjn:j<n:=Nat.lt_of_not_le λh=>tail_waits hs hc hn inv _ i rfl hin hun j h hj;refine⟨hjn,?_⟩;by_cases hji:j=i
  .rw [hji];exact hy.qOp hi H
  .obtain⟨hjun,oj,hoj,hall⟩:=mem_ready.1 hj
   have hnot:∀e∈oj.after,Region.binds md e=true->e.on≠i:=by
    intro e he hb heq;have hd:=hall e he hb;rw [heq,getD_both hun]at hd;cases hd
   have hp:=qOp_put hoj (hfree j oj hoj hji hjun hnot) (λcs b=>sel i oi cs b hi) (λcs b=>sel j oj cs b hoj) hy (H.2 j (ready_mono hj hji)).2;refine qOp_mono (λa' h3=>ih _ a' (inv.set hj hjn) ?_ (ready_mono hr (Ne.symm hji)) h3.1 ?_) hp
   .intro k ok hk hki hkun hno;refine hfree k ok hk hki ?_ hno;by_cases hjk:j=k
    .rw [<-hjk];exact hjun
    .rwa [getD_set_ne true hjk]at hkun
   .rw [Array.setIfInBounds_comm _ _ hji];exact h3.2
theorem Jx{n g:Nat}{Lq:Act->Prop}(hsel:Region.noSelect ops=true)(hs:Region.sinkB md ops n=true)(hc:Region.chainB md ops n=true)(hn:n<ops.size)(l:List Oper):
  ∀(k:Nat) (s:Array Bool) (a:Act),(∀j,j<l.length->l[j]? =ops[k+j]?)->k+l.length=n->HeadInv md ops n s->
  Region.lexHead md ops g l.length k s=true->wpQuiet P ops C Lq l a->
  Jw P md ops C n (λs' a'=>Region.seqB md ops g n s'=true/\Lq a') l.length s a:=by
 induction l with
 |nil=>
  intro k s a _ hk _ hB h;have hk':k=n:=by simpa using hk
  rw [<-hk'];exact⟨by simpa [Region.lexHead]using hB,h⟩
 |cons o l ih=>
  intro k s a hl hk inv hB h;have h0:ops[k]? =some o:=by simpa using (hl 0 (by simp)).symm
  simp only [List.length_cons]at hk hB;simp only [Region.lexHead,Bool.and_eq_true]at hB;have hkn:k<n:=by omega
  have hr:k∈Region.ready md ops s:=by simpa using hB.1.1
  have hq:qOp P ops C k (wpQuiet P ops C Lq l) a:=by unfold qOp;simp only [h0];exact h
  obtain⟨v,hy,hK⟩:=yieldsIn_of_qOp h0 hq;refine CX h0 hsel hs hc hn hkn (λs' a' hL=>seqB_ready hL.1) l.length s a inv (Region.free_spec h0 hB.1.2) hr hy (ih (k+1) _ _ (λj hj=> ?_) (by omega) (inv.set hr hkn) hB.2 hK)
  have:=hl (j+1) (by simp;omega)
  simpa [Nat.add_assoc,Nat.add_comm 1 j]using this
theorem go{id:Nat}{Q:Exit->Act->World->Prop}{a:Act}{w:World}{l:List Oper}(n:Nat)(hm:P.follows .mixedOrders=true)(hB:Region.lexTailB .any l.toArray n=true)
  (hC:C {w with drawn:=w.drawn+1}) (h:wpQuiet P l.toArray C (λa'=>∀w',C w'->wpList P l.toArray Q (l.drop n) a' w') (l.take n) a):(Code.region id l.toArray true).wp P Q a w:=by
 simp only [Region.lexTailB,Bool.and_eq_true,decide_eq_true_eq]at hB;obtain⟨⟨⟨⟨hsel,hn⟩,hs⟩,hc⟩,hlex⟩:=hB;have hn':n<l.length:=by simpa using hn
 have htl:(l.take n).length=n:=by simp;omega
 have hdl:(l.drop n).length=l.toArray.size - n:=by simp
 have H:=Jx (C:=C) (md:= .any) (g:=l.toArray.size - n) hsel hs hc hn (l.take n) 0 (Array.replicate l.toArray.size false) a (λj hj=>by
  have hj':j<n:=by rw [htl]at hj;exact hj
  simp [hj']) (by simpa using htl) ⟨by simp,λj oj _ hl=>(by rw [getD_replicate_false]at hl;cases hl),λt _ ht=>getD_in (by simpa using ht) (getD_replicate_false _ _)⟩ (by rw [htl];exact hlex) h
 refine wp_region_any hm ?_
 have R:=vT (Q':=Q) (g:=l.toArray.size - n) (λs a' w' hw hL=>by
  have:=wpAny_of_seq (md:= .any) (Q':=Q) (l.drop n) n s a' w' (λj=>by simp [List.getElem?_drop]) (by rw [hdl];exact hL.1) (hL.2 w' hw)
  rwa [hdl]at this) _ _ _ _ hC H
 rw [htl,show n+(l.toArray.size - n)=l.toArray.size by omega]at R;exact R
theorem aA{id:Nat}{Q:Exit->Act->World->Prop}{a:Act}{w:World}{l:List Oper}(n:Nat)(hm:P.follows .mixedOrders=true)(hB:Region.lexTailB .any l.toArray n=true)
  (h:wpQuiet P l.toArray (λw'=>∃p:Regrown,w'=grow (redrawn w p.d) p.os) (λa'=>∀w',(∃p:Regrown,w'=grow (redrawn w p.d) p.os)->wpList P l.toArray Q (l.drop n) a' w') (l.take n) a):(Code.region id l.toArray true).wp P Q a w:=
 go (C:=λw'=>∃p:Regrown,w'=grow (redrawn w p.d) p.os) n hm hB ⟨⟨w.drawn+1,#[]⟩,by rw [grow_empty];rfl⟩ h
end
end
noncomputable section
open Go.RowKit Go.Sort
def CellsAt(W:World)(B:Nat)(t:TypeId)(cs:Array Value):Prop:=W.heap[B]? =some (.cells cs t (0,0))
theorem CellsAt.lt{W:World}{B:Nat}{t:TypeId}{cs:Array Value}(h:CellsAt W B t cs):B<W.heap.size:=(Array.getElem?_eq_some_iff.1 h).1
theorem CellsAt.cell{W:World}{B:Nat}{t:TypeId}{cs:Array Value}(h:CellsAt W B t cs)(i:Nat):W.cell? ⟨B,i,none⟩=cs[i]? :=by
 simp [World.cell?,show W.heap[B]? =_ from h]
theorem CellsAt.frozen{W:World}{B:Nat}{t:TypeId}{cs:Array Value}(h:CellsAt W B t cs)(i:Nat):W.frozen? ⟨B,i,none⟩=false:=by simp [World.frozen?,show W.heap[B]? =_ from h]
theorem CellsAt.set{W:World}{B:Nat}{t:TypeId}{cs:Array Value}(h:CellsAt W B t cs)(i:Nat)(v:Value):CellsAt (W.setCell ⟨B,i,none⟩ v) B t (cs.setIfInBounds i v):=by
 obtain⟨hlt,hk⟩:=Array.getElem?_eq_some_iff.1 h;show(W.heap.modify B _)[B]? =_;rw [Array.getElem?_eq_getElem (by rw [Array.size_modify];exact hlt),Array.getElem_modify_self,hk];rfl
theorem CellsAt.kept{W W':World}{B:Nat}{t:TypeId}{cs:Array Value}(h:CellsAt W B t cs)(hb:W'.heap[B]? =W.heap[B]?):CellsAt W' B t cs:=hb.trans h
theorem CellsAt.below{W W':World}{B:Nat}{t:TypeId}{cs:Array Value}(h:CellsAt W B t cs)(hb:Below W.heap.size W W'):CellsAt W' B t cs:=h.kept (hb.block B h.lt)
theorem CellsAt.grown{W W':World}{B:Nat}{t:TypeId}{cs:Array Value}{row:Option Nat}(h:CellsAt W B t cs)(hg:W.grownBy W' row)(hne:some B≠row):CellsAt W' B t cs:=h.kept (hg.block B h.lt hne)
theorem ah{W:World}{B B':Nat}{t:TypeId}{cs:Array Value}(h:CellsAt W B t cs)(hne:B≠B')(v:Value)(i:Nat):CellsAt (W.setCell ⟨B',i,none⟩ v) B t cs:=
 (Below.heap_setCell W ⟨B',i,none⟩ v B hne).trans h
def Rd8(w:World)(a:Option Addr)(n:Nat)(f:Nat->Int):Prop:=∀i,i<n->∃b,a=some b/\b.block<w.heap.size/\w.cell? (b.add i)=some (.int .u8 (f i))/\0<=f i/\f i<=255
@[go_sem] theorem rR (b:Addr) (k:Nat):(b.add k).block=b.block:=by unfold Addr.add;split<;>rfl
theorem ab{w w':World}(h:Below w.heap.size w w')(row:Option Nat):w.grownBy w' row:=⟨h.os,h.tape,h.output,h.size,λk hk _=>h.block k hk⟩
theorem Rd8.grown{W W':World}{a:Option Addr}{n:Nat}{f:Nat->Int}{row:Option Nat}(h:Rd8 W a n f)(hg:W.grownBy W' row)(hne:∀b,a=some b->some b.block≠row):Rd8 W' a n f:=by
 intro i hi;obtain⟨b,hb,h1,h2,h3⟩:=h i hi;refine⟨b,hb,Nat.lt_of_lt_of_le h1 hg.size,?_,h3⟩;rw [<-h2]
 have:=hg.block b.block h1 (hne b hb)
 unfold World.cell?;rw [rR,this]
theorem Rd8.cut{W:World}{a:Option Addr}{n p k:Nat}{f:Nat->Int}(h:Rd8 W a n f)(hp:p+k<=n):Rd8 W (Option.map (λx=>x.add p) a) k (λi=>f (p+i)):=by
 intro i hi;obtain⟨b,rfl,h1,h2,h3⟩:=h (p+i) (by omega);refine⟨b.add p,rfl,by rw [rR];exact h1,?_,h3⟩;rw [<-h2];congr 1;unfold Addr.add;by_cases h4:p=0<;>by_cases h5:i=0<;>simp [h4,h5];omega
theorem af(W:World)(b i:Nat)(v:Value):W.grownBy (W.setCell ⟨b,i,none⟩ v) (some b):=
 ⟨rfl,rfl,rfl,(KeepsWalks.setCell W _ v).size,λk _ hk=>Below.heap_setCell _ _ _ k (λe=>hk (by rw [e]))⟩
theorem ae{A B C:World}{r:Option Nat}(h:A.grownBy B r)(k:B.grownBy C r):A.grownBy C r:=
 ⟨k.os.trans h.os,k.tape.trans h.tape,k.output.trans h.output,Nat.le_trans h.size k.size,λi hi hr=>(k.block i (Nat.lt_of_lt_of_le hi h.size) hr).trans (h.block i hi hr)⟩
theorem za{A B:World}{r:Option Nat}(h:A.grownBy B none):A.grownBy B r:=⟨h.os,h.tape,h.output,h.size,λi hi _=>h.block i hi (by simp)⟩
theorem aF{A B:World}{n r:Nat}(h:A.grownBy B (some r))(hn:n<=A.heap.size)(hr:n<=r):Below n A B:=⟨h.os,h.tape,h.output,h.size,λk hk=>h.block k (by omega) (by simp;omega)⟩
theorem eG{A B:World}(h:A.grownBy B none):Below A.heap.size A B:=⟨h.os,h.tape,h.output,h.size,λk hk=>h.block k hk (by simp)⟩
end
end Go.Proofs.Ytoamaaicfjkmhaa
