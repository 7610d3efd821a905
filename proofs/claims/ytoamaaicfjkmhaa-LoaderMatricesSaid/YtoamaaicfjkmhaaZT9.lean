/- Texts of a claim, joined. -/
import Derived.Test.YtoamaaicfjkmhaaZT8
import Derived.Test.YtoamaaicfjkmhaaProg
import Derived.BigQuiet
import Derived.Lib.QuietBelow
import Derived.WalkSpells
import Derived.WalkLawsBesides
import Derived.Lib.Hide
import Derived.Outline
import Derived.StillTail
import Derived.Laws.OwnMore
import Derived.Maps.AppendAt
import Derived.RangeFuncBox
import Derived.Defers
import Derived.Recover
set_option linter.unusedVariables false
set_option linter.unusedSimpArgs false
namespace Go.Proofs.Ytoamaaicfjkmhaa
noncomputable section
namespace Ev
namespace K
open Go Go.RowKit
section
variable {E : Env} {n : Nat} {F : KF} {ks : KS} {V : Vl} {f : Nat → D} {h : am} {G : KG} {D0 : Nat}
theorem tK{k i j bz:Nat}{ag:Bool}{sz:Nat}{es:List (List C)}{e cs:List C}{d:D}(hg:ap h k=some (bz,es))(he:es[i]? =some e)(hc:Ev.cut e j sz=some cs)(hv:bN ag cs=some d):load h ag sz (.one (.ptr k i j))=some d:=by
 simp only [load,hg,zbB,zbS,he,hc,hv]
theorem Ii(hr:Rel F ks V f h){z:Nat×Bool}{a:KD}{a':D}{R:Type}{r:R}{κ:KD->Option R}(hs:fk F ks z a κ=some r)(ha:RD (an F ks) V a a'):∃d d',κ d=some r/\load h z.2 (if z.2 then z.1 else 1) a'=some d'/\RD (an F ks) V d d'/\ScD ks.nx d:=by
 have hz:wd z=if z.2 then z.1 else 1:=by unfold wd;cases z.2<;>rfl
 cases a with
 |tup ts=>simp [fk]at hs
 |agg cs=>simp [fk]at hs
 |one c=>
  obtain⟨c',rfl,hc⟩:=ha
  cases c with
  |ptr p j=>
   simp only [fk]at hs;split at hs
   .rename_i cs hp;simp only [zbE]at hs;obtain⟨d2,⟨cs2,g1,g2⟩,g3⟩:=hs;obtain⟨g4,g5,sz,cs',g6,g7⟩:=hr.bl p _ hp;obtain⟨c2,g8,g9⟩:=g7.cut g1;obtain⟨d3,k1,k2,k3⟩:=eh g2 (fH g5 g1) g9;rw [show c'=_ from hc];exact⟨_,d3,g3,tK g6 rfl (by rw [<-hz];exact g8) k1,k2,k3⟩
   .simp at hs
  |ip e fr x i y j=>
   simp only [fk,zbE]at hs;obtain⟨d2,⟨cs2,g1,g2⟩,g3⟩:=hs;obtain⟨fl,e1,e2,e3⟩:=hc;obtain⟨c2,g8,g9⟩:=(cj (B:=an F ks) (V:=V) e3 e y).cut g1;obtain⟨d3,k1,k2,k3⟩:=eh g2 (fH (cZ ks.nx fr e y) g1) g9;refine⟨_,d3,g3,?_,k2,k3⟩;rw [e1];simp only [load,zbB,xm (r:=e.row) e2,zbS];rw [<-hz,g8];exact k1
  |pe p i j=>
   simp only [fk]at hs;rw [hc.2];split at hs
   .rename_i e ne l hp;simp only [zbE]at hs;obtain⟨y,g0,d2,⟨cs2,g1,g2⟩,g3⟩:=hs;obtain⟨g4,g5,g6,_⟩:=hr.bl p _ hp;obtain⟨c2,g8,g9⟩:=(cj (B:=an F ks) (V:=V) (λ_=>rfl) e y).cut g1;obtain⟨d3,k1,k2,k3⟩:=eh g2 (fH (cZ ks.nx true e y) g1) g9;exact⟨_,d3,g3,tK g6 (kP g0).2 (by rw [<-hz];exact g8) k1,k2,k3⟩
   .rename_i e l hp;simp only [zbE]at hs;obtain⟨y,g0,d2,⟨cs2,g1,g2⟩,g3⟩:=hs;obtain⟨g4,g5,g6⟩:=hr.bl p _ hp;obtain⟨c2,g8,g9⟩:=(cj (B:=an F ks) (V:=V) (λ_=>rfl) e y).cut g1;obtain⟨d3,k1,k2,k3⟩:=eh g2 (fH (cZ ks.nx true e y) g1) g9;exact⟨_,d3,g3,tK (g6 (xB g0)) (kP g0).2 (by rw [<-hz];exact g8) k1,k2,k3⟩
   .simp at hs
  |_=>simp [fk]at hs
theorem rd(hG:GOk G E D0)(hr:Rel F ks V f h):∀{rv:List ResultVar} {R:Type} {r:R} {κ:List KD->Option R},xw G F ks rv κ=some r->∃ds ds',rv.mapM (bO E {t:=tab F.nt f,h:=h})=some ds'/\RDl (an F ks) V ds ds'/\(∀d∈ds,ScD ks.nx d)/\κ ds=some r
 | [],R,r,κ,hs=>⟨[],[],rfl,rfl,by simp,hs⟩
 | .tmp t::rv,R,r,κ,hs=>by
  simp only [xw,zbE]at hs;obtain⟨d,g1,g2⟩:=hs;obtain⟨k1,k2,k3⟩:=hr.sl t d g1;obtain⟨ds,ds',e1,e2,e3,e4⟩:=rd hG hr g2;refine⟨d::ds,f t::ds',?_,⟨_,_,rfl,k3,e2⟩,λx hx=> ?_,e4⟩
  .rw [List.mapM_cons,e1];show((tab F.nt f)[t]?).bind _=_;rw [gU,if_pos k1];rfl
  .rcases List.mem_cons.1 hx with rfl|hx
   .exact k2
   .exact e3 x hx
 | .cell a ty::rv,R,r,κ,hs=>by
  simp only [xw]at hs;split at hs
  .rename_i z d hz hd;have hz':=xA hG hz;obtain⟨k1,k2,k3⟩:=hr.sl a d hd;obtain⟨v,v',g1,g2,g3,g4⟩:=Ii hr hs k3;obtain⟨ds,ds',e1,e2,e3,e4⟩:=rd hG hr g1;refine⟨v::ds,v'::ds',?_,⟨_,_,rfl,g3,e2⟩,λx hx=> ?_,e4⟩
   .unfold ic at hz';simp only [zbE,zsI]at hz';obtain⟨ti,w1,w2⟩:=hz';rw [List.mapM_cons,e1];show(((E.ti ty).bind λt'=>((tab F.nt f)[a]?).bind λd=>load h (aI t'.desc) (if aI t'.desc then t'.size else 1) d).bind _)=_;rw [w1,gU,if_pos k1];subst w2;simp only [zbS];rw [g2];rfl
   .rcases List.mem_cons.1 hx with rfl|hx
    .exact g4
    .exact e3 x hx
  .simp at hs
theorem xK:∀{ds:List KD} {ds':List D} {ts:List (Bool×List KC)},tupK.tups ds=some ts->RDl (an F ks) V ds ds'->(∀d∈ds,ScD ks.nx d)->RTs (an F ks) V ts ds'/\∀x∈ts,Scs ks.nx x.2
 | [],ds',ts,h,hr,hs=>by
  have:=Option.some.inj (show some []=some ts from h)
  subst this;exact⟨hr,by simp⟩
 | .one c::r,ds',ts,h,⟨d,s,e,h1,h2⟩,hs=>by
  simp only [tupK.tups,Option.map_eq_some_iff]at h;obtain⟨ts',g1,rfl⟩:=h;obtain⟨k1,k2⟩:=xK g1 h2 λx hx=>hs x (by simp [hx]);refine⟨⟨d,s,e,h1,k1⟩,λx hx=> ?_⟩;rcases List.mem_cons.1 hx with rfl|hx
  .exact λy hy=>by rw [List.mem_singleton.1 hy];exact hs (.one c) (by simp)
  .exact k2 x hx
 | .agg cs::r,ds',ts,h,⟨d,s,e,h1,h2⟩,hs=>by
  simp only [tupK.tups,Option.map_eq_some_iff]at h;obtain⟨ts',g1,rfl⟩:=h;obtain⟨k1,k2⟩:=xK g1 h2 λx hx=>hs x (by simp [hx]);refine⟨⟨d,s,e,h1,k1⟩,λx hx=> ?_⟩;rcases List.mem_cons.1 hx with rfl|hx
  .exact hs (.agg cs) (by simp)
  .exact k2 x hx
 | .tup ts'::r,ds',ts,h,hr,hs=>by simp [tupK.tups]at h
theorem JL{ds:List KD}{ds':List D}{d:KD}(h:tupK ds=some d)(hr:RDl (an F ks) V ds ds')(hs:∀d∈ds,ScD ks.nx d):RD (an F ks) V d (iJ ds')/\ScD ks.nx d:=by
 match ds,h,hr,hs with
 | [x],h,⟨d',s,e,h1,h2⟩,hs=>
  cases h;rw [e,show s= []from h2];exact⟨h1,hs d (by simp)⟩
 | [],h,hr,hs=>
  cases h;rw [show ds'= []from hr];exact⟨⟨[],rfl,rfl⟩,λx hx=>by simp at hx⟩
 |x::x'::r,h,hr,hs=>
  have h':(tupK.tups (x::x'::r)).map KD.tup=some d:=h;rw [Option.map_eq_some_iff]at h';obtain⟨ts,g1,rfl⟩:=h';obtain⟨k1,k2⟩:=xK g1 hr hs;obtain⟨d1,s1,e1,_,d2,s2,e2,_,_⟩:=hr;refine⟨⟨ds',?_,k1⟩,k2⟩;rw [e1,e2];rfl
theorem wk:∀{l:List KD} {q i:Nat} {d:KD},ak (uD q l) i=some d->∃j,i=q+j/\l[j]? =some d
 | [],q,i,d,h=>by simp [uD,ak]at h
 |a::l,q,i,d,h=>by
  unfold uD at h;rw [al]at h;split at h
  .rename_i hi;cases h;exact⟨0,by omega,rfl⟩
  .obtain⟨j,h1,h2⟩:=wk h;exact⟨j+1,by omega,by simpa using h2⟩
theorem CT{B:BK}:∀{l:List KD} {l':List D} {j:Nat} {d:KD},RDl B V l l'->l[j]? =some d->∃d',l'[j]? =some d'/\RD B V d d'
 | [],l',j,d,h,hj=>by simp at hj
 |a::l,l',0,d,⟨x,s,e,h1,h2⟩,hj=>by simp at hj;subst hj e;exact⟨x,rfl,h1⟩
 |a::l,l',j+1,d,⟨x,s,e,h1,h2⟩,hj=>by subst e;simpa using CT h2 (by simpa using hj)
theorem CU{B:BK}:∀{l:List KD} {l':List D},RDl B V l l'->l'.length=l.length
 | [],l',h=>by rw [show l'= []from h];rfl
 |a::l,l',⟨x,s,e,h1,h2⟩=>by rw [e,List.length_cons,List.length_cons,CU h2]
theorem wl{nt nx:Nat}{bl:List (Nat×KB)}{args:List KD}{args':List D}(hb:Ia F {sl:= [],bl:=bl,nx:=nx} V h)(hs:∀d∈args,ScD nx d)(hr:RDl (an F {sl:= [],bl:=bl,nx:=nx}) V args args')(hl:args.length<=nt):Rel {F with sl:= [],nt:=nt} {sl:=uD 0 args,bl:=bl,nx:=nx} V (fA args') h:=by
 refine⟨?_,hb.bl,hb.inj⟩;intro i d hd;have hd':aK (uD 0 args) [] i=some d:=hd;unfold aK at hd'
 cases hl':ak (uD 0 args) i with
 |none=>rw [hl']at hd';simp [ak]at hd'
 |some d0=>
  rw [hl']at hd';cases hd';obtain⟨j,h1,h2⟩:=wk hl';rw [Nat.zero_add]at h1;subst h1;obtain⟨d',h3,h4⟩:=CT hr h2;have hi:i<args.length:=(List.getElem?_eq_some_iff.1 h2).1;refine⟨Nat.lt_of_lt_of_le hi hl,hs d (List.mem_of_getElem? h2),?_⟩;show RD _ _ d (args'.getD i bq);rw [List.getD_eq_getElem?_getD,h3];exact h4
theorem zU{e:Ex}(h:qg e=true):e= .normal∨e= .ret:=by
 cases e with
 |normal=>exact .inl rfl
 |ret=>exact .inr rfl
 |exit id=>simp [qg]at h
theorem zV(hG:GOk G E D0)(A:dr):∀(c n:Nat),D0+c<=n->Bw E n (zB G A c)
 |0,n,hn=>λR F k args ks κ r V h args' hs hb hsc hr=>by simp [zB]at hs
 |c+1,n,hn=>λR F k args ks κ r V h args' hs hb hsc hr=>by
  unfold zB at hs;split at hs
  .rename_i fi hfi;obtain⟨g1,g2⟩:=hG.fi k fi hfi;split at hs
   .rename_i hlen
    match n,hn with
    |n0+1,hn=>
     refine⟨n0,fi,rfl,g1,g2,by rw [CU hr];exact hlen,?_⟩;have hrel:Rel {F with sl:= [],nt:=fi.nt} {ks with sl:=uD 0 args} V (fA args') h:=wl ⟨hb.bl,hb.inj⟩ hsc hr hlen;refine(zT (y:=nY) hG (by omega) (zV hG A c n0 (by omega)) fi.body R _ _ _ r V _ h hs hrel).mono λe s hp=> ?_;obtain⟨ks',V',f',h1,h2,h3,h4⟩:=hp;obtain⟨t,hh⟩:=s;simp only at h1 h2;subst h1;dsimp only at h3
     cases he:qg e with
     |false=>rw [he]at h3;simp at h3
     |true=>
      rw [he]at h3;obtain⟨ds,ds',e1,e2,e3,e4⟩:=rd hG h2 h3;rw [zbE]at e4;obtain⟨d,e5,e6⟩:=e4;obtain⟨k1,k2⟩:=JL e5 e2 e3;exact⟨zU he,ds',e1,ks',V',d,e6,k2,k1,⟨h2.bl,h2.inj⟩,⟨h4.nx,h4.agree,h4.le,h4.dom⟩⟩
   .simp at hs
  .simp at hs
theorem mZ:∀{e:Ty} (x:e.val),e.plain=true->(cu e.row x).all rk=true
 | .I _,_,_=>rfl
 | .B,_,_=>rfl
 | .S _,_,hp=>by simp [Ty.plain]at hp
 | .U,_,_=>rfl
 | .C a b,x,hp=>by
  simp only [Ty.plain,Bool.and_eq_true]at hp;unfold cu;show((a.row x.1++b.row x.2).map (pC true)).all rk=true;rw [List.map_append,List.all_append];have h1:=mZ x.1 hp.1;have h2:=mZ x.2 hp.2;unfold cu at h1 h2;rw [h1,h2];rfl
theorem tL{B:BK}:∀{l:List (Bool×List KC)} {ds:List D},RTs B V l ds->RDl B V (l.map mkD) ds
 | [],ds,h=>h
 |x::l,ds,⟨d,s,e,h1,h2⟩=>⟨d,s,e,Br h1,tL h2⟩
theorem CV(fr:Bool):∀(ts:List TyD) (x:aY ts),(jT fr ts x).length=ts.length
 | [],_=>rfl
 | [t],x=>rfl
 |t::t'::r,x=>by show(jT fr (t'::r) x.2).length+1=_;rw [CV fr (t'::r)];rfl
theorem xL:∀(ts:List TyD) (x:aY ts),(ce ts x).length=ts.length
 | [],_=>rfl
 | [t],x=>rfl
 |t::t'::r,x=>by show(ce (t'::r) x.2).length+1=_;rw [xL (t'::r)];rfl
theorem EK{B:BK}{ts:List TyD}{ds:List KD}{ds':List D}{x:aY ts}(hd:gX B ts ds=some x)(hr:RDl B V ds ds')(hno:pB ds=false):de h ds'=false:=by
 unfold de;split
 .rename_i k m
  match ds,hr,hno,hd with
  | [d],⟨y,s,e,h1,h2⟩,hno,hd=>
   rw [show s= []from h2]at e;simp only [List.cons.injEq,and_true]at e;subst e
   match ts,x,hd with
   | [t],x,hd=>
    have hd':xp B t d=some x:=hd
    cases d with
    |one c=>
     obtain⟨c',e1,e2⟩:=h1;cases e1
     cases c with
     |o e p=>simp [pB]at hno
     |m e p=>simp [pB]at hno
     |n k y=>exact absurd (show C.own _ 0 _=_ from e2) (by simp)
     |b v=>exact absurd (show C.own _ 0 _=_ from e2) (by simp)
     |p t P d=>exact absurd e2.1 (by simp)
     |bv y=>exact absurd (show C.own _ 0 _=_ from e2) (by simp)
     |v y=>exact absurd (show C.own _ 0 _=_ from e2) (by simp)
     |nil=>exact absurd (show C.own _ 0 _=_ from e2) (by simp)
     |s e fr y=>obtain⟨fl,e3,_⟩:=e2;exact absurd e3 (by simp)
     |ptr p j=>exact absurd (show C.own _ 0 _=_ from e2) (by simp)
     |pe p i j=>exact absurd e2.2 (by simp)
     |ip e fr y i z j=>obtain⟨fl,e3,_⟩:=e2;exact absurd e3 (by simp)
     |clo fn ps=>exact absurd (show C.own _ 0 _=_ from e2) (by simp)
     |yld p=>exact absurd (show C.own _ 0 _=_ from e2) (by simp)
    |agg cs=>obtain⟨c',e1,_⟩:=h1;simp at e1
    |tup ts=>simp [xp]at hd'
   | [],x,hd=>simp [gX]at hd
   |_::_::_,x,hd=>simp [gX]at hd
  | [],hr,_,_=>exact absurd (show [_]=_ from hr) (by simp)
  |_::_::_,⟨y,s,e,h1,y2,s2,e2,_,_⟩,_,_=>rw [e2]at e;simp at e
 .rfl
theorem oA{rv:List ResultVar}{e:Ty}{l:List e.val}{k:Nat}{ex:Ex}{s:St}(he:ex= .normal∨ex= .ret)(hres:rv.mapM (bO E s)=some [.one (.own k 0 l.length)])(hg:ap s.h k=some (e.size,l.map (cu e.row)))(hp:e.plain=true):AV E rv (.own,[.one (.s true e.size (l.map e.row))]) ex s:=by
 have ho:de s.h [.one (.own k 0 l.length)]=true:=by
  simp only [de,hg,List.length_map,BEq.rfl,Bool.true_and,List.all_map];rw [List.all_eq_true];exact λx _=>mZ x hp
 have hv:cd s.h (.one (.own k 0 l.length))=some (true,.one (.s true e.size (l.map e.row))):=by
  show(dY s.h 6 _).bind _=_;rw [Bf (r:=e.row) (L:= [[(k,e.size,l.map (cu e.row))]]) 0 rfl (λx h m=>sV m) s.h (fC hg) 4];rfl
 have key:bM (λq:Kind×List TD=>q=(.own,[.one (.s true e.size (l.map e.row))])) ((rv.mapM (bO E s)).bind λrs=>(rs.mapM (cd s.h)).map λl=>(if de s.h rs then .own else if l.all (·.1)then .fresh else .any,l.map (·.2))):=by
  rw [hres];simp only [zbS,List.mapM_cons,hv,List.mapM_nil,Option.pure_def,zbB,Option.map_some,ho];rfl
 rcases he with rfl|rfl<;>exact key
theorem iH{rv:List ResultVar}{ds':List D}{l:List (Bool×TD)}{ex:Ex}{s:St}(he:ex= .normal∨ex= .ret)(hres:rv.mapM (bO E s)=some ds')(hv:ds'.mapM (cd s.h)=some l)(ho:de s.h ds'=false):AV E rv (cond (l.all (·.1)) .fresh .any,l.map (·.2)) ex s:=by
 have key:bM (λq:Kind×List TD=>q=(cond (l.all (·.1)) .fresh .any,l.map (·.2))) ((rv.mapM (bO E s)).bind λrs=>(rs.mapM (cd s.h)).map λl=>(if de s.h rs then .own else if l.all (·.1)then .fresh else .any,l.map (·.2))):=by
  rw [hres];simp only [zbS,hv,Option.map_some,ho];show(_,_)=(_,_);cases l.all (·.1)<;>rfl
 rcases he with rfl|rfl<;>exact key
theorem JM(hG:GOk G E D0)(A:dr){fi:FI}{k:FuncId}{c:Nat}{ins:List TyD}{ok:OutK}{x:aY ins}{out:ok.val}(hax:E.ax k=none)(hf:E.fn k=some fi)(hl:ins.length<=fi.nt)(hs:ee G A fi k c ins ok x=some out)(m:Nat):CH E (m+(D0+c)+1) k (ce ins x) ok out:=by
 unfold ee at hs;have hb:Ia {nt:=fi.nt} {sl:= [],bl:= [],nx:=0} ⟨λ_=>0,λ_=>false⟩ []:=⟨λp b hb=>by simp [an,aK,ak]at hb,λp q b b' hb=>by simp [an,aK,ak]at hb⟩;have hargs:RDl (an {nt:=fi.nt} {sl:= [],bl:= [],nx:=0}) ⟨λ_=>0,λ_=>false⟩ ((jT false ins x).map mkD) ((ce ins x).map (bR false)):=tL (om (λh=>h) ins x)
 have hsc:∀d∈(jT false ins x).map mkD,ScD 0 d:=λd hd=>by
  obtain⟨y,h1,rfl⟩:=List.mem_map.1 hd;exact qZ (sW 0 false ins x y h1)
 have hrel:Rel {nt:=fi.nt} {sl:=CF ins x,bl:= [],nx:=0} ⟨λ_=>0,λ_=>false⟩ (fA ((ce ins x).map (bR false))) []:=wl (F:={nt:=fi.nt}) hb hsc hargs (by rw [List.length_map,CV];exact hl);have hw:=zT (y:=nY) (n:=m+(D0+c)) hG (by omega) (zV hG A c _ (by omega)) fi.body ok.val _ _ _ out _ _ [] hs hrel;have hend:∀r,(∀e s,PostC {nt:=fi.nt} {sl:=CF ins x,bl:= [],nx:=0} ⟨λ_=>0,λ_=>false⟩ (λe ks=>cond (qg e) (xw G {nt:=fi.nt} ks fi.results λds=>xx (an {nt:=fi.nt} ks) ok ds) none) out e s->AV E fi.results r e s)->RunsP E (m+(D0+c)+1) k (ce ins x) r:=λr hq=>zo hax hf (by rw [xL];exact hl) (hw.mono hq)
 have hopen:∀e s,PostC {nt:=fi.nt} {sl:=CF ins x,bl:= [],nx:=0} ⟨λ_=>0,λ_=>false⟩ (λe ks=>cond (qg e) (xw G {nt:=fi.nt} ks fi.results λds=>xx (an {nt:=fi.nt} ks) ok ds) none) out e s->∃ks' V' f' ds ds',(e= .normal∨e= .ret)/\Rel {nt:=fi.nt} ks' V' f' s.h/\fi.results.mapM (bO E s)=some ds'/\RDl (an {nt:=fi.nt} ks') V' ds ds'/\xx (an {nt:=fi.nt} ks') ok ds=some out:=by
  intro e s hp;obtain⟨ks',V',f',h1,h2,h3,h4⟩:=hp;obtain⟨t,hh⟩:=s;simp only at h1 h2;subst h1;dsimp only at h3
  cases he:qg e with
  |false=>rw [he]at h3;simp at h3
  |true=>
   rw [he]at h3;obtain⟨ds,ds',e1,e2,e3,e4⟩:=rd hG h2 h3;exact⟨ks',V',f',ds,ds',zU he,h2,e1,e2,e4⟩
 cases ok with
 |data fr ts=>
  have hdata:∀(ks':KS) (V':Vl) (ds:List KD) (ds':List D) (hh:am) (f':Nat->D),Rel {nt:=fi.nt} ks' V' f' hh->RDl (an {nt:=fi.nt} ks') V' ds ds'->xx (an {nt:=fi.nt} ks') (.data fr ts) ds=some out->∃l,ds'.mapM (cd hh)=some l/\l.map (·.2)=ce ts out/\(fr=true->l.all (·.1)=true)/\de hh ds'=false:=by
   intro ks' V' ds ds' hh f' h2 e2 e4;unfold xx at e4;simp only at e4;split at e4
   .simp at e4
   .rename_i hc;obtain⟨l,l1,l2,l3⟩:=mM h2.bls e4 e2
    have hno:pB ds=false:=by cases ho:pB ds with|true=>simp [ho]at hc|false=>rfl
    refine⟨l,l1,l2,λhfr=>l3 ?_,EK e4 e2 hno⟩
    cases ha:ds.all frD with
    |true=>rfl
    |false=>simp [hfr,ha]at hc
  cases fr with
  |true=>
   refine hend _ λe s hp=> ?_;obtain⟨ks',V',f',ds,ds',he,h2,e1,e2,e4⟩:=hopen e s hp;obtain⟨l,l1,l2,l3,l4⟩:=hdata ks' V' ds ds' s.h f' h2 e2 e4
   have:=iH (E:=E) he e1 l1 l4
   rw [l3 rfl,l2]at this;exact this
  |false=>
   -- is it new? that is settled when it has run
   obtain⟨e,s,hrun,hp⟩:=hw;obtain⟨ks',V',f',ds,ds',he,h2,e1,e2,e4⟩:=hopen e s hp;obtain⟨l,l1,l2,_,l4⟩:=hdata ks' V' ds ds' s.h f' h2 e2 e4
   have:=iH (E:=E) he e1 l1 l4
   rw [l2]at this;exact⟨l.all (·.1),zo hax hf (by rw [xL];exact hl) ⟨e,s,hrun,this⟩⟩
 |own ty=>
  refine hend _ λe s hp=> ?_;obtain⟨ks',V',f',ds,ds',he,h2,e1,e2,e4⟩:=hopen e s hp;unfold xx at e4;simp only at e4;unfold Hy at e4;split at e4
  .rename_i e0 p;split at e4
   .rename_i e' ne l hB;split at e4
    .rename_i hpl;rw [Option.map_eq_some_iff]at e4;obtain⟨l2,g0,rfl⟩:=e4;obtain⟨hty,g0⟩:=aP g0;cases hty;subst g0;obtain⟨y,s',e5,⟨c',e6,e7⟩,e8⟩:=e2;rw [show s'= []from e8]at e5;rw [e5,e6,e7 _ _ _ hB]at e1;exact oA he e1 (h2.bl p _ hB).2.2.1 hpl
    .simp at e4
   .simp at e4
  .simp at e4
 |mown ty=>
  refine hend _ λe s hp=> ?_;obtain⟨ks',V',f',ds,ds',he,h2,e1,e2,e4⟩:=hopen e s hp
  have hnil:∀{ds'':List D},RDl (an {nt:=fi.nt} ks') V' [.one .nil] ds''->fi.results.mapM (bO E s)=some ds''->AV E fi.results (Oc ty.size ty.row []) e s:=by
   intro ds'' e2 e1;obtain⟨y,s',e5,⟨c',e6,e7⟩,e8⟩:=e2;rw [show s'= []from e8]at e5;rw [e5,e6,show c'=_ from e7]at e1;exact iH (E:=E) (l:= [(true,.one (.s false 0 []))]) he e1 rfl rfl
  unfold xx at e4;simp only at e4;unfold CD at e4;split at e4
  .cases e4;exact hnil e2 e1
  .rename_i e0 p;split at e4
   .rename_i e' l hB;split at e4
    .rename_i hpl;rw [Option.map_eq_some_iff]at e4;obtain⟨l2,g0,rfl⟩:=e4;obtain⟨hty,g0⟩:=aP g0;cases hty;subst g0;obtain⟨y,s',e5,⟨c',e6,e7⟩,e8⟩:=e2;rw [show s'= []from e8]at e5;rw [e5,e6,e7 _ _ hB]at e1
     cases l with
     |nil=>exact iH (E:=E) (l:= [(true,.one (.s false 0 []))]) he e1 rfl rfl
     |cons a l=>exact oA he e1 ((h2.bl p _ hB).2.2 (by simp)) hpl
    .simp at e4
   .simp at e4
  .rename_i e0 p;split at e4
   .rename_i e' ne l hB;split at e4
    .rename_i hpl;rw [Bool.and_eq_true]at hpl;rw [Option.map_eq_some_iff]at e4;obtain⟨l2,g0,rfl⟩:=e4;obtain⟨hty,g0⟩:=aP g0;cases hty;subst g0;obtain⟨y,s',e5,⟨c',e6,e7⟩,e8⟩:=e2;rw [show s'= []from e8]at e5;rw [e5,e6,e7 _ _ _ hB]at e1;obtain⟨w1,w2,w3,w4⟩:=h2.bl p _ hB
     cases l with
     |nil=>exact absurd rfl (w4 hpl.2)
     |cons a l=>exact oA he e1 w3 hpl.1
    .simp at e4
   .simp at e4
  .simp at e4
 |gown ty=>
  refine hend _ λe s hp=> ?_;obtain⟨ks',V',f',ds,ds',he,h2,e1,e2,e4⟩:=hopen e s hp;unfold xx at e4;simp only at e4;unfold CE at e4;split at e4
  .cases e4;obtain⟨y,s',e5,⟨c',e6,e7⟩,e8⟩:=e2;rw [show s'= []from e8]at e5;rw [e5,e6,show c'=_ from e7]at e1;exact iH (E:=E) (l:= [(true,.one (.s false 0 []))]) he e1 rfl rfl
  .rename_i e0 p;split at e4
   .rename_i e' l hB;split at e4
    .rename_i hpl;rw [Option.map_eq_some_iff]at e4;obtain⟨l2,g0,rfl⟩:=e4;obtain⟨hty,g0⟩:=aP g0;cases hty;subst g0;obtain⟨y,s',e5,⟨c',e6,e7⟩,e8⟩:=e2;rw [show s'= []from e8]at e5;rw [e5,e6,e7 _ _ hB]at e1
     cases l with
     |nil=>exact iH (E:=E) (l:= [(true,.one (.s false 0 []))]) he e1 rfl rfl
     |cons a l=>exact oA he e1 ((h2.bl p _ hB).2.2 (by simp)) hpl
    .simp at e4
   .simp at e4
  .rename_i e0 p;split at e4
   .rename_i e' ne l hB;split at e4
    .rename_i hpl;rw [Option.map_eq_some_iff]at e4;obtain⟨l2,g0,rfl⟩:=e4;obtain⟨hty,g0⟩:=aP g0;cases hty;subst g0;obtain⟨y,s',e5,⟨c',e6,e7⟩,e8⟩:=e2;rw [show s'= []from e8]at e5;rw [e5,e6,e7 _ _ _ hB]at e1;exact oA he e1 (h2.bl p _ hB).2.2.1 hpl
    .simp at e4
   .simp at e4
  .simp at e4
end
end K
end Ev
end
noncomputable section
namespace Ev
namespace K
open Go Go.RowKit
def MO(E:Env)(D:Nat):List bj->Prop
 | []=>True
 |e::r=>(e.d<=D/\aH E e)/\MO E D r
def MP(E:Env):List (FuncId×FI)->Prop
 | []=>True
 |x::r=>(E.fn x.1=some x.2/\E.ax x.1=some λ_=>none)/\MP E r
def Ij(E:Env):List (Nat×TI)->Prop
 | []=>True
 |x::r=>E.ti x.1=some x.2/\Ij E r
def Ik(P:Program):List (Nat×List IntKind)->Prop
 | []=>True
 |x::r=>HF P x.1 x.2/\Ik P r
theorem zW{E:Env}{D:Nat}:∀{l:List bj},MO E D l->∀e∈l,e.d<=D/\aH E e
 | [],_,e,h=>by simp at h
 |a::l,⟨h1,h2⟩,e,h=>by
  rcases List.mem_cons.1 h with rfl|h
  .exact h1
  .exact zW h2 e h
theorem wm{E:Env}:∀{l:List (FuncId×FI)},MP E l->∀k f,ak l k=some f->E.fn k=some f/\E.ax k=some λ_=>none
 | [],_,k,f,h=>by simp [ak]at h
 |a::l,⟨h1,h2⟩,k,f,h=>by
  rw [show a::l=(a.1,a.2)::l from rfl,al]at h;split at h
  .rename_i hk;cases h;subst hk;exact h1
  .exact wm h2 k f h
theorem wn{E:Env}:∀{l:List (Nat×TI)},Ij E l->∀k f,ak l k=some f->E.ti k=some f
 | [],_,k,f,h=>by simp [ak]at h
 |a::l,⟨h1,h2⟩,k,f,h=>by
  rw [show a::l=(a.1,a.2)::l from rfl,al]at h;split at h
  .rename_i hk;cases h;subst hk;exact h1
  .exact wn h2 k f h
theorem wo{P:Program}:∀{l:List (Nat×List IntKind)},Ik P l->∀k f,ak l k=some f->HF P k f
 | [],_,k,f,h=>by simp [ak]at h
 |a::l,⟨h1,h2⟩,k,f,h=>by
  rw [show a::l=(a.1,a.2)::l from rfl,al]at h;split at h
  .rename_i hk;cases h;subst hk;exact h1
  .exact wo h2 k f h
theorem gok{E:Env}{D:Nat}{tt:List (Nat×TI)}{eqs:List (Nat×List IntKind)}{fns:List bj}{fi:List (FuncId×FI)}(hE:E.Ok)(ht:Ij E tt)(hq:Ik E.P eqs)(hf:MO E D fns)(hi:MP E fi):GOk ⟨tt,eqs,fns,fi⟩ E D:=⟨hE,wn ht,wo hq,zW hf,wm hi⟩
def mkE(G:KG)(A:dr)(fi:FI)(k:FuncId)(c:Nat)(ins:List TyD)(out:OutK)(d:Nat):bj:=⟨k,ins,out,ee G A fi k c ins out,d⟩
theorem bw{E:Env}{D:Nat}{G:KG}{A:dr}{fi:FI}{k:FuncId}{c:Nat}{ins:List TyD}{out:OutK}{d:Nat}(hG:GOk G E D)(hax:E.ax k=none)(hf:E.fn k=some fi)(hl:Nat.ble ins.length fi.nt=true)(hd:D+c+1=d):aH E (mkE G A fi k c ins out d):=λm a o h=>by
 subst hd;exact JM hG A hax hf (Nat.le_of_ble_eq_true hl) h m
def fiF(f:Func):FI:=⟨f.ntmps,f.results.toList,f.body.getD .skip⟩
theorem ct{P:Program}{k:FuncId}{f:Func}{b:Code}(h:P.funcs[k]? =some f)(hb:f.body=some b):IZ P k=some (fiF f):=by
 unfold IZ fiF;rw [h];simp only [hb];rfl
theorem CW{P:Program}{ty:TypeId}{k0 k1:IntKind}(h:∀(x y:Operand) (a0 b0 a1 b1:Int),ao P (do eqGuard .eql ty x y (.agg #[.int k0 a0,.int k1 a1]) (.agg #[.int k0 b0,.int k1 b1]);binOp .eql ty (.agg #[.int k0 a0,.int k1 a1]) (.agg #[.int k0 b0,.int k1 b1]))=some (.bool (a0==b0 &&(a1==b1 && true))))
  (h':∀(x y:Operand) (a0 b0 a1 b1:Int),ao P (do eqGuard .neq ty x y (.agg #[.int k0 a0,.int k1 a1]) (.agg #[.int k0 b0,.int k1 b1]);binOp .neq ty (.agg #[.int k0 a0,.int k1 a1]) (.agg #[.int k0 b0,.int k1 b1]))=some (.bool (!(a0==b0 &&(a1==b1 && true))))):HF P ty [k0,k1]:=λx y l hl=>by
 match l,hl with
 | [(a0,b0),(a1,b1)],_=>
  have e:(a0==b0 &&(a1==b1 && true))= @decide (eqP [(a0,b0),(a1,b1)]) (eqD [(a0,b0),(a1,b1)]):=dS (by simp [eqP]);exact⟨(h x y a0 b0 a1 b1).trans (by rw [e]),(h' x y a0 b0 a1 b1).trans (by rw [e])⟩
theorem CX{P:Program}{ty:TypeId}{k0 k1 k2:IntKind}(h:∀(x y:Operand) (a0 b0 a1 b1 a2 b2:Int),ao P (do eqGuard .eql ty x y (.agg #[.int k0 a0,.int k1 a1,.int k2 a2]) (.agg #[.int k0 b0,.int k1 b1,.int k2 b2]);binOp .eql ty (.agg #[.int k0 a0,.int k1 a1,.int k2 a2]) (.agg #[.int k0 b0,.int k1 b1,.int k2 b2]))=some (.bool (a0==b0 &&(a1==b1 &&(a2==b2 && true)))))
  (h':∀(x y:Operand) (a0 b0 a1 b1 a2 b2:Int),ao P (do eqGuard .neq ty x y (.agg #[.int k0 a0,.int k1 a1,.int k2 a2]) (.agg #[.int k0 b0,.int k1 b1,.int k2 b2]);binOp .neq ty (.agg #[.int k0 a0,.int k1 a1,.int k2 a2]) (.agg #[.int k0 b0,.int k1 b1,.int k2 b2]))=some (.bool (!(a0==b0 &&(a1==b1 &&(a2==b2 && true)))))):HF P ty [k0,k1,k2]:=λx y l hl=>by
 match l,hl with
 | [(a0,b0),(a1,b1),(a2,b2)],_=>
  have e:(a0==b0 &&(a1==b1 &&(a2==b2 && true)))= @decide (eqP [(a0,b0),(a1,b1),(a2,b2)]) (eqD [(a0,b0),(a1,b1),(a2,b2)]):=dS (by simp [eqP]);exact⟨(h x y a0 b0 a1 b1 a2 b2).trans (by rw [e]),(h' x y a0 b0 a1 b1 a2 b2).trans (by rw [e])⟩
end K
@[reducible] def nE {R:Type} (v:Empty):Option R:=K.afterX.match_1 (λ_=>Option R) v
end Ev
end
noncomputable section
namespace Ev
namespace K
open Go Go.RowKit
set_option maxRecDepth 100000
set_option maxHeartbeats 1000000
def i1:TI:=(⟨.func #[] #[] false,[.nilFunc],1,8⟩:TI)
def i4:TI:=(⟨.bool,[.bool false],1,1⟩:TI)
def i7:TI:=(⟨.struct (bZ Try.prog 7),[.int .i64 0,.int .i64 0,.bool false,.int .u8 0],4,24⟩:TI)
def i8:TI:=(⟨.struct (bZ Try.prog 8),[.int .i64 0,.int .i64 0,.bool false,.int .u8 0],4,24⟩:TI)
def i15:TI:=(⟨.pointer 159,[.pointer none],1,8⟩:TI)
def i16:TI:=(⟨.pointer 162,[.pointer none],1,8⟩:TI)
def i17:TI:=(⟨.pointer 170,[.pointer none],1,8⟩:TI)
def i18:TI:=(⟨.struct (bZ Try.prog 18),[.pointer none],1,8⟩:TI)
def i19:TI:=(⟨.struct (bZ Try.prog 19),[.pointer none],1,8⟩:TI)
def i22:TI:=(⟨.array 2 3,[.int .i64 0,.int .i64 0],2,16⟩:TI)
def i23:TI:=(⟨.slice 50,[.slice none 0 0],1,24⟩:TI)
def i24:TI:=(⟨.slice 5,[.slice none 0 0],1,24⟩:TI)
def i25:TI:=(⟨.func #[] #[4] false,[.nilFunc],1,8⟩:TI)
def i28:TI:=(⟨.func #[3,3,23] #[24,26] false,[.nilFunc],1,8⟩:TI)
def i29:TI:=(⟨.struct (bZ Try.prog 29),[.int .i64 0,.int .i64 0],2,16⟩:TI)
def i30:TI:=(⟨.struct (bZ Try.prog 30),[.int .i64 0,.int .i64 0],2,16⟩:TI)
def i32:TI:=(⟨.func #[24] #[3,3,23,30] false,[.nilFunc],1,8⟩:TI)
def i33:TI:=(⟨.func #[23,23] #[4] false,[.nilFunc],1,8⟩:TI)
def i34:TI:=(⟨.func #[24,24] #[4] false,[.nilFunc],1,8⟩:TI)
def i35:TI:=(⟨.func #[22,23,24] #[4] false,[.nilFunc],1,8⟩:TI)
def i36:TI:=(⟨.slice 48,[.slice none 0 0],1,24⟩:TI)
def i37:TI:=(⟨.struct (bZ Try.prog 37),[.int .i64 0,.slice none 0 0],2,32⟩:TI)
def i38:TI:=(⟨.struct (bZ Try.prog 38),[.int .i64 0,.slice none 0 0],2,32⟩:TI)
def i39:TI:=(⟨.func #[38] #[38] false,[.nilFunc],1,8⟩:TI)
def i40:TI:=(⟨.func #[38] #[24,26] false,[.nilFunc],1,8⟩:TI)
def i42:TI:=(⟨.func #[24] #[38,30] false,[.nilFunc],1,8⟩:TI)
def i43:TI:=(⟨.func #[38,38] #[4] false,[.nilFunc],1,8⟩:TI)
def i44:TI:=(⟨.func #[24] #[4] false,[.nilFunc],1,8⟩:TI)
def i45:TI:=(⟨.func #[36] #[4] false,[.nilFunc],1,8⟩:TI)
def i46:TI:=(⟨.func #[38] #[4] false,[.nilFunc],1,8⟩:TI)
def i47:TI:=(⟨.struct (bZ Try.prog 47),[.int .i64 0,.int .i64 0,.int .i64 0],3,24⟩:TI)
def i48:TI:=(⟨.struct (bZ Try.prog 48),[.int .i64 0,.int .i64 0,.int .i64 0],3,24⟩:TI)
def i49:TI:=(⟨.struct (bZ Try.prog 49),[.int .i64 0,.int .i64 0,.int .i64 0],3,24⟩:TI)
def i50:TI:=(⟨.struct (bZ Try.prog 50),[.int .i64 0,.int .i64 0,.int .i64 0],3,24⟩:TI)
def i51:TI:=(⟨.func #[3,3,23] #[26] false,[.nilFunc],1,8⟩:TI)
def i52:TI:=(⟨.func #[75] #[24] true,[.nilFunc],1,8⟩:TI)
def i53:TI:=(⟨.func #[2] #[24] false,[.nilFunc],1,8⟩:TI)
def i54:TI:=(⟨.struct (bZ Try.prog 54),[.int .i64 0,.int .i64 0,.slice none 0 0],3,40⟩:TI)
def i55:TI:=(⟨.struct (bZ Try.prog 55),[.int .i64 0,.int .i64 0,.slice none 0 0],3,40⟩:TI)
def i57:TI:=(⟨.func #[24,58] #[55,30] false,[.nilFunc],1,8⟩:TI)
def i58:TI:=(⟨.func #[85] #[55] false,[.nilFunc],1,8⟩:TI)
def i59:TI:=(⟨.func #[3,3] #[3] false,[.nilFunc],1,8⟩:TI)
def i60:TI:=(⟨.func #[36] #[36] false,[.nilFunc],1,8⟩:TI)
def i61:TI:=(⟨.func #[48] #[48] false,[.nilFunc],1,8⟩:TI)
def i62:TI:=(⟨.func #[38] #[26] false,[.nilFunc],1,8⟩:TI)
def i63:TI:=(⟨.func #[36] #[5] false,[.nilFunc],1,8⟩:TI)
def i64:TI:=(⟨.func #[5] #[24] false,[.nilFunc],1,8⟩:TI)
def i65:TI:=(⟨.func #[24,66] #[38,30] false,[.nilFunc],1,8⟩:TI)
def i66:TI:=(⟨.func #[85] #[38] false,[.nilFunc],1,8⟩:TI)
def i67:TI:=(⟨.func #[36,36] #[4] false,[.nilFunc],1,8⟩:TI)
def i68:TI:=(⟨.func #[38,69,61] #[38] false,[.nilFunc],1,8⟩:TI)
def i69:TI:=(⟨.func #[48] #[4] false,[.nilFunc],1,8⟩:TI)
def i70:TI:=(⟨.func #[48,48] #[3] false,[.nilFunc],1,8⟩:TI)
def i72:TI:=(⟨.func #[73,36] #[36,26] false,[.nilFunc],1,8⟩:TI)
def i74:TI:=(⟨.func #[50,50] #[4] false,[.nilFunc],1,8⟩:TI)
def i75:TI:=(⟨.slice 3,[.slice none 0 0],1,24⟩:TI)
def i76:TI:=(⟨.func #[77] #[24] false,[.nilFunc],1,8⟩:TI)
def i77:TI:=(⟨.int .u32,[.int .u32 0],1,4⟩:TI)
def i78:TI:=(⟨.func #[2,3] #[24] false,[.nilFunc],1,8⟩:TI)
def i79:TI:=(⟨.struct (bZ Try.prog 79),[.int .i64 0,.int .i64 0],2,16⟩:TI)
def i80:TI:=(⟨.struct (bZ Try.prog 80),[.int .i64 0,.int .i64 0],2,16⟩:TI)
def i82:TI:=(⟨.pointer 115,[.pointer none],1,8⟩:TI)
def i83:TI:=(⟨.func #[24] #[82] false,[.nilFunc],1,8⟩:TI)
def i84:TI:=(⟨.struct (bZ Try.prog 84),[.pointer none],1,8⟩:TI)
def i85:TI:=(⟨.struct (bZ Try.prog 85),[.pointer none],1,8⟩:TI)
def i86:TI:=(⟨.func #[4,26,3] #[] false,[.nilFunc],1,8⟩:TI)
def i87:TI:=(⟨.func #[] #[3] false,[.nilFunc],1,8⟩:TI)
def i88:TI:=(⟨.func #[9] #[] false,[.nilFunc],1,8⟩:TI)
def i89:TI:=(⟨.func #[3,26] #[3] false,[.nilFunc],1,8⟩:TI)
def i90:TI:=(⟨.func #[3,92] #[23] false,[.nilFunc],1,8⟩:TI)
def i91:TI:=(⟨.func #[] #[2] false,[.nilFunc],1,8⟩:TI)
def i92:TI:=(⟨.func #[3] #[50] false,[.nilFunc],1,8⟩:TI)
def i93:TI:=(⟨.func #[36,69] #[4] false,[.nilFunc],1,8⟩:TI)
def i94:TI:=(⟨.func #[3,3] #[4] false,[.nilFunc],1,8⟩:TI)
def i95:TI:=(⟨.func #[5,3] #[24] false,[.nilFunc],1,8⟩:TI)
def i96:TI:=(⟨.func #[] #[5] false,[.nilFunc],1,8⟩:TI)
def i97:TI:=(⟨.func #[3,98] #[36] false,[.nilFunc],1,8⟩:TI)
def i98:TI:=(⟨.func #[3] #[48] false,[.nilFunc],1,8⟩:TI)
def i99:TI:=(⟨.func #[75] #[3] true,[.nilFunc],1,8⟩:TI)
def Oh:TI:=(⟨.func #[73] #[4] false,[.nilFunc],1,8⟩:TI)
def Oi:TI:=(⟨.struct (bZ Try.prog 103),[.int .i64 0,.int .u64 0],2,16⟩:TI)
def Oj:TI:=(⟨.struct (bZ Try.prog 104),[.int .i64 0,.int .u64 0],2,16⟩:TI)
def Ol:TI:=(⟨.func #[73,104,104] #[104] false,[.nilFunc],1,8⟩:TI)
def Om:TI:=(⟨.func #[2] #[104] false,[.nilFunc],1,8⟩:TI)
def On:TI:=(⟨.func #[73,104] #[2,4] false,[.nilFunc],1,8⟩:TI)
def Oo:TI:=(⟨.func #[36,70] #[] false,[.nilFunc],1,8⟩:TI)
def Oq:TI:=(⟨.func #[77,3] #[24] false,[.nilFunc],1,8⟩:TI)
def Ot:TI:=(⟨.func #[24] #[24] false,[.nilFunc],1,8⟩:TI)
def Ou:TI:=(⟨.struct (bZ Try.prog 114),[.slice none 0 0,.int .i64 0,.int .i64 0,.int .i64 0],4,48⟩:TI)
def Ov:TI:=(⟨.struct (bZ Try.prog 115),[.slice none 0 0,.int .i64 0,.int .i64 0,.int .i64 0],4,48⟩:TI)
def Ow:TI:=(⟨.func #[26,3] #[] false,[.nilFunc],1,8⟩:TI)
def Ox:TI:=(⟨.func #[] #[30] false,[.nilFunc],1,8⟩:TI)
def Oy:TI:=(⟨.func #[3] #[24] false,[.nilFunc],1,8⟩:TI)
def Oz:TI:=(⟨.func #[] #[77] false,[.nilFunc],1,8⟩:TI)
def OA:TI:=(⟨.func #[82,3,121] #[2] false,[.nilFunc],1,8⟩:TI)
def OB:TI:=(⟨.func #[24] #[2] false,[.nilFunc],1,8⟩:TI)
def OC:TI:=(⟨.func #[36,69] #[3] false,[.nilFunc],1,8⟩:TI)
def OD:TI:=(⟨.func #[82,3,124] #[5] false,[.nilFunc],1,8⟩:TI)
def OE:TI:=(⟨.func #[24] #[5] false,[.nilFunc],1,8⟩:TI)
def OF:TI:=(⟨.func #[3] #[4] false,[.nilFunc],1,8⟩:TI)
def OG:TI:=(⟨.func #[104,104] #[104] false,[.nilFunc],1,8⟩:TI)
def OH:TI:=(⟨.func #[4] #[104] false,[.nilFunc],1,8⟩:TI)
def OI:TI:=(⟨.func #[104] #[2,4] false,[.nilFunc],1,8⟩:TI)
def OJ:TI:=(⟨.func #[36,3,3,3,70] #[] false,[.nilFunc],1,8⟩:TI)
def OK:TI:=(⟨.func #[112] #[3] false,[.nilFunc],1,8⟩:TI)
def OL:TI:=(⟨.func #[82,3,113] #[24] false,[.nilFunc],1,8⟩:TI)
def OM:TI:=(⟨.func #[82,3,133] #[77] false,[.nilFunc],1,8⟩:TI)
def ON:TI:=(⟨.func #[24] #[77] false,[.nilFunc],1,8⟩:TI)
def OO:TI:=(⟨.struct (bZ Try.prog 134),[.int .i64 0,.int .i64 0],2,16⟩:TI)
def OP:TI:=(⟨.struct (bZ Try.prog 135),[.int .i64 0,.int .i64 0],2,16⟩:TI)
def OQ:TI:=(⟨.func #[104,104] #[3] false,[.nilFunc],1,8⟩:TI)
def OR:TI:=(⟨.func #[36,3,3,70] #[] false,[.nilFunc],1,8⟩:TI)
def OS:TI:=(⟨.func #[36,3,3,70] #[3,139] false,[.nilFunc],1,8⟩:TI)
def OT:TI:=(⟨.func #[36,3,3,70] #[4] false,[.nilFunc],1,8⟩:TI)
def OU:TI:=(⟨.func #[36,3,3,3,70] #[3] false,[.nilFunc],1,8⟩:TI)
def OV:TI:=(⟨.func #[36,3,3,3,70] #[3,4] false,[.nilFunc],1,8⟩:TI)
def OW:TI:=(⟨.func #[77] #[3] false,[.nilFunc],1,8⟩:TI)
def OX:TI:=(⟨.func #[102] #[3] false,[.nilFunc],1,8⟩:TI)
def OY:TI:=(⟨.func #[3] #[112] false,[.nilFunc],1,8⟩:TI)
def OZ:TI:=(⟨.func #[] #[102] false,[.nilFunc],1,8⟩:TI)
def Pa:TI:=(⟨.func #[36,3,152,70] #[3] false,[.nilFunc],1,8⟩:TI)
def Pb:TI:=(⟨.pointer 3,[.pointer none],1,8⟩:TI)
def Pc:TI:=(⟨.func #[36,3,3,3,152,70] #[3] false,[.nilFunc],1,8⟩:TI)
def Pd:TI:=(⟨.pointer 148,[.pointer none],1,8⟩:TI)
def Pe:TI:=(⟨.func #[36,3,3,152,70] #[3,3] false,[.nilFunc],1,8⟩:TI)
def Pf:TI:=(⟨.func #[] #[9] false,[.nilFunc],1,8⟩:TI)
def Pg:TI:=(⟨.array 0 16,[],0,0⟩:TI)
def Ph:TI:=(⟨.struct (bZ Try.prog 161),[],0,0⟩:TI)
def Pi:TI:=(⟨.struct (bZ Try.prog 162),[],0,0⟩:TI)
def Pj:TI:=(⟨.func #[171,171] #[4] false,[.nilFunc],1,8⟩:TI)
def Pk:TI:=(⟨.pointer 5,[.pointer none],1,8⟩:TI)
def Pm:TI:=(⟨.struct (bZ Try.prog 169),[.int .u64 0,.int .u64 0,.int .u32 0,.int .u8 0,.int .u8 0,.int .u8 0,.int .u8 0,.nilFunc,.pointer none,.int .i32 0,.int .i32 0],11,48⟩:TI)
def Pn:TI:=(⟨.struct (bZ Try.prog 170),[.int .u64 0,.int .u64 0,.int .u32 0,.int .u8 0,.int .u8 0,.int .u8 0,.int .u8 0,.nilFunc,.pointer none,.int .i32 0,.int .i32 0],11,48⟩:TI)
def TT:List (Nat×TI):= [(1,i1),
 (2,(⟨.int .i64,[.int .i64 0],1,8⟩:TI)),
 (3,(⟨.int .i64,[.int .i64 0],1,8⟩:TI)),
 (4,i4),
 (5,(⟨.int .u8,[.int .u8 0],1,1⟩:TI)),
 (6,(⟨.int .u8,[.int .u8 0],1,1⟩:TI)),
 (7,i7),
 (8,i8),
 (12,(⟨.int .u64,[.int .u64 0],1,8⟩:TI)),
 (15,i15),
 (16,i16),
 (17,i17),
 (18,i18),
 (19,i19),
 (21,(⟨.int .i32,[.int .i32 0],1,4⟩:TI)),
 (22,i22),
 (23,i23),
 (24,i24),
 (25,i25),
 (26,(⟨.int .i64,[.int .i64 0],1,8⟩:TI)),
 (28,i28),
 (29,i29),
 (30,i30),
 (32,i32),
 (33,i33),
 (34,i34),
 (35,i35),
 (36,i36),
 (37,i37),
 (38,i38),
 (39,i39),
 (40,i40),
 (42,i42),
 (43,i43),
 (44,i44),
 (45,i45),
 (46,i46),
 (47,i47),
 (48,i48),
 (49,i49),
 (50,i50),
 (51,i51),
 (52,i52),
 (53,i53),
 (54,i54),
 (55,i55),
 (57,i57),
 (58,i58),
 (59,i59),
 (60,i60),
 (61,i61),
 (62,i62),
 (63,i63),
 (64,i64),
 (65,i65),
 (66,i66),
 (67,i67),
 (68,i68),
 (69,i69),
 (70,i70),
 (72,i72),
 (73,(⟨.int .i64,[.int .i64 0],1,8⟩:TI)),
 (74,i74),
 (75,i75),
 (76,i76),
 (77,i77),
 (78,i78),
 (79,i79),
 (80,i80),
 (82,i82),
 (83,i83),
 (84,i84),
 (85,i85),
 (86,i86),
 (87,i87),
 (88,i88),
 (89,i89),
 (90,i90),
 (91,i91),
 (92,i92),
 (93,i93),
 (94,i94),
 (95,i95),
 (96,i96),
 (97,i97),
 (98,i98),
 (99,i99),
 (100,Oh),
 (102,(⟨.int .u64,[.int .u64 0],1,8⟩:TI)),
 (103,Oi),
 (104,Oj),
 (106,Ol),
 (107,Om),
 (109,On),
 (110,Oo),
 (111,Oq),
 (112,(⟨.int .u64,[.int .u64 0],1,8⟩:TI)),
 (113,Ot),
 (114,Ou),
 (115,Ov),
 (116,Ow),
 (117,Ox),
 (118,Oy),
 (119,Oz),
 (120,OA),
 (121,OB),
 (122,OC),
 (123,OD),
 (124,OE),
 (125,OF),
 (126,OG),
 (127,OH),
 (128,OI),
 (129,OJ),
 (130,OK),
 (131,OL),
 (132,OM),
 (133,ON),
 (134,OO),
 (135,OP),
 (137,OQ),
 (138,OR),
 (139,(⟨.int .i64,[.int .i64 0],1,8⟩:TI)),
 (141,OS),
 (142,OT),
 (143,OU),
 (145,OV),
 (146,OW),
 (147,OX),
 (148,(⟨.int .u64,[.int .u64 0],1,8⟩:TI)),
 (149,OY),
 (150,OZ),
 (151,Pa),
 (152,Pb),
 (153,Pc),
 (154,Pd),
 (156,Pe),
 (157,Pf),
 (160,Pg),
 (161,Ph),
 (162,Pi),
 (163,(⟨.int .u8,[.int .u8 0],1,1⟩:TI)),
 (164,(⟨.int .u8,[.int .u8 0],1,1⟩:TI)),
 (165,Pj),
 (166,Pk),
 (167,(⟨.int .i32,[.int .i32 0],1,4⟩:TI)),
 (168,(⟨.int .i32,[.int .i32 0],1,4⟩:TI)),
 (169,Pm),
 (170,Pn)]
theorem tz1:aq Try.prog 1=some i1:=by kernel_rfl
theorem tz2:aq Try.prog 2=some (⟨.int .i64,[.int .i64 0],1,8⟩:TI):=by kernel_rfl
theorem tz3:aq Try.prog 3=some (⟨.int .i64,[.int .i64 0],1,8⟩:TI):=by kernel_rfl
theorem tz4:aq Try.prog 4=some i4:=by kernel_rfl
theorem tz5:aq Try.prog 5=some (⟨.int .u8,[.int .u8 0],1,1⟩:TI):=by kernel_rfl
theorem tz6:aq Try.prog 6=some (⟨.int .u8,[.int .u8 0],1,1⟩:TI):=by kernel_rfl
theorem tz7:aq Try.prog 7=some i7:=by kernel_rfl
theorem tz8:aq Try.prog 8=some i8:=by kernel_rfl
theorem Po:aq Try.prog 12=some (⟨.int .u64,[.int .u64 0],1,8⟩:TI):=by kernel_rfl
theorem Pp:aq Try.prog 15=some i15:=by kernel_rfl
theorem Pq:aq Try.prog 16=some i16:=by kernel_rfl
theorem Pr:aq Try.prog 17=some i17:=by kernel_rfl
theorem Ps:aq Try.prog 18=some i18:=by kernel_rfl
theorem Pu:aq Try.prog 19=some i19:=by kernel_rfl
theorem Pv:aq Try.prog 21=some (⟨.int .i32,[.int .i32 0],1,4⟩:TI):=by kernel_rfl
theorem Pw:aq Try.prog 22=some i22:=by kernel_rfl
theorem Px:aq Try.prog 23=some i23:=by kernel_rfl
theorem Py:aq Try.prog 24=some i24:=by kernel_rfl
theorem Pz:aq Try.prog 25=some i25:=by kernel_rfl
theorem PA:aq Try.prog 26=some (⟨.int .i64,[.int .i64 0],1,8⟩:TI):=by kernel_rfl
theorem PB:aq Try.prog 28=some i28:=by kernel_rfl
theorem PE:aq Try.prog 29=some i29:=by kernel_rfl
theorem PF:aq Try.prog 30=some i30:=by kernel_rfl
theorem PG:aq Try.prog 32=some i32:=by kernel_rfl
theorem PH:aq Try.prog 33=some i33:=by kernel_rfl
theorem PI:aq Try.prog 34=some i34:=by kernel_rfl
theorem PJ:aq Try.prog 35=some i35:=by kernel_rfl
theorem PK:aq Try.prog 36=some i36:=by kernel_rfl
theorem PL:aq Try.prog 37=some i37:=by kernel_rfl
theorem PM:aq Try.prog 38=some i38:=by kernel_rfl
theorem PO:aq Try.prog 39=some i39:=by kernel_rfl
theorem PP:aq Try.prog 40=some i40:=by kernel_rfl
theorem PQ:aq Try.prog 42=some i42:=by kernel_rfl
theorem PU:aq Try.prog 43=some i43:=by kernel_rfl
theorem PV:aq Try.prog 44=some i44:=by kernel_rfl
theorem PX:aq Try.prog 45=some i45:=by kernel_rfl
theorem PY:aq Try.prog 46=some i46:=by kernel_rfl
theorem PZ:aq Try.prog 47=some i47:=by kernel_rfl
theorem Qa:aq Try.prog 48=some i48:=by kernel_rfl
theorem Qb:aq Try.prog 49=some i49:=by kernel_rfl
theorem Qc:aq Try.prog 50=some i50:=by kernel_rfl
theorem Qd:aq Try.prog 51=some i51:=by kernel_rfl
theorem Qe:aq Try.prog 52=some i52:=by kernel_rfl
theorem Qf:aq Try.prog 53=some i53:=by kernel_rfl
theorem Qg:aq Try.prog 54=some i54:=by kernel_rfl
theorem Qh:aq Try.prog 55=some i55:=by kernel_rfl
theorem Qi:aq Try.prog 57=some i57:=by kernel_rfl
theorem Qj:aq Try.prog 58=some i58:=by kernel_rfl
theorem Qk:aq Try.prog 59=some i59:=by kernel_rfl
theorem Ql:aq Try.prog 60=some i60:=by kernel_rfl
theorem Qm:aq Try.prog 61=some i61:=by kernel_rfl
theorem Qn:aq Try.prog 62=some i62:=by kernel_rfl
theorem Qo:aq Try.prog 63=some i63:=by kernel_rfl
theorem Qp:aq Try.prog 64=some i64:=by kernel_rfl
theorem Qq:aq Try.prog 65=some i65:=by kernel_rfl
theorem Qr:aq Try.prog 66=some i66:=by kernel_rfl
theorem Qs:aq Try.prog 67=some i67:=by kernel_rfl
theorem Qt:aq Try.prog 68=some i68:=by kernel_rfl
theorem Qu:aq Try.prog 69=some i69:=by kernel_rfl
theorem Qv:aq Try.prog 70=some i70:=by kernel_rfl
theorem Qw:aq Try.prog 72=some i72:=by kernel_rfl
theorem Qx:aq Try.prog 73=some (⟨.int .i64,[.int .i64 0],1,8⟩:TI):=by kernel_rfl
theorem Qy:aq Try.prog 74=some i74:=by kernel_rfl
theorem Qz:aq Try.prog 75=some i75:=by kernel_rfl
theorem QA:aq Try.prog 76=some i76:=by kernel_rfl
theorem QB:aq Try.prog 77=some i77:=by kernel_rfl
theorem QC:aq Try.prog 78=some i78:=by kernel_rfl
theorem QD:aq Try.prog 79=some i79:=by kernel_rfl
theorem QE:aq Try.prog 80=some i80:=by kernel_rfl
theorem QF:aq Try.prog 82=some i82:=by kernel_rfl
theorem QG:aq Try.prog 83=some i83:=by kernel_rfl
theorem QH:aq Try.prog 84=some i84:=by kernel_rfl
theorem QI:aq Try.prog 85=some i85:=by kernel_rfl
theorem QJ:aq Try.prog 86=some i86:=by kernel_rfl
theorem QK:aq Try.prog 87=some i87:=by kernel_rfl
theorem QL:aq Try.prog 88=some i88:=by kernel_rfl
theorem QM:aq Try.prog 89=some i89:=by kernel_rfl
theorem QN:aq Try.prog 90=some i90:=by kernel_rfl
theorem QO:aq Try.prog 91=some i91:=by kernel_rfl
theorem QP:aq Try.prog 92=some i92:=by kernel_rfl
theorem QQ:aq Try.prog 93=some i93:=by kernel_rfl
theorem QR:aq Try.prog 94=some i94:=by kernel_rfl
theorem QS:aq Try.prog 95=some i95:=by kernel_rfl
theorem QU:aq Try.prog 96=some i96:=by kernel_rfl
theorem QV:aq Try.prog 97=some i97:=by kernel_rfl
theorem QW:aq Try.prog 98=some i98:=by kernel_rfl
theorem QX:aq Try.prog 99=some i99:=by kernel_rfl
theorem Kj:aq Try.prog 100=some Oh:=by kernel_rfl
theorem Kk:aq Try.prog 102=some (⟨.int .u64,[.int .u64 0],1,8⟩:TI):=by kernel_rfl
theorem Kl:aq Try.prog 103=some Oi:=by kernel_rfl
theorem Km:aq Try.prog 104=some Oj:=by kernel_rfl
theorem Kn:aq Try.prog 106=some Ol:=by kernel_rfl
theorem Ko:aq Try.prog 107=some Om:=by kernel_rfl
theorem Kp:aq Try.prog 109=some On:=by kernel_rfl
theorem Kq:aq Try.prog 110=some Oo:=by kernel_rfl
theorem Kr:aq Try.prog 111=some Oq:=by kernel_rfl
theorem Ks:aq Try.prog 112=some (⟨.int .u64,[.int .u64 0],1,8⟩:TI):=by kernel_rfl
theorem Kt:aq Try.prog 113=some Ot:=by kernel_rfl
theorem Ku:aq Try.prog 114=some Ou:=by kernel_rfl
theorem Kv:aq Try.prog 115=some Ov:=by kernel_rfl
theorem Kw:aq Try.prog 116=some Ow:=by kernel_rfl
theorem Kx:aq Try.prog 117=some Ox:=by kernel_rfl
theorem Kz:aq Try.prog 118=some Oy:=by kernel_rfl
theorem KA:aq Try.prog 119=some Oz:=by kernel_rfl
theorem KH:aq Try.prog 120=some OA:=by kernel_rfl
theorem KI:aq Try.prog 121=some OB:=by kernel_rfl
theorem KJ:aq Try.prog 122=some OC:=by kernel_rfl
theorem KK:aq Try.prog 123=some OD:=by kernel_rfl
theorem KL:aq Try.prog 124=some OE:=by kernel_rfl
theorem KM:aq Try.prog 125=some OF:=by kernel_rfl
theorem KN:aq Try.prog 126=some OG:=by kernel_rfl
theorem KO:aq Try.prog 127=some OH:=by kernel_rfl
theorem KP:aq Try.prog 128=some OI:=by kernel_rfl
theorem KQ:aq Try.prog 129=some OJ:=by kernel_rfl
theorem KR:aq Try.prog 130=some OK:=by kernel_rfl
theorem KU:aq Try.prog 131=some OL:=by kernel_rfl
theorem KX:aq Try.prog 132=some OM:=by kernel_rfl
theorem KY:aq Try.prog 133=some ON:=by kernel_rfl
theorem KZ:aq Try.prog 134=some OO:=by kernel_rfl
theorem La:aq Try.prog 135=some OP:=by kernel_rfl
theorem Lb:aq Try.prog 137=some OQ:=by kernel_rfl
theorem Lc:aq Try.prog 138=some OR:=by kernel_rfl
theorem Ld:aq Try.prog 139=some (⟨.int .i64,[.int .i64 0],1,8⟩:TI):=by kernel_rfl
theorem Lf:aq Try.prog 141=some OS:=by kernel_rfl
theorem Lg:aq Try.prog 142=some OT:=by kernel_rfl
theorem Lh:aq Try.prog 143=some OU:=by kernel_rfl
theorem Li:aq Try.prog 145=some OV:=by kernel_rfl
theorem Lj:aq Try.prog 146=some OW:=by kernel_rfl
theorem Lk:aq Try.prog 147=some OX:=by kernel_rfl
theorem Ll:aq Try.prog 148=some (⟨.int .u64,[.int .u64 0],1,8⟩:TI):=by kernel_rfl
theorem Lm:aq Try.prog 149=some OY:=by kernel_rfl
theorem Ln:aq Try.prog 150=some OZ:=by kernel_rfl
theorem Lo:aq Try.prog 151=some Pa:=by kernel_rfl
theorem Lp:aq Try.prog 152=some Pb:=by kernel_rfl
theorem Lr:aq Try.prog 153=some Pc:=by kernel_rfl
theorem Ls:aq Try.prog 154=some Pd:=by kernel_rfl
theorem Lt:aq Try.prog 156=some Pe:=by kernel_rfl
theorem Lu:aq Try.prog 157=some Pf:=by kernel_rfl
theorem Lv:aq Try.prog 160=some Pg:=by kernel_rfl
theorem Lw:aq Try.prog 161=some Ph:=by kernel_rfl
theorem Lx:aq Try.prog 162=some Pi:=by kernel_rfl
theorem Ly:aq Try.prog 163=some (⟨.int .u8,[.int .u8 0],1,1⟩:TI):=by kernel_rfl
theorem Lz:aq Try.prog 164=some (⟨.int .u8,[.int .u8 0],1,1⟩:TI):=by kernel_rfl
theorem LA:aq Try.prog 165=some Pj:=by kernel_rfl
theorem LC:aq Try.prog 166=some Pk:=by kernel_rfl
theorem LE:aq Try.prog 167=some (⟨.int .i32,[.int .i32 0],1,4⟩:TI):=by kernel_rfl
theorem LG:aq Try.prog 168=some (⟨.int .i32,[.int .i32 0],1,4⟩:TI):=by kernel_rfl
theorem LH:aq Try.prog 169=some Pm:=by kernel_rfl
theorem LI:aq Try.prog 170=some Pn:=by kernel_rfl
theorem BI:Try.prog.follows .mixedOrders=true:=by kernel_rfl
theorem BJ:Cr Try.prog=true:=by kernel_rfl
def ar:List TD->Option (Kind×List TD):=λ_=>none
theorem CY(x y:Operand)(a0 b0 a1 b1:Int):ao Try.prog (do eqGuard .eql 30 x y (.agg #[.int .i64 a0,.int .i64 a1]) (.agg #[.int .i64 b0,.int .i64 b1]);binOp .eql 30 (.agg #[.int .i64 a0,.int .i64 a1]) (.agg #[.int .i64 b0,.int .i64 b1]))=some (.bool ((a0==b0 &&(a1==b1 && true)))):=by
 refine nX (by kernel_rfl) ((dC 9999 30 #[.int .i64 a0,.int .i64 a1] #[.int .i64 b0,.int .i64 b1] (fs:=bZ Try.prog 29) (by kernel_rfl) (by kernel_rfl)).trans ?_);rw [show(bZ Try.prog 29).toList= [fld Try.prog 29 0,fld Try.prog 29 1]by kernel_rfl];exact((aV (k:= .i64) (k':= .i64) (by kernel_rfl) (by kernel_rfl) (by kernel_rfl) (by kernel_rfl)).trans (cF ((aV (k:= .i64) (k':= .i64) (by kernel_rfl) (by kernel_rfl) (by kernel_rfl) (by kernel_rfl)).trans (cF cI))))
theorem CZ(x y:Operand)(a0 b0 a1 b1:Int):ao Try.prog (do eqGuard .neq 30 x y (.agg #[.int .i64 a0,.int .i64 a1]) (.agg #[.int .i64 b0,.int .i64 b1]);binOp .neq 30 (.agg #[.int .i64 a0,.int .i64 a1]) (.agg #[.int .i64 b0,.int .i64 b1]))=some (.bool (!(a0==b0 &&(a1==b1 && true)))):=by
 refine nZ (by kernel_rfl) ((dC 9999 30 #[.int .i64 a0,.int .i64 a1] #[.int .i64 b0,.int .i64 b1] (fs:=bZ Try.prog 29) (by kernel_rfl) (by kernel_rfl)).trans ?_);rw [show(bZ Try.prog 29).toList= [fld Try.prog 29 0,fld Try.prog 29 1]by kernel_rfl];exact((aV (k:= .i64) (k':= .i64) (by kernel_rfl) (by kernel_rfl) (by kernel_rfl) (by kernel_rfl)).trans (cF ((aV (k:= .i64) (k':= .i64) (by kernel_rfl) (by kernel_rfl) (by kernel_rfl) (by kernel_rfl)).trans (cF cI))))
theorem Da(x y:Operand)(a0 b0 a1 b1 a2 b2:Int):ao Try.prog (do eqGuard .eql 48 x y (.agg #[.int .i64 a0,.int .i64 a1,.int .i64 a2]) (.agg #[.int .i64 b0,.int .i64 b1,.int .i64 b2]);binOp .eql 48 (.agg #[.int .i64 a0,.int .i64 a1,.int .i64 a2]) (.agg #[.int .i64 b0,.int .i64 b1,.int .i64 b2]))=some (.bool ((a0==b0 &&(a1==b1 &&(a2==b2 && true))))):=by
 refine nX (by kernel_rfl) ((dC 9999 48 #[.int .i64 a0,.int .i64 a1,.int .i64 a2] #[.int .i64 b0,.int .i64 b1,.int .i64 b2] (fs:=bZ Try.prog 47) (by kernel_rfl) (by kernel_rfl)).trans ?_);rw [show(bZ Try.prog 47).toList= [fld Try.prog 47 0,fld Try.prog 47 1,fld Try.prog 47 2]by kernel_rfl];exact((aV (k:= .i64) (k':= .i64) (by kernel_rfl) (by kernel_rfl) (by kernel_rfl) (by kernel_rfl)).trans (cF ((aV (k:= .i64) (k':= .i64) (by kernel_rfl) (by kernel_rfl) (by kernel_rfl) (by kernel_rfl)).trans (cF ((aV (k:= .i64) (k':= .i64) (by kernel_rfl) (by kernel_rfl) (by kernel_rfl) (by kernel_rfl)).trans (cF cI))))))
theorem Db(x y:Operand)(a0 b0 a1 b1 a2 b2:Int):ao Try.prog (do eqGuard .neq 48 x y (.agg #[.int .i64 a0,.int .i64 a1,.int .i64 a2]) (.agg #[.int .i64 b0,.int .i64 b1,.int .i64 b2]);binOp .neq 48 (.agg #[.int .i64 a0,.int .i64 a1,.int .i64 a2]) (.agg #[.int .i64 b0,.int .i64 b1,.int .i64 b2]))=some (.bool (!(a0==b0 &&(a1==b1 &&(a2==b2 && true))))):=by
 refine nZ (by kernel_rfl) ((dC 9999 48 #[.int .i64 a0,.int .i64 a1,.int .i64 a2] #[.int .i64 b0,.int .i64 b1,.int .i64 b2] (fs:=bZ Try.prog 47) (by kernel_rfl) (by kernel_rfl)).trans ?_);rw [show(bZ Try.prog 47).toList= [fld Try.prog 47 0,fld Try.prog 47 1,fld Try.prog 47 2]by kernel_rfl];exact((aV (k:= .i64) (k':= .i64) (by kernel_rfl) (by kernel_rfl) (by kernel_rfl) (by kernel_rfl)).trans (cF ((aV (k:= .i64) (k':= .i64) (by kernel_rfl) (by kernel_rfl) (by kernel_rfl) (by kernel_rfl)).trans (cF ((aV (k:= .i64) (k':= .i64) (by kernel_rfl) (by kernel_rfl) (by kernel_rfl) (by kernel_rfl)).trans (cF cI))))))
theorem De(x y:Operand)(a0 b0 a1 b1 a2 b2:Int):ao Try.prog (do eqGuard .eql 50 x y (.agg #[.int .i64 a0,.int .i64 a1,.int .i64 a2]) (.agg #[.int .i64 b0,.int .i64 b1,.int .i64 b2]);binOp .eql 50 (.agg #[.int .i64 a0,.int .i64 a1,.int .i64 a2]) (.agg #[.int .i64 b0,.int .i64 b1,.int .i64 b2]))=some (.bool ((a0==b0 &&(a1==b1 &&(a2==b2 && true))))):=by
 refine nX (by kernel_rfl) ((dC 9999 50 #[.int .i64 a0,.int .i64 a1,.int .i64 a2] #[.int .i64 b0,.int .i64 b1,.int .i64 b2] (fs:=bZ Try.prog 49) (by kernel_rfl) (by kernel_rfl)).trans ?_);rw [show(bZ Try.prog 49).toList= [fld Try.prog 49 0,fld Try.prog 49 1,fld Try.prog 49 2]by kernel_rfl];exact((aV (k:= .i64) (k':= .i64) (by kernel_rfl) (by kernel_rfl) (by kernel_rfl) (by kernel_rfl)).trans (cF ((aV (k:= .i64) (k':= .i64) (by kernel_rfl) (by kernel_rfl) (by kernel_rfl) (by kernel_rfl)).trans (cF ((aV (k:= .i64) (k':= .i64) (by kernel_rfl) (by kernel_rfl) (by kernel_rfl) (by kernel_rfl)).trans (cF cI))))))
theorem Df(x y:Operand)(a0 b0 a1 b1 a2 b2:Int):ao Try.prog (do eqGuard .neq 50 x y (.agg #[.int .i64 a0,.int .i64 a1,.int .i64 a2]) (.agg #[.int .i64 b0,.int .i64 b1,.int .i64 b2]);binOp .neq 50 (.agg #[.int .i64 a0,.int .i64 a1,.int .i64 a2]) (.agg #[.int .i64 b0,.int .i64 b1,.int .i64 b2]))=some (.bool (!(a0==b0 &&(a1==b1 &&(a2==b2 && true))))):=by
 refine nZ (by kernel_rfl) ((dC 9999 50 #[.int .i64 a0,.int .i64 a1,.int .i64 a2] #[.int .i64 b0,.int .i64 b1,.int .i64 b2] (fs:=bZ Try.prog 49) (by kernel_rfl) (by kernel_rfl)).trans ?_);rw [show(bZ Try.prog 49).toList= [fld Try.prog 49 0,fld Try.prog 49 1,fld Try.prog 49 2]by kernel_rfl];exact((aV (k:= .i64) (k':= .i64) (by kernel_rfl) (by kernel_rfl) (by kernel_rfl) (by kernel_rfl)).trans (cF ((aV (k:= .i64) (k':= .i64) (by kernel_rfl) (by kernel_rfl) (by kernel_rfl) (by kernel_rfl)).trans (cF ((aV (k:= .i64) (k':= .i64) (by kernel_rfl) (by kernel_rfl) (by kernel_rfl) (by kernel_rfl)).trans (cF cI))))))
theorem zX(x y:Operand)(a0 b0 a1 b1:Int):ao Try.prog (do eqGuard .eql 104 x y (.agg #[.int .i64 a0,.int .u64 a1]) (.agg #[.int .i64 b0,.int .u64 b1]);binOp .eql 104 (.agg #[.int .i64 a0,.int .u64 a1]) (.agg #[.int .i64 b0,.int .u64 b1]))=some (.bool ((a0==b0 &&(a1==b1 && true)))):=by
 refine nX (by kernel_rfl) ((dC 9999 104 #[.int .i64 a0,.int .u64 a1] #[.int .i64 b0,.int .u64 b1] (fs:=bZ Try.prog 103) (by kernel_rfl) (by kernel_rfl)).trans ?_);rw [show(bZ Try.prog 103).toList= [fld Try.prog 103 0,fld Try.prog 103 1]by kernel_rfl];exact((aV (k:= .i64) (k':= .i64) (by kernel_rfl) (by kernel_rfl) (by kernel_rfl) (by kernel_rfl)).trans (cF ((aV (k:= .u64) (k':= .u64) (by kernel_rfl) (by kernel_rfl) (by kernel_rfl) (by kernel_rfl)).trans (cF cI))))
theorem zY(x y:Operand)(a0 b0 a1 b1:Int):ao Try.prog (do eqGuard .neq 104 x y (.agg #[.int .i64 a0,.int .u64 a1]) (.agg #[.int .i64 b0,.int .u64 b1]);binOp .neq 104 (.agg #[.int .i64 a0,.int .u64 a1]) (.agg #[.int .i64 b0,.int .u64 b1]))=some (.bool (!(a0==b0 &&(a1==b1 && true)))):=by
 refine nZ (by kernel_rfl) ((dC 9999 104 #[.int .i64 a0,.int .u64 a1] #[.int .i64 b0,.int .u64 b1] (fs:=bZ Try.prog 103) (by kernel_rfl) (by kernel_rfl)).trans ?_);rw [show(bZ Try.prog 103).toList= [fld Try.prog 103 0,fld Try.prog 103 1]by kernel_rfl];exact((aV (k:= .i64) (k':= .i64) (by kernel_rfl) (by kernel_rfl) (by kernel_rfl) (by kernel_rfl)).trans (cF ((aV (k:= .u64) (k':= .u64) (by kernel_rfl) (by kernel_rfl) (by kernel_rfl) (by kernel_rfl)).trans (cF cI))))
def EQS:List (Nat×List IntKind):= [(30,[.i64,.i64]),(48,[.i64,.i64,.i64]),(50,[.i64,.i64,.i64]),(104,[.i64,.u64])]
def fi3:FI:=fiF Try.f3
def fi5:FI:=fiF Try.f5
def fi7:FI:=fiF Try.f7
def fi9:FI:=fiF Try.f9
def QY:FI:=fiF Try.f10
def QZ:FI:=fiF Try.f11
def Ra:FI:=fiF Try.f18
def Rb:FI:=fiF Try.f19
def Rc:FI:=fiF Try.f21
def Rd:FI:=fiF Try.f22
def Re:FI:=fiF Try.f23
def Rf:FI:=fiF Try.f26
def Rh:FI:=fiF Try.f38
def Ri:FI:=fiF Try.f41
def Rj:FI:=fiF Try.f42
def Rk:FI:=fiF Try.f43
def Rm:FI:=fiF Try.f63
def Rn:FI:=fiF Try.f64
def Ro:FI:=fiF Try.f65
def Rp:FI:=fiF Try.f66
def Rq:FI:=fiF Try.f67
def Rr:FI:=fiF Try.f68
def Rs:FI:=fiF Try.f70
def Rt:FI:=fiF Try.f81
def Ru:FI:=fiF Try.f82
def Rv:FI:=fiF Try.f83
def Rw:FI:=fiF Try.f84
def Rx:FI:=fiF Try.f85
def Ry:FI:=fiF Try.f94
abbrev yD4:TyD:=(true,.C (.I .i64) (.I .i64))
abbrev yD3:TyD:=(true,.C (.I .i64) (.I .u64))
abbrev yD2:TyD:=(true,.C (.I .i64) (.C (.I .i64) (.I .i64)))
abbrev yD1:TyD:=(false,.S (.C (.I .i64) (.C (.I .i64) (.I .i64))))
abbrev yD0:TyD:=(true,.C (.I .i64) (.S (.C (.I .i64) (.C (.I .i64) (.I .i64)))))
end K
end Ev
end
noncomputable section
namespace Ev
namespace K
open Go Go.RowKit
set_option maxRecDepth 100000
set_option maxHeartbeats 1000000
def EL:dr:= []
def wq:KG:=⟨TT,EQS,[],[]⟩
def iM:aY [(false,.I .i64)]->Option (OutK.val (.data true [yD3])):=ee wq EL Rq 67 0 [(false,.I .i64)] (.data true [yD3])
def pK:bj:=⟨67,[(false,.I .i64)],.data true [yD3],iM,1⟩
def tM:dr:= []
def ko:KG:=⟨TT,EQS,[],[]⟩
def dJ:aY [yD3,yD3]->Option (OutK.val (.data true [(false,.I .i64)])):=ee ko tM Ry 94 0 [yD3,yD3] (.data true [(false,.I .i64)])
def kp:bj:=⟨94,[yD3,yD3],.data true [(false,.I .i64)],dJ,1⟩
def uE:dr:= []
def lO:KG:=⟨TT,EQS,[kp],[]⟩
def eE:aY [yD3,yD3]->Option (OutK.val (.data true [yD3])):=ee lO uE Ru 82 0 [yD3,yD3] (.data true [yD3])
def lP:bj:=⟨82,[yD3,yD3],.data true [yD3],eE,2⟩
def xM:dr:= []
def oB:KG:=⟨TT,EQS,[pK],[]⟩
def eA:aY [(false,.B)]->Option (OutK.val (.data true [yD3])):=ee oB xM Rv 83 0 [(false,.B)] (.data true [yD3])
def oC:bj:=⟨83,[(false,.B)],.data true [yD3],eA,2⟩
def BM:dr:= []
def tN:KG:=⟨TT,EQS,[],[]⟩
def im:aY [yD3,yD3]->Option (OutK.val (.data true [yD3])):=ee tN BM Rw 84 0 [yD3,yD3] (.data true [yD3])
def tO:bj:=⟨84,[yD3,yD3],.data true [yD3],im,1⟩
def BN:dr:= [(66,⟨[⟨true,2,9,[4,5,6,7],⟨[],[],[]⟩,[(.normal,⟨[(8,false,[.d true .B])],[],[]⟩)]⟩],[]⟩)]
def tP:KG:=⟨TT,EQS,[lP,oC,tO],[]⟩
def jA:aY [(false,.I .i64),yD3,yD3]->Option (OutK.val (.data true [yD3])):=ee tP BN Rp 66 0 [(false,.I .i64),yD3,yD3] (.data true [yD3])
def BO:bj:=⟨66,[(false,.I .i64),yD3,yD3],.data true [yD3],jA,3⟩
def uF:dr:= []
def lQ:KG:=⟨TT,EQS,[pK],[]⟩
def fJ:aY [yD3]->Option (OutK.val (.data true [(false,.I .i64),(false,.B)])):=ee lQ uF Rx 85 0 [yD3] (.data true [(false,.I .i64),(false,.B)])
def lS:bj:=⟨85,[yD3],.data true [(false,.I .i64),(false,.B)],fJ,2⟩
def uG:dr:= []
def lT:KG:=⟨TT,EQS,[lS],[]⟩
def fK:aY [(false,.I .i64),yD3]->Option (OutK.val (.data true [(false,.I .i64),(false,.B)])):=ee lT uG Rr 68 0 [(false,.I .i64),yD3] (.data true [(false,.I .i64),(false,.B)])
def uH:bj:=⟨68,[(false,.I .i64),yD3],.data true [(false,.I .i64),(false,.B)],fK,3⟩
def EM:dr:= []
def wu:KG:=⟨TT,EQS,[],[]⟩
def nq:aY [(false,.I .i64)]->Option (OutK.val (.data true [(false,.B)])):=ee wu EM Ro 65 0 [(false,.I .i64)] (.data true [(false,.B)])
def EN:bj:=⟨65,[(false,.I .i64)],.data true [(false,.B)],nq,1⟩
def xN:dr:= [(63,⟨[⟨false,3,0,[3,6,7],⟨[(8,false,[.d true (.I .i64)])],[],[]⟩,[(.exit 0,⟨[],[],[]⟩),(.ret,⟨[(2,false,[.d true (.I .i64)])],[],[]⟩)]⟩],[]⟩)]
def oD:KG:=⟨TT,EQS,[],[]⟩
def fq:aY [(false,.S (.I .i64))]->Option (OutK.val (.data true [(false,.I .i64)])):=ee oD xN Rm 63 0 [(false,.S (.I .i64))] (.data true [(false,.I .i64)])
def oE:bj:=⟨63,[(false,.S (.I .i64))],.data true [(false,.I .i64)],fq,1⟩
def qN:dr:= []
def jn:KG:=⟨TT,EQS,[],[]⟩
def cU:aY [(false,.I .i64)]->Option (OutK.val (.data true [(false,.B)])):=ee jn qN Rt 81 0 [(false,.I .i64)] (.data true [(false,.B)])
def jo:bj:=⟨81,[(false,.I .i64)],.data true [(false,.B)],cU,1⟩
def oF:dr:= []
def gY:KG:=⟨TT,EQS,[jo],[]⟩
def bS:aY [(false,.I .i64),(false,.I .i64)]->Option (OutK.val (.data true [(false,.I .i64)])):=ee gY oF Rn 64 0 [(false,.I .i64),(false,.I .i64)] (.data true [(false,.I .i64)])
def gZ:bj:=⟨64,[(false,.I .i64),(false,.I .i64)],.data true [(false,.I .i64)],bS,2⟩
def tQ:dr:= [(38,⟨[],[(1,⟨[[],[],[],[],[],[],[],[],[],[],[],[],[]],[(false,[]),(false,[]),(false,[]),(false,[]),(false,[]),(false,[]),(false,[]),(false,[]),(false,[]),(false,[]),(true,[]),(false,[]),(false,[])]⟩)]⟩)]
def kq:KG:=⟨TT,EQS,[oE,gZ],[]⟩
def dK:aY [yD2,yD2]->Option (OutK.val (.data true [(false,.I .i64)])):=ee kq tQ Rh 38 0 [yD2,yD2] (.data true [(false,.I .i64)])
def kr:bj:=⟨38,[yD2,yD2],.data true [(false,.I .i64)],dK,3⟩
def uI:dr:= [(18,⟨[⟨false,2,0,[0],⟨[(3,false,[.d true (.I .i64)])],[],[]⟩,[(.exit 0,⟨[],[],[]⟩),(.ret,⟨[(2,false,[.d true .B])],[],[]⟩)]⟩],[]⟩)]
def lV:KG:=⟨TT,EQS,[kr],[]⟩
def dz:aY [yD1]->Option (OutK.val (.data true [(false,.B)])):=ee lV uI Ra 18 0 [yD1] (.data true [(false,.B)])
def uJ:bj:=⟨18,[yD1],.data true [(false,.B)],dz,4⟩
end K
end Ev
end
noncomputable section
namespace Ev
namespace K
open Go Go.RowKit
def tR{α:Type}(f:List T->Option α):List (List T)->Option (List α)
 | []=>some []
 |a::r=>(f a).bind λx=>(tR f r).map (x::·)
theorem wv{α:Type}{f:List T->Option α}{g:α->List T}(h:∀x,f (g x)=some x):∀l:List α,tR f (l.map g)=some l
 | []=>rfl
 |x::l=>by simp only [List.map_cons,tR,h,zbS,wv h l,Option.map_some]
theorem tS{α:Type}{f:List T->Option α}{g:α->List T}(h:∀a x,f a=some x->a=g x):∀{l:List (List T)} {r:List α},tR f l=some r->l=r.map g
 | [],r,hr=>by simp [tR]at hr;subst hr;rfl
 |a::l,r,hr=>by
  simp only [tR,zbE,Option.map_eq_some_iff]at hr;obtain⟨x,hx,r',hr',rfl⟩:=hr;rw [List.map_cons,<-h a x hx,<-tS h hr']
def jd:(e:Ty)->List T->Option e.val
 | .I k,l=>match l with
  | [.v (.int k' n)]=>if k'=k then some n else none
  |_=>none
 | .B,l=>match l with
  | [.v (.bool b)]=>some b
  |_=>none
 | .S e,l=>match l with
  | [.s nn sz rows]=>(tR (jd e) rows).map λr=>⟨nn,sz,r⟩
  |_=>none
 | .U,l=>match l with
  | []=>some ()
  |_=>none
 | .C a b,l=>(jd a (l.take a.size)).bind λx=>(jd b (l.drop a.size)).bind λy=>some (x,y)
theorem oG:∀(e:Ty) (x:e.val),jd e (e.row x)=some x
 | .I k,x=>by simp [jd,Ty.row,iT]
 | .B,x=>by simp [jd,Ty.row,bT]
 | .S e,x=>by
  simp only [jd,Ty.row,Sl.t];rw [wv (oG e)];rfl
 | .U,x=>rfl
 | .C a b,x=>by
  show((jd a ((a.row x.1++b.row x.2).take a.size)).bind λx1=>(jd b ((a.row x.1++b.row x.2).drop a.size)).bind λy=>some (x1,y))=some x;have e1:(a.row x.1++b.row x.2).take a.size=a.row x.1:=by rw [List.take_append_of_le_length (by rw [iX];exact Nat.le_refl _),List.take_of_length_le (by rw [iX];exact Nat.le_refl _)]
  have e2:(a.row x.1++b.row x.2).drop a.size=b.row x.2:=by rw [<-iX a x.1,List.drop_left]
  rw [e1,oG a,zbS,e2,oG b];rfl
theorem gl:∀(e:Ty) (l:List T) (x:e.val),jd e l=some x->l=e.row x
 | .I k,l,x,h=>by
  simp only [jd]at h;split at h
  .split at h
   .rename_i hk;cases h;subst hk;rfl
   .simp at h
  .simp at h
 | .B,l,x,h=>by
  simp only [jd]at h;split at h
  .cases h;rfl
  .simp at h
 | .S e,l,x,h=>by
  simp only [jd]at h;split at h
  .rw [Option.map_eq_some_iff]at h;obtain⟨r,hr,rfl⟩:=h;rw [tS (gl e) hr];rfl
  .simp at h
 | .U,l,x,h=>by
  simp only [jd]at h;split at h
  .rfl
  .simp at h
 | .C a b,l,x,h=>by
  simp only [jd,zbE]at h;obtain⟨x1,h1,x2,h2,h3⟩:=h;cases h3;show l=a.row x1++b.row x2;rw [<-gl a _ _ h1,<-gl b _ _ h2,List.take_append_drop]
def tT(t:TyD)(d:TD):Option t.2.val:=
 match t,d with
 |(true,e),.agg l=>jd e l
 |(false,e),.one y=>jd e [y]
 |(false,e),.agg l=>if l.length=1 then none else jd e l
 |_,_=>none
def LJ:List T->TD
 | [y]=> .one y
 |ys=> .agg ys
theorem tU(e:Ty)(x:e.val):iE (false,e) x=LJ (e.row x):=by
 unfold iE LJ;rfl
theorem zZ(t:TyD)(x:t.2.val):tT t (iE t x)=some x:=by
 obtain⟨b,e⟩:=t;have h:=oG e x
 cases b with
 |true=>exact h
 |false=>
  change e.val at x;rw [show iE (false,e) x=_ from tU e x];generalize e.row x=l at h
  match l,h with
  | [],h=>exact h
  | [y],h=>exact h
  |a::b::r,h=>
   show(if(a::b::r).length=1 then none else jd e (a::b::r))=some x;rw [if_neg (by simp)];exact h
theorem tV(t:TyD)(d:TD)(x:t.2.val)(h:tT t d=some x):d=iE t x:=by
 obtain⟨b,e⟩:=t
 cases b with
 |true=>
  cases d with
  |one y=>simp [tT]at h
  |agg l=>exact congrArg TD.agg (gl e l x h)
 |false=>
  change e.val at x
  cases d with
  |one y=>rw [show iE (false,e) x=_ from tU e x,<-gl e [y] x h];rfl
  |agg l=>
   simp only [tT]at h;split at h
   .simp at h
   .rename_i hl
    have:=gl e l x h
    rw [show iE (false,e) x=_ from tU e x,<-this]
    match l,hl with
    | [],_=>rfl
    | [y],hl=>simp at hl
    |a::b::r,_=>rfl
def nc:(ts:List TyD)->List TD->Option (aY ts)
 | [],l=>match l with
  | []=>some ()
  |_=>none
 | [t],l=>match l with
  | [d]=>tT t d
  |_=>none
 |t::t'::r,l=>match l with
  |d::ds=>(tT t d).bind λx=>(nc (t'::r) ds).bind λy=>some (x,y)
  | []=>none
theorem ww:∀(ts:List TyD) (x:aY ts),nc ts (ce ts x)=some x
 | [],_=>rfl
 | [t],x=>zZ t x
 |t::t'::r,x=>by
  show(tT t (iE t x.1)).bind _=_;rw [zZ t x.1,zbS,ww (t'::r) x.2];rfl
theorem qn:∀(ts:List TyD) (l:List TD) (x:aY ts),nc ts l=some x->l=ce ts x
 | [],l,x,h=>by
  simp only [nc]at h;split at h
  .rfl
  .simp at h
 | [t],l,x,h=>by
  simp only [nc]at h;split at h
  .exact congrArg (·:: []) (tV t _ x h)
  .simp at h
 |t::t'::r,l,x,h=>by
  simp only [nc]at h;split at h
  .simp only [zbE]at h;obtain⟨y,h1,z,h2,h3⟩:=h;cases h3;show _=iE t y::ce (t'::r) z;rw [<-tV t _ y h1,<-qn (t'::r) _ z h2]
  .simp at h
def oH(ins:List TyD)(kind:Kind)(ts:List TyD)(g:aY ins->Option (aY ts))(vs:List TD):Option (Kind×List TD):=(nc ins vs).bind λa=>(g a).bind λx=>some (kind,ce ts x)
theorem re{P:Program}{k:FuncId}{ins:List TyD}{kind:Kind}{ts:List TyD}{g:aY ins->Option (aY ts)}(he:Enters P k)(h:∀a x,g a=some x->ez P k (ce ins a) kind (ce ts x)):∀vs kind' rs,oH ins kind ts g vs=some (kind',rs)->ez P k vs kind' rs/\Enters P k:=by
 intro vs kind' rs hf;simp only [oH,zbE]at hf;obtain⟨a,h1,x,h2,h3⟩:=hf;cases h3;rw [qn ins vs a h1];exact⟨h a x h2,he⟩
theorem EO{E:Env}{k:FuncId}{ins:List TyD}{kind:Kind}{ts:List TyD}{g:aY ins->Option (aY ts)}(hx:E.ax k=some (oH ins kind ts g))(n:Nat)(a:aY ins)(x:aY ts)(h:g a=some x):RunsP E (n+1) k (ce ins a) (kind,ce ts x):=
 zm hx (by simp only [oH,ww,zbS,h])
theorem tW{E:Env}{k:FuncId}{ins:List TyD}{ts:List TyD}{g:aY ins->Option (aY ts)}(hx:E.ax k=some (oH ins .fresh ts g)):aH E ⟨k,ins,.data true ts,g,1⟩:=λm a x h=>EO hx m a x h
end K
end Ev
end
noncomputable section
open Go.RowKit Go.Sort
def Has(w:World)(b:Nat):Prop:=b<w.heap.size
def Rz(w:World)(os:Array Obj)(b:Nat):Prop:=w.heap.size<=b/\b<w.heap.size+os.size
theorem Has.of{w:World}{b:Nat}(h:b<w.heap.size):Has w b:=h
@[go_sem] theorem MS (w:World) (o:Obj) (b:Nat):Has (w.alloc o) b=(b=w.heap.size∨Has w b):=by
 unfold Has;simp;omega
@[go_sem] theorem RA (w:World) (d:Nat) (os:Array Obj) (b:Nat):Has (grow (redrawn w d) os) b=(Has w b∨Rz w os b):=by
 unfold Has Rz;simp [grow,redrawn];omega
@[go_sem] theorem LK (w:World) (a:Addr) (v:Value) (b:Nat):Has (w.setCell a v) b=Has w b:=by
 unfold Has;simp [World.setCell]
@[go_sem] theorem RE (w:World) (b:Nat):Has w.drew b=Has w b:=rfl
@[go_sem] theorem RH {w:World} {d:Nat} {os:Array Obj} {a:Addr} (h:Has w a.block):(grow (redrawn w d) os).cell? a=w.cell? a:=
 (below_regrown w d os).cell h
@[go_sem] theorem MT {w:World} {d:Nat} {os:Array Obj} {a:Addr} (h:Has w a.block):(grow (redrawn w d) os).frozen? a=w.frozen? a:=
 (below_regrown w d os).frozen h
@[go_sem] theorem RI {w:World} {o:Obj} {a:Addr} (h:Has w a.block):(w.alloc o).cell? a=w.cell? a:=
 ((Below.refl w.heap.size w).alloc (Nat.le_refl _) o).cell h
@[go_sem] theorem MU {w:World} {o:Obj} {a:Addr} (h:Has w a.block):(w.alloc o).frozen? a=w.frozen? a:=
 ((Below.refl w.heap.size w).alloc (Nat.le_refl _) o).frozen h
@[go_sem] theorem MQ {w:World} {o:Obj} {a:Addr} {v:Value} (h:Has w a.block):(w.alloc o).setCell a v=(w.setCell a v).alloc o:=by
 unfold Has at h;simp only [World.setCell,World.alloc];congr 1;apply Array.ext_getElem?;intro k;simp only [Array.getElem?_modify,Array.getElem?_push,Array.size_modify];by_cases hk:k=w.heap.size
 .subst hk;simp;omega
 .simp [hk]
@[go_sem] theorem Sj {α:Type} (p:Prop) [Decidable p] (x y:α) (w:World):(if p then Result.ok x w else Result.ok y w)=Result.ok (if p then x else y) w:=by
 split<;>rfl
@[go_sem] theorem MV (p:Prop) [Decidable p] (x y:Value):(if p then Next.value x else Next.value y)=Next.value (if p then x else y):=by
 split<;>rfl
theorem bl1(w:World)(a:Obj):Below w.heap.size w (w.alloc a):=(Below.refl _ _).alloc (Nat.le_refl _) _
theorem bl2(w:World)(a b:Obj):Below w.heap.size w ((w.alloc a).alloc b):=(bl1 w a).alloc (by simp) _
theorem blg{w w1:World}(h:Below w.heap.size w w1)(d:Nat)(os:Array Obj):Below w.heap.size w (grow (redrawn w1 d) os):=
 h.trans ((below_regrown w1 d os).mono h.size)
theorem grow_grow(w:World)(a b:Array Obj):grow (grow w a) b=grow w (a++b):=by simp [grow,Array.append_assoc]
@[go_sem] theorem Sx (w:World) (d d2:Nat) (os os2:Array Obj):grow (redrawn (grow (redrawn w d) os) d2) os2=grow (redrawn w d2) (os++os2):=by
 simp [grow,redrawn,Array.append_assoc]
@[go_sem] theorem RJ (w:World) (d:Nat) (os:Array Obj):(grow (redrawn w d) os).heap.size=w.heap.size+os.size:=by simp [grow,redrawn]
@[go_sem] theorem MR {w:World} {d:Nat} {os:Array Obj} {a:Addr} {v:Value} (h:Has w a.block):(grow (redrawn w d) os).setCell a v=grow (redrawn (w.setCell a v) d) os:=by
 unfold Has at h;simp only [grow,redrawn,World.setCell];congr 1;apply Array.ext_getElem?;intro k;rw [Array.getElem?_modify];by_cases hk:k<w.heap.size
 .rw [Array.getElem?_append_left hk,Array.getElem?_append_left (by simpa using hk),Array.getElem?_modify]
 .rw [if_neg (by omega),Array.getElem?_append_right (by omega),Array.getElem?_append_right (by simpa using by omega)];simp
@[go_sem] theorem JN (w:World) (d:Nat):(redrawn w d).heap=w.heap:=rfl
theorem bla{w w1:World}(h:Below w.heap.size w w1)(o:Obj):Below w.heap.size w (w1.alloc o):=h.alloc h.size o
theorem bls{w w1:World}(h:Below w.heap.size w w1){p:Addr}(hp:w.heap.size<=p.block)(v:Value):Below w.heap.size w (w1.setCell p v):=h.setCell hp v
@[go_sem] theorem Sk:IntKind.u64.signed=false:=rfl
@[go_sem] theorem Sn:IntKind.i64.signed=true:=rfl
@[go_sem] theorem Sy:IntKind.u8.signed=false:=rfl
@[go_sem] theorem So:IntKind.u32.signed=false:=rfl
end
noncomputable section
open Go Go.RowKit Go.Sort
section
variable {P : Program} {ops : Array Oper} {md : Region.Mode} {C : World → Prop}
def Il(P:Program)(md:Region.Mode)(ops:Array Oper)(C:World->Prop)(n:Nat)(L:Array Bool->Act->Prop):Nat->Array Bool->Act->Prop
 |0,s,a=>L s a
 |f+1,s,a=>(∃i,i∈Region.ready md ops s)/\∀i∈Region.ready md ops s,i<n/\qOp P ops C i (Il P md ops C n L f (s.setIfInBounds i true)) a
theorem uK{n g:Nat}{L:Array Bool->Act->Prop}{Q':Exit->Act->World->Prop}(hL:∀s a w,C w->L s a->wpAny P md ops Q' g s a w):
  ∀(f:Nat) (s:Array Bool) (a:Act) (w:World),C w->Il P md ops C n L f s a->wpAny P md ops Q' (f+g) s a w:=by
 intro f
 induction f with
 |zero=>intro s a w hw h;rw [Nat.zero_add];exact hL s a w hw h
 |succ f ih=>
  intro s a w hw h;obtain⟨⟨i0,hi0⟩,hall⟩:=h;rw [Nat.add_right_comm];refine⟨λh0=> ?_,λi hi=>wpOp_of_qOp hw (λa' w' hw' h'=>ih _ a' w' hw' h') (hall i hi).2⟩;rw [h0]at hi0;cases hi0
theorem BP{n i:Nat}{oi:Oper}{v:Value}{L:Array Bool->Act->Prop}(hi:ops[i]? =some oi)(hsel:Region.noSelect ops=true)
  (hs:Region.sinkB md ops n=true) (hc:Region.chainB md ops n=true) (hn:n<ops.size) (hin:i<n) (hdone:∀s a,L s a->∀j∈Region.ready md ops s,n<=j) (f:Nat):
  ∀(s:Array Bool) (a:Act),HeadInv md ops n s->
   (∀j oj,ops[j]? =some oj->j≠i->s.getD j true=false->(∀e∈oj.after,Region.binds md e=true->e.on≠i)->oi.apart ops oj=true)->
   i∈Region.ready md ops s->YieldsIn P ops C oi v a->
   Il P md ops C n L f (s.setIfInBounds i true) (a.put oi.dst v)->Il P md ops C n L (f+1) s a:=by
 have sel:=Region.noSelect_spec hsel
 induction f with
 |zero=>
  intro s a inv _ hr hy H;refine⟨⟨i,hr⟩,λj hj=> ?_⟩;have hjn:j<n:=Nat.lt_of_not_le λh=>tail_waits hs hc hn inv _ i rfl hin (mem_ready.1 hr).1 j h hj;refine⟨hjn,?_⟩;by_cases hji:j=i
  .rw [hji];exact hy.qOp hi H
  .have:=hdone _ _ H j (ready_mono hj hji)
   omega
 |succ f ih=>
  intro s a inv hfree hr hy H;refine⟨⟨i,hr⟩,λj hj=> ?_⟩;have hun:=(mem_ready.1 hr).1;have hjn:j<n:=Nat.lt_of_not_le λh=>tail_waits hs hc hn inv _ i rfl hin hun j h hj;refine⟨hjn,?_⟩;by_cases hji:j=i
  .rw [hji];exact hy.qOp hi H
  .obtain⟨hjun,oj,hoj,hall⟩:=mem_ready.1 hj
   have hnot:∀e∈oj.after,Region.binds md e=true->e.on≠i:=by
    intro e he hb heq;have hd:=hall e he hb;rw [heq,getD_both hun]at hd;cases hd
   have hp:=qOp_put hoj (hfree j oj hoj hji hjun hnot) (λcs b=>sel i oi cs b hi) (λcs b=>sel j oj cs b hoj) hy (H.2 j (ready_mono hj hji)).2;refine qOp_mono (λa' h3=>ih _ a' (inv.set hj hjn) ?_ (ready_mono hr (Ne.symm hji)) h3.1 ?_) hp
   .intro k ok hk hki hkun hno;refine hfree k ok hk hki ?_ hno;by_cases hjk:j=k
    .rw [<-hjk];exact hjun
    .rwa [getD_set_ne true hjk]at hkun
   .rw [Array.setIfInBounds_comm _ _ hji];exact h3.2
theorem Im{n g:Nat}{Lq:Act->Prop}(hsel:Region.noSelect ops=true)(hs:Region.sinkB md ops n=true)(hc:Region.chainB md ops n=true)(hn:n<ops.size)(l:List Oper):
  ∀(k:Nat) (s:Array Bool) (a:Act),(∀j,j<l.length->l[j]? =ops[k+j]?)->k+l.length=n->HeadInv md ops n s->
  Region.lexHead md ops g l.length k s=true->wpQuiet P ops C Lq l a->
  Il P md ops C n (λs' a'=>Region.seqB md ops g n s'=true/\Lq a') l.length s a:=by
 induction l with
 |nil=>
  intro k s a _ hk _ hB h;have hk':k=n:=by simpa using hk
  rw [<-hk'];exact⟨by simpa [Region.lexHead]using hB,h⟩
 |cons o l ih=>
  intro k s a hl hk inv hB h;have h0:ops[k]? =some o:=by simpa using (hl 0 (by simp)).symm
  simp only [List.length_cons]at hk hB;simp only [Region.lexHead,Bool.and_eq_true]at hB;have hkn:k<n:=by omega
  have hr:k∈Region.ready md ops s:=by simpa using hB.1.1
  have hq:qOp P ops C k (wpQuiet P ops C Lq l) a:=by unfold qOp;simp only [h0];exact h
  obtain⟨v,hy,hK⟩:=yieldsIn_of_qOp h0 hq;refine BP h0 hsel hs hc hn hkn (λs' a' hL=>seqB_ready hL.1) l.length s a inv (Region.free_spec h0 hB.1.2) hr hy (ih (k+1) _ _ (λj hj=> ?_) (by omega) (inv.set hr hkn) hB.2 hK)
  have:=hl (j+1) (by simp;omega)
  simpa [Nat.add_assoc,Nat.add_comm 1 j]using this
theorem fU{id:Nat}{Q:Exit->Act->World->Prop}{a:Act}{w:World}{l:List Oper}(n:Nat)(hm:P.follows .mixedOrders=true)(hB:Region.lexTailB .any l.toArray n=true)
  (hC:C {w with drawn:=w.drawn+1}) (h:wpQuiet P l.toArray C (λa'=>∀w',C w'->wpList P l.toArray Q (l.drop n) a' w') (l.take n) a):(Code.region id l.toArray true).wp P Q a w:=by
 simp only [Region.lexTailB,Bool.and_eq_true,decide_eq_true_eq]at hB;obtain⟨⟨⟨⟨hsel,hn⟩,hs⟩,hc⟩,hlex⟩:=hB;have hn':n<l.length:=by simpa using hn
 have htl:(l.take n).length=n:=by simp;omega
 have hdl:(l.drop n).length=l.toArray.size - n:=by simp
 have H:=Im (C:=C) (md:= .any) (g:=l.toArray.size - n) hsel hs hc hn (l.take n) 0 (Array.replicate l.toArray.size false) a (λj hj=>by
  have hj':j<n:=by rw [htl]at hj;exact hj
  simp [hj']) (by simpa using htl) ⟨by simp,λj oj _ hl=>(by rw [getD_replicate_false]at hl;cases hl),λt _ ht=>getD_in (by simpa using ht) (getD_replicate_false _ _)⟩ (by rw [htl];exact hlex) h
 refine wp_region_any hm ?_
 have R:=uK (Q':=Q) (g:=l.toArray.size - n) (λs a' w' hw hL=>by
  have:=wpAny_of_seq (md:= .any) (Q':=Q) (l.drop n) n s a' w' (λj=>by simp [List.getElem?_drop]) (by rw [hdl];exact hL.1) (hL.2 w' hw)
  rwa [hdl]at this) _ _ _ _ hC H
 rw [htl,show n+(l.toArray.size - n)=l.toArray.size by omega]at R;exact R
theorem az{id:Nat}{Q:Exit->Act->World->Prop}{a:Act}{w:World}{l:List Oper}(n:Nat)(hm:P.follows .mixedOrders=true)(hB:Region.lexTailB .any l.toArray n=true)
  (h:wpQuiet P l.toArray (λw'=>∃p:Regrown,w'=grow (redrawn w p.d) p.os) (λa'=>∀w',(∃p:Regrown,w'=grow (redrawn w p.d) p.os)->wpList P l.toArray Q (l.drop n) a' w') (l.take n) a):(Code.region id l.toArray true).wp P Q a w:=
 fU (C:=λw'=>∃p:Regrown,w'=grow (redrawn w p.d) p.os) n hm hB ⟨⟨w.drawn+1,#[]⟩,by rw [grow_empty];rfl⟩ h
end
end
noncomputable section
open Go.RowKit Go.Sort
def CellsAt(W:World)(B:Nat)(t:TypeId)(cs:Array Value):Prop:=W.heap[B]? =some (.cells cs t (0,0))
theorem CellsAt.lt{W:World}{B:Nat}{t:TypeId}{cs:Array Value}(h:CellsAt W B t cs):B<W.heap.size:=(Array.getElem?_eq_some_iff.1 h).1
theorem CellsAt.cell{W:World}{B:Nat}{t:TypeId}{cs:Array Value}(h:CellsAt W B t cs)(i:Nat):W.cell? ⟨B,i,none⟩=cs[i]? :=by
 simp [World.cell?,show W.heap[B]? =_ from h]
theorem CellsAt.frozen{W:World}{B:Nat}{t:TypeId}{cs:Array Value}(h:CellsAt W B t cs)(i:Nat):W.frozen? ⟨B,i,none⟩=false:=by simp [World.frozen?,show W.heap[B]? =_ from h]
theorem CellsAt.set{W:World}{B:Nat}{t:TypeId}{cs:Array Value}(h:CellsAt W B t cs)(i:Nat)(v:Value):CellsAt (W.setCell ⟨B,i,none⟩ v) B t (cs.setIfInBounds i v):=by
 obtain⟨hlt,hk⟩:=Array.getElem?_eq_some_iff.1 h;show(W.heap.modify B _)[B]? =_;rw [Array.getElem?_eq_getElem (by rw [Array.size_modify];exact hlt),Array.getElem_modify_self,hk];rfl
theorem CellsAt.kept{W W':World}{B:Nat}{t:TypeId}{cs:Array Value}(h:CellsAt W B t cs)(hb:W'.heap[B]? =W.heap[B]?):CellsAt W' B t cs:=hb.trans h
theorem CellsAt.below{W W':World}{B:Nat}{t:TypeId}{cs:Array Value}(h:CellsAt W B t cs)(hb:Below W.heap.size W W'):CellsAt W' B t cs:=h.kept (hb.block B h.lt)
theorem CellsAt.grown{W W':World}{B:Nat}{t:TypeId}{cs:Array Value}{row:Option Nat}(h:CellsAt W B t cs)(hg:W.grownBy W' row)(hne:some B≠row):CellsAt W' B t cs:=h.kept (hg.block B h.lt hne)
theorem ah{W:World}{B B':Nat}{t:TypeId}{cs:Array Value}(h:CellsAt W B t cs)(hne:B≠B')(v:Value)(i:Nat):CellsAt (W.setCell ⟨B',i,none⟩ v) B t cs:=
 (Below.heap_setCell W ⟨B',i,none⟩ v B hne).trans h
def Rd8(w:World)(a:Option Addr)(n:Nat)(f:Nat->Int):Prop:=∀i,i<n->∃b,a=some b/\b.block<w.heap.size/\w.cell? (b.add i)=some (.int .u8 (f i))/\0<=f i/\f i<=255
@[go_sem] theorem rg (b:Addr) (k:Nat):(b.add k).block=b.block:=by unfold Addr.add;split<;>rfl
theorem ab{w w':World}(h:Below w.heap.size w w')(row:Option Nat):w.grownBy w' row:=⟨h.os,h.tape,h.output,h.size,λk hk _=>h.block k hk⟩
theorem Rd8.grown{W W':World}{a:Option Addr}{n:Nat}{f:Nat->Int}{row:Option Nat}(h:Rd8 W a n f)(hg:W.grownBy W' row)(hne:∀b,a=some b->some b.block≠row):Rd8 W' a n f:=by
 intro i hi;obtain⟨b,hb,h1,h2,h3⟩:=h i hi;refine⟨b,hb,Nat.lt_of_lt_of_le h1 hg.size,?_,h3⟩;rw [<-h2]
 have:=hg.block b.block h1 (hne b hb)
 unfold World.cell?;rw [rg,this]
theorem Rd8.cut{W:World}{a:Option Addr}{n p k:Nat}{f:Nat->Int}(h:Rd8 W a n f)(hp:p+k<=n):Rd8 W (Option.map (λx=>x.add p) a) k (λi=>f (p+i)):=by
 intro i hi;obtain⟨b,rfl,h1,h2,h3⟩:=h (p+i) (by omega);refine⟨b.add p,rfl,by rw [rg];exact h1,?_,h3⟩;rw [<-h2];congr 1;unfold Addr.add;by_cases h4:p=0<;>by_cases h5:i=0<;>simp [h4,h5];omega
theorem af(W:World)(b i:Nat)(v:Value):W.grownBy (W.setCell ⟨b,i,none⟩ v) (some b):=
 ⟨rfl,rfl,rfl,(KeepsWalks.setCell W _ v).size,λk _ hk=>Below.heap_setCell _ _ _ k (λe=>hk (by rw [e]))⟩
theorem ae{A B C:World}{r:Option Nat}(h:A.grownBy B r)(k:B.grownBy C r):A.grownBy C r:=
 ⟨k.os.trans h.os,k.tape.trans h.tape,k.output.trans h.output,Nat.le_trans h.size k.size,λi hi hr=>(k.block i (Nat.lt_of_lt_of_le hi h.size) hr).trans (h.block i hi hr)⟩
theorem xO{A B:World}{r:Option Nat}(h:A.grownBy B none):A.grownBy B r:=⟨h.os,h.tape,h.output,h.size,λi hi _=>h.block i hi (by simp)⟩
theorem aG{A B:World}{n r:Nat}(h:A.grownBy B (some r))(hn:n<=A.heap.size)(hr:n<=r):Below n A B:=⟨h.os,h.tape,h.output,h.size,λk hk=>h.block k (by omega) (by simp;omega)⟩
theorem gI{A B:World}(h:A.grownBy B none):Below A.heap.size A B:=⟨h.os,h.tape,h.output,h.size,λk hk=>h.block k hk (by simp)⟩
end
end Go.Proofs.Ytoamaaicfjkmhaa
