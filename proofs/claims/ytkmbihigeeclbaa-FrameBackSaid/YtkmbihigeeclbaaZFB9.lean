/- Texts of a claim, joined. -/
import Derived.Test.YtkmbihigeeclbaaZFB8
import Derived.Test.YtkmbihigeeclbaaProg
import Derived.BigQuiet
import Derived.Lib.QuietBelow
import Derived.WalkSpells
import Derived.WalkLawsBesides
import Derived.Lib.Hide
import Derived.Outline
import Derived.StillTail
import Derived.Laws.OwnMore
import Derived.Maps.AppendAt
import Derived.RangeFuncBox
import Derived.Defers
import Derived.Recover
set_option linter.unusedVariables false
set_option linter.unusedSimpArgs false
namespace Go.Proofs.Ytkmbihigeeclbaa
noncomputable section
namespace Ev
namespace K
open Go Go.RowKit
section
variable {E : Env} {n : Nat} {F : KF} {ks : KS} {V : Vl} {f : Nat → D} {h : ak} {G : KG} {D0 : Nat}
theorem rZ{k i j bz:Nat}{ag:Bool}{sz:Nat}{es:List (List C)}{e cs:List C}{d:D}(hg:ao h k=some (bz,es))(he:es[i]? =some e)(hc:Ev.cut e j sz=some cs)(hv:bR ag cs=some d):load h ag sz (.one (.ptr k i j))=some d:=by
 simp only [load,hg,zbB,zbS,he,hc,hv]
theorem EQ(hr:Rel F ks V f h){z:Nat×Bool}{a:KD}{a':D}{R:Type}{r:R}{κ:KD->Option R}(hs:eR F ks z a κ=some r)(ha:RD (am F ks) V a a'):∃d d',κ d=some r/\load h z.2 (if z.2 then z.1 else 1) a'=some d'/\RD (am F ks) V d d'/\ScD ks.nx d:=by
 have hz:wd z=if z.2 then z.1 else 1:=by unfold wd;cases z.2<;>rfl
 cases a with
 |tup ts=>simp [eR]at hs
 |agg cs=>simp [eR]at hs
 |one c=>
  obtain⟨c',rfl,hc⟩:=ha
  cases c with
  |ptr p j=>
   simp only [eR]at hs;split at hs
   .rename_i cs hp;simp only [zbE]at hs;obtain⟨d2,⟨cs2,g1,g2⟩,g3⟩:=hs;obtain⟨g4,g5,sz,cs',g6,g7⟩:=hr.bl p _ hp;obtain⟨c2,g8,g9⟩:=g7.cut g1;obtain⟨d3,k1,k2,k3⟩:=dZ g2 (fp g5 g1) g9;rw [show c'=_ from hc];exact⟨_,d3,g3,rZ g6 rfl (by rw [<-hz];exact g8) k1,k2,k3⟩
   .simp at hs
  |ip e fr x i y j=>
   simp only [eR,zbE]at hs;obtain⟨d2,⟨cs2,g1,g2⟩,g3⟩:=hs;obtain⟨fl,e1,e2,e3⟩:=hc;obtain⟨c2,g8,g9⟩:=(cu (B:=am F ks) (V:=V) e3 e y).cut g1;obtain⟨d3,k1,k2,k3⟩:=dZ g2 (fp (dj ks.nx fr e y) g1) g9;refine⟨_,d3,g3,?_,k2,k3⟩;rw [e1];simp only [load,zbB,vA (r:=e.row) e2,zbS];rw [<-hz,g8];exact k1
  |pe p i j=>
   simp only [eR]at hs;rw [hc.2];split at hs
   .rename_i e ne l hp;simp only [zbE]at hs;obtain⟨y,g0,d2,⟨cs2,g1,g2⟩,g3⟩:=hs;obtain⟨g4,g5,g6,_⟩:=hr.bl p _ hp;obtain⟨c2,g8,g9⟩:=(cu (B:=am F ks) (V:=V) (λ_=>rfl) e y).cut g1;obtain⟨d3,k1,k2,k3⟩:=dZ g2 (fp (dj ks.nx true e y) g1) g9;exact⟨_,d3,g3,rZ g6 (jW g0).2 (by rw [<-hz];exact g8) k1,k2,k3⟩
   .rename_i e l hp;simp only [zbE]at hs;obtain⟨y,g0,d2,⟨cs2,g1,g2⟩,g3⟩:=hs;obtain⟨g4,g5,g6⟩:=hr.bl p _ hp;obtain⟨c2,g8,g9⟩:=(cu (B:=am F ks) (V:=V) (λ_=>rfl) e y).cut g1;obtain⟨d3,k1,k2,k3⟩:=dZ g2 (fp (dj ks.nx true e y) g1) g9;exact⟨_,d3,g3,rZ (g6 (vP g0)) (jW g0).2 (by rw [<-hz];exact g8) k1,k2,k3⟩
   .simp at hs
  |_=>simp [eR]at hs
theorem pZ(hG:GOk G E D0)(hr:Rel F ks V f h):∀{rv:List ResultVar} {R:Type} {r:R} {κ:List KD->Option R},vK G F ks rv κ=some r->∃ds ds',rv.mapM (bS E {t:=tab F.nt f,h:=h})=some ds'/\RDl (am F ks) V ds ds'/\(∀d∈ds,ScD ks.nx d)/\κ ds=some r
 | [],R,r,κ,hs=>⟨[],[],rfl,rfl,by simp,hs⟩
 | .tmp t::rv,R,r,κ,hs=>by
  simp only [vK,zbE]at hs;obtain⟨d,g1,g2⟩:=hs;obtain⟨k1,k2,k3⟩:=hr.sl t d g1;obtain⟨ds,ds',e1,e2,e3,e4⟩:=pZ hG hr g2;refine⟨d::ds,f t::ds',?_,⟨_,_,rfl,k3,e2⟩,λx hx=> ?_,e4⟩
  .rw [List.mapM_cons,e1];show((tab F.nt f)[t]?).bind _=_;rw [gK,if_pos k1];rfl
  .rcases List.mem_cons.1 hx with rfl|hx
   .exact k2
   .exact e3 x hx
 | .cell a ty::rv,R,r,κ,hs=>by
  simp only [vK]at hs;split at hs
  .rename_i z d hz hd;have hz':=vO hG hz;obtain⟨k1,k2,k3⟩:=hr.sl a d hd;obtain⟨v,v',g1,g2,g3,g4⟩:=EQ hr hs k3;obtain⟨ds,ds',e1,e2,e3,e4⟩:=pZ hG hr g1;refine⟨v::ds,v'::ds',?_,⟨_,_,rfl,g3,e2⟩,λx hx=> ?_,e4⟩
   .unfold gS at hz';simp only [zbE,zsI]at hz';obtain⟨ti,w1,w2⟩:=hz';rw [List.mapM_cons,e1];show(((E.ti ty).bind λt'=>((tab F.nt f)[a]?).bind λd=>load h (aH t'.desc) (if aH t'.desc then t'.size else 1) d).bind _)=_;rw [w1,gK,if_pos k1];subst w2;simp only [zbS];rw [g2];rfl
   .rcases List.mem_cons.1 hx with rfl|hx
    .exact g4
    .exact e3 x hx
  .simp at hs
theorem vY:∀{ds:List KD} {ds':List D} {ts:List (Bool×List KC)},tupK.tups ds=some ts->RDl (am F ks) V ds ds'->(∀d∈ds,ScD ks.nx d)->RTs (am F ks) V ts ds'/\∀x∈ts,Scs ks.nx x.2
 | [],ds',ts,h,hr,hs=>by
  have:=Option.some.inj (show some []=some ts from h)
  subst this;exact⟨hr,by simp⟩
 | .one c::r,ds',ts,h,⟨d,s,e,h1,h2⟩,hs=>by
  simp only [tupK.tups,Option.map_eq_some_iff]at h;obtain⟨ts',g1,rfl⟩:=h;obtain⟨k1,k2⟩:=vY g1 h2 λx hx=>hs x (by simp [hx]);refine⟨⟨d,s,e,h1,k1⟩,λx hx=> ?_⟩;rcases List.mem_cons.1 hx with rfl|hx
  .exact λy hy=>by rw [List.mem_singleton.1 hy];exact hs (.one c) (by simp)
  .exact k2 x hx
 | .agg cs::r,ds',ts,h,⟨d,s,e,h1,h2⟩,hs=>by
  simp only [tupK.tups,Option.map_eq_some_iff]at h;obtain⟨ts',g1,rfl⟩:=h;obtain⟨k1,k2⟩:=vY g1 h2 λx hx=>hs x (by simp [hx]);refine⟨⟨d,s,e,h1,k1⟩,λx hx=> ?_⟩;rcases List.mem_cons.1 hx with rfl|hx
  .exact hs (.agg cs) (by simp)
  .exact k2 x hx
 | .tup ts'::r,ds',ts,h,hr,hs=>by simp [tupK.tups]at h
theorem GI{ds:List KD}{ds':List D}{d:KD}(h:tupK ds=some d)(hr:RDl (am F ks) V ds ds')(hs:∀d∈ds,ScD ks.nx d):RD (am F ks) V d (iF ds')/\ScD ks.nx d:=by
 match ds,h,hr,hs with
 | [x],h,⟨d',s,e,h1,h2⟩,hs=>
  cases h;rw [e,show s= []from h2];exact⟨h1,hs d (by simp)⟩
 | [],h,hr,hs=>
  cases h;rw [show ds'= []from hr];exact⟨⟨[],rfl,rfl⟩,λx hx=>by simp at hx⟩
 |x::x'::r,h,hr,hs=>
  have h':(tupK.tups (x::x'::r)).map KD.tup=some d:=h;rw [Option.map_eq_some_iff]at h';obtain⟨ts,g1,rfl⟩:=h';obtain⟨k1,k2⟩:=vY g1 hr hs;obtain⟨d1,s1,e1,_,d2,s2,e2,_,_⟩:=hr;refine⟨⟨ds',?_,k1⟩,k2⟩;rw [e1,e2];rfl
theorem ut:∀{l:List KD} {q i:Nat} {d:KD},ai (sM q l) i=some d->∃j,i=q+j/\l[j]? =some d
 | [],q,i,d,h=>by simp [sM,ai]at h
 |a::l,q,i,d,h=>by
  unfold sM at h;rw [aj]at h;split at h
  .rename_i hi;cases h;exact⟨0,by omega,rfl⟩
  .obtain⟨j,h1,h2⟩:=ut h;exact⟨j+1,by omega,by simpa using h2⟩
theorem An{B:BK}:∀{l:List KD} {l':List D} {j:Nat} {d:KD},RDl B V l l'->l[j]? =some d->∃d',l'[j]? =some d'/\RD B V d d'
 | [],l',j,d,h,hj=>by simp at hj
 |a::l,l',0,d,⟨x,s,e,h1,h2⟩,hj=>by simp at hj;subst hj e;exact⟨x,rfl,h1⟩
 |a::l,l',j+1,d,⟨x,s,e,h1,h2⟩,hj=>by subst e;simpa using An h2 (by simpa using hj)
theorem Ao{B:BK}:∀{l:List KD} {l':List D},RDl B V l l'->l'.length=l.length
 | [],l',h=>by rw [show l'= []from h];rfl
 |a::l,l',⟨x,s,e,h1,h2⟩=>by rw [e,List.length_cons,List.length_cons,Ao h2]
theorem uv{nt nx:Nat}{bl:List (Nat×KB)}{args:List KD}{args':List D}(hb:EI F {sl:= [],bl:=bl,nx:=nx} V h)(hs:∀d∈args,ScD nx d)(hr:RDl (am F {sl:= [],bl:=bl,nx:=nx}) V args args')(hl:args.length<=nt):Rel {F with sl:= [],nt:=nt} {sl:=sM 0 args,bl:=bl,nx:=nx} V (fA args') h:=by
 refine⟨?_,hb.bl,hb.inj⟩;intro i d hd;have hd':aI (sM 0 args) [] i=some d:=hd;unfold aI at hd'
 cases hl':ai (sM 0 args) i with
 |none=>rw [hl']at hd';simp [ai]at hd'
 |some d0=>
  rw [hl']at hd';cases hd';obtain⟨j,h1,h2⟩:=ut hl';rw [Nat.zero_add]at h1;subst h1;obtain⟨d',h3,h4⟩:=An hr h2;have hi:i<args.length:=(List.getElem?_eq_some_iff.1 h2).1;refine⟨Nat.lt_of_lt_of_le hi hl,hs d (List.mem_of_getElem? h2),?_⟩;show RD _ _ d (args'.getD i bu);rw [List.getD_eq_getElem?_getD,h3];exact h4
theorem xP{e:Ex}(h:pd e=true):e= .normal∨e= .ret:=by
 cases e with
 |normal=>exact .inl rfl
 |ret=>exact .inr rfl
 |exit id=>simp [pd]at h
theorem xQ(hG:GOk G E D0)(A:eU):∀(c n:Nat),D0+c<=n->zc E n (xw G A c)
 |0,n,hn=>λR F k args ks κ r V h args' hs hb hsc hr=>by simp [xw]at hs
 |c+1,n,hn=>λR F k args ks κ r V h args' hs hb hsc hr=>by
  unfold xw at hs;split at hs
  .rename_i fi hfi;obtain⟨g1,g2⟩:=hG.fi k fi hfi;split at hs
   .rename_i hlen
    match n,hn with
    |n0+1,hn=>
     refine⟨n0,fi,rfl,g1,g2,by rw [Ao hr];exact hlen,?_⟩;have hrel:Rel {F with sl:= [],nt:=fi.nt} {ks with sl:=sM 0 args} V (fA args') h:=uv ⟨hb.bl,hb.inj⟩ hsc hr hlen;refine(xO (y:=nY) hG (by omega) (xQ hG A c n0 (by omega)) fi.body R _ _ _ r V _ h hs hrel).mono λe s hp=> ?_;obtain⟨ks',V',f',h1,h2,h3,h4⟩:=hp;obtain⟨t,hh⟩:=s;simp only at h1 h2;subst h1;dsimp only at h3
     cases he:pd e with
     |false=>rw [he]at h3;simp at h3
     |true=>
      rw [he]at h3;obtain⟨ds,ds',e1,e2,e3,e4⟩:=pZ hG h2 h3;rw [zbE]at e4;obtain⟨d,e5,e6⟩:=e4;obtain⟨k1,k2⟩:=GI e5 e2 e3;exact⟨xP he,ds',e1,ks',V',d,e6,k2,k1,⟨h2.bl,h2.inj⟩,⟨h4.nx,h4.agree,h4.le,h4.dom⟩⟩
   .simp at hs
  .simp at hs
theorem mc:∀{e:Ty} (x:e.val),e.plain=true->(cK e.row x).all qd=true
 | .I _,_,_=>rfl
 | .B,_,_=>rfl
 | .S _,_,hp=>by simp [Ty.plain]at hp
 | .U,_,_=>rfl
 | .C a b,x,hp=>by
  simp only [Ty.plain,Bool.and_eq_true]at hp;unfold cK;show((a.row x.1++b.row x.2).map (pC true)).all qd=true;rw [List.map_append,List.all_append];have h1:=mc x.1 hp.1;have h2:=mc x.2 hp.2;unfold cK at h1 h2;rw [h1,h2];rfl
theorem sa{B:BK}:∀{l:List (Bool×List KC)} {ds:List D},RTs B V l ds->RDl B V (l.map mkD) ds
 | [],ds,h=>h
 |x::l,ds,⟨d,s,e,h1,h2⟩=>⟨d,s,e,yX h1,sa h2⟩
theorem Ap(fr:Bool):∀(ts:List TyD) (x:bE ts),(jy fr ts x).length=ts.length
 | [],_=>rfl
 | [t],x=>rfl
 |t::t'::r,x=>by show(jy fr (t'::r) x.2).length+1=_;rw [Ap fr (t'::r)];rfl
theorem vZ:∀(ts:List TyD) (x:bE ts),(cU ts x).length=ts.length
 | [],_=>rfl
 | [t],x=>rfl
 |t::t'::r,x=>by show(cU (t'::r) x.2).length+1=_;rw [vZ (t'::r)];rfl
theorem Ce{B:BK}{ts:List TyD}{ds:List KD}{ds':List D}{x:bE ts}(hd:gM B ts ds=some x)(hr:RDl B V ds ds')(hno:oq ds=false):dk h ds'=false:=by
 unfold dk;split
 .rename_i k m
  match ds,hr,hno,hd with
  | [d],⟨y,s,e,h1,h2⟩,hno,hd=>
   rw [show s= []from h2]at e;simp only [List.cons.injEq,and_true]at e;subst e
   match ts,x,hd with
   | [t],x,hd=>
    have hd':vD B t d=some x:=hd
    cases d with
    |one c=>
     obtain⟨c',e1,e2⟩:=h1;cases e1
     cases c with
     |o e p=>simp [oq]at hno
     |m e p=>simp [oq]at hno
     |n k y=>exact absurd (show C.own _ 0 _=_ from e2) (by simp)
     |b v=>exact absurd (show C.own _ 0 _=_ from e2) (by simp)
     |p t P d=>exact absurd e2.1 (by simp)
     |bv y=>exact absurd (show C.own _ 0 _=_ from e2) (by simp)
     |v y=>exact absurd (show C.own _ 0 _=_ from e2) (by simp)
     |nil=>exact absurd (show C.own _ 0 _=_ from e2) (by simp)
     |s e fr y=>obtain⟨fl,e3,_⟩:=e2;exact absurd e3 (by simp)
     |ptr p j=>exact absurd (show C.own _ 0 _=_ from e2) (by simp)
     |pe p i j=>exact absurd e2.2 (by simp)
     |ip e fr y i z j=>obtain⟨fl,e3,_⟩:=e2;exact absurd e3 (by simp)
     |clo fn ps=>exact absurd (show C.own _ 0 _=_ from e2) (by simp)
     |yld p=>exact absurd (show C.own _ 0 _=_ from e2) (by simp)
    |agg cs=>obtain⟨c',e1,_⟩:=h1;simp at e1
    |tup ts=>simp [vD]at hd'
   | [],x,hd=>simp [gM]at hd
   |_::_::_,x,hd=>simp [gM]at hd
  | [],hr,_,_=>exact absurd (show [_]=_ from hr) (by simp)
  |_::_::_,⟨y,s,e,h1,y2,s2,e2,_,_⟩,_,_=>rw [e2]at e;simp at e
 .rfl
theorem nG{rv:List ResultVar}{e:Ty}{l:List e.val}{k:Nat}{ex:Ex}{s:St}(he:ex= .normal∨ex= .ret)(hres:rv.mapM (bS E s)=some [.one (.own k 0 l.length)])(hg:ao s.h k=some (e.size,l.map (cK e.row)))(hp:e.plain=true):yB E rv (.own,[.one (.s true e.size (l.map e.row))]) ex s:=by
 have ho:dk s.h [.one (.own k 0 l.length)]=true:=by
  simp only [dk,hg,List.length_map,BEq.rfl,Bool.true_and,List.all_map];rw [List.all_eq_true];exact λx _=>mc x hp
 have hv:cl s.h (.one (.own k 0 l.length))=some (true,.one (.s true e.size (l.map e.row))):=by
  show(dS s.h 6 _).bind _=_;rw [yK (r:=e.row) (L:= [[(k,e.size,l.map (cK e.row))]]) 0 rfl (λx h m=>rB m) s.h (fh hg) 4];rfl
 have key:bP (λq:Kind×List TD=>q=(.own,[.one (.s true e.size (l.map e.row))])) ((rv.mapM (bS E s)).bind λrs=>(rs.mapM (cl s.h)).map λl=>(if dk s.h rs then .own else if l.all (·.1)then .fresh else .any,l.map (·.2))):=by
  rw [hres];simp only [zbS,List.mapM_cons,hv,List.mapM_nil,Option.pure_def,zbB,Option.map_some,ho];rfl
 rcases he with rfl|rfl<;>exact key
theorem iB{rv:List ResultVar}{ds':List D}{l:List (Bool×TD)}{ex:Ex}{s:St}(he:ex= .normal∨ex= .ret)(hres:rv.mapM (bS E s)=some ds')(hv:ds'.mapM (cl s.h)=some l)(ho:dk s.h ds'=false):yB E rv (cond (l.all (·.1)) .fresh .any,l.map (·.2)) ex s:=by
 have key:bP (λq:Kind×List TD=>q=(cond (l.all (·.1)) .fresh .any,l.map (·.2))) ((rv.mapM (bS E s)).bind λrs=>(rs.mapM (cl s.h)).map λl=>(if dk s.h rs then .own else if l.all (·.1)then .fresh else .any,l.map (·.2))):=by
  rw [hres];simp only [zbS,hv,Option.map_some,ho];show(_,_)=(_,_);cases l.all (·.1)<;>rfl
 rcases he with rfl|rfl<;>exact key
theorem GJ(hG:GOk G E D0)(A:eU){fi:FI}{k:FuncId}{c:Nat}{ins:List TyD}{ok:OutK}{x:bE ins}{out:ok.val}(hax:E.ax k=none)(hf:E.fn k=some fi)(hl:ins.length<=fi.nt)(hs:fP G A fi k c ins ok x=some out)(m:Nat):Ab E (m+(D0+c)+1) k (cU ins x) ok out:=by
 unfold fP at hs;have hb:EI {nt:=fi.nt} {sl:= [],bl:= [],nx:=0} ⟨λ_=>0,λ_=>false⟩ []:=⟨λp b hb=>by simp [am,aI,ai]at hb,λp q b b' hb=>by simp [am,aI,ai]at hb⟩;have hargs:RDl (am {nt:=fi.nt} {sl:= [],bl:= [],nx:=0}) ⟨λ_=>0,λ_=>false⟩ ((jy false ins x).map mkD) ((cU ins x).map (bZ false)):=sa (nu (λh=>h) ins x)
 have hsc:∀d∈(jy false ins x).map mkD,ScD 0 d:=λd hd=>by
  obtain⟨y,h1,rfl⟩:=List.mem_map.1 hd;exact pX (rC 0 false ins x y h1)
 have hrel:Rel {nt:=fi.nt} {sl:=zZ ins x,bl:= [],nx:=0} ⟨λ_=>0,λ_=>false⟩ (fA ((cU ins x).map (bZ false))) []:=uv (F:={nt:=fi.nt}) hb hsc hargs (by rw [List.length_map,Ap];exact hl);have hw:=xO (y:=nY) (n:=m+(D0+c)) hG (by omega) (xQ hG A c _ (by omega)) fi.body ok.val _ _ _ out _ _ [] hs hrel;have hend:∀r,(∀e s,PostC {nt:=fi.nt} {sl:=zZ ins x,bl:= [],nx:=0} ⟨λ_=>0,λ_=>false⟩ (λe ks=>cond (pd e) (vK G {nt:=fi.nt} ks fi.results λds=>vL (am {nt:=fi.nt} ks) ok ds) none) out e s->yB E fi.results r e s)->RunsP E (m+(D0+c)+1) k (cU ins x) r:=λr hq=>xk hax hf (by rw [vZ];exact hl) (hw.mono hq)
 have hopen:∀e s,PostC {nt:=fi.nt} {sl:=zZ ins x,bl:= [],nx:=0} ⟨λ_=>0,λ_=>false⟩ (λe ks=>cond (pd e) (vK G {nt:=fi.nt} ks fi.results λds=>vL (am {nt:=fi.nt} ks) ok ds) none) out e s->∃ks' V' f' ds ds',(e= .normal∨e= .ret)/\Rel {nt:=fi.nt} ks' V' f' s.h/\fi.results.mapM (bS E s)=some ds'/\RDl (am {nt:=fi.nt} ks') V' ds ds'/\vL (am {nt:=fi.nt} ks') ok ds=some out:=by
  intro e s hp;obtain⟨ks',V',f',h1,h2,h3,h4⟩:=hp;obtain⟨t,hh⟩:=s;simp only at h1 h2;subst h1;dsimp only at h3
  cases he:pd e with
  |false=>rw [he]at h3;simp at h3
  |true=>
   rw [he]at h3;obtain⟨ds,ds',e1,e2,e3,e4⟩:=pZ hG h2 h3;exact⟨ks',V',f',ds,ds',xP he,h2,e1,e2,e4⟩
 cases ok with
 |data fr ts=>
  have hdata:∀(ks':KS) (V':Vl) (ds:List KD) (ds':List D) (hh:ak) (f':Nat->D),Rel {nt:=fi.nt} ks' V' f' hh->RDl (am {nt:=fi.nt} ks') V' ds ds'->vL (am {nt:=fi.nt} ks') (.data fr ts) ds=some out->∃l,ds'.mapM (cl hh)=some l/\l.map (·.2)=cU ts out/\(fr=true->l.all (·.1)=true)/\dk hh ds'=false:=by
   intro ks' V' ds ds' hh f' h2 e2 e4;unfold vL at e4;simp only at e4;split at e4
   .simp at e4
   .rename_i hc;obtain⟨l,l1,l2,l3⟩:=lM h2.bls e4 e2
    have hno:oq ds=false:=by cases ho:oq ds with|true=>simp [ho]at hc|false=>rfl
    refine⟨l,l1,l2,λhfr=>l3 ?_,Ce e4 e2 hno⟩
    cases ha:ds.all frD with
    |true=>rfl
    |false=>simp [hfr,ha]at hc
  cases fr with
  |true=>
   refine hend _ λe s hp=> ?_;obtain⟨ks',V',f',ds,ds',he,h2,e1,e2,e4⟩:=hopen e s hp;obtain⟨l,l1,l2,l3,l4⟩:=hdata ks' V' ds ds' s.h f' h2 e2 e4
   have:=iB (E:=E) he e1 l1 l4
   rw [l3 rfl,l2]at this;exact this
  |false=>
   -- is it new? that is settled when it has run
   obtain⟨e,s,hrun,hp⟩:=hw;obtain⟨ks',V',f',ds,ds',he,h2,e1,e2,e4⟩:=hopen e s hp;obtain⟨l,l1,l2,_,l4⟩:=hdata ks' V' ds ds' s.h f' h2 e2 e4
   have:=iB (E:=E) he e1 l1 l4
   rw [l2]at this;exact⟨l.all (·.1),xk hax hf (by rw [vZ];exact hl) ⟨e,s,hrun,this⟩⟩
 |own ty=>
  refine hend _ λe s hp=> ?_;obtain⟨ks',V',f',ds,ds',he,h2,e1,e2,e4⟩:=hopen e s hp;unfold vL at e4;simp only at e4;unfold Eo at e4;split at e4
  .rename_i e0 p;split at e4
   .rename_i e' ne l hB;split at e4
    .rename_i hpl;rw [Option.map_eq_some_iff]at e4;obtain⟨l2,g0,rfl⟩:=e4;obtain⟨hty,g0⟩:=aQ g0;cases hty;subst g0;obtain⟨y,s',e5,⟨c',e6,e7⟩,e8⟩:=e2;rw [show s'= []from e8]at e5;rw [e5,e6,e7 _ _ _ hB]at e1;exact nG he e1 (h2.bl p _ hB).2.2.1 hpl
    .simp at e4
   .simp at e4
  .simp at e4
 |mown ty=>
  refine hend _ λe s hp=> ?_;obtain⟨ks',V',f',ds,ds',he,h2,e1,e2,e4⟩:=hopen e s hp
  have hnil:∀{ds'':List D},RDl (am {nt:=fi.nt} ks') V' [.one .nil] ds''->fi.results.mapM (bS E s)=some ds''->yB E fi.results (Kx ty.size ty.row []) e s:=by
   intro ds'' e2 e1;obtain⟨y,s',e5,⟨c',e6,e7⟩,e8⟩:=e2;rw [show s'= []from e8]at e5;rw [e5,e6,show c'=_ from e7]at e1;exact iB (E:=E) (l:= [(true,.one (.s false 0 []))]) he e1 rfl rfl
  unfold vL at e4;simp only at e4;unfold zX at e4;split at e4
  .cases e4;exact hnil e2 e1
  .rename_i e0 p;split at e4
   .rename_i e' l hB;split at e4
    .rename_i hpl;rw [Option.map_eq_some_iff]at e4;obtain⟨l2,g0,rfl⟩:=e4;obtain⟨hty,g0⟩:=aQ g0;cases hty;subst g0;obtain⟨y,s',e5,⟨c',e6,e7⟩,e8⟩:=e2;rw [show s'= []from e8]at e5;rw [e5,e6,e7 _ _ hB]at e1
     cases l with
     |nil=>exact iB (E:=E) (l:= [(true,.one (.s false 0 []))]) he e1 rfl rfl
     |cons a l=>exact nG he e1 ((h2.bl p _ hB).2.2 (by simp)) hpl
    .simp at e4
   .simp at e4
  .rename_i e0 p;split at e4
   .rename_i e' ne l hB;split at e4
    .rename_i hpl;rw [zbE]at e4;obtain⟨l2,g0,e4⟩:=e4;obtain⟨hty,g0⟩:=aQ g0;cases hty;subst g0;obtain⟨y,s',e5,⟨c',e6,e7⟩,e8⟩:=e2;rw [show s'= []from e8]at e5;rw [e5,e6,e7 _ _ _ hB]at e1;obtain⟨w1,w2,w3,w4⟩:=h2.bl p _ hB
     cases l with
     |nil=>
      cases ne with
      |true=>exact absurd rfl (w4 rfl)
      |false=>simp [neL]at e4
     |cons a l=>
      obtain rfl:=(by cases ne<;>simpa [neL]using e4:_=_);exact nG he e1 w3 hpl
    .simp at e4
   .simp at e4
  .simp at e4
 |gown ty=>
  refine hend _ λe s hp=> ?_;obtain⟨ks',V',f',ds,ds',he,h2,e1,e2,e4⟩:=hopen e s hp;unfold vL at e4;simp only at e4;unfold zY at e4;split at e4
  .cases e4;obtain⟨y,s',e5,⟨c',e6,e7⟩,e8⟩:=e2;rw [show s'= []from e8]at e5;rw [e5,e6,show c'=_ from e7]at e1;exact iB (E:=E) (l:= [(true,.one (.s false 0 []))]) he e1 rfl rfl
  .rename_i e0 p;split at e4
   .rename_i e' l hB;split at e4
    .rename_i hpl;rw [Option.map_eq_some_iff]at e4;obtain⟨l2,g0,rfl⟩:=e4;obtain⟨hty,g0⟩:=aQ g0;cases hty;subst g0;obtain⟨y,s',e5,⟨c',e6,e7⟩,e8⟩:=e2;rw [show s'= []from e8]at e5;rw [e5,e6,e7 _ _ hB]at e1
     cases l with
     |nil=>exact iB (E:=E) (l:= [(true,.one (.s false 0 []))]) he e1 rfl rfl
     |cons a l=>exact nG he e1 ((h2.bl p _ hB).2.2 (by simp)) hpl
    .simp at e4
   .simp at e4
  .rename_i e0 p;split at e4
   .rename_i e' ne l hB;split at e4
    .rename_i hpl;rw [Option.map_eq_some_iff]at e4;obtain⟨l2,g0,rfl⟩:=e4;obtain⟨hty,g0⟩:=aQ g0;cases hty;subst g0;obtain⟨y,s',e5,⟨c',e6,e7⟩,e8⟩:=e2;rw [show s'= []from e8]at e5;rw [e5,e6,e7 _ _ _ hB]at e1;exact nG he e1 (h2.bl p _ hB).2.2.1 hpl
    .simp at e4
   .simp at e4
  .simp at e4
end
end K
end Ev
end
noncomputable section
namespace Ev
namespace K
open Go Go.RowKit
def Jd(E:Env)(D:Nat):List bW->Prop
 | []=>True
 |e::r=>(e.d<=D/\aM E e)/\Jd E D r
def Je(E:Env):List (FuncId×FI)->Prop
 | []=>True
 |x::r=>(E.fn x.1=some x.2/\E.ax x.1=some λ_=>none)/\Je E r
def ER(E:Env):List (Nat×TI)->Prop
 | []=>True
 |x::r=>E.ti x.1=some x.2/\ER E r
def ES(P:Program):List (Nat×List IntKind)->Prop
 | []=>True
 |x::r=>Et P x.1 x.2/\ES P r
theorem xR{E:Env}{D:Nat}:∀{l:List bW},Jd E D l->∀e∈l,e.d<=D/\aM E e
 | [],_,e,h=>by simp at h
 |a::l,⟨h1,h2⟩,e,h=>by
  rcases List.mem_cons.1 h with rfl|h
  .exact h1
  .exact xR h2 e h
theorem uw{E:Env}:∀{l:List (FuncId×FI)},Je E l->∀k f,ai l k=some f->E.fn k=some f/\E.ax k=some λ_=>none
 | [],_,k,f,h=>by simp [ai]at h
 |a::l,⟨h1,h2⟩,k,f,h=>by
  rw [show a::l=(a.1,a.2)::l from rfl,aj]at h;split at h
  .rename_i hk;cases h;subst hk;exact h1
  .exact uw h2 k f h
theorem ux{E:Env}:∀{l:List (Nat×TI)},ER E l->∀k f,ai l k=some f->E.ti k=some f
 | [],_,k,f,h=>by simp [ai]at h
 |a::l,⟨h1,h2⟩,k,f,h=>by
  rw [show a::l=(a.1,a.2)::l from rfl,aj]at h;split at h
  .rename_i hk;cases h;subst hk;exact h1
  .exact ux h2 k f h
theorem uy{P:Program}:∀{l:List (Nat×List IntKind)},ES P l->∀k f,ai l k=some f->Et P k f
 | [],_,k,f,h=>by simp [ai]at h
 |a::l,⟨h1,h2⟩,k,f,h=>by
  rw [show a::l=(a.1,a.2)::l from rfl,aj]at h;split at h
  .rename_i hk;cases h;subst hk;exact h1
  .exact uy h2 k f h
theorem gok{E:Env}{D:Nat}{tt:List (Nat×TI)}{eqs:List (Nat×List IntKind)}{fns:List bW}{fi:List (FuncId×FI)}(hE:E.Ok)(ht:ER E tt)(hq:ES E.P eqs)(hf:Jd E D fns)(hi:Je E fi):GOk ⟨tt,eqs,fns,fi⟩ E D:=⟨hE,ux ht,uy hq,xR hf,uw hi⟩
def mkE(G:KG)(A:eU)(fi:FI)(k:FuncId)(c:Nat)(ins:List TyD)(out:OutK)(d:Nat):bW:=⟨k,ins,out,fP G A fi k c ins out,d⟩
theorem bM{E:Env}{D:Nat}{G:KG}{A:eU}{fi:FI}{k:FuncId}{c:Nat}{ins:List TyD}{out:OutK}{d:Nat}(hG:GOk G E D)(hax:E.ax k=none)(hf:E.fn k=some fi)(hl:Nat.ble ins.length fi.nt=true)(hd:D+c+1=d):aM E (mkE G A fi k c ins out d):=λm a o h=>by
 subst hd;exact GJ hG A hax hf (Nat.le_of_ble_eq_true hl) h m
def fiF(f:Func):FI:=⟨f.ntmps,f.results.toList,f.body.getD .skip⟩
theorem bA{P:Program}{k:FuncId}{f:Func}{b:Code}(h:P.funcs[k]? =some f)(hb:f.body=some b):FX P k=some (fiF f):=by
 unfold FX fiF;rw [h];simp only [hb];rfl
theorem Aq{P:Program}{ty:TypeId}{k0 k1:IntKind}(h:∀(x y:Operand) (a0 b0 a1 b1:Int),al P (do eqGuard .eql ty x y (.agg #[.int k0 a0,.int k1 a1]) (.agg #[.int k0 b0,.int k1 b1]);binOp .eql ty (.agg #[.int k0 a0,.int k1 a1]) (.agg #[.int k0 b0,.int k1 b1]))=some (.bool (a0==b0 &&(a1==b1 && true))))
  (h':∀(x y:Operand) (a0 b0 a1 b1:Int),al P (do eqGuard .neq ty x y (.agg #[.int k0 a0,.int k1 a1]) (.agg #[.int k0 b0,.int k1 b1]);binOp .neq ty (.agg #[.int k0 a0,.int k1 a1]) (.agg #[.int k0 b0,.int k1 b1]))=some (.bool (!(a0==b0 &&(a1==b1 && true))))):Et P ty [k0,k1]:=λx y l hl=>by
 match l,hl with
 | [(a0,b0),(a1,b1)],_=>
  have e:(a0==b0 &&(a1==b1 && true))= @decide (eqP [(a0,b0),(a1,b1)]) (eqD [(a0,b0),(a1,b1)]):=dM (by simp [eqP]);exact⟨(h x y a0 b0 a1 b1).trans (by rw [e]),(h' x y a0 b0 a1 b1).trans (by rw [e])⟩
theorem Ar{P:Program}{ty:TypeId}{k0 k1 k2:IntKind}(h:∀(x y:Operand) (a0 b0 a1 b1 a2 b2:Int),al P (do eqGuard .eql ty x y (.agg #[.int k0 a0,.int k1 a1,.int k2 a2]) (.agg #[.int k0 b0,.int k1 b1,.int k2 b2]);binOp .eql ty (.agg #[.int k0 a0,.int k1 a1,.int k2 a2]) (.agg #[.int k0 b0,.int k1 b1,.int k2 b2]))=some (.bool (a0==b0 &&(a1==b1 &&(a2==b2 && true)))))
  (h':∀(x y:Operand) (a0 b0 a1 b1 a2 b2:Int),al P (do eqGuard .neq ty x y (.agg #[.int k0 a0,.int k1 a1,.int k2 a2]) (.agg #[.int k0 b0,.int k1 b1,.int k2 b2]);binOp .neq ty (.agg #[.int k0 a0,.int k1 a1,.int k2 a2]) (.agg #[.int k0 b0,.int k1 b1,.int k2 b2]))=some (.bool (!(a0==b0 &&(a1==b1 &&(a2==b2 && true)))))):Et P ty [k0,k1,k2]:=λx y l hl=>by
 match l,hl with
 | [(a0,b0),(a1,b1),(a2,b2)],_=>
  have e:(a0==b0 &&(a1==b1 &&(a2==b2 && true)))= @decide (eqP [(a0,b0),(a1,b1),(a2,b2)]) (eqD [(a0,b0),(a1,b1),(a2,b2)]):=dM (by simp [eqP]);exact⟨(h x y a0 b0 a1 b1 a2 b2).trans (by rw [e]),(h' x y a0 b0 a1 b1 a2 b2).trans (by rw [e])⟩
end K
@[reducible] def nE {R:Type} (v:Empty):Option R:=K.afterX.match_1 (λ_=>Option R) v
end Ev
end
noncomputable section
namespace Ev
namespace K
open Go Go.RowKit
set_option maxRecDepth 100000
set_option maxHeartbeats 1000000
def i1:TI:=(⟨.func #[] #[] false,[.nilFunc],1,8⟩:TI)
def i4:TI:=(⟨.bool,[.bool false],1,1⟩:TI)
def i7:TI:=(⟨.struct (br Try.prog 7),[.int .i64 0,.int .i64 0,.bool false,.int .u8 0],4,24⟩:TI)
def i8:TI:=(⟨.struct (br Try.prog 8),[.int .i64 0,.int .i64 0,.bool false,.int .u8 0],4,24⟩:TI)
def i15:TI:=(⟨.pointer 126,[.pointer none],1,8⟩:TI)
def i16:TI:=(⟨.pointer 129,[.pointer none],1,8⟩:TI)
def i17:TI:=(⟨.pointer 137,[.pointer none],1,8⟩:TI)
def i18:TI:=(⟨.struct (br Try.prog 18),[.pointer none],1,8⟩:TI)
def i19:TI:=(⟨.struct (br Try.prog 19),[.pointer none],1,8⟩:TI)
def i23:TI:=(⟨.slice 56,[.slice none 0 0],1,24⟩:TI)
def i24:TI:=(⟨.struct (br Try.prog 24),[.int .i64 0,.slice none 0 0],2,32⟩:TI)
def i25:TI:=(⟨.struct (br Try.prog 25),[.int .i64 0,.slice none 0 0],2,32⟩:TI)
def i26:TI:=(⟨.slice 61,[.slice none 0 0],1,24⟩:TI)
def i27:TI:=(⟨.slice 63,[.slice none 0 0],1,24⟩:TI)
def i28:TI:=(⟨.struct (br Try.prog 28),[.int .i64 0,.int .i64 0,.int .i64 0,.int .i64 0,.int .i64 0,.int .i64 0,.slice none 0 0,.slice none 0 0,.slice none 0 0,.int .i64 0,.bool false],11,136⟩:TI)
def i29:TI:=(⟨.struct (br Try.prog 29),[.int .i64 0,.int .i64 0,.int .i64 0,.int .i64 0,.int .i64 0,.int .i64 0,.slice none 0 0,.slice none 0 0,.slice none 0 0,.int .i64 0,.bool false],11,136⟩:TI)
def i30:TI:=(⟨.func #[29] #[29] false,[.nilFunc],1,8⟩:TI)
def i31:TI:=(⟨.slice 5,[.slice none 0 0],1,24⟩:TI)
def i34:TI:=(⟨.func #[29] #[31,32] false,[.nilFunc],1,8⟩:TI)
def i35:TI:=(⟨.func #[] #[4] false,[.nilFunc],1,8⟩:TI)
def i36:TI:=(⟨.func #[29] #[32] false,[.nilFunc],1,8⟩:TI)
def i37:TI:=(⟨.func #[31,31] #[4] false,[.nilFunc],1,8⟩:TI)
def i38:TI:=(⟨.func #[29] #[3] false,[.nilFunc],1,8⟩:TI)
def i39:TI:=(⟨.func #[29,29] #[4] false,[.nilFunc],1,8⟩:TI)
def i40:TI:=(⟨.func #[29] #[4] false,[.nilFunc],1,8⟩:TI)
def i41:TI:=(⟨.struct (br Try.prog 41),[.int .i64 0,.int .i64 0],2,16⟩:TI)
def i42:TI:=(⟨.struct (br Try.prog 42),[.int .i64 0,.int .i64 0],2,16⟩:TI)
def i44:TI:=(⟨.func #[31] #[29,42] false,[.nilFunc],1,8⟩:TI)
def i45:TI:=(⟨.func #[31] #[4] false,[.nilFunc],1,8⟩:TI)
def i46:TI:=(⟨.func #[29,31] #[4] false,[.nilFunc],1,8⟩:TI)
def i47:TI:=(⟨.int .u16,[.int .u16 0],1,2⟩:TI)
def i48:TI:=(⟨.func #[29,47,31] #[4] false,[.nilFunc],1,8⟩:TI)
def i49:TI:=(⟨.func #[25] #[25] false,[.nilFunc],1,8⟩:TI)
def i50:TI:=(⟨.func #[31,91] #[31] true,[.nilFunc],1,8⟩:TI)
def i51:TI:=(⟨.func #[5] #[31] false,[.nilFunc],1,8⟩:TI)
def i52:TI:=(⟨.func #[3] #[31] false,[.nilFunc],1,8⟩:TI)
def i53:TI:=(⟨.func #[4] #[5] false,[.nilFunc],1,8⟩:TI)
def i54:TI:=(⟨.func #[2] #[31] false,[.nilFunc],1,8⟩:TI)
def i55:TI:=(⟨.struct (br Try.prog 55),[.int .i64 0,.int .i64 0],2,16⟩:TI)
def i56:TI:=(⟨.struct (br Try.prog 56),[.int .i64 0,.int .i64 0],2,16⟩:TI)
def i58:TI:=(⟨.struct (br Try.prog 58),[.int .i64 0,.int .u64 0],2,16⟩:TI)
def i59:TI:=(⟨.struct (br Try.prog 59),[.int .i64 0,.int .u64 0],2,16⟩:TI)
def i60:TI:=(⟨.struct (br Try.prog 60),[.int .i64 0,.int .i64 0,.int .u64 0],3,24⟩:TI)
def i61:TI:=(⟨.struct (br Try.prog 61),[.int .i64 0,.int .i64 0,.int .u64 0],3,24⟩:TI)
def i62:TI:=(⟨.struct (br Try.prog 62),[.int .i64 0,.int .i64 0,.int .i64 0],3,24⟩:TI)
def i63:TI:=(⟨.struct (br Try.prog 63),[.int .i64 0,.int .i64 0,.int .i64 0],3,24⟩:TI)
def i64:TI:=(⟨.func #[3] #[4] false,[.nilFunc],1,8⟩:TI)
def i65:TI:=(⟨.func #[25] #[4] false,[.nilFunc],1,8⟩:TI)
def i66:TI:=(⟨.func #[26,67] #[4] false,[.nilFunc],1,8⟩:TI)
def i67:TI:=(⟨.func #[61] #[4] false,[.nilFunc],1,8⟩:TI)
def i68:TI:=(⟨.func #[26] #[4] false,[.nilFunc],1,8⟩:TI)
def i69:TI:=(⟨.func #[27,70] #[4] false,[.nilFunc],1,8⟩:TI)
def i70:TI:=(⟨.func #[63] #[4] false,[.nilFunc],1,8⟩:TI)
def i71:TI:=(⟨.func #[23,23] #[4] false,[.nilFunc],1,8⟩:TI)
def i72:TI:=(⟨.func #[26,26] #[4] false,[.nilFunc],1,8⟩:TI)
def i73:TI:=(⟨.func #[27,27] #[4] false,[.nilFunc],1,8⟩:TI)
def i74:TI:=(⟨.struct (br Try.prog 74),[.int .i64 0,.int .i64 0],2,16⟩:TI)
def i75:TI:=(⟨.struct (br Try.prog 75),[.int .i64 0,.int .i64 0],2,16⟩:TI)
def i77:TI:=(⟨.pointer 101,[.pointer none],1,8⟩:TI)
def i78:TI:=(⟨.func #[31] #[77] false,[.nilFunc],1,8⟩:TI)
def i79:TI:=(⟨.struct (br Try.prog 79),[.pointer none],1,8⟩:TI)
def i80:TI:=(⟨.struct (br Try.prog 80),[.pointer none],1,8⟩:TI)
def i81:TI:=(⟨.func #[] #[29] false,[.nilFunc],1,8⟩:TI)
def i82:TI:=(⟨.func #[4,32,3] #[] false,[.nilFunc],1,8⟩:TI)
def i83:TI:=(⟨.func #[] #[3] false,[.nilFunc],1,8⟩:TI)
def i84:TI:=(⟨.pointer 108,[.pointer none],1,8⟩:TI)
def i85:TI:=(⟨.func #[31] #[84] false,[.nilFunc],1,8⟩:TI)
def i86:TI:=(⟨.func #[84,4,3,3,32] #[3] false,[.nilFunc],1,8⟩:TI)
def i87:TI:=(⟨.func #[] #[2] false,[.nilFunc],1,8⟩:TI)
def i88:TI:=(⟨.func #[] #[42] false,[.nilFunc],1,8⟩:TI)
def i89:TI:=(⟨.func #[32,3] #[] false,[.nilFunc],1,8⟩:TI)
def i90:TI:=(⟨.func #[25,25] #[4] false,[.nilFunc],1,8⟩:TI)
def i91:TI:=(⟨.slice 31,[.slice none 0 0],1,24⟩:TI)
def i92:TI:=(⟨.func #[5,3] #[31] false,[.nilFunc],1,8⟩:TI)
def i93:TI:=(⟨.func #[94] #[31] false,[.nilFunc],1,8⟩:TI)
def i94:TI:=(⟨.int .u32,[.int .u32 0],1,4⟩:TI)
def i95:TI:=(⟨.func #[2,3] #[31] false,[.nilFunc],1,8⟩:TI)
def i96:TI:=(⟨.func #[57,3] #[31] false,[.nilFunc],1,8⟩:TI)
def i97:TI:=(⟨.func #[26,67] #[3] false,[.nilFunc],1,8⟩:TI)
def i98:TI:=(⟨.func #[27,70] #[3] false,[.nilFunc],1,8⟩:TI)
def i99:TI:=(⟨.func #[31] #[31] false,[.nilFunc],1,8⟩:TI)
def KJ:TI:=(⟨.struct (br Try.prog 100),[.slice none 0 0,.int .i64 0,.int .i64 0,.int .i64 0],4,48⟩:TI)
def KK:TI:=(⟨.struct (br Try.prog 101),[.slice none 0 0,.int .i64 0,.int .i64 0,.int .i64 0],4,48⟩:TI)
def KM:TI:=(⟨.func #[3,3,32] #[3] false,[.nilFunc],1,8⟩:TI)
def KO:TI:=(⟨.func #[3,32] #[3] false,[.nilFunc],1,8⟩:TI)
def KP:TI:=(⟨.func #[] #[25] false,[.nilFunc],1,8⟩:TI)
def KQ:TI:=(⟨.func #[] #[26] false,[.nilFunc],1,8⟩:TI)
def KR:TI:=(⟨.func #[] #[27] false,[.nilFunc],1,8⟩:TI)
def KW:TI:=(⟨.struct (br Try.prog 107),[.slice none 0 0,.int .i64 0,.int .i64 0,.int .i64 0],4,48⟩:TI)
def KX:TI:=(⟨.struct (br Try.prog 108),[.slice none 0 0,.int .i64 0,.int .i64 0,.int .i64 0],4,48⟩:TI)
def KY:TI:=(⟨.func #[] #[5] false,[.nilFunc],1,8⟩:TI)
def KZ:TI:=(⟨.func #[] #[94] false,[.nilFunc],1,8⟩:TI)
def La:TI:=(⟨.func #[3] #[57] false,[.nilFunc],1,8⟩:TI)
def Lb:TI:=(⟨.func #[94,3] #[31] false,[.nilFunc],1,8⟩:TI)
def Lc:TI:=(⟨.func #[3,3] #[3] false,[.nilFunc],1,8⟩:TI)
def Ld:TI:=(⟨.func #[77,3,116] #[5] false,[.nilFunc],1,8⟩:TI)
def Lf:TI:=(⟨.func #[31] #[5] false,[.nilFunc],1,8⟩:TI)
def Lg:TI:=(⟨.func #[77,3,118] #[94] false,[.nilFunc],1,8⟩:TI)
def Lh:TI:=(⟨.func #[31] #[94] false,[.nilFunc],1,8⟩:TI)
def Li:TI:=(⟨.func #[77,3,120] #[2] false,[.nilFunc],1,8⟩:TI)
def Lj:TI:=(⟨.func #[31] #[2] false,[.nilFunc],1,8⟩:TI)
def Lk:TI:=(⟨.struct (br Try.prog 121),[.int .i64 0,.int .i64 0],2,16⟩:TI)
def Ll:TI:=(⟨.struct (br Try.prog 122),[.int .i64 0,.int .i64 0],2,16⟩:TI)
def Lm:TI:=(⟨.func #[] #[9] false,[.nilFunc],1,8⟩:TI)
def Ln:TI:=(⟨.array 0 16,[],0,0⟩:TI)
def Lo:TI:=(⟨.struct (br Try.prog 128),[],0,0⟩:TI)
def Lp:TI:=(⟨.struct (br Try.prog 129),[],0,0⟩:TI)
def Lr:TI:=(⟨.func #[138,138] #[4] false,[.nilFunc],1,8⟩:TI)
def Ls:TI:=(⟨.pointer 5,[.pointer none],1,8⟩:TI)
def Lt:TI:=(⟨.struct (br Try.prog 136),[.int .u64 0,.int .u64 0,.int .u32 0,.int .u8 0,.int .u8 0,.int .u8 0,.int .u8 0,.nilFunc,.pointer none,.int .i32 0,.int .i32 0],11,48⟩:TI)
def Lu:TI:=(⟨.struct (br Try.prog 137),[.int .u64 0,.int .u64 0,.int .u32 0,.int .u8 0,.int .u8 0,.int .u8 0,.int .u8 0,.nilFunc,.pointer none,.int .i32 0,.int .i32 0],11,48⟩:TI)
def TT:List (Nat×TI):= [(1,i1),
 (2,(⟨.int .i64,[.int .i64 0],1,8⟩:TI)),
 (3,(⟨.int .i64,[.int .i64 0],1,8⟩:TI)),
 (4,i4),
 (5,(⟨.int .u8,[.int .u8 0],1,1⟩:TI)),
 (6,(⟨.int .u8,[.int .u8 0],1,1⟩:TI)),
 (7,i7),
 (8,i8),
 (12,(⟨.int .u64,[.int .u64 0],1,8⟩:TI)),
 (15,i15),
 (16,i16),
 (17,i17),
 (18,i18),
 (19,i19),
 (21,(⟨.int .i32,[.int .i32 0],1,4⟩:TI)),
 (22,(⟨.int .i64,[.int .i64 0],1,8⟩:TI)),
 (23,i23),
 (24,i24),
 (25,i25),
 (26,i26),
 (27,i27),
 (28,i28),
 (29,i29),
 (30,i30),
 (31,i31),
 (32,(⟨.int .i64,[.int .i64 0],1,8⟩:TI)),
 (34,i34),
 (35,i35),
 (36,i36),
 (37,i37),
 (38,i38),
 (39,i39),
 (40,i40),
 (41,i41),
 (42,i42),
 (44,i44),
 (45,i45),
 (46,i46),
 (47,i47),
 (48,i48),
 (49,i49),
 (50,i50),
 (51,i51),
 (52,i52),
 (53,i53),
 (54,i54),
 (55,i55),
 (56,i56),
 (57,(⟨.int .u64,[.int .u64 0],1,8⟩:TI)),
 (58,i58),
 (59,i59),
 (60,i60),
 (61,i61),
 (62,i62),
 (63,i63),
 (64,i64),
 (65,i65),
 (66,i66),
 (67,i67),
 (68,i68),
 (69,i69),
 (70,i70),
 (71,i71),
 (72,i72),
 (73,i73),
 (74,i74),
 (75,i75),
 (77,i77),
 (78,i78),
 (79,i79),
 (80,i80),
 (81,i81),
 (82,i82),
 (83,i83),
 (84,i84),
 (85,i85),
 (86,i86),
 (87,i87),
 (88,i88),
 (89,i89),
 (90,i90),
 (91,i91),
 (92,i92),
 (93,i93),
 (94,i94),
 (95,i95),
 (96,i96),
 (97,i97),
 (98,i98),
 (99,i99),
 (100,KJ),
 (101,KK),
 (102,KM),
 (103,KO),
 (104,KP),
 (105,KQ),
 (106,KR),
 (107,KW),
 (108,KX),
 (109,KY),
 (110,KZ),
 (111,La),
 (112,(⟨.int .u64,[.int .u64 0],1,8⟩:TI)),
 (113,Lb),
 (114,Lc),
 (115,Ld),
 (116,Lf),
 (117,Lg),
 (118,Lh),
 (119,Li),
 (120,Lj),
 (121,Lk),
 (122,Ll),
 (124,Lm),
 (127,Ln),
 (128,Lo),
 (129,Lp),
 (130,(⟨.int .u8,[.int .u8 0],1,1⟩:TI)),
 (131,(⟨.int .u8,[.int .u8 0],1,1⟩:TI)),
 (132,Lr),
 (133,Ls),
 (134,(⟨.int .i32,[.int .i32 0],1,4⟩:TI)),
 (135,(⟨.int .i32,[.int .i32 0],1,4⟩:TI)),
 (136,Lt),
 (137,Lu)]
theorem tz1:aw Try.prog 1=some i1:=by kernel_rfl
theorem tz2:aw Try.prog 2=some (⟨.int .i64,[.int .i64 0],1,8⟩:TI):=by kernel_rfl
theorem tz3:aw Try.prog 3=some (⟨.int .i64,[.int .i64 0],1,8⟩:TI):=by kernel_rfl
theorem tz4:aw Try.prog 4=some i4:=by kernel_rfl
theorem tz5:aw Try.prog 5=some (⟨.int .u8,[.int .u8 0],1,1⟩:TI):=by kernel_rfl
theorem tz6:aw Try.prog 6=some (⟨.int .u8,[.int .u8 0],1,1⟩:TI):=by kernel_rfl
theorem tz7:aw Try.prog 7=some i7:=by kernel_rfl
theorem tz8:aw Try.prog 8=some i8:=by kernel_rfl
theorem Lv:aw Try.prog 12=some (⟨.int .u64,[.int .u64 0],1,8⟩:TI):=by kernel_rfl
theorem Lw:aw Try.prog 15=some i15:=by kernel_rfl
theorem Lx:aw Try.prog 16=some i16:=by kernel_rfl
theorem Ly:aw Try.prog 17=some i17:=by kernel_rfl
theorem Lz:aw Try.prog 18=some i18:=by kernel_rfl
theorem LB:aw Try.prog 19=some i19:=by kernel_rfl
theorem LC:aw Try.prog 21=some (⟨.int .i32,[.int .i32 0],1,4⟩:TI):=by kernel_rfl
theorem LE:aw Try.prog 22=some (⟨.int .i64,[.int .i64 0],1,8⟩:TI):=by kernel_rfl
theorem LG:aw Try.prog 23=some i23:=by kernel_rfl
theorem LH:aw Try.prog 24=some i24:=by kernel_rfl
theorem LI:aw Try.prog 25=some i25:=by kernel_rfl
theorem LJ:aw Try.prog 26=some i26:=by kernel_rfl
theorem LK:aw Try.prog 27=some i27:=by kernel_rfl
theorem LM:aw Try.prog 28=some i28:=by kernel_rfl
theorem LN:aw Try.prog 29=some i29:=by kernel_rfl
theorem LO:aw Try.prog 30=some i30:=by kernel_rfl
theorem LP:aw Try.prog 31=some i31:=by kernel_rfl
theorem LQ:aw Try.prog 32=some (⟨.int .i64,[.int .i64 0],1,8⟩:TI):=by kernel_rfl
theorem LR:aw Try.prog 34=some i34:=by kernel_rfl
theorem LS:aw Try.prog 35=some i35:=by kernel_rfl
theorem LT:aw Try.prog 36=some i36:=by kernel_rfl
theorem LU:aw Try.prog 37=some i37:=by kernel_rfl
theorem LV:aw Try.prog 38=some i38:=by kernel_rfl
theorem LY:aw Try.prog 39=some i39:=by kernel_rfl
theorem LZ:aw Try.prog 40=some i40:=by kernel_rfl
theorem Ma:aw Try.prog 41=some i41:=by kernel_rfl
theorem Mb:aw Try.prog 42=some i42:=by kernel_rfl
theorem Mc:aw Try.prog 44=some i44:=by kernel_rfl
theorem Md:aw Try.prog 45=some i45:=by kernel_rfl
theorem Me:aw Try.prog 46=some i46:=by kernel_rfl
theorem Mf:aw Try.prog 47=some i47:=by kernel_rfl
theorem Mg:aw Try.prog 48=some i48:=by kernel_rfl
theorem Mh:aw Try.prog 49=some i49:=by kernel_rfl
theorem Mi:aw Try.prog 50=some i50:=by kernel_rfl
theorem Mj:aw Try.prog 51=some i51:=by kernel_rfl
theorem Mk:aw Try.prog 52=some i52:=by kernel_rfl
theorem Ml:aw Try.prog 53=some i53:=by kernel_rfl
theorem Mm:aw Try.prog 54=some i54:=by kernel_rfl
theorem Mn:aw Try.prog 55=some i55:=by kernel_rfl
theorem Mo:aw Try.prog 56=some i56:=by kernel_rfl
theorem Mp:aw Try.prog 57=some (⟨.int .u64,[.int .u64 0],1,8⟩:TI):=by kernel_rfl
theorem Mq:aw Try.prog 58=some i58:=by kernel_rfl
theorem Mr:aw Try.prog 59=some i59:=by kernel_rfl
theorem Ms:aw Try.prog 60=some i60:=by kernel_rfl
theorem Mt:aw Try.prog 61=some i61:=by kernel_rfl
theorem Mu:aw Try.prog 62=some i62:=by kernel_rfl
theorem Mv:aw Try.prog 63=some i63:=by kernel_rfl
theorem Mw:aw Try.prog 64=some i64:=by kernel_rfl
theorem My:aw Try.prog 65=some i65:=by kernel_rfl
theorem Mz:aw Try.prog 66=some i66:=by kernel_rfl
theorem MA:aw Try.prog 67=some i67:=by kernel_rfl
theorem MB:aw Try.prog 68=some i68:=by kernel_rfl
theorem MC:aw Try.prog 69=some i69:=by kernel_rfl
theorem MD:aw Try.prog 70=some i70:=by kernel_rfl
theorem ME:aw Try.prog 71=some i71:=by kernel_rfl
theorem MF:aw Try.prog 72=some i72:=by kernel_rfl
theorem MG:aw Try.prog 73=some i73:=by kernel_rfl
theorem MH:aw Try.prog 74=some i74:=by kernel_rfl
theorem MI:aw Try.prog 75=some i75:=by kernel_rfl
theorem MJ:aw Try.prog 77=some i77:=by kernel_rfl
theorem MK:aw Try.prog 78=some i78:=by kernel_rfl
theorem ML:aw Try.prog 79=some i79:=by kernel_rfl
theorem MM:aw Try.prog 80=some i80:=by kernel_rfl
theorem MN:aw Try.prog 81=some i81:=by kernel_rfl
theorem MO:aw Try.prog 82=some i82:=by kernel_rfl
theorem MP:aw Try.prog 83=some i83:=by kernel_rfl
theorem MQ:aw Try.prog 84=some i84:=by kernel_rfl
theorem MR:aw Try.prog 85=some i85:=by kernel_rfl
theorem MS:aw Try.prog 86=some i86:=by kernel_rfl
theorem MT:aw Try.prog 87=some i87:=by kernel_rfl
theorem MU:aw Try.prog 88=some i88:=by kernel_rfl
theorem MV:aw Try.prog 89=some i89:=by kernel_rfl
theorem MW:aw Try.prog 90=some i90:=by kernel_rfl
theorem MX:aw Try.prog 91=some i91:=by kernel_rfl
theorem MY:aw Try.prog 92=some i92:=by kernel_rfl
theorem MZ:aw Try.prog 93=some i93:=by kernel_rfl
theorem Na:aw Try.prog 94=some i94:=by kernel_rfl
theorem Nb:aw Try.prog 95=some i95:=by kernel_rfl
theorem Nc:aw Try.prog 96=some i96:=by kernel_rfl
theorem Nd:aw Try.prog 97=some i97:=by kernel_rfl
theorem Nf:aw Try.prog 98=some i98:=by kernel_rfl
theorem Ng:aw Try.prog 99=some i99:=by kernel_rfl
theorem Hg:aw Try.prog 100=some KJ:=by kernel_rfl
theorem Hh:aw Try.prog 101=some KK:=by kernel_rfl
theorem Hi:aw Try.prog 102=some KM:=by kernel_rfl
theorem Hj:aw Try.prog 103=some KO:=by kernel_rfl
theorem Hk:aw Try.prog 104=some KP:=by kernel_rfl
theorem Hl:aw Try.prog 105=some KQ:=by kernel_rfl
theorem Hm:aw Try.prog 106=some KR:=by kernel_rfl
theorem Hn:aw Try.prog 107=some KW:=by kernel_rfl
theorem Ho:aw Try.prog 108=some KX:=by kernel_rfl
theorem Hp:aw Try.prog 109=some KY:=by kernel_rfl
theorem Hq:aw Try.prog 110=some KZ:=by kernel_rfl
theorem Hr:aw Try.prog 111=some La:=by kernel_rfl
theorem Hs:aw Try.prog 112=some (⟨.int .u64,[.int .u64 0],1,8⟩:TI):=by kernel_rfl
theorem Ht:aw Try.prog 113=some Lb:=by kernel_rfl
theorem Hu:aw Try.prog 114=some Lc:=by kernel_rfl
theorem Hv:aw Try.prog 115=some Ld:=by kernel_rfl
theorem Hw:aw Try.prog 116=some Lf:=by kernel_rfl
theorem Hx:aw Try.prog 117=some Lg:=by kernel_rfl
theorem Hy:aw Try.prog 118=some Lh:=by kernel_rfl
theorem Hz:aw Try.prog 119=some Li:=by kernel_rfl
theorem HD:aw Try.prog 120=some Lj:=by kernel_rfl
theorem HF:aw Try.prog 121=some Lk:=by kernel_rfl
theorem HH:aw Try.prog 122=some Ll:=by kernel_rfl
theorem HI:aw Try.prog 124=some Lm:=by kernel_rfl
theorem HJ:aw Try.prog 127=some Ln:=by kernel_rfl
theorem HL:aw Try.prog 128=some Lo:=by kernel_rfl
theorem HN:aw Try.prog 129=some Lp:=by kernel_rfl
theorem HP:aw Try.prog 130=some (⟨.int .u8,[.int .u8 0],1,1⟩:TI):=by kernel_rfl
theorem HS:aw Try.prog 131=some (⟨.int .u8,[.int .u8 0],1,1⟩:TI):=by kernel_rfl
theorem HT:aw Try.prog 132=some Lr:=by kernel_rfl
theorem HU:aw Try.prog 133=some Ls:=by kernel_rfl
theorem HV:aw Try.prog 134=some (⟨.int .i32,[.int .i32 0],1,4⟩:TI):=by kernel_rfl
theorem HW:aw Try.prog 135=some (⟨.int .i32,[.int .i32 0],1,4⟩:TI):=by kernel_rfl
theorem HX:aw Try.prog 136=some Lt:=by kernel_rfl
theorem HY:aw Try.prog 137=some Lu:=by kernel_rfl
theorem ET:Try.prog.follows .mixedOrders=true:=by kernel_rfl
theorem EU:zM Try.prog=true:=by kernel_rfl
def bQ:List TD->Option (Kind×List TD):=λ_=>none
theorem As(x y:Operand)(a0 b0 a1 b1:Int):al Try.prog (do eqGuard .eql 42 x y (.agg #[.int .i64 a0,.int .i64 a1]) (.agg #[.int .i64 b0,.int .i64 b1]);binOp .eql 42 (.agg #[.int .i64 a0,.int .i64 a1]) (.agg #[.int .i64 b0,.int .i64 b1]))=some (.bool ((a0==b0 &&(a1==b1 && true)))):=by
 refine ni (by kernel_rfl) ((cL 9999 42 #[.int .i64 a0,.int .i64 a1] #[.int .i64 b0,.int .i64 b1] (fs:=br Try.prog 41) (by kernel_rfl) (by kernel_rfl)).trans ?_);rw [show(br Try.prog 41).toList= [fld Try.prog 41 0,fld Try.prog 41 1]by kernel_rfl];exact((aY (k:= .i64) (k':= .i64) (by kernel_rfl) (by kernel_rfl) (by kernel_rfl) (by kernel_rfl)).trans (cB ((aY (k:= .i64) (k':= .i64) (by kernel_rfl) (by kernel_rfl) (by kernel_rfl) (by kernel_rfl)).trans (cB co))))
theorem At(x y:Operand)(a0 b0 a1 b1:Int):al Try.prog (do eqGuard .neq 42 x y (.agg #[.int .i64 a0,.int .i64 a1]) (.agg #[.int .i64 b0,.int .i64 b1]);binOp .neq 42 (.agg #[.int .i64 a0,.int .i64 a1]) (.agg #[.int .i64 b0,.int .i64 b1]))=some (.bool (!(a0==b0 &&(a1==b1 && true)))):=by
 refine nj (by kernel_rfl) ((cL 9999 42 #[.int .i64 a0,.int .i64 a1] #[.int .i64 b0,.int .i64 b1] (fs:=br Try.prog 41) (by kernel_rfl) (by kernel_rfl)).trans ?_);rw [show(br Try.prog 41).toList= [fld Try.prog 41 0,fld Try.prog 41 1]by kernel_rfl];exact((aY (k:= .i64) (k':= .i64) (by kernel_rfl) (by kernel_rfl) (by kernel_rfl) (by kernel_rfl)).trans (cB ((aY (k:= .i64) (k':= .i64) (by kernel_rfl) (by kernel_rfl) (by kernel_rfl) (by kernel_rfl)).trans (cB co))))
theorem Au(x y:Operand)(a0 b0 a1 b1:Int):al Try.prog (do eqGuard .eql 56 x y (.agg #[.int .i64 a0,.int .i64 a1]) (.agg #[.int .i64 b0,.int .i64 b1]);binOp .eql 56 (.agg #[.int .i64 a0,.int .i64 a1]) (.agg #[.int .i64 b0,.int .i64 b1]))=some (.bool ((a0==b0 &&(a1==b1 && true)))):=by
 refine ni (by kernel_rfl) ((cL 9999 56 #[.int .i64 a0,.int .i64 a1] #[.int .i64 b0,.int .i64 b1] (fs:=br Try.prog 55) (by kernel_rfl) (by kernel_rfl)).trans ?_);rw [show(br Try.prog 55).toList= [fld Try.prog 55 0,fld Try.prog 55 1]by kernel_rfl];exact((aY (k:= .i64) (k':= .i64) (by kernel_rfl) (by kernel_rfl) (by kernel_rfl) (by kernel_rfl)).trans (cB ((aY (k:= .i64) (k':= .i64) (by kernel_rfl) (by kernel_rfl) (by kernel_rfl) (by kernel_rfl)).trans (cB co))))
theorem Av(x y:Operand)(a0 b0 a1 b1:Int):al Try.prog (do eqGuard .neq 56 x y (.agg #[.int .i64 a0,.int .i64 a1]) (.agg #[.int .i64 b0,.int .i64 b1]);binOp .neq 56 (.agg #[.int .i64 a0,.int .i64 a1]) (.agg #[.int .i64 b0,.int .i64 b1]))=some (.bool (!(a0==b0 &&(a1==b1 && true)))):=by
 refine nj (by kernel_rfl) ((cL 9999 56 #[.int .i64 a0,.int .i64 a1] #[.int .i64 b0,.int .i64 b1] (fs:=br Try.prog 55) (by kernel_rfl) (by kernel_rfl)).trans ?_);rw [show(br Try.prog 55).toList= [fld Try.prog 55 0,fld Try.prog 55 1]by kernel_rfl];exact((aY (k:= .i64) (k':= .i64) (by kernel_rfl) (by kernel_rfl) (by kernel_rfl) (by kernel_rfl)).trans (cB ((aY (k:= .i64) (k':= .i64) (by kernel_rfl) (by kernel_rfl) (by kernel_rfl) (by kernel_rfl)).trans (cB co))))
theorem Aw(x y:Operand)(a0 b0 a1 b1 a2 b2:Int):al Try.prog (do eqGuard .eql 61 x y (.agg #[.int .i64 a0,.int .i64 a1,.int .u64 a2]) (.agg #[.int .i64 b0,.int .i64 b1,.int .u64 b2]);binOp .eql 61 (.agg #[.int .i64 a0,.int .i64 a1,.int .u64 a2]) (.agg #[.int .i64 b0,.int .i64 b1,.int .u64 b2]))=some (.bool ((a0==b0 &&(a1==b1 &&(a2==b2 && true))))):=by
 rw [show(a0==b0 &&(a1==b1 &&(a2==b2 && true)))=(a0==b0 &&((a1==b1 &&(a2==b2 && true))&& true))by cases (a0==b0)<;>cases (a1==b1)<;>cases (a2==b2)<;>rfl];refine ni (by kernel_rfl) ((cL 9999 61 #[.int .i64 a0,.int .i64 a1,.int .u64 a2] #[.int .i64 b0,.int .i64 b1,.int .u64 b2] (fs:=br Try.prog 60) (by kernel_rfl) (by kernel_rfl)).trans ?_);rw [show(br Try.prog 60).toList= [fld Try.prog 60 0,fld Try.prog 60 1]by kernel_rfl];exact((aY (k:= .i64) (k':= .i64) (by kernel_rfl) (by kernel_rfl) (by kernel_rfl) (by kernel_rfl)).trans (cB ((rk (us:=#[.int .i64 a1,.int .u64 a2]) (vs:=#[.int .i64 b1,.int .u64 b2]) (c:=(a1==b1 &&(a2==b2 && true))) (by kernel_rfl) (by kernel_rfl) (by kernel_rfl) ((cL 9998 59 #[.int .i64 a1,.int .u64 a2] #[.int .i64 b1,.int .u64 b2] (fs:=br Try.prog 58) (by kernel_rfl) (by kernel_rfl)).trans (by rw [show(br Try.prog 58).toList= [fld Try.prog 58 0,fld Try.prog 58 1]by kernel_rfl];exact((aY (k:= .i64) (k':= .i64) (by kernel_rfl) (by kernel_rfl) (by kernel_rfl) (by kernel_rfl)).trans (cB ((aY (k:= .u64) (k':= .u64) (by kernel_rfl) (by kernel_rfl) (by kernel_rfl) (by kernel_rfl)).trans (cB co))))))).trans (cB co))))
theorem Ay(x y:Operand)(a0 b0 a1 b1 a2 b2:Int):al Try.prog (do eqGuard .neq 61 x y (.agg #[.int .i64 a0,.int .i64 a1,.int .u64 a2]) (.agg #[.int .i64 b0,.int .i64 b1,.int .u64 b2]);binOp .neq 61 (.agg #[.int .i64 a0,.int .i64 a1,.int .u64 a2]) (.agg #[.int .i64 b0,.int .i64 b1,.int .u64 b2]))=some (.bool (!(a0==b0 &&(a1==b1 &&(a2==b2 && true))))):=by
 rw [show(a0==b0 &&(a1==b1 &&(a2==b2 && true)))=(a0==b0 &&((a1==b1 &&(a2==b2 && true))&& true))by cases (a0==b0)<;>cases (a1==b1)<;>cases (a2==b2)<;>rfl];refine nj (by kernel_rfl) ((cL 9999 61 #[.int .i64 a0,.int .i64 a1,.int .u64 a2] #[.int .i64 b0,.int .i64 b1,.int .u64 b2] (fs:=br Try.prog 60) (by kernel_rfl) (by kernel_rfl)).trans ?_);rw [show(br Try.prog 60).toList= [fld Try.prog 60 0,fld Try.prog 60 1]by kernel_rfl];exact((aY (k:= .i64) (k':= .i64) (by kernel_rfl) (by kernel_rfl) (by kernel_rfl) (by kernel_rfl)).trans (cB ((rk (us:=#[.int .i64 a1,.int .u64 a2]) (vs:=#[.int .i64 b1,.int .u64 b2]) (c:=(a1==b1 &&(a2==b2 && true))) (by kernel_rfl) (by kernel_rfl) (by kernel_rfl) ((cL 9998 59 #[.int .i64 a1,.int .u64 a2] #[.int .i64 b1,.int .u64 b2] (fs:=br Try.prog 58) (by kernel_rfl) (by kernel_rfl)).trans (by rw [show(br Try.prog 58).toList= [fld Try.prog 58 0,fld Try.prog 58 1]by kernel_rfl];exact((aY (k:= .i64) (k':= .i64) (by kernel_rfl) (by kernel_rfl) (by kernel_rfl) (by kernel_rfl)).trans (cB ((aY (k:= .u64) (k':= .u64) (by kernel_rfl) (by kernel_rfl) (by kernel_rfl) (by kernel_rfl)).trans (cB co))))))).trans (cB co))))
theorem Az(x y:Operand)(a0 b0 a1 b1 a2 b2:Int):al Try.prog (do eqGuard .eql 63 x y (.agg #[.int .i64 a0,.int .i64 a1,.int .i64 a2]) (.agg #[.int .i64 b0,.int .i64 b1,.int .i64 b2]);binOp .eql 63 (.agg #[.int .i64 a0,.int .i64 a1,.int .i64 a2]) (.agg #[.int .i64 b0,.int .i64 b1,.int .i64 b2]))=some (.bool ((a0==b0 &&(a1==b1 &&(a2==b2 && true))))):=by
 refine ni (by kernel_rfl) ((cL 9999 63 #[.int .i64 a0,.int .i64 a1,.int .i64 a2] #[.int .i64 b0,.int .i64 b1,.int .i64 b2] (fs:=br Try.prog 62) (by kernel_rfl) (by kernel_rfl)).trans ?_);rw [show(br Try.prog 62).toList= [fld Try.prog 62 0,fld Try.prog 62 1,fld Try.prog 62 2]by kernel_rfl];exact((aY (k:= .i64) (k':= .i64) (by kernel_rfl) (by kernel_rfl) (by kernel_rfl) (by kernel_rfl)).trans (cB ((aY (k:= .i64) (k':= .i64) (by kernel_rfl) (by kernel_rfl) (by kernel_rfl) (by kernel_rfl)).trans (cB ((aY (k:= .i64) (k':= .i64) (by kernel_rfl) (by kernel_rfl) (by kernel_rfl) (by kernel_rfl)).trans (cB co))))))
theorem AA(x y:Operand)(a0 b0 a1 b1 a2 b2:Int):al Try.prog (do eqGuard .neq 63 x y (.agg #[.int .i64 a0,.int .i64 a1,.int .i64 a2]) (.agg #[.int .i64 b0,.int .i64 b1,.int .i64 b2]);binOp .neq 63 (.agg #[.int .i64 a0,.int .i64 a1,.int .i64 a2]) (.agg #[.int .i64 b0,.int .i64 b1,.int .i64 b2]))=some (.bool (!(a0==b0 &&(a1==b1 &&(a2==b2 && true))))):=by
 refine nj (by kernel_rfl) ((cL 9999 63 #[.int .i64 a0,.int .i64 a1,.int .i64 a2] #[.int .i64 b0,.int .i64 b1,.int .i64 b2] (fs:=br Try.prog 62) (by kernel_rfl) (by kernel_rfl)).trans ?_);rw [show(br Try.prog 62).toList= [fld Try.prog 62 0,fld Try.prog 62 1,fld Try.prog 62 2]by kernel_rfl];exact((aY (k:= .i64) (k':= .i64) (by kernel_rfl) (by kernel_rfl) (by kernel_rfl) (by kernel_rfl)).trans (cB ((aY (k:= .i64) (k':= .i64) (by kernel_rfl) (by kernel_rfl) (by kernel_rfl) (by kernel_rfl)).trans (cB ((aY (k:= .i64) (k':= .i64) (by kernel_rfl) (by kernel_rfl) (by kernel_rfl) (by kernel_rfl)).trans (cB co))))))
def EQS:List (Nat×List IntKind):= [(42,[.i64,.i64]),(56,[.i64,.i64]),(61,[.i64,.i64,.u64]),(63,[.i64,.i64,.i64])]
def fi5:FI:=fiF Try.f5
def fi7:FI:=fiF Try.f7
def Nh:FI:=fiF Try.f10
def Jf:FI:=fiF Try.f11
def Ni:FI:=fiF Try.f13
def Nj:FI:=fiF Try.f14
def Nk:FI:=fiF Try.f15
def Nl:FI:=fiF Try.f18
def Nm:FI:=fiF Try.f19
def Jg:FI:=fiF Try.f27
def Jh:FI:=fiF Try.f28
def Ji:FI:=fiF Try.f29
def Jj:FI:=fiF Try.f30
def Jk:FI:=fiF Try.f31
def Jl:FI:=fiF Try.f32
def Jm:FI:=fiF Try.f33
def Jn:FI:=fiF Try.f34
def Nn:FI:=fiF Try.f36
def No:FI:=fiF Try.f37
def Np:FI:=fiF Try.f38
def Nq:FI:=fiF Try.f52
def Nr:FI:=fiF Try.f53
def Ns:FI:=fiF Try.f54
def Jo:FI:=fiF Try.f60
def Jp:FI:=fiF Try.f61
def Jq:FI:=fiF Try.f62
def Nt:FI:=fiF Try.f76
abbrev yD4:TyD:=(false,.S (.C (.I .i64) (.I .i64)))
abbrev yD3:TyD:=(true,.C (.I .i64) (.S (.C (.I .i64) (.I .i64))))
abbrev yD2:TyD:=(false,.S (.C (.I .i64) (.C (.I .i64) (.I .i64))))
abbrev yD1:TyD:=(false,.S (.C (.I .i64) (.C (.I .i64) (.I .u64))))
abbrev yD0:TyD:=(true,.C (.I .i64) (.C (.I .i64) (.C (.I .i64) (.C (.I .i64) (.C (.I .i64) (.C (.C (.I .i64) (.S (.C (.I .i64) (.I .i64)))) (.C (.S (.C (.I .i64) (.C (.I .i64) (.I .u64)))) (.C (.S (.C (.I .i64) (.C (.I .i64) (.I .i64)))) (.C (.I .i64) .B)))))))))
end K
end Ev
end
noncomputable section
namespace Ev
namespace K
open Go Go.RowKit
set_option maxRecDepth 100000
set_option maxHeartbeats 1000000
def wa:eU:= []
def ja:KG:=⟨TT,EQS,[],[]⟩
def eY:bE [(false,.I .i64)]->Option (OutK.val (.data true [(false,.B)])):=fP ja wa Jo 60 0 [(false,.I .i64)] (.data true [(false,.B)])
def jb:bW:=⟨60,[(false,.I .i64)],.data true [(false,.B)],eY,1⟩
def sb:eU:= []
def gx:KG:=⟨TT,EQS,[],[]⟩
def ck:bE [(false,.I .i64)]->Option (OutK.val (.data true [(false,.B)])):=fP gx sb Jg 27 0 [(false,.I .i64)] (.data true [(false,.B)])
def gy:bW:=⟨27,[(false,.I .i64)],.data true [(false,.B)],ck,1⟩
def sN:eU:= [(28,⟨[⟨false,5,0,[1,11,12],⟨[(3,false,[.d true (.I .i64)]),(13,false,[.d true (.I .i64)])],[],[]⟩,[(.exit 0,⟨[],[],[]⟩),(.ret,⟨[(2,false,[.d true .B])],[],[]⟩)]⟩],[]⟩)]
def gW:KG:=⟨TT,EQS,[jb],[]⟩
def eu:bE [yD3]->Option (OutK.val (.data true [(false,.B)])):=fP gW sN Jh 28 0 [yD3] (.data true [(false,.B)])
def gX:bW:=⟨28,[yD3],.data true [(false,.B)],eu,2⟩
def sO:eU:= []
def gY:KG:=⟨TT,EQS,[],[]⟩
def cn:bE [(false,.I .i64)]->Option (OutK.val (.data true [(false,.B)])):=fP gY sO Jk 31 0 [(false,.I .i64)] (.data true [(false,.B)])
def gZ:bW:=⟨31,[(false,.I .i64)],.data true [(false,.B)],cn,1⟩
def sP:eU:= [(32,⟨[⟨false,2,0,[0],⟨[(3,false,[.d true (.I .i64)])],[],[]⟩,[(.exit 0,⟨[],[],[]⟩),(.ret,⟨[(2,false,[.d true .B])],[],[]⟩)]⟩],[]⟩)]
def hZ:KG:=⟨TT,EQS,[],[]⟩
def dw:bE [yD1]->Option (OutK.val (.data true [(false,.B)])):=fP hZ sP Jl 32 0 [yD1] (.data true [(false,.B)])
def ia:bW:=⟨32,[yD1],.data true [(false,.B)],dw,1⟩
def sQ:eU:= [(11,⟨[⟨true,3,21,[1],⟨[],[],[]⟩,[(.normal,⟨[(12,false,[.d true .B])],[],[]⟩)]⟩],[]⟩),(61,⟨[⟨false,2,0,[0,1,7],⟨[(8,false,[.d true (.I .i64)])],[],[]⟩,[(.exit 0,⟨[],[],[]⟩),(.ret,⟨[(4,false,[.d true (.I .i64)])],[],[]⟩)]⟩],[]⟩),(62,⟨[⟨false,2,0,[0,1,7],⟨[(8,false,[.d true (.I .i64)])],[],[]⟩,[(.exit 0,⟨[],[],[]⟩),(.ret,⟨[(4,false,[.d true (.I .i64)])],[],[]⟩)]⟩],[]⟩)]
def ib:KG:=⟨TT,EQS,[gy,gX,gZ,ia],[(29,Ji),(30,Jj),(33,Jm),(34,Jn),(61,Jp),(62,Jq)]⟩
def bn:bE [yD0]->Option (OutK.val (.data true [(false,.I .i64)])):=fP ib sQ Jf 11 6 [yD0] (.data true [(false,.I .i64)])
def ic:bW:=⟨11,[yD0],.data true [(false,.I .i64)],bn,9⟩
end K
end Ev
end
noncomputable section
namespace Ev
namespace K
open Go Go.RowKit
def sd{α:Type}(f:List T->Option α):List (List T)->Option (List α)
 | []=>some []
 |a::r=>(f a).bind λx=>(sd f r).map (x::·)
theorem uz{α:Type}{f:List T->Option α}{g:α->List T}(h:∀x,f (g x)=some x):∀l:List α,sd f (l.map g)=some l
 | []=>rfl
 |x::l=>by simp only [List.map_cons,sd,h,zbS,uz h l,Option.map_some]
theorem se{α:Type}{f:List T->Option α}{g:α->List T}(h:∀a x,f a=some x->a=g x):∀{l:List (List T)} {r:List α},sd f l=some r->l=r.map g
 | [],r,hr=>by simp [sd]at hr;subst hr;rfl
 |a::l,r,hr=>by
  simp only [sd,zbE,Option.map_eq_some_iff]at hr;obtain⟨x,hx,r',hr',rfl⟩:=hr;rw [List.map_cons,<-h a x hx,<-se h hr']
def jc:(e:Ty)->List T->Option e.val
 | .I k,l=>match l with
  | [.v (.int k' n)]=>if k'=k then some n else none
  |_=>none
 | .B,l=>match l with
  | [.v (.bool b)]=>some b
  |_=>none
 | .S e,l=>match l with
  | [.s nn sz rows]=>(sd (jc e) rows).map λr=>⟨nn,sz,r⟩
  |_=>none
 | .U,l=>match l with
  | []=>some ()
  |_=>none
 | .C a b,l=>(jc a (l.take a.size)).bind λx=>(jc b (l.drop a.size)).bind λy=>some (x,y)
theorem nH:∀(e:Ty) (x:e.val),jc e (e.row x)=some x
 | .I k,x=>by simp [jc,Ty.row,iT]
 | .B,x=>by simp [jc,Ty.row,bT]
 | .S e,x=>by
  simp only [jc,Ty.row,Sl.t];rw [uz (nH e)];rfl
 | .U,x=>rfl
 | .C a b,x=>by
  show((jc a ((a.row x.1++b.row x.2).take a.size)).bind λx1=>(jc b ((a.row x.1++b.row x.2).drop a.size)).bind λy=>some (x1,y))=some x;have e1:(a.row x.1++b.row x.2).take a.size=a.row x.1:=by rw [List.take_append_of_le_length (by rw [iU];exact Nat.le_refl _),List.take_of_length_le (by rw [iU];exact Nat.le_refl _)]
  have e2:(a.row x.1++b.row x.2).drop a.size=b.row x.2:=by rw [<-iU a x.1,List.drop_left]
  rw [e1,nH a,zbS,e2,nH b];rfl
theorem fU:∀(e:Ty) (l:List T) (x:e.val),jc e l=some x->l=e.row x
 | .I k,l,x,h=>by
  simp only [jc]at h;split at h
  .split at h
   .rename_i hk;cases h;subst hk;rfl
   .simp at h
  .simp at h
 | .B,l,x,h=>by
  simp only [jc]at h;split at h
  .cases h;rfl
  .simp at h
 | .S e,l,x,h=>by
  simp only [jc]at h;split at h
  .rw [Option.map_eq_some_iff]at h;obtain⟨r,hr,rfl⟩:=h;rw [se (fU e) hr];rfl
  .simp at h
 | .U,l,x,h=>by
  simp only [jc]at h;split at h
  .rfl
  .simp at h
 | .C a b,l,x,h=>by
  simp only [jc,zbE]at h;obtain⟨x1,h1,x2,h2,h3⟩:=h;cases h3;show l=a.row x1++b.row x2;rw [<-fU a _ _ h1,<-fU b _ _ h2,List.take_append_drop]
def sf(t:TyD)(d:TD):Option t.2.val:=
 match t,d with
 |(true,e),.agg l=>jc e l
 |(false,e),.one y=>jc e [y]
 |(false,e),.agg l=>if l.length=1 then none else jc e l
 |_,_=>none
def HZ:List T->TD
 | [y]=> .one y
 |ys=> .agg ys
theorem sg(e:Ty)(x:e.val):iy (false,e) x=HZ (e.row x):=by
 unfold iy HZ;rfl
theorem xS(t:TyD)(x:t.2.val):sf t (iy t x)=some x:=by
 obtain⟨b,e⟩:=t;have h:=nH e x
 cases b with
 |true=>exact h
 |false=>
  change e.val at x;rw [show iy (false,e) x=_ from sg e x];generalize e.row x=l at h
  match l,h with
  | [],h=>exact h
  | [y],h=>exact h
  |a::b::r,h=>
   show(if(a::b::r).length=1 then none else jc e (a::b::r))=some x;rw [if_neg (by simp)];exact h
theorem sj(t:TyD)(d:TD)(x:t.2.val)(h:sf t d=some x):d=iy t x:=by
 obtain⟨b,e⟩:=t
 cases b with
 |true=>
  cases d with
  |one y=>simp [sf]at h
  |agg l=>exact congrArg TD.agg (fU e l x h)
 |false=>
  change e.val at x
  cases d with
  |one y=>rw [show iy (false,e) x=_ from sg e x,<-fU e [y] x h];rfl
  |agg l=>
   simp only [sf]at h;split at h
   .simp at h
   .rename_i hl
    have:=fU e l x h
    rw [show iy (false,e) x=_ from sg e x,<-this]
    match l,hl with
    | [],_=>rfl
    | [y],hl=>simp at hl
    |a::b::r,_=>rfl
def me:(ts:List TyD)->List TD->Option (bE ts)
 | [],l=>match l with
  | []=>some ()
  |_=>none
 | [t],l=>match l with
  | [d]=>sf t d
  |_=>none
 |t::t'::r,l=>match l with
  |d::ds=>(sf t d).bind λx=>(me (t'::r) ds).bind λy=>some (x,y)
  | []=>none
theorem uA:∀(ts:List TyD) (x:bE ts),me ts (cU ts x)=some x
 | [],_=>rfl
 | [t],x=>xS t x
 |t::t'::r,x=>by
  show(sf t (iy t x.1)).bind _=_;rw [xS t x.1,zbS,uA (t'::r) x.2];rfl
theorem pn:∀(ts:List TyD) (l:List TD) (x:bE ts),me ts l=some x->l=cU ts x
 | [],l,x,h=>by
  simp only [me]at h;split at h
  .rfl
  .simp at h
 | [t],l,x,h=>by
  simp only [me]at h;split at h
  .exact congrArg (·:: []) (sj t _ x h)
  .simp at h
 |t::t'::r,l,x,h=>by
  simp only [me]at h;split at h
  .simp only [zbE]at h;obtain⟨y,h1,z,h2,h3⟩:=h;cases h3;show _=iy t y::cU (t'::r) z;rw [<-sj t _ y h1,<-pn (t'::r) _ z h2]
  .simp at h
def sk(ins:List TyD)(kind:Kind)(ts:List TyD)(g:bE ins->Option (bE ts))(vs:List TD):Option (Kind×List TD):=(me ins vs).bind λa=>(g a).bind λx=>some (kind,cU ts x)
theorem AB{P:Program}{k:FuncId}{ins:List TyD}{kind:Kind}{ts:List TyD}{g:bE ins->Option (bE ts)}(he:Enters P k)(h:∀a x,g a=some x->fY P k (cU ins a) kind (cU ts x)):∀vs kind' rs,sk ins kind ts g vs=some (kind',rs)->fY P k vs kind' rs/\Enters P k:=by
 intro vs kind' rs hf;simp only [sk,zbE]at hf;obtain⟨a,h1,x,h2,h3⟩:=hf;cases h3;rw [pn ins vs a h1];exact⟨h a x h2,he⟩
theorem Cf{E:Env}{k:FuncId}{ins:List TyD}{kind:Kind}{ts:List TyD}{g:bE ins->Option (bE ts)}(hx:E.ax k=some (sk ins kind ts g))(n:Nat)(a:bE ins)(x:bE ts)(h:g a=some x):RunsP E (n+1) k (cU ins a) (kind,cU ts x):=
 Dx hx (by simp only [sk,uA,zbS,h])
theorem sm{E:Env}{k:FuncId}{ins:List TyD}{ts:List TyD}{g:bE ins->Option (bE ts)}(hx:E.ax k=some (sk ins .fresh ts g)):aM E ⟨k,ins,.data true ts,g,1⟩:=λm a x h=>Cf hx m a x h
end K
end Ev
end
noncomputable section
open Go.RowKit Go.Sort
def Has(w:World)(b:Nat):Prop:=b<w.heap.size
def Nu(w:World)(os:Array Obj)(b:Nat):Prop:=w.heap.size<=b/\b<w.heap.size+os.size
theorem Has.of{w:World}{b:Nat}(h:b<w.heap.size):Has w b:=h
@[go_sem] theorem Ju (w:World) (o:Obj) (b:Nat):Has (w.alloc o) b=(b=w.heap.size∨Has w b):=by
 unfold Has;simp;omega
@[go_sem] theorem Nv (w:World) (d:Nat) (os:Array Obj) (b:Nat):Has (grow (redrawn w d) os) b=(Has w b∨Nu w os b):=by
 unfold Has Nu;simp [grow,redrawn];omega
@[go_sem] theorem Ia (w:World) (a:Addr) (v:Value) (b:Nat):Has (w.setCell a v) b=Has w b:=by
 unfold Has;simp [World.setCell]
@[go_sem] theorem Nw (w:World) (b:Nat):Has w.drew b=Has w b:=rfl
@[go_sem] theorem Ny {w:World} {d:Nat} {os:Array Obj} {a:Addr} (h:Has w a.block):(grow (redrawn w d) os).cell? a=w.cell? a:=
 (below_regrown w d os).cell h
@[go_sem] theorem Jv {w:World} {d:Nat} {os:Array Obj} {a:Addr} (h:Has w a.block):(grow (redrawn w d) os).frozen? a=w.frozen? a:=
 (below_regrown w d os).frozen h
@[go_sem] theorem Nz {w:World} {o:Obj} {a:Addr} (h:Has w a.block):(w.alloc o).cell? a=w.cell? a:=
 ((Below.refl w.heap.size w).alloc (Nat.le_refl _) o).cell h
@[go_sem] theorem Jw {w:World} {o:Obj} {a:Addr} (h:Has w a.block):(w.alloc o).frozen? a=w.frozen? a:=
 ((Below.refl w.heap.size w).alloc (Nat.le_refl _) o).frozen h
@[go_sem] theorem Jr {w:World} {o:Obj} {a:Addr} {v:Value} (h:Has w a.block):(w.alloc o).setCell a v=(w.setCell a v).alloc o:=by
 unfold Has at h;simp only [World.setCell,World.alloc];congr 1;apply Array.ext_getElem?;intro k;simp only [Array.getElem?_modify,Array.getElem?_push,Array.size_modify];by_cases hk:k=w.heap.size
 .subst hk;simp;omega
 .simp [hk]
@[go_sem] theorem Om {α:Type} (p:Prop) [Decidable p] (x y:α) (w:World):(if p then Result.ok x w else Result.ok y w)=Result.ok (if p then x else y) w:=by
 split<;>rfl
@[go_sem] theorem Jx (p:Prop) [Decidable p] (x y:Value):(if p then Next.value x else Next.value y)=Next.value (if p then x else y):=by
 split<;>rfl
theorem bl1(w:World)(a:Obj):Below w.heap.size w (w.alloc a):=(Below.refl _ _).alloc (Nat.le_refl _) _
theorem bl2(w:World)(a b:Obj):Below w.heap.size w ((w.alloc a).alloc b):=(bl1 w a).alloc (by simp) _
theorem blg{w w1:World}(h:Below w.heap.size w w1)(d:Nat)(os:Array Obj):Below w.heap.size w (grow (redrawn w1 d) os):=
 h.trans ((below_regrown w1 d os).mono h.size)
@[go_sem] theorem OG (w:World) (d d2:Nat) (os os2:Array Obj):grow (redrawn (grow (redrawn w d) os) d2) os2=grow (redrawn w d2) (os++os2):=by
 simp [grow,redrawn,Array.append_assoc]
@[go_sem] theorem NA (w:World) (d:Nat) (os:Array Obj):(grow (redrawn w d) os).heap.size=w.heap.size+os.size:=by simp [grow,redrawn]
@[go_sem] theorem Js {w:World} {d:Nat} {os:Array Obj} {a:Addr} {v:Value} (h:Has w a.block):(grow (redrawn w d) os).setCell a v=grow (redrawn (w.setCell a v) d) os:=by
 unfold Has at h;simp only [grow,redrawn,World.setCell];congr 1;apply Array.ext_getElem?;intro k;rw [Array.getElem?_modify];by_cases hk:k<w.heap.size
 .rw [Array.getElem?_append_left hk,Array.getElem?_append_left (by simpa using hk),Array.getElem?_modify]
 .rw [if_neg (by omega),Array.getElem?_append_right (by omega),Array.getElem?_append_right (by simpa using by omega)];simp
@[go_sem] theorem GK (w:World) (d:Nat):(redrawn w d).heap=w.heap:=rfl
theorem bla{w w1:World}(h:Below w.heap.size w w1)(o:Obj):Below w.heap.size w (w1.alloc o):=h.alloc h.size o
theorem bls{w w1:World}(h:Below w.heap.size w w1){p:Addr}(hp:w.heap.size<=p.block)(v:Value):Below w.heap.size w (w1.setCell p v):=h.setCell hp v
@[go_sem] theorem On:IntKind.u64.signed=false:=rfl
@[go_sem] theorem Oo:IntKind.i64.signed=true:=rfl
@[go_sem] theorem OH:IntKind.u8.signed=false:=rfl
@[go_sem] theorem Oq:IntKind.u32.signed=false:=rfl
end
noncomputable section
open Go Go.RowKit Go.Sort
section
variable {P : Program} {ops : Array Oper} {md : Region.Mode} {C : World → Prop}
def EV(P:Program)(md:Region.Mode)(ops:Array Oper)(C:World->Prop)(n:Nat)(L:Array Bool->Act->Prop):Nat->Array Bool->Act->Prop
 |0,s,a=>L s a
 |f+1,s,a=>(∃i,i∈Region.ready md ops s)/\∀i∈Region.ready md ops s,i<n/\qOp P ops C i (EV P md ops C n L f (s.setIfInBounds i true)) a
theorem sR{n g:Nat}{L:Array Bool->Act->Prop}{Q':Exit->Act->World->Prop}(hL:∀s a w,C w->L s a->wpAny P md ops Q' g s a w):
  ∀(f:Nat) (s:Array Bool) (a:Act) (w:World),C w->EV P md ops C n L f s a->wpAny P md ops Q' (f+g) s a w:=by
 intro f
 induction f with
 |zero=>intro s a w hw h;rw [Nat.zero_add];exact hL s a w hw h
 |succ f ih=>
  intro s a w hw h;obtain⟨⟨i0,hi0⟩,hall⟩:=h;rw [Nat.add_right_comm];refine⟨λh0=> ?_,λi hi=>wpOp_of_qOp hw (λa' w' hw' h'=>ih _ a' w' hw' h') (hall i hi).2⟩;rw [h0]at hi0;cases hi0
theorem zk{n i:Nat}{oi:Oper}{v:Value}{L:Array Bool->Act->Prop}(hi:ops[i]? =some oi)(hsel:Region.noSelect ops=true)
  (hs:Region.sinkB md ops n=true) (hc:Region.chainB md ops n=true) (hn:n<ops.size) (hin:i<n) (hdone:∀s a,L s a->∀j∈Region.ready md ops s,n<=j) (f:Nat):
  ∀(s:Array Bool) (a:Act),HeadInv md ops n s->
   (∀j oj,ops[j]? =some oj->j≠i->s.getD j true=false->(∀e∈oj.after,Region.binds md e=true->e.on≠i)->oi.apart ops oj=true)->
   i∈Region.ready md ops s->YieldsIn P ops C oi v a->
   EV P md ops C n L f (s.setIfInBounds i true) (a.put oi.dst v)->EV P md ops C n L (f+1) s a:=by
 have sel:=Region.noSelect_spec hsel
 induction f with
 |zero=>
  intro s a inv _ hr hy H;refine⟨⟨i,hr⟩,λj hj=> ?_⟩;have hjn:j<n:=Nat.lt_of_not_le λh=>tail_waits hs hc hn inv _ i rfl hin (mem_ready.1 hr).1 j h hj;refine⟨hjn,?_⟩;by_cases hji:j=i
  .rw [hji];exact hy.qOp hi H
  .have:=hdone _ _ H j (ready_mono hj hji)
   omega
 |succ f ih=>
  intro s a inv hfree hr hy H;refine⟨⟨i,hr⟩,λj hj=> ?_⟩;have hun:=(mem_ready.1 hr).1;have hjn:j<n:=Nat.lt_of_not_le λh=>tail_waits hs hc hn inv _ i rfl hin hun j h hj;refine⟨hjn,?_⟩;by_cases hji:j=i
  .rw [hji];exact hy.qOp hi H
  .obtain⟨hjun,oj,hoj,hall⟩:=mem_ready.1 hj
   have hnot:∀e∈oj.after,Region.binds md e=true->e.on≠i:=by
    intro e he hb heq;have hd:=hall e he hb;rw [heq,getD_both hun]at hd;cases hd
   have hp:=qOp_put hoj (hfree j oj hoj hji hjun hnot) (λcs b=>sel i oi cs b hi) (λcs b=>sel j oj cs b hoj) hy (H.2 j (ready_mono hj hji)).2;refine qOp_mono (λa' h3=>ih _ a' (inv.set hj hjn) ?_ (ready_mono hr (Ne.symm hji)) h3.1 ?_) hp
   .intro k ok hk hki hkun hno;refine hfree k ok hk hki ?_ hno;by_cases hjk:j=k
    .rw [<-hjk];exact hjun
    .rwa [getD_set_ne true hjk]at hkun
   .rw [Array.setIfInBounds_comm _ _ hji];exact h3.2
theorem EW{n g:Nat}{Lq:Act->Prop}(hsel:Region.noSelect ops=true)(hs:Region.sinkB md ops n=true)(hc:Region.chainB md ops n=true)(hn:n<ops.size)(l:List Oper):
  ∀(k:Nat) (s:Array Bool) (a:Act),(∀j,j<l.length->l[j]? =ops[k+j]?)->k+l.length=n->HeadInv md ops n s->
  Region.lexHead md ops g l.length k s=true->wpQuiet P ops C Lq l a->
  EV P md ops C n (λs' a'=>Region.seqB md ops g n s'=true/\Lq a') l.length s a:=by
 induction l with
 |nil=>
  intro k s a _ hk _ hB h;have hk':k=n:=by simpa using hk
  rw [<-hk'];exact⟨by simpa [Region.lexHead]using hB,h⟩
 |cons o l ih=>
  intro k s a hl hk inv hB h;have h0:ops[k]? =some o:=by simpa using (hl 0 (by simp)).symm
  simp only [List.length_cons]at hk hB;simp only [Region.lexHead,Bool.and_eq_true]at hB;have hkn:k<n:=by omega
  have hr:k∈Region.ready md ops s:=by simpa using hB.1.1
  have hq:qOp P ops C k (wpQuiet P ops C Lq l) a:=by unfold qOp;simp only [h0];exact h
  obtain⟨v,hy,hK⟩:=yieldsIn_of_qOp h0 hq;refine zk h0 hsel hs hc hn hkn (λs' a' hL=>seqB_ready hL.1) l.length s a inv (Region.free_spec h0 hB.1.2) hr hy (ih (k+1) _ _ (λj hj=> ?_) (by omega) (inv.set hr hkn) hB.2 hK)
  have:=hl (j+1) (by simp;omega)
  simpa [Nat.add_assoc,Nat.add_comm 1 j]using this
theorem jJ{id:Nat}{Q:Exit->Act->World->Prop}{a:Act}{w:World}{l:List Oper}(n:Nat)(hm:P.follows .mixedOrders=true)(hB:Region.lexTailB .any l.toArray n=true)
  (hC:C {w with drawn:=w.drawn+1}) (h:wpQuiet P l.toArray C (λa'=>∀w',C w'->wpList P l.toArray Q (l.drop n) a' w') (l.take n) a):(Code.region id l.toArray true).wp P Q a w:=by
 simp only [Region.lexTailB,Bool.and_eq_true,decide_eq_true_eq]at hB;obtain⟨⟨⟨⟨hsel,hn⟩,hs⟩,hc⟩,hlex⟩:=hB;have hn':n<l.length:=by simpa using hn
 have htl:(l.take n).length=n:=by simp;omega
 have hdl:(l.drop n).length=l.toArray.size - n:=by simp
 have H:=EW (C:=C) (md:= .any) (g:=l.toArray.size - n) hsel hs hc hn (l.take n) 0 (Array.replicate l.toArray.size false) a (λj hj=>by
  have hj':j<n:=by rw [htl]at hj;exact hj
  simp [hj']) (by simpa using htl) ⟨by simp,λj oj _ hl=>(by rw [getD_replicate_false]at hl;cases hl),λt _ ht=>getD_in (by simpa using ht) (getD_replicate_false _ _)⟩ (by rw [htl];exact hlex) h
 refine wp_region_any hm ?_
 have R:=sR (Q':=Q) (g:=l.toArray.size - n) (λs a' w' hw hL=>by
  have:=wpAny_of_seq (md:= .any) (Q':=Q) (l.drop n) n s a' w' (λj=>by simp [List.getElem?_drop]) (by rw [hdl];exact hL.1) (hL.2 w' hw)
  rwa [hdl]at this) _ _ _ _ hC H
 rw [htl,show n+(l.toArray.size - n)=l.toArray.size by omega]at R;exact R
theorem fD{id:Nat}{Q:Exit->Act->World->Prop}{a:Act}{w:World}{l:List Oper}(n:Nat)(hm:P.follows .mixedOrders=true)(hB:Region.lexTailB .any l.toArray n=true)
  (h:wpQuiet P l.toArray (λw'=>∃p:Regrown,w'=grow (redrawn w p.d) p.os) (λa'=>∀w',(∃p:Regrown,w'=grow (redrawn w p.d) p.os)->wpList P l.toArray Q (l.drop n) a' w') (l.take n) a):(Code.region id l.toArray true).wp P Q a w:=
 jJ (C:=λw'=>∃p:Regrown,w'=grow (redrawn w p.d) p.os) n hm hB ⟨⟨w.drawn+1,#[]⟩,by rw [grow_empty];rfl⟩ h
end
end
noncomputable section
open Go.RowKit Go.Sort
def CellsAt(W:World)(B:Nat)(t:TypeId)(cs:Array Value):Prop:=W.heap[B]? =some (.cells cs t (0,0))
theorem CellsAt.lt{W:World}{B:Nat}{t:TypeId}{cs:Array Value}(h:CellsAt W B t cs):B<W.heap.size:=(Array.getElem?_eq_some_iff.1 h).1
theorem CellsAt.cell{W:World}{B:Nat}{t:TypeId}{cs:Array Value}(h:CellsAt W B t cs)(i:Nat):W.cell? ⟨B,i,none⟩=cs[i]? :=by
 simp [World.cell?,show W.heap[B]? =_ from h]
theorem CellsAt.frozen{W:World}{B:Nat}{t:TypeId}{cs:Array Value}(h:CellsAt W B t cs)(i:Nat):W.frozen? ⟨B,i,none⟩=false:=by simp [World.frozen?,show W.heap[B]? =_ from h]
theorem CellsAt.set{W:World}{B:Nat}{t:TypeId}{cs:Array Value}(h:CellsAt W B t cs)(i:Nat)(v:Value):CellsAt (W.setCell ⟨B,i,none⟩ v) B t (cs.setIfInBounds i v):=by
 obtain⟨hlt,hk⟩:=Array.getElem?_eq_some_iff.1 h;show(W.heap.modify B _)[B]? =_;rw [Array.getElem?_eq_getElem (by rw [Array.size_modify];exact hlt),Array.getElem_modify_self,hk];rfl
theorem CellsAt.kept{W W':World}{B:Nat}{t:TypeId}{cs:Array Value}(h:CellsAt W B t cs)(hb:W'.heap[B]? =W.heap[B]?):CellsAt W' B t cs:=hb.trans h
theorem CellsAt.below{W W':World}{B:Nat}{t:TypeId}{cs:Array Value}(h:CellsAt W B t cs)(hb:Below W.heap.size W W'):CellsAt W' B t cs:=h.kept (hb.block B h.lt)
theorem CellsAt.grown{W W':World}{B:Nat}{t:TypeId}{cs:Array Value}{row:Option Nat}(h:CellsAt W B t cs)(hg:W.grownBy W' row)(hne:some B≠row):CellsAt W' B t cs:=h.kept (hg.block B h.lt hne)
theorem au{W:World}{B B':Nat}{t:TypeId}{cs:Array Value}(h:CellsAt W B t cs)(hne:B≠B')(v:Value)(i:Nat):CellsAt (W.setCell ⟨B',i,none⟩ v) B t cs:=
 (Below.heap_setCell W ⟨B',i,none⟩ v B hne).trans h
def Rd8(w:World)(a:Option Addr)(n:Nat)(f:Nat->Int):Prop:=∀i,i<n->∃b,a=some b/\b.block<w.heap.size/\w.cell? (b.add i)=some (.int .u8 (f i))/\0<=f i/\f i<=255
@[go_sem] theorem kf (b:Addr) (k:Nat):(b.add k).block=b.block:=by unfold Addr.add;split<;>rfl
theorem ab{w w':World}(h:Below w.heap.size w w')(row:Option Nat):w.grownBy w' row:=⟨h.os,h.tape,h.output,h.size,λk hk _=>h.block k hk⟩
theorem Rd8.grown{W W':World}{a:Option Addr}{n:Nat}{f:Nat->Int}{row:Option Nat}(h:Rd8 W a n f)(hg:W.grownBy W' row)(hne:∀b,a=some b->some b.block≠row):Rd8 W' a n f:=by
 intro i hi;obtain⟨b,hb,h1,h2,h3⟩:=h i hi;refine⟨b,hb,Nat.lt_of_lt_of_le h1 hg.size,?_,h3⟩;rw [<-h2]
 have:=hg.block b.block h1 (hne b hb)
 unfold World.cell?;rw [kf,this]
theorem Rd8.cut{W:World}{a:Option Addr}{n p k:Nat}{f:Nat->Int}(h:Rd8 W a n f)(hp:p+k<=n):Rd8 W (Option.map (λx=>x.add p) a) k (λi=>f (p+i)):=by
 intro i hi;obtain⟨b,rfl,h1,h2,h3⟩:=h (p+i) (by omega);refine⟨b.add p,rfl,by rw [kf];exact h1,?_,h3⟩;rw [<-h2];congr 1;unfold Addr.add;by_cases h4:p=0<;>by_cases h5:i=0<;>simp [h4,h5];omega
theorem ae(W:World)(b i:Nat)(v:Value):W.grownBy (W.setCell ⟨b,i,none⟩ v) (some b):=
 ⟨rfl,rfl,rfl,(KeepsWalks.setCell W _ v).size,λk _ hk=>Below.heap_setCell _ _ _ k (λe=>hk (by rw [e]))⟩
theorem af{A B C:World}{r:Option Nat}(h:A.grownBy B r)(k:B.grownBy C r):A.grownBy C r:=
 ⟨k.os.trans h.os,k.tape.trans h.tape,k.output.trans h.output,Nat.le_trans h.size k.size,λi hi hr=>(k.block i (Nat.lt_of_lt_of_le hi h.size) hr).trans (h.block i hi hr)⟩
theorem we{A B:World}{r:Option Nat}(h:A.grownBy B none):A.grownBy B r:=⟨h.os,h.tape,h.output,h.size,λi hi _=>h.block i hi (by simp)⟩
theorem bh{A B:World}{n r:Nat}(h:A.grownBy B (some r))(hn:n<=A.heap.size)(hr:n<=r):Below n A B:=⟨h.os,h.tape,h.output,h.size,λk hk=>h.block k (by omega) (by simp;omega)⟩
theorem mf{A B:World}(h:A.grownBy B none):Below A.heap.size A B:=⟨h.os,h.tape,h.output,h.size,λk hk=>h.block k hk (by simp)⟩
end
noncomputable section
open Go.RowKit Go.Sort
abbrev rdr(v:Value)(p e fa:Int):Array Value:=#[v,.int .i64 p,.int .i64 e,.int .i64 fa]
abbrev mg(e fa:Int):PanicEntry:={v:= .iface 122 (.agg #[.int .i64 e,.int .i64 fa]),recovered:=false}
theorem mh(R:Nat)(a:Option Addr)(n c p:Nat)(e fa:Int)(k:Int)(w:World)(hR:CellsAt w R 101 (rdr (.slice a n c) p e fa))(hk:0<=k)(hp:p<=n)(hn:n<=9223372036854775807)(hs:(n:Int) - p<k):
  Calls Try.prog 90 #[.pointer (some ⟨R,0,none⟩),.int .i64 k] w λx w'=>x= .panicked [mg 2 n]/\Below w.heap.size w w':=by
 have c0:w.cell? ⟨R,0,none⟩=some (.slice a n c):=hR.cell 0;have c1:w.cell? ⟨R,1,none⟩=some (.int .i64 p):=hR.cell 1;have kR:Has w R:=hR.lt
 go_enter Try.func90,Try.ntmps90
 go_wp2_with fail
 refine wp_region_quiet_below (by kernel_rfl) (by kernel_rfl) ?_
 repeat (go_big_quiet_step (fail))
 refine wpQuiet_nil ?_;rintro _ ⟨⟨d2,o2⟩,rfl⟩
 go_wp2_with fail
 exact⟨rfl,rfl,below_regrown _ _ _⟩
theorem wg(R:Nat)(a:Option Addr)(n c p k:Nat)(e fa:Int)(f:Nat->Int)(w:World)(hR:CellsAt w R 101 (rdr (.slice a n c) p e fa))(hb:Rd8 w a n f)(hne:∀b,a=some b->b.block≠R)(hc:n<=c)(hn:n<=9223372036854775807)(hp:p+k<=n):
  Calls Try.prog 90 #[.pointer (some ⟨R,0,none⟩),.int .i64 k] w λx w'=>∃a' c',x= .returned (.slice a' k c')/\k<=c'/\CellsAt w' R 101 (rdr (.slice a n c) (p+k:Nat) e fa)/\Rd8 w' a' k (λi=>f (p+i))/\w.grownBy w' (some R):=by
 have c0:w.cell? ⟨R,0,none⟩=some (.slice a n c):=hR.cell 0;have c1:w.cell? ⟨R,1,none⟩=some (.int .i64 p):=hR.cell 1;have f1:=hR.frozen 1;have kR:Has w R:=hR.lt
 go_enter Try.func90,Try.ntmps90
 go_wp2_with fail
 refine wp_region_quiet_below (by kernel_rfl) (by kernel_rfl) ?_
 repeat (go_big_quiet_step (fail))
 refine wpQuiet_nil ?_;rintro _ ⟨⟨d2,o2⟩,rfl⟩;have hU:Below w.heap.size w (grow (redrawn w d2) o2):=below_regrown w d2 o2;generalize grow (redrawn w d2) o2=U at hU ⊢;have hR1:=hR.below hU;have hb1:=hb.grown (ab hU none) (λ_ _=>by simp);have g1:w.grownBy U none:=ab hU none;have c0:U.cell? ⟨R,0,none⟩=some (.slice a n c):=hR1.cell 0;have c1:U.cell? ⟨R,1,none⟩=some (.int .i64 p):=hR1.cell 1;have f1:=hR1.frozen 1
 go_wp2_with fail
 have hR2:=hR1.set 1 (.int .i64 (p+k));have hV:=ae U R 1 (.int .i64 (p+k));have hb2:=hb1.grown hV (λb hb=>by simpa using hne b hb);generalize U.setCell ⟨R,1,none⟩ (.int .i64 (p+k))=V at hR2 hV hb2 ⊢;have c0:V.cell? ⟨R,0,none⟩=some (.slice a n c):=hR2.cell 0;have c1:V.cell? ⟨R,1,none⟩=some (.int .i64 (p+k)):=hR2.cell 1;have kR:Has V R:=hR2.lt;have gV:w.grownBy V (some R):=af (we g1) hV;clear hU hR1 hb1 g1 f1;have q1:((p:Int)+k) - k=p:=by omega
 have q2:(0:Int)<=p:=by omega
 have q3:(p:Int)<=p+k:=by omega
 have q4:(p:Int)+k<=c:=by omega
 refine wp_region_quiet_below (by kernel_rfl) (by kernel_rfl) ?_
 repeat (go_big_quiet_step (fail))
 refine wpQuiet_nil ?_;rintro _ ⟨⟨d3,o3⟩,rfl⟩
 go_wp2_with fail
 .obtain rfl:c=p:=by omega
  go_ret
  exact⟨_,_,rfl,by omega,by simpa using hR2.below (below_regrown V d3 o3),λi hi=>by omega,af gV (ab (below_regrown V d3 o3) _)⟩
 .go_ret
  exact⟨_,_,rfl,by omega,by simpa using hR2.below (below_regrown V d3 o3),(hb2.cut hp).grown (ab (below_regrown V d3 o3) none) (λ_ _=>by simp),af gV (ab (below_regrown V d3 o3) _)⟩
end
end Go.Proofs.Ytkmbihigeeclbaa
