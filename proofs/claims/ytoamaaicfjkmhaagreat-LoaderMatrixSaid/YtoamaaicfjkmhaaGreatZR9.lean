/- Texts of a claim, joined. -/
import Derived.Test.YtoamaaicfjkmhaaGreatZR8
import Derived.Test.YtoamaaicfjkmhaaGreatProg
import Derived.BigQuiet
import Derived.Lib.QuietBelow
import Derived.WalkSpells
import Derived.WalkLawsBesides
import Derived.Lib.Hide
import Derived.Outline
import Derived.StillTail
set_option linter.unusedVariables false
set_option linter.unusedSimpArgs false
namespace Go.Proofs.YtoamaaicfjkmhaaGreat
noncomputable section
namespace Ev
namespace K
open Go Go.RowKit
section
variable {E : Env} {n : Nat} {F : KF} {ks : KS} {V : Vl} {f : Nat → D} {h : am} {G : KG} {D0 : Nat}
theorem vR{k i j bz:Nat}{ag:Bool}{sz:Nat}{es:List (List C)}{e cs:List C}{d:D}(hg:ap h k=some (bz,es))(he:es[i]? =some e)(hc:Ev.cut e j sz=some cs)(hv:co ag cs=some d):load h ag sz (.one (.ptr k i j))=some d:=by
 simp only [load,hg,zbB,zbS,he,hc,hv]
theorem Ks(hr:Rel F ks V f h){z:Nat×Bool}{a:KD}{a':D}{R:Type}{r:R}{κ:KD->Option R}(hs:fG F ks z a κ=some r)(ha:RD (an F ks) V a a'):∃d d',κ d=some r/\load h z.2 (if z.2 then z.1 else 1) a'=some d'/\RD (an F ks) V d d'/\ScD ks.nx d:=by
 have hz:wd z=if z.2 then z.1 else 1:=by unfold wd;cases z.2<;>rfl
 cases a with
 |tup ts=>simp [fG]at hs
 |agg cs=>simp [fG]at hs
 |one c=>
  obtain⟨c',rfl,hc⟩:=ha
  cases c with
  |ptr p j=>
   simp only [fG]at hs;split at hs
   .rename_i cs hp;simp only [zbE]at hs;obtain⟨d2,⟨cs2,g1,g2⟩,g3⟩:=hs;obtain⟨g4,g5,sz,cs',g6,g7⟩:=hr.bl p _ hp;obtain⟨c2,g8,g9⟩:=g7.cut g1;obtain⟨d3,k1,k2,k3⟩:=eM g2 (fX g5 g1) g9;rw [show c'=_ from hc];exact⟨_,d3,g3,vR g6 rfl (by rw [<-hz];exact g8) k1,k2,k3⟩
   .simp at hs
  |ip e fr x i y j=>
   simp only [fG,zbE]at hs;obtain⟨d2,⟨cs2,g1,g2⟩,g3⟩:=hs;obtain⟨fl,e1,e2,e3⟩:=hc;obtain⟨c2,g8,g9⟩:=(cQ (B:=an F ks) (V:=V) e3 e y).cut g1;obtain⟨d3,k1,k2,k3⟩:=eM g2 (fX (dI ks.nx fr e y) g1) g9;refine⟨_,d3,g3,?_,k2,k3⟩;rw [e1];simp only [load,zbB,zJ (r:=e.row) e2,zbS];rw [<-hz,g8];exact k1
  |pe p i j=>
   simp only [fG]at hs;rw [hc.2];split at hs
   .rename_i e ne l hp;simp only [zbE]at hs;obtain⟨y,g0,d2,⟨cs2,g1,g2⟩,g3⟩:=hs;obtain⟨g4,g5,g6,_⟩:=hr.bl p _ hp;obtain⟨c2,g8,g9⟩:=(cQ (B:=an F ks) (V:=V) (λ_=>rfl) e y).cut g1;obtain⟨d3,k1,k2,k3⟩:=eM g2 (fX (dI ks.nx true e y) g1) g9;exact⟨_,d3,g3,vR g6 (mA g0).2 (by rw [<-hz];exact g8) k1,k2,k3⟩
   .rename_i e l hp;simp only [zbE]at hs;obtain⟨y,g0,d2,⟨cs2,g1,g2⟩,g3⟩:=hs;obtain⟨g4,g5,g6⟩:=hr.bl p _ hp;obtain⟨c2,g8,g9⟩:=(cQ (B:=an F ks) (V:=V) (λ_=>rfl) e y).cut g1;obtain⟨d3,k1,k2,k3⟩:=eM g2 (fX (dI ks.nx true e y) g1) g9;exact⟨_,d3,g3,vR (g6 (zW g0)) (mA g0).2 (by rw [<-hz];exact g8) k1,k2,k3⟩
   .simp at hs
  |_=>simp [fG]at hs
theorem tr(hG:GOk G E D0)(hr:Rel F ks V f h):∀{rv:List ResultVar} {R:Type} {r:R} {κ:List KD->Option R},zR G F ks rv κ=some r->∃ds ds',rv.mapM (cq E {t:=tab F.nt f,h:=h})=some ds'/\RDl (an F ks) V ds ds'/\(∀d∈ds,ScD ks.nx d)/\κ ds=some r
 | [],R,r,κ,hs=>⟨[],[],rfl,rfl,by simp,hs⟩
 | .tmp t::rv,R,r,κ,hs=>by
  simp only [zR,zbE]at hs;obtain⟨d,g1,g2⟩:=hs;obtain⟨k1,k2,k3⟩:=hr.sl t d g1;obtain⟨ds,ds',e1,e2,e3,e4⟩:=tr hG hr g2;refine⟨d::ds,f t::ds',?_,⟨_,_,rfl,k3,e2⟩,λx hx=> ?_,e4⟩
  .rw [List.mapM_cons,e1];show((tab F.nt f)[t]?).bind _=_;rw [iz,if_pos k1];rfl
  .rcases List.mem_cons.1 hx with rfl|hx
   .exact k2
   .exact e3 x hx
 | .cell a ty::rv,R,r,κ,hs=>by
  simp only [zR]at hs;split at hs
  .rename_i z d hz hd;have hz':=zV hG hz;obtain⟨k1,k2,k3⟩:=hr.sl a d hd;obtain⟨v,v',g1,g2,g3,g4⟩:=Ks hr hs k3;obtain⟨ds,ds',e1,e2,e3,e4⟩:=tr hG hr g1;refine⟨v::ds,v'::ds',?_,⟨_,_,rfl,g3,e2⟩,λx hx=> ?_,e4⟩
   .unfold iK at hz';simp only [zbE,zsI]at hz';obtain⟨ti,w1,w2⟩:=hz';rw [List.mapM_cons,e1];show(((E.ti ty).bind λt'=>((tab F.nt f)[a]?).bind λd=>load h (aN t'.desc) (if aN t'.desc then t'.size else 1) d).bind _)=_;rw [w1,iz,if_pos k1];subst w2;simp only [zbS];rw [g2];rfl
   .rcases List.mem_cons.1 hx with rfl|hx
    .exact g4
    .exact e3 x hx
  .simp at hs
theorem Af:∀{ds:List KD} {ds':List D} {ts:List (Bool×List KC)},tupK.tups ds=some ts->RDl (an F ks) V ds ds'->(∀d∈ds,ScD ks.nx d)->RTs (an F ks) V ts ds'/\∀x∈ts,Scs ks.nx x.2
 | [],ds',ts,h,hr,hs=>by
  have:=Option.some.inj (show some []=some ts from h)
  subst this;exact⟨hr,by simp⟩
 | .one c::r,ds',ts,h,⟨d,s,e,h1,h2⟩,hs=>by
  simp only [tupK.tups,Option.map_eq_some_iff]at h;obtain⟨ts',g1,rfl⟩:=h;obtain⟨k1,k2⟩:=Af g1 h2 λx hx=>hs x (by simp [hx]);refine⟨⟨d,s,e,h1,k1⟩,λx hx=> ?_⟩;rcases List.mem_cons.1 hx with rfl|hx
  .exact λy hy=>by rw [List.mem_singleton.1 hy];exact hs (.one c) (by simp)
  .exact k2 x hx
 | .agg cs::r,ds',ts,h,⟨d,s,e,h1,h2⟩,hs=>by
  simp only [tupK.tups,Option.map_eq_some_iff]at h;obtain⟨ts',g1,rfl⟩:=h;obtain⟨k1,k2⟩:=Af g1 h2 λx hx=>hs x (by simp [hx]);refine⟨⟨d,s,e,h1,k1⟩,λx hx=> ?_⟩;rcases List.mem_cons.1 hx with rfl|hx
  .exact hs (.agg cs) (by simp)
  .exact k2 x hx
 | .tup ts'::r,ds',ts,h,hr,hs=>by simp [tupK.tups]at h
theorem Mk{ds:List KD}{ds':List D}{d:KD}(h:tupK ds=some d)(hr:RDl (an F ks) V ds ds')(hs:∀d∈ds,ScD ks.nx d):RD (an F ks) V d (ji ds')/\ScD ks.nx d:=by
 match ds,h,hr,hs with
 | [x],h,⟨d',s,e,h1,h2⟩,hs=>
  cases h;rw [e,show s= []from h2];exact⟨h1,hs d (by simp)⟩
 | [],h,hr,hs=>
  cases h;rw [show ds'= []from hr];exact⟨⟨[],rfl,rfl⟩,λx hx=>by simp at hx⟩
 |x::x'::r,h,hr,hs=>
  have h':(tupK.tups (x::x'::r)).map KD.tup=some d:=h;rw [Option.map_eq_some_iff]at h';obtain⟨ts,g1,rfl⟩:=h';obtain⟨k1,k2⟩:=Af g1 hr hs;obtain⟨d1,s1,e1,_,d2,s2,e2,_,_⟩:=hr;refine⟨⟨ds',?_,k1⟩,k2⟩;rw [e1,e2];rfl
theorem yD:∀{l:List KD} {q i:Nat} {d:KD},ak (xc q l) i=some d->∃j,i=q+j/\l[j]? =some d
 | [],q,i,d,h=>by simp [xc,ak]at h
 |a::l,q,i,d,h=>by
  unfold xc at h;rw [al]at h;split at h
  .rename_i hi;cases h;exact⟨0,by omega,rfl⟩
  .obtain⟨j,h1,h2⟩:=yD h;exact⟨j+1,by omega,by simpa using h2⟩
theorem Fs{B:BK}:∀{l:List KD} {l':List D} {j:Nat} {d:KD},RDl B V l l'->l[j]? =some d->∃d',l'[j]? =some d'/\RD B V d d'
 | [],l',j,d,h,hj=>by simp at hj
 |a::l,l',0,d,⟨x,s,e,h1,h2⟩,hj=>by simp at hj;subst hj e;exact⟨x,rfl,h1⟩
 |a::l,l',j+1,d,⟨x,s,e,h1,h2⟩,hj=>by subst e;simpa using Fs h2 (by simpa using hj)
theorem Fu{B:BK}:∀{l:List KD} {l':List D},RDl B V l l'->l'.length=l.length
 | [],l',h=>by rw [show l'= []from h];rfl
 |a::l,l',⟨x,s,e,h1,h2⟩=>by rw [e,List.length_cons,List.length_cons,Fu h2]
theorem yE{nt nx:Nat}{bl:List (Nat×KB)}{args:List KD}{args':List D}(hb:Kk F {sl:= [],bl:=bl,nx:=nx} V h)(hs:∀d∈args,ScD nx d)(hr:RDl (an F {sl:= [],bl:=bl,nx:=nx}) V args args')(hl:args.length<=nt):Rel {F with sl:= [],nt:=nt} {sl:=xc 0 args,bl:=bl,nx:=nx} V (fA args') h:=by
 refine⟨?_,hb.bl,hb.inj⟩;intro i d hd;have hd':aO (xc 0 args) [] i=some d:=hd;unfold aO at hd'
 cases hl':ak (xc 0 args) i with
 |none=>rw [hl']at hd';simp [ak]at hd'
 |some d0=>
  rw [hl']at hd';cases hd';obtain⟨j,h1,h2⟩:=yD hl';rw [Nat.zero_add]at h1;subst h1;obtain⟨d',h3,h4⟩:=Fs hr h2;have hi:i<args.length:=(List.getElem?_eq_some_iff.1 h2).1;refine⟨Nat.lt_of_lt_of_le hi hl,hs d (List.mem_of_getElem? h2),?_⟩;show RD _ _ d (args'.getD i bN);rw [List.getD_eq_getElem?_getD,h3];exact h4
theorem Cq{e:Ex}(h:rT e=true):e= .normal∨e= .ret:=by
 cases e with
 |normal=>exact .inl rfl
 |ret=>exact .inr rfl
 |exit id=>simp [rT]at h
theorem Cr(hG:GOk G E D0)(A:cP):∀(c n:Nat),D0+c<=n->DQ E n (BX G A c)
 |0,n,hn=>λR F k args ks κ r V h args' hs hb hsc hr=>by simp [BX]at hs
 |c+1,n,hn=>λR F k args ks κ r V h args' hs hb hsc hr=>by
  unfold BX at hs;split at hs
  .rename_i fi hfi;obtain⟨g1,g2⟩:=hG.fi k fi hfi;split at hs
   .rename_i hlen
    match n,hn with
    |n0+1,hn=>
     refine⟨n0,fi,rfl,g1,g2,by rw [Fu hr];exact hlen,?_⟩;have hrel:Rel {F with sl:= [],nt:=fi.nt} {ks with sl:=xc 0 args} V (fA args') h:=yE ⟨hb.bl,hb.inj⟩ hsc hr hlen;refine(Cp (y:=nY) hG (by omega) (Cr hG A c n0 (by omega)) fi.body R _ _ _ r V _ h hs hrel).mono λe s hp=> ?_;obtain⟨ks',V',f',h1,h2,h3,h4⟩:=hp;obtain⟨t,hh⟩:=s;simp only at h1 h2;subst h1;dsimp only at h3
     cases he:rT e with
     |false=>rw [he]at h3;simp at h3
     |true=>
      rw [he]at h3;obtain⟨ds,ds',e1,e2,e3,e4⟩:=tr hG h2 h3;rw [zbE]at e4;obtain⟨d,e5,e6⟩:=e4;obtain⟨k1,k2⟩:=Mk e5 e2 e3;exact⟨Cq he,ds',e1,ks',V',d,e6,k2,k1,⟨h2.bl,h2.inj⟩,⟨h4.nx,h4.agree,h4.le,h4.dom⟩⟩
   .simp at hs
  .simp at hs
theorem oO:∀{e:Ty} (x:e.val),e.plain=true->(dh e.row x).all tw=true
 | .I _,_,_=>rfl
 | .B,_,_=>rfl
 | .S _,_,hp=>by simp [Ty.plain]at hp
 | .U,_,_=>rfl
 | .C a b,x,hp=>by
  simp only [Ty.plain,Bool.and_eq_true]at hp;unfold dh;show((a.row x.1++b.row x.2).map (pC true)).all tw=true;rw [List.map_append,List.all_append];have h1:=oO x.1 hp.1;have h2:=oO x.2 hp.2;unfold dh at h1 h2;rw [h1,h2];rfl
theorem vS{B:BK}:∀{l:List (Bool×List KC)} {ds:List D},RTs B V l ds->RDl B V (l.map mkD) ds
 | [],ds,h=>h
 |x::l,ds,⟨d,s,e,h1,h2⟩=>⟨d,s,e,DL h1,vS h2⟩
theorem Fv(fr:Bool):∀(ts:List TyD) (x:aR ts),(lH fr ts x).length=ts.length
 | [],_=>rfl
 | [t],x=>rfl
 |t::t'::r,x=>by show(lH fr (t'::r) x.2).length+1=_;rw [Fv fr (t'::r)];rfl
theorem Ag:∀(ts:List TyD) (x:aR ts),(ci ts x).length=ts.length
 | [],_=>rfl
 | [t],x=>rfl
 |t::t'::r,x=>by show(ci (t'::r) x.2).length+1=_;rw [Ag (t'::r)];rfl
theorem Hl{B:BK}{ts:List TyD}{ds:List KD}{ds':List D}{x:aR ts}(hd:iB B ts ds=some x)(hr:RDl B V ds ds')(hno:rl ds=false):dJ h ds'=false:=by
 unfold dJ;split
 .rename_i k m
  match ds,hr,hno,hd with
  | [d],⟨y,s,e,h1,h2⟩,hno,hd=>
   rw [show s= []from h2]at e;simp only [List.cons.injEq,and_true]at e;subst e
   match ts,x,hd with
   | [t],x,hd=>
    have hd':zM B t d=some x:=hd
    cases d with
    |one c=>
     obtain⟨c',e1,e2⟩:=h1;cases e1
     cases c with
     |o e p=>simp [rl]at hno
     |m e p=>simp [rl]at hno
     |n k y=>exact absurd (show C.own _ 0 _=_ from e2) (by simp)
     |b v=>exact absurd (show C.own _ 0 _=_ from e2) (by simp)
     |p t P d=>exact absurd e2.1 (by simp)
     |bv y=>exact absurd (show C.own _ 0 _=_ from e2) (by simp)
     |v y=>exact absurd (show C.own _ 0 _=_ from e2) (by simp)
     |nil=>exact absurd (show C.own _ 0 _=_ from e2) (by simp)
     |s e fr y=>obtain⟨fl,e3,_⟩:=e2;exact absurd e3 (by simp)
     |ptr p j=>exact absurd (show C.own _ 0 _=_ from e2) (by simp)
     |pe p i j=>exact absurd e2.2 (by simp)
     |ip e fr y i z j=>obtain⟨fl,e3,_⟩:=e2;exact absurd e3 (by simp)
     |clo fn ps=>exact absurd (show C.own _ 0 _=_ from e2) (by simp)
     |yld p=>exact absurd (show C.own _ 0 _=_ from e2) (by simp)
    |agg cs=>obtain⟨c',e1,_⟩:=h1;simp at e1
    |tup ts=>simp [zM]at hd'
   | [],x,hd=>simp [iB]at hd
   |_::_::_,x,hd=>simp [iB]at hd
  | [],hr,_,_=>exact absurd (show [_]=_ from hr) (by simp)
  |_::_::_,⟨y,s,e,h1,y2,s2,e2,_,_⟩,_,_=>rw [e2]at e;simp at e
 .rfl
theorem qh{rv:List ResultVar}{e:Ty}{l:List e.val}{k:Nat}{ex:Ex}{s:St}(he:ex= .normal∨ex= .ret)(hres:rv.mapM (cq E s)=some [.one (.own k 0 l.length)])(hg:ap s.h k=some (e.size,l.map (dh e.row)))(hp:e.plain=true):Ds E rv (.own,[.one (.s true e.size (l.map e.row))]) ex s:=by
 have ho:dJ s.h [.one (.own k 0 l.length)]=true:=by
  simp only [dJ,hg,List.length_map,BEq.rfl,Bool.true_and,List.all_map];rw [List.all_eq_true];exact λx _=>oO x hp
 have hv:cE s.h (.one (.own k 0 l.length))=some (true,.one (.s true e.size (l.map e.row))):=by
  show(eI s.h 6 _).bind _=_;rw [Dz (r:=e.row) (L:= [[(k,e.size,l.map (dh e.row))]]) 0 rfl (λx h m=>vp m) s.h (fS hg) 4];rfl
 have key:cd (λq:Kind×List TD=>q=(.own,[.one (.s true e.size (l.map e.row))])) ((rv.mapM (cq E s)).bind λrs=>(rs.mapM (cE s.h)).map λl=>(if dJ s.h rs then .own else if l.all (·.1)then .fresh else .any,l.map (·.2))):=by
  rw [hres];simp only [zbS,List.mapM_cons,hv,List.mapM_nil,Option.pure_def,zbB,Option.map_some,ho];rfl
 rcases he with rfl|rfl<;>exact key
theorem jf{rv:List ResultVar}{ds':List D}{l:List (Bool×TD)}{ex:Ex}{s:St}(he:ex= .normal∨ex= .ret)(hres:rv.mapM (cq E s)=some ds')(hv:ds'.mapM (cE s.h)=some l)(ho:dJ s.h ds'=false):Ds E rv (cond (l.all (·.1)) .fresh .any,l.map (·.2)) ex s:=by
 have key:cd (λq:Kind×List TD=>q=(cond (l.all (·.1)) .fresh .any,l.map (·.2))) ((rv.mapM (cq E s)).bind λrs=>(rs.mapM (cE s.h)).map λl=>(if dJ s.h rs then .own else if l.all (·.1)then .fresh else .any,l.map (·.2))):=by
  rw [hres];simp only [zbS,hv,Option.map_some,ho];show(_,_)=(_,_);cases l.all (·.1)<;>rfl
 rcases he with rfl|rfl<;>exact key
theorem Ml(hG:GOk G E D0)(A:cP){fi:FI}{k:FuncId}{c:Nat}{ins:List TyD}{ok:OutK}{x:aR ins}{out:ok.val}(hax:E.ax k=none)(hf:E.fn k=some fi)(hl:ins.length<=fi.nt)(hs:dj G A fi k c ins ok x=some out)(m:Nat):Ff E (m+(D0+c)+1) k (ci ins x) ok out:=by
 unfold dj at hs;have hb:Kk {nt:=fi.nt} {sl:= [],bl:= [],nx:=0} ⟨λ_=>0,λ_=>false⟩ []:=⟨λp b hb=>by simp [an,aO,ak]at hb,λp q b b' hb=>by simp [an,aO,ak]at hb⟩;have hargs:RDl (an {nt:=fi.nt} {sl:= [],bl:= [],nx:=0}) ⟨λ_=>0,λ_=>false⟩ ((lH false ins x).map mkD) ((ci ins x).map (cz false)):=vS (pZ (λh=>h) ins x)
 have hsc:∀d∈(lH false ins x).map mkD,ScD 0 d:=λd hd=>by
  obtain⟨y,h1,rfl⟩:=List.mem_map.1 hd;exact tj (vq 0 false ins x y h1)
 have hrel:Rel {nt:=fi.nt} {sl:=Fd ins x,bl:= [],nx:=0} ⟨λ_=>0,λ_=>false⟩ (fA ((ci ins x).map (cz false))) []:=yE (F:={nt:=fi.nt}) hb hsc hargs (by rw [List.length_map,Fv];exact hl);have hw:=Cp (y:=nY) (n:=m+(D0+c)) hG (by omega) (Cr hG A c _ (by omega)) fi.body ok.val _ _ _ out _ _ [] hs hrel;have hend:∀r,(∀e s,PostC {nt:=fi.nt} {sl:=Fd ins x,bl:= [],nx:=0} ⟨λ_=>0,λ_=>false⟩ (λe ks=>cond (rT e) (zR G {nt:=fi.nt} ks fi.results λds=>zS (an {nt:=fi.nt} ks) ok ds) none) out e s->Ds E fi.results r e s)->RunsP E (m+(D0+c)+1) k (ci ins x) r:=λr hq=>BI hax hf (by rw [Ag];exact hl) (hw.mono hq)
 have hopen:∀e s,PostC {nt:=fi.nt} {sl:=Fd ins x,bl:= [],nx:=0} ⟨λ_=>0,λ_=>false⟩ (λe ks=>cond (rT e) (zR G {nt:=fi.nt} ks fi.results λds=>zS (an {nt:=fi.nt} ks) ok ds) none) out e s->∃ks' V' f' ds ds',(e= .normal∨e= .ret)/\Rel {nt:=fi.nt} ks' V' f' s.h/\fi.results.mapM (cq E s)=some ds'/\RDl (an {nt:=fi.nt} ks') V' ds ds'/\zS (an {nt:=fi.nt} ks') ok ds=some out:=by
  intro e s hp;obtain⟨ks',V',f',h1,h2,h3,h4⟩:=hp;obtain⟨t,hh⟩:=s;simp only at h1 h2;subst h1;dsimp only at h3
  cases he:rT e with
  |false=>rw [he]at h3;simp at h3
  |true=>
   rw [he]at h3;obtain⟨ds,ds',e1,e2,e3,e4⟩:=tr hG h2 h3;exact⟨ks',V',f',ds,ds',Cq he,h2,e1,e2,e4⟩
 cases ok with
 |data fr ts=>
  have hdata:∀(ks':KS) (V':Vl) (ds:List KD) (ds':List D) (hh:am) (f':Nat->D),Rel {nt:=fi.nt} ks' V' f' hh->RDl (an {nt:=fi.nt} ks') V' ds ds'->zS (an {nt:=fi.nt} ks') (.data fr ts) ds=some out->∃l,ds'.mapM (cE hh)=some l/\l.map (·.2)=ci ts out/\(fr=true->l.all (·.1)=true)/\dJ hh ds'=false:=by
   intro ks' V' ds ds' hh f' h2 e2 e4;unfold zS at e4;simp only at e4;split at e4
   .simp at e4
   .rename_i hc;obtain⟨l,l1,l2,l3⟩:=oB h2.bls e4 e2
    have hno:rl ds=false:=by cases ho:rl ds with|true=>simp [ho]at hc|false=>rfl
    refine⟨l,l1,l2,λhfr=>l3 ?_,Hl e4 e2 hno⟩
    cases ha:ds.all frD with
    |true=>rfl
    |false=>simp [hfr,ha]at hc
  cases fr with
  |true=>
   refine hend _ λe s hp=> ?_;obtain⟨ks',V',f',ds,ds',he,h2,e1,e2,e4⟩:=hopen e s hp;obtain⟨l,l1,l2,l3,l4⟩:=hdata ks' V' ds ds' s.h f' h2 e2 e4
   have:=jf (E:=E) he e1 l1 l4
   rw [l3 rfl,l2]at this;exact this
  |false=>
   -- is it new? that is settled when it has run
   obtain⟨e,s,hrun,hp⟩:=hw;obtain⟨ks',V',f',ds,ds',he,h2,e1,e2,e4⟩:=hopen e s hp;obtain⟨l,l1,l2,_,l4⟩:=hdata ks' V' ds ds' s.h f' h2 e2 e4
   have:=jf (E:=E) he e1 l1 l4
   rw [l2]at this;exact⟨l.all (·.1),BI hax hf (by rw [Ag];exact hl) ⟨e,s,hrun,this⟩⟩
 |own ty=>
  refine hend _ λe s hp=> ?_;obtain⟨ks',V',f',ds,ds',he,h2,e1,e2,e4⟩:=hopen e s hp;unfold zS at e4;simp only at e4;unfold JT at e4;split at e4
  .rename_i e0 p;split at e4
   .rename_i e' ne l hB;split at e4
    .rename_i hpl;rw [Option.map_eq_some_iff]at e4;obtain⟨l2,g0,rfl⟩:=e4;obtain⟨hty,g0⟩:=aT g0;cases hty;subst g0;obtain⟨y,s',e5,⟨c',e6,e7⟩,e8⟩:=e2;rw [show s'= []from e8]at e5;rw [e5,e6,e7 _ _ _ hB]at e1;exact qh he e1 (h2.bl p _ hB).2.2.1 hpl
    .simp at e4
   .simp at e4
  .simp at e4
 |mown ty=>
  refine hend _ λe s hp=> ?_;obtain⟨ks',V',f',ds,ds',he,h2,e1,e2,e4⟩:=hopen e s hp
  have hnil:∀{ds'':List D},RDl (an {nt:=fi.nt} ks') V' [.one .nil] ds''->fi.results.mapM (cq E s)=some ds''->Ds E fi.results (Rh ty.size ty.row []) e s:=by
   intro ds'' e2 e1;obtain⟨y,s',e5,⟨c',e6,e7⟩,e8⟩:=e2;rw [show s'= []from e8]at e5;rw [e5,e6,show c'=_ from e7]at e1;exact jf (E:=E) (l:= [(true,.one (.s false 0 []))]) he e1 rfl rfl
  unfold zS at e4;simp only at e4;unfold EZ at e4;split at e4
  .cases e4;exact hnil e2 e1
  .rename_i e0 p;split at e4
   .rename_i e' l hB;split at e4
    .rename_i hpl;rw [Option.map_eq_some_iff]at e4;obtain⟨l2,g0,rfl⟩:=e4;obtain⟨hty,g0⟩:=aT g0;cases hty;subst g0;obtain⟨y,s',e5,⟨c',e6,e7⟩,e8⟩:=e2;rw [show s'= []from e8]at e5;rw [e5,e6,e7 _ _ hB]at e1
     cases l with
     |nil=>exact jf (E:=E) (l:= [(true,.one (.s false 0 []))]) he e1 rfl rfl
     |cons a l=>exact qh he e1 ((h2.bl p _ hB).2.2 (by simp)) hpl
    .simp at e4
   .simp at e4
  .rename_i e0 p;split at e4
   .rename_i e' ne l hB;split at e4
    .rename_i hpl;rw [Bool.and_eq_true]at hpl;rw [Option.map_eq_some_iff]at e4;obtain⟨l2,g0,rfl⟩:=e4;obtain⟨hty,g0⟩:=aT g0;cases hty;subst g0;obtain⟨y,s',e5,⟨c',e6,e7⟩,e8⟩:=e2;rw [show s'= []from e8]at e5;rw [e5,e6,e7 _ _ _ hB]at e1;obtain⟨w1,w2,w3,w4⟩:=h2.bl p _ hB
     cases l with
     |nil=>exact absurd rfl (w4 hpl.2)
     |cons a l=>exact qh he e1 w3 hpl.1
    .simp at e4
   .simp at e4
  .simp at e4
 |gown ty=>
  refine hend _ λe s hp=> ?_;obtain⟨ks',V',f',ds,ds',he,h2,e1,e2,e4⟩:=hopen e s hp;unfold zS at e4;simp only at e4;unfold Fc at e4;split at e4
  .cases e4;obtain⟨y,s',e5,⟨c',e6,e7⟩,e8⟩:=e2;rw [show s'= []from e8]at e5;rw [e5,e6,show c'=_ from e7]at e1;exact jf (E:=E) (l:= [(true,.one (.s false 0 []))]) he e1 rfl rfl
  .rename_i e0 p;split at e4
   .rename_i e' l hB;split at e4
    .rename_i hpl;rw [Option.map_eq_some_iff]at e4;obtain⟨l2,g0,rfl⟩:=e4;obtain⟨hty,g0⟩:=aT g0;cases hty;subst g0;obtain⟨y,s',e5,⟨c',e6,e7⟩,e8⟩:=e2;rw [show s'= []from e8]at e5;rw [e5,e6,e7 _ _ hB]at e1
     cases l with
     |nil=>exact jf (E:=E) (l:= [(true,.one (.s false 0 []))]) he e1 rfl rfl
     |cons a l=>exact qh he e1 ((h2.bl p _ hB).2.2 (by simp)) hpl
    .simp at e4
   .simp at e4
  .rename_i e0 p;split at e4
   .rename_i e' ne l hB;split at e4
    .rename_i hpl;rw [Option.map_eq_some_iff]at e4;obtain⟨l2,g0,rfl⟩:=e4;obtain⟨hty,g0⟩:=aT g0;cases hty;subst g0;obtain⟨y,s',e5,⟨c',e6,e7⟩,e8⟩:=e2;rw [show s'= []from e8]at e5;rw [e5,e6,e7 _ _ _ hB]at e1;exact qh he e1 (h2.bl p _ hB).2.2.1 hpl
    .simp at e4
   .simp at e4
  .simp at e4
end
end K
end Ev
end
noncomputable section
namespace Ev
namespace K
open Go Go.RowKit
def PU(E:Env)(D:Nat):List aV->Prop
 | []=>True
 |e::r=>(e.d<=D/\aC E e)/\PU E D r
def PV(E:Env):List (FuncId×FI)->Prop
 | []=>True
 |x::r=>(E.fn x.1=some x.2/\E.ax x.1=some λ_=>none)/\PV E r
def Kt(E:Env):List (Nat×TI)->Prop
 | []=>True
 |x::r=>E.ti x.1=some x.2/\Kt E r
def Ku(P:Program):List (Nat×List IntKind)->Prop
 | []=>True
 |x::r=>JW P x.1 x.2/\Ku P r
theorem Cs{E:Env}{D:Nat}:∀{l:List aV},PU E D l->∀e∈l,e.d<=D/\aC E e
 | [],_,e,h=>by simp at h
 |a::l,⟨h1,h2⟩,e,h=>by
  rcases List.mem_cons.1 h with rfl|h
  .exact h1
  .exact Cs h2 e h
theorem yF{E:Env}:∀{l:List (FuncId×FI)},PV E l->∀k f,ak l k=some f->E.fn k=some f/\E.ax k=some λ_=>none
 | [],_,k,f,h=>by simp [ak]at h
 |a::l,⟨h1,h2⟩,k,f,h=>by
  rw [show a::l=(a.1,a.2)::l from rfl,al]at h;split at h
  .rename_i hk;cases h;subst hk;exact h1
  .exact yF h2 k f h
theorem yG{E:Env}:∀{l:List (Nat×TI)},Kt E l->∀k f,ak l k=some f->E.ti k=some f
 | [],_,k,f,h=>by simp [ak]at h
 |a::l,⟨h1,h2⟩,k,f,h=>by
  rw [show a::l=(a.1,a.2)::l from rfl,al]at h;split at h
  .rename_i hk;cases h;subst hk;exact h1
  .exact yG h2 k f h
theorem yH{P:Program}:∀{l:List (Nat×List IntKind)},Ku P l->∀k f,ak l k=some f->JW P k f
 | [],_,k,f,h=>by simp [ak]at h
 |a::l,⟨h1,h2⟩,k,f,h=>by
  rw [show a::l=(a.1,a.2)::l from rfl,al]at h;split at h
  .rename_i hk;cases h;subst hk;exact h1
  .exact yH h2 k f h
theorem gok{E:Env}{D:Nat}{tt:List (Nat×TI)}{eqs:List (Nat×List IntKind)}{fns:List aV}{fi:List (FuncId×FI)}(hE:E.Ok)(ht:Kt E tt)(hq:Ku E.P eqs)(hf:PU E D fns)(hi:PV E fi):GOk ⟨tt,eqs,fns,fi⟩ E D:=⟨hE,yG ht,yH hq,Cs hf,yF hi⟩
def mkE(G:KG)(A:cP)(fi:FI)(k:FuncId)(c:Nat)(ins:List TyD)(out:OutK)(d:Nat):aV:=⟨k,ins,out,dj G A fi k c ins out,d⟩
theorem aW{E:Env}{D:Nat}{G:KG}{A:cP}{fi:FI}{k:FuncId}{c:Nat}{ins:List TyD}{out:OutK}{d:Nat}(hG:GOk G E D)(hax:E.ax k=none)(hf:E.fn k=some fi)(hl:Nat.ble ins.length fi.nt=true)(hd:D+c+1=d):aC E (mkE G A fi k c ins out d):=λm a o h=>by
 subst hd;exact Ml hG A hax hf (Nat.le_of_ble_eq_true hl) h m
def fiF(f:Func):FI:=⟨f.ntmps,f.results.toList,f.body.getD .skip⟩
theorem bM{P:Program}{k:FuncId}{f:Func}{b:Code}(h:P.funcs[k]? =some f)(hb:f.body=some b):Lt P k=some (fiF f):=by
 unfold Lt fiF;rw [h];simp only [hb];rfl
theorem Fw{P:Program}{ty:TypeId}{k0 k1:IntKind}(h:∀(x y:Operand) (a0 b0 a1 b1:Int),ao P (do eqGuard .eql ty x y (.agg #[.int k0 a0,.int k1 a1]) (.agg #[.int k0 b0,.int k1 b1]);binOp .eql ty (.agg #[.int k0 a0,.int k1 a1]) (.agg #[.int k0 b0,.int k1 b1]))=some (.bool (a0==b0 &&(a1==b1 && true))))
  (h':∀(x y:Operand) (a0 b0 a1 b1:Int),ao P (do eqGuard .neq ty x y (.agg #[.int k0 a0,.int k1 a1]) (.agg #[.int k0 b0,.int k1 b1]);binOp .neq ty (.agg #[.int k0 a0,.int k1 a1]) (.agg #[.int k0 b0,.int k1 b1]))=some (.bool (!(a0==b0 &&(a1==b1 && true))))):JW P ty [k0,k1]:=λx y l hl=>by
 match l,hl with
 | [(a0,b0),(a1,b1)],_=>
  have e:(a0==b0 &&(a1==b1 && true))= @decide (eqP [(a0,b0),(a1,b1)]) (eqD [(a0,b0),(a1,b1)]):=eE (by simp [eqP]);exact⟨(h x y a0 b0 a1 b1).trans (by rw [e]),(h' x y a0 b0 a1 b1).trans (by rw [e])⟩
theorem Fx{P:Program}{ty:TypeId}{k0 k1 k2:IntKind}(h:∀(x y:Operand) (a0 b0 a1 b1 a2 b2:Int),ao P (do eqGuard .eql ty x y (.agg #[.int k0 a0,.int k1 a1,.int k2 a2]) (.agg #[.int k0 b0,.int k1 b1,.int k2 b2]);binOp .eql ty (.agg #[.int k0 a0,.int k1 a1,.int k2 a2]) (.agg #[.int k0 b0,.int k1 b1,.int k2 b2]))=some (.bool (a0==b0 &&(a1==b1 &&(a2==b2 && true)))))
  (h':∀(x y:Operand) (a0 b0 a1 b1 a2 b2:Int),ao P (do eqGuard .neq ty x y (.agg #[.int k0 a0,.int k1 a1,.int k2 a2]) (.agg #[.int k0 b0,.int k1 b1,.int k2 b2]);binOp .neq ty (.agg #[.int k0 a0,.int k1 a1,.int k2 a2]) (.agg #[.int k0 b0,.int k1 b1,.int k2 b2]))=some (.bool (!(a0==b0 &&(a1==b1 &&(a2==b2 && true)))))):JW P ty [k0,k1,k2]:=λx y l hl=>by
 match l,hl with
 | [(a0,b0),(a1,b1),(a2,b2)],_=>
  have e:(a0==b0 &&(a1==b1 &&(a2==b2 && true)))= @decide (eqP [(a0,b0),(a1,b1),(a2,b2)]) (eqD [(a0,b0),(a1,b1),(a2,b2)]):=eE (by simp [eqP]);exact⟨(h x y a0 b0 a1 b1 a2 b2).trans (by rw [e]),(h' x y a0 b0 a1 b1 a2 b2).trans (by rw [e])⟩
end K
@[reducible] def nE {R:Type} (v:Empty):Option R:=K.afterX.match_1 (λ_=>Option R) v
end Ev
end
noncomputable section
namespace Ev
namespace K
open Go Go.RowKit
set_option maxRecDepth 100000
set_option maxHeartbeats 1000000
def i1:TI:=(⟨.func #[] #[] false,[.nilFunc],1,8⟩:TI)
def i4:TI:=(⟨.bool,[.bool false],1,1⟩:TI)
def i7:TI:=(⟨.struct (cI Tryz.prog 7),[.int .i64 0,.int .i64 0,.bool false,.int .u8 0],4,24⟩:TI)
def i8:TI:=(⟨.struct (cI Tryz.prog 8),[.int .i64 0,.int .i64 0,.bool false,.int .u8 0],4,24⟩:TI)
def i15:TI:=(⟨.pointer 170,[.pointer none],1,8⟩:TI)
def i16:TI:=(⟨.pointer 173,[.pointer none],1,8⟩:TI)
def i17:TI:=(⟨.pointer 181,[.pointer none],1,8⟩:TI)
def i18:TI:=(⟨.struct (cI Tryz.prog 18),[.pointer none],1,8⟩:TI)
def i19:TI:=(⟨.struct (cI Tryz.prog 19),[.pointer none],1,8⟩:TI)
def i22:TI:=(⟨.slice 52,[.slice none 0 0],1,24⟩:TI)
def i23:TI:=(⟨.struct (cI Tryz.prog 23),[.int .i64 0,.slice none 0 0],2,32⟩:TI)
def i24:TI:=(⟨.struct (cI Tryz.prog 24),[.int .i64 0,.slice none 0 0],2,32⟩:TI)
def i25:TI:=(⟨.func #[] #[4] false,[.nilFunc],1,8⟩:TI)
def i26:TI:=(⟨.slice 5,[.slice none 0 0],1,24⟩:TI)
def i29:TI:=(⟨.func #[24] #[26,27] false,[.nilFunc],1,8⟩:TI)
def i30:TI:=(⟨.func #[26,26] #[4] false,[.nilFunc],1,8⟩:TI)
def i31:TI:=(⟨.func #[24] #[4] false,[.nilFunc],1,8⟩:TI)
def i32:TI:=(⟨.struct (cI Tryz.prog 32),[.int .i64 0,.int .i64 0],2,16⟩:TI)
def i33:TI:=(⟨.struct (cI Tryz.prog 33),[.int .i64 0,.int .i64 0],2,16⟩:TI)
def i35:TI:=(⟨.func #[26] #[24,33] false,[.nilFunc],1,8⟩:TI)
def i36:TI:=(⟨.func #[24,24] #[4] false,[.nilFunc],1,8⟩:TI)
def i37:TI:=(⟨.func #[26] #[4] false,[.nilFunc],1,8⟩:TI)
def i38:TI:=(⟨.func #[24] #[27] false,[.nilFunc],1,8⟩:TI)
def i39:TI:=(⟨.func #[22] #[4] false,[.nilFunc],1,8⟩:TI)
def i40:TI:=(⟨.array 2 3,[.int .i64 0,.int .i64 0],2,16⟩:TI)
def i41:TI:=(⟨.slice 54,[.slice none 0 0],1,24⟩:TI)
def i42:TI:=(⟨.func #[3,3,41] #[26,27] false,[.nilFunc],1,8⟩:TI)
def i44:TI:=(⟨.func #[26] #[3,3,41,33] false,[.nilFunc],1,8⟩:TI)
def i45:TI:=(⟨.func #[41,41] #[4] false,[.nilFunc],1,8⟩:TI)
def i46:TI:=(⟨.func #[40,41,26] #[4] false,[.nilFunc],1,8⟩:TI)
def i47:TI:=(⟨.func #[24] #[24] false,[.nilFunc],1,8⟩:TI)
def i48:TI:=(⟨.func #[24,26] #[4] false,[.nilFunc],1,8⟩:TI)
def i49:TI:=(⟨.int .u16,[.int .u16 0],1,2⟩:TI)
def i50:TI:=(⟨.func #[24,49,26] #[4] false,[.nilFunc],1,8⟩:TI)
def i51:TI:=(⟨.struct (cI Tryz.prog 51),[.int .i64 0,.int .i64 0,.int .i64 0],3,24⟩:TI)
def i52:TI:=(⟨.struct (cI Tryz.prog 52),[.int .i64 0,.int .i64 0,.int .i64 0],3,24⟩:TI)
def i53:TI:=(⟨.struct (cI Tryz.prog 53),[.int .i64 0,.int .i64 0,.int .i64 0],3,24⟩:TI)
def i54:TI:=(⟨.struct (cI Tryz.prog 54),[.int .i64 0,.int .i64 0,.int .i64 0],3,24⟩:TI)
def i55:TI:=(⟨.func #[22] #[5] false,[.nilFunc],1,8⟩:TI)
def i56:TI:=(⟨.func #[5] #[26] false,[.nilFunc],1,8⟩:TI)
def i57:TI:=(⟨.func #[89] #[26] true,[.nilFunc],1,8⟩:TI)
def i58:TI:=(⟨.func #[59] #[26] false,[.nilFunc],1,8⟩:TI)
def i59:TI:=(⟨.int .u32,[.int .u32 0],1,4⟩:TI)
def i60:TI:=(⟨.func #[26,61] #[24,33] false,[.nilFunc],1,8⟩:TI)
def i61:TI:=(⟨.func #[98] #[24] false,[.nilFunc],1,8⟩:TI)
def i62:TI:=(⟨.pointer 105,[.pointer none],1,8⟩:TI)
def i63:TI:=(⟨.func #[26] #[62] false,[.nilFunc],1,8⟩:TI)
def i64:TI:=(⟨.func #[62,9] #[] false,[.nilFunc],1,8⟩:TI)
def i65:TI:=(⟨.func #[] #[3] false,[.nilFunc],1,8⟩:TI)
def i66:TI:=(⟨.func #[] #[5] false,[.nilFunc],1,8⟩:TI)
def i67:TI:=(⟨.func #[27,3] #[] false,[.nilFunc],1,8⟩:TI)
def i68:TI:=(⟨.func #[62,3,27] #[3] false,[.nilFunc],1,8⟩:TI)
def i69:TI:=(⟨.func #[] #[33] false,[.nilFunc],1,8⟩:TI)
def i70:TI:=(⟨.func #[22,22] #[4] false,[.nilFunc],1,8⟩:TI)
def i71:TI:=(⟨.func #[52,52] #[4] false,[.nilFunc],1,8⟩:TI)
def i72:TI:=(⟨.func #[3,3,41] #[27] false,[.nilFunc],1,8⟩:TI)
def i73:TI:=(⟨.func #[2] #[26] false,[.nilFunc],1,8⟩:TI)
def i74:TI:=(⟨.func #[54,54] #[4] false,[.nilFunc],1,8⟩:TI)
def i75:TI:=(⟨.struct (cI Tryz.prog 75),[.int .i64 0,.int .i64 0,.slice none 0 0],3,40⟩:TI)
def i76:TI:=(⟨.struct (cI Tryz.prog 76),[.int .i64 0,.int .i64 0,.slice none 0 0],3,40⟩:TI)
def i78:TI:=(⟨.func #[26,79] #[76,33] false,[.nilFunc],1,8⟩:TI)
def i79:TI:=(⟨.func #[98] #[76] false,[.nilFunc],1,8⟩:TI)
def i80:TI:=(⟨.func #[] #[2] false,[.nilFunc],1,8⟩:TI)
def i82:TI:=(⟨.func #[83,22] #[22,27] false,[.nilFunc],1,8⟩:TI)
def i84:TI:=(⟨.func #[22,86] #[4] false,[.nilFunc],1,8⟩:TI)
def i85:TI:=(⟨.func #[3,3] #[4] false,[.nilFunc],1,8⟩:TI)
def i86:TI:=(⟨.func #[52] #[4] false,[.nilFunc],1,8⟩:TI)
def i87:TI:=(⟨.func #[52,52] #[3] false,[.nilFunc],1,8⟩:TI)
def i88:TI:=(⟨.func #[5,3] #[26] false,[.nilFunc],1,8⟩:TI)
def i89:TI:=(⟨.slice 3,[.slice none 0 0],1,24⟩:TI)
def i90:TI:=(⟨.func #[91,3] #[26] false,[.nilFunc],1,8⟩:TI)
def i92:TI:=(⟨.struct (cI Tryz.prog 92),[.int .i64 0,.int .i64 0],2,16⟩:TI)
def i93:TI:=(⟨.struct (cI Tryz.prog 93),[.int .i64 0,.int .i64 0],2,16⟩:TI)
def i95:TI:=(⟨.pointer 127,[.pointer none],1,8⟩:TI)
def i96:TI:=(⟨.func #[26] #[95] false,[.nilFunc],1,8⟩:TI)
def i97:TI:=(⟨.struct (cI Tryz.prog 97),[.pointer none],1,8⟩:TI)
def i98:TI:=(⟨.struct (cI Tryz.prog 98),[.pointer none],1,8⟩:TI)
def i99:TI:=(⟨.func #[4,27,3] #[] false,[.nilFunc],1,8⟩:TI)
def Ro:TI:=(⟨.func #[9] #[] false,[.nilFunc],1,8⟩:TI)
def Rp:TI:=(⟨.func #[3,27] #[3] false,[.nilFunc],1,8⟩:TI)
def Rq:TI:=(⟨.func #[3,103] #[22] false,[.nilFunc],1,8⟩:TI)
def Rr:TI:=(⟨.func #[3] #[52] false,[.nilFunc],1,8⟩:TI)
def Rs:TI:=(⟨.struct (cI Tryz.prog 104),[.slice none 0 0,.int .i64 0,.int .i64 0,.int .i64 0],4,48⟩:TI)
def Rt:TI:=(⟨.struct (cI Tryz.prog 105),[.slice none 0 0,.int .i64 0,.int .i64 0,.int .i64 0],4,48⟩:TI)
def Ru:TI:=(⟨.func #[3] #[26] false,[.nilFunc],1,8⟩:TI)
def Rv:TI:=(⟨.func #[3] #[91] false,[.nilFunc],1,8⟩:TI)
def Rw:TI:=(⟨.func #[] #[59] false,[.nilFunc],1,8⟩:TI)
def Rx:TI:=(⟨.func #[2,3] #[26] false,[.nilFunc],1,8⟩:TI)
def Ry:TI:=(⟨.func #[3,111] #[41] false,[.nilFunc],1,8⟩:TI)
def Rz:TI:=(⟨.func #[3] #[54] false,[.nilFunc],1,8⟩:TI)
def RA:TI:=(⟨.func #[83] #[4] false,[.nilFunc],1,8⟩:TI)
def RE:TI:=(⟨.slice 115,[.slice none 0 0],1,24⟩:TI)
def RF:TI:=(⟨.struct (cI Tryz.prog 114),[.int .i64 0,.int .u64 0],2,16⟩:TI)
def RH:TI:=(⟨.struct (cI Tryz.prog 115),[.int .i64 0,.int .u64 0],2,16⟩:TI)
def RI:TI:=(⟨.func #[2] #[115] false,[.nilFunc],1,8⟩:TI)
def RJ:TI:=(⟨.func #[83,115,115] #[115] false,[.nilFunc],1,8⟩:TI)
def RK:TI:=(⟨.func #[115] #[2,4] false,[.nilFunc],1,8⟩:TI)
def RL:TI:=(⟨.func #[22,86] #[3] false,[.nilFunc],1,8⟩:TI)
def RM:TI:=(⟨.func #[89] #[3] true,[.nilFunc],1,8⟩:TI)
def RN:TI:=(⟨.func #[3,3] #[3] false,[.nilFunc],1,8⟩:TI)
def RO:TI:=(⟨.func #[59,3] #[26] false,[.nilFunc],1,8⟩:TI)
def RP:TI:=(⟨.func #[26] #[26] false,[.nilFunc],1,8⟩:TI)
def RQ:TI:=(⟨.struct (cI Tryz.prog 126),[.slice none 0 0,.int .i64 0,.int .i64 0,.int .i64 0],4,48⟩:TI)
def RT:TI:=(⟨.struct (cI Tryz.prog 127),[.slice none 0 0,.int .i64 0,.int .i64 0,.int .i64 0],4,48⟩:TI)
def RU:TI:=(⟨.func #[95,3,129] #[5] false,[.nilFunc],1,8⟩:TI)
def RV:TI:=(⟨.func #[26] #[5] false,[.nilFunc],1,8⟩:TI)
def RY:TI:=(⟨.func #[95,3,131] #[2] false,[.nilFunc],1,8⟩:TI)
def RZ:TI:=(⟨.func #[26] #[2] false,[.nilFunc],1,8⟩:TI)
def Sf:TI:=(⟨.func #[115,115] #[3] false,[.nilFunc],1,8⟩:TI)
def Sg:TI:=(⟨.func #[4] #[115] false,[.nilFunc],1,8⟩:TI)
def Si:TI:=(⟨.func #[115,115] #[115] false,[.nilFunc],1,8⟩:TI)
def Sj:TI:=(⟨.func #[3] #[4] false,[.nilFunc],1,8⟩:TI)
def Sk:TI:=(⟨.func #[95,3,125] #[26] false,[.nilFunc],1,8⟩:TI)
def Sn:TI:=(⟨.struct (cI Tryz.prog 137),[.int .i64 0,.int .i64 0],2,16⟩:TI)
def So:TI:=(⟨.struct (cI Tryz.prog 138),[.int .i64 0,.int .i64 0],2,16⟩:TI)
def Sp:TI:=(⟨.func #[95,3,141] #[59] false,[.nilFunc],1,8⟩:TI)
def Sq:TI:=(⟨.func #[26] #[59] false,[.nilFunc],1,8⟩:TI)
def Sr:TI:=(⟨.func #[22] #[22] false,[.nilFunc],1,8⟩:TI)
def Ss:TI:=(⟨.func #[83,115] #[2,4] false,[.nilFunc],1,8⟩:TI)
def Su:TI:=(⟨.func #[22,87] #[] false,[.nilFunc],1,8⟩:TI)
def Sv:TI:=(⟨.func #[22,3,3,3,87] #[] false,[.nilFunc],1,8⟩:TI)
def Sw:TI:=(⟨.func #[123] #[3] false,[.nilFunc],1,8⟩:TI)
def Sy:TI:=(⟨.func #[22,3,3,87] #[] false,[.nilFunc],1,8⟩:TI)
def Sz:TI:=(⟨.func #[22,3,3,87] #[3,150] false,[.nilFunc],1,8⟩:TI)
def SA:TI:=(⟨.func #[22,3,3,87] #[4] false,[.nilFunc],1,8⟩:TI)
def SB:TI:=(⟨.func #[22,3,3,3,87] #[3] false,[.nilFunc],1,8⟩:TI)
def SC:TI:=(⟨.func #[22,3,3,3,87] #[3,4] false,[.nilFunc],1,8⟩:TI)
def SD:TI:=(⟨.func #[59] #[3] false,[.nilFunc],1,8⟩:TI)
def SE:TI:=(⟨.func #[91] #[3] false,[.nilFunc],1,8⟩:TI)
def SF:TI:=(⟨.func #[3] #[123] false,[.nilFunc],1,8⟩:TI)
def SG:TI:=(⟨.func #[] #[91] false,[.nilFunc],1,8⟩:TI)
def SH:TI:=(⟨.func #[22,3,163,87] #[3] false,[.nilFunc],1,8⟩:TI)
def SI:TI:=(⟨.pointer 3,[.pointer none],1,8⟩:TI)
def SJ:TI:=(⟨.func #[22,3,3,3,163,87] #[3] false,[.nilFunc],1,8⟩:TI)
def SK:TI:=(⟨.pointer 159,[.pointer none],1,8⟩:TI)
def SM:TI:=(⟨.func #[22,3,3,163,87] #[3,3] false,[.nilFunc],1,8⟩:TI)
def SN:TI:=(⟨.func #[] #[9] false,[.nilFunc],1,8⟩:TI)
def SO:TI:=(⟨.array 0 16,[],0,0⟩:TI)
def SP:TI:=(⟨.struct (cI Tryz.prog 172),[],0,0⟩:TI)
def SQ:TI:=(⟨.struct (cI Tryz.prog 173),[],0,0⟩:TI)
def SR:TI:=(⟨.func #[182,182] #[4] false,[.nilFunc],1,8⟩:TI)
def SS:TI:=(⟨.pointer 5,[.pointer none],1,8⟩:TI)
def ST:TI:=(⟨.struct (cI Tryz.prog 180),[.int .u64 0,.int .u64 0,.int .u32 0,.int .u8 0,.int .u8 0,.int .u8 0,.int .u8 0,.nilFunc,.pointer none,.int .i32 0,.int .i32 0],11,48⟩:TI)
def SU:TI:=(⟨.struct (cI Tryz.prog 181),[.int .u64 0,.int .u64 0,.int .u32 0,.int .u8 0,.int .u8 0,.int .u8 0,.int .u8 0,.nilFunc,.pointer none,.int .i32 0,.int .i32 0],11,48⟩:TI)
def TT:List (Nat×TI):= [(1,i1),
 (2,(⟨.int .i64,[.int .i64 0],1,8⟩:TI)),
 (3,(⟨.int .i64,[.int .i64 0],1,8⟩:TI)),
 (4,i4),
 (5,(⟨.int .u8,[.int .u8 0],1,1⟩:TI)),
 (6,(⟨.int .u8,[.int .u8 0],1,1⟩:TI)),
 (7,i7),
 (8,i8),
 (12,(⟨.int .u64,[.int .u64 0],1,8⟩:TI)),
 (15,i15),
 (16,i16),
 (17,i17),
 (18,i18),
 (19,i19),
 (21,(⟨.int .i32,[.int .i32 0],1,4⟩:TI)),
 (22,i22),
 (23,i23),
 (24,i24),
 (25,i25),
 (26,i26),
 (27,(⟨.int .i64,[.int .i64 0],1,8⟩:TI)),
 (29,i29),
 (30,i30),
 (31,i31),
 (32,i32),
 (33,i33),
 (35,i35),
 (36,i36),
 (37,i37),
 (38,i38),
 (39,i39),
 (40,i40),
 (41,i41),
 (42,i42),
 (44,i44),
 (45,i45),
 (46,i46),
 (47,i47),
 (48,i48),
 (49,i49),
 (50,i50),
 (51,i51),
 (52,i52),
 (53,i53),
 (54,i54),
 (55,i55),
 (56,i56),
 (57,i57),
 (58,i58),
 (59,i59),
 (60,i60),
 (61,i61),
 (62,i62),
 (63,i63),
 (64,i64),
 (65,i65),
 (66,i66),
 (67,i67),
 (68,i68),
 (69,i69),
 (70,i70),
 (71,i71),
 (72,i72),
 (73,i73),
 (74,i74),
 (75,i75),
 (76,i76),
 (78,i78),
 (79,i79),
 (80,i80),
 (82,i82),
 (83,(⟨.int .i64,[.int .i64 0],1,8⟩:TI)),
 (84,i84),
 (85,i85),
 (86,i86),
 (87,i87),
 (88,i88),
 (89,i89),
 (90,i90),
 (91,(⟨.int .u64,[.int .u64 0],1,8⟩:TI)),
 (92,i92),
 (93,i93),
 (95,i95),
 (96,i96),
 (97,i97),
 (98,i98),
 (99,i99),
 (100,Ro),
 (101,Rp),
 (102,Rq),
 (103,Rr),
 (104,Rs),
 (105,Rt),
 (106,Ru),
 (107,Rv),
 (108,Rw),
 (109,Rx),
 (110,Ry),
 (111,Rz),
 (112,RA),
 (113,RE),
 (114,RF),
 (115,RH),
 (116,RI),
 (117,RJ),
 (119,RK),
 (120,RL),
 (121,RM),
 (122,RN),
 (123,(⟨.int .u64,[.int .u64 0],1,8⟩:TI)),
 (124,RO),
 (125,RP),
 (126,RQ),
 (127,RT),
 (128,RU),
 (129,RV),
 (130,RY),
 (131,RZ),
 (132,Sf),
 (133,Sg),
 (134,Si),
 (135,Sj),
 (136,Sk),
 (137,Sn),
 (138,So),
 (140,Sp),
 (141,Sq),
 (142,Sr),
 (145,Ss),
 (146,Su),
 (147,Sv),
 (148,Sw),
 (149,Sy),
 (150,(⟨.int .i64,[.int .i64 0],1,8⟩:TI)),
 (152,Sz),
 (153,SA),
 (154,SB),
 (156,SC),
 (157,SD),
 (158,SE),
 (159,(⟨.int .u64,[.int .u64 0],1,8⟩:TI)),
 (160,SF),
 (161,SG),
 (162,SH),
 (163,SI),
 (164,SJ),
 (165,SK),
 (167,SM),
 (168,SN),
 (171,SO),
 (172,SP),
 (173,SQ),
 (174,(⟨.int .u8,[.int .u8 0],1,1⟩:TI)),
 (175,(⟨.int .u8,[.int .u8 0],1,1⟩:TI)),
 (176,SR),
 (177,SS),
 (178,(⟨.int .i32,[.int .i32 0],1,4⟩:TI)),
 (179,(⟨.int .i32,[.int .i32 0],1,4⟩:TI)),
 (180,ST),
 (181,SU)]
theorem tz1:aq Tryz.prog 1=some i1:=by kernel_rfl
theorem tz2:aq Tryz.prog 2=some (⟨.int .i64,[.int .i64 0],1,8⟩:TI):=by kernel_rfl
theorem tz3:aq Tryz.prog 3=some (⟨.int .i64,[.int .i64 0],1,8⟩:TI):=by kernel_rfl
theorem tz4:aq Tryz.prog 4=some i4:=by kernel_rfl
theorem tz5:aq Tryz.prog 5=some (⟨.int .u8,[.int .u8 0],1,1⟩:TI):=by kernel_rfl
theorem tz6:aq Tryz.prog 6=some (⟨.int .u8,[.int .u8 0],1,1⟩:TI):=by kernel_rfl
theorem tz7:aq Tryz.prog 7=some i7:=by kernel_rfl
theorem tz8:aq Tryz.prog 8=some i8:=by kernel_rfl
theorem SV:aq Tryz.prog 12=some (⟨.int .u64,[.int .u64 0],1,8⟩:TI):=by kernel_rfl
theorem SW:aq Tryz.prog 15=some i15:=by kernel_rfl
theorem SX:aq Tryz.prog 16=some i16:=by kernel_rfl
theorem SY:aq Tryz.prog 17=some i17:=by kernel_rfl
theorem SZ:aq Tryz.prog 18=some i18:=by kernel_rfl
theorem Ta:aq Tryz.prog 19=some i19:=by kernel_rfl
theorem Tb:aq Tryz.prog 21=some (⟨.int .i32,[.int .i32 0],1,4⟩:TI):=by kernel_rfl
theorem Tc:aq Tryz.prog 22=some i22:=by kernel_rfl
theorem Td:aq Tryz.prog 23=some i23:=by kernel_rfl
theorem Te:aq Tryz.prog 24=some i24:=by kernel_rfl
theorem Tf:aq Tryz.prog 25=some i25:=by kernel_rfl
theorem Tg:aq Tryz.prog 26=some i26:=by kernel_rfl
theorem Ti:aq Tryz.prog 27=some (⟨.int .i64,[.int .i64 0],1,8⟩:TI):=by kernel_rfl
theorem Tj:aq Tryz.prog 29=some i29:=by kernel_rfl
theorem Tk:aq Tryz.prog 30=some i30:=by kernel_rfl
theorem Tl:aq Tryz.prog 31=some i31:=by kernel_rfl
theorem Tm:aq Tryz.prog 32=some i32:=by kernel_rfl
theorem Tn:aq Tryz.prog 33=some i33:=by kernel_rfl
theorem To:aq Tryz.prog 35=some i35:=by kernel_rfl
theorem Tp:aq Tryz.prog 36=some i36:=by kernel_rfl
theorem Tq:aq Tryz.prog 37=some i37:=by kernel_rfl
theorem Tr:aq Tryz.prog 38=some i38:=by kernel_rfl
theorem Ts:aq Tryz.prog 39=some i39:=by kernel_rfl
theorem Tt:aq Tryz.prog 40=some i40:=by kernel_rfl
theorem Tu:aq Tryz.prog 41=some i41:=by kernel_rfl
theorem Tv:aq Tryz.prog 42=some i42:=by kernel_rfl
theorem Tw:aq Tryz.prog 44=some i44:=by kernel_rfl
theorem Tx:aq Tryz.prog 45=some i45:=by kernel_rfl
theorem Tz:aq Tryz.prog 46=some i46:=by kernel_rfl
theorem TA:aq Tryz.prog 47=some i47:=by kernel_rfl
theorem TB:aq Tryz.prog 48=some i48:=by kernel_rfl
theorem TC:aq Tryz.prog 49=some i49:=by kernel_rfl
theorem TE:aq Tryz.prog 50=some i50:=by kernel_rfl
theorem TF:aq Tryz.prog 51=some i51:=by kernel_rfl
theorem TG:aq Tryz.prog 52=some i52:=by kernel_rfl
theorem TH:aq Tryz.prog 53=some i53:=by kernel_rfl
theorem TJ:aq Tryz.prog 54=some i54:=by kernel_rfl
theorem TK:aq Tryz.prog 55=some i55:=by kernel_rfl
theorem TL:aq Tryz.prog 56=some i56:=by kernel_rfl
theorem TM:aq Tryz.prog 57=some i57:=by kernel_rfl
theorem TN:aq Tryz.prog 58=some i58:=by kernel_rfl
theorem TO:aq Tryz.prog 59=some i59:=by kernel_rfl
theorem TP:aq Tryz.prog 60=some i60:=by kernel_rfl
theorem TQ:aq Tryz.prog 61=some i61:=by kernel_rfl
theorem TR:aq Tryz.prog 62=some i62:=by kernel_rfl
theorem TS:aq Tryz.prog 63=some i63:=by kernel_rfl
theorem TU:aq Tryz.prog 64=some i64:=by kernel_rfl
theorem TV:aq Tryz.prog 65=some i65:=by kernel_rfl
theorem TW:aq Tryz.prog 66=some i66:=by kernel_rfl
theorem TX:aq Tryz.prog 67=some i67:=by kernel_rfl
theorem TY:aq Tryz.prog 68=some i68:=by kernel_rfl
theorem TZ:aq Tryz.prog 69=some i69:=by kernel_rfl
theorem Ua:aq Tryz.prog 70=some i70:=by kernel_rfl
theorem Ub:aq Tryz.prog 71=some i71:=by kernel_rfl
theorem Uc:aq Tryz.prog 72=some i72:=by kernel_rfl
theorem Ud:aq Tryz.prog 73=some i73:=by kernel_rfl
theorem Ue:aq Tryz.prog 74=some i74:=by kernel_rfl
theorem Uf:aq Tryz.prog 75=some i75:=by kernel_rfl
theorem Ug:aq Tryz.prog 76=some i76:=by kernel_rfl
theorem Uh:aq Tryz.prog 78=some i78:=by kernel_rfl
theorem Ui:aq Tryz.prog 79=some i79:=by kernel_rfl
theorem Uj:aq Tryz.prog 80=some i80:=by kernel_rfl
theorem Uk:aq Tryz.prog 82=some i82:=by kernel_rfl
theorem Ul:aq Tryz.prog 83=some (⟨.int .i64,[.int .i64 0],1,8⟩:TI):=by kernel_rfl
theorem Um:aq Tryz.prog 84=some i84:=by kernel_rfl
theorem Un:aq Tryz.prog 85=some i85:=by kernel_rfl
theorem Uo:aq Tryz.prog 86=some i86:=by kernel_rfl
theorem Uq:aq Tryz.prog 87=some i87:=by kernel_rfl
theorem Ur:aq Tryz.prog 88=some i88:=by kernel_rfl
theorem Us:aq Tryz.prog 89=some i89:=by kernel_rfl
theorem Ut:aq Tryz.prog 90=some i90:=by kernel_rfl
theorem Uu:aq Tryz.prog 91=some (⟨.int .u64,[.int .u64 0],1,8⟩:TI):=by kernel_rfl
theorem Uv:aq Tryz.prog 92=some i92:=by kernel_rfl
theorem Uw:aq Tryz.prog 93=some i93:=by kernel_rfl
theorem Ux:aq Tryz.prog 95=some i95:=by kernel_rfl
theorem Uy:aq Tryz.prog 96=some i96:=by kernel_rfl
theorem Uz:aq Tryz.prog 97=some i97:=by kernel_rfl
theorem UA:aq Tryz.prog 98=some i98:=by kernel_rfl
theorem UB:aq Tryz.prog 99=some i99:=by kernel_rfl
theorem MK:aq Tryz.prog 100=some Ro:=by kernel_rfl
theorem ML:aq Tryz.prog 101=some Rp:=by kernel_rfl
theorem MM:aq Tryz.prog 102=some Rq:=by kernel_rfl
theorem MN:aq Tryz.prog 103=some Rr:=by kernel_rfl
theorem MO:aq Tryz.prog 104=some Rs:=by kernel_rfl
theorem MP:aq Tryz.prog 105=some Rt:=by kernel_rfl
theorem MQ:aq Tryz.prog 106=some Ru:=by kernel_rfl
theorem MR:aq Tryz.prog 107=some Rv:=by kernel_rfl
theorem MS:aq Tryz.prog 108=some Rw:=by kernel_rfl
theorem MT:aq Tryz.prog 109=some Rx:=by kernel_rfl
theorem MU:aq Tryz.prog 110=some Ry:=by kernel_rfl
theorem MV:aq Tryz.prog 111=some Rz:=by kernel_rfl
theorem MW:aq Tryz.prog 112=some RA:=by kernel_rfl
theorem MX:aq Tryz.prog 113=some RE:=by kernel_rfl
theorem MY:aq Tryz.prog 114=some RF:=by kernel_rfl
theorem MZ:aq Tryz.prog 115=some RH:=by kernel_rfl
theorem Na:aq Tryz.prog 116=some RI:=by kernel_rfl
theorem Nb:aq Tryz.prog 117=some RJ:=by kernel_rfl
theorem Nc:aq Tryz.prog 119=some RK:=by kernel_rfl
theorem Nd:aq Tryz.prog 120=some RL:=by kernel_rfl
theorem Nf:aq Tryz.prog 121=some RM:=by kernel_rfl
theorem Ng:aq Tryz.prog 122=some RN:=by kernel_rfl
theorem Nh:aq Tryz.prog 123=some (⟨.int .u64,[.int .u64 0],1,8⟩:TI):=by kernel_rfl
theorem Ni:aq Tryz.prog 124=some RO:=by kernel_rfl
theorem Nj:aq Tryz.prog 125=some RP:=by kernel_rfl
theorem Nk:aq Tryz.prog 126=some RQ:=by kernel_rfl
theorem Nl:aq Tryz.prog 127=some RT:=by kernel_rfl
theorem Nm:aq Tryz.prog 128=some RU:=by kernel_rfl
theorem Nn:aq Tryz.prog 129=some RV:=by kernel_rfl
theorem No:aq Tryz.prog 130=some RY:=by kernel_rfl
theorem Np:aq Tryz.prog 131=some RZ:=by kernel_rfl
theorem Nq:aq Tryz.prog 132=some Sf:=by kernel_rfl
theorem Nr:aq Tryz.prog 133=some Sg:=by kernel_rfl
theorem Ns:aq Tryz.prog 134=some Si:=by kernel_rfl
theorem Nt:aq Tryz.prog 135=some Sj:=by kernel_rfl
theorem Nu:aq Tryz.prog 136=some Sk:=by kernel_rfl
theorem Nv:aq Tryz.prog 137=some Sn:=by kernel_rfl
theorem Nw:aq Tryz.prog 138=some So:=by kernel_rfl
theorem Nx:aq Tryz.prog 140=some Sp:=by kernel_rfl
theorem Ny:aq Tryz.prog 141=some Sq:=by kernel_rfl
theorem Nz:aq Tryz.prog 142=some Sr:=by kernel_rfl
theorem NA:aq Tryz.prog 145=some Ss:=by kernel_rfl
theorem NC:aq Tryz.prog 146=some Su:=by kernel_rfl
theorem ND:aq Tryz.prog 147=some Sv:=by kernel_rfl
theorem NE:aq Tryz.prog 148=some Sw:=by kernel_rfl
theorem NF:aq Tryz.prog 149=some Sy:=by kernel_rfl
theorem NG:aq Tryz.prog 150=some (⟨.int .i64,[.int .i64 0],1,8⟩:TI):=by kernel_rfl
theorem NH:aq Tryz.prog 152=some Sz:=by kernel_rfl
theorem NI:aq Tryz.prog 153=some SA:=by kernel_rfl
theorem NJ:aq Tryz.prog 154=some SB:=by kernel_rfl
theorem NK:aq Tryz.prog 156=some SC:=by kernel_rfl
theorem NL:aq Tryz.prog 157=some SD:=by kernel_rfl
theorem NM:aq Tryz.prog 158=some SE:=by kernel_rfl
theorem NN:aq Tryz.prog 159=some (⟨.int .u64,[.int .u64 0],1,8⟩:TI):=by kernel_rfl
theorem NO:aq Tryz.prog 160=some SF:=by kernel_rfl
theorem NP:aq Tryz.prog 161=some SG:=by kernel_rfl
theorem NQ:aq Tryz.prog 162=some SH:=by kernel_rfl
theorem NR:aq Tryz.prog 163=some SI:=by kernel_rfl
theorem NS:aq Tryz.prog 164=some SJ:=by kernel_rfl
theorem NT:aq Tryz.prog 165=some SK:=by kernel_rfl
theorem NU:aq Tryz.prog 167=some SM:=by kernel_rfl
theorem NV:aq Tryz.prog 168=some SN:=by kernel_rfl
theorem NW:aq Tryz.prog 171=some SO:=by kernel_rfl
theorem NX:aq Tryz.prog 172=some SP:=by kernel_rfl
theorem NY:aq Tryz.prog 173=some SQ:=by kernel_rfl
theorem NZ:aq Tryz.prog 174=some (⟨.int .u8,[.int .u8 0],1,1⟩:TI):=by kernel_rfl
theorem Oa:aq Tryz.prog 175=some (⟨.int .u8,[.int .u8 0],1,1⟩:TI):=by kernel_rfl
theorem Ob:aq Tryz.prog 176=some SR:=by kernel_rfl
theorem Oc:aq Tryz.prog 177=some SS:=by kernel_rfl
theorem Od:aq Tryz.prog 178=some (⟨.int .i32,[.int .i32 0],1,4⟩:TI):=by kernel_rfl
theorem Oe:aq Tryz.prog 179=some (⟨.int .i32,[.int .i32 0],1,4⟩:TI):=by kernel_rfl
theorem Of:aq Tryz.prog 180=some ST:=by kernel_rfl
theorem Og:aq Tryz.prog 181=some SU:=by kernel_rfl
theorem DY:Tryz.prog.follows .mixedOrders=true:=by kernel_rfl
theorem DZ:EM Tryz.prog=true:=by kernel_rfl
def ay:List TD->Option (Kind×List TD):=λ_=>none
theorem Fy(x y:Operand)(a0 b0 a1 b1:Int):ao Tryz.prog (do eqGuard .eql 33 x y (.agg #[.int .i64 a0,.int .i64 a1]) (.agg #[.int .i64 b0,.int .i64 b1]);binOp .eql 33 (.agg #[.int .i64 a0,.int .i64 a1]) (.agg #[.int .i64 b0,.int .i64 b1]))=some (.bool ((a0==b0 &&(a1==b1 && true)))):=by
 refine pQ (by kernel_rfl) ((eb 9999 33 #[.int .i64 a0,.int .i64 a1] #[.int .i64 b0,.int .i64 b1] (fs:=cI Tryz.prog 32) (by kernel_rfl) (by kernel_rfl)).trans ?_);rw [show(cI Tryz.prog 32).toList= [fld Tryz.prog 32 0,fld Tryz.prog 32 1]by kernel_rfl];exact((bk (k:= .i64) (k':= .i64) (by kernel_rfl) (by kernel_rfl) (by kernel_rfl) (by kernel_rfl)).trans (dq ((bk (k:= .i64) (k':= .i64) (by kernel_rfl) (by kernel_rfl) (by kernel_rfl) (by kernel_rfl)).trans (dq dr))))
theorem Fz(x y:Operand)(a0 b0 a1 b1:Int):ao Tryz.prog (do eqGuard .neq 33 x y (.agg #[.int .i64 a0,.int .i64 a1]) (.agg #[.int .i64 b0,.int .i64 b1]);binOp .neq 33 (.agg #[.int .i64 a0,.int .i64 a1]) (.agg #[.int .i64 b0,.int .i64 b1]))=some (.bool (!(a0==b0 &&(a1==b1 && true)))):=by
 refine pR (by kernel_rfl) ((eb 9999 33 #[.int .i64 a0,.int .i64 a1] #[.int .i64 b0,.int .i64 b1] (fs:=cI Tryz.prog 32) (by kernel_rfl) (by kernel_rfl)).trans ?_);rw [show(cI Tryz.prog 32).toList= [fld Tryz.prog 32 0,fld Tryz.prog 32 1]by kernel_rfl];exact((bk (k:= .i64) (k':= .i64) (by kernel_rfl) (by kernel_rfl) (by kernel_rfl) (by kernel_rfl)).trans (dq ((bk (k:= .i64) (k':= .i64) (by kernel_rfl) (by kernel_rfl) (by kernel_rfl) (by kernel_rfl)).trans (dq dr))))
theorem FD(x y:Operand)(a0 b0 a1 b1 a2 b2:Int):ao Tryz.prog (do eqGuard .eql 52 x y (.agg #[.int .i64 a0,.int .i64 a1,.int .i64 a2]) (.agg #[.int .i64 b0,.int .i64 b1,.int .i64 b2]);binOp .eql 52 (.agg #[.int .i64 a0,.int .i64 a1,.int .i64 a2]) (.agg #[.int .i64 b0,.int .i64 b1,.int .i64 b2]))=some (.bool ((a0==b0 &&(a1==b1 &&(a2==b2 && true))))):=by
 refine pQ (by kernel_rfl) ((eb 9999 52 #[.int .i64 a0,.int .i64 a1,.int .i64 a2] #[.int .i64 b0,.int .i64 b1,.int .i64 b2] (fs:=cI Tryz.prog 51) (by kernel_rfl) (by kernel_rfl)).trans ?_);rw [show(cI Tryz.prog 51).toList= [fld Tryz.prog 51 0,fld Tryz.prog 51 1,fld Tryz.prog 51 2]by kernel_rfl];exact((bk (k:= .i64) (k':= .i64) (by kernel_rfl) (by kernel_rfl) (by kernel_rfl) (by kernel_rfl)).trans (dq ((bk (k:= .i64) (k':= .i64) (by kernel_rfl) (by kernel_rfl) (by kernel_rfl) (by kernel_rfl)).trans (dq ((bk (k:= .i64) (k':= .i64) (by kernel_rfl) (by kernel_rfl) (by kernel_rfl) (by kernel_rfl)).trans (dq dr))))))
theorem FE(x y:Operand)(a0 b0 a1 b1 a2 b2:Int):ao Tryz.prog (do eqGuard .neq 52 x y (.agg #[.int .i64 a0,.int .i64 a1,.int .i64 a2]) (.agg #[.int .i64 b0,.int .i64 b1,.int .i64 b2]);binOp .neq 52 (.agg #[.int .i64 a0,.int .i64 a1,.int .i64 a2]) (.agg #[.int .i64 b0,.int .i64 b1,.int .i64 b2]))=some (.bool (!(a0==b0 &&(a1==b1 &&(a2==b2 && true))))):=by
 refine pR (by kernel_rfl) ((eb 9999 52 #[.int .i64 a0,.int .i64 a1,.int .i64 a2] #[.int .i64 b0,.int .i64 b1,.int .i64 b2] (fs:=cI Tryz.prog 51) (by kernel_rfl) (by kernel_rfl)).trans ?_);rw [show(cI Tryz.prog 51).toList= [fld Tryz.prog 51 0,fld Tryz.prog 51 1,fld Tryz.prog 51 2]by kernel_rfl];exact((bk (k:= .i64) (k':= .i64) (by kernel_rfl) (by kernel_rfl) (by kernel_rfl) (by kernel_rfl)).trans (dq ((bk (k:= .i64) (k':= .i64) (by kernel_rfl) (by kernel_rfl) (by kernel_rfl) (by kernel_rfl)).trans (dq ((bk (k:= .i64) (k':= .i64) (by kernel_rfl) (by kernel_rfl) (by kernel_rfl) (by kernel_rfl)).trans (dq dr))))))
theorem FF(x y:Operand)(a0 b0 a1 b1 a2 b2:Int):ao Tryz.prog (do eqGuard .eql 54 x y (.agg #[.int .i64 a0,.int .i64 a1,.int .i64 a2]) (.agg #[.int .i64 b0,.int .i64 b1,.int .i64 b2]);binOp .eql 54 (.agg #[.int .i64 a0,.int .i64 a1,.int .i64 a2]) (.agg #[.int .i64 b0,.int .i64 b1,.int .i64 b2]))=some (.bool ((a0==b0 &&(a1==b1 &&(a2==b2 && true))))):=by
 refine pQ (by kernel_rfl) ((eb 9999 54 #[.int .i64 a0,.int .i64 a1,.int .i64 a2] #[.int .i64 b0,.int .i64 b1,.int .i64 b2] (fs:=cI Tryz.prog 53) (by kernel_rfl) (by kernel_rfl)).trans ?_);rw [show(cI Tryz.prog 53).toList= [fld Tryz.prog 53 0,fld Tryz.prog 53 1,fld Tryz.prog 53 2]by kernel_rfl];exact((bk (k:= .i64) (k':= .i64) (by kernel_rfl) (by kernel_rfl) (by kernel_rfl) (by kernel_rfl)).trans (dq ((bk (k:= .i64) (k':= .i64) (by kernel_rfl) (by kernel_rfl) (by kernel_rfl) (by kernel_rfl)).trans (dq ((bk (k:= .i64) (k':= .i64) (by kernel_rfl) (by kernel_rfl) (by kernel_rfl) (by kernel_rfl)).trans (dq dr))))))
theorem FG(x y:Operand)(a0 b0 a1 b1 a2 b2:Int):ao Tryz.prog (do eqGuard .neq 54 x y (.agg #[.int .i64 a0,.int .i64 a1,.int .i64 a2]) (.agg #[.int .i64 b0,.int .i64 b1,.int .i64 b2]);binOp .neq 54 (.agg #[.int .i64 a0,.int .i64 a1,.int .i64 a2]) (.agg #[.int .i64 b0,.int .i64 b1,.int .i64 b2]))=some (.bool (!(a0==b0 &&(a1==b1 &&(a2==b2 && true))))):=by
 refine pR (by kernel_rfl) ((eb 9999 54 #[.int .i64 a0,.int .i64 a1,.int .i64 a2] #[.int .i64 b0,.int .i64 b1,.int .i64 b2] (fs:=cI Tryz.prog 53) (by kernel_rfl) (by kernel_rfl)).trans ?_);rw [show(cI Tryz.prog 53).toList= [fld Tryz.prog 53 0,fld Tryz.prog 53 1,fld Tryz.prog 53 2]by kernel_rfl];exact((bk (k:= .i64) (k':= .i64) (by kernel_rfl) (by kernel_rfl) (by kernel_rfl) (by kernel_rfl)).trans (dq ((bk (k:= .i64) (k':= .i64) (by kernel_rfl) (by kernel_rfl) (by kernel_rfl) (by kernel_rfl)).trans (dq ((bk (k:= .i64) (k':= .i64) (by kernel_rfl) (by kernel_rfl) (by kernel_rfl) (by kernel_rfl)).trans (dq dr))))))
theorem Ct(x y:Operand)(a0 b0 a1 b1:Int):ao Tryz.prog (do eqGuard .eql 115 x y (.agg #[.int .i64 a0,.int .u64 a1]) (.agg #[.int .i64 b0,.int .u64 b1]);binOp .eql 115 (.agg #[.int .i64 a0,.int .u64 a1]) (.agg #[.int .i64 b0,.int .u64 b1]))=some (.bool ((a0==b0 &&(a1==b1 && true)))):=by
 refine pQ (by kernel_rfl) ((eb 9999 115 #[.int .i64 a0,.int .u64 a1] #[.int .i64 b0,.int .u64 b1] (fs:=cI Tryz.prog 114) (by kernel_rfl) (by kernel_rfl)).trans ?_);rw [show(cI Tryz.prog 114).toList= [fld Tryz.prog 114 0,fld Tryz.prog 114 1]by kernel_rfl];exact((bk (k:= .i64) (k':= .i64) (by kernel_rfl) (by kernel_rfl) (by kernel_rfl) (by kernel_rfl)).trans (dq ((bk (k:= .u64) (k':= .u64) (by kernel_rfl) (by kernel_rfl) (by kernel_rfl) (by kernel_rfl)).trans (dq dr))))
theorem Cu(x y:Operand)(a0 b0 a1 b1:Int):ao Tryz.prog (do eqGuard .neq 115 x y (.agg #[.int .i64 a0,.int .u64 a1]) (.agg #[.int .i64 b0,.int .u64 b1]);binOp .neq 115 (.agg #[.int .i64 a0,.int .u64 a1]) (.agg #[.int .i64 b0,.int .u64 b1]))=some (.bool (!(a0==b0 &&(a1==b1 && true)))):=by
 refine pR (by kernel_rfl) ((eb 9999 115 #[.int .i64 a0,.int .u64 a1] #[.int .i64 b0,.int .u64 b1] (fs:=cI Tryz.prog 114) (by kernel_rfl) (by kernel_rfl)).trans ?_);rw [show(cI Tryz.prog 114).toList= [fld Tryz.prog 114 0,fld Tryz.prog 114 1]by kernel_rfl];exact((bk (k:= .i64) (k':= .i64) (by kernel_rfl) (by kernel_rfl) (by kernel_rfl) (by kernel_rfl)).trans (dq ((bk (k:= .u64) (k':= .u64) (by kernel_rfl) (by kernel_rfl) (by kernel_rfl) (by kernel_rfl)).trans (dq dr))))
def EQS:List (Nat×List IntKind):= [(33,[.i64,.i64]),(52,[.i64,.i64,.i64]),(54,[.i64,.i64,.i64]),(115,[.i64,.u64])]
def fi5:FI:=fiF Tryz.f5
def UC:FI:=fiF Tryz.f11
def UD:FI:=fiF Tryz.f19
def UE:FI:=fiF Tryz.f20
def UF:FI:=fiF Tryz.f23
def UG:FI:=fiF Tryz.f24
def UH:FI:=fiF Tryz.f26
def UI:FI:=fiF Tryz.f29
def UJ:FI:=fiF Tryz.f30
def UK:FI:=fiF Tryz.f43
def UL:FI:=fiF Tryz.f44
def UM:FI:=fiF Tryz.f45
def UN:FI:=fiF Tryz.f46
def UO:FI:=fiF Tryz.f47
def UP:FI:=fiF Tryz.f51
def UQ:FI:=fiF Tryz.f56
def UR:FI:=fiF Tryz.f58
def US:FI:=fiF Tryz.f59
def UT:FI:=fiF Tryz.f75
def UU:FI:=fiF Tryz.f76
def UV:FI:=fiF Tryz.f81
def UW:FI:=fiF Tryz.f82
def UX:FI:=fiF Tryz.f83
def UY:FI:=fiF Tryz.f84
def UZ:FI:=fiF Tryz.f86
def Vc:FI:=fiF Tryz.f87
def Vd:FI:=fiF Tryz.f88
def Ve:FI:=fiF Tryz.f99
def Oh:FI:=fiF Tryz.f100
def Oi:FI:=fiF Tryz.f101
def Oj:FI:=fiF Tryz.f102
def Ol:FI:=fiF Tryz.f108
def Om:FI:=fiF Tryz.f110
def On:FI:=fiF Tryz.f111
def Oo:FI:=fiF Tryz.f112
def Oq:FI:=fiF Tryz.f117
def Ot:FI:=fiF Tryz.f118
def Ou:FI:=fiF Tryz.f119
def Ov:FI:=fiF Tryz.f120
def Ow:FI:=fiF Tryz.f123
abbrev yD4:TyD:=(true,.C (.I .i64) (.I .i64))
abbrev yD3:TyD:=(true,.C (.I .i64) (.I .u64))
abbrev yD2:TyD:=(true,.C (.I .i64) (.C (.I .i64) (.I .i64)))
abbrev yD1:TyD:=(false,.S (.C (.I .i64) (.C (.I .i64) (.I .i64))))
abbrev yD0:TyD:=(true,.C (.I .i64) (.S (.C (.I .i64) (.C (.I .i64) (.I .i64)))))
end K
end Ev
end
noncomputable section
namespace Ev
namespace K
open Go Go.RowKit
set_option maxRecDepth 100000
set_option maxHeartbeats 1000000
def Hm:cP:= []
def yI:KG:=⟨TT,EQS,[],[]⟩
def jo:aR [(false,.I .i64)]->Option (OutK.val (.data true [yD3])):=dj yI Hm On 111 0 [(false,.I .i64)] (.data true [yD3])
def ry:aV:=⟨111,[(false,.I .i64)],.data true [yD3],jo,1⟩
def vT:cP:= []
def lV:KG:=⟨TT,EQS,[],[]⟩
def ew:aR [yD3,yD3]->Option (OutK.val (.data true [(false,.I .i64)])):=dj lV vT Ow 123 0 [yD3,yD3] (.data true [(false,.I .i64)])
def lW:aV:=⟨123,[yD3,yD3],.data true [(false,.I .i64)],ew,1⟩
def xd:cP:= []
def nm:KG:=⟨TT,EQS,[lW],[]⟩
def eU:aR [yD3,yD3]->Option (OutK.val (.data true [yD3])):=dj nm xd Oq 117 0 [yD3,yD3] (.data true [yD3])
def np:aV:=⟨117,[yD3,yD3],.data true [yD3],eU,2⟩
def Ah:cP:= []
def qi:KG:=⟨TT,EQS,[ry],[]⟩
def eR:aR [(false,.B)]->Option (OutK.val (.data true [yD3])):=dj qi Ah Ot 118 0 [(false,.B)] (.data true [yD3])
def qj:aV:=⟨118,[(false,.B)],.data true [yD3],eR,2⟩
def Ea:cP:= []
def vU:KG:=⟨TT,EQS,[],[]⟩
def iQ:aR [yD3,yD3]->Option (OutK.val (.data true [yD3])):=dj vU Ea Ou 119 0 [yD3,yD3] (.data true [yD3])
def vV:aV:=⟨119,[yD3,yD3],.data true [yD3],iQ,1⟩
def Eb:cP:= [(110,⟨[⟨true,2,9,[4,5,6,7],⟨[],[],[]⟩,[(.normal,⟨[(8,false,[.d true .B])],[],[]⟩)]⟩],[]⟩)]
def vW:KG:=⟨TT,EQS,[np,qj,vV],[]⟩
def kP:aR [(false,.I .i64),yD3,yD3]->Option (OutK.val (.data true [yD3])):=dj vW Eb Om 110 0 [(false,.I .i64),yD3,yD3] (.data true [yD3])
def Ec:aV:=⟨110,[(false,.I .i64),yD3,yD3],.data true [yD3],kP,3⟩
def xe:cP:= []
def nq:KG:=⟨TT,EQS,[ry],[]⟩
def fZ:aR [yD3]->Option (OutK.val (.data true [(false,.I .i64),(false,.B)])):=dj nq xe Ov 120 0 [yD3] (.data true [(false,.I .i64),(false,.B)])
def nr:aV:=⟨120,[yD3],.data true [(false,.I .i64),(false,.B)],fZ,2⟩
def xf:cP:= []
def ns:KG:=⟨TT,EQS,[nr],[]⟩
def ga:aR [(false,.I .i64),yD3]->Option (OutK.val (.data true [(false,.I .i64),(false,.B)])):=dj ns xf Oo 112 0 [(false,.I .i64),yD3] (.data true [(false,.I .i64),(false,.B)])
def xg:aV:=⟨112,[(false,.I .i64),yD3],.data true [(false,.I .i64),(false,.B)],ga,3⟩
def Hn:cP:= []
def yJ:KG:=⟨TT,EQS,[],[]⟩
def oY:aR [(false,.I .i64)]->Option (OutK.val (.data true [(false,.B)])):=dj yJ Hn Ol 108 0 [(false,.I .i64)] (.data true [(false,.B)])
def Ho:aV:=⟨108,[(false,.I .i64)],.data true [(false,.B)],oY,1⟩
def Ai:cP:= [(86,⟨[⟨false,3,0,[3,6,7],⟨[(8,false,[.d true (.I .i64)])],[],[]⟩,[(.exit 0,⟨[],[],[]⟩),(.ret,⟨[(2,false,[.d true (.I .i64)])],[],[]⟩)]⟩],[]⟩)]
def qk:KG:=⟨TT,EQS,[],[]⟩
def fL:aR [(false,.S (.I .i64))]->Option (OutK.val (.data true [(false,.I .i64)])):=dj qk Ai UZ 86 0 [(false,.S (.I .i64))] (.data true [(false,.I .i64)])
def ql:aV:=⟨86,[(false,.S (.I .i64))],.data true [(false,.I .i64)],fL,1⟩
def sN:cP:= []
def jU:KG:=⟨TT,EQS,[],[]⟩
def dG:aR [(false,.I .i64)]->Option (OutK.val (.data true [(false,.B)])):=dj jU sN Oj 102 0 [(false,.I .i64)] (.data true [(false,.B)])
def jV:aV:=⟨102,[(false,.I .i64)],.data true [(false,.B)],dG,1⟩
def qm:cP:= []
def iE:KG:=⟨TT,EQS,[jV],[]⟩
def cA:aR [(false,.I .i64),(false,.I .i64)]->Option (OutK.val (.data true [(false,.I .i64)])):=dj iE qm Vc 87 0 [(false,.I .i64),(false,.I .i64)] (.data true [(false,.I .i64)])
def iF:aV:=⟨87,[(false,.I .i64),(false,.I .i64)],.data true [(false,.I .i64)],cA,2⟩
def vX:cP:= [(56,⟨[],[(1,⟨[[],[],[],[],[],[],[],[],[],[],[],[],[]],[(false,[]),(false,[]),(false,[]),(false,[]),(false,[]),(false,[]),(false,[]),(false,[]),(false,[]),(false,[]),(true,[]),(false,[]),(false,[])]⟩)]⟩)]
def lX:KG:=⟨TT,EQS,[ql,iF],[]⟩
def ez:aR [yD2,yD2]->Option (OutK.val (.data true [(false,.I .i64)])):=dj lX vX UQ 56 0 [yD2,yD2] (.data true [(false,.I .i64)])
def lY:aV:=⟨56,[yD2,yD2],.data true [(false,.I .i64)],ez,3⟩
def xh:cP:= [(26,⟨[⟨false,2,0,[0],⟨[(3,false,[.d true (.I .i64)])],[],[]⟩,[(.exit 0,⟨[],[],[]⟩),(.ret,⟨[(2,false,[.d true .B])],[],[]⟩)]⟩],[]⟩)]
def nu:KG:=⟨TT,EQS,[lY],[]⟩
def dX:aR [yD1]->Option (OutK.val (.data true [(false,.B)])):=dj nu xh UH 26 0 [yD1] (.data true [(false,.B)])
def xi:aV:=⟨26,[yD1],.data true [(false,.B)],dX,4⟩
def xj:cP:= []
def nv:KG:=⟨TT,EQS,[],[]⟩
def kQ:aR [yD2,yD2]->Option (OutK.val (.data true [(false,.B)])):=dj nv xj UK 43 0 [yD2,yD2] (.data true [(false,.B)])
def ny:aV:=⟨43,[yD2,yD2],.data true [(false,.B)],kQ,1⟩
def Ee:cP:= []
def vY:KG:=⟨TT,EQS,[],[]⟩
def tT:aR [(false,.I .i64)]->Option (OutK.val (.data true [(false,.B)])):=dj vY Ee UV 81 0 [(false,.I .i64)] (.data true [(false,.B)])
def vZ:aV:=⟨81,[(false,.I .i64)],.data true [(false,.B)],tT,1⟩
def Ef:cP:= []
def wg:KG:=⟨TT,EQS,[],[]⟩
def tU:aR [(false,.I .i64)]->Option (OutK.val (.data true [yD3])):=dj wg Ef UW 82 0 [(false,.I .i64)] (.data true [yD3])
def wh:aV:=⟨82,[(false,.I .i64)],.data true [yD3],tU,1⟩
def sO:cP:= []
def jW:KG:=⟨TT,EQS,[],[]⟩
def iI:aR [yD3,yD3]->Option (OutK.val (.data true [(false,.I .i64)])):=dj jW sO Ve 99 0 [yD3,yD3] (.data true [(false,.I .i64)])
def jX:aV:=⟨99,[yD3,yD3],.data true [(false,.I .i64)],iI,1⟩
def xk:cP:= []
def nz:KG:=⟨TT,EQS,[],[]⟩
def kS:aR [(false,.B)]->Option (OutK.val (.data true [yD3])):=dj nz xk Oh 100 0 [(false,.B)] (.data true [yD3])
def nA:aV:=⟨100,[(false,.B)],.data true [yD3],kS,1⟩
def Cv:cP:= [(101,⟨[⟨true,3,5,[2,4,5],⟨[(6,false,[.d true (.I .i64)])],[],[]⟩,[(.normal,⟨[(6,false,[.d true (.I .i64)])],[],[]⟩)]⟩],[]⟩)]
def sb:KG:=⟨TT,EQS,[],[]⟩
def qA:aR [yD3,yD3]->Option (OutK.val (.data true [yD3])):=dj sb Cv Oi 101 0 [yD3,yD3] (.data true [yD3])
def sd:aV:=⟨101,[yD3,yD3],.data true [yD3],qA,1⟩
def Cw:cP:= [(83,⟨[⟨true,3,9,[4,5,6,7],⟨[],[],[]⟩,[(.normal,⟨[(9,false,[.d true .B])],[],[]⟩)]⟩],[]⟩)]
def se:KG:=⟨TT,EQS,[jX,nA,sd],[]⟩
def qB:aR [(false,.I .i64),yD3,yD3]->Option (OutK.val (.data true [yD3])):=dj se Cw UX 83 0 [(false,.I .i64),yD3,yD3] (.data true [yD3])
def sf:aV:=⟨83,[(false,.I .i64),yD3,yD3],.data true [yD3],qB,2⟩
def wi:cP:= []
def lZ:KG:=⟨TT,EQS,[],[]⟩
def jp:aR [yD3]->Option (OutK.val (.data true [(false,.I .i64),(false,.B)])):=dj lZ wi UY 84 0 [yD3] (.data true [(false,.I .i64),(false,.B)])
def ma:aV:=⟨84,[yD3],.data true [(false,.I .i64),(false,.B)],jp,1⟩
def sP:cP:= [(51,⟨[⟨false,6,0,[0,1],⟨[(6,false,[.m (.C (.I .i64) (.C (.I .i64) (.I .i64)))]),(7,false,[.m (.C (.I .i64) (.I .u64))]),(8,false,[.d true (.I .i64)])],[],[]⟩,[(.exit 0,⟨[(6,false,[.m (.C (.I .i64) (.C (.I .i64) (.I .i64)))]),(7,false,[.m (.C (.I .i64) (.I .u64))])],[],[]⟩)]⟩,⟨false,9,0,[0,1,6,7,8],⟨[(9,false,[.d true (.I .i64)])],[],[]⟩,[(.exit 2,⟨[(9,false,[.d true (.I .i64)])],[],[]⟩)]⟩,⟨false,17,0,[0,1,6,7,8,9,10],⟨[(11,false,[.d true (.I .i64)])],[],[(.sl 6 0,.C (.I .i64) (.C (.I .i64) (.I .i64))),(.sl 7 0,.C (.I .i64) (.I .u64))]⟩,[(.exit 4,⟨[],[],[(.sl 6 0,.C (.I .i64) (.C (.I .i64) (.I .i64))),(.sl 7 0,.C (.I .i64) (.I .u64))]⟩)]⟩,⟨false,24,0,[7],⟨[(6,false,[.m (.C (.I .i64) (.C (.I .i64) (.I .i64)))]),(12,false,[.d true (.I .i64)])],[],[]⟩,[(.exit 6,⟨[(6,false,[.m (.C (.I .i64) (.C (.I .i64) (.I .i64)))])],[],[]⟩),(.ret,⟨[(4,false,[.m (.C (.I .i64) (.C (.I .i64) (.I .i64)))]),(5,false,[.d true (.I .i64)])],[],[]⟩)]⟩],[(13,⟨[[],[],[],[],[],[],[],[],[],[],[.sl 7 0]],[(false,[]),(false,[]),(false,[]),(false,[]),(false,[]),(false,[]),(false,[]),(false,[]),(false,[]),(false,[]),(false,[])]⟩),(21,⟨[[],[],[],[],[],[],[],[],[],[],[],[],[],[],[.sl 6 0]],[(false,[]),(false,[]),(false,[]),(false,[]),(false,[]),(false,[]),(false,[]),(false,[]),(false,[]),(false,[]),(false,[]),(false,[]),(false,[]),(false,[]),(false,[])]⟩)]⟩)]
def jY:KG:=⟨TT,EQS,[ny,vZ,wh,sf,ma],[]⟩
def iJ:aR [(false,.I .i64),yD1]->Option (OutK.val (.data true [yD1,(false,.I .i64)])):=dj jY sP UP 51 0 [(false,.I .i64),yD1] (.data true [yD1,(false,.I .i64)])
def jZ:aV:=⟨51,[(false,.I .i64),yD1],.data true [yD1,(false,.I .i64)],iJ,3⟩
def xl:cP:= []
def nB:KG:=⟨TT,EQS,[jZ],[]⟩
def gb:aR [yD0]->Option (OutK.val (.data true [yD0])):=dj nB xl UG 24 0 [yD0] (.data true [yD0])
def xm:aV:=⟨24,[yD0],.data true [yD0],gb,4⟩
end K
end Ev
end
noncomputable section
namespace Ev
namespace K
open Go Go.RowKit
def wj{α:Type}(f:List T->Option α):List (List T)->Option (List α)
 | []=>some []
 |a::r=>(f a).bind λx=>(wj f r).map (x::·)
theorem yK{α:Type}{f:List T->Option α}{g:α->List T}(h:∀x,f (g x)=some x):∀l:List α,wj f (l.map g)=some l
 | []=>rfl
 |x::l=>by simp only [List.map_cons,wj,h,zbS,yK h l,Option.map_some]
theorem wk{α:Type}{f:List T->Option α}{g:α->List T}(h:∀a x,f a=some x->a=g x):∀{l:List (List T)} {r:List α},wj f l=some r->l=r.map g
 | [],r,hr=>by simp [wj]at hr;subst hr;rfl
 |a::l,r,hr=>by
  simp only [wj,zbE,Option.map_eq_some_iff]at hr;obtain⟨x,hx,r',hr',rfl⟩:=hr;rw [List.map_cons,<-h a x hx,<-wk h hr']
def jP:(e:Ty)->List T->Option e.val
 | .I k,l=>match l with
  | [.v (.int k' n)]=>if k'=k then some n else none
  |_=>none
 | .B,l=>match l with
  | [.v (.bool b)]=>some b
  |_=>none
 | .S e,l=>match l with
  | [.s nn sz rows]=>(wj (jP e) rows).map λr=>⟨nn,sz,r⟩
  |_=>none
 | .U,l=>match l with
  | []=>some ()
  |_=>none
 | .C a b,l=>(jP a (l.take a.size)).bind λx=>(jP b (l.drop a.size)).bind λy=>some (x,y)
theorem qn:∀(e:Ty) (x:e.val),jP e (e.row x)=some x
 | .I k,x=>by simp [jP,Ty.row,iT]
 | .B,x=>by simp [jP,Ty.row,bT]
 | .S e,x=>by
  simp only [jP,Ty.row,Sl.t];rw [yK (qn e)];rfl
 | .U,x=>rfl
 | .C a b,x=>by
  show((jP a ((a.row x.1++b.row x.2).take a.size)).bind λx1=>(jP b ((a.row x.1++b.row x.2).drop a.size)).bind λy=>some (x1,y))=some x;have e1:(a.row x.1++b.row x.2).take a.size=a.row x.1:=by rw [List.take_append_of_le_length (by rw [jJ];exact Nat.le_refl _),List.take_of_length_le (by rw [jJ];exact Nat.le_refl _)]
  have e2:(a.row x.1++b.row x.2).drop a.size=b.row x.2:=by rw [<-jJ a x.1,List.drop_left]
  rw [e1,qn a,zbS,e2,qn b];rfl
theorem gQ:∀(e:Ty) (l:List T) (x:e.val),jP e l=some x->l=e.row x
 | .I k,l,x,h=>by
  simp only [jP]at h;split at h
  .split at h
   .rename_i hk;cases h;subst hk;rfl
   .simp at h
  .simp at h
 | .B,l,x,h=>by
  simp only [jP]at h;split at h
  .cases h;rfl
  .simp at h
 | .S e,l,x,h=>by
  simp only [jP]at h;split at h
  .rw [Option.map_eq_some_iff]at h;obtain⟨r,hr,rfl⟩:=h;rw [wk (gQ e) hr];rfl
  .simp at h
 | .U,l,x,h=>by
  simp only [jP]at h;split at h
  .rfl
  .simp at h
 | .C a b,l,x,h=>by
  simp only [jP,zbE]at h;obtain⟨x1,h1,x2,h2,h3⟩:=h;cases h3;show l=a.row x1++b.row x2;rw [<-gQ a _ _ h1,<-gQ b _ _ h2,List.take_append_drop]
def wl(t:TyD)(d:TD):Option t.2.val:=
 match t,d with
 |(true,e),.agg l=>jP e l
 |(false,e),.one y=>jP e [y]
 |(false,e),.agg l=>if l.length=1 then none else jP e l
 |_,_=>none
def Ox:List T->TD
 | [y]=> .one y
 |ys=> .agg ys
theorem wm(e:Ty)(x:e.val):jc (false,e) x=Ox (e.row x):=by
 unfold jc Ox;rfl
theorem Cy(t:TyD)(x:t.2.val):wl t (jc t x)=some x:=by
 obtain⟨b,e⟩:=t;have h:=qn e x
 cases b with
 |true=>exact h
 |false=>
  change e.val at x;rw [show jc (false,e) x=_ from wm e x];generalize e.row x=l at h
  match l,h with
  | [],h=>exact h
  | [y],h=>exact h
  |a::b::r,h=>
   show(if(a::b::r).length=1 then none else jP e (a::b::r))=some x;rw [if_neg (by simp)];exact h
theorem wn(t:TyD)(d:TD)(x:t.2.val)(h:wl t d=some x):d=jc t x:=by
 obtain⟨b,e⟩:=t
 cases b with
 |true=>
  cases d with
  |one y=>simp [wl]at h
  |agg l=>exact congrArg TD.agg (gQ e l x h)
 |false=>
  change e.val at x
  cases d with
  |one y=>rw [show jc (false,e) x=_ from wm e x,<-gQ e [y] x h];rfl
  |agg l=>
   simp only [wl]at h;split at h
   .simp at h
   .rename_i hl
    have:=gQ e l x h
    rw [show jc (false,e) x=_ from wm e x,<-this]
    match l,hl with
    | [],_=>rfl
    | [y],hl=>simp at hl
    |a::b::r,_=>rfl
def oP:(ts:List TyD)->List TD->Option (aR ts)
 | [],l=>match l with
  | []=>some ()
  |_=>none
 | [t],l=>match l with
  | [d]=>wl t d
  |_=>none
 |t::t'::r,l=>match l with
  |d::ds=>(wl t d).bind λx=>(oP (t'::r) ds).bind λy=>some (x,y)
  | []=>none
theorem yL:∀(ts:List TyD) (x:aR ts),oP ts (ci ts x)=some x
 | [],_=>rfl
 | [t],x=>Cy t x
 |t::t'::r,x=>by
  show(wl t (jc t x.1)).bind _=_;rw [Cy t x.1,zbS,yL (t'::r) x.2];rfl
theorem sg:∀(ts:List TyD) (l:List TD) (x:aR ts),oP ts l=some x->l=ci ts x
 | [],l,x,h=>by
  simp only [oP]at h;split at h
  .rfl
  .simp at h
 | [t],l,x,h=>by
  simp only [oP]at h;split at h
  .exact congrArg (·:: []) (wn t _ x h)
  .simp at h
 |t::t'::r,l,x,h=>by
  simp only [oP]at h;split at h
  .simp only [zbE]at h;obtain⟨y,h1,z,h2,h3⟩:=h;cases h3;show _=jc t y::ci (t'::r) z;rw [<-wn t _ y h1,<-sg (t'::r) _ z h2]
  .simp at h
def mc(ins:List TyD)(kind:Kind)(ts:List TyD)(g:aR ins->Option (aR ts))(vs:List TD):Option (Kind×List TD):=(oP ins vs).bind λa=>(g a).bind λx=>some (kind,ci ts x)
theorem mG{P:Program}{k:FuncId}{ins:List TyD}{kind:Kind}{ts:List TyD}{g:aR ins->Option (aR ts)}(he:Enters P k)(h:∀a x,g a=some x->dV P k (ci ins a) kind (ci ts x)):∀vs kind' rs,mc ins kind ts g vs=some (kind',rs)->dV P k vs kind' rs/\Enters P k:=by
 intro vs kind' rs hf;simp only [mc,zbE]at hf;obtain⟨a,h1,x,h2,h3⟩:=hf;cases h3;rw [sg ins vs a h1];exact⟨h a x h2,he⟩
theorem Hp{E:Env}{k:FuncId}{ins:List TyD}{kind:Kind}{ts:List TyD}{g:aR ins->Option (aR ts)}(hx:E.ax k=some (mc ins kind ts g))(n:Nat)(a:aR ins)(x:aR ts)(h:g a=some x):RunsP E (n+1) k (ci ins a) (kind,ci ts x):=
 BF hx (by simp only [mc,yL,zbS,h])
theorem wo{E:Env}{k:FuncId}{ins:List TyD}{ts:List TyD}{g:aR ins->Option (aR ts)}(hx:E.ax k=some (mc ins .fresh ts g)):aC E ⟨k,ins,.data true ts,g,1⟩:=λm a x h=>Hp hx m a x h
end K
end Ev
end
noncomputable section
open Go.RowKit Go.Sort
def Has(w:World)(b:Nat):Prop:=b<w.heap.size
def Vf(w:World)(os:Array Obj)(b:Nat):Prop:=w.heap.size<=b/\b<w.heap.size+os.size
theorem Has.of{w:World}{b:Nat}(h:b<w.heap.size):Has w b:=h
@[go_sem] theorem PZ (w:World) (o:Obj) (b:Nat):Has (w.alloc o) b=(b=w.heap.size∨Has w b):=by
 unfold Has;simp;omega
@[go_sem] theorem Vg (w:World) (d:Nat) (os:Array Obj) (b:Nat):Has (grow (redrawn w d) os) b=(Has w b∨Vf w os b):=by
 unfold Has Vf;simp [grow,redrawn];omega
@[go_sem] theorem Oy (w:World) (a:Addr) (v:Value) (b:Nat):Has (w.setCell a v) b=Has w b:=by
 unfold Has;simp [World.setCell]
@[go_sem] theorem Vh (w:World) (b:Nat):Has w.drew b=Has w b:=rfl
@[go_sem] theorem Vj {w:World} {d:Nat} {os:Array Obj} {a:Addr} (h:Has w a.block):(grow (redrawn w d) os).cell? a=w.cell? a:=
 (below_regrown w d os).cell h
@[go_sem] theorem Qa {w:World} {d:Nat} {os:Array Obj} {a:Addr} (h:Has w a.block):(grow (redrawn w d) os).frozen? a=w.frozen? a:=
 (below_regrown w d os).frozen h
@[go_sem] theorem Vk {w:World} {o:Obj} {a:Addr} (h:Has w a.block):(w.alloc o).cell? a=w.cell? a:=
 ((Below.refl w.heap.size w).alloc (Nat.le_refl _) o).cell h
@[go_sem] theorem Qb {w:World} {o:Obj} {a:Addr} (h:Has w a.block):(w.alloc o).frozen? a=w.frozen? a:=
 ((Below.refl w.heap.size w).alloc (Nat.le_refl _) o).frozen h
@[go_sem] theorem PX {w:World} {o:Obj} {a:Addr} {v:Value} (h:Has w a.block):(w.alloc o).setCell a v=(w.setCell a v).alloc o:=by
 unfold Has at h;simp only [World.setCell,World.alloc];congr 1;apply Array.ext_getElem?;intro k;simp only [Array.getElem?_modify,Array.getElem?_push,Array.size_modify];by_cases hk:k=w.heap.size
 .subst hk;simp;omega
 .simp [hk]
@[go_sem] theorem VL {α:Type} (p:Prop) [Decidable p] (x y:α) (w:World):(if p then Result.ok x w else Result.ok y w)=Result.ok (if p then x else y) w:=by
 split<;>rfl
@[go_sem] theorem Qc (p:Prop) [Decidable p] (x y:Value):(if p then Next.value x else Next.value y)=Next.value (if p then x else y):=by
 split<;>rfl
theorem bl1(w:World)(a:Obj):Below w.heap.size w (w.alloc a):=(Below.refl _ _).alloc (Nat.le_refl _) _
theorem bl2(w:World)(a b:Obj):Below w.heap.size w ((w.alloc a).alloc b):=(bl1 w a).alloc (by simp) _
theorem blg{w w1:World}(h:Below w.heap.size w w1)(d:Nat)(os:Array Obj):Below w.heap.size w (grow (redrawn w1 d) os):=
 h.trans ((below_regrown w1 d os).mono h.size)
theorem grow_grow(w:World)(a b:Array Obj):grow (grow w a) b=grow w (a++b):=by simp [grow,Array.append_assoc]
@[go_sem] theorem VT (w:World) (d d2:Nat) (os os2:Array Obj):grow (redrawn (grow (redrawn w d) os) d2) os2=grow (redrawn w d2) (os++os2):=by
 simp [grow,redrawn,Array.append_assoc]
@[go_sem] theorem Vm (w:World) (d:Nat) (os:Array Obj):(grow (redrawn w d) os).heap.size=w.heap.size+os.size:=by simp [grow,redrawn]
@[go_sem] theorem PY {w:World} {d:Nat} {os:Array Obj} {a:Addr} {v:Value} (h:Has w a.block):(grow (redrawn w d) os).setCell a v=grow (redrawn (w.setCell a v) d) os:=by
 unfold Has at h;simp only [grow,redrawn,World.setCell];congr 1;apply Array.ext_getElem?;intro k;rw [Array.getElem?_modify];by_cases hk:k<w.heap.size
 .rw [Array.getElem?_append_left hk,Array.getElem?_append_left (by simpa using hk),Array.getElem?_modify]
 .rw [if_neg (by omega),Array.getElem?_append_right (by omega),Array.getElem?_append_right (by simpa using by omega)];simp
@[go_sem] theorem Mm (w:World) (d:Nat):(redrawn w d).heap=w.heap:=rfl
theorem bla{w w1:World}(h:Below w.heap.size w w1)(o:Obj):Below w.heap.size w (w1.alloc o):=h.alloc h.size o
theorem bls{w w1:World}(h:Below w.heap.size w w1){p:Addr}(hp:w.heap.size<=p.block)(v:Value):Below w.heap.size w (w1.setCell p v):=h.setCell hp v
@[go_sem] theorem VM:IntKind.u64.signed=false:=rfl
@[go_sem] theorem VN:IntKind.i64.signed=true:=rfl
@[go_sem] theorem VU:IntKind.u8.signed=false:=rfl
@[go_sem] theorem VO:IntKind.u32.signed=false:=rfl
end
noncomputable section
open Go Go.RowKit Go.Sort
section
variable {P : Program} {ops : Array Oper} {md : Region.Mode} {C : World → Prop}
def Kv(P:Program)(md:Region.Mode)(ops:Array Oper)(C:World->Prop)(n:Nat)(L:Array Bool->Act->Prop):Nat->Array Bool->Act->Prop
 |0,s,a=>L s a
 |f+1,s,a=>(∃i,i∈Region.ready md ops s)/\∀i∈Region.ready md ops s,i<n/\qOp P ops C i (Kv P md ops C n L f (s.setIfInBounds i true)) a
theorem xn{n g:Nat}{L:Array Bool->Act->Prop}{Q':Exit->Act->World->Prop}(hL:∀s a w,C w->L s a->wpAny P md ops Q' g s a w):
  ∀(f:Nat) (s:Array Bool) (a:Act) (w:World),C w->Kv P md ops C n L f s a->wpAny P md ops Q' (f+g) s a w:=by
 intro f
 induction f with
 |zero=>intro s a w hw h;rw [Nat.zero_add];exact hL s a w hw h
 |succ f ih=>
  intro s a w hw h;obtain⟨⟨i0,hi0⟩,hall⟩:=h;rw [Nat.add_right_comm];refine⟨λh0=> ?_,λi hi=>wpOp_of_qOp hw (λa' w' hw' h'=>ih _ a' w' hw' h') (hall i hi).2⟩;rw [h0]at hi0;cases hi0
theorem Eh{n i:Nat}{oi:Oper}{v:Value}{L:Array Bool->Act->Prop}(hi:ops[i]? =some oi)(hsel:Region.noSelect ops=true)
  (hs:Region.sinkB md ops n=true) (hc:Region.chainB md ops n=true) (hn:n<ops.size) (hin:i<n) (hdone:∀s a,L s a->∀j∈Region.ready md ops s,n<=j) (f:Nat):
  ∀(s:Array Bool) (a:Act),HeadInv md ops n s->
   (∀j oj,ops[j]? =some oj->j≠i->s.getD j true=false->(∀e∈oj.after,Region.binds md e=true->e.on≠i)->oi.apart ops oj=true)->
   i∈Region.ready md ops s->YieldsIn P ops C oi v a->
   Kv P md ops C n L f (s.setIfInBounds i true) (a.put oi.dst v)->Kv P md ops C n L (f+1) s a:=by
 have sel:=Region.noSelect_spec hsel
 induction f with
 |zero=>
  intro s a inv _ hr hy H;refine⟨⟨i,hr⟩,λj hj=> ?_⟩;have hjn:j<n:=Nat.lt_of_not_le λh=>tail_waits hs hc hn inv _ i rfl hin (mem_ready.1 hr).1 j h hj;refine⟨hjn,?_⟩;by_cases hji:j=i
  .rw [hji];exact hy.qOp hi H
  .have:=hdone _ _ H j (ready_mono hj hji)
   omega
 |succ f ih=>
  intro s a inv hfree hr hy H;refine⟨⟨i,hr⟩,λj hj=> ?_⟩;have hun:=(mem_ready.1 hr).1;have hjn:j<n:=Nat.lt_of_not_le λh=>tail_waits hs hc hn inv _ i rfl hin hun j h hj;refine⟨hjn,?_⟩;by_cases hji:j=i
  .rw [hji];exact hy.qOp hi H
  .obtain⟨hjun,oj,hoj,hall⟩:=mem_ready.1 hj
   have hnot:∀e∈oj.after,Region.binds md e=true->e.on≠i:=by
    intro e he hb heq;have hd:=hall e he hb;rw [heq,getD_both hun]at hd;cases hd
   have hp:=qOp_put hoj (hfree j oj hoj hji hjun hnot) (λcs b=>sel i oi cs b hi) (λcs b=>sel j oj cs b hoj) hy (H.2 j (ready_mono hj hji)).2;refine qOp_mono (λa' h3=>ih _ a' (inv.set hj hjn) ?_ (ready_mono hr (Ne.symm hji)) h3.1 ?_) hp
   .intro k ok hk hki hkun hno;refine hfree k ok hk hki ?_ hno;by_cases hjk:j=k
    .rw [<-hjk];exact hjun
    .rwa [getD_set_ne true hjk]at hkun
   .rw [Array.setIfInBounds_comm _ _ hji];exact h3.2
theorem Kw{n g:Nat}{Lq:Act->Prop}(hsel:Region.noSelect ops=true)(hs:Region.sinkB md ops n=true)(hc:Region.chainB md ops n=true)(hn:n<ops.size)(l:List Oper):
  ∀(k:Nat) (s:Array Bool) (a:Act),(∀j,j<l.length->l[j]? =ops[k+j]?)->k+l.length=n->HeadInv md ops n s->
  Region.lexHead md ops g l.length k s=true->wpQuiet P ops C Lq l a->
  Kv P md ops C n (λs' a'=>Region.seqB md ops g n s'=true/\Lq a') l.length s a:=by
 induction l with
 |nil=>
  intro k s a _ hk _ hB h;have hk':k=n:=by simpa using hk
  rw [<-hk'];exact⟨by simpa [Region.lexHead]using hB,h⟩
 |cons o l ih=>
  intro k s a hl hk inv hB h;have h0:ops[k]? =some o:=by simpa using (hl 0 (by simp)).symm
  simp only [List.length_cons]at hk hB;simp only [Region.lexHead,Bool.and_eq_true]at hB;have hkn:k<n:=by omega
  have hr:k∈Region.ready md ops s:=by simpa using hB.1.1
  have hq:qOp P ops C k (wpQuiet P ops C Lq l) a:=by unfold qOp;simp only [h0];exact h
  obtain⟨v,hy,hK⟩:=yieldsIn_of_qOp h0 hq;refine Eh h0 hsel hs hc hn hkn (λs' a' hL=>seqB_ready hL.1) l.length s a inv (Region.free_spec h0 hB.1.2) hr hy (ih (k+1) _ _ (λj hj=> ?_) (by omega) (inv.set hr hkn) hB.2 hK)
  have:=hl (j+1) (by simp;omega)
  simpa [Nat.add_assoc,Nat.add_comm 1 j]using this
theorem gx{id:Nat}{Q:Exit->Act->World->Prop}{a:Act}{w:World}{l:List Oper}(n:Nat)(hm:P.follows .mixedOrders=true)(hB:Region.lexTailB .any l.toArray n=true)
  (hC:C {w with drawn:=w.drawn+1}) (h:wpQuiet P l.toArray C (λa'=>∀w',C w'->wpList P l.toArray Q (l.drop n) a' w') (l.take n) a):(Code.region id l.toArray true).wp P Q a w:=by
 simp only [Region.lexTailB,Bool.and_eq_true,decide_eq_true_eq]at hB;obtain⟨⟨⟨⟨hsel,hn⟩,hs⟩,hc⟩,hlex⟩:=hB;have hn':n<l.length:=by simpa using hn
 have htl:(l.take n).length=n:=by simp;omega
 have hdl:(l.drop n).length=l.toArray.size - n:=by simp
 have H:=Kw (C:=C) (md:= .any) (g:=l.toArray.size - n) hsel hs hc hn (l.take n) 0 (Array.replicate l.toArray.size false) a (λj hj=>by
  have hj':j<n:=by rw [htl]at hj;exact hj
  simp [hj']) (by simpa using htl) ⟨by simp,λj oj _ hl=>(by rw [getD_replicate_false]at hl;cases hl),λt _ ht=>getD_in (by simpa using ht) (getD_replicate_false _ _)⟩ (by rw [htl];exact hlex) h
 refine wp_region_any hm ?_
 have R:=xn (Q':=Q) (g:=l.toArray.size - n) (λs a' w' hw hL=>by
  have:=wpAny_of_seq (md:= .any) (Q':=Q) (l.drop n) n s a' w' (λj=>by simp [List.getElem?_drop]) (by rw [hdl];exact hL.1) (hL.2 w' hw)
  rwa [hdl]at this) _ _ _ _ hC H
 rw [htl,show n+(l.toArray.size - n)=l.toArray.size by omega]at R;exact R
theorem av{id:Nat}{Q:Exit->Act->World->Prop}{a:Act}{w:World}{l:List Oper}(n:Nat)(hm:P.follows .mixedOrders=true)(hB:Region.lexTailB .any l.toArray n=true)
  (h:wpQuiet P l.toArray (λw'=>∃p:Regrown,w'=grow (redrawn w p.d) p.os) (λa'=>∀w',(∃p:Regrown,w'=grow (redrawn w p.d) p.os)->wpList P l.toArray Q (l.drop n) a' w') (l.take n) a):(Code.region id l.toArray true).wp P Q a w:=
 gx (C:=λw'=>∃p:Regrown,w'=grow (redrawn w p.d) p.os) n hm hB ⟨⟨w.drawn+1,#[]⟩,by rw [grow_empty];rfl⟩ h
end
end
end Go.Proofs.YtoamaaicfjkmhaaGreat
