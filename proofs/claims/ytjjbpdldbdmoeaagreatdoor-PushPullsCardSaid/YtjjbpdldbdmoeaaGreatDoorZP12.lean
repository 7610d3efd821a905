/- Texts of a claim, joined. -/
import Derived.Test.YtjjbpdldbdmoeaaGreatDoorZP11
set_option linter.unusedVariables false
set_option linter.unusedSimpArgs false
namespace Go.Proofs.YtjjbpdldbdmoeaaGreatDoor
noncomputable section
open Go.RowKit Go.Sort
namespace Sm
namespace Mg
open Ev Ev.KM
abbrev S3:=Int×Int×Int
abbrev sty:K.Ty:= .C (.I .i64) (.C (.I .i64) (.I .u64))
abbrev ins:List K.TyD:= [(false,.I .i64),(false,.S (.S sty))]
abbrev outs:List K.TyD:= [(false,.S sty),(false,.I .i64)]
def idx:Nat->List (List S3)->List Hp.Evt
 |_,[]=> []
 |i,l::ls=>l.map (λs=>((i:Int),s))++idx (i+1) ls
def TS(ls:List (List S3)):Nat:=(ls.map (λl=>l.length)).sum
theorem abA{ls:List (List S3)}{s:List S3}(h:s∈ls):s.length<=TS ls:=by
 induction ls with
 |nil=>cases h
 |cons a r ih=>
  unfold TS at*;simp only [List.map_cons,List.sum_cons];rcases List.mem_cons.1 h with rfl|h
  .omega
  .have:=ih h;omega
def okI(x:Sl S3):Bool:=decide (x.sz=3)||x.l.isEmpty
def okM(x:Sl (Sl S3)):Bool:=decide (x.l.length<=90000)&& decide (TS (x.l.map (λs=>s.l))<=90000)&&(decide (x.sz=1)||x.l.isEmpty)&& x.l.all okI
def XF(r:Int)(ls:List (List S3)):List S3:=Hp.outOf (eQ r) (Hp.sortE (idx 0 ls))
def fn(a:Int×Sl (Sl S3)):Option (Sl S3×Int):=
 if okM a.2=true then some
  (if mM a.1=false then(⟨false,0,[]⟩,8)
   else if(a.2.l.map (λs=>s.l)).all qJ=false then(⟨false,0,[]⟩,6)
   else if(XF a.1 (a.2.l.map (λs=>s.l))).isEmpty=true then(⟨false,0,[]⟩,0)
   else(⟨true,3,XF a.1 (a.2.l.map (λs=>s.l))⟩,0))else none
theorem abB{w:World}{F:Nat->Prop}{x:Sl S3}{y:Value}(hx:x.sz=3∨x.l= [])(h:RepT w F (Sl.t sty.row x) y):∃a c,y= .slice a x.l.length c/\Hp.RdS w w.heap.size a x.l/\x.l.length<=c:=by
 obtain⟨nn,sz,l⟩:=x;unfold Sl.t at h
 cases h with
 |s _ _ _ a c ys hn hc h0 hl hm hr=>
  rw [List.length_map]at hc ⊢;refine⟨a,c,rfl,?_,hc⟩;intro i hi
  have hsz:sz=3:=by
   rcases hx with h|h
   .exact h
   .simp only at h;rw [h]at hi;simp at hi
  subst hsz;have hil:(l.map sty.row)[i]? =some (sty.row l[i]):=by simp [hi]
  have g:∀j v,(sty.row l[i])[j]? =some (.v v)->∃b,a=some b/\b.block<w.heap.size/\w.cell? (b.add (i*3+j))=some v:=by
   intro j v hj;obtain⟨b,h1,h2,_,h3⟩:=hm i _ j _ hil hj;refine⟨b,h1,h2,?_⟩
   have:=hr i _ j _ hil hj
   rw [h3];generalize ys i j=y at this
   cases this with|v x hx=>rfl
  obtain⟨b,e0,h1,c0⟩:=g 0 (.int .i64 l[i].1) rfl;obtain⟨b1,e1,_,c1⟩:=g 1 (.int .i64 l[i].2.1) rfl;obtain⟨b2,e2,_,c2⟩:=g 2 (.int .u64 l[i].2.2) rfl;rw [e0]at e1 e2;cases e1;cases e2;exact⟨b,e0,h1,by simpa using c0,c1,c2⟩
def Jd(i:Nat)(v:Value)(l:List S3):Hp.Hd:=match v with
 | .slice a _ c=>⟨i,a,c,l⟩
 |_=>⟨i,none,0,l⟩
def hds(ys:Nat->Value):Nat->List (Sl S3)->List Hp.Hd
 |_,[]=> []
 |i,s::r=>Jd i (ys i) s.l::hds ys (i+1) r
theorem Gt(ys:Nat->Value):∀i l,(hds ys i l).length=l.length
 |_,[]=>rfl
 |i,s::r=>by simp [hds,Gt ys (i+1) r]
theorem Mf(i:Nat)(v:Value)(l:List S3):(Jd i v l).k=(i:Int):=by cases v<;>rfl
theorem Gu(i:Nat)(v:Value)(l:List S3):(Jd i v l).l=l:=by cases v<;>rfl
theorem Mh(ys:Nat->Value):∀(l:List (Sl S3)) (i j:Nat) (hj:j<l.length),Hp.at_ (hds ys i l) j=Jd (i+j) (ys (i+j)) (l[j]).l
 |s::r,i,0,_=>rfl
 |s::r,i,j+1,hj=>by
  have:=Mh ys r (i+1) j (by simpa using hj)
  rw [show i+1+j=i+(j+1)by omega]at this;exact this
theorem Je(ys:Nat->Value):∀(l:List (Sl S3)) (i:Nat),Hp.evts (hds ys i l)=idx i (l.map (λs=>s.l))
 | [],_=>rfl
 |s::r,i=>by
  show(Jd i (ys i) s.l).l.map _++Hp.evts (hds ys (i+1) r)=_;rw [Je ys r (i+1),Mf,Gu];rfl
theorem OH(ys:Nat->Value):∀(l:List (Sl S3)) (i:Nat),Hp.tot (hds ys i l)=TS (l.map (λs=>s.l))
 | [],_=>rfl
 |s::r,i=>by
  have:=OH ys r (i+1)
  unfold Hp.tot TS at*;simp only [hds,List.map_cons,List.sum_cons,Gu,this]
theorem XG{ys:Nat->Value}{l:List (Sl S3)}{h:Hp.Hd}(hm:h∈hds ys 0 l):∃j,∃hj:j<l.length,h=Jd j (ys j) (l[j]).l:=by
 obtain⟨j,hj,rfl⟩:=List.mem_iff_getElem.1 hm;have hj':j<l.length:=by rw [Gt]at hj;exact hj
 refine⟨j,hj',?_⟩
 have:=Mh ys l 0 j hj'
 rw [Hp.at_lt hj,Nat.zero_add]at this;exact this
theorem LD.below{w W:World}(hL:LD w.heap.size w)(hb:Below w.heap.size w W):LD W.heap.size W:=(hL.keep (λ_ hs=>hb.block 0 hs) hb.size).up hb.size
theorem RepT.below{w W:World}{F F':Nat->Prop}{t:T}{y:Value}(h:RepT w F t y)(hb:Below w.heap.size w W)(hF:∀b,F' b->F b):RepT W F' t y:=h.mono hb.size λb hlt _ hn=>⟨hb.block b hlt,λhf=>hn (hF b hf)⟩
set_option maxRecDepth 100000 in
theorem TU(r:Int)(W:World)(hL:LD W.heap.size W):Calls Tryz.prog 19 #[.int .i64 r] W λe w'=>e= .returned (.bool (mM r))/\Below W.heap.size W w':=
 ya (RunsP.pure K.mO (K.Jc 0 r (mM r) (Qi r))) rfl rfl W hL
set_option maxRecDepth 100000 in
theorem Qt(r:Int)(x y:Int×Int)(W:World)(hL:LD W.heap.size W):Calls Tryz.prog 24 #[.int .i64 r,Hp.PV x,Hp.PV y] W λe w'=>e= .returned (Hp.PV (eQ r x y))/\Below W.heap.size W w':=
 ya (RunsP.pure K.mO (K.Gr 0 (r,x,y) (eQ r x y) (Ak r x y))) rfl rfl W hL
theorem Jf{w:World}{F:Nat->Prop}{x:Sl S3}{y:Value}(hr:RepT w F (Sl.t sty.row x) y)(hL:LD w.heap.size w){b:Bool}(hb:ku x=some b)(W:World)(hW:Below w.heap.size w W):Calls Tryz.prog 69 #[y] W λe w'=>e= .returned (.bool b)/\Below W.heap.size W w':=by
 have h:=RunsP.pure K.mO (K.AA 0 x b hb);refine(h W (λ_=>False) [y] (LD.below hL hW) (λ_ h=>h.elim) ⟨rfl,λi t hi=> ?_⟩).mono λe w' ⟨y',e1,e2,_,e3⟩=>⟨?_,e3⟩
 .have h0:i=0:=by
   have h1:i<1:=(List.getElem?_eq_some_iff.1 hi).1;omega
  subst h0;cases hi;exact⟨y,rfl,.one _ _ (RepT.below hr hW λ_ h=>h.elim)⟩
 .rw [e1,TO (x:= .bool b) rfl w' _ e2]
theorem Gv(w:World)(F:Nat->Prop):RepT w F (Sl.t sty.row ⟨false,0,[]⟩) (.slice none 0 0):=RepT.s (w:=w) (F:=F) false 0 [] none 0 (λ_ _=> .nilFunc) rfl (Nat.le_refl _) (λ_=>rfl) (λi e h=>by simp at h) (λi e j t h=>by simp at h) (λi e j t h=>by simp at h)
theorem two{w:World}{F:Nat->Prop}{t:T}{y:Value}{e:Int}(h:RepT w F t y):wR w F [.one t,.one (iT .i64 e)] (.tuple #[y,.int .i64 e]):=by
 refine⟨[y,.int .i64 e],rfl,rfl,λi t' hi=> ?_⟩
 match i,hi with
 |0,hi=>cases hi;exact⟨y,rfl,.one _ _ h⟩
 |1,hi=>cases hi;exact⟨_,rfl,.one _ _ (.v _ rfl)⟩
 |i+2,hi=>simp at hi
theorem XH{base:Nat}{w:World}{F:Nat->Prop}{v:Value}{l:List S3}(h:w.ownsRow base 76 3 v l.length (Hp.cellsS l))(hF:∀b,F b->b<base)(hne:l≠[]):RepT w F (Sl.t sty.row ⟨true,3,l⟩) v:=by
 rcases h.2 with⟨e,h0⟩|⟨g,cap,cur,e,hbg,hg,hnc,hcm,hcs,htake⟩
 .exact absurd (List.eq_nil_of_length_eq_zero h0) hne
 subst e;have hlt:=h.lt g rfl
 have key:=RepT.s (w:=w) (F:=F) true 3 (l.map sty.row) (some ⟨g,0,none⟩) cap (λi j=>match j with
  |0=> .int .i64 (Hp.at_ l i).1
  |1=> .int .i64 (Hp.at_ l i).2.1
  |_=> .int .u64 (Hp.at_ l i).2.2) rfl (by simpa using hnc) (by simp) (λi e hi=>by
   rw [List.getElem?_map,Option.map_eq_some_iff]at hi;obtain⟨x,_,rfl⟩:=hi
   rfl) ?_ ?_
 .rw [List.length_map]at key;exact key
 .intro i e j t hi hj;rw [List.getElem?_map,Option.map_eq_some_iff]at hi;obtain⟨x,hx,rfl⟩:=hi;have hil:i<l.length:=(List.getElem?_eq_some_iff.1 hx).1;refine⟨⟨g,0,none⟩,rfl,hlt.2,λhf=>by have h9:g<base:=hF _ hf;omega,?_⟩;have hj3:j<3:=(List.getElem?_eq_some_iff.1 hj).1;have hc:=h.cells (g:=g) rfl (i*3+j);rcases(show j=0∨j=1∨j=2 by omega)with rfl|rfl|rfl
  .exact hc _ ((Hp.cellsS_at l i 0 hil (by omega)).trans rfl)
  .exact hc _ ((Hp.cellsS_at l i 1 hil (by omega)).trans rfl)
  .exact hc _ ((Hp.cellsS_at l i 2 hil (by omega)).trans rfl)
 .intro i e j t hi hj;rw [List.getElem?_map,Option.map_eq_some_iff]at hi;obtain⟨x,hx,rfl⟩:=hi;have hil:i<l.length:=(List.getElem?_eq_some_iff.1 hx).1;have hx2:Hp.at_ l i=x:=by rw [Hp.at_lt hil];exact(List.getElem?_eq_some_iff.1 hx).2
  have hj3:j<3:=(List.getElem?_eq_some_iff.1 hj).1;rcases(show j=0∨j=1∨j=2 by omega)with rfl|rfl|rfl
  .cases hj;simp only [hx2];exact .v _ rfl
  .cases hj;simp only [hx2];exact .v _ rfl
  .cases hj;simp only [hx2];exact .v _ rfl
theorem pure_ok(a:K.vals ins)(o:K.vals outs)(h:fn a=some o):bL Tryz.prog 38 (K.jK ins a) .fresh (K.jK outs o):=by
 obtain⟨r,x⟩:=a;change Int at r;change Sl (Sl S3)at x;unfold fn at h;split at h
 rotate_left
 .cases h
 rename_i hx;simp only at hx;have h:=Option.some.inj h;simp only at h;simp only [okM,Bool.and_eq_true,Bool.or_eq_true,decide_eq_true_eq,List.isEmpty_iff,List.all_eq_true]at hx;obtain⟨⟨⟨hx1,hx2⟩,hx3⟩,hx4⟩:=hx;intro w F ys hL hF hr;obtain⟨hlen,hi⟩:=hr
 match ys,hlen with
 | [y0,y1],_=>
  obtain⟨y,e1,e2⟩:=hi 0 _ rfl;simp only [List.getElem?_cons_zero,zsI]at e1;subst e1
  have ey:y0= .int .i64 r:=by
   cases e2 with
   |one t y h=>cases h with|v x hx=>rfl
  subst ey;obtain⟨y,e1,e2⟩:=hi 1 _ rfl;simp only [List.getElem?_cons_succ,List.getElem?_cons_zero,zsI]at e1;subst e1
  have e3:RepT w F (Sl.t (K.Ty.S sty).row x) y1:=by cases e2 with|one t y h=>exact h
  clear e2 hi;obtain⟨nn,sz,l⟩:=x;unfold Sl.t at e3
  cases e3 with
  |s _ _ _ a c yv hn hc h0 hl hm hr=>
  rw [List.length_map]at hc ⊢;simp only at hx1 hx2 hx3 hx4 h
  have hcell:∀j,(hj:j<l.length)->∃b,a=some b/\b.block<w.heap.size/\w.cell? (b.add j)=some (yv j 0)/\RepT w F (Sl.t sty.row l[j]) (yv j 0):=λj hj=>by
   have hsz:sz=1:=by
    rcases hx3 with h|h
    .exact h
    .rw [h]at hj;simp at hj
   subst hsz;have hil:(l.map (K.Ty.S sty).row)[j]? =some ((K.Ty.S sty).row l[j]):=by simp [hj]
   obtain⟨b,h1,h2,_,h3⟩:=hm j _ 0 (Sl.t sty.row l[j]) hil rfl;refine⟨b,h1,h2,by simpa using h3,hr j _ 0 (Sl.t sty.row l[j]) hil rfl⟩
  have hin:∀j,(hj:j<l.length)->(l[j]).sz=3∨(l[j]).l= []:=λj hj=>by
   have:=hx4 _ (List.getElem_mem hj)
   simpa [okI]using this
  have hrd:∀j,(hj:j<l.length)->∃a c,yv j 0= .slice a (l[j]).l.length c/\Hp.RdS w w.heap.size a (l[j]).l/\(l[j]).l.length<=c:=λj hj=>by
   obtain⟨b,_,_,_,h4⟩:=hcell j hj;exact abB (hin j hj) h4
  have hlen2:∀j,(hj:j<l.length)->(l[j]).l.length<=90000:=λj hj=>by
   refine Nat.le_trans ?_ hx2
   have:((l.map (λs=>s.l))[j]'(by simpa using hj))∈l.map (λs=>s.l):=List.getElem_mem _
   rw [List.getElem_map]at this;exact abA this
  obtain⟨H,hH⟩:∃H,H=hds (λj=>yv j 0) 0 l:=⟨_,rfl⟩
  have hat:∀j,(hj:j<l.length)->Hp.at_ H j=Jd j (yv j 0) (l[j]).l:=λj hj=>by
   have:=Mh (λj=>yv j 0) l 0 j hj
   rw [Nat.zero_add]at this;rw [hH];exact this
  have hmem:∀h∈H,∃j,∃hj:j<l.length,h=Jd j (yv j 0) (l[j]).l:=λh hm=>by
   rw [hH]at hm;exact XG hm
  have hHl:H.length=l.length:=by rw [hH];exact Gt _ _ _
  have hw:=Hp.merge_walk r (mM r) (eQ r) a l.length c H w hHl.symm hx1 (by rw [hH,OH];exact hx2)
   (λj hj=>by
    obtain⟨b,h1,h2,h3,_⟩:=hcell j hj;obtain⟨a2,c2,h4,_⟩:=hrd j hj;refine⟨b,h1,h2,?_⟩;rw [h3,hat j hj,h4]
    rfl)
   (λj hj=>by rw [hat j hj,Mf])
   (λh hm=>by
    obtain⟨j,hj,rfl⟩:=hmem h hm;obtain⟨a2,c2,h4,h5,_⟩:=hrd j hj
    rw [h4];exact h5)
   (λh hm=>by
    obtain⟨j,hj,rfl⟩:=hmem h hm;obtain⟨a2,c2,h4,_,h6⟩:=hrd j hj
    rw [h4];exact h6)
   (λW hW=>TU r W (LD.below hL hW)) qJ
   (λj hj W hW=>by
    obtain⟨b,_,_,_,h7⟩:=hcell j hj;obtain⟨a2,c2,h4,_,h6⟩:=hrd j hj;have h8:=Jf h7 hL (Gn (hin j hj).symm (by have:=hlen2 j hj;omega)) W hW;rw [hat j hj,h4];rw [h4]at h8
    exact h8)
   (λ_ p q W hW=>Qt r p q W (LD.below hL hW))
  refine hw.mono ?_;rintro e w' ⟨v,code,res,rfl,hown,hnil,hbl,hcase⟩;refine⟨_,rfl,?_,λhk=>(by cases hk),hbl⟩
  have hall:(l.map (λs=>s.l)).all qJ=true↔∀h∈H,qJ h.l=true:=by
   rw [List.all_eq_true];constructor
   .intro g h hm;obtain⟨j,hj,rfl⟩:=hmem h hm;rw [Gu];exact g _ (List.mem_map_of_mem (List.getElem_mem hj))
   .intro g s hs;rw [List.mem_map]at hs;obtain⟨t,ht,rfl⟩:=hs;obtain⟨j,hj,rfl⟩:=List.mem_iff_getElem.1 ht
    have:=g (Hp.at_ H j) (by rw [Hp.at_lt (by omega)];exact List.getElem_mem _)
    rw [hat j hj,Gu]at this;exact this
  rcases hcase with⟨h1,h2,h3⟩|⟨h1,⟨q,hq,hq2⟩,h2,h3⟩|⟨h1,h5,h2,seq,h3,h4⟩
  .rw [if_pos h1]at h;subst h;rw [hnil h3,h2];exact two (Gv _ _)
  .have hf:(l.map (λs=>s.l)).all qJ=false:=by
    rw [Bool.eq_false_iff];intro g;rw [hall.1 g q hq]at hq2;cases hq2
   rw [if_neg (by rw [h1];simp),if_pos hf]at h;subst h;rw [hnil h3,h2];exact two (Gv _ _)
  .have hseq:=Hp.ext_eq h3 (λh hm=>(IZ _).1 (h5 h hm)) (λi hi=>by rw [hat i (by omega),Mf])
   have hres:res=XF r (l.map (λs=>s.l)):=by
    rw [h4,hseq,hH,Je];rfl
   rw [if_neg (by rw [h1];simp),if_neg (by rw [hall.2 h5];simp),<-hres]at h;rw [h2];by_cases he:res= []
   .rw [if_pos (by rw [he];rfl)]at h;subst h;rw [hnil he];exact two (Gv _ _)
   .rw [if_neg (by simpa using he)]at h;subst h;exact two (XH hown (λb hb=>hb.1) he)
theorem enters:Ev.Enters Tryz.prog 38:=⟨_,_,Tryz.func38,by kernel_rfl,by unfold Tryz.f38;rfl⟩
end Mg
end Sm
end
noncomputable section
namespace Ev
namespace K
open Go Go.RowKit
set_option maxRecDepth 100000
set_option maxHeartbeats 1000000
def Jg:Ax:=(bu (λ_=>none) 38 (TA Sm.Mg.ins .fresh Sm.Mg.outs Sm.Mg.fn))
theorem AC:Cb Tryz.prog Jg:=(az (xz _) (Xx Sm.Mg.enters Sm.Mg.pure_ok))
def yb:Ax:=(bu (bu (bu (bu (bu (bu (bu (bu (bu (bu (bu (bu Jg 22 dk) 27 dk) 30 dk) 31 dk) 41 dk) 45 dk) 54 dk) 55 dk) 57 dk) 60 dk) 99 dk) 105 dk)
theorem oH:Cb Tryz.prog yb:=(az (az (az (az (az (az (az (az (az (az (az (az AC λvs kind rs h=>by simp [dk]at h) λvs kind rs h=>by simp [dk]at h) λvs kind rs h=>by simp [dk]at h) λvs kind rs h=>by simp [dk]at h) λvs kind rs h=>by simp [dk]at h) λvs kind rs h=>by simp [dk]at h) λvs kind rs h=>by simp [dk]at h) λvs kind rs h=>by simp [dk]at h) λvs kind rs h=>by simp [dk]at h) λvs kind rs h=>by simp [dk]at h) λvs kind rs h=>by simp [dk]at h) λvs kind rs h=>by simp [dk]at h)
def E0:Env:=wj Tryz.prog yb
theorem ZQ:E0.Ok:=pr ua ub oH
def lvi(n:Int):T:=iT .i64 n
def lvu(n:Int):T:=iT .u64 n
def aew:TD:= .one (.s true 3 [[lvi 0,lvi 0,lvi 2],[lvi 0,lvi 1,lvi 3],[lvi 1,lvi 1,lvi 9]])
def XI:TD:= .agg [lvi 2,lvi 2,.s true 1 [[lvi 0],[lvi 2],[lvi 3]],.s true 1 [[lvi 0],[lvi 1],[lvi 1]],.s true 1 [[lvi 2],[lvi 3],[lvi 9]]]
def Jh:TD:= .agg [lvi 2,lvi 2,.s true 1 [[lvi 0],[lvi 1]],.s true 1 [[lvi 0],[lvi 1],[lvi 3]],.s true 1 [[lvi 0],[lvi 0],[lvi 1]],.s true 1 [[lvi 2],[lvi 3],[lvi 9]]]
def Qu:TD:= .agg [lvi 2,.s true 2 [[lvi 1,lvi 1]]]
def aex:TD:= .agg [lvi 2,.s true 2 [[lvi 0,lvi 4],[lvi 1,lvi 10]]]
end K
end Ev
end
noncomputable section
namespace Ev
open Go
mutual
def Gw:T->T->Bool
 | .v (.int k a),.v (.int k' b)=>decide (k=k')&& decide (a=b)
 | .v (.bool a),.v (.bool b)=>a==b
 | .s n z l,.s n' z' l'=>(n==n')&&(Nat.beq z z' && Qv l l')
 |_,_=>false
def Mi:List T->List T->Bool
 | [],[]=>true
 |a::l,b::m=>Gw a b && Mi l m
 |_,_=>false
def Qv:List (List T)->List (List T)->Bool
 | [],[]=>true
 |a::l,b::m=>Mi a b && Qv l m
 |_,_=>false
end
mutual
theorem OI:∀(a b:T),Gw a b=true->a=b
 | .v x,.v y,h=>by
  cases x<;>cases y<;>first
   |(simp only [Gw,Bool.and_eq_true,decide_eq_true_eq]at h;obtain⟨rfl,rfl⟩:=h;rfl)
   |(simp only [Gw,beq_iff_eq]at h;subst h;rfl)
   |(simp [Gw]at h)
 | .v x,.s n z l,h=>by cases x<;>simp [Gw]at h
 | .s n z l,.v x,h=>by cases x<;>simp [Gw]at h
 | .s n z l,.s n' z' l',h=>by
  simp only [Gw,Bool.and_eq_true,beq_iff_eq]at h;obtain⟨rfl,h1,h2⟩:=h;obtain rfl:=Nat.eq_of_beq_eq_true h1;rw [OJ l l' h2]
theorem Gx:∀(a b:List T),Mi a b=true->a=b
 | [],[],_=>rfl
 | [],_::_,h=>by simp [Mi]at h
 |_::_,[],h=>by simp [Mi]at h
 |a::l,b::m,h=>by
  simp only [Mi,Bool.and_eq_true]at h;rw [OI a b h.1,Gx l m h.2]
theorem OJ:∀(a b:List (List T)),Qv a b=true->a=b
 | [],[],_=>rfl
 | [],_::_,h=>by simp [Qv]at h
 |_::_,[],h=>by simp [Qv]at h
 |a::l,b::m,h=>by
  simp only [Qv,Bool.and_eq_true]at h;rw [Gx a b h.1,OJ l m h.2]
end
def TV:TD->TD->Bool
 | .one a,.one b=>Gw a b
 | .agg a,.agg b=>Mi a b
 |_,_=>false
theorem TW{a b:TD}(h:TV a b=true):a=b:=by
 cases a<;>cases b<;>simp only [TV,Bool.false_eq_true]at h
 .rw [OI _ _ h]
 .rw [Gx _ _ h]
def uf:List TD->List TD->Bool
 | [],[]=>true
 |a::l,b::m=>TV a b && uf l m
 |_,_=>false
theorem Ep:∀{a b:List TD},uf a b=true->a=b
 | [],[],_=>rfl
 | [],_::_,h=>by simp [uf]at h
 |_::_,[],h=>by simp [uf]at h
 |a::l,b::m,h=>by
  simp only [uf,Bool.and_eq_true]at h;rw [TW h.1,Ep h.2]
def tu:List (List TD×Kind×List TD)->List TD->Option (Kind×List TD)
 | [],_=>none
 |e::r,vs=>cond (uf e.1 vs) (some e.2) (tu r vs)
theorem OK{P:Program}{cp:dE}{k:FuncId}(hc:∀vs kind rs,cp k vs=some (kind,rs)->bL P k vs kind rs/\Enters P k):
  ∀(l:List (List TD×Kind×List TD)),(∀e∈l,cp k e.1=some e.2)->∀vs kind rs,tu l vs=some (kind,rs)->bL P k vs kind rs/\Enters P k
 | [],_,vs,kind,rs,h=>by simp [tu]at h
 |e::r,hl,vs,kind,rs,h=>by
  unfold tu at h
  cases hb:uf e.1 vs with
  |true=>
   rw [hb]at h;simp only [cond_true,zsI]at h;rw [<-Ep hb];exact hc _ _ _ (by rw [hl e List.mem_cons_self,h])
  |false=>
   rw [hb]at h;exact OK hc r (λx hx=>hl x (List.mem_cons_of_mem _ hx)) vs kind rs h
end Ev
end
noncomputable section
namespace Ev
namespace K
open Go Go.RowKit
set_option maxRecDepth 100000
set_option maxHeartbeats 1000000
theorem afI:(dC E0 300 60).1 35 [.one (lvi 1),.one (lvi 2),.one (lvi 2),aew]=some (.fresh,[XI,.one (lvi 0)]):=by kernel_rfl
end K
end Ev
end
noncomputable section
namespace Ev
namespace K
open Go Go.RowKit
set_option maxRecDepth 100000
set_option maxHeartbeats 1000000
theorem afJ:(dC E0 300 60).1 36 [XI]=some (.fresh,[Jh]):=by kernel_rfl
end K
end Ev
end
noncomputable section
namespace Ev
namespace K
open Go Go.RowKit
set_option maxRecDepth 100000
set_option maxHeartbeats 1000000
theorem afK:(dC E0 300 60).1 37 [.one (lvi 1),Jh,Qu,.one (.s false 0 []),.one (bT true)]=some (.fresh,[aex,.one (lvi 0)]):=by kernel_rfl
end K
end Ev
end
noncomputable section
namespace Ev
namespace K
open Go Go.RowKit
set_option maxRecDepth 100000
set_option maxHeartbeats 1000000
theorem lv8:(dC E0 300 60).1 8 [.one (lvi 1),Jh,Qu,.one (.s true 1 [[lvu 1]]),.one (bT false)]=some (.fresh,[.one (.s true 3 [[lvi 0,lvi 0,lvu 4]]),.one (lvi 0)]):=by kernel_rfl
end K
end Ev
end
noncomputable section
namespace Ev
namespace K
open Go Go.RowKit
set_option maxRecDepth 100000
set_option maxHeartbeats 1000000
theorem afL:(dC E0 300 60).1 39 [Jh,Qu]=some (.fresh,[.one (lvi 2)]):=by kernel_rfl
end K
end Ev
end
noncomputable section
namespace Ev
namespace K
open Go Go.RowKit
set_option maxRecDepth 100000
set_option maxHeartbeats 1000000
theorem TX{k:FuncId}{a b:List TD}(h:(dC E0 300 60).1 k a=some (.fresh,b)):∀vs kind rs,tu [(a,.fresh,b)] vs=some (kind,rs)->bL Tryz.prog k vs kind rs/\Ev.Enters Tryz.prog k:=OK (cp:=(dC E0 300 60).1) (λvs kind rs h=>(uA ZQ 300 60).1 _ _ _ _ h) _ (List.forall_mem_cons.2 ⟨h,λ_ h=>by cases h⟩)
def aey:List (List TD×Kind×List TD):= [([.one (lvi 1),.one (lvi 2),.one (lvi 2),aew],.fresh,[XI,.one (lvi 0)])]
def aez:List (List TD×Kind×List TD):= [([XI],.fresh,[Jh])]
def aeA:List (List TD×Kind×List TD):= [([.one (lvi 1),Jh,Qu,.one (.s false 0 []),.one (bT true)],.fresh,[aex,.one (lvi 0)])]
def afM:List (List TD×Kind×List TD):= [([.one (lvi 1),Jh,Qu,.one (.s true 1 [[lvu 1]]),.one (bT false)],.fresh,[.one (.s true 3 [[lvi 0,lvi 0,lvu 4]]),.one (lvi 0)])]
def aeB:List (List TD×Kind×List TD):= [([Jh,Qu],.fresh,[.one (lvi 2)])]
def axV:Ax:=(bu (bu (bu (bu (bu yb 35 (tu aey)) 36 (tu aez)) 37 (tu aeA)) 8 (tu afM)) 39 (tu aeB))
theorem abC:Cb Tryz.prog axV:=(az (az (az (az (az oH (TX afI)) (TX afJ)) (TX afK)) (TX lv8)) (TX afL))
def EV:Env:=wj Tryz.prog axV
theorem aeC:EV.Ok:=pr ua ub abC
def OL:List TD->Option (Kind×List TD)
 | []=>some (.fresh,[.one (.v (.bool true))])
 |_=>none
theorem XJ{k:FuncId}(h:(dC EV 300 60).1 k []=some (.fresh,[.one (.v (.bool true))])):∀vs kind rs,OL vs=some (kind,rs)->bL Tryz.prog k vs kind rs/\Ev.Enters Tryz.prog k:=λvs kind rs hf=>by
 unfold OL at hf;split at hf
 .simp only [zsI,Prod.mk.injEq]at hf;obtain⟨rfl,rfl⟩:=hf;exact(uA aeC 300 60).1 _ _ _ _ h
 .simp at hf
theorem abD:(dC EV 300 60).1 12 []=some (.fresh,[.one (.v (.bool true))]):=by kernel_rfl
def E1:Env:=wj Tryz.prog (bu yb 12 OL)
theorem bw:E1.Ok:=pr ua ub (az oH (XJ abD))
def XK:vals []->Option Bool:=λ_=>some true
def abE:bJ:=⟨12,[],.data true [(false,.B)],XK,1⟩
theorem XL:aS E1 abE:=λm a out h=>by
 obtain rfl:=Option.some.inj h;exact fp (F:=OL) rfl rfl
theorem dR:WR E1 TT:=⟨tz1,⟨tz2,⟨tz3,⟨tz4,⟨tz5,⟨tz6,⟨tz7,⟨tz8,⟨aaj,⟨aak,⟨aal,⟨aam,⟨aan,⟨aao,⟨aap,⟨Xc,⟨Xd,⟨aaq,⟨Xe,⟨Xf,⟨aar,⟨Xg,⟨aas,⟨Xh,⟨Xi,⟨aat,⟨Xj,⟨aau,⟨aav,⟨Xk,⟨aaw,⟨aax,⟨Xl,⟨aay,⟨aaz,⟨aaA,⟨Xm,⟨aaB,⟨aaC,⟨aaD,⟨Xn,⟨aaE,⟨aaF,⟨aaG,⟨aaH,⟨aaI,⟨aaJ,⟨aaK,⟨aaL,⟨aaM,⟨Xo,⟨aaN,⟨aaO,⟨aaP,⟨Xp,⟨aaQ,⟨aaR,⟨aaS,⟨aaT,⟨Xq,⟨aaU,⟨Xr,⟨aaV,⟨Xu,⟨aaW,⟨aaX,⟨aaY,⟨aaZ,⟨Xv,⟨ab0,⟨ab1,⟨ab2,⟨ab3,⟨ab4,⟨Xw,⟨ab5,⟨ab6,⟨ab7,⟨ab8,⟨ab9,⟨aba,⟨abb,⟨abc,⟨abd,⟨abe,⟨abf,⟨abg,⟨abh,⟨abi,⟨RV,⟨RW,⟨RX,⟨RY,⟨RZ,⟨Sa,⟨Sb,⟨Sd,⟨Se,⟨Sf,⟨Sg,⟨Si,⟨Sj,⟨Sk,⟨Sn,⟨So,⟨Oy,⟨Sp,⟨Oz,⟨Sq,⟨Sr,⟨Ss,⟨Su,⟨Sv,⟨Sw,⟨Sx,⟨Sy,⟨Sz,⟨SA,⟨SC,⟨SD,⟨SE,⟨SF,⟨SG,⟨SH,⟨SI,⟨SJ,⟨SK,⟨SM,⟨SN,⟨SO,⟨SP,⟨SQ,⟨SR,⟨SS,⟨ST,⟨SU,⟨SW,⟨SX,⟨SY,⟨SZ,⟨Ta,⟨Tb,⟨Tc,⟨Td,⟨Te,⟨Tf,⟨Tg,⟨Ti,⟨Tj,⟨Tl,⟨Tm,⟨Tn,⟨To,⟨Tp,⟨Tq,⟨Tr,⟨Ts,⟨Tt,⟨Tu,⟨Tv,⟨Tw,⟨Tx,⟨Tz,trivial⟩⟩⟩⟩⟩⟩⟩⟩⟩⟩⟩⟩⟩⟩⟩⟩⟩⟩⟩⟩⟩⟩⟩⟩⟩⟩⟩⟩⟩⟩⟩⟩⟩⟩⟩⟩⟩⟩⟩⟩⟩⟩⟩⟩⟩⟩⟩⟩⟩⟩⟩⟩⟩⟩⟩⟩⟩⟩⟩⟩⟩⟩⟩⟩⟩⟩⟩⟩⟩⟩⟩⟩⟩⟩⟩⟩⟩⟩⟩⟩⟩⟩⟩⟩⟩⟩⟩⟩⟩⟩⟩⟩⟩⟩⟩⟩⟩⟩⟩⟩⟩⟩⟩⟩⟩⟩⟩⟩⟩⟩⟩⟩⟩⟩⟩⟩⟩⟩⟩⟩⟩⟩⟩⟩⟩⟩⟩⟩⟩⟩⟩⟩⟩⟩⟩⟩⟩⟩⟩⟩⟩⟩⟩⟩⟩⟩⟩⟩⟩⟩⟩⟩⟩⟩⟩⟩⟩⟩⟩⟩⟩⟩⟩
theorem ck:WS E1.P EQS:=⟨aae OA OB,trivial⟩
theorem fn4:E1.fn 4=some fi4:=cv Tryz.func4 rfl
theorem afN:E1.fn 14=some adJ:=cv Tryz.func14 rfl
theorem afO:E1.fn 15=some adK:=cv Tryz.func15 rfl
theorem afP:E1.fn 17=some adL:=cv Tryz.func17 rfl
theorem afQ:E1.fn 18=some adM:=cv Tryz.func18 rfl
theorem afR:E1.fn 23=some adO:=cv Tryz.func23 rfl
theorem afS:E1.fn 24=some abj:=cv Tryz.func24 rfl
theorem afT:E1.fn 26=some adP:=cv Tryz.func26 rfl
theorem afU:E1.fn 35=some adQ:=cv Tryz.func35 rfl
theorem afV:E1.fn 40=some adR:=cv Tryz.func40 rfl
theorem aeD:E1.fn 41=some abk:=cv Tryz.func41 rfl
theorem afW:E1.fn 43=some adS:=cv Tryz.func43 rfl
theorem afX:E1.fn 46=some abl:=cv Tryz.func46 rfl
theorem afY:E1.fn 47=some abm:=cv Tryz.func47 rfl
theorem afZ:E1.fn 48=some abn:=cv Tryz.func48 rfl
theorem ag0:E1.fn 49=some abo:=cv Tryz.func49 rfl
theorem ag1:E1.fn 50=some adT:=cv Tryz.func50 rfl
theorem ag2:E1.fn 52=some adU:=cv Tryz.func52 rfl
theorem ag3:E1.fn 53=some adV:=cv Tryz.func53 rfl
theorem aeE:E1.fn 54=some abp:=cv Tryz.func54 rfl
theorem ag4:E1.fn 55=some adW:=cv Tryz.func55 rfl
theorem ag5:E1.fn 56=some adX:=cv Tryz.func56 rfl
theorem ag6:E1.fn 58=some adY:=cv Tryz.func58 rfl
theorem ag7:E1.fn 63=some adZ:=cv Tryz.func63 rfl
theorem ag8:E1.fn 64=some ae0:=cv Tryz.func64 rfl
theorem ag9:E1.fn 65=some ae1:=cv Tryz.func65 rfl
theorem aga:E1.fn 75=some ae3:=cv Tryz.func75 rfl
theorem agb:E1.fn 76=some ae4:=cv Tryz.func76 rfl
theorem agc:E1.fn 77=some abq:=cv Tryz.func77 rfl
theorem agd:E1.fn 78=some ae5:=cv Tryz.func78 rfl
theorem age:E1.fn 79=some ae6:=cv Tryz.func79 rfl
theorem agf:E1.fn 80=some ae7:=cv Tryz.func80 rfl
theorem agh:E1.fn 81=some ae8:=cv Tryz.func81 rfl
theorem agi:E1.fn 82=some ae9:=cv Tryz.func82 rfl
theorem agj:E1.fn 85=some aea:=cv Tryz.func85 rfl
theorem agk:E1.fn 86=some aeb:=cv Tryz.func86 rfl
theorem agl:E1.fn 87=some aec:=cv Tryz.func87 rfl
theorem agm:E1.fn 88=some aed:=cv Tryz.func88 rfl
theorem aeF:E1.fn 100=some ZK:=cv Tryz.func100 rfl
theorem aeG:E1.fn 101=some ZL:=cv Tryz.func101 rfl
theorem aeH:E1.fn 102=some ZM:=cv Tryz.func102 rfl
end K
end Ev
end
noncomputable section
namespace Ev
namespace K
open Go Go.RowKit
set_option maxRecDepth 100000
set_option maxHeartbeats 1000000
def Dl:dh:= []
def tw:KG:=⟨TT,EQS,[],[]⟩
def cO:vals [(false,.I .i64)]->Option (OutK.val (.data true [(false,.I .i64)])):=dI tw Dl fi4 4 0 [(false,.I .i64)] (.data true [(false,.I .i64)])
def oc:bJ:=⟨4,[(false,.I .i64)],.data true [(false,.I .i64)],cO,1⟩
def Gy:dh:= []
def vq:KG:=⟨TT,EQS,[],[]⟩
def dK:vals [(false,.I .u8)]->Option (OutK.val (.data true [(false,.I .i64)])):=dI vq Gy adL 17 0 [(false,.I .u8)] (.data true [(false,.I .i64)])
def pI:bJ:=⟨17,[(false,.I .u8)],.data true [(false,.I .i64)],dK,1⟩
def Ji:dh:= []
def yc:KG:=⟨TT,EQS,[],[]⟩
def mz:vals [yD5]->Option (OutK.val (.data false [yD5])):=dI yc Ji adR 40 0 [yD5] (.data false [yD5])
def yd:bJ:=⟨40,[yD5],.data false [yD5],mz,1⟩
def Mj:dh:= []
def AD:KG:=⟨TT,EQS,[],[]⟩
def fZ:vals [(false,.I .i64)]->Option (OutK.val (.data true [(false,.B)])):=dI AD Mj adZ 63 0 [(false,.I .i64)] (.data true [(false,.B)])
def pJ:bJ:=⟨63,[(false,.I .i64)],.data true [(false,.B)],fZ,1⟩
def Dm:dh:= []
def tz:KG:=⟨TT,EQS,[],[]⟩
def gY:vals [yD7,yD7]->Option (OutK.val (.data true [(false,.B)])):=dI tz Dm aea 85 0 [yD7,yD7] (.data true [(false,.B)])
def tA:bJ:=⟨85,[yD7,yD7],.data true [(false,.B)],gY,1⟩
def Mk:dh:= []
def AE:KG:=⟨TT,EQS,[],[]⟩
def oI:vals [(false,.I .i64)]->Option (OutK.val (.data true [yD9])):=dI AE Mk aeb 86 0 [(false,.I .i64)] (.data true [yD9])
def AF:bJ:=⟨86,[(false,.I .i64)],.data true [yD9],oI,1⟩
def zi:dh:= []
def qx:KG:=⟨TT,EQS,[],[]⟩
def fQ:vals [yD9,yD9]->Option (OutK.val (.data true [(false,.I .i64)])):=dI qx zi ZK 100 0 [yD9,yD9] (.data true [(false,.I .i64)])
def qy:bJ:=⟨100,[yD9,yD9],.data true [(false,.I .i64)],fQ,1⟩
def Do:dh:= []
def tB:KG:=⟨TT,EQS,[],[]⟩
def gZ:vals [(false,.B)]->Option (OutK.val (.data true [yD9])):=dI tB Do ZL 101 0 [(false,.B)] (.data true [yD9])
def tC:bJ:=⟨101,[(false,.B)],.data true [yD9],gZ,1⟩
def Jj:dh:= [(102,⟨[⟨true,3,5,[2,4,5],⟨[(6,false,[.d true (.I .i64)])],[],[]⟩,[(.normal,⟨[(6,false,[.d true (.I .i64)])],[],[]⟩)]⟩],[]⟩)]
def ye:KG:=⟨TT,EQS,[],[]⟩
def mA:vals [yD9,yD9]->Option (OutK.val (.data true [yD9])):=dI ye Jj ZM 102 0 [yD9,yD9] (.data true [yD9])
def yf:bJ:=⟨102,[yD9,yD9],.data true [yD9],mA,1⟩
def Jk:dh:= [(87,⟨[⟨true,3,9,[4,5,6,7],⟨[],[],[]⟩,[(.normal,⟨[(9,false,[.d true .B])],[],[]⟩)]⟩],[]⟩)]
def yg:KG:=⟨TT,EQS,[qy,tC,yf],[]⟩
def mB:vals [(false,.I .i64),yD9,yD9]->Option (OutK.val (.data true [yD9])):=dI yg Jk aec 87 0 [(false,.I .i64),yD9,yD9] (.data true [yD9])
def yh:bJ:=⟨87,[(false,.I .i64),yD9,yD9],.data true [yD9],mB,2⟩
def AG:dh:= []
def qU:KG:=⟨TT,EQS,[],[]⟩
def gv:vals [yD9]->Option (OutK.val (.data true [(false,.I .i64),(false,.B)])):=dI qU AG aed 88 0 [yD9] (.data true [(false,.I .i64),(false,.B)])
def qV:bJ:=⟨88,[yD9],.data true [(false,.I .i64),(false,.B)],gv,1⟩
def zj:dh:= [(64,⟨[⟨false,6,0,[0,1],⟨[(6,false,[.m (.C (.I .i64) (.C (.I .i64) (.I .i64)))]),(7,false,[.m (.C (.I .i64) (.I .u64))]),(8,false,[.d true (.I .i64)])],[],[]⟩,[(.exit 0,⟨[(6,false,[.m (.C (.I .i64) (.C (.I .i64) (.I .i64)))]),(7,false,[.m (.C (.I .i64) (.I .u64))])],[],[]⟩)]⟩,⟨false,9,0,[0,1,6,7,8],⟨[(9,false,[.d true (.I .i64)])],[],[]⟩,[(.exit 2,⟨[(9,false,[.d true (.I .i64)])],[],[]⟩)]⟩,⟨false,17,0,[0,1,6,7,8,9,10],⟨[(11,false,[.d true (.I .i64)])],[],[(.sl 6 0,.C (.I .i64) (.C (.I .i64) (.I .i64))),(.sl 7 0,.C (.I .i64) (.I .u64))]⟩,[(.exit 4,⟨[],[],[(.sl 6 0,.C (.I .i64) (.C (.I .i64) (.I .i64))),(.sl 7 0,.C (.I .i64) (.I .u64))]⟩)]⟩,⟨false,24,0,[7],⟨[(6,false,[.m (.C (.I .i64) (.C (.I .i64) (.I .i64)))]),(12,false,[.d true (.I .i64)])],[],[]⟩,[(.exit 6,⟨[(6,false,[.m (.C (.I .i64) (.C (.I .i64) (.I .i64)))])],[],[]⟩),(.ret,⟨[(4,false,[.m (.C (.I .i64) (.C (.I .i64) (.I .i64)))]),(5,false,[.d true (.I .i64)])],[],[]⟩)]⟩],[(13,⟨[[],[],[],[],[],[],[],[],[],[],[.sl 7 0]],[(false,[]),(false,[]),(false,[]),(false,[]),(false,[]),(false,[]),(false,[]),(false,[]),(false,[]),(false,[]),(false,[])]⟩),(21,⟨[[],[],[],[],[],[],[],[],[],[],[],[],[],[],[.sl 6 0]],[(false,[]),(false,[]),(false,[]),(false,[]),(false,[]),(false,[]),(false,[]),(false,[]),(false,[]),(false,[]),(false,[]),(false,[]),(false,[]),(false,[]),(false,[])]⟩)]⟩)]
def qz:KG:=⟨TT,EQS,[pJ,tA,AF,yh,qV],[]⟩
def cG:vals [(false,.I .i64),yD5]->Option (OutK.val (.data true [yD5,(false,.I .i64)])):=dI qz zj ae0 64 0 [(false,.I .i64),yD5] (.data true [yD5,(false,.I .i64)])
def lN:bJ:=⟨64,[(false,.I .i64),yD5],.data true [yD5,(false,.I .i64)],cG,3⟩
def Dp:dh:= [(65,⟨[⟨false,3,0,[0,2,6,7],⟨[(8,false,[.d true (.I .i64)])],[(7,[.d true (.I .i64),.d true (.I .i64),.o (.I .i64),.m (.I .i64),.m (.I .i64)])],[]⟩,[(.exit 0,⟨[],[(7,[.d true (.I .i64),.d true (.I .i64),.o (.I .i64),.m (.I .i64),.m (.I .i64)])],[]⟩)]⟩,⟨false,8,0,[0,2,6,7,8],⟨[(9,false,[.d true (.I .i64)])],[],[(.bx 7 2,.I .i64)]⟩,[(.exit 2,⟨[],[],[(.bx 7 2,.I .i64)]⟩)]⟩],[(5,⟨[[],[],[],[],[],[],[],[],[.bx 7 3],[],[.sl 7 0]],[(false,[]),(false,[]),(false,[]),(false,[]),(false,[]),(false,[]),(false,[]),(true,[]),(true,[]),(false,[]),(false,[])]⟩),(6,⟨[[],[],[],[],[],[],[],[],[.bx 7 4],[],[.sl 7 0]],[(false,[]),(false,[]),(false,[]),(false,[]),(false,[]),(false,[]),(false,[]),(true,[]),(true,[]),(false,[]),(false,[])]⟩)]⟩)]
def tD:KG:=⟨TT,EQS,[],[(41,abk)]⟩
def jA:vals [(false,.I .i64),(false,.I .i64),yD5]->Option (OutK.val (.data true [yD2])):=dI tD Dp ae1 65 6 [(false,.I .i64),(false,.I .i64),yD5] (.data true [yD2])
def tE:bJ:=⟨65,[(false,.I .i64),(false,.I .i64),yD5],.data true [yD2],jA,7⟩
def Ml:dh:= [(35,⟨[⟨false,9,0,[0,1,2,3,8],⟨[(10,false,[.m (.C (.I .i64) (.C (.I .i64) (.I .i64)))]),(11,false,[.d true (.I .i64)])],[(8,[.d true (.I .i64),.d true (.I .i64),.m (.I .i64),.m (.I .i64),.m (.I .i64)])],[]⟩,[(.exit 0,⟨[(10,false,[.m (.C (.I .i64) (.C (.I .i64) (.I .i64)))])],[(8,[.d true (.I .i64),.d true (.I .i64),.m (.I .i64),.m (.I .i64),.m (.I .i64)])],[]⟩),(.ret,⟨[(9,false,[.d true (.I .i64)])],[(8,[.d true (.I .i64),.d true (.I .i64),.m (.I .i64),.m (.I .i64),.m (.I .i64)])],[]⟩)]⟩,⟨false,19,0,[1,2,8,10],⟨[(13,false,[.m (.C (.I .i64) (.C (.I .i64) (.I .i64)))]),(14,false,[.d true (.I .i64)])],[],[]⟩,[(.exit 2,⟨[(13,false,[.m (.C (.I .i64) (.C (.I .i64) (.I .i64)))])],[],[]⟩)]⟩],[(13,⟨[[],[],[],[],[],[],[],[],[],[],[],[],[],[],[],[],[],[],[.sl 10 0],[]],[(false,[]),(false,[]),(false,[]),(false,[]),(false,[]),(false,[]),(false,[]),(false,[]),(false,[]),(false,[]),(false,[]),(false,[]),(false,[]),(false,[]),(false,[]),(false,[]),(false,[]),(true,[]),(true,[]),(false,[])]⟩),(21,⟨[[],[],[],[],[],[],[],[],[],[],[],[],[],[],[],[],[],[],[.sl 13 0],[]],[(false,[]),(false,[]),(false,[]),(false,[]),(false,[]),(false,[]),(false,[]),(false,[]),(false,[]),(false,[]),(false,[]),(false,[]),(false,[]),(false,[]),(false,[]),(false,[]),(false,[]),(true,[]),(true,[]),(false,[])]⟩)]⟩)]
def AH:KG:=⟨TT,EQS,[pJ,lN,tE],[]⟩
def oJ:vals [(false,.I .i64),(false,.I .i64),(false,.I .i64),yD5]->Option (OutK.val (.data true [yD2,(false,.I .i64)])):=dI AH Ml adQ 35 0 [(false,.I .i64),(false,.I .i64),(false,.I .i64),yD5] (.data true [yD2,(false,.I .i64)])
def AI:bJ:=⟨35,[(false,.I .i64),(false,.I .i64),(false,.I .i64),yD5],.data true [yD2,(false,.I .i64)],oJ,8⟩
def Gz:dh:= [(14,⟨[⟨false,5,0,[1,4,5,6],⟨[(7,false,[.m (.C (.I .i64) (.C (.I .i64) (.I .i64)))]),(8,false,[.d true (.I .i64)])],[],[]⟩,[(.exit 0,⟨[(7,false,[.m (.C (.I .i64) (.C (.I .i64) (.I .i64)))])],[],[]⟩)]⟩],[]⟩)]
def vr:KG:=⟨TT,EQS,[pI,AI,yd],[(41,abk)]⟩
def fR:vals [abr,yD5]->Option (OutK.val (.data true [yD2])):=dI vr Gz adJ 14 6 [abr,yD5] (.data true [yD2])
def vt:bJ:=⟨14,[abr,yD5],.data true [yD2],fR,15⟩
def Dq:dh:= []
def tF:KG:=⟨TT,EQS,[],[]⟩
def cP:vals [(false,.I .i64),(false,.I .i64)]->Option (OutK.val (.data true [(false,.I .i64)])):=dI tF Dq adM 18 0 [(false,.I .i64),(false,.I .i64)] (.data true [(false,.I .i64)])
def od:bJ:=⟨18,[(false,.I .i64),(false,.I .i64)],.data true [(false,.I .i64)],cP,1⟩
def AJ:dh:= []
def qW:KG:=⟨TT,EQS,[od],[]⟩
def de:vals [(false,.I .i64),(false,.I .i64)]->Option (OutK.val (.data true [(false,.I .i64)])):=dI qW AJ adK 15 0 [(false,.I .i64),(false,.I .i64)] (.data true [(false,.I .i64)])
def qX:bJ:=⟨15,[(false,.I .i64),(false,.I .i64)],.data true [(false,.I .i64)],de,2⟩
def sO:dh:= [(5,⟨[⟨false,5,0,[2,3,4],⟨[(5,false,[.m (.I .i64)]),(6,false,[.d true (.I .i64)])],[],[]⟩,[(.exit 0,⟨[(5,false,[.m (.I .i64)])],[],[]⟩)]⟩],[]⟩)]
def sP:KG:=⟨TT,EQS,[oc,vt,qX],[]⟩
def cQ:vals [yD0]->Option (OutK.val (.data true [yD2])):=dI sP sO fi5 5 0 [yD0] (.data true [yD2])
def Mm:dh:= [(42,⟨[⟨false,7,0,[0,1,2,6],⟨[(8,false,[.m (.C (.I .i64) (.C (.I .i64) (.I .i64)))]),(9,false,[.d true (.I .i64)])],[(6,[.d true (.I .i64),.m (.C (.I .i64) (.I .i64))])],[]⟩,[(.exit 0,⟨[(8,false,[.m (.C (.I .i64) (.C (.I .i64) (.I .i64)))])],[(6,[.d true (.I .i64),.m (.C (.I .i64) (.I .i64))])],[]⟩),(.ret,⟨[(7,false,[.d true (.I .i64)])],[(6,[.d true (.I .i64),.m (.C (.I .i64) (.I .i64))])],[]⟩)]⟩,⟨false,17,0,[6,8,11],⟨[(12,false,[.d true (.I .i64)])],[(11,[.d true (.I .i64),.m (.C (.I .i64) (.I .i64))])],[]⟩,[(.exit 2,⟨[],[(11,[.d true (.I .i64),.m (.C (.I .i64) (.I .i64))])],[]⟩)]⟩],[(11,⟨[[],[],[],[],[],[],[],[],[],[],[],[],[],[.sl 8 0],[]],[(false,[]),(false,[]),(false,[]),(false,[]),(false,[]),(false,[]),(false,[]),(false,[]),(false,[]),(false,[]),(false,[]),(false,[]),(true,[]),(true,[]),(false,[])]⟩),(19,⟨[[],[],[],[],[],[],[],[],[],[],[],[],[],[],[.bx 11 1],[],[.sl 11 0]],[(false,[]),(false,[]),(false,[]),(false,[]),(false,[]),(false,[]),(false,[]),(false,[]),(false,[]),(false,[]),(false,[]),(false,[]),(false,[]),(true,[]),(true,[]),(false,[]),(false,[])]⟩)]⟩)]
def Mn:KG:=⟨TT,EQS,[pJ,lN],[]⟩
def iX:vals [(false,.I .i64),(false,.I .i64),yD8]->Option (OutK.val (.data true [yD6,(false,.I .i64)])):=dI Mn Mm aft 42 0 [(false,.I .i64),(false,.I .i64),yD8] (.data true [yD6,(false,.I .i64)])
def Mo:bJ:=⟨42,[(false,.I .i64),(false,.I .i64),yD8],.data true [yD6,(false,.I .i64)],iX,4⟩
def GA:dh:= [(16,⟨[⟨false,4,0,[1,4,5],⟨[(6,false,[.m (.C (.I .i64) (.I .i64))]),(7,false,[.d true (.I .i64)])],[],[]⟩,[(.exit 0,⟨[(6,false,[.m (.C (.I .i64) (.I .i64))])],[],[]⟩)]⟩],[(7,⟨[[],[],[],[],[],[],[],[],[],[],[],[],[],[],[],[.sl 6 0],[]],[(false,[]),(false,[]),(false,[]),(false,[]),(false,[]),(false,[]),(false,[]),(false,[]),(false,[]),(false,[]),(false,[]),(false,[]),(false,[]),(false,[]),(true,[]),(true,[]),(false,[])]⟩)]⟩)]
def GB:KG:=⟨TT,EQS,[Mo],[]⟩
def gw:vals [(false,.I .u8),yD8]->Option (OutK.val (.data true [yD6])):=dI GB GA afm 16 0 [(false,.I .u8),yD8] (.data true [yD6])
def GC:bJ:=⟨16,[(false,.I .u8),yD8],.data true [yD6],gw,5⟩
def sQ:dh:= [(6,⟨[⟨false,4,0,[2,4,5],⟨[(6,false,[.m (.C (.I .i64) (.I .i64))]),(7,false,[.d true (.I .i64)])],[],[]⟩,[(.exit 0,⟨[(6,false,[.m (.C (.I .i64) (.I .i64))])],[],[]⟩)]⟩],[(6,⟨[[],[],[],[],[],[],[],[],[],[],[],[],[],[],[],[],[],[],[],[.sl 6 0],[]],[(false,[]),(false,[]),(false,[]),(false,[]),(false,[]),(false,[]),(false,[]),(false,[]),(false,[]),(false,[]),(false,[]),(false,[]),(false,[]),(false,[]),(false,[]),(false,[]),(false,[]),(false,[]),(true,[]),(true,[]),(false,[])]⟩)]⟩)]
def sR:KG:=⟨TT,EQS,[oc,GC,pI,od],[]⟩
def cR:vals [yD0,yD8]->Option (OutK.val (.data true [yD6])):=dI sR sQ fi6 6 0 [yD0,yD8] (.data true [yD6])
def vu:dh:= []
def vw:KG:=⟨TT,EQS,[],[]⟩
def dS:vals [yD0]->Option (OutK.val (.data false [(false,.S (.I .u64))])):=dI vw vu fi7 7 0 [yD0] (.data false [(false,.S (.I .u64))])
def Mp:dh:= []
def AK:KG:=⟨TT,EQS,[],[]⟩
def mP:vals [(false,.I .i64)]->Option (OutK.val (.data true [(false,.B)])):=dI AK Mp ae8 81 0 [(false,.I .i64)] (.data true [(false,.B)])
def AL:bJ:=⟨81,[(false,.I .i64)],.data true [(false,.B)],mP,1⟩
def Jl:dh:= [(82,⟨[⟨false,3,0,[1,8,9],⟨[(5,false,[.d true (.I .i64)]),(10,false,[.d true (.I .i64)])],[],[]⟩,[(.exit 0,⟨[],[],[]⟩),(.ret,⟨[(4,false,[.d true .B])],[],[]⟩)]⟩],[]⟩)]
def yi:KG:=⟨TT,EQS,[],[]⟩
def mC:vals [(false,.S (.I .i64)),(false,.I .i64)]->Option (OutK.val (.data true [(false,.B)])):=dI yi Jl ae9 82 0 [(false,.S (.I .i64)),(false,.I .i64)] (.data true [(false,.B)])
def yj:bJ:=⟨82,[(false,.S (.I .i64)),(false,.I .i64)],.data true [(false,.B)],mC,1⟩
def Jm:dh:= [(58,⟨[⟨false,7,0,[1,3,56],⟨[(57,false,[.d true (.I .i64)])],[],[]⟩,[(.exit 0,⟨[],[],[]⟩),(.ret,⟨[(2,false,[.d true .B])],[],[]⟩)]⟩],[]⟩)]
def yk:KG:=⟨TT,EQS,[AL,yj],[]⟩
def eZ:vals [yD2]->Option (OutK.val (.data true [(false,.B)])):=dI yk Jm adY 58 0 [yD2] (.data true [(false,.B)])
def qY:bJ:=⟨58,[yD2],.data true [(false,.B)],eZ,2⟩
def Jn:dh:= [(54,⟨[⟨false,1,0,[0],⟨[(2,false,[.d true (.I .i64)])],[],[(.sl 0 0,.I .i64)]⟩,[(.exit 0,⟨[],[],[(.sl 0 0,.I .i64)]⟩)]⟩],[(3,⟨[[],[],[],[],[],[],[],[],[],[],[],[.sl 0 0]],[(false,[]),(false,[]),(false,[]),(false,[]),(false,[]),(false,[]),(false,[]),(false,[]),(false,[]),(false,[]),(false,[]),(false,[])]⟩)]⟩),(80,⟨[⟨false,3,0,[6,7,16,17],⟨[(18,false,[.d true (.I .i64)])],[(7,[.d true (.I .i64),.d true (.I .i64),.o (.I .i64),.m (.I .i64),.m (.I .i64)])],[]⟩,[(.exit 0,⟨[],[(7,[.d true (.I .i64),.d true (.I .i64),.o (.I .i64),.m (.I .i64),.m (.I .i64)])],[]⟩)]⟩],[]⟩)]
def ym:KG:=⟨TT,EQS,[],[(54,abp)]⟩
def sk:vals [(false,.I .i64),(false,.I .i64),yD5]->Option (OutK.val (.data true [yD2])):=dI ym Jn ae7 80 6 [(false,.I .i64),(false,.I .i64),yD5] (.data true [yD2])
def yn:bJ:=⟨80,[(false,.I .i64),(false,.I .i64),yD5],.data true [yD2],sk,7⟩
def Mq:dh:= []
def AM:KG:=⟨TT,EQS,[qY,yn],[]⟩
def oK:vals [yD2]->Option (OutK.val (.data false [yD2])):=dI AM Mq adV 53 0 [yD2] (.data false [yD2])
def AN:bJ:=⟨53,[yD2],.data false [yD2],oK,8⟩
def Qw:dh:= []
def Er:KG:=⟨TT,EQS,[],[]⟩
def sn:vals [yD2,(false,.I .i64)]->Option (OutK.val (.data false [(false,.S (.I .i64)),(false,.S (.I .i64))])):=dI Er Qw adX 56 0 [yD2,(false,.I .i64)] (.data false [(false,.S (.I .i64)),(false,.S (.I .i64))])
def Es:bJ:=⟨56,[yD2,(false,.I .i64)],.data false [(false,.S (.I .i64)),(false,.S (.I .i64))],sn,1⟩
def Mr:dh:= [(26,⟨[⟨false,4,0,[1,2,3,32,33],⟨[(34,false,[.d true (.I .i64)])],[],[(.bx 3 2,.I .i64)]⟩,[(.exit 0,⟨[],[],[(.bx 3 2,.I .i64)]⟩)]⟩,⟨false,11,0,[1,2,3,6,54],⟨[(55,false,[.d true (.I .i64)])],[],[(.bx 3 3,.I .i64),(.bx 3 4,.I .i64),(.sl 6 0,.I .i64)]⟩,[(.exit 2,⟨[],[],[(.bx 3 3,.I .i64),(.bx 3 4,.I .i64)]⟩)]⟩,⟨false,15,0,[1,2,3,6,7,9,54,55,64,65],⟨[(66,false,[.d true (.I .i64)])],[],[(.bx 3 3,.I .i64),(.bx 3 4,.I .i64),(.sl 6 0,.I .i64)]⟩,[(.exit 4,⟨[],[],[(.bx 3 3,.I .i64),(.bx 3 4,.I .i64),(.sl 6 0,.I .i64)]⟩)]⟩],[(2,⟨[[],[],[],[],[],[],[],[],[],[],[],[],[],[],[],[],[],[],[]],[(false,[]),(false,[]),(false,[]),(false,[]),(false,[]),(false,[]),(false,[]),(true,[]),(false,[]),(false,[]),(false,[]),(true,[]),(false,[]),(false,[]),(false,[]),(true,[]),(false,[]),(true,[]),(false,[17])]⟩),(17,⟨[[],[],[],[],[],[],[],[],[],[],[],[],[],[],[],[],[],[],[.bx 3 3],[],[.bx 3 4]],[(false,[]),(false,[]),(false,[]),(false,[]),(false,[]),(false,[]),(false,[]),(false,[]),(false,[]),(false,[]),(false,[]),(false,[]),(false,[]),(false,[]),(false,[]),(false,[]),(false,[]),(false,[]),(false,[]),(false,[]),(false,[])]⟩)]⟩),(54,⟨[⟨false,1,0,[0],⟨[(2,false,[.d true (.I .i64)])],[],[(.sl 0 0,.I .i64)]⟩,[(.exit 0,⟨[],[],[(.sl 0 0,.I .i64)]⟩)]⟩],[(3,⟨[[],[],[],[],[],[],[],[],[],[],[],[.sl 0 0]],[(false,[]),(false,[]),(false,[]),(false,[]),(false,[]),(false,[]),(false,[]),(false,[]),(false,[]),(false,[]),(false,[]),(false,[])]⟩)]⟩)]
def AO:KG:=⟨TT,EQS,[AN,Es],[(54,abp),(55,adW)]⟩
def iY:vals [yD2]->Option (OutK.val (.data true [yD2])):=dI AO Mr adP 26 6 [yD2] (.data true [yD2])
def Ms:bJ:=⟨26,[yD2],.data true [yD2],iY,15⟩
def Jo:dh:= []
def yo:KG:=⟨TT,EQS,[],[]⟩
def ky:vals [(false,.I .i64)]->Option (OutK.val (.data true [(false,.B)])):=dI yo Jo ae3 75 0 [(false,.I .i64)] (.data true [(false,.B)])
def yp:bJ:=⟨75,[(false,.I .i64)],.data true [(false,.B)],ky,1⟩
def GD:dh:= [(76,⟨[⟨false,3,0,[1,8,9],⟨[(5,false,[.d true (.I .i64)]),(10,false,[.d true (.I .i64)])],[],[]⟩,[(.exit 0,⟨[],[],[]⟩),(.ret,⟨[(4,false,[.d true .B])],[],[]⟩)]⟩],[]⟩)]
def vy:KG:=⟨TT,EQS,[],[]⟩
def jo:vals [(false,.S (.I .i64)),(false,.I .i64)]->Option (OutK.val (.data true [(false,.B)])):=dI vy GD ae4 76 0 [(false,.S (.I .i64)),(false,.I .i64)] (.data true [(false,.B)])
def vz:bJ:=⟨76,[(false,.S (.I .i64)),(false,.I .i64)],.data true [(false,.B)],jo,1⟩
def GE:dh:= [(43,⟨[⟨false,7,0,[1,3,67],⟨[(68,false,[.d true (.I .i64)])],[],[]⟩,[(.exit 0,⟨[],[],[]⟩),(.ret,⟨[(2,false,[.d true .B])],[],[]⟩)]⟩],[]⟩)]
def vA:KG:=⟨TT,EQS,[yp,vz],[]⟩
def fg:vals [yD1]->Option (OutK.val (.data true [(false,.B)])):=dI vA GE adS 43 0 [yD1] (.data true [(false,.B)])
def vB:bJ:=⟨43,[yD1],.data true [(false,.B)],fg,2⟩
def Jp:dh:= []
def Jq:KG:=⟨TT,EQS,[vB],[]⟩
def jB:vals [yD1]->Option (OutK.val (.data false [yD1])):=dI Jq Jp afn 20 0 [yD1] (.data false [yD1])
def zk:dh:= []
def qA:KG:=⟨TT,EQS,[],[]⟩
def cX:vals [(false,.I .u64),(false,.I .u64)]->Option (OutK.val (.data true [yD3])):=dI qA zk ae5 78 0 [(false,.I .u64),(false,.I .u64)] (.data true [yD3])
def qB:bJ:=⟨78,[(false,.I .u64),(false,.I .u64)],.data true [yD3],cX,1⟩
def Jr:dh:= []
def yq:KG:=⟨TT,EQS,[],[]⟩
def fC:vals [yD9,(false,.I .i64)]->Option (OutK.val (.data true [yD9])):=dI yq Jr ae6 79 0 [yD9,(false,.I .i64)] (.data true [yD9])
def yr:bJ:=⟨79,[yD9,(false,.I .i64)],.data true [yD9],fC,1⟩
def Mt:dh:= [(50,⟨[⟨true,5,5,[0,1,4,6],⟨[],[(6,[.d true (.I .i64),.d true (.I .u64)])],[]⟩,[(.normal,⟨[],[(6,[.d true (.I .i64),.d true (.I .u64)])],[]⟩)]⟩],[(3,⟨[[],[],[],[],[],[],[.sl 6 0]],[(false,[]),(false,[]),(false,[]),(false,[]),(false,[]),(false,[]),(false,[])]⟩),(4,⟨[[],[],[],[],[],[],[.sl 6 0]],[(false,[]),(false,[]),(false,[]),(false,[]),(false,[]),(false,[]),(false,[])]⟩)]⟩)]
def AP:KG:=⟨TT,EQS,[mJ,qB,yr],[]⟩
def fh:vals [(false,.I .i64),(false,.I .i64)]->Option (OutK.val (.data true [yD9])):=dI AP Mt adT 50 0 [(false,.I .i64),(false,.I .i64)] (.data true [yD9])
def AQ:bJ:=⟨50,[(false,.I .i64),(false,.I .i64)],.data true [yD9],fh,2⟩
def Mu:dh:= [(23,⟨[⟨true,2,57,[6,7],⟨[(1,false,[.d true (.I .i64)]),(2,false,[.d true (.I .i64)])],[(6,[.d true (.I .i64),.d true (.I .u64)])],[]⟩,[(.exit 5,⟨[(1,false,[.d true (.I .i64)]),(2,false,[.d true (.I .i64)])],[(6,[.d true (.I .i64),.d true (.I .u64)])],[]⟩),(.exit 0,⟨[],[(6,[.d true (.I .i64),.d true (.I .u64)])],[]⟩),(.ret,⟨[],[(6,[.d true (.I .i64),.d true (.I .u64)])],[]⟩),(.normal,⟨[(1,false,[.d true (.I .i64)]),(2,false,[.d true (.I .i64)])],[(6,[.d true (.I .i64),.d true (.I .u64)])],[]⟩)]⟩],[]⟩)]
def AR:KG:=⟨TT,EQS,[sa,kT,mJ,mf,AQ],[]⟩
def eM:vals [(false,.I .i64),(false,.I .i64),(false,.I .i64)]->Option (OutK.val (.data true [yD9])):=dI AR Mu adO 23 0 [(false,.I .i64),(false,.I .i64),(false,.I .i64)] (.data true [yD9])
def Mv:bJ:=⟨23,[(false,.I .i64),(false,.I .i64),(false,.I .i64)],.data true [yD9],eM,3⟩
def AS:dh:= []
def AT:KG:=⟨TT,EQS,[],[]⟩
def dL:vals [(false,.S (.I .u64)),(false,.I .i64)]->Option (OutK.val (.data true [(false,.B)])):=dI AT AS afv 51 0 [(false,.S (.I .u64)),(false,.I .i64)] (.data true [(false,.B)])
def AU:bJ:=⟨51,[(false,.S (.I .u64)),(false,.I .i64)],.data true [(false,.B)],dL,1⟩
def Js:dh:= []
def yu:KG:=⟨TT,EQS,[],[]⟩
def dQ:vals [(false,.I .i64)]->Option (OutK.val (.data true [(false,.I .u64)])):=dI yu Js adU 52 0 [(false,.I .i64)] (.data true [(false,.I .u64)])
def qZ:bJ:=⟨52,[(false,.I .i64)],.data true [(false,.I .u64)],dQ,1⟩
def Jt:dh:= []
def Ju:KG:=⟨TT,EQS,[AU,qZ],[]⟩
def dv:vals [(false,.S (.I .u64)),(false,.I .i64)]->Option (OutK.val (.data true [(false,.B)])):=dI Ju Jt afp 25 0 [(false,.S (.I .u64)),(false,.I .i64)] (.data true [(false,.B)])
def Dr:dh:= []
def Ds:KG:=⟨TT,EQS,[],[]⟩
def dU:vals [(false,.I .i64)]->Option (OutK.val (.data true [(false,.I .i64)])):=dI Ds Dr afy 83 0 [(false,.I .i64)] (.data true [(false,.I .i64)])
def Dt:bJ:=⟨83,[(false,.I .i64)],.data true [(false,.I .i64)],dU,1⟩
def Jv:dh:= []
def Jw:KG:=⟨TT,EQS,[Dt],[]⟩
def fD:vals [(false,.I .i64)]->Option (OutK.val (.own (.I .u64))):=dI Jw Jv afw 61 0 [(false,.I .i64)] (.own (.I .u64))
def Jx:bJ:=⟨61,[(false,.I .i64)],.own (.I .u64),fD,2⟩
def AV:dh:= [(34,⟨[⟨false,3,0,[8,9],⟨[(3,false,[.m (.I .i64)]),(10,false,[.d true (.I .i64)])],[],[]⟩,[(.exit 0,⟨[(3,false,[.m (.I .i64)])],[],[]⟩)]⟩],[]⟩)]
def AW:KG:=⟨TT,EQS,[Gg],[]⟩
def dM:vals [yD6]->Option (OutK.val (.mown (.I .i64))):=dI AW AV afs 34 0 [yD6] (.mown (.I .i64))
def Mw:dh:= [(33,⟨[⟨false,3,0,[0,5,10,11],⟨[(12,false,[.d true (.I .i64)])],[],[(.sl 5 0,.I .u64)]⟩,[(.exit 0,⟨[],[],[(.sl 5 0,.I .u64)]⟩)]⟩],[(6,⟨[[],[],[],[],[],[],[],[],[],[.sl 5 0]],[(false,[]),(false,[]),(false,[]),(false,[]),(false,[]),(false,[]),(false,[]),(false,[]),(false,[]),(false,[])]⟩)]⟩)]
def My:KG:=⟨TT,EQS,[qZ,Jx],[]⟩
def fj:vals [(false,.I .i64),(false,.S (.I .i64))]->Option (OutK.val (.own (.I .u64))):=dI My Mw afr 33 0 [(false,.I .i64),(false,.S (.I .i64))] (.own (.I .u64))
def Jy:dh:= []
def Jz:KG:=⟨TT,EQS,[qY],[]⟩
def iy:vals [yD2]->Option (OutK.val (.data false [yD2])):=dI Jz Jy afq 28 0 [yD2] (.data false [yD2])
def xf:dh:= [(13,⟨[⟨false,4,0,[0,1],⟨[(5,false,[.d true (.I .i64)])],[],[]⟩,[(.exit 0,⟨[],[],[]⟩),(.ret,⟨[(4,false,[.d true .B])],[],[]⟩)]⟩],[]⟩)]
def xg:KG:=⟨TT,EQS,[],[]⟩
def eC:vals [yD4,yD4]->Option (OutK.val (.data true [(false,.B)])):=dI xg xf afl 13 0 [yD4,yD4] (.data true [(false,.B)])
end K
end Ev
end
noncomputable section
namespace Ev
namespace KM
open Go Go.RowKit
def XK:Option (Bool):=K.XK ()
def cO(x:Int):Option (Int):=K.cO x
def dK(x:Int):Option (Int):=K.dK x
def mz(x:Sl (Int×Int×Int)):Option (Sl (Int×Int×Int)):=K.mz x
def fZ(x:Int):Option (Bool):=K.fZ x
def gY(x:Int×Int×Int)(y:Int×Int×Int):Option (Bool):=K.gY (x,y)
def oI(x:Int):Option (Int×Int):=K.oI x
def fQ(x:Int×Int)(y:Int×Int):Option (Int):=K.fQ (x,y)
def gZ(x:Bool):Option (Int×Int):=K.gZ x
def mA(x:Int×Int)(y:Int×Int):Option (Int×Int):=K.mA (x,y)
def mB(x:Int)(y:Int×Int)(z:Int×Int):Option (Int×Int):=K.mB (x,y,z)
def gv(x:Int×Int):Option (Int×Bool):=K.gv x
def cG(x:Int)(y:Sl (Int×Int×Int)):Option ((Sl (Int×Int×Int))×Int):=K.cG (x,y)
def jA(x:Int)(y:Int)(z:Sl (Int×Int×Int)):Option (Int×Int×Sl (Int)×Sl (Int)×Sl (Int)):=K.jA (x,y,z)
def oJ(x:Int)(y:Int)(z:Int)(u:Sl (Int×Int×Int)):Option ((Int×Int×Sl (Int)×Sl (Int)×Sl (Int))×Int):=K.oJ (x,y,z,u)
def fR(x:Int×Int)(y:Sl (Int×Int×Int)):Option (Int×Int×Sl (Int)×Sl (Int)×Sl (Int)):=K.fR (x,y)
def cP(x:Int)(y:Int):Option (Int):=K.cP (x,y)
def de(x:Int)(y:Int):Option (Int):=K.de (x,y)
def cQ(x:Int×(Int×Int)×(Sl (Int×Int×Int))×(Sl (Int×Int))×(Sl (Int×Int))×Sl (Int)×Bool):Option (Int×Int×Sl (Int)×Sl (Int)×Sl (Int)):=K.cQ x
def iX(x:Int)(y:Int)(z:Sl (Int×Int)):Option ((Int×(Sl (Int×Int)))×Int):=K.iX (x,y,z)
def gw(x:Int)(y:Sl (Int×Int)):Option (Int×(Sl (Int×Int))):=K.gw (x,y)
def cR(x:Int×(Int×Int)×(Sl (Int×Int×Int))×(Sl (Int×Int))×(Sl (Int×Int))×Sl (Int)×Bool)(y:Sl (Int×Int)):Option (Int×(Sl (Int×Int))):=K.cR (x,y)
def dS(x:Int×(Int×Int)×(Sl (Int×Int×Int))×(Sl (Int×Int))×(Sl (Int×Int))×Sl (Int)×Bool):Option (Sl (Int)):=K.dS x
def mP(x:Int):Option (Bool):=K.mP x
def mC(x:Sl (Int))(y:Int):Option (Bool):=K.mC (x,y)
def eZ(x:Int×Int×Sl (Int)×Sl (Int)×Sl (Int)):Option (Bool):=K.eZ x
def sk(x:Int)(y:Int)(z:Sl (Int×Int×Int)):Option (Int×Int×Sl (Int)×Sl (Int)×Sl (Int)):=K.sk (x,y,z)
def oK(x:Int×Int×Sl (Int)×Sl (Int)×Sl (Int)):Option (Int×Int×Sl (Int)×Sl (Int)×Sl (Int)):=K.oK x
def sn(x:Int×Int×Sl (Int)×Sl (Int)×Sl (Int))(y:Int):Option (Sl (Int)×Sl (Int)):=K.sn (x,y)
def iY(x:Int×Int×Sl (Int)×Sl (Int)×Sl (Int)):Option (Int×Int×Sl (Int)×Sl (Int)×Sl (Int)):=K.iY x
def ky(x:Int):Option (Bool):=K.ky x
def jo(x:Sl (Int))(y:Int):Option (Bool):=K.jo (x,y)
def fg(x:Int×Int×Sl (Int)×Sl (Int)×Sl (Int)×Sl (Int)):Option (Bool):=K.fg x
def jB(x:Int×Int×Sl (Int)×Sl (Int)×Sl (Int)×Sl (Int)):Option (Int×Int×Sl (Int)×Sl (Int)×Sl (Int)×Sl (Int)):=K.jB x
def cX(x:Int)(y:Int):Option (Int×Int×Int×Int):=K.cX (x,y)
def fC(x:Int×Int)(y:Int):Option (Int×Int):=K.fC (x,y)
def fh(x:Int)(y:Int):Option (Int×Int):=K.fh (x,y)
def eM(x:Int)(y:Int)(z:Int):Option (Int×Int):=K.eM (x,y,z)
def dL(x:Sl (Int))(y:Int):Option (Bool):=K.dL (x,y)
def dQ(x:Int):Option (Int):=K.dQ x
def dv(x:Sl (Int))(y:Int):Option (Bool):=K.dv (x,y)
def dU(x:Int):Option (Int):=K.dU x
def fD(x:Int):Option (List (Int)):=K.fD x
def dM(x:Int×(Sl (Int×Int))):Option (List (Int)):=K.dM x
def fj(x:Int)(y:Sl (Int)):Option (List (Int)):=K.fj (x,y)
def iy(x:Int×Int×Sl (Int)×Sl (Int)×Sl (Int)):Option (Int×Int×Sl (Int)×Sl (Int)×Sl (Int)):=K.iy x
def eC(x:Sl (Int×(Int×Int)))(y:Sl (Int×(Int×Int))):Option (Bool):=K.eC (x,y)
end KM
end Ev
end
end Go.Proofs.YtjjbpdldbdmoeaaGreatDoor
