/- Texts of a claim, joined. -/
import Derived.Test.YtjjbpdldbdmoeaaZR11
import Derived.Test.YtjjbpdldbdmoeaaZR10
import Derived.Test.YtjjbpdldbdmoeaaZR3
set_option linter.unusedVariables false
set_option linter.unusedSimpArgs false
namespace Go.Proofs.Ytjjbpdldbdmoeaa
noncomputable section
open Go.RowKit Go.Sort
namespace Sm
namespace Mg
open Ev Ev.KM
abbrev S3:=Int×Int×Int
abbrev sty:K.Ty:= .C (.I .i64) (.C (.I .i64) (.I .u64))
abbrev ins:List K.TyD:= [(false,.I .i64),(false,.S (.S sty))]
abbrev outs:List K.TyD:= [(false,.S sty),(false,.I .i64)]
def idx:Nat→List (List S3)→List Hp.Evt
 |_,[]=> []
 |i,l::ls=>l.map (fun s=>((i:Int),s))++idx (i+1) ls
def Ta(ls:List (List S3)):Nat:=(ls.map (fun l=>l.length)).sum
theorem aav{ls:List (List S3)}{s:List S3}(h:s∈ls):s.length≤Ta ls:=by
 induction ls with
 |nil=>cases h
 |cons a r ih=>
  unfold Ta at*;simp only [List.map_cons,List.sum_cons];rcases List.mem_cons.1 h with rfl|h
  ·omega
  ·have:=ih h;omega
def okI(x:Sl S3):Bool:=decide (x.sz=3)||x.l.isEmpty
def okM(x:Sl (Sl S3)):Bool:=decide (x.l.length≤90000)&& decide (Ta (x.l.map (fun s=>s.l))≤90000)&&(decide (x.sz=1)||x.l.isEmpty)&& x.l.all okI
def Wt(r:Int)(ls:List (List S3)):List S3:=Hp.outOf (fj r) (Hp.sortE (idx 0 ls))
def fn(a:Int×Sl (Sl S3)):Option (Sl S3×Int):=
 if okM a.2=true then some
  (if lY a.1=false then(⟨false,0,[]⟩,8)
   else if(a.2.l.map (fun s=>s.l)).all qk=false then(⟨false,0,[]⟩,6)
   else if(Wt a.1 (a.2.l.map (fun s=>s.l))).isEmpty=true then(⟨false,0,[]⟩,0)
   else(⟨true,3,Wt a.1 (a.2.l.map (fun s=>s.l))⟩,0))else none
theorem aaw{w:World}{F:Nat→Prop}{x:Sl S3}{y:Value}(hx:x.sz=3∨x.l= [])(h:RepT w F (Sl.t sty.row x) y):∃a c,y= .slice a x.l.length c∧Hp.RdS w w.heap.size a x.l∧x.l.length≤c:=by
 obtain⟨nn,sz,l⟩:=x;unfold Sl.t at h
 cases h with
 |s _ _ _ a c ys hn hc h0 hl hm hr=>
  rw [List.length_map]at hc ⊢;refine⟨a,c,rfl,?_,hc⟩;intro i hi
  have hsz:sz=3:=by
   rcases hx with h|h
   ·exact h
   ·simp only at h;rw [h]at hi;simp at hi
  subst hsz;have hil:(l.map sty.row)[i]? =some (sty.row l[i]):=by simp [hi]
  have g:∀j v,(sty.row l[i])[j]? =some (.v v)→∃b,a=some b∧b.block<w.heap.size∧w.cell? (b.add (i*3+j))=some v:=by
   intro j v hj;obtain⟨b,h1,h2,_,h3⟩:=hm i _ j _ hil hj;refine⟨b,h1,h2,?_⟩
   have:=hr i _ j _ hil hj
   rw [h3];generalize ys i j=y at this
   cases this with|v x hx=>rfl
  obtain⟨b,e0,h1,c0⟩:=g 0 (.int .i64 l[i].1) rfl;obtain⟨b1,e1,_,c1⟩:=g 1 (.int .i64 l[i].2.1) rfl;obtain⟨b2,e2,_,c2⟩:=g 2 (.int .u64 l[i].2.2) rfl;rw [e0]at e1 e2;cases e1;cases e2;exact⟨b,e0,h1,by simpa using c0,c1,c2⟩
def IM(i:Nat)(v:Value)(l:List S3):Hp.Hd:=match v with
 | .slice a _ c=>⟨i,a,c,l⟩
 |_=>⟨i,none,0,l⟩
def hds(ys:Nat→Value):Nat→List (Sl S3)→List Hp.Hd
 |_,[]=> []
 |i,s::r=>IM i (ys i) s.l::hds ys (i+1) r
theorem FY(ys:Nat→Value):∀i l,(hds ys i l).length=l.length
 |_,[]=>rfl
 |i,s::r=>by simp [hds,FY ys (i+1) r]
theorem LP(i:Nat)(v:Value)(l:List S3):(IM i v l).k=(i:Int):=by cases v<;>rfl
theorem FZ(i:Nat)(v:Value)(l:List S3):(IM i v l).l=l:=by cases v<;>rfl
theorem LR(ys:Nat→Value):∀(l:List (Sl S3)) (i j:Nat) (hj:j<l.length),Hp.at_ (hds ys i l) j=IM (i+j) (ys (i+j)) (l[j]).l
 |s::r,i,0,_=>rfl
 |s::r,i,j+1,hj=>by
  have:=LR ys r (i+1) j (by simpa using hj)
  rw [show i+1+j=i+(j+1)by omega]at this;exact this
theorem IN(ys:Nat→Value):∀(l:List (Sl S3)) (i:Nat),Hp.evts (hds ys i l)=idx i (l.map (fun s=>s.l))
 | [],_=>rfl
 |s::r,i=>by
  show(IM i (ys i) s.l).l.map _++Hp.evts (hds ys (i+1) r)=_;rw [IN ys r (i+1),LP,FZ];rfl
theorem Oc(ys:Nat→Value):∀(l:List (Sl S3)) (i:Nat),Hp.tot (hds ys i l)=Ta (l.map (fun s=>s.l))
 | [],_=>rfl
 |s::r,i=>by
  have:=Oc ys r (i+1)
  unfold Hp.tot Ta at*;simp only [hds,List.map_cons,List.sum_cons,FZ,this]
theorem Wu{ys:Nat→Value}{l:List (Sl S3)}{h:Hp.Hd}(hm:h∈hds ys 0 l):∃j,∃hj:j<l.length,h=IM j (ys j) (l[j]).l:=by
 obtain⟨j,hj,rfl⟩:=List.mem_iff_getElem.1 hm;have hj':j<l.length:=by rw [FY]at hj;exact hj
 refine⟨j,hj',?_⟩
 have:=LR ys l 0 j hj'
 rw [Hp.at_lt hj,Nat.zero_add]at this;exact this
theorem LD.below{w W:World}(hL:LD w.heap.size w)(hb:Below w.heap.size w W):LD W.heap.size W:=(hL.keep (fun _ hs=>hb.block 0 hs) hb.size).up hb.size
theorem RepT.below{w W:World}{F F':Nat→Prop}{t:T}{y:Value}(h:RepT w F t y)(hb:Below w.heap.size w W)(hF:∀b,F' b→F b):RepT W F' t y:=h.mono hb.size fun b hlt _ hn=>⟨hb.block b hlt,fun hf=>hn (hF b hf)⟩
set_option maxRecDepth 100000 in
theorem Tb(r:Int)(W:World)(hL:LD W.heap.size W):Calls Try.prog 22 #[.int .i64 r] W fun e w'=>e= .returned (.bool (lY r))∧Below W.heap.size W w':=
 xM (RunsP.pure K.mM (K.IL 0 r (lY r) (Pv r))) rfl rfl W hL
set_option maxRecDepth 100000 in
theorem PI(r:Int)(x y:Int×Int)(W:World)(hL:LD W.heap.size W):Calls Try.prog 27 #[.int .i64 r,Hp.PV x,Hp.PV y] W fun e w'=>e= .returned (Hp.PV (fj r x y))∧Below W.heap.size W w':=
 xM (RunsP.pure K.mM (K.FW 0 (r,x,y) (fj r x y) (zU r x y))) rfl rfl W hL
theorem IP{w:World}{F:Nat→Prop}{x:Sl S3}{y:Value}(hr:RepT w F (Sl.t sty.row x) y)(hL:LD w.heap.size w){b:Bool}(hb:kL x=some b)(W:World)(hW:Below w.heap.size w W):Calls Try.prog 32 #[y] W fun e w'=>e= .returned (.bool b)∧Below W.heap.size W w':=by
 have h:=RunsP.pure K.mM (K.Al 0 x b hb);refine(h W (fun _=>False) [y] (LD.below hL hW) (fun _ h=>h.elim) ⟨rfl,fun i t hi=> ?_⟩).mono fun e w' ⟨y',e1,e2,_,e3⟩=>⟨?_,e3⟩
 ·have h0:i=0:=by
   have h1:i<1:=(List.getElem?_eq_some_iff.1 hi).1;omega
  subst h0;cases hi;exact⟨y,rfl,.one _ _ (RepT.below hr hW fun _ h=>h.elim)⟩
 ·rw [e1,SW (x:= .bool b) rfl w' _ e2]
theorem Ga(w:World)(F:Nat→Prop):RepT w F (Sl.t sty.row ⟨false,0,[]⟩) (.slice none 0 0):=RepT.s (w:=w) (F:=F) false 0 [] none 0 (fun _ _=> .nilFunc) rfl (Nat.le_refl _) (fun _=>rfl) (fun i e h=>by simp at h) (fun i e j t h=>by simp at h) (fun i e j t h=>by simp at h)
theorem two{w:World}{F:Nat→Prop}{t:T}{y:Value}{e:Int}(h:RepT w F t y):wu w F [.one t,.one (iT .i64 e)] (.tuple #[y,.int .i64 e]):=by
 refine⟨[y,.int .i64 e],rfl,rfl,fun i t' hi=> ?_⟩
 match i,hi with
 |0,hi=>cases hi;exact⟨y,rfl,.one _ _ h⟩
 |1,hi=>cases hi;exact⟨_,rfl,.one _ _ (.v _ rfl)⟩
 |i+2,hi=>simp at hi
theorem Wv{base:Nat}{w:World}{F:Nat→Prop}{v:Value}{l:List S3}(h:w.ownsRow base 69 3 v l.length (Hp.cellsS l))(hF:∀b,F b→b<base)(hne:l≠[]):RepT w F (Sl.t sty.row ⟨true,3,l⟩) v:=by
 rcases h.2 with⟨e,h0⟩|⟨g,cap,cur,e,hbg,hg,hnc,hcm,hcs,htake⟩
 ·exact absurd (List.eq_nil_of_length_eq_zero h0) hne
 subst e;have hlt:=h.lt g rfl
 have key:=RepT.s (w:=w) (F:=F) true 3 (l.map sty.row) (some ⟨g,0,none⟩) cap (fun i j=>match j with
  |0=> .int .i64 (Hp.at_ l i).1
  |1=> .int .i64 (Hp.at_ l i).2.1
  |_=> .int .u64 (Hp.at_ l i).2.2) rfl (by simpa using hnc) (by simp) (fun i e hi=>by
   rw [List.getElem?_map,Option.map_eq_some_iff]at hi;obtain⟨x,_,rfl⟩:=hi
   rfl) ?_ ?_
 ·rw [List.length_map]at key;exact key
 ·intro i e j t hi hj;rw [List.getElem?_map,Option.map_eq_some_iff]at hi;obtain⟨x,hx,rfl⟩:=hi;have hil:i<l.length:=(List.getElem?_eq_some_iff.1 hx).1;refine⟨⟨g,0,none⟩,rfl,hlt.2,fun hf=>by have h9:g<base:=hF _ hf;omega,?_⟩;have hj3:j<3:=(List.getElem?_eq_some_iff.1 hj).1;have hc:=h.cells (g:=g) rfl (i*3+j);rcases(show j=0∨j=1∨j=2 by omega)with rfl|rfl|rfl
  ·exact hc _ ((Hp.cellsS_at l i 0 hil (by omega)).trans rfl)
  ·exact hc _ ((Hp.cellsS_at l i 1 hil (by omega)).trans rfl)
  ·exact hc _ ((Hp.cellsS_at l i 2 hil (by omega)).trans rfl)
 ·intro i e j t hi hj;rw [List.getElem?_map,Option.map_eq_some_iff]at hi;obtain⟨x,hx,rfl⟩:=hi;have hil:i<l.length:=(List.getElem?_eq_some_iff.1 hx).1;have hx2:Hp.at_ l i=x:=by rw [Hp.at_lt hil];exact(List.getElem?_eq_some_iff.1 hx).2
  have hj3:j<3:=(List.getElem?_eq_some_iff.1 hj).1;rcases(show j=0∨j=1∨j=2 by omega)with rfl|rfl|rfl
  ·cases hj;simp only [hx2];exact .v _ rfl
  ·cases hj;simp only [hx2];exact .v _ rfl
  ·cases hj;simp only [hx2];exact .v _ rfl
theorem pure_ok(a:K.vals ins)(o:K.vals outs)(h:fn a=some o):bP Try.prog 11 (K.jM ins a) .fresh (K.jM outs o):=by
 obtain⟨r,x⟩:=a;change Int at r;change Sl (Sl S3)at x;unfold fn at h;split at h
 rotate_left
 ·cases h
 rename_i hx;simp only at hx;have h:=Option.some.inj h;simp only at h;simp only [okM,Bool.and_eq_true,Bool.or_eq_true,decide_eq_true_eq,List.isEmpty_iff,List.all_eq_true]at hx;obtain⟨⟨⟨hx1,hx2⟩,hx3⟩,hx4⟩:=hx;intro w F ys hL hF hr;obtain⟨hlen,hi⟩:=hr
 match ys,hlen with
 | [y0,y1],_=>
  obtain⟨y,e1,e2⟩:=hi 0 _ rfl;simp only [List.getElem?_cons_zero,zsI]at e1;subst e1
  have ey:y0= .int .i64 r:=by
   cases e2 with
   |one t y h=>cases h with|v x hx=>rfl
  subst ey;obtain⟨y,e1,e2⟩:=hi 1 _ rfl;simp only [List.getElem?_cons_succ,List.getElem?_cons_zero,zsI]at e1;subst e1
  have e3:RepT w F (Sl.t (K.Ty.S sty).row x) y1:=by cases e2 with|one t y h=>exact h
  clear e2 hi;obtain⟨nn,sz,l⟩:=x;unfold Sl.t at e3
  cases e3 with
  |s _ _ _ a c yv hn hc h0 hl hm hr=>
  rw [List.length_map]at hc ⊢;simp only at hx1 hx2 hx3 hx4 h
  have hcell:∀j,(hj:j<l.length)→∃b,a=some b∧b.block<w.heap.size∧w.cell? (b.add j)=some (yv j 0)∧RepT w F (Sl.t sty.row l[j]) (yv j 0):=fun j hj=>by
   have hsz:sz=1:=by
    rcases hx3 with h|h
    ·exact h
    ·rw [h]at hj;simp at hj
   subst hsz;have hil:(l.map (K.Ty.S sty).row)[j]? =some ((K.Ty.S sty).row l[j]):=by simp [hj]
   obtain⟨b,h1,h2,_,h3⟩:=hm j _ 0 (Sl.t sty.row l[j]) hil rfl;refine⟨b,h1,h2,by simpa using h3,hr j _ 0 (Sl.t sty.row l[j]) hil rfl⟩
  have hin:∀j,(hj:j<l.length)→(l[j]).sz=3∨(l[j]).l= []:=fun j hj=>by
   have:=hx4 _ (List.getElem_mem hj)
   simpa [okI]using this
  have hrd:∀j,(hj:j<l.length)→∃a c,yv j 0= .slice a (l[j]).l.length c∧Hp.RdS w w.heap.size a (l[j]).l∧(l[j]).l.length≤c:=fun j hj=>by
   obtain⟨b,_,_,_,h4⟩:=hcell j hj;exact aaw (hin j hj) h4
  have hlen2:∀j,(hj:j<l.length)→(l[j]).l.length≤90000:=fun j hj=>by
   refine Nat.le_trans ?_ hx2
   have:((l.map (fun s=>s.l))[j]'(by simpa using hj))∈l.map (fun s=>s.l):=List.getElem_mem _
   rw [List.getElem_map]at this;exact aav this
  obtain⟨H,hH⟩:∃H,H=hds (fun j=>yv j 0) 0 l:=⟨_,rfl⟩
  have hat:∀j,(hj:j<l.length)→Hp.at_ H j=IM j (yv j 0) (l[j]).l:=fun j hj=>by
   have:=LR (fun j=>yv j 0) l 0 j hj
   rw [Nat.zero_add]at this;rw [hH];exact this
  have hmem:∀h∈H,∃j,∃hj:j<l.length,h=IM j (yv j 0) (l[j]).l:=fun h hm=>by
   rw [hH]at hm;exact Wu hm
  have hHl:H.length=l.length:=by rw [hH];exact FY _ _ _
  have hw:=Hp.merge_walk r (lY r) (fj r) a l.length c H w hHl.symm hx1 (by rw [hH,Oc];exact hx2)
   (fun j hj=>by
    obtain⟨b,h1,h2,h3,_⟩:=hcell j hj;obtain⟨a2,c2,h4,_⟩:=hrd j hj;refine⟨b,h1,h2,?_⟩;rw [h3,hat j hj,h4]
    rfl)
   (fun j hj=>by rw [hat j hj,LP])
   (fun h hm=>by
    obtain⟨j,hj,rfl⟩:=hmem h hm;obtain⟨a2,c2,h4,h5,_⟩:=hrd j hj
    rw [h4];exact h5)
   (fun h hm=>by
    obtain⟨j,hj,rfl⟩:=hmem h hm;obtain⟨a2,c2,h4,_,h6⟩:=hrd j hj
    rw [h4];exact h6)
   (fun W hW=>Tb r W (LD.below hL hW)) qk
   (fun j hj W hW=>by
    obtain⟨b,_,_,_,h7⟩:=hcell j hj;obtain⟨a2,c2,h4,_,h6⟩:=hrd j hj;have h8:=IP h7 hL (FQ (hin j hj).symm (by have:=hlen2 j hj;omega)) W hW;rw [hat j hj,h4];rw [h4]at h8
    exact h8)
   (fun _ p q W hW=>PI r p q W (LD.below hL hW))
  refine hw.mono ?_;rintro e w' ⟨v,code,res,rfl,hown,hnil,hbl,hcase⟩;refine⟨_,rfl,?_,fun hk=>(by cases hk),hbl⟩
  have hall:(l.map (fun s=>s.l)).all qk=true↔∀h∈H,qk h.l=true:=by
   rw [List.all_eq_true];constructor
   ·intro g h hm;obtain⟨j,hj,rfl⟩:=hmem h hm;rw [FZ];exact g _ (List.mem_map_of_mem (List.getElem_mem hj))
   ·intro g s hs;rw [List.mem_map]at hs;obtain⟨t,ht,rfl⟩:=hs;obtain⟨j,hj,rfl⟩:=List.mem_iff_getElem.1 ht
    have:=g (Hp.at_ H j) (by rw [Hp.at_lt (by omega)];exact List.getElem_mem _)
    rw [hat j hj,FZ]at this;exact this
  rcases hcase with⟨h1,h2,h3⟩|⟨h1,⟨q,hq,hq2⟩,h2,h3⟩|⟨h1,h5,h2,seq,h3,h4⟩
  ·rw [if_pos h1]at h;subst h;rw [hnil h3,h2];exact two (Ga _ _)
  ·have hf:(l.map (fun s=>s.l)).all qk=false:=by
    rw [Bool.eq_false_iff];intro g;rw [hall.1 g q hq]at hq2;cases hq2
   rw [if_neg (by rw [h1];simp),if_pos hf]at h;subst h;rw [hnil h3,h2];exact two (Ga _ _)
  ·have hseq:=Hp.ext_eq h3 (fun h hm=>(IG _).1 (h5 h hm)) (fun i hi=>by rw [hat i (by omega),LP])
   have hres:res=Wt r (l.map (fun s=>s.l)):=by
    rw [h4,hseq,hH,IN];rfl
   rw [if_neg (by rw [h1];simp),if_neg (by rw [hall.2 h5];simp),←hres]at h;rw [h2];by_cases he:res= []
   ·rw [if_pos (by rw [he];rfl)]at h;subst h;rw [hnil he];exact two (Ga _ _)
   ·rw [if_neg (by simpa using he)]at h;subst h;exact two (Wv hown (fun b hb=>hb.1) he)
theorem enters:Ev.Enters Try.prog 11:=⟨_,_,Try.func11,by kernel_rfl,by unfold Try.f11;rfl⟩
end Mg
end Sm
end
noncomputable section
namespace Ev
namespace K
open Go Go.RowKit
set_option maxRecDepth 100000
set_option maxHeartbeats 1000000
def IQ:Ax:=(cE (fun _=>none) 11 (SF Sm.Mg.ins .fresh Sm.Mg.outs Sm.Mg.fn))
theorem Am:By Try.prog IQ:=(aP (xf _) (Wm Sm.Mg.enters Sm.Mg.pure_ok))
def xN:Ax:=(cE (cE (cE IQ 25 pd) 56 pd) 75 pd)
theorem og:By Try.prog xN:=(aP (aP (aP Am fun vs kind rs h=>by simp [pd]at h) fun vs kind rs h=>by simp [pd]at h) fun vs kind rs h=>by simp [pd]at h)
def E0:Env:=vH Try.prog xN
theorem YB:E0.Ok:=oM tz tA og
def lvi(n:Int):T:=iT .i64 n
def lvu(n:Int):T:=iT .u64 n
def adq:TD:= .one (.s true 3 [[lvi 0,lvi 0,lvi 2],[lvi 0,lvi 1,lvi 3],[lvi 1,lvi 1,lvi 9]])
def Ww:TD:= .agg [lvi 2,lvi 2,.s true 1 [[lvi 0],[lvi 2],[lvi 3]],.s true 1 [[lvi 0],[lvi 1],[lvi 1]],.s true 1 [[lvi 2],[lvi 3],[lvi 9]]]
def IR:TD:= .agg [lvi 2,lvi 2,.s true 1 [[lvi 0],[lvi 1]],.s true 1 [[lvi 0],[lvi 1],[lvi 3]],.s true 1 [[lvi 0],[lvi 0],[lvi 1]],.s true 1 [[lvi 2],[lvi 3],[lvi 9]]]
def PJ:TD:= .agg [lvi 2,.s true 2 [[lvi 1,lvi 1]]]
def adr:TD:= .agg [lvi 2,.s true 2 [[lvi 0,lvi 4],[lvi 1,lvi 10]]]
end K
end Ev
end
noncomputable section
namespace Ev
open Go
mutual
def Gb:T→T→Bool
 | .v (.int k a),.v (.int k' b)=>decide (k=k')&& decide (a=b)
 | .v (.bool a),.v (.bool b)=>a==b
 | .s n z l,.s n' z' l'=>(n==n')&&(Nat.beq z z' && PK l l')
 |_,_=>false
def LS:List T→List T→Bool
 | [],[]=>true
 |a::l,b::m=>Gb a b && LS l m
 |_,_=>false
def PK:List (List T)→List (List T)→Bool
 | [],[]=>true
 |a::l,b::m=>LS a b && PK l m
 |_,_=>false
end
mutual
theorem Od:∀(a b:T),Gb a b=true→a=b
 | .v x,.v y,h=>by
  cases x<;>cases y<;>first
   |(simp only [Gb,Bool.and_eq_true,decide_eq_true_eq]at h;obtain⟨rfl,rfl⟩:=h;rfl)
   |(simp only [Gb,beq_iff_eq]at h;subst h;rfl)
   |(simp [Gb]at h)
 | .v x,.s n z l,h=>by cases x<;>simp [Gb]at h
 | .s n z l,.v x,h=>by cases x<;>simp [Gb]at h
 | .s n z l,.s n' z' l',h=>by
  simp only [Gb,Bool.and_eq_true,beq_iff_eq]at h;obtain⟨rfl,h1,h2⟩:=h;obtain rfl:=Nat.eq_of_beq_eq_true h1;rw [Oe l l' h2]
theorem Gc:∀(a b:List T),LS a b=true→a=b
 | [],[],_=>rfl
 | [],_::_,h=>by simp [LS]at h
 |_::_,[],h=>by simp [LS]at h
 |a::l,b::m,h=>by
  simp only [LS,Bool.and_eq_true]at h;rw [Od a b h.1,Gc l m h.2]
theorem Oe:∀(a b:List (List T)),PK a b=true→a=b
 | [],[],_=>rfl
 | [],_::_,h=>by simp [PK]at h
 |_::_,[],h=>by simp [PK]at h
 |a::l,b::m,h=>by
  simp only [PK,Bool.and_eq_true]at h;rw [Gc a b h.1,Oe l m h.2]
end
def Tc:TD→TD→Bool
 | .one a,.one b=>Gb a b
 | .agg a,.agg b=>LS a b
 |_,_=>false
theorem Td{a b:TD}(h:Tc a b=true):a=b:=by
 cases a<;>cases b<;>simp only [Tc,Bool.false_eq_true]at h
 ·rw [Od _ _ h]
 ·rw [Gc _ _ h]
def tF:List TD→List TD→Bool
 | [],[]=>true
 |a::l,b::m=>Tc a b && tF l m
 |_,_=>false
theorem DZ:∀{a b:List TD},tF a b=true→a=b
 | [],[],_=>rfl
 | [],_::_,h=>by simp [tF]at h
 |_::_,[],h=>by simp [tF]at h
 |a::l,b::m,h=>by
  simp only [tF,Bool.and_eq_true]at h;rw [Td h.1,DZ h.2]
def sn:List (List TD×Kind×List TD)→List TD→Option (Kind×List TD)
 | [],_=>none
 |e::r,vs=>cond (tF e.1 vs) (some e.2) (sn r vs)
theorem Of{P:Program}{cp:du}{k:FuncId}(hc:∀vs kind rs,cp k vs=some (kind,rs)→bP P k vs kind rs∧Enters P k):
  ∀(l:List (List TD×Kind×List TD)),(∀e∈l,cp k e.1=some e.2)→∀vs kind rs,sn l vs=some (kind,rs)→bP P k vs kind rs∧Enters P k
 | [],_,vs,kind,rs,h=>by simp [sn]at h
 |e::r,hl,vs,kind,rs,h=>by
  unfold sn at h
  cases hb:tF e.1 vs with
  |true=>
   rw [hb]at h;simp only [cond_true,zsI]at h;rw [←DZ hb];exact hc _ _ _ (by rw [hl e List.mem_cons_self,h])
  |false=>
   rw [hb]at h;exact Of hc r (fun x hx=>hl x (List.mem_cons_of_mem _ hx)) vs kind rs h
end Ev
end
noncomputable section
namespace Ev
namespace K
open Go Go.RowKit
set_option maxRecDepth 100000
set_option maxHeartbeats 1000000
theorem aeB:(dr E0 300 60).1 19 [.one (lvi 1),.one (lvi 2),.one (lvi 2),adq]=some (.fresh,[Ww,.one (lvi 0)]):=by kernel_rfl
end K
end Ev
end
noncomputable section
namespace Ev
namespace K
open Go Go.RowKit
set_option maxRecDepth 100000
set_option maxHeartbeats 1000000
theorem aeC:(dr E0 300 60).1 16 [Ww]=some (.fresh,[IR]):=by kernel_rfl
end K
end Ev
end
noncomputable section
namespace Ev
namespace K
open Go Go.RowKit
set_option maxRecDepth 100000
set_option maxHeartbeats 1000000
theorem aeD:(dr E0 300 60).1 20 [.one (lvi 1),IR,PJ,.one (.s false 0 []),.one (bT true)]=some (.fresh,[adr,.one (lvi 0)]):=by kernel_rfl
end K
end Ev
end
noncomputable section
namespace Ev
namespace K
open Go Go.RowKit
set_option maxRecDepth 100000
set_option maxHeartbeats 1000000
theorem lv8:(dr E0 300 60).1 8 [.one (lvi 1),IR,PJ,.one (.s true 1 [[lvu 1]]),.one (bT false)]=some (.fresh,[.one (.s true 3 [[lvi 0,lvi 0,lvu 4]]),.one (lvi 0)]):=by kernel_rfl
end K
end Ev
end
noncomputable section
namespace Ev
namespace K
open Go Go.RowKit
set_option maxRecDepth 100000
set_option maxHeartbeats 1000000
theorem aeE:(dr E0 300 60).1 21 [IR,PJ]=some (.fresh,[.one (lvi 2)]):=by kernel_rfl
end K
end Ev
end
noncomputable section
namespace Ev
namespace K
open Go Go.RowKit
set_option maxRecDepth 100000
set_option maxHeartbeats 1000000
theorem Te{k:FuncId}{a b:List TD}(h:(dr E0 300 60).1 k a=some (.fresh,b)):∀vs kind rs,sn [(a,.fresh,b)] vs=some (kind,rs)→bP Try.prog k vs kind rs∧Ev.Enters Try.prog k:=Of (cp:=(dr E0 300 60).1) (fun vs kind rs h=>(tT YB 300 60).1 _ _ _ _ h) _ (List.forall_mem_cons.2 ⟨h,fun _ h=>by cases h⟩)
def ads:List (List TD×Kind×List TD):= [([.one (lvi 1),.one (lvi 2),.one (lvi 2),adq],.fresh,[Ww,.one (lvi 0)])]
def adt:List (List TD×Kind×List TD):= [([Ww],.fresh,[IR])]
def adu:List (List TD×Kind×List TD):= [([.one (lvi 1),IR,PJ,.one (.s false 0 []),.one (bT true)],.fresh,[adr,.one (lvi 0)])]
def aeF:List (List TD×Kind×List TD):= [([.one (lvi 1),IR,PJ,.one (.s true 1 [[lvu 1]]),.one (bT false)],.fresh,[.one (.s true 3 [[lvi 0,lvi 0,lvu 4]]),.one (lvi 0)])]
def adv:List (List TD×Kind×List TD):= [([IR,PJ],.fresh,[.one (lvi 2)])]
def axV:Ax:=(cE (cE (cE (cE (cE xN 19 (sn ads)) 16 (sn adt)) 20 (sn adu)) 8 (sn aeF)) 21 (sn adv))
theorem aax:By Try.prog axV:=(aP (aP (aP (aP (aP og (Te aeB)) (Te aeC)) (Te aeD)) (Te lv8)) (Te aeE))
def EV:Env:=vH Try.prog axV
theorem adw:EV.Ok:=oM tz tA aax
def Og:List TD→Option (Kind×List TD)
 | []=>some (.fresh,[.one (.v (.bool true))])
 |_=>none
theorem Wx{k:FuncId}(h:(dr EV 300 60).1 k []=some (.fresh,[.one (.v (.bool true))])):∀vs kind rs,Og vs=some (kind,rs)→bP Try.prog k vs kind rs∧Ev.Enters Try.prog k:=fun vs kind rs hf=>by
 unfold Og at hf;split at hf
 ·simp only [zsI,Prod.mk.injEq]at hf;obtain⟨rfl,rfl⟩:=hf;exact(tT adw 300 60).1 _ _ _ _ h
 ·simp at hf
theorem adx:(dr EV 300 60).1 6 []=some (.fresh,[.one (.v (.bool true))]):=by kernel_rfl
def E1:Env:=vH Try.prog (cE xN 6 Og)
theorem bQ:E1.Ok:=oM tz tA (aP og (Wx adx))
def FL6:vals []→Option Bool:=fun _=>some true
def ady:bL:=⟨6,[],.data true [(false,.B)],FL6,1⟩
theorem aay:bm E1 ady:=fun m a out h=>by
 obtain rfl:=Option.some.inj h;exact eI (F:=Og) rfl rfl
theorem gq:VM E1 TT:=⟨tz1,⟨tz2,⟨tz3,⟨tz4,⟨tz5,⟨tz6,⟨tz7,⟨tz8,⟨Zd,⟨Ze,⟨Zf,⟨Zg,⟨Zh,⟨Zi,⟨Zj,⟨VV,⟨VW,⟨VX,⟨Zk,⟨VY,⟨VZ,⟨Zl,⟨Wa,⟨Zm,⟨Zn,⟨Wb,⟨Zo,⟨Zp,⟨Zq,⟨Zr,⟨Zs,⟨Zt,⟨Zu,⟨Zv,⟨Zw,⟨Zx,⟨Wc,⟨Zy,⟨Zz,⟨ZA,⟨ZB,⟨We,⟨ZC,⟨ZD,⟨ZE,⟨ZF,⟨ZG,⟨ZH,⟨ZI,⟨ZJ,⟨ZK,⟨ZL,⟨ZM,⟨Wf,⟨ZN,⟨Wg,⟨ZO,⟨Wh,⟨ZP,⟨Wi,⟨ZQ,⟨ZR,⟨ZS,⟨ZT,⟨Wj,⟨ZU,⟨ZV,⟨ZW,⟨ZX,⟨ZY,⟨Wk,⟨ZZ,⟨aa0,⟨aa1,⟨aa2,⟨aa3,⟨aa4,⟨Wl,⟨aa5,⟨aa6,⟨aa7,⟨aa8,⟨aa9,⟨aaa,⟨aab,⟨aac,⟨aad,⟨aae,⟨aaf,⟨aag,⟨QY,⟨QZ,⟨Ra,⟨Rb,⟨Rc,⟨Rd,⟨Re,⟨Rf,⟨Rh,⟨Ri,⟨Rj,⟨Rk,⟨Rm,⟨Rn,⟨Ro,⟨Rp,⟨Rq,⟨Rr,⟨Rs,⟨Rt,⟨Ru,⟨Rv,⟨Rw,⟨Rx,⟨Ry,⟨Rz,⟨RA,⟨RE,⟨RF,⟨RH,⟨RI,⟨RJ,⟨RK,⟨RL,⟨RM,⟨RN,⟨RO,⟨RP,⟨RQ,⟨RT,⟨RU,⟨RV,⟨RW,⟨RX,⟨RY,⟨RZ,⟨Sa,⟨Sb,⟨NV,⟨Sd,⟨Se,⟨Sf,⟨Sg,⟨Si,⟨Sj,⟨Sk,⟨Sn,⟨So,⟨Sp,⟨Sq,⟨Sr,⟨Ss,⟨Su,⟨Sv,⟨Sw,⟨Sx,⟨Sy,⟨Sz,⟨SA,⟨SC,⟨SD,⟨SE,trivial⟩⟩⟩⟩⟩⟩⟩⟩⟩⟩⟩⟩⟩⟩⟩⟩⟩⟩⟩⟩⟩⟩⟩⟩⟩⟩⟩⟩⟩⟩⟩⟩⟩⟩⟩⟩⟩⟩⟩⟩⟩⟩⟩⟩⟩⟩⟩⟩⟩⟩⟩⟩⟩⟩⟩⟩⟩⟩⟩⟩⟩⟩⟩⟩⟩⟩⟩⟩⟩⟩⟩⟩⟩⟩⟩⟩⟩⟩⟩⟩⟩⟩⟩⟩⟩⟩⟩⟩⟩⟩⟩⟩⟩⟩⟩⟩⟩⟩⟩⟩⟩⟩⟩⟩⟩⟩⟩⟩⟩⟩⟩⟩⟩⟩⟩⟩⟩⟩⟩⟩⟩⟩⟩⟩⟩⟩⟩⟩⟩⟩⟩⟩⟩⟩⟩⟩⟩⟩⟩⟩⟩⟩⟩⟩⟩⟩⟩⟩⟩⟩⟩⟩⟩⟩⟩⟩⟩⟩⟩⟩⟩⟩
theorem dO:VN E1.P EQS:=⟨YZ NW NX,trivial⟩
theorem aeG:E1.fn 19=some acF:=dY Try.func19 rfl
theorem aeH:E1.fn 27=some aah:=dY Try.func27 rfl
theorem aeI:E1.fn 30=some acH:=dY Try.func30 rfl
theorem aeJ:E1.fn 37=some acJ:=dY Try.func37 rfl
theorem aeK:E1.fn 48=some acK:=dY Try.func48 rfl
theorem aeL:E1.fn 50=some acL:=dY Try.func50 rfl
theorem aeM:E1.fn 54=some acM:=dY Try.func54 rfl
theorem aeN:E1.fn 57=some aai:=dY Try.func57 rfl
theorem aeO:E1.fn 58=some aaj:=dY Try.func58 rfl
theorem aeP:E1.fn 59=some aak:=dY Try.func59 rfl
theorem aeQ:E1.fn 60=some aal:=dY Try.func60 rfl
theorem aeR:E1.fn 63=some acN:=dY Try.func63 rfl
theorem aeS:E1.fn 68=some acO:=dY Try.func68 rfl
theorem aeT:E1.fn 69=some acP:=dY Try.func69 rfl
theorem aeU:E1.fn 75=some aam:=dY Try.func75 rfl
theorem aeV:E1.fn 77=some acQ:=dY Try.func77 rfl
theorem aeW:E1.fn 79=some acR:=dY Try.func79 rfl
theorem aeX:E1.fn 80=some acS:=dY Try.func80 rfl
theorem aeY:E1.fn 81=some acT:=dY Try.func81 rfl
theorem aeZ:E1.fn 88=some acU:=dY Try.func88 rfl
theorem af0:E1.fn 89=some acV:=dY Try.func89 rfl
theorem af1:E1.fn 90=some aan:=dY Try.func90 rfl
theorem af2:E1.fn 91=some acW:=dY Try.func91 rfl
theorem af3:E1.fn 92=some acX:=dY Try.func92 rfl
theorem af4:E1.fn 95=some acY:=dY Try.func95 rfl
theorem af5:E1.fn 96=some acZ:=dY Try.func96 rfl
theorem af6:E1.fn 97=some ad0:=dY Try.func97 rfl
theorem af7:E1.fn 99=some ad1:=dY Try.func99 rfl
end K
end Ev
end
noncomputable section
namespace Ev
namespace K
open Go Go.RowKit
set_option maxRecDepth 100000
set_option maxHeartbeats 1000000
def LT:cY:= []
def An:KG:=⟨TT,EQS,[],[]⟩
def fV:vals [(false,.I .i64)]→Option (OutK.val (.data true [(false,.B)])):=dz An LT acJ 37 0 [(false,.I .i64)] (.data true [(false,.B)])
def pg:bL:=⟨37,[(false,.I .i64)],.data true [(false,.B)],fV,1⟩
def CK:cY:= []
def so:KG:=⟨TT,EQS,[],[]⟩
def ia:vals [yD7,yD7]→Option (OutK.val (.data true [(false,.B)])):=dz so CK acR 79 0 [yD7,yD7] (.data true [(false,.B)])
def sr:bL:=⟨79,[yD7,yD7],.data true [(false,.B)],ia,1⟩
def LU:cY:= []
def Ao:KG:=⟨TT,EQS,[],[]⟩
def aO:vals [(false,.I .i64)]→Option (OutK.val (.data true [yD8])):=dz Ao LU acS 80 0 [(false,.I .i64)] (.data true [yD8])
def ph:bL:=⟨80,[(false,.I .i64)],.data true [yD8],aO,1⟩
def yR:cY:= []
def pW:KG:=⟨TT,EQS,[],[]⟩
def bB:vals [yD8,yD8]→Option (OutK.val (.data true [(false,.I .i64)])):=dz pW yR acZ 96 0 [yD8,yD8] (.data true [(false,.I .i64)])
def me:bL:=⟨96,[yD8,yD8],.data true [(false,.I .i64)],bB,1⟩
def CL:cY:= []
def su:KG:=⟨TT,EQS,[],[]⟩
def aS:vals [(false,.B)]→Option (OutK.val (.data true [yD8])):=dz su CL ad0 97 0 [(false,.B)] (.data true [yD8])
def nR:bL:=⟨97,[(false,.B)],.data true [yD8],aS,1⟩
def IS:cY:= [(95,⟨[⟨true,3,5,[2,4,5],⟨[(6,false,[.d true (.I .i64)])],[],[]⟩,[(.normal,⟨[(6,false,[.d true (.I .i64)])],[],[]⟩)]⟩],[]⟩)]
def xO:KG:=⟨TT,EQS,[],[]⟩
def bG:vals [yD8,yD8]→Option (OutK.val (.data true [yD8])):=dz xO IS acY 95 0 [yD8,yD8] (.data true [yD8])
def lF:bL:=⟨95,[yD8,yD8],.data true [yD8],bG,1⟩
def IT:cY:= [(68,⟨[⟨true,3,9,[4,5,6,7],⟨[],[],[]⟩,[(.normal,⟨[(9,false,[.d true .B])],[],[]⟩)]⟩],[]⟩)]
def xP:KG:=⟨TT,EQS,[lF,me,nR],[]⟩
def fE:vals [(false,.I .i64),yD8,yD8]→Option (OutK.val (.data true [yD8])):=dz xP IT acO 68 0 [(false,.I .i64),yD8,yD8] (.data true [yD8])
def qx:bL:=⟨68,[(false,.I .i64),yD8,yD8],.data true [yD8],fE,2⟩
def Ap:cY:= []
def qy:KG:=⟨TT,EQS,[],[]⟩
def gJ:vals [yD8]→Option (OutK.val (.data true [(false,.I .i64),(false,.B)])):=dz qy Ap acT 81 0 [yD8] (.data true [(false,.I .i64),(false,.B)])
def qz:bL:=⟨81,[yD8],.data true [(false,.I .i64),(false,.B)],gJ,1⟩
def yS:cY:= [(50,⟨[⟨false,6,0,[0,1],⟨[(6,false,[.m (.C (.I .i64) (.C (.I .i64) (.I .i64)))]),(7,false,[.m (.C (.I .i64) (.I .u64))]),(8,false,[.d true (.I .i64)])],[],[]⟩,[(.exit 0,⟨[(6,false,[.m (.C (.I .i64) (.C (.I .i64) (.I .i64)))]),(7,false,[.m (.C (.I .i64) (.I .u64))])],[],[]⟩)]⟩,⟨false,9,0,[0,1,6,7,8],⟨[(9,false,[.d true (.I .i64)])],[],[]⟩,[(.exit 2,⟨[(9,false,[.d true (.I .i64)])],[],[]⟩)]⟩,⟨false,17,0,[0,1,6,7,8,9,10],⟨[(11,false,[.d true (.I .i64)])],[],[(.sl 6 0,.C (.I .i64) (.C (.I .i64) (.I .i64))),(.sl 7 0,.C (.I .i64) (.I .u64))]⟩,[(.exit 4,⟨[],[],[(.sl 6 0,.C (.I .i64) (.C (.I .i64) (.I .i64))),(.sl 7 0,.C (.I .i64) (.I .u64))]⟩)]⟩,⟨false,24,0,[7],⟨[(6,false,[.m (.C (.I .i64) (.C (.I .i64) (.I .i64)))]),(12,false,[.d true (.I .i64)])],[],[]⟩,[(.exit 6,⟨[(6,false,[.m (.C (.I .i64) (.C (.I .i64) (.I .i64)))])],[],[]⟩),(.ret,⟨[(4,false,[.m (.C (.I .i64) (.C (.I .i64) (.I .i64)))]),(5,false,[.d true (.I .i64)])],[],[]⟩)]⟩],[(13,⟨[[],[],[],[],[],[],[],[],[],[],[.sl 7 0]],[(false,[]),(false,[]),(false,[]),(false,[]),(false,[]),(false,[]),(false,[]),(false,[]),(false,[]),(false,[]),(false,[])]⟩),(21,⟨[[],[],[],[],[],[],[],[],[],[],[],[],[],[],[.sl 6 0]],[(false,[]),(false,[]),(false,[]),(false,[]),(false,[]),(false,[]),(false,[]),(false,[]),(false,[]),(false,[]),(false,[]),(false,[]),(false,[]),(false,[]),(false,[])]⟩)]⟩)]
def pX:KG:=⟨TT,EQS,[pg,qx,sr,ph,qz],[]⟩
def dA:vals [(false,.I .i64),yD5]→Option (OutK.val (.data true [yD5,(false,.I .i64)])):=dz pX yS acL 50 0 [(false,.I .i64),yD5] (.data true [yD5,(false,.I .i64)])
def pY:bL:=⟨50,[(false,.I .i64),yD5],.data true [yD5,(false,.I .i64)],dA,3⟩
def CM:cY:= [(48,⟨[⟨false,3,0,[0,2,6,7],⟨[(8,false,[.d true (.I .i64)])],[(7,[.d true (.I .i64),.d true (.I .i64),.o (.I .i64),.m (.I .i64),.m (.I .i64)])],[]⟩,[(.exit 0,⟨[],[(7,[.d true (.I .i64),.d true (.I .i64),.o (.I .i64),.m (.I .i64),.m (.I .i64)])],[]⟩)]⟩,⟨false,8,0,[0,2,6,7,8],⟨[(9,false,[.d true (.I .i64)])],[],[(.bx 7 2,.I .i64)]⟩,[(.exit 2,⟨[],[],[(.bx 7 2,.I .i64)]⟩)]⟩],[(5,⟨[[],[],[],[],[],[],[],[],[.bx 7 3],[],[.sl 7 0]],[(false,[]),(false,[]),(false,[]),(false,[]),(false,[]),(false,[]),(false,[]),(true,[]),(true,[]),(false,[]),(false,[])]⟩),(6,⟨[[],[],[],[],[],[],[],[],[.bx 7 4],[],[.sl 7 0]],[(false,[]),(false,[]),(false,[]),(false,[]),(false,[]),(false,[]),(false,[]),(true,[]),(true,[]),(false,[]),(false,[])]⟩)]⟩)]
def sv:KG:=⟨TT,EQS,[],[(75,aam)]⟩
def jF:vals [(false,.I .i64),(false,.I .i64),yD5]→Option (OutK.val (.data true [yD1])):=dz sv CM acK 48 6 [(false,.I .i64),(false,.I .i64),yD5] (.data true [yD1])
def sw:bL:=⟨48,[(false,.I .i64),(false,.I .i64),yD5],.data true [yD1],jF,7⟩
def LV:cY:= [(19,⟨[⟨false,9,0,[0,1,2,3,8],⟨[(10,false,[.m (.C (.I .i64) (.C (.I .i64) (.I .i64)))]),(11,false,[.d true (.I .i64)])],[(8,[.d true (.I .i64),.d true (.I .i64),.m (.I .i64),.m (.I .i64),.m (.I .i64)])],[]⟩,[(.exit 0,⟨[(10,false,[.m (.C (.I .i64) (.C (.I .i64) (.I .i64)))])],[(8,[.d true (.I .i64),.d true (.I .i64),.m (.I .i64),.m (.I .i64),.m (.I .i64)])],[]⟩),(.ret,⟨[(9,false,[.d true (.I .i64)])],[(8,[.d true (.I .i64),.d true (.I .i64),.m (.I .i64),.m (.I .i64),.m (.I .i64)])],[]⟩)]⟩,⟨false,19,0,[1,2,8,10],⟨[(13,false,[.m (.C (.I .i64) (.C (.I .i64) (.I .i64)))]),(14,false,[.d true (.I .i64)])],[],[]⟩,[(.exit 2,⟨[(13,false,[.m (.C (.I .i64) (.C (.I .i64) (.I .i64)))])],[],[]⟩)]⟩],[(13,⟨[[],[],[],[],[],[],[],[],[],[],[],[],[],[],[],[],[],[],[.sl 10 0],[]],[(false,[]),(false,[]),(false,[]),(false,[]),(false,[]),(false,[]),(false,[]),(false,[]),(false,[]),(false,[]),(false,[]),(false,[]),(false,[]),(false,[]),(false,[]),(false,[]),(false,[]),(true,[]),(true,[]),(false,[])]⟩),(21,⟨[[],[],[],[],[],[],[],[],[],[],[],[],[],[],[],[],[],[],[.sl 13 0],[]],[(false,[]),(false,[]),(false,[]),(false,[]),(false,[]),(false,[]),(false,[]),(false,[]),(false,[]),(false,[]),(false,[]),(false,[]),(false,[]),(false,[]),(false,[]),(false,[]),(false,[]),(true,[]),(true,[]),(false,[])]⟩)]⟩)]
def Aq:KG:=⟨TT,EQS,[pg,sw,pY],[]⟩
def lG:vals [(false,.I .i64),(false,.I .i64),(false,.I .i64),yD5]→Option (OutK.val (.data true [yD1,(false,.I .i64)])):=dz Aq LV acF 19 0 [(false,.I .i64),(false,.I .i64),(false,.I .i64),yD5] (.data true [yD1,(false,.I .i64)])
def Ar:bL:=⟨19,[(false,.I .i64),(false,.I .i64),(false,.I .i64),yD5],.data true [yD1,(false,.I .i64)],lG,8⟩
def CN:cY:= [(77,⟨[⟨false,6,0,[1],⟨[(3,false,[.d true (.I .i64)])],[],[]⟩,[(.exit 0,⟨[],[],[]⟩),(.ret,⟨[(2,false,[.d true .B])],[],[]⟩)]⟩,⟨false,11,0,[1,3],⟨[(4,false,[.d true (.I .i64)])],[],[]⟩,[(.exit 2,⟨[],[],[]⟩),(.ret,⟨[(2,false,[.d true .B])],[],[]⟩)]⟩],[]⟩)]
def sx:KG:=⟨TT,EQS,[],[]⟩
def eA:vals [yD1]→Option (OutK.val (.data true [(false,.B)])):=dz sx CN acQ 77 0 [yD1] (.data true [(false,.B)])
def sy:bL:=⟨77,[yD1],.data true [(false,.B)],eA,1⟩
def Gd:cY:= []
def Ge:KG:=⟨TT,EQS,[sy],[(75,aam)]⟩
def fI:vals [yD1]→Option (OutK.val (.data false [yD1])):=dz Ge Gd aed 46 6 [yD1] (.data false [yD1])
def Gf:bL:=⟨46,[yD1],.data false [yD1],fI,8⟩
def IU:cY:= []
def xQ:KG:=⟨TT,EQS,[],[]⟩
def kP:vals [(false,.I .i64)]→Option (OutK.val (.data true [(false,.B)])):=dz xQ IU acU 88 0 [(false,.I .i64)] (.data true [(false,.B)])
def xR:bL:=⟨88,[(false,.I .i64)],.data true [(false,.B)],kP,1⟩
def Gg:cY:= [(89,⟨[⟨false,3,0,[1,8,9],⟨[(5,false,[.d true (.I .i64)]),(10,false,[.d true (.I .i64)])],[],[]⟩,[(.exit 0,⟨[],[],[]⟩),(.ret,⟨[(4,false,[.d true .B])],[],[]⟩)]⟩],[]⟩)]
def uH:KG:=⟨TT,EQS,[],[]⟩
def jy:vals [(false,.S (.I .i64)),(false,.I .i64)]→Option (OutK.val (.data true [(false,.B)])):=dz uH Gg acV 89 0 [(false,.S (.I .i64)),(false,.I .i64)] (.data true [(false,.B)])
def uJ:bL:=⟨89,[(false,.S (.I .i64)),(false,.I .i64)],.data true [(false,.B)],jy,1⟩
def Gh:cY:= [(54,⟨[⟨false,7,0,[1,3,67],⟨[(68,false,[.d true (.I .i64)])],[],[]⟩,[(.exit 0,⟨[],[],[]⟩),(.ret,⟨[(2,false,[.d true .B])],[],[]⟩)]⟩],[]⟩)]
def uK:KG:=⟨TT,EQS,[xR,uJ],[]⟩
def gk:vals [yD0]→Option (OutK.val (.data true [(false,.B)])):=dz uK Gh acM 54 0 [yD0] (.data true [(false,.B)])
def pj:bL:=⟨54,[yD0],.data true [(false,.B)],gk,2⟩
def IV:cY:= []
def IW:KG:=⟨TT,EQS,[pj],[]⟩
def iB:vals [yD0]→Option (OutK.val (.data false [yD0])):=dz IW IV ae8 23 0 [yD0] (.data false [yD0])
def yU:cY:= []
def pZ:KG:=⟨TT,EQS,[],[]⟩
def cD:vals [(false,.I .u64),(false,.I .u64)]→Option (OutK.val (.data true [yD2])):=dz pZ yU acW 91 0 [(false,.I .u64),(false,.I .u64)] (.data true [yD2])
def qd:bL:=⟨91,[(false,.I .u64),(false,.I .u64)],.data true [yD2],cD,1⟩
def IX:cY:= []
def xS:KG:=⟨TT,EQS,[],[]⟩
def fF:vals [yD8,(false,.I .i64)]→Option (OutK.val (.data true [yD8])):=dz xS IX acX 92 0 [yD8,(false,.I .i64)] (.data true [yD8])
def xT:bL:=⟨92,[yD8,(false,.I .i64)],.data true [yD8],fF,1⟩
def LW:cY:= [(61,⟨[⟨true,5,5,[0,1,4,6],⟨[],[(6,[.d true (.I .i64),.d true (.I .u64)])],[]⟩,[(.normal,⟨[],[(6,[.d true (.I .i64),.d true (.I .u64)])],[]⟩)]⟩],[(3,⟨[[],[],[],[],[],[],[.sl 6 0]],[(false,[]),(false,[]),(false,[]),(false,[]),(false,[]),(false,[]),(false,[])]⟩),(4,⟨[[],[],[],[],[],[],[.sl 6 0]],[(false,[]),(false,[]),(false,[]),(false,[]),(false,[]),(false,[]),(false,[])]⟩)]⟩)]
def LX:KG:=⟨TT,EQS,[mI,qd,xT],[]⟩
def ib:vals [(false,.I .i64),(false,.I .i64)]→Option (OutK.val (.data true [yD8])):=dz LX LW aeg 61 0 [(false,.I .i64),(false,.I .i64)] (.data true [yD8])
def LY:bL:=⟨61,[(false,.I .i64),(false,.I .i64)],.data true [yD8],ib,2⟩
def LZ:cY:= [(26,⟨[⟨true,2,57,[6,7],⟨[(1,false,[.d true (.I .i64)]),(2,false,[.d true (.I .i64)])],[(6,[.d true (.I .i64),.d true (.I .u64)])],[]⟩,[(.exit 5,⟨[(1,false,[.d true (.I .i64)]),(2,false,[.d true (.I .i64)])],[(6,[.d true (.I .i64),.d true (.I .u64)])],[]⟩),(.exit 0,⟨[],[(6,[.d true (.I .i64),.d true (.I .u64)])],[]⟩),(.ret,⟨[],[(6,[.d true (.I .i64),.d true (.I .u64)])],[]⟩),(.normal,⟨[(1,false,[.d true (.I .i64)]),(2,false,[.d true (.I .i64)])],[(6,[.d true (.I .i64),.d true (.I .u64)])],[]⟩)]⟩],[]⟩)]
def Ma:KG:=⟨TT,EQS,[rC,lk,mI,mv,LY],[]⟩
def jW:vals [(false,.I .i64),(false,.I .i64),(false,.I .i64)]→Option (OutK.val (.data true [yD8])):=dz Ma LZ aea 26 0 [(false,.I .i64),(false,.I .i64),(false,.I .i64)] (.data true [yD8])
def As:cY:= []
def At:KG:=⟨TT,EQS,[],[]⟩
def fk:vals [(false,.S (.I .u64)),(false,.I .i64)]→Option (OutK.val (.data true [(false,.B)])):=dz At As aeh 62 0 [(false,.S (.I .u64)),(false,.I .i64)] (.data true [(false,.B)])
def Au:bL:=⟨62,[(false,.S (.I .u64)),(false,.I .i64)],.data true [(false,.B)],fk,1⟩
def IY:cY:= []
def xU:KG:=⟨TT,EQS,[],[]⟩
def gr:vals [(false,.I .i64)]→Option (OutK.val (.data true [(false,.I .u64)])):=dz xU IY acN 63 0 [(false,.I .i64)] (.data true [(false,.I .u64)])
def xV:bL:=⟨63,[(false,.I .i64)],.data true [(false,.I .u64)],gr,1⟩
def IZ:cY:= []
def Ja:KG:=⟨TT,EQS,[Au,xV],[]⟩
def gS:vals [(false,.S (.I .u64)),(false,.I .i64)]→Option (OutK.val (.data true [(false,.B)])):=dz Ja IZ aeb 28 0 [(false,.S (.I .u64)),(false,.I .i64)] (.data true [(false,.B)])
def Jb:cY:= []
def Jc:KG:=⟨TT,EQS,[pj],[]⟩
def oh:vals [yD0]→Option (OutK.val (.data false [yD0])):=dz Jc Jb aeo 85 0 [yD0] (.data false [yD0])
def Jd:cY:= []
def Je:KG:=⟨TT,EQS,[],[]⟩
def iE:vals [yD6]→Option (OutK.val (.data false [yD6])):=dz Je Jd fi7 7 0 [yD6] (.data false [yD6])
def CO:cY:= [(99,⟨[⟨false,6,0,[1],⟨[(3,false,[.d true (.I .i64)])],[],[]⟩,[(.exit 0,⟨[],[],[]⟩),(.ret,⟨[(2,false,[.d true .B])],[],[]⟩)]⟩,⟨false,13,0,[1,3],⟨[(4,false,[.d true (.I .i64)])],[],[]⟩,[(.exit 2,⟨[],[],[]⟩),(.ret,⟨[(2,false,[.d true .B])],[],[]⟩)]⟩],[]⟩)]
def sA:KG:=⟨TT,EQS,[],[]⟩
def jG:vals [yD0]→Option (OutK.val (.data true [(false,.B)])):=dz sA CO ad1 99 0 [yD0] (.data true [(false,.B)])
def sB:bL:=⟨99,[yD0],.data true [(false,.B)],jG,1⟩
def Gi:cY:= []
def uL:KG:=⟨TT,EQS,[sB],[]⟩
def eQ:vals [yD0]→Option (OutK.val (.data false [yD0])):=dz uL Gi acP 69 0 [yD0] (.data false [yD0])
def uM:bL:=⟨69,[yD0],.data false [yD0],eQ,2⟩
def Gj:cY:= [(30,⟨[⟨false,4,0,[1,2],⟨[(3,false,[.m (.C (.I .i64) (.C (.I .i64) (.I .i64)))]),(4,false,[.d true (.I .i64)])],[],[]⟩,[(.exit 0,⟨[(3,false,[.m (.C (.I .i64) (.C (.I .i64) (.I .i64)))])],[],[]⟩)]⟩,⟨false,7,0,[1,2,4],⟨[(3,false,[.m (.C (.I .i64) (.C (.I .i64) (.I .i64)))]),(5,false,[.d true (.I .i64)])],[],[]⟩,[(.exit 2,⟨[(3,false,[.m (.C (.I .i64) (.C (.I .i64) (.I .i64)))])],[],[]⟩)]⟩],[(9,⟨[[],[],[],[],[],[],[],[],[],[],[],[],[],[],[],[],[],[],[.sl 3 0],[]],[(false,[]),(false,[]),(false,[]),(false,[]),(false,[]),(false,[]),(false,[]),(false,[]),(false,[]),(false,[]),(false,[]),(false,[]),(false,[]),(false,[]),(false,[]),(false,[]),(false,[]),(true,[]),(true,[]),(false,[])]⟩)]⟩)]
def uN:KG:=⟨TT,EQS,[Ar,uM],[]⟩
def eT:vals [yD0]→Option (OutK.val (.data true [yD1])):=dz uN Gj acH 30 0 [yD0] (.data true [yD1])
def Gk:bL:=⟨30,[yD0],.data true [yD1],eT,9⟩
def CP:cY:= [(78,⟨[⟨false,4,0,[1],⟨[(3,false,[.d true (.I .i64)])],[],[]⟩,[(.exit 0,⟨[],[],[]⟩),(.ret,⟨[(2,false,[.d true .B])],[],[]⟩)]⟩],[]⟩)]
def CQ:KG:=⟨TT,EQS,[],[]⟩
def eB:vals [yD6]→Option (OutK.val (.data true [(false,.B)])):=dz CQ CP aen 78 0 [yD6] (.data true [(false,.B)])
def CR:bL:=⟨78,[yD6],.data true [(false,.B)],eB,1⟩
def Gl:cY:= []
def Gm:KG:=⟨TT,EQS,[CR],[]⟩
def eU:vals [yD6]→Option (OutK.val (.data false [yD6])):=dz Gm Gl aee 49 0 [yD6] (.data false [yD6])
def Gn:bL:=⟨49,[yD6],.data false [yD6],eU,2⟩
def CS:cY:= [(105,⟨[⟨true,1,5,[],⟨[(0,false,[.d true (.I .i64)])],[],[]⟩,[(.normal,⟨[(0,false,[.d true (.I .i64)])],[],[]⟩)]⟩],[]⟩)]
def CT:KG:=⟨TT,EQS,[],[]⟩
def dH:vals [(false,.I .i64)]→Option (OutK.val (.data true [(false,.I .i64)])):=dz CT CS ad6 105 0 [(false,.I .i64)] (.data true [(false,.I .i64)])
def sD:bL:=⟨105,[(false,.I .i64)],.data true [(false,.I .i64)],dH,1⟩
def Jf:cY:= []
def Jg:KG:=⟨TT,EQS,[sD],[]⟩
def eK:vals [(false,.I .i64)]→Option (OutK.val (.own (.I .u64))):=dz Jg Jf ad2 100 0 [(false,.I .i64)] (.own (.I .u64))
def Jh:bL:=⟨100,[(false,.I .i64)],.own (.I .u64),eK,2⟩
def Ji:cY:= []
def Jj:KG:=⟨TT,EQS,[],[]⟩
def iF:vals [(false,.S (.I .u64)),(false,.I .i64),(false,.B)]→Option (OutK.val (.mown (.I .u64))):=dz Jj Ji ad7 106 0 [(false,.S (.I .u64)),(false,.I .i64),(false,.B)] (.mown (.I .u64))
def Jk:bL:=⟨106,[(false,.S (.I .u64)),(false,.I .i64),(false,.B)],.mown (.I .u64),iF,1⟩
def Jl:cY:= []
def Jm:KG:=⟨TT,EQS,[Jk],[]⟩
def gu:vals [(false,.S (.I .u64)),(false,.I .i64)]→Option (OutK.val (.mown (.I .u64))):=dz Jm Jl ad3 101 0 [(false,.S (.I .u64)),(false,.I .i64)] (.mown (.I .u64))
def Jn:bL:=⟨101,[(false,.S (.I .u64)),(false,.I .i64)],.mown (.I .u64),gu,2⟩
def Mb:cY:= [(71,⟨[⟨false,3,0,[0,1],⟨[(5,false,[.m (.I .u64)]),(6,false,[.d true (.I .i64)])],[],[]⟩,[(.exit 0,⟨[(5,false,[.m (.I .u64)])],[],[]⟩)]⟩],[]⟩)]
def Mc:KG:=⟨TT,EQS,[Jh,Jn],[]⟩
def ic:vals [(false,.I .i64),(false,.S (.I .i64))]→Option (OutK.val (.mown (.I .u64))):=dz Mc Mb aem 71 0 [(false,.I .i64),(false,.S (.I .i64))] (.mown (.I .u64))
def Jo:cY:= []
def Jp:KG:=⟨TT,EQS,[],[]⟩
def dP:vals [(false,.S (.I .u64)),(false,.I .i64)]→Option (OutK.val (.data true [(false,.B)])):=dz Jp Jo aej 65 0 [(false,.S (.I .u64)),(false,.I .i64)] (.data true [(false,.B)])
def qA:bL:=⟨65,[(false,.S (.I .u64)),(false,.I .i64)],.data true [(false,.B)],dP,1⟩
def Gp:cY:= [(94,⟨[⟨false,3,0,[0],⟨[(3,false,[.m (.I .i64)]),(4,false,[.d true (.I .i64)])],[],[]⟩,[(.exit 0,⟨[(3,false,[.m (.I .i64)])],[],[]⟩)]⟩],[]⟩)]
def Gq:KG:=⟨TT,EQS,[qA],[]⟩
def dQ:vals [(false,.S (.I .u64))]→Option (OutK.val (.mown (.I .i64))):=dz Gq Gp aeq 94 0 [(false,.S (.I .u64))] (.mown (.I .i64))
def uO:bL:=⟨94,[(false,.S (.I .u64))],.mown (.I .i64),dQ,2⟩
def CU:cY:= []
def CV:KG:=⟨TT,EQS,[uO,sD],[]⟩
def eC:vals [(false,.S (.I .u64)),(false,.I .i64)]→Option (OutK.val (.data true [(false,.B)])):=dz CV CU ad4 103 0 [(false,.S (.I .u64)),(false,.I .i64)] (.data true [(false,.B)])
def CW:bL:=⟨103,[(false,.S (.I .u64)),(false,.I .i64)],.data true [(false,.B)],eC,3⟩
def CX:cY:= [(93,⟨[⟨false,4,0,[1],⟨[(3,false,[.d true (.I .i64)])],[],[]⟩,[(.exit 0,⟨[],[],[]⟩),(.ret,⟨[(2,false,[.d true .B])],[],[]⟩)]⟩],[]⟩)]
def CY:KG:=⟨TT,EQS,[qA,CW],[]⟩
def eD:vals [yD3]→Option (OutK.val (.data true [(false,.B)])):=dz CY CX aep 93 0 [yD3] (.data true [(false,.B)])
def CZ:bL:=⟨93,[yD3],.data true [(false,.B)],eD,4⟩
def Gr:cY:= [(64,⟨[⟨false,6,0,[1,2,3,4],⟨[(5,false,[.d true (.I .i64)])],[(3,[.d true (.I .i64),.m (.C (.I .i64) (.I .i64))])],[]⟩,[(.exit 0,⟨[],[(3,[.d true (.I .i64),.m (.C (.I .i64) (.I .i64))])],[]⟩)]⟩],[(8,⟨[[],[],[],[],[],[],[],[],[],[],[],[],[],[],[],[],[.bx 3 1],[],[.sl 3 0]],[(false,[]),(false,[]),(false,[]),(false,[]),(false,[]),(false,[]),(false,[]),(false,[]),(false,[]),(false,[]),(false,[]),(false,[]),(false,[]),(false,[]),(false,[]),(true,[]),(true,[]),(false,[]),(false,[])]⟩)]⟩)]
def Gs:KG:=⟨TT,EQS,[CZ,uO],[]⟩
def fJ:vals [yD3]→Option (OutK.val (.data true [yD6])):=dz Gs Gr aei 64 0 [yD3] (.data true [yD6])
def Gt:bL:=⟨64,[yD3],.data true [yD6],fJ,5⟩
def Jq:cY:= [(66,⟨[⟨false,3,0,[1,2],⟨[(6,false,[.d true (.I .i64)])],[],[]⟩,[(.exit 0,⟨[],[],[]⟩),(.ret,⟨[(4,false,[.d true (.I .i64)]),(5,false,[.d true .B])],[],[]⟩)]⟩],[]⟩)]
def Jr:KG:=⟨TT,EQS,[Gn],[]⟩
def fT:vals [yD6,(false,.I .i64)]→Option (OutK.val (.data true [(false,.I .i64),(false,.B)])):=dz Jr Jq aek 66 0 [yD6,(false,.I .i64)] (.data true [(false,.I .i64),(false,.B)])
def Js:bL:=⟨66,[yD6,(false,.I .i64)],.data true [(false,.I .i64),(false,.B)],fT,3⟩
def Da:cY:= []
def Db:KG:=⟨TT,EQS,[lF],[]⟩
def fx:vals [yD8]→Option (OutK.val (.data true [yD8])):=dz Db Da ad5 104 0 [yD8] (.data true [yD8])
def Dc:bL:=⟨104,[yD8],.data true [yD8],fx,2⟩
def Jt:cY:= [(98,⟨[⟨false,7,0,[4,5,6,8],⟨[(7,false,[.d true (.I .u64)])],[(5,[.d true (.I .i64),.d true (.I .u64)]),(8,[.d true (.I .i64),.d true (.I .u64)])],[]⟩,[(.exit 0,⟨[],[(8,[.d true (.I .i64),.d true (.I .u64)])],[]⟩)]⟩,⟨true,4,5,[4,5,6],⟨[(7,false,[.d true (.I .u64)])],[],[]⟩,[(.normal,⟨[(7,false,[.d true (.I .u64)])],[],[]⟩)]⟩,⟨true,8,5,[4,5,6,7,8],⟨[],[(8,[.d true (.I .i64),.d true (.I .u64)])],[]⟩,[(.normal,⟨[],[(8,[.d true (.I .i64),.d true (.I .u64)])],[]⟩)]⟩],[]⟩)]
def Ju:KG:=⟨TT,EQS,[ph,lF,Dc],[]⟩
def dR:vals [(false,.I .i64),(false,.I .i64)]→Option (OutK.val (.data true [yD8])):=dz Ju Jt aer 98 0 [(false,.I .i64),(false,.I .i64)] (.data true [yD8])
def Jv:bL:=⟨98,[(false,.I .i64),(false,.I .i64)],.data true [yD8],dR,3⟩
def Jw:cY:= []
def Jx:KG:=⟨TT,EQS,[ph,lF,me,nR,Jv],[]⟩
def fG:vals [(false,.I .i64),(false,.I .i64),(false,.I .i64)]→Option (OutK.val (.data true [yD8])):=dz Jx Jw ael 67 0 [(false,.I .i64),(false,.I .i64),(false,.I .i64)] (.data true [yD8])
def Jy:bL:=⟨67,[(false,.I .i64),(false,.I .i64),(false,.I .i64)],.data true [yD8],fG,4⟩
def Gu:cY:= [(29,⟨[⟨false,9,0,[0,3,4,6,12],⟨[(13,false,[.m (.C (.I .i64) (.C (.I .i64) (.I .u64)))]),(14,false,[.d true (.I .i64)])],[],[]⟩,[(.exit 0,⟨[(13,false,[.m (.C (.I .i64) (.C (.I .i64) (.I .u64)))])],[],[]⟩)]⟩,⟨false,15,0,[0,3,4,6,12,13,14,15],⟨[(16,false,[.d true .B]),(17,false,[.d true (.I .i64)])],[(15,[.d true (.I .i64),.d true (.I .u64)])],[]⟩,[(.exit 2,⟨[(16,false,[.d true .B])],[(15,[.d true (.I .i64),.d true (.I .u64)])],[]⟩)]⟩],[]⟩)]
def Gv:KG:=⟨TT,EQS,[pg,Gf,Gt,qA,Js,Jy,qx],[]⟩
def gl:vals [(false,.I .i64),yD1,yD3,(false,.S (.I .u64)),(false,.B)]→Option (OutK.val (.data true [yD4,(false,.I .i64)])):=dz Gv Gu aec 29 0 [(false,.I .i64),yD1,yD3,(false,.S (.I .u64)),(false,.B)] (.data true [yD4,(false,.I .i64)])
def wH:cY:= [(10,⟨[⟨false,4,0,[0,1],⟨[(5,false,[.d true (.I .i64)])],[],[]⟩,[(.exit 0,⟨[],[],[]⟩),(.ret,⟨[(4,false,[.d true .B])],[],[]⟩)]⟩],[]⟩)]
def wI:KG:=⟨TT,EQS,[],[]⟩
def dE:vals [yD4,yD4]→Option (OutK.val (.data true [(false,.B)])):=dz wI wH ae7 10 0 [yD4,yD4] (.data true [(false,.B)])
end K
end Ev
end
noncomputable section
namespace Ev
namespace KM
open Go Go.RowKit
def FL6:Option (Bool):=K.FL6 ()
def fV(x:Int):Option (Bool):=K.fV x
def ia(x:Int×Int×Int)(y:Int×Int×Int):Option (Bool):=K.ia (x,y)
def aO(x:Int):Option (Int×Int):=K.aO x
def bB(x:Int×Int)(y:Int×Int):Option (Int):=K.bB (x,y)
def aS(x:Bool):Option (Int×Int):=K.aS x
def bG(x:Int×Int)(y:Int×Int):Option (Int×Int):=K.bG (x,y)
def fE(x:Int)(y:Int×Int)(z:Int×Int):Option (Int×Int):=K.fE (x,y,z)
def gJ(x:Int×Int):Option (Int×Bool):=K.gJ x
def dA(x:Int)(y:Sl (Int×Int×Int)):Option ((Sl (Int×Int×Int))×Int):=K.dA (x,y)
def jF(x:Int)(y:Int)(z:Sl (Int×Int×Int)):Option (Int×Int×Sl (Int)×Sl (Int)×Sl (Int)):=K.jF (x,y,z)
def lG(x:Int)(y:Int)(z:Int)(u:Sl (Int×Int×Int)):Option ((Int×Int×Sl (Int)×Sl (Int)×Sl (Int))×Int):=K.lG (x,y,z,u)
def eA(x:Int×Int×Sl (Int)×Sl (Int)×Sl (Int)):Option (Bool):=K.eA x
def fI(x:Int×Int×Sl (Int)×Sl (Int)×Sl (Int)):Option (Int×Int×Sl (Int)×Sl (Int)×Sl (Int)):=K.fI x
def kP(x:Int):Option (Bool):=K.kP x
def jy(x:Sl (Int))(y:Int):Option (Bool):=K.jy (x,y)
def gk(x:Int×Int×Sl (Int)×Sl (Int)×Sl (Int)×Sl (Int)):Option (Bool):=K.gk x
def iB(x:Int×Int×Sl (Int)×Sl (Int)×Sl (Int)×Sl (Int)):Option (Int×Int×Sl (Int)×Sl (Int)×Sl (Int)×Sl (Int)):=K.iB x
def cD(x:Int)(y:Int):Option (Int×Int×Int×Int):=K.cD (x,y)
def fF(x:Int×Int)(y:Int):Option (Int×Int):=K.fF (x,y)
def ib(x:Int)(y:Int):Option (Int×Int):=K.ib (x,y)
def jW(x:Int)(y:Int)(z:Int):Option (Int×Int):=K.jW (x,y,z)
def fk(x:Sl (Int))(y:Int):Option (Bool):=K.fk (x,y)
def gr(x:Int):Option (Int):=K.gr x
def gS(x:Sl (Int))(y:Int):Option (Bool):=K.gS (x,y)
def oh(x:Int×Int×Sl (Int)×Sl (Int)×Sl (Int)×Sl (Int)):Option (Int×Int×Sl (Int)×Sl (Int)×Sl (Int)×Sl (Int)):=K.oh x
def iE(x:Int×(Sl (Int×Int))):Option (Int×(Sl (Int×Int))):=K.iE x
def jG(x:Int×Int×Sl (Int)×Sl (Int)×Sl (Int)×Sl (Int)):Option (Bool):=K.jG x
def eQ(x:Int×Int×Sl (Int)×Sl (Int)×Sl (Int)×Sl (Int)):Option (Int×Int×Sl (Int)×Sl (Int)×Sl (Int)×Sl (Int)):=K.eQ x
def eT(x:Int×Int×Sl (Int)×Sl (Int)×Sl (Int)×Sl (Int)):Option (Int×Int×Sl (Int)×Sl (Int)×Sl (Int)):=K.eT x
def eB(x:Int×(Sl (Int×Int))):Option (Bool):=K.eB x
def eU(x:Int×(Sl (Int×Int))):Option (Int×(Sl (Int×Int))):=K.eU x
def dH(x:Int):Option (Int):=K.dH x
def eK(x:Int):Option (List (Int)):=K.eK x
def iF(x:Sl (Int))(y:Int)(z:Bool):Option (List (Int)):=K.iF (x,y,z)
def gu(x:Sl (Int))(y:Int):Option (List (Int)):=K.gu (x,y)
def ic(x:Int)(y:Sl (Int)):Option (List (Int)):=K.ic (x,y)
def dP(x:Sl (Int))(y:Int):Option (Bool):=K.dP (x,y)
def dQ(x:Sl (Int)):Option (List (Int)):=K.dQ x
def eC(x:Sl (Int))(y:Int):Option (Bool):=K.eC (x,y)
def eD(x:Int×Sl (Int)×Sl (Int)):Option (Bool):=K.eD x
def fJ(x:Int×Sl (Int)×Sl (Int)):Option (Int×(Sl (Int×Int))):=K.fJ x
def fT(x:Int×(Sl (Int×Int)))(y:Int):Option (Int×Bool):=K.fT (x,y)
def fx(x:Int×Int):Option (Int×Int):=K.fx x
def dR(x:Int)(y:Int):Option (Int×Int):=K.dR (x,y)
def fG(x:Int)(y:Int)(z:Int):Option (Int×Int):=K.fG (x,y,z)
def gl(x:Int)(y:Int×Int×Sl (Int)×Sl (Int)×Sl (Int))(z:Int×Sl (Int)×Sl (Int))(u:Sl (Int))(v:Bool):Option ((Sl (Int×(Int×Int)))×Int):=K.gl (x,y,z,u,v)
def dE(x:Sl (Int×(Int×Int)))(y:Sl (Int×(Int×Int))):Option (Bool):=K.dE (x,y)
end KM
end Ev
end
end Go.Proofs.Ytjjbpdldbdmoeaa
