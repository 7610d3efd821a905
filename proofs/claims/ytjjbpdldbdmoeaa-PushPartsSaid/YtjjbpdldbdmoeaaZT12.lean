/- Texts of a claim, joined. -/
import Derived.Test.YtjjbpdldbdmoeaaZT11
import Derived.Test.YtjjbpdldbdmoeaaZT10
import Derived.Test.YtjjbpdldbdmoeaaZT3
set_option linter.unusedVariables false
set_option linter.unusedSimpArgs false
namespace Go.Proofs.Ytjjbpdldbdmoeaa
noncomputable section
open Go.RowKit Go.Sort
namespace Sm
namespace Mg
open Ev Ev.KM
abbrev S3:=Int×Int×Int
abbrev sty:K.Ty:= .C (.I .i64) (.C (.I .i64) (.I .u64))
abbrev ins:List K.TyD:= [(false,.I .i64),(false,.S (.S sty))]
abbrev outs:List K.TyD:= [(false,.S sty),(false,.I .i64)]
def idx:Nat→List (List S3)→List Hp.Evt
 |_,[]=> []
 |i,l::ls=>l.map (fun s=>((i:Int),s))++idx (i+1) ls
def totL(ls:List (List S3)):Nat:=(ls.map (fun l=>l.length)).sum
theorem Zt{ls:List (List S3)}{s:List S3}(h:s∈ls):s.length≤totL ls:=by
 induction ls with
 |nil=>cases h
 |cons a r ih=>
  unfold totL at*;simp only [List.map_cons,List.sum_cons];rcases List.mem_cons.1 h with rfl|h
  ·omega
  ·have:=ih h;omega
def okI(x:Sl S3):Bool:=decide (x.sz=3)||x.l.isEmpty
def okM(x:Sl (Sl S3)):Bool:=decide (x.l.length≤90000)&& decide (totL (x.l.map (fun s=>s.l))≤90000)&&(decide (x.sz=1)||x.l.isEmpty)&& x.l.all okI
def outM(r:Int)(ls:List (List S3)):List S3:=Hp.outOf (aI r) (Hp.sortE (idx 0 ls))
def fn(a:Int×Sl (Sl S3)):Option (Sl S3×Int):=
 if okM a.2=true then some
  (if lJ a.1=false then(⟨false,0,[]⟩,8)
   else if(a.2.l.map (fun s=>s.l)).all risB=false then(⟨false,0,[]⟩,6)
   else if(outM a.1 (a.2.l.map (fun s=>s.l))).isEmpty=true then(⟨false,0,[]⟩,0)
   else(⟨true,3,outM a.1 (a.2.l.map (fun s=>s.l))⟩,0))else none
theorem Zu{w:World}{F:Nat→Prop}{x:Sl S3}{y:Value}(hx:x.sz=3∨x.l= [])(h:RepT w F (Sl.t sty.row x) y):∃a c,y= .slice a x.l.length c∧Hp.RdS w w.heap.size a x.l∧x.l.length≤c:=by
 obtain⟨nn,sz,l⟩:=x;unfold Sl.t at h
 cases h with
 |s _ _ _ a c ys hn hc h0 hl hm hr=>
  rw [List.length_map]at hc ⊢;refine⟨a,c,rfl,?_,hc⟩;intro i hi
  have hsz:sz=3:=by
   rcases hx with h|h
   ·exact h
   ·simp only at h;rw [h]at hi;simp at hi
  subst hsz;have hil:(l.map sty.row)[i]? =some (sty.row l[i]):=by simp [hi]
  have g:∀j v,(sty.row l[i])[j]? =some (.v v)→∃b,a=some b∧b.block<w.heap.size∧w.cell? (b.add (i*3+j))=some v:=by
   intro j v hj;obtain⟨b,h1,h2,_,h3⟩:=hm i _ j _ hil hj;refine⟨b,h1,h2,?_⟩
   have:=hr i _ j _ hil hj
   rw [h3];generalize ys i j=y at this
   cases this with|v x hx=>rfl
  obtain⟨b,e0,h1,c0⟩:=g 0 (.int .i64 l[i].1) rfl;obtain⟨b1,e1,_,c1⟩:=g 1 (.int .i64 l[i].2.1) rfl;obtain⟨b2,e2,_,c2⟩:=g 2 (.int .u64 l[i].2.2) rfl;rw [e0]at e1 e2;cases e1;cases e2;exact⟨b,e0,h1,by simpa using c0,c1,c2⟩
def HX(i:Nat)(v:Value)(l:List S3):Hp.Hd:=match v with
 | .slice a _ c=>⟨i,a,c,l⟩
 |_=>⟨i,none,0,l⟩
def hds(ys:Nat→Value):Nat→List (Sl S3)→List Hp.Hd
 |_,[]=> []
 |i,s::r=>HX i (ys i) s.l::hds ys (i+1) r
theorem Fr(ys:Nat→Value):∀i l,(hds ys i l).length=l.length
 |_,[]=>rfl
 |i,s::r=>by simp [hds,Fr ys (i+1) r]
theorem KR(i:Nat)(v:Value)(l:List S3):(HX i v l).k=(i:Int):=by cases v<;>rfl
theorem Fs(i:Nat)(v:Value)(l:List S3):(HX i v l).l=l:=by cases v<;>rfl
theorem KU(ys:Nat→Value):∀(l:List (Sl S3)) (i j:Nat) (hj:j<l.length),Hp.at_ (hds ys i l) j=HX (i+j) (ys (i+j)) (l[j]).l
 |s::r,i,0,_=>rfl
 |s::r,i,j+1,hj=>by
  have:=KU ys r (i+1) j (by simpa using hj)
  rw [show i+1+j=i+(j+1)by omega]at this;exact this
theorem HZ(ys:Nat→Value):∀(l:List (Sl S3)) (i:Nat),Hp.evts (hds ys i l)=idx i (l.map (fun s=>s.l))
 | [],_=>rfl
 |s::r,i=>by
  show(HX i (ys i) s.l).l.map _++Hp.evts (hds ys (i+1) r)=_;rw [HZ ys r (i+1),KR,Fs];rfl
theorem Nn(ys:Nat→Value):∀(l:List (Sl S3)) (i:Nat),Hp.tot (hds ys i l)=totL (l.map (fun s=>s.l))
 | [],_=>rfl
 |s::r,i=>by
  have:=Nn ys r (i+1)
  unfold Hp.tot totL at*;simp only [hds,List.map_cons,List.sum_cons,Fs,this]
theorem VD{ys:Nat→Value}{l:List (Sl S3)}{h:Hp.Hd}(hm:h∈hds ys 0 l):∃j,∃hj:j<l.length,h=HX j (ys j) (l[j]).l:=by
 obtain⟨j,hj,rfl⟩:=List.mem_iff_getElem.1 hm;have hj':j<l.length:=by rw [Fr]at hj;exact hj
 refine⟨j,hj',?_⟩
 have:=KU ys l 0 j hj'
 rw [Hp.at_lt hj,Nat.zero_add]at this;exact this
theorem LD.below{w W:World}(hL:LD w.heap.size w)(hb:Below w.heap.size w W):LD W.heap.size W:=(hL.keep (fun _ hs=>hb.block 0 hs) hb.size).up hb.size
theorem RepT.below{w W:World}{F F':Nat→Prop}{t:T}{y:Value}(h:RepT w F t y)(hb:Below w.heap.size w W)(hF:∀b,F' b→F b):RepT W F' t y:=h.mono hb.size fun b hlt _ hn=>⟨hb.block b hlt,fun hf=>hn (hF b hf)⟩
set_option maxRecDepth 100000 in
theorem Sf(r:Int)(W:World)(hL:LD W.heap.size W):Calls Try.prog 22 #[.int .i64 r] W fun e w'=>e= .returned (.bool (lJ r))∧Below W.heap.size W w':=
 wW (RunsP.pure K.mz (K.HW 0 r (lJ r) (OI r))) rfl rfl W hL
set_option maxRecDepth 100000 in
theorem OU(r:Int)(x y:Int×Int)(W:World)(hL:LD W.heap.size W):Calls Try.prog 27 #[.int .i64 r,Hp.PV x,Hp.PV y] W fun e w'=>e= .returned (Hp.PV (aI r x y))∧Below W.heap.size W w':=
 wW (RunsP.pure K.mz (K.Fp 0 (r,x,y) (aI r x y) (Kw r x y))) rfl rfl W hL
theorem Ia{w:World}{F:Nat→Prop}{x:Sl S3}{y:Value}(hr:RepT w F (Sl.t sty.row x) y)(hL:LD w.heap.size w){b:Bool}(hb:ko x=some b)(W:World)(hW:Below w.heap.size w W):Calls Try.prog 32 #[y] W fun e w'=>e= .returned (.bool b)∧Below W.heap.size W w':=by
 have h:=RunsP.pure K.mz (K.zw 0 x b hb);refine(h W (fun _=>False) [y] (LD.below hL hW) (fun _ h=>h.elim) ⟨rfl,fun i t hi=> ?_⟩).mono fun e w' ⟨y',e1,e2,_,e3⟩=>⟨?_,e3⟩
 ·have h0:i=0:=by
   have h1:i<1:=(List.getElem?_eq_some_iff.1 hi).1;omega
  subst h0;cases hi;exact⟨y,rfl,.one _ _ (RepT.below hr hW fun _ h=>h.elim)⟩
 ·rw [e1,Sa (x:= .bool b) rfl w' _ e2]
theorem Ft(w:World)(F:Nat→Prop):RepT w F (Sl.t sty.row ⟨false,0,[]⟩) (.slice none 0 0):=RepT.s (w:=w) (F:=F) false 0 [] none 0 (fun _ _=> .nilFunc) rfl (Nat.le_refl _) (fun _=>rfl) (fun i e h=>by simp at h) (fun i e j t h=>by simp at h) (fun i e j t h=>by simp at h)
theorem two{w:World}{F:Nat→Prop}{t:T}{y:Value}{e:Int}(h:RepT w F t y):vJ w F [.one t,.one (iT .i64 e)] (.tuple #[y,.int .i64 e]):=by
 refine⟨[y,.int .i64 e],rfl,rfl,fun i t' hi=> ?_⟩
 match i,hi with
 |0,hi=>cases hi;exact⟨y,rfl,.one _ _ h⟩
 |1,hi=>cases hi;exact⟨_,rfl,.one _ _ (.v _ rfl)⟩
 |i+2,hi=>simp at hi
theorem VE{base:Nat}{w:World}{F:Nat→Prop}{v:Value}{l:List S3}(h:w.ownsRow base 69 3 v l.length (Hp.cellsS l))(hF:∀b,F b→b<base)(hne:l≠[]):RepT w F (Sl.t sty.row ⟨true,3,l⟩) v:=by
 rcases h.2 with⟨e,h0⟩|⟨g,cap,cur,e,hbg,hg,hnc,hcm,hcs,htake⟩
 ·exact absurd (List.eq_nil_of_length_eq_zero h0) hne
 subst e;have hlt:=h.lt g rfl
 have key:=RepT.s (w:=w) (F:=F) true 3 (l.map sty.row) (some ⟨g,0,none⟩) cap (fun i j=>match j with
  |0=> .int .i64 (Hp.at_ l i).1
  |1=> .int .i64 (Hp.at_ l i).2.1
  |_=> .int .u64 (Hp.at_ l i).2.2) rfl (by simpa using hnc) (by simp) (fun i e hi=>by
   rw [List.getElem?_map,Option.map_eq_some_iff]at hi;obtain⟨x,_,rfl⟩:=hi
   rfl) ?_ ?_
 ·rw [List.length_map]at key;exact key
 ·intro i e j t hi hj;rw [List.getElem?_map,Option.map_eq_some_iff]at hi;obtain⟨x,hx,rfl⟩:=hi;have hil:i<l.length:=(List.getElem?_eq_some_iff.1 hx).1;refine⟨⟨g,0,none⟩,rfl,hlt.2,fun hf=>by have h9:g<base:=hF _ hf;omega,?_⟩;have hj3:j<3:=(List.getElem?_eq_some_iff.1 hj).1;have hc:=h.cells (g:=g) rfl (i*3+j);rcases(show j=0∨j=1∨j=2 by omega)with rfl|rfl|rfl
  ·exact hc _ ((Hp.cellsS_at l i 0 hil (by omega)).trans rfl)
  ·exact hc _ ((Hp.cellsS_at l i 1 hil (by omega)).trans rfl)
  ·exact hc _ ((Hp.cellsS_at l i 2 hil (by omega)).trans rfl)
 ·intro i e j t hi hj;rw [List.getElem?_map,Option.map_eq_some_iff]at hi;obtain⟨x,hx,rfl⟩:=hi;have hil:i<l.length:=(List.getElem?_eq_some_iff.1 hx).1;have hx2:Hp.at_ l i=x:=by rw [Hp.at_lt hil];exact(List.getElem?_eq_some_iff.1 hx).2
  have hj3:j<3:=(List.getElem?_eq_some_iff.1 hj).1;rcases(show j=0∨j=1∨j=2 by omega)with rfl|rfl|rfl
  ·cases hj;simp only [hx2];exact .v _ rfl
  ·cases hj;simp only [hx2];exact .v _ rfl
  ·cases hj;simp only [hx2];exact .v _ rfl
theorem pure_ok(a:K.vals ins)(o:K.vals outs)(h:fn a=some o):eo Try.prog 11 (K.im ins a) .fresh (K.im outs o):=by
 obtain⟨r,x⟩:=a;change Int at r;change Sl (Sl S3)at x;unfold fn at h;split at h
 rotate_left
 ·cases h
 rename_i hx;simp only at hx;have h:=Option.some.inj h;simp only at h;simp only [okM,Bool.and_eq_true,Bool.or_eq_true,decide_eq_true_eq,List.isEmpty_iff,List.all_eq_true]at hx;obtain⟨⟨⟨hx1,hx2⟩,hx3⟩,hx4⟩:=hx;intro w F ys hL hF hr;obtain⟨hlen,hi⟩:=hr
 match ys,hlen with
 | [y0,y1],_=>
  obtain⟨y,e1,e2⟩:=hi 0 _ rfl;simp only [List.getElem?_cons_zero,zsI]at e1;subst e1
  have ey:y0= .int .i64 r:=by
   cases e2 with
   |one t y h=>cases h with|v x hx=>rfl
  subst ey;obtain⟨y,e1,e2⟩:=hi 1 _ rfl;simp only [List.getElem?_cons_succ,List.getElem?_cons_zero,zsI]at e1;subst e1
  have e3:RepT w F (Sl.t (K.Ty.S sty).row x) y1:=by cases e2 with|one t y h=>exact h
  clear e2 hi;obtain⟨nn,sz,l⟩:=x;unfold Sl.t at e3
  cases e3 with
  |s _ _ _ a c yv hn hc h0 hl hm hr=>
  rw [List.length_map]at hc ⊢;simp only at hx1 hx2 hx3 hx4 h
  have hcell:∀j,(hj:j<l.length)→∃b,a=some b∧b.block<w.heap.size∧w.cell? (b.add j)=some (yv j 0)∧RepT w F (Sl.t sty.row l[j]) (yv j 0):=fun j hj=>by
   have hsz:sz=1:=by
    rcases hx3 with h|h
    ·exact h
    ·rw [h]at hj;simp at hj
   subst hsz;have hil:(l.map (K.Ty.S sty).row)[j]? =some ((K.Ty.S sty).row l[j]):=by simp [hj]
   obtain⟨b,h1,h2,_,h3⟩:=hm j _ 0 (Sl.t sty.row l[j]) hil rfl;refine⟨b,h1,h2,by simpa using h3,hr j _ 0 (Sl.t sty.row l[j]) hil rfl⟩
  have hin:∀j,(hj:j<l.length)→(l[j]).sz=3∨(l[j]).l= []:=fun j hj=>by
   have:=hx4 _ (List.getElem_mem hj)
   simpa [okI]using this
  have hrd:∀j,(hj:j<l.length)→∃a c,yv j 0= .slice a (l[j]).l.length c∧Hp.RdS w w.heap.size a (l[j]).l∧(l[j]).l.length≤c:=fun j hj=>by
   obtain⟨b,_,_,_,h4⟩:=hcell j hj;exact Zu (hin j hj) h4
  have hlen2:∀j,(hj:j<l.length)→(l[j]).l.length≤90000:=fun j hj=>by
   refine Nat.le_trans ?_ hx2
   have:((l.map (fun s=>s.l))[j]'(by simpa using hj))∈l.map (fun s=>s.l):=List.getElem_mem _
   rw [List.getElem_map]at this;exact Zt this
  obtain⟨H,hH⟩:∃H,H=hds (fun j=>yv j 0) 0 l:=⟨_,rfl⟩
  have hat:∀j,(hj:j<l.length)→Hp.at_ H j=HX j (yv j 0) (l[j]).l:=fun j hj=>by
   have:=KU (fun j=>yv j 0) l 0 j hj
   rw [Nat.zero_add]at this;rw [hH];exact this
  have hmem:∀h∈H,∃j,∃hj:j<l.length,h=HX j (yv j 0) (l[j]).l:=fun h hm=>by
   rw [hH]at hm;exact VD hm
  have hHl:H.length=l.length:=by rw [hH];exact Fr _ _ _
  have hw:=Hp.merge_walk r (lJ r) (aI r) a l.length c H w hHl.symm hx1 (by rw [hH,Nn];exact hx2)
   (fun j hj=>by
    obtain⟨b,h1,h2,h3,_⟩:=hcell j hj;obtain⟨a2,c2,h4,_⟩:=hrd j hj;refine⟨b,h1,h2,?_⟩;rw [h3,hat j hj,h4]
    rfl)
   (fun j hj=>by rw [hat j hj,KR])
   (fun h hm=>by
    obtain⟨j,hj,rfl⟩:=hmem h hm;obtain⟨a2,c2,h4,h5,_⟩:=hrd j hj
    rw [h4];exact h5)
   (fun h hm=>by
    obtain⟨j,hj,rfl⟩:=hmem h hm;obtain⟨a2,c2,h4,_,h6⟩:=hrd j hj
    rw [h4];exact h6)
   (fun W hW=>Sf r W (LD.below hL hW)) risB
   (fun j hj W hW=>by
    obtain⟨b,_,_,_,h7⟩:=hcell j hj;obtain⟨a2,c2,h4,_,h6⟩:=hrd j hj;have h8:=Ia h7 hL (Fl (hin j hj).symm (by have:=hlen2 j hj;omega)) W hW;rw [hat j hj,h4];rw [h4]at h8
    exact h8)
   (fun _ p q W hW=>OU r p q W (LD.below hL hW))
  refine hw.mono ?_;rintro e w' ⟨v,code,res,rfl,hown,hnil,hbl,hcase⟩;refine⟨_,rfl,?_,fun hk=>(by cases hk),hbl⟩
  have hall:(l.map (fun s=>s.l)).all risB=true↔∀h∈H,risB h.l=true:=by
   rw [List.all_eq_true];constructor
   ·intro g h hm;obtain⟨j,hj,rfl⟩:=hmem h hm;rw [Fs];exact g _ (List.mem_map_of_mem (List.getElem_mem hj))
   ·intro g s hs;rw [List.mem_map]at hs;obtain⟨t,ht,rfl⟩:=hs;obtain⟨j,hj,rfl⟩:=List.mem_iff_getElem.1 ht
    have:=g (Hp.at_ H j) (by rw [Hp.at_lt (by omega)];exact List.getElem_mem _)
    rw [hat j hj,Fs]at this;exact this
  rcases hcase with⟨h1,h2,h3⟩|⟨h1,⟨q,hq,hq2⟩,h2,h3⟩|⟨h1,h5,h2,seq,h3,h4⟩
  ·rw [if_pos h1]at h;subst h;rw [hnil h3,h2];exact two (Ft _ _)
  ·have hf:(l.map (fun s=>s.l)).all risB=false:=by
    rw [Bool.eq_false_iff];intro g;rw [hall.1 g q hq]at hq2;cases hq2
   rw [if_neg (by rw [h1];simp),if_pos hf]at h;subst h;rw [hnil h3,h2];exact two (Ft _ _)
  ·have hseq:=Hp.ext_eq h3 (fun h hm=>(risB_iff _).1 (h5 h hm)) (fun i hi=>by rw [hat i (by omega),KR])
   have hres:res=outM r (l.map (fun s=>s.l)):=by
    rw [h4,hseq,hH,HZ];rfl
   rw [if_neg (by rw [h1];simp),if_neg (by rw [hall.2 h5];simp),←hres]at h;rw [h2];by_cases he:res= []
   ·rw [if_pos (by rw [he];rfl)]at h;subst h;rw [hnil he];exact two (Ft _ _)
   ·rw [if_neg (by simpa using he)]at h;subst h;exact two (VE hown (fun b hb=>hb.1) he)
theorem enters:Ev.Enters Try.prog 11:=⟨_,_,Try.func11,by kernel_rfl,by unfold Try.f11;rfl⟩
end Mg
end Sm
end
noncomputable section
namespace Ev
namespace K
open Go Go.RowKit
set_option maxRecDepth 100000
set_option maxHeartbeats 1000000
def Ib:Ax:=(fM (fun _=>none) 11 (Dl Sm.Mg.ins .fresh Sm.Mg.outs Sm.Mg.fn))
theorem zx:AU Try.prog Ib:=(bS (wq _) (Vu Sm.Mg.enters Sm.Mg.pure_ok))
def wX:Ax:=(fM (fM (fM Ib 25 oQ) 56 oQ) 75 oQ)
theorem od:AU Try.prog wX:=(bS (bS (bS zx fun vs kind rs h=>by simp [oQ]at h) fun vs kind rs h=>by simp [oQ]at h) fun vs kind rs h=>by simp [oQ]at h)
def E0:Env:=uU Try.prog wX
theorem Xz:E0.Ok:=oF sJ sK od
def lvi(n:Int):T:=iT .i64 n
def lvu(n:Int):T:=iT .u64 n
def acp:TD:= .one (.s true 3 [[lvi 0,lvi 0,lvi 2],[lvi 0,lvi 1,lvi 3],[lvi 1,lvi 1,lvi 9]])
def VF:TD:= .agg [lvi 2,lvi 2,.s true 1 [[lvi 0],[lvi 2],[lvi 3]],.s true 1 [[lvi 0],[lvi 1],[lvi 1]],.s true 1 [[lvi 2],[lvi 3],[lvi 9]]]
def Ic:TD:= .agg [lvi 2,lvi 2,.s true 1 [[lvi 0],[lvi 1]],.s true 1 [[lvi 0],[lvi 1],[lvi 3]],.s true 1 [[lvi 0],[lvi 0],[lvi 1]],.s true 1 [[lvi 2],[lvi 3],[lvi 9]]]
def OV:TD:= .agg [lvi 2,.s true 2 [[lvi 1,lvi 1]]]
def acq:TD:= .agg [lvi 2,.s true 2 [[lvi 0,lvi 4],[lvi 1,lvi 10]]]
end K
end Ev
end
noncomputable section
namespace Ev
open Go
mutual
def Fu:T→T→Bool
 | .v (.int k a),.v (.int k' b)=>decide (k=k')&& decide (a=b)
 | .v (.bool a),.v (.bool b)=>a==b
 | .s n z l,.s n' z' l'=>(n==n')&&(Nat.beq z z' && OW l l')
 |_,_=>false
def KV:List T→List T→Bool
 | [],[]=>true
 |a::l,b::m=>Fu a b && KV l m
 |_,_=>false
def OW:List (List T)→List (List T)→Bool
 | [],[]=>true
 |a::l,b::m=>KV a b && OW l m
 |_,_=>false
end
mutual
theorem No:∀(a b:T),Fu a b=true→a=b
 | .v x,.v y,h=>by
  cases x<;>cases y<;>first
   |(simp only [Fu,Bool.and_eq_true,decide_eq_true_eq]at h;obtain⟨rfl,rfl⟩:=h;rfl)
   |(simp only [Fu,beq_iff_eq]at h;subst h;rfl)
   |(simp [Fu]at h)
 | .v x,.s n z l,h=>by cases x<;>simp [Fu]at h
 | .s n z l,.v x,h=>by cases x<;>simp [Fu]at h
 | .s n z l,.s n' z' l',h=>by
  simp only [Fu,Bool.and_eq_true,beq_iff_eq]at h;obtain⟨rfl,h1,h2⟩:=h;obtain rfl:=Nat.eq_of_beq_eq_true h1;rw [Np l l' h2]
theorem Fv:∀(a b:List T),KV a b=true→a=b
 | [],[],_=>rfl
 | [],_::_,h=>by simp [KV]at h
 |_::_,[],h=>by simp [KV]at h
 |a::l,b::m,h=>by
  simp only [KV,Bool.and_eq_true]at h;rw [No a b h.1,Fv l m h.2]
theorem Np:∀(a b:List (List T)),OW a b=true→a=b
 | [],[],_=>rfl
 | [],_::_,h=>by simp [OW]at h
 |_::_,[],h=>by simp [OW]at h
 |a::l,b::m,h=>by
  simp only [OW,Bool.and_eq_true]at h;rw [Fv a b h.1,Np l m h.2]
end
def Sg:TD→TD→Bool
 | .one a,.one b=>Fu a b
 | .agg a,.agg b=>KV a b
 |_,_=>false
theorem Si{a b:TD}(h:Sg a b=true):a=b:=by
 cases a<;>cases b<;>simp only [Sg,Bool.false_eq_true]at h
 ·rw [No _ _ h]
 ·rw [Fv _ _ h]
def sO:List TD→List TD→Bool
 | [],[]=>true
 |a::l,b::m=>Sg a b && sO l m
 |_,_=>false
theorem Dq:∀{a b:List TD},sO a b=true→a=b
 | [],[],_=>rfl
 | [],_::_,h=>by simp [sO]at h
 |_::_,[],h=>by simp [sO]at h
 |a::l,b::m,h=>by
  simp only [sO,Bool.and_eq_true]at h;rw [Si h.1,Dq h.2]
def rS:List (List TD×Kind×List TD)→List TD→Option (Kind×List TD)
 | [],_=>none
 |e::r,vs=>cond (sO e.1 vs) (some e.2) (rS r vs)
theorem Nq{P:Program}{cp:dq}{k:FuncId}(hc:∀vs kind rs,cp k vs=some (kind,rs)→eo P k vs kind rs∧Enters P k):
  ∀(l:List (List TD×Kind×List TD)),(∀e∈l,cp k e.1=some e.2)→∀vs kind rs,rS l vs=some (kind,rs)→eo P k vs kind rs∧Enters P k
 | [],_,vs,kind,rs,h=>by simp [rS]at h
 |e::r,hl,vs,kind,rs,h=>by
  unfold rS at h
  cases hb:sO e.1 vs with
  |true=>
   rw [hb]at h;simp only [cond_true,zsI]at h;rw [←Dq hb];exact hc _ _ _ (by rw [hl e List.mem_cons_self,h])
  |false=>
   rw [hb]at h;exact Nq hc r (fun x hx=>hl x (List.mem_cons_of_mem _ hx)) vs kind rs h
end Ev
end
noncomputable section
namespace Ev
namespace K
open Go Go.RowKit
set_option maxRecDepth 100000
set_option maxHeartbeats 1000000
theorem adC:(dk E0 300 60).1 19 [.one (lvi 1),.one (lvi 2),.one (lvi 2),acp]=some (.fresh,[VF,.one (lvi 0)]):=by kernel_rfl
end K
end Ev
end
noncomputable section
namespace Ev
namespace K
open Go Go.RowKit
set_option maxRecDepth 100000
set_option maxHeartbeats 1000000
theorem adD:(dk E0 300 60).1 16 [VF]=some (.fresh,[Ic]):=by kernel_rfl
end K
end Ev
end
noncomputable section
namespace Ev
namespace K
open Go Go.RowKit
set_option maxRecDepth 100000
set_option maxHeartbeats 1000000
theorem adE:(dk E0 300 60).1 20 [.one (lvi 1),Ic,OV,.one (.s false 0 []),.one (bT true)]=some (.fresh,[acq,.one (lvi 0)]):=by kernel_rfl
end K
end Ev
end
noncomputable section
namespace Ev
namespace K
open Go Go.RowKit
set_option maxRecDepth 100000
set_option maxHeartbeats 1000000
theorem lv8:(dk E0 300 60).1 8 [.one (lvi 1),Ic,OV,.one (.s true 1 [[lvu 1]]),.one (bT false)]=some (.fresh,[.one (.s true 3 [[lvi 0,lvi 0,lvu 4]]),.one (lvi 0)]):=by kernel_rfl
end K
end Ev
end
noncomputable section
namespace Ev
namespace K
open Go Go.RowKit
set_option maxRecDepth 100000
set_option maxHeartbeats 1000000
theorem adF:(dk E0 300 60).1 21 [Ic,OV]=some (.fresh,[.one (lvi 2)]):=by kernel_rfl
end K
end Ev
end
noncomputable section
namespace Ev
namespace K
open Go Go.RowKit
set_option maxRecDepth 100000
set_option maxHeartbeats 1000000
theorem Sj{k:FuncId}{a b:List TD}(h:(dk E0 300 60).1 k a=some (.fresh,b)):∀vs kind rs,rS [(a,.fresh,b)] vs=some (kind,rs)→eo Try.prog k vs kind rs∧Ev.Enters Try.prog k:=Nq (cp:=(dk E0 300 60).1) (fun vs kind rs h=>(tr Xz 300 60).1 _ _ _ _ h) _ (List.forall_mem_cons.2 ⟨h,fun _ h=>by cases h⟩)
def acr:List (List TD×Kind×List TD):= [([.one (lvi 1),.one (lvi 2),.one (lvi 2),acp],.fresh,[VF,.one (lvi 0)])]
def acs:List (List TD×Kind×List TD):= [([VF],.fresh,[Ic])]
def act:List (List TD×Kind×List TD):= [([.one (lvi 1),Ic,OV,.one (.s false 0 []),.one (bT true)],.fresh,[acq,.one (lvi 0)])]
def adG:List (List TD×Kind×List TD):= [([.one (lvi 1),Ic,OV,.one (.s true 1 [[lvu 1]]),.one (bT false)],.fresh,[.one (.s true 3 [[lvi 0,lvi 0,lvu 4]]),.one (lvi 0)])]
def acu:List (List TD×Kind×List TD):= [([Ic,OV],.fresh,[.one (lvi 2)])]
def axV:Ax:=(fM (fM (fM (fM (fM wX 19 (rS acr)) 16 (rS acs)) 20 (rS act)) 8 (rS adG)) 21 (rS acu))
theorem Zv:AU Try.prog axV:=(bS (bS (bS (bS (bS od (Sj adC)) (Sj adD)) (Sj adE)) (Sj lv8)) (Sj adF))
def EV:Env:=uU Try.prog axV
theorem acv:EV.Ok:=oF sJ sK Zv
def Nr:List TD→Option (Kind×List TD)
 | []=>some (.fresh,[.one (.v (.bool true))])
 |_=>none
theorem VG{k:FuncId}(h:(dk EV 300 60).1 k []=some (.fresh,[.one (.v (.bool true))])):∀vs kind rs,Nr vs=some (kind,rs)→eo Try.prog k vs kind rs∧Ev.Enters Try.prog k:=fun vs kind rs hf=>by
 unfold Nr at hf;split at hf
 ·simp only [zsI,Prod.mk.injEq]at hf;obtain⟨rfl,rfl⟩:=hf;exact(tr acv 300 60).1 _ _ _ _ h
 ·simp at hf
theorem acw:(dk EV 300 60).1 6 []=some (.fresh,[.one (.v (.bool true))]):=by kernel_rfl
def E1:Env:=uU Try.prog (fM wX 6 Nr)
theorem dO:E1.Ok:=oF sJ sK (bS od (VG acw))
def FL6:vals []→Option Bool:=fun _=>some true
def acx:bA:=⟨6,[],.data true [(false,.B)],FL6,1⟩
theorem Zw:bj E1 acx:=fun m a out h=>by
 obtain rfl:=Option.some.inj h;exact jZ (F:=Nr) rfl rfl
def gl:vals Sm.Mg.ins→Option (vals Sm.Mg.outs):=Sm.Mg.fn
def Fw:bA:=⟨11,Sm.Mg.ins,.data true Sm.Mg.outs,gl,1⟩
theorem Ch:bj E1 Fw:=Ku rfl
theorem gS:UO E1 TT:=⟨tz1,⟨tz2,⟨tz3,⟨tz4,⟨tz5,⟨tz6,⟨tz7,⟨tz8,⟨XZ,⟨Ya,⟨Yb,⟨Yc,⟨Yd,⟨Ye,⟨Yf,⟨UX,⟨UY,⟨UZ,⟨Yg,⟨Vc,⟨Vd,⟨Yh,⟨Ve,⟨Yi,⟨Yj,⟨Vf,⟨Yk,⟨Yl,⟨Ym,⟨Yn,⟨Vg,⟨Yo,⟨Yp,⟨Yq,⟨Vh,⟨Yr,⟨Vi,⟨Ys,⟨Vj,⟨Yt,⟨Yu,⟨Vk,⟨Yv,⟨Yw,⟨Yx,⟨Yy,⟨Vm,⟨Yz,⟨YA,⟨YB,⟨YC,⟨YD,⟨YE,⟨Vn,⟨YF,⟨Vo,⟨YG,⟨Vp,⟨YH,⟨Vq,⟨YI,⟨YJ,⟨YK,⟨YL,⟨Vr,⟨YM,⟨YN,⟨YO,⟨YP,⟨YQ,⟨Vs,⟨YR,⟨YS,⟨YT,⟨YU,⟨YV,⟨YW,⟨YX,⟨YY,⟨YZ,⟨Za,⟨Zb,⟨Zc,⟨Zd,⟨Ze,⟨Zf,⟨Zg,⟨Zh,⟨Zi,⟨Zj,⟨Qp,⟨Qq,⟨Qr,⟨Qs,⟨Qt,⟨Qu,⟨Qv,⟨Qw,⟨Qx,⟨Qy,⟨Nc,⟨Qz,⟨Nd,⟨QA,⟨QB,⟨QC,⟨QD,⟨QE,⟨QF,⟨QG,⟨QI,⟨QJ,⟨QK,⟨QL,⟨QM,⟨QN,⟨QO,⟨QP,⟨QQ,⟨QR,⟨QS,⟨QU,⟨QV,⟨QW,⟨QX,⟨QY,⟨QZ,⟨Ra,⟨Rb,⟨Rc,⟨Rd,⟨Re,⟨Rf,⟨Rh,⟨Ri,⟨Rj,⟨Rk,⟨Rm,⟨Nf,⟨Rn,⟨Ro,⟨Rp,⟨Rq,⟨Rr,⟨Rs,⟨Rt,⟨Ru,⟨Rv,⟨Rw,⟨Rx,⟨Ry,⟨Rz,⟨RA,⟨RE,⟨RF,⟨RH,⟨RI,⟨RJ,⟨RK,⟨RL,⟨RM,⟨RN,trivial⟩⟩⟩⟩⟩⟩⟩⟩⟩⟩⟩⟩⟩⟩⟩⟩⟩⟩⟩⟩⟩⟩⟩⟩⟩⟩⟩⟩⟩⟩⟩⟩⟩⟩⟩⟩⟩⟩⟩⟩⟩⟩⟩⟩⟩⟩⟩⟩⟩⟩⟩⟩⟩⟩⟩⟩⟩⟩⟩⟩⟩⟩⟩⟩⟩⟩⟩⟩⟩⟩⟩⟩⟩⟩⟩⟩⟩⟩⟩⟩⟩⟩⟩⟩⟩⟩⟩⟩⟩⟩⟩⟩⟩⟩⟩⟩⟩⟩⟩⟩⟩⟩⟩⟩⟩⟩⟩⟩⟩⟩⟩⟩⟩⟩⟩⟩⟩⟩⟩⟩⟩⟩⟩⟩⟩⟩⟩⟩⟩⟩⟩⟩⟩⟩⟩⟩⟩⟩⟩⟩⟩⟩⟩⟩⟩⟩⟩⟩⟩⟩⟩⟩⟩⟩⟩⟩⟩⟩⟩⟩⟩⟩
theorem eG:UP E1.P EQS:=⟨XV Ng Nh,trivial⟩
theorem adH:E1.fn 16=some abB:=eE Try.func16 rfl
theorem adI:E1.fn 17=some abC:=eE Try.func17 rfl
theorem adJ:E1.fn 19=some abD:=eE Try.func19 rfl
theorem adK:E1.fn 37=some abH:=eE Try.func37 rfl
theorem adL:E1.fn 39=some abI:=eE Try.func39 rfl
theorem adM:E1.fn 42=some abJ:=eE Try.func42 rfl
theorem adN:E1.fn 44=some abK:=eE Try.func44 rfl
theorem adO:E1.fn 45=some abL:=eE Try.func45 rfl
theorem adP:E1.fn 46=some abM:=eE Try.func46 rfl
theorem adQ:E1.fn 47=some abN:=eE Try.func47 rfl
theorem adR:E1.fn 48=some abO:=eE Try.func48 rfl
theorem adS:E1.fn 50=some abP:=eE Try.func50 rfl
theorem adT:E1.fn 54=some abQ:=eE Try.func54 rfl
theorem adU:E1.fn 68=some abV:=eE Try.func68 rfl
theorem adV:E1.fn 74=some abW:=eE Try.func74 rfl
theorem Zx:E1.fn 75=some Vt:=eE Try.func75 rfl
theorem adW:E1.fn 77=some abX:=eE Try.func77 rfl
theorem adX:E1.fn 79=some abY:=eE Try.func79 rfl
theorem adY:E1.fn 80=some abZ:=eE Try.func80 rfl
theorem adZ:E1.fn 81=some ac0:=eE Try.func81 rfl
theorem ae0:E1.fn 88=some ac1:=eE Try.func88 rfl
theorem ae1:E1.fn 89=some ac2:=eE Try.func89 rfl
theorem ae2:E1.fn 95=some ac4:=eE Try.func95 rfl
theorem ae3:E1.fn 96=some ac5:=eE Try.func96 rfl
theorem ae4:E1.fn 97=some ac6:=eE Try.func97 rfl
end K
end Ev
end
noncomputable section
namespace Ev
namespace K
open Go Go.RowKit
set_option maxRecDepth 100000
set_option maxHeartbeats 1000000
def KW:dt:= []
def zy:KG:=⟨TT,EQS,[],[]⟩
def fP:vals [(false,.I .i64)]→Option (OutK.val (.data true [(false,.B)])):=dJ zy KW abH 37 0 [(false,.I .i64)] (.data true [(false,.B)])
def oY:bA:=⟨37,[(false,.I .i64)],.data true [(false,.B)],fP,1⟩
def Ci:dt:= []
def rT:KG:=⟨TT,EQS,[],[]⟩
def hZ:vals [yD7,yD7]→Option (OutK.val (.data true [(false,.B)])):=dJ rT Ci abY 79 0 [yD7,yD7] (.data true [(false,.B)])
def rU:bA:=⟨79,[yD7,yD7],.data true [(false,.B)],hZ,1⟩
def KX:dt:= []
def zA:KG:=⟨TT,EQS,[],[]⟩
def jQ:vals [(false,.I .i64)]→Option (OutK.val (.data true [yD9])):=dJ zA KX abZ 80 0 [(false,.I .i64)] (.data true [yD9])
def zB:bA:=⟨80,[(false,.I .i64)],.data true [yD9],jQ,1⟩
def xX:dt:= []
def pO:KG:=⟨TT,EQS,[],[]⟩
def bK:vals [yD9,yD9]→Option (OutK.val (.data true [(false,.I .i64)])):=dJ pO xX ac5 96 0 [yD9,yD9] (.data true [(false,.I .i64)])
def pP:bA:=⟨96,[yD9,yD9],.data true [(false,.I .i64)],bK,1⟩
def Cj:dt:= []
def rV:KG:=⟨TT,EQS,[],[]⟩
def cW:vals [(false,.B)]→Option (OutK.val (.data true [yD9])):=dJ rV Cj ac6 97 0 [(false,.B)] (.data true [yD9])
def rW:bA:=⟨97,[(false,.B)],.data true [yD9],cW,1⟩
def Id:dt:= [(95,⟨[⟨true,3,5,[2,4,5],⟨[(6,false,[.d true (.I .i64)])],[],[]⟩,[(.normal,⟨[(6,false,[.d true (.I .i64)])],[],[]⟩)]⟩],[]⟩)]
def wY:KG:=⟨TT,EQS,[],[]⟩
def gK:vals [yD9,yD9]→Option (OutK.val (.data true [yD9])):=dJ wY Id ac4 95 0 [yD9,yD9] (.data true [yD9])
def wZ:bA:=⟨95,[yD9,yD9],.data true [yD9],gK,1⟩
def Ie:dt:= [(68,⟨[⟨true,3,9,[4,5,6,7],⟨[],[],[]⟩,[(.normal,⟨[(9,false,[.d true .B])],[],[]⟩)]⟩],[]⟩)]
def xb:KG:=⟨TT,EQS,[wZ,pP,rW],[]⟩
def iA:vals [(false,.I .i64),yD9,yD9]→Option (OutK.val (.data true [yD9])):=dJ xb Ie abV 68 0 [(false,.I .i64),yD9,yD9] (.data true [yD9])
def xd:bA:=⟨68,[(false,.I .i64),yD9,yD9],.data true [yD9],iA,2⟩
def zC:dt:= []
def qk:KG:=⟨TT,EQS,[],[]⟩
def gm:vals [yD9]→Option (OutK.val (.data true [(false,.I .i64),(false,.B)])):=dJ qk zC ac0 81 0 [yD9] (.data true [(false,.I .i64),(false,.B)])
def qn:bA:=⟨81,[yD9],.data true [(false,.I .i64),(false,.B)],gm,1⟩
def xY:dt:= [(50,⟨[⟨false,6,0,[0,1],⟨[(6,false,[.m (.C (.I .i64) (.C (.I .i64) (.I .i64)))]),(7,false,[.m (.C (.I .i64) (.I .u64))]),(8,false,[.d true (.I .i64)])],[],[]⟩,[(.exit 0,⟨[(6,false,[.m (.C (.I .i64) (.C (.I .i64) (.I .i64)))]),(7,false,[.m (.C (.I .i64) (.I .u64))])],[],[]⟩)]⟩,⟨false,9,0,[0,1,6,7,8],⟨[(9,false,[.d true (.I .i64)])],[],[]⟩,[(.exit 2,⟨[(9,false,[.d true (.I .i64)])],[],[]⟩)]⟩,⟨false,17,0,[0,1,6,7,8,9,10],⟨[(11,false,[.d true (.I .i64)])],[],[(.sl 6 0,.C (.I .i64) (.C (.I .i64) (.I .i64))),(.sl 7 0,.C (.I .i64) (.I .u64))]⟩,[(.exit 4,⟨[],[],[(.sl 6 0,.C (.I .i64) (.C (.I .i64) (.I .i64))),(.sl 7 0,.C (.I .i64) (.I .u64))]⟩)]⟩,⟨false,24,0,[7],⟨[(6,false,[.m (.C (.I .i64) (.C (.I .i64) (.I .i64)))]),(12,false,[.d true (.I .i64)])],[],[]⟩,[(.exit 6,⟨[(6,false,[.m (.C (.I .i64) (.C (.I .i64) (.I .i64)))])],[],[]⟩),(.ret,⟨[(4,false,[.m (.C (.I .i64) (.C (.I .i64) (.I .i64)))]),(5,false,[.d true (.I .i64)])],[],[]⟩)]⟩],[(13,⟨[[],[],[],[],[],[],[],[],[],[],[.sl 7 0]],[(false,[]),(false,[]),(false,[]),(false,[]),(false,[]),(false,[]),(false,[]),(false,[]),(false,[]),(false,[]),(false,[])]⟩),(21,⟨[[],[],[],[],[],[],[],[],[],[],[],[],[],[],[.sl 6 0]],[(false,[]),(false,[]),(false,[]),(false,[]),(false,[]),(false,[]),(false,[]),(false,[]),(false,[]),(false,[]),(false,[]),(false,[]),(false,[]),(false,[]),(false,[])]⟩)]⟩)]
def pQ:KG:=⟨TT,EQS,[oY,xd,rU,zB,qn],[]⟩
def ct:vals [(false,.I .i64),yD5]→Option (OutK.val (.data true [yD5,(false,.I .i64)])):=dJ pQ xY abP 50 0 [(false,.I .i64),yD5] (.data true [yD5,(false,.I .i64)])
def lN:bA:=⟨50,[(false,.I .i64),yD5],.data true [yD5,(false,.I .i64)],ct,3⟩
def Ck:dt:= [(48,⟨[⟨false,3,0,[0,2,6,7],⟨[(8,false,[.d true (.I .i64)])],[(7,[.d true (.I .i64),.d true (.I .i64),.o (.I .i64),.m (.I .i64),.m (.I .i64)])],[]⟩,[(.exit 0,⟨[],[(7,[.d true (.I .i64),.d true (.I .i64),.o (.I .i64),.m (.I .i64),.m (.I .i64)])],[]⟩)]⟩,⟨false,8,0,[0,2,6,7,8],⟨[(9,false,[.d true (.I .i64)])],[],[(.bx 7 2,.I .i64)]⟩,[(.exit 2,⟨[],[],[(.bx 7 2,.I .i64)]⟩)]⟩],[(5,⟨[[],[],[],[],[],[],[],[],[.bx 7 3],[],[.sl 7 0]],[(false,[]),(false,[]),(false,[]),(false,[]),(false,[]),(false,[]),(false,[]),(true,[]),(true,[]),(false,[]),(false,[])]⟩),(6,⟨[[],[],[],[],[],[],[],[],[.bx 7 4],[],[.sl 7 0]],[(false,[]),(false,[]),(false,[]),(false,[]),(false,[]),(false,[]),(false,[]),(true,[]),(true,[]),(false,[]),(false,[])]⟩)]⟩)]
def rX:KG:=⟨TT,EQS,[],[(75,Vt)]⟩
def fw:vals [(false,.I .i64),(false,.I .i64),yD5]→Option (OutK.val (.data true [yD2])):=dJ rX Ck abO 48 6 [(false,.I .i64),(false,.I .i64),yD5] (.data true [yD2])
def kP:bA:=⟨48,[(false,.I .i64),(false,.I .i64),yD5],.data true [yD2],fw,7⟩
def KY:dt:= [(19,⟨[⟨false,9,0,[0,1,2,3,8],⟨[(10,false,[.m (.C (.I .i64) (.C (.I .i64) (.I .i64)))]),(11,false,[.d true (.I .i64)])],[(8,[.d true (.I .i64),.d true (.I .i64),.m (.I .i64),.m (.I .i64),.m (.I .i64)])],[]⟩,[(.exit 0,⟨[(10,false,[.m (.C (.I .i64) (.C (.I .i64) (.I .i64)))])],[(8,[.d true (.I .i64),.d true (.I .i64),.m (.I .i64),.m (.I .i64),.m (.I .i64)])],[]⟩),(.ret,⟨[(9,false,[.d true (.I .i64)])],[(8,[.d true (.I .i64),.d true (.I .i64),.m (.I .i64),.m (.I .i64),.m (.I .i64)])],[]⟩)]⟩,⟨false,19,0,[1,2,8,10],⟨[(13,false,[.m (.C (.I .i64) (.C (.I .i64) (.I .i64)))]),(14,false,[.d true (.I .i64)])],[],[]⟩,[(.exit 2,⟨[(13,false,[.m (.C (.I .i64) (.C (.I .i64) (.I .i64)))])],[],[]⟩)]⟩],[(13,⟨[[],[],[],[],[],[],[],[],[],[],[],[],[],[],[],[],[],[],[.sl 10 0],[]],[(false,[]),(false,[]),(false,[]),(false,[]),(false,[]),(false,[]),(false,[]),(false,[]),(false,[]),(false,[]),(false,[]),(false,[]),(false,[]),(false,[]),(false,[]),(false,[]),(false,[]),(true,[]),(true,[]),(false,[])]⟩),(21,⟨[[],[],[],[],[],[],[],[],[],[],[],[],[],[],[],[],[],[],[.sl 13 0],[]],[(false,[]),(false,[]),(false,[]),(false,[]),(false,[]),(false,[]),(false,[]),(false,[]),(false,[]),(false,[]),(false,[]),(false,[]),(false,[]),(false,[]),(false,[]),(false,[]),(false,[]),(true,[]),(true,[]),(false,[])]⟩)]⟩)]
def zD:KG:=⟨TT,EQS,[oY,kP,lN],[]⟩
def ln:vals [(false,.I .i64),(false,.I .i64),(false,.I .i64),yD5]→Option (OutK.val (.data true [yD2,(false,.I .i64)])):=dJ zD KY abD 19 0 [(false,.I .i64),(false,.I .i64),(false,.I .i64),yD5] (.data true [yD2,(false,.I .i64)])
def zE:bA:=⟨19,[(false,.I .i64),(false,.I .i64),(false,.I .i64),yD5],.data true [yD2,(false,.I .i64)],ln,8⟩
def Cl:dt:= [(77,⟨[⟨false,6,0,[1],⟨[(3,false,[.d true (.I .i64)])],[],[]⟩,[(.exit 0,⟨[],[],[]⟩),(.ret,⟨[(2,false,[.d true .B])],[],[]⟩)]⟩,⟨false,11,0,[1,3],⟨[(4,false,[.d true (.I .i64)])],[],[]⟩,[(.exit 2,⟨[],[],[]⟩),(.ret,⟨[(2,false,[.d true .B])],[],[]⟩)]⟩],[]⟩)]
def rY:KG:=⟨TT,EQS,[],[]⟩
def eL:vals [yD2]→Option (OutK.val (.data true [(false,.B)])):=dJ rY Cl abX 77 0 [yD2] (.data true [(false,.B)])
def rZ:bA:=⟨77,[yD2],.data true [(false,.B)],eL,1⟩
def Fx:dt:= []
def ug:KG:=⟨TT,EQS,[rZ],[(75,Vt)]⟩
def ew:vals [yD2]→Option (OutK.val (.data false [yD2])):=dJ ug Fx abM 46 6 [yD2] (.data false [yD2])
def jR:bA:=⟨46,[yD2],.data false [yD2],ew,8⟩
def xZ:dt:= [(47,⟨[⟨false,4,0,[1],⟨[(3,false,[.m (.C (.I .i64) (.C (.I .i64) (.I .i64)))]),(4,false,[.d true (.I .i64)])],[],[]⟩,[(.exit 0,⟨[(3,false,[.m (.C (.I .i64) (.C (.I .i64) (.I .i64)))])],[],[]⟩)]⟩,⟨false,7,0,[1,4],⟨[(3,false,[.m (.C (.I .i64) (.C (.I .i64) (.I .i64)))]),(5,false,[.d true (.I .i64)])],[],[]⟩,[(.exit 2,⟨[(3,false,[.m (.C (.I .i64) (.C (.I .i64) (.I .i64)))])],[],[]⟩)]⟩],[(9,⟨[[],[],[],[],[],[],[],[],[],[],[],[],[],[],[.sl 3 0],[]],[(false,[]),(false,[]),(false,[]),(false,[]),(false,[]),(false,[]),(false,[]),(false,[]),(false,[]),(false,[]),(false,[]),(false,[]),(false,[]),(true,[]),(true,[]),(false,[])]⟩)]⟩)]
def pR:KG:=⟨TT,EQS,[jR],[]⟩
def fH:vals [yD2]→Option (OutK.val (.mown (.C (.I .i64) (.C (.I .i64) (.I .i64))))):=dJ pR xZ abN 47 0 [yD2] (.mown (.C (.I .i64) (.C (.I .i64) (.I .i64))))
def lP:bA:=⟨47,[yD2],.mown (.C (.I .i64) (.C (.I .i64) (.I .i64))),fH,9⟩
def Fy:dt:= [(44,⟨[⟨false,5,0,[1,2,3],⟨[(4,false,[.m (.C (.I .i64) (.C (.I .i64) (.I .i64)))]),(5,false,[.d true (.I .i64)])],[],[]⟩,[(.exit 0,⟨[(4,false,[.m (.C (.I .i64) (.C (.I .i64) (.I .i64)))])],[],[]⟩)]⟩,⟨false,8,0,[1,2,3,5],⟨[(4,false,[.m (.C (.I .i64) (.C (.I .i64) (.I .i64)))]),(6,false,[.d true (.I .i64)])],[],[]⟩,[(.exit 2,⟨[(4,false,[.m (.C (.I .i64) (.C (.I .i64) (.I .i64)))])],[],[]⟩)]⟩],[(11,⟨[[],[],[],[],[],[],[],[],[],[],[],[],[],[],[.sl 4 0],[]],[(false,[]),(false,[]),(false,[]),(false,[]),(false,[]),(false,[]),(false,[]),(false,[]),(false,[]),(false,[]),(false,[]),(false,[]),(false,[]),(true,[]),(true,[]),(false,[])]⟩)]⟩)]
def uh:KG:=⟨TT,EQS,[jR,lP,kP],[]⟩
def kr:vals [yD2]→Option (OutK.val (.data true [yD2])):=dJ uh Fy abK 44 0 [yD2] (.data true [yD2])
def ui:bA:=⟨44,[yD2],.data true [yD2],kr,10⟩
def If:dt:= [(45,⟨[⟨false,6,0,[1,2],⟨[(5,false,[.m (.C (.I .i64) (.I .i64))]),(6,false,[.d true (.I .i64)])],[],[]⟩,[(.exit 0,⟨[(5,false,[.m (.C (.I .i64) (.I .i64))])],[],[]⟩)]⟩],[(8,⟨[[],[],[],[],[],[],[],[],[],[],[],[],[],[.sl 5 0],[]],[(false,[]),(false,[]),(false,[]),(false,[]),(false,[]),(false,[]),(false,[]),(false,[]),(false,[]),(false,[]),(false,[]),(false,[]),(true,[]),(true,[]),(false,[])]⟩)]⟩)]
def xe:KG:=⟨TT,EQS,[jR],[]⟩
def mr:vals [yD2,(false,.I .i64)]→Option (OutK.val (.mown (.C (.I .i64) (.I .i64)))):=dJ xe If abL 45 0 [yD2,(false,.I .i64)] (.mown (.C (.I .i64) (.I .i64)))
def xf:bA:=⟨45,[yD2,(false,.I .i64)],.mown (.C (.I .i64) (.I .i64)),mr,9⟩
def KZ:dt:= [(16,⟨[⟨false,4,0,[2,3,4],⟨[(5,false,[.d true (.I .i64)])],[(4,[.d true (.I .i64),.d true (.I .i64),.m (.I .i64),.o (.I .i64),.m (.I .i64),.m (.I .i64)])],[]⟩,[(.exit 0,⟨[],[(4,[.d true (.I .i64),.d true (.I .i64),.m (.I .i64),.o (.I .i64),.m (.I .i64),.m (.I .i64)])],[]⟩)]⟩,⟨false,10,0,[2,3,4,5,6],⟨[(7,false,[.d true (.I .i64)])],[(4,[.d true (.I .i64),.d true (.I .i64),.o (.I .i64),.o (.I .i64),.m (.I .i64),.m (.I .i64)])],[]⟩,[(.exit 2,⟨[],[(4,[.d true (.I .i64),.d true (.I .i64),.o (.I .i64),.o (.I .i64),.m (.I .i64),.m (.I .i64)])],[]⟩)]⟩],[(12,⟨[[],[],[],[],[],[],[],[],[.bx 4 4],[],[.sl 4 0]],[(false,[]),(false,[]),(false,[]),(false,[]),(false,[]),(false,[]),(false,[]),(true,[]),(true,[]),(false,[]),(false,[])]⟩),(13,⟨[[],[],[],[],[],[],[],[],[.bx 4 5],[],[.sl 4 0]],[(false,[]),(false,[]),(false,[]),(false,[]),(false,[]),(false,[]),(false,[]),(true,[]),(true,[]),(false,[]),(false,[])]⟩)]⟩)]
def zF:KG:=⟨TT,EQS,[ui,xf],[]⟩
def fx:vals [yD2]→Option (OutK.val (.data true [yD1])):=dJ zF KZ abB 16 0 [yD2] (.data true [yD1])
def La:bA:=⟨16,[yD2],.data true [yD1],fx,11⟩
def Ig:dt:= []
def xg:KG:=⟨TT,EQS,[],[]⟩
def ku:vals [(false,.I .i64)]→Option (OutK.val (.data true [(false,.B)])):=dJ xg Ig ac1 88 0 [(false,.I .i64)] (.data true [(false,.B)])
def xh:bA:=⟨88,[(false,.I .i64)],.data true [(false,.B)],ku,1⟩
def Fz:dt:= [(89,⟨[⟨false,3,0,[1,8,9],⟨[(5,false,[.d true (.I .i64)]),(10,false,[.d true (.I .i64)])],[],[]⟩,[(.exit 0,⟨[],[],[]⟩),(.ret,⟨[(4,false,[.d true .B])],[],[]⟩)]⟩],[]⟩)]
def uj:KG:=⟨TT,EQS,[],[]⟩
def jk:vals [(false,.S (.I .i64)),(false,.I .i64)]→Option (OutK.val (.data true [(false,.B)])):=dJ uj Fz ac2 89 0 [(false,.S (.I .i64)),(false,.I .i64)] (.data true [(false,.B)])
def uk:bA:=⟨89,[(false,.S (.I .i64)),(false,.I .i64)],.data true [(false,.B)],jk,1⟩
def FA:dt:= [(54,⟨[⟨false,7,0,[1,3,67],⟨[(68,false,[.d true (.I .i64)])],[],[]⟩,[(.exit 0,⟨[],[],[]⟩),(.ret,⟨[(2,false,[.d true .B])],[],[]⟩)]⟩],[]⟩)]
def um:KG:=⟨TT,EQS,[xh,uk],[]⟩
def eT:vals [yD1]→Option (OutK.val (.data true [(false,.B)])):=dJ um FA abQ 54 0 [yD1] (.data true [(false,.B)])
def uq:bA:=⟨54,[yD1],.data true [(false,.B)],eT,2⟩
def Ih:dt:= []
def Ii:KG:=⟨TT,EQS,[uq],[]⟩
def jv:vals [yD1]→Option (OutK.val (.data false [yD1])):=dJ Ii Ih adc 23 0 [yD1] (.data false [yD1])
def ya:dt:= []
def yb:KG:=⟨TT,EQS,[],[]⟩
def cI:vals [(false,.I .u64),(false,.I .u64)]→Option (OutK.val (.data true [yD3])):=dJ yb ya adr 91 0 [(false,.I .u64),(false,.I .u64)] (.data true [yD3])
def yc:bA:=⟨91,[(false,.I .u64),(false,.I .u64)],.data true [yD3],cI,1⟩
def Ij:dt:= []
def Ik:KG:=⟨TT,EQS,[],[]⟩
def fk:vals [yD9,(false,.I .i64)]→Option (OutK.val (.data true [yD9])):=dJ Ik Ij ads 92 0 [yD9,(false,.I .i64)] (.data true [yD9])
def Il:bA:=⟨92,[yD9,(false,.I .i64)],.data true [yD9],fk,1⟩
def Lb:dt:= [(61,⟨[⟨true,5,5,[0,1,4,6],⟨[],[(6,[.d true (.I .i64),.d true (.I .u64)])],[]⟩,[(.normal,⟨[],[(6,[.d true (.I .i64),.d true (.I .u64)])],[]⟩)]⟩],[(3,⟨[[],[],[],[],[],[],[.sl 6 0]],[(false,[]),(false,[]),(false,[]),(false,[]),(false,[]),(false,[]),(false,[])]⟩),(4,⟨[[],[],[],[],[],[],[.sl 6 0]],[(false,[]),(false,[]),(false,[]),(false,[]),(false,[]),(false,[]),(false,[])]⟩)]⟩)]
def Lc:KG:=⟨TT,EQS,[oS,yc,Il],[]⟩
def ia:vals [(false,.I .i64),(false,.I .i64)]→Option (OutK.val (.data true [yD9])):=dJ Lc Lb adm 61 0 [(false,.I .i64),(false,.I .i64)] (.data true [yD9])
def Ld:bA:=⟨61,[(false,.I .i64),(false,.I .i64)],.data true [yD9],ia,2⟩
def Lf:dt:= [(26,⟨[⟨true,2,57,[6,7],⟨[(1,false,[.d true (.I .i64)]),(2,false,[.d true (.I .i64)])],[(6,[.d true (.I .i64),.d true (.I .u64)])],[]⟩,[(.exit 5,⟨[(1,false,[.d true (.I .i64)]),(2,false,[.d true (.I .i64)])],[(6,[.d true (.I .i64),.d true (.I .u64)])],[]⟩),(.exit 0,⟨[],[(6,[.d true (.I .i64),.d true (.I .u64)])],[]⟩),(.ret,⟨[],[(6,[.d true (.I .i64),.d true (.I .u64)])],[]⟩),(.normal,⟨[(1,false,[.d true (.I .i64)]),(2,false,[.d true (.I .i64)])],[(6,[.d true (.I .i64),.d true (.I .u64)])],[]⟩)]⟩],[]⟩)]
def Lg:KG:=⟨TT,EQS,[vL,nF,oS,oT,Ld],[]⟩
def jS:vals [(false,.I .i64),(false,.I .i64),(false,.I .i64)]→Option (OutK.val (.data true [yD9])):=dJ Lg Lf adf 26 0 [(false,.I .i64),(false,.I .i64),(false,.I .i64)] (.data true [yD9])
def zG:dt:= []
def zH:KG:=⟨TT,EQS,[],[]⟩
def eH:vals [(false,.S (.I .u64)),(false,.I .i64)]→Option (OutK.val (.data true [(false,.B)])):=dJ zH zG adn 62 0 [(false,.S (.I .u64)),(false,.I .i64)] (.data true [(false,.B)])
def zI:bA:=⟨62,[(false,.S (.I .u64)),(false,.I .i64)],.data true [(false,.B)],eH,1⟩
def Im:dt:= []
def In:KG:=⟨TT,EQS,[],[]⟩
def gL:vals [(false,.I .i64)]→Option (OutK.val (.data true [(false,.I .u64)])):=dJ In Im ado 63 0 [(false,.I .i64)] (.data true [(false,.I .u64)])
def Io:bA:=⟨63,[(false,.I .i64)],.data true [(false,.I .u64)],gL,1⟩
def Ip:dt:= []
def Iq:KG:=⟨TT,EQS,[zI,Io],[]⟩
def gM:vals [(false,.S (.I .u64)),(false,.I .i64)]→Option (OutK.val (.data true [(false,.B)])):=dJ Iq Ip adg 28 0 [(false,.S (.I .u64)),(false,.I .i64)] (.data true [(false,.B)])
def Cm:dt:= [(78,⟨[⟨false,4,0,[1],⟨[(3,false,[.d true (.I .i64)])],[],[]⟩,[(.exit 0,⟨[],[],[]⟩),(.ret,⟨[(2,false,[.d true .B])],[],[]⟩)]⟩],[]⟩)]
def Cn:KG:=⟨TT,EQS,[],[]⟩
def dW:vals [yD6]→Option (OutK.val (.data true [(false,.B)])):=dJ Cn Cm adq 78 0 [yD6] (.data true [(false,.B)])
def Co:bA:=⟨78,[yD6],.data true [(false,.B)],dW,1⟩
def FC:dt:= []
def FD:KG:=⟨TT,EQS,[Co],[]⟩
def eU:vals [yD6]→Option (OutK.val (.data false [yD6])):=dJ FD FC adk 49 0 [yD6] (.data false [yD6])
def FE:bA:=⟨49,[yD6],.data false [yD6],eU,2⟩
def vS:dt:= [(10,⟨[⟨false,4,0,[0,1],⟨[(5,false,[.d true (.I .i64)])],[],[]⟩,[(.exit 0,⟨[],[],[]⟩),(.ret,⟨[(4,false,[.d true .B])],[],[]⟩)]⟩],[]⟩)]
def vU:KG:=⟨TT,EQS,[],[]⟩
def cJ:vals [yD4,yD4]→Option (OutK.val (.data true [(false,.B)])):=dJ vU vS ad7 10 0 [yD4,yD4] (.data true [(false,.B)])
def Cp:dt:= []
def Cq:KG:=⟨TT,EQS,[],[]⟩
def cX:vals [(false,.I .i64)]→Option (OutK.val (.data true [(false,.I .i64)])):=dJ Cq Cp ad8 13 0 [(false,.I .i64)] (.data true [(false,.I .i64)])
def sa:bA:=⟨13,[(false,.I .i64)],.data true [(false,.I .i64)],cX,1⟩
def FF:dt:= []
def ur:KG:=⟨TT,EQS,[],[]⟩
def dL:vals [(false,.I .u8)]→Option (OutK.val (.data true [(false,.I .i64)])):=dJ ur FF abJ 42 0 [(false,.I .u8)] (.data true [(false,.I .i64)])
def oZ:bA:=⟨42,[(false,.I .u8)],.data true [(false,.I .i64)],dL,1⟩
def Ir:dt:= []
def xi:KG:=⟨TT,EQS,[],[]⟩
def mt:vals [yD5]→Option (OutK.val (.data false [yD5])):=dJ xi Ir abW 74 0 [yD5] (.data false [yD5])
def xj:bA:=⟨74,[yD5],.data false [yD5],mt,1⟩
def FG:dt:= [(39,⟨[⟨false,5,0,[1,4,5,6],⟨[(7,false,[.m (.C (.I .i64) (.C (.I .i64) (.I .i64)))]),(8,false,[.d true (.I .i64)])],[],[]⟩,[(.exit 0,⟨[(7,false,[.m (.C (.I .i64) (.C (.I .i64) (.I .i64)))])],[],[]⟩)]⟩],[]⟩)]
def ut:KG:=⟨TT,EQS,[zE,oZ,xj],[(75,Vt)]⟩
def fI:vals [Zk,yD5]→Option (OutK.val (.data true [yD2])):=dJ ut FG abI 39 6 [Zk,yD5] (.data true [yD2])
def uv:bA:=⟨39,[Zk,yD5],.data true [yD2],fI,15⟩
def Cr:dt:= []
def Cs:KG:=⟨TT,EQS,[],[]⟩
def cY:vals [(false,.I .i64),(false,.I .i64)]→Option (OutK.val (.data true [(false,.I .i64)])):=dJ Cs Cr adj 43 0 [(false,.I .i64),(false,.I .i64)] (.data true [(false,.I .i64)])
def sb:bA:=⟨43,[(false,.I .i64),(false,.I .i64)],.data true [(false,.I .i64)],cY,1⟩
def zJ:dt:= []
def zK:KG:=⟨TT,EQS,[sb],[]⟩
def dA:vals [(false,.I .i64),(false,.I .i64)]→Option (OutK.val (.data true [(false,.I .i64)])):=dJ zK zJ adh 40 0 [(false,.I .i64),(false,.I .i64)] (.data true [(false,.I .i64)])
def zL:bA:=⟨40,[(false,.I .i64),(false,.I .i64)],.data true [(false,.I .i64)],dA,2⟩
def rG:dt:= [(14,⟨[⟨false,5,0,[2,3,4],⟨[(5,false,[.m (.I .i64)]),(6,false,[.d true (.I .i64)])],[],[]⟩,[(.exit 0,⟨[(5,false,[.m (.I .i64)])],[],[]⟩)]⟩],[]⟩)]
def rH:KG:=⟨TT,EQS,[sa,uv,zL],[]⟩
def cE:vals [yD0]→Option (OutK.val (.data true [yD2])):=dJ rH rG ad9 14 0 [yD0] (.data true [yD2])
def Lh:dt:= [(76,⟨[⟨false,7,0,[0,1,2,6],⟨[(8,false,[.m (.C (.I .i64) (.C (.I .i64) (.I .i64)))]),(9,false,[.d true (.I .i64)])],[(6,[.d true (.I .i64),.m (.C (.I .i64) (.I .i64))])],[]⟩,[(.exit 0,⟨[(8,false,[.m (.C (.I .i64) (.C (.I .i64) (.I .i64)))])],[(6,[.d true (.I .i64),.m (.C (.I .i64) (.I .i64))])],[]⟩),(.ret,⟨[(7,false,[.d true (.I .i64)])],[(6,[.d true (.I .i64),.m (.C (.I .i64) (.I .i64))])],[]⟩)]⟩,⟨false,17,0,[6,8,11],⟨[(12,false,[.d true (.I .i64)])],[(11,[.d true (.I .i64),.m (.C (.I .i64) (.I .i64))])],[]⟩,[(.exit 2,⟨[],[(11,[.d true (.I .i64),.m (.C (.I .i64) (.I .i64))])],[]⟩)]⟩],[(11,⟨[[],[],[],[],[],[],[],[],[],[],[],[],[],[.sl 8 0],[]],[(false,[]),(false,[]),(false,[]),(false,[]),(false,[]),(false,[]),(false,[]),(false,[]),(false,[]),(false,[]),(false,[]),(false,[]),(true,[]),(true,[]),(false,[])]⟩),(19,⟨[[],[],[],[],[],[],[],[],[],[],[],[],[],[],[.bx 11 1],[],[.sl 11 0]],[(false,[]),(false,[]),(false,[]),(false,[]),(false,[]),(false,[]),(false,[]),(false,[]),(false,[]),(false,[]),(false,[]),(false,[]),(false,[]),(true,[]),(true,[]),(false,[]),(false,[])]⟩)]⟩)]
def Li:KG:=⟨TT,EQS,[oY,lN],[]⟩
def iY:vals [(false,.I .i64),(false,.I .i64),yD8]→Option (OutK.val (.data true [yD6,(false,.I .i64)])):=dJ Li Lh adp 76 0 [(false,.I .i64),(false,.I .i64),yD8] (.data true [yD6,(false,.I .i64)])
def Lj:bA:=⟨76,[(false,.I .i64),(false,.I .i64),yD8],.data true [yD6,(false,.I .i64)],iY,4⟩
def FH:dt:= [(41,⟨[⟨false,4,0,[1,4,5],⟨[(6,false,[.m (.C (.I .i64) (.I .i64))]),(7,false,[.d true (.I .i64)])],[],[]⟩,[(.exit 0,⟨[(6,false,[.m (.C (.I .i64) (.I .i64))])],[],[]⟩)]⟩],[(7,⟨[[],[],[],[],[],[],[],[],[],[],[],[],[],[],[],[.sl 6 0],[]],[(false,[]),(false,[]),(false,[]),(false,[]),(false,[]),(false,[]),(false,[]),(false,[]),(false,[]),(false,[]),(false,[]),(false,[]),(false,[]),(false,[]),(true,[]),(true,[]),(false,[])]⟩)]⟩)]
def FJ:KG:=⟨TT,EQS,[Lj],[]⟩
def go:vals [(false,.I .u8),yD8]→Option (OutK.val (.data true [yD6])):=dJ FJ FH adi 41 0 [(false,.I .u8),yD8] (.data true [yD6])
def FK:bA:=⟨41,[(false,.I .u8),yD8],.data true [yD6],go,5⟩
def rI:dt:= [(15,⟨[⟨false,4,0,[2,4,5],⟨[(6,false,[.m (.C (.I .i64) (.I .i64))]),(7,false,[.d true (.I .i64)])],[],[]⟩,[(.exit 0,⟨[(6,false,[.m (.C (.I .i64) (.I .i64))])],[],[]⟩)]⟩],[(6,⟨[[],[],[],[],[],[],[],[],[],[],[],[],[],[],[],[],[],[],[],[.sl 6 0],[]],[(false,[]),(false,[]),(false,[]),(false,[]),(false,[]),(false,[]),(false,[]),(false,[]),(false,[]),(false,[]),(false,[]),(false,[]),(false,[]),(false,[]),(false,[]),(false,[]),(false,[]),(false,[]),(true,[]),(true,[]),(false,[])]⟩)]⟩)]
def rJ:KG:=⟨TT,EQS,[sa,FK,oZ,sb],[]⟩
def cG:vals [yD0,yD8]→Option (OutK.val (.data true [yD6])):=dJ rJ rI ada 15 0 [yD0,yD8] (.data true [yD6])
def Iu:dt:= [(17,⟨[⟨false,7,0,[6,7,8,9,10,11],⟨[(12,false,[.m (.C (.I .i64) (.C (.I .i64) (.I .i64)))]),(13,false,[.d true (.I .i64)])],[],[]⟩,[(.exit 0,⟨[(12,false,[.m (.C (.I .i64) (.C (.I .i64) (.I .i64)))])],[],[]⟩)]⟩,⟨true,12,5,[6,7,8,9,10,12,15],⟨[(14,false,[.d true (.I .i64)])],[],[]⟩,[(.normal,⟨[(14,false,[.d true (.I .i64)])],[],[]⟩)]⟩,⟨true,14,5,[6,8,10,12,14],⟨[(15,false,[.d true (.I .i64)])],[],[]⟩,[(.normal,⟨[(15,false,[.d true (.I .i64)])],[],[]⟩)]⟩,⟨true,16,5,[6,14,15],⟨[(12,false,[.m (.C (.I .i64) (.C (.I .i64) (.I .i64)))])],[],[]⟩,[(.normal,⟨[(12,false,[.m (.C (.I .i64) (.C (.I .i64) (.I .i64)))])],[],[]⟩)]⟩],[(10,⟨[[],[],[],[],[],[],[],[],[],[],[],[],[],[],[],[],[],[],[],[],[],[],[.sl 12 0],[]],[(false,[]),(false,[]),(false,[]),(false,[]),(false,[]),(false,[]),(false,[]),(false,[]),(false,[]),(false,[]),(false,[]),(false,[]),(false,[]),(false,[]),(false,[]),(false,[]),(false,[]),(false,[]),(false,[]),(false,[]),(false,[]),(true,[]),(true,[]),(false,[])]⟩)]⟩)]
def xm:KG:=⟨TT,EQS,[jR,lP,kP],[]⟩
def fp:vals [yD2,OC,OC]→Option (OutK.val (.data true [yD2])):=dJ xm Iu abC 17 0 [yD2,OC,OC] (.data true [yD2])
def Iv:bA:=⟨17,[yD2,OC,OC],.data true [yD2],fp,10⟩
def FM:dt:= [(18,⟨[⟨false,7,0,[1,2,3,6,7],⟨[(8,false,[.d true (.I .i64)])],[(7,[.d true (.I .i64),.m (.C (.I .i64) (.I .i64))])],[]⟩,[(.exit 0,⟨[],[(7,[.d true (.I .i64),.m (.C (.I .i64) (.I .i64))])],[]⟩)]⟩],[(10,⟨[[],[],[],[],[],[],[],[],[],[],[],[],[],[],[],[],[],[],[.bx 7 1],[],[.sl 7 0]],[(false,[]),(false,[]),(false,[]),(false,[]),(false,[]),(false,[]),(false,[]),(false,[]),(false,[]),(false,[]),(false,[]),(false,[]),(false,[]),(false,[]),(false,[]),(false,[]),(false,[]),(true,[]),(true,[]),(false,[]),(false,[])]⟩)]⟩)]
def FN:KG:=⟨TT,EQS,[FE],[]⟩
def gp:vals [yD6,(false,.I .i64),(false,.I .i64)]→Option (OutK.val (.data true [yD6])):=dJ FN FM adb 18 0 [yD6,(false,.I .i64),(false,.I .i64)] (.data true [yD6])
end K
end Ev
end
noncomputable section
namespace Ev
namespace KM
open Go Go.RowKit
def gl(x:Int)(y:Sl (Sl (Int×(Int×Int)))):Option ((Sl (Int×(Int×Int)))×Int):=K.gl (x,y)
def FL6:Option (Bool):=K.FL6 ()
def fP(x:Int):Option (Bool):=K.fP x
def hZ(x:Int×Int×Int)(y:Int×Int×Int):Option (Bool):=K.hZ (x,y)
def jQ(x:Int):Option (Int×Int):=K.jQ x
def bK(x:Int×Int)(y:Int×Int):Option (Int):=K.bK (x,y)
def cW(x:Bool):Option (Int×Int):=K.cW x
def gK(x:Int×Int)(y:Int×Int):Option (Int×Int):=K.gK (x,y)
def iA(x:Int)(y:Int×Int)(z:Int×Int):Option (Int×Int):=K.iA (x,y,z)
def gm(x:Int×Int):Option (Int×Bool):=K.gm x
def ct(x:Int)(y:Sl (Int×Int×Int)):Option ((Sl (Int×Int×Int))×Int):=K.ct (x,y)
def fw(x:Int)(y:Int)(z:Sl (Int×Int×Int)):Option (Int×Int×Sl (Int)×Sl (Int)×Sl (Int)):=K.fw (x,y,z)
def ln(x:Int)(y:Int)(z:Int)(u:Sl (Int×Int×Int)):Option ((Int×Int×Sl (Int)×Sl (Int)×Sl (Int))×Int):=K.ln (x,y,z,u)
def eL(x:Int×Int×Sl (Int)×Sl (Int)×Sl (Int)):Option (Bool):=K.eL x
def ew(x:Int×Int×Sl (Int)×Sl (Int)×Sl (Int)):Option (Int×Int×Sl (Int)×Sl (Int)×Sl (Int)):=K.ew x
def fH(x:Int×Int×Sl (Int)×Sl (Int)×Sl (Int)):Option (List (Int×Int×Int)):=K.fH x
def kr(x:Int×Int×Sl (Int)×Sl (Int)×Sl (Int)):Option (Int×Int×Sl (Int)×Sl (Int)×Sl (Int)):=K.kr x
def mr(x:Int×Int×Sl (Int)×Sl (Int)×Sl (Int))(y:Int):Option (List (Int×Int)):=K.mr (x,y)
def fx(x:Int×Int×Sl (Int)×Sl (Int)×Sl (Int)):Option (Int×Int×Sl (Int)×Sl (Int)×Sl (Int)×Sl (Int)):=K.fx x
def ku(x:Int):Option (Bool):=K.ku x
def jk(x:Sl (Int))(y:Int):Option (Bool):=K.jk (x,y)
def eT(x:Int×Int×Sl (Int)×Sl (Int)×Sl (Int)×Sl (Int)):Option (Bool):=K.eT x
def jv(x:Int×Int×Sl (Int)×Sl (Int)×Sl (Int)×Sl (Int)):Option (Int×Int×Sl (Int)×Sl (Int)×Sl (Int)×Sl (Int)):=K.jv x
def cI(x:Int)(y:Int):Option (Int×Int×Int×Int):=K.cI (x,y)
def fk(x:Int×Int)(y:Int):Option (Int×Int):=K.fk (x,y)
def ia(x:Int)(y:Int):Option (Int×Int):=K.ia (x,y)
def jS(x:Int)(y:Int)(z:Int):Option (Int×Int):=K.jS (x,y,z)
def eH(x:Sl (Int))(y:Int):Option (Bool):=K.eH (x,y)
def gL(x:Int):Option (Int):=K.gL x
def gM(x:Sl (Int))(y:Int):Option (Bool):=K.gM (x,y)
def dW(x:Int×(Sl (Int×Int))):Option (Bool):=K.dW x
def eU(x:Int×(Sl (Int×Int))):Option (Int×(Sl (Int×Int))):=K.eU x
def cJ(x:Sl (Int×(Int×Int)))(y:Sl (Int×(Int×Int))):Option (Bool):=K.cJ (x,y)
def cX(x:Int):Option (Int):=K.cX x
def dL(x:Int):Option (Int):=K.dL x
def mt(x:Sl (Int×Int×Int)):Option (Sl (Int×Int×Int)):=K.mt x
def fI(x:Int×Int)(y:Sl (Int×Int×Int)):Option (Int×Int×Sl (Int)×Sl (Int)×Sl (Int)):=K.fI (x,y)
def cY(x:Int)(y:Int):Option (Int):=K.cY (x,y)
def dA(x:Int)(y:Int):Option (Int):=K.dA (x,y)
def cE(x:Int×(Int×Int)×(Sl (Int×Int×Int))×(Sl (Int×Int))×(Sl (Int×Int))×Sl (Int)×Bool):Option (Int×Int×Sl (Int)×Sl (Int)×Sl (Int)):=K.cE x
def iY(x:Int)(y:Int)(z:Sl (Int×Int)):Option ((Int×(Sl (Int×Int)))×Int):=K.iY (x,y,z)
def go(x:Int)(y:Sl (Int×Int)):Option (Int×(Sl (Int×Int))):=K.go (x,y)
def cG(x:Int×(Int×Int)×(Sl (Int×Int×Int))×(Sl (Int×Int))×(Sl (Int×Int))×Sl (Int)×Bool)(y:Sl (Int×Int)):Option (Int×(Sl (Int×Int))):=K.cG (x,y)
def fp(x:Int×Int×Sl (Int)×Sl (Int)×Sl (Int))(y:Int×Int)(z:Int×Int):Option (Int×Int×Sl (Int)×Sl (Int)×Sl (Int)):=K.fp (x,y,z)
def gp(x:Int×(Sl (Int×Int)))(y:Int)(z:Int):Option (Int×(Sl (Int×Int))):=K.gp (x,y,z)
end KM
end Ev
end
end Go.Proofs.Ytjjbpdldbdmoeaa
