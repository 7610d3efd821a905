/- Texts of a claim, joined. -/
import Derived.Test.YtjjbpdldbdmoeaaZR19
import Derived.Test.YtjjbpdldbdmoeaaZR5
import Derived.Test.YtjjbpdldbdmoeaaZR14
import Derived.Test.YtjjbpdldbdmoeaaZR16
import Derived.Test.YtjjbpdldbdmoeaaZR17
import Derived.Test.YtjjbpdldbdmoeaaZR18
import Derived.Test.YtjjbpdldbdmoeaaZR15
set_option linter.unusedVariables false
set_option linter.unusedSimpArgs false
namespace Go.Proofs.Ytjjbpdldbdmoeaa
noncomputable section
namespace Ev
open Go
end Ev
end
noncomputable section
namespace Ev
open Go
end Ev
end
noncomputable section
namespace Ev
open Go
structure DV(d:Dn)(n:Nat)(f:Nat→Option Int):Prop where
 num:d.1=(n:Int)
 le:n≤4096
 has:okS 1 d.2.1
 bits:qR d.2.1.l
 len:d.2.1.l.length=(n+63)/ 64
 vals:okS 1 d.2.2
 vl:d.2.2.l=pE n fun p=>(f p).getD 0
 at_:∀p,fL d.2.1.l p=(f p).isSome
 none_:∀p,n≤p→f p=none
 v64:∀p x,f p=some x→cH x
theorem DV.ok{d:Dn}{n:Nat}{f:Nat→Option Int}(h:DV d n f):OkD d:=by
 refine⟨h.has,h.bits,h.vals,fun x hx=> ?_,?_,?_⟩
 ·rw [h.vl]at hx;obtain⟨k,hk,rfl⟩:=Kf hx
  cases e:f k with
  |none=>simp [cH]
  |some y=>exact h.v64 k y e
 ·have:=h.len;have:=h.le;omega
 ·have:=h.le;rw [h.vl,ko];omega
theorem DV.right{d:Dn}{n:Nat}{f:Nat→Option Int}(h:DV d n f):il d=true:=by
 unfold il mS;rw [h.num,h.vl,ko];have hl:=h.le;have hw:=h.len;simp only [Bool.and_eq_true,decide_eq_true_eq,List.all_eq_true];refine⟨⟨sizeF_iff2.2 ⟨by omega,by omega⟩,by omega,fun p hp=> ?_⟩,trivial,fun i hi=> ?_⟩
 ·obtain⟨p0,p1⟩:=places_mem.1 hp;rw [h.at_]at p1;by_cases hlt:p.toNat<n
  ·omega
  ·rw [h.none_ _ (by omega)]at p1;simp at p1
 ·have hi':i<n:=by simpa using hi
  rw [rL _ hi',h.at_];cases f i<;>simp
theorem DV.den{d:Dn}{n:Nat}{f:Nat→Option Int}(h:DV d n f)(p:Int):lM d p=if 0≤p then f p.toNat else none:=by
 unfold lM;by_cases hp:0≤p
 ·rw [if_pos hp,h.at_]
  cases e:f p.toNat with
  |none=>simp
  |some y=>
   have hlt:p.toNat<n:=by
    by_cases hlt:p.toNat<n
    ·exact hlt
    ·rw [h.none_ _ (by omega)]at e;simp at e
   rw [if_pos ⟨hp,rfl⟩,h.vl,rL _ hlt,e];rfl
 ·rw [if_neg (fun e=>hp e.1),if_neg hp]
theorem DV.of{d:Dn}(h:OkD d)(hr:il d=true):DV d d.1.toNat fun p=>lM d (p:Int):=by
 obtain⟨h1,h2,h3,h4,h5⟩:=qT hr
 have hall:∀i,i<d.2.2.l.length→d.2.2.l.getD i 0=0∨fL d.2.1.l i=true:=fun i hi=>by
  unfold il at hr;simp only [Bool.and_eq_true,decide_eq_true_eq]at hr
  have:=all_range.1 hr.2.2 i hi
  simpa using this
 have hin:∀p,fL d.2.1.l p=true→(p:Int)<d.1:=fun p hp=>(h4 (p:Int) (places_mem.2 ⟨by omega,by simpa using hp⟩)).2
 have hden:∀p:Nat,lM d (p:Int)=if fL d.2.1.l p=true then some (d.2.2.l.getD p 0)else none:=fun p=>by
  unfold lM;simp only [Int.toNat_natCast];by_cases e:fL d.2.1.l p=true
  ·rw [if_pos ⟨by omega,e⟩,if_pos e]
  ·rw [if_neg (fun x=>e x.2),if_neg e]
 refine⟨by omega,by omega,h.has,h.bits,by omega,h.vals,?_,fun p=> ?_,fun p hp=> ?_,fun p x hx=> ?_⟩
 ·refine List.ext_getElem? fun i=> ?_;by_cases hi:i<d.1.toNat
  ·have hi2:i<d.2.2.l.length:=by omega
   rw [mT _ hi,hden,List.getElem?_eq_getElem hi2,←cm hi2];rcases hall i hi2 with e|e
   ·split
    ·rfl
    ·rw [e];rfl
   ·rw [if_pos e];rfl
  ·rw [List.getElem?_eq_none (by omega),List.getElem?_eq_none (by rw [ko];omega)]
 ·rw [hden];cases e:fL d.2.1.l p<;>simp
 ·rw [hden,if_neg (fun e=>by have:=hin p e;omega)]
 ·rw [hden]at hx;split at hx
  ·rename_i e;simp only [zsI]at hx;subst hx
   have:=hin p e
   have hp2:p<d.2.2.l.length:=by omega
   rw [cm hp2];exact h.v64 _ (List.getElem_mem hp2)
  ·simp at hx
theorem DV.congr{d:Dn}{n:Nat}{f g:Nat→Option Int}(h:DV d n f)(e:∀p,f p=g p):DV d n g:=by
 have:f=g:=funext e
 rw [←this];exact h
theorem Ks{v:Int×Sl It}(h:Ka v):∃d:Dn,jm v=some d∧DV d v.1.toNat fun p=>bS (p:Int) v.2.l:=by
 obtain⟨k,t⟩:=v;obtain⟨d,d1,d2,d3,d4,d5⟩:=Kg h
 have:=DV.of d2 d3
 rw [d4]at this;exact⟨d,d1,this.congr fun p=>d5 p⟩
theorem Qr{v:Int×Sl It}(h:okS 2 v.2)(hi:∀x∈v.2.l,cH x.2):Ka (fe v):=by
 refine⟨lL v,JY h,fun x hx=> ?_⟩;unfold fe at hx;split at hx
 ·exact hi x hx
 ·simp [gU]at hx
theorem DH{v:Int×Sl It}(h:okS 2 v.2)(hl:v.2.l.length≤9223372036854775807):jm v=jm (fe v):=by
 have e1:=jf v h hl;have e2:=jf (fe v) (JY h) (by have:=TH v;omega);have e3:fe (fe v)=fe v:=GW (lL v);rw [e3]at e2;obtain⟨n,s⟩:=v;generalize fe (n,s)=u at e1 e2;obtain⟨m,t⟩:=u;unfold jm;simp only [e1,e2]
theorem Hb{v:Int×Sl It}(h:okS 2 v.2)(hl:v.2.l.length≤9223372036854775807)(hi:∀x∈v.2.l,cH x.2):∃d:Dn,jm v=some d∧DV d (fe v).1.toNat fun p=>bS (p:Int) (fe v).2.l:=by
 rw [DH h hl];exact Ks (Qr h hi)
end Ev
end
noncomputable section
namespace Ev
open Go
end Ev
end
noncomputable section
namespace Ev
open Go
theorem aaR(a b:E3):KM.bel a b=bel a b:=by rw [Bool.eq_iff_iff,KM.bel_iff,bel_iff]
theorem rises_km{l:List E3}:KM.dM l↔dM l:=by
 have e:(fun a b:E3=>KM.bel a b=true)=fun a b=>bel a b=true:=by funext a b;rw [aaR]
 show List.Pairwise (fun a b:E3=>KM.bel a b=true) l↔List.Pairwise (fun a b:E3=>bel a b=true) l;rw [e]
section
variable {m : Mx} {n k : Int} {l : List E3}
theorem Ud(h:KM.Is m n k l)(i:Nat):dS m i=dS (nV n k l) i:=by
 have e3:m.2.2.1.l=(nV n k l).2.2.1.l:=h.e3;have e4:m.2.2.2.1.l=(nV n k l).2.2.2.1.l:=by rw [h.e4];exact(kI _ _).symm
 have e5:m.2.2.2.2.l=(nV n k l).2.2.2.2.l:=by rw [h.e5];exact(kI _ _).symm
 unfold dS;rw [e3,e4,e5]
theorem adH(h:KM.Is m n k l):OkM m:=by
 have g:=h.ok;exact⟨g.st,g.co,g.va,g.v64,g.sl,g.cl,g.vl⟩
theorem Ue(h:KM.Is m n k l):cI m=true:=by
 have:=AD h.hn h.hc h.len (rises_km.1 h.r) h.p
 have e3:m.2.2.1.l=(nV n k l).2.2.1.l:=h.e3;have e4:m.2.2.2.1.l=(nV n k l).2.2.2.1.l:=by rw [h.e4];exact(kI _ _).symm
 have e5:m.2.2.2.2.l=(nV n k l).2.2.2.2.l:=by rw [h.e5];exact(kI _ _).symm
 have e1:m.1=(nV n k l).1:=h.e1;have e2:m.2.1=(nV n k l).2.1:=h.e2;unfold cI gQ at this ⊢;rw [e1,e2,e3,e4,e5];exact this
end
def nl{α:Type}(n:Nat)(f:Nat→α):List α:=(List.range n).map f
theorem oL{α:Type}(n:Nat)(f:Nat→α):(nl n f).length=n:=by unfold nl;simp
theorem qX{α:Type}{n k:Nat}(f:Nat→α)(h:k<n):(nl n f)[k]? =some (f k):=by
 unfold nl;rw [List.getElem?_map,List.getElem?_range h];rfl
theorem Oz{α:Type}{n k:Nat}(f:Nat→α)(h:k<n):atL (nl n f) (k:Int)=some (f k):=by
 unfold atL;rw [if_pos (by omega),Int.toNat_natCast,qX f h]
theorem Uf{α:Type}{n k:Nat}(f:Nat→α)(v:α)(h:k<n):(nl n f).set k v=nl n fun i=>if i=k then v else f i:=by
 refine List.ext_getElem? fun i=> ?_;rw [List.getElem?_set];by_cases hi:i<n
 ·by_cases e:k=i
  ·subst e;rw [if_pos rfl,if_pos (by rw [oL];omega),qX _ hi,if_pos rfl]
  ·rw [if_neg e,qX _ hi,qX _ hi,if_neg (Ne.symm e)]
 ·rw [if_neg (by omega)];rw [List.getElem?_eq_none (by rw [oL];omega),List.getElem?_eq_none (by rw [oL];omega)]
theorem tQ{α:Type}{n:Nat}{f g:Nat→α}(h:∀k,k<n→f k=g k):nl n f=nl n g:=by
 unfold nl;refine List.map_congr_left fun k hk=>h k ?_;simpa using hk
theorem Ug{α:Type}(n:Nat)(a:α):List.replicate n a=nl n fun _=>a:=by
 refine List.ext_getElem? fun i=> ?_;by_cases hi:i<n
 ·rw [qX _ hi,List.getElem?_replicate,if_pos hi]
 ·rw [List.getElem?_eq_none (by simp;omega),List.getElem?_eq_none (by rw [oL];omega)]
def mc(o:Option Wd):(Int×Int)×Bool:=(wZ o,zl o)
def ay:List E3→Int→Option Int
 | [],_=>none
 |x::C,i=>if x.2.1=i then some x.2.2 else ay C i
theorem Ek{i:Int}:∀{C:List E3},(∀x∈C,x.2.1≠i)→ay C i=none
 | [],_=>rfl
 |x::C,h=>by
  unfold ay;rw [if_neg (h x List.mem_cons_self),Ek fun y hy=>h y (List.mem_cons_of_mem _ hy)]
theorem Kt(i:Int):∀(C D:List E3),ay (C++D) i=match ay C i with|some x=>some x|none=>ay D i
 | [],D=>rfl
 |x::C,D=>by
  simp only [List.cons_append,ay];by_cases h:x.2.1=i
  ·rw [if_pos h,if_pos h]
  ·rw [if_neg h,if_neg h,Kt i C D]
def tR(r v:Int)(o:Option Wd):Option Int→Option Wd
 |none=>o
 |some a=>some (match o with|none=>eM r a v|some s=>fj r s (eM r a v))
theorem jK{r:Int}{h:Int→Option Int}:∀{L:List (Int×Int)} {acc:Option Wd},(∀x∈L,h x.1=none)→eV r h L acc=acc
 | [],acc,_=>rfl
 |x::L,acc,hh=>by
  have e:jI r h acc x=acc:=by unfold jI;rw [hh x List.mem_cons_self]
  show eV r h L (jI r h acc x)=acc;rw [e,jK fun y hy=>hh y (List.mem_cons_of_mem _ hy)]
theorem Br{r p v:Int}{h h':Int→Option Int}(h1:∀q,q<p→h' q=h q)(h2:h' p=some v)(h3:h p=none)(h4:∀q,p<q→h q=none∧h' q=none):∀{L:List (Int×Int)} {acc:Option Wd},(L.map (·.1)).Pairwise (·<·)→eV r h' L acc=tR r v (eV r h L acc) (bS p L)
 | [],acc,_=>rfl
 |x::L,acc,hL=>by
  rw [List.map_cons,List.pairwise_cons]at hL;have hx:∀y∈L,x.1<y.1:=fun y hy=>hL.1 _ (List.mem_map_of_mem hy);show eV r h' L (jI r h' acc x)=tR r v (eV r h L (jI r h acc x)) (bS p (x::L));rcases Int.lt_trichotomy x.1 p with c|c|c
  ·have e:jI r h' acc x=jI r h acc x:=by unfold jI;rw [h1 _ c]
   have g:bS p (x::L)=bS p L:=by simp only [bS];rw [if_neg (by omega)]
   rw [e,g];exact Br h1 h2 h3 h4 hL.2
  ·have g:bS p (x::L)=some x.2:=by simp only [bS];rw [if_pos c]
   have e:jI r h acc x=acc:=by unfold jI;rw [c,h3]
   have e':jI r h' acc x=tR r v acc (some x.2):=by unfold jI tR;rw [c,h2];(try (cases acc<;>rfl))
   rw [g,e,e',jK fun y hy=>(h4 _ (by have:=hx y hy;omega)).2,jK fun y hy=>(h4 _ (by have:=hx y hy;omega)).1]
  ·have g:bS p (x::L)=none:=iM fun y hy=>by
    rcases List.mem_cons.1 hy with rfl|hy
    ·omega
    ·have:=hx y hy;omega
   have e:jI r h acc x=acc:=by unfold jI;rw [(h4 _ c).1]
   have e':jI r h' acc x=acc:=by unfold jI;rw [(h4 _ c).2]
   rw [g,e,e',jK fun y hy=>(h4 _ (by have:=hx y hy;omega)).2,jK fun y hy=>(h4 _ (by have:=hx y hy;omega)).1];rfl
def qi(T:List E3)(i:Nat):List (Int×Int):=(T.filter fun x=>decide (x.2.1=(i:Int))).map fun x=>(x.1,x.2.2)
theorem El(p:Int)(i:Nat):∀T:List E3,bS p (qi T i)=ay (KM.kT T p) (i:Int)
 | []=>rfl
 |x::T=>by
  have ih:=El p i T;unfold qi KM.kT at ih ⊢;by_cases h1:x.2.1=(i:Int)<;>by_cases h2:x.1=p
  ·rw [List.filter_cons_of_pos (by simp [h1]),List.filter_cons_of_pos (by simp [h2]),List.map_cons];simp only [bS,ay];rw [if_pos h2,if_pos h1]
  ·rw [List.filter_cons_of_pos (by simp [h1]),List.filter_cons_of_neg (by simp [h2]),List.map_cons];simp only [bS];rw [if_neg h2,ih]
  ·rw [List.filter_cons_of_neg (by simp [h1]),List.filter_cons_of_pos (by simp [h2])];simp only [ay];rw [if_neg h1,ih]
  ·rw [List.filter_cons_of_neg (by simp [h1]),List.filter_cons_of_neg (by simp [h2]),ih]
theorem Qs{T:List E3}(h:KM.dM T)(i:Nat):((qi T i).map (·.1)).Pairwise (·<·):=by
 unfold qi;rw [List.map_map,List.pairwise_map];have hs:KM.dM (T.filter fun x=>decide (x.2.1=(i:Int))):=List.Pairwise.sublist List.filter_sublist h;refine List.Pairwise.imp_of_mem (fun{a b} ha hb hab=> ?_) hs;have h1:=of_decide_eq_true (List.mem_filter.1 ha).2;have h2:=of_decide_eq_true (List.mem_filter.1 hb).2;rw [KM.bel_iff]at hab;show a.1<b.1;omega
theorem MN{m:Mx}{n k:Int}{l:List E3}(h:KM.Is m n k l){i:Nat}(hi:(i:Int)<n):qi (KM.jh l) i=dS m i:=by
 rw [Ud h,TU (rises_km.1 h.r) hi];have hT:=KM.mR h.r
 have e:((KM.jh l).filter fun x=>decide (x.2.1=(i:Int))).map KM.jg=qn l i:=by
  refine KM.Ec ?_ ?_ fun x=> ?_
  ·show List.Pairwise _ _;rw [List.pairwise_map];have hs:KM.dM ((KM.jh l).filter fun x=>decide (x.2.1=(i:Int))):=List.Pairwise.sublist List.filter_sublist hT;refine List.Pairwise.imp_of_mem (fun{a b} ha hb hab=> ?_) hs;have h1:=of_decide_eq_true (List.mem_filter.1 ha).2;have h2:=of_decide_eq_true (List.mem_filter.1 hb).2;rw [KM.bel_iff]at hab ⊢;unfold KM.jg;simp only;omega
  ·exact rises_km.2 (List.Pairwise.sublist (List.filter_sublist.trans List.filter_sublist) (rises_km.1 h.r))
  ·rw [KM.mem_flip,List.mem_filter,KM.turn_mem,KM.rH,rowE_mem,decide_eq_true_eq];rfl
 rw [←e,List.map_map];rfl
section
variable {c : KM.Cx} {n k : Int} {T : List E3} {u : Sl It}
theorem aaS(h:KM.IsC c n k T){j:Nat}(hj:j<T.length):T[j].2.1.toNat<n.toNat∧0≤T[j].2.1:=by
 have:=(h.p _ (List.getElem_mem hj)).2;omega
theorem Uh{r v:Int}(h:KM.IsC c n k T)(hv:cH v){a j:Nat}(ha:a<5000)(hs:atS 1 c.2.2.2.1 ((a+1:Nat):Int)=some ((KM.aQ T (j+1):Nat):Int))(g:Nat→Option Wd):
  aM (fp r c.2.2.2.1 c.2.2.2.2.1 c.2.2.2.2.2 v (a:Int)) (((KM.aQ T j:Nat):Int),nl n.toNat fun i=>mc (g i))=some (.inl (nl n.toNat fun i=>mc (tR r v (g i) (ay (KM.kT T (j:Int)) (i:Int))))):=by
 have hlen:=h.len;obtain⟨h1,h2⟩:=KM.nv h.r j;rw [←KM.vd]at h2
 have hR:(KM.kT T (j:Int)).length=KM.aQ T (j+1) - KM.aQ T j:=by
  have:=KM.vh T j;omega
 have hle:=KM.pn T (j+1);have hw:IntKind.i64.wrap ((a:Int)+1)=((a+1:Nat):Int):=cX (n:=5000) ha (by omega)
 have hget:∀t,t<(KM.kT T (j:Int)).length→∃ht:KM.aQ T j+t<T.length,(KM.kT T (j:Int))[t]? =some T[KM.aQ T j+t]:=fun t ht=>by
  have hlt:KM.aQ T j+t<T.length:=by omega
  refine⟨hlt,?_⟩;rw [←h2,List.getElem?_take_of_lt (by omega),List.getElem?_drop,List.getElem?_eq_getElem hlt]
 have hasc:(KM.kT T (j:Int)).Pairwise fun a b=>a.2.1<b.2.1:=by
  have hs:KM.dM (KM.kT T (j:Int)):=List.Pairwise.sublist List.filter_sublist h.r;refine List.Pairwise.imp_of_mem (fun{a b} ha hb hab=> ?_) hs;have h1:=(KM.lJ ha).2;have h2:=(KM.lJ hb).2;rw [KM.bel_iff]at hab;omega
 generalize hRR:KM.kT T (j:Int)=R at*
 obtain⟨q,q1,q2⟩:=cu (b:=fp r c.2.2.2.1 c.2.2.2.2.1 c.2.2.2.2.2 v (a:Int)) R.length (fun t st=>st=(((KM.aQ T j+t:Nat):Int),nl n.toNat fun i=>mc (tR r v (g i) (ay (R.take t) (i:Int))))) (fun q=>q= .inl (nl n.toNat fun i=>mc (tR r v (g i) (ay R (i:Int)))))
  (by
   rintro t _ ht rfl;obtain⟨hlt,hg⟩:=hget t ht;obtain⟨b1,b2⟩:=aaS h hlt;have a1:=h.at_ro hlt;have a2:=h.at_va hlt;have hx64:=h.v _ (List.getElem_mem hlt)
   have hRt:R[t]=T[KM.aQ T j+t]:=by
    have:=List.getElem?_eq_getElem ht
    rw [hg]at this;exact(Option.some.inj this).symm
   have hnone:ay (R.take t) T[KM.aQ T j+t].2.1=none:=Ek fun x hx=>by
    obtain⟨s,hs,rfl⟩:=List.mem_iff_getElem.1 hx;rw [List.length_take]at hs;rw [List.getElem_take]
    have:=List.pairwise_iff_getElem.1 hasc s t (by omega) ht (by omega)
    rw [hRt]at this;omega
   have happ:∀i,ay (R.take (t+1)) i=if T[KM.aQ T j+t].2.1=i then some T[KM.aQ T j+t].2.2 else ay (R.take t) i:=fun i=>by
    rw [List.take_succ_eq_append_getElem ht,Kt,hRt];simp only [ay];by_cases e:T[KM.aQ T j+t].2.1=i
    ·rw [if_pos e,if_pos e,←e,hnone]
    ·rw [if_neg e,if_neg e];cases ay (R.take t) i<;>rfl
   generalize T[KM.aQ T j+t]=x at a1 a2 hx64 hnone happ b1 b2;obtain⟨x1,x2,x3⟩:=x;simp only at a1 a2 hx64 hnone happ b1 b2;obtain⟨y,rfl⟩:=Int.eq_ofNat_of_zero_le b2;have hy:y<n.toNat:=by simpa using b1
   have hat:=Oz (n:=n.toNat) (fun i=>mc (tR r v (g i) (ay (R.take t) (i:Int)))) hy;rw [hnone]at hat;have hm:=xZ r hx64 hv;have hw2:IntKind.i64.wrap (((KM.aQ T j+t:Nat):Int)+1)=((KM.aQ T j+(t+1):Nat):Int):=cX hlt (by omega)
   have fin:∀z:(Int×Int)×Bool,z=mc (tR r v (g y) (some x3))→(nl n.toNat fun i=>mc (tR r v (g i) (ay (R.take t) (i:Int)))).set y z=nl n.toNat fun i=>mc (tR r v (g i) (ay (R.take (t+1)) (i:Int))):=fun z hz=>by
    rw [Uf _ _ hy];refine tQ fun i _=> ?_;rw [happ];by_cases e:i=y
    ·subst e;rw [if_pos rfl,if_pos rfl,hz]
    ·rw [if_neg e,if_neg (by omega)]
   rcases hgy:g y with _|⟨w1,w2⟩
   ·rw [hgy]at hat;have hat':atL (nl n.toNat fun i=>mc (tR r v (g i) (ay (R.take t) (i:Int)))) (y:Int)=some (((0,0),false):(Int×Int)×Bool):=hat;simp only [fp,hw,hs,zbS,a1,a2,hat',hm,hw2,Int.toNat_natCast];rw [if_pos (by omega),if_neg (by decide),fin _ (by rw [hgy];rfl)];exact .inl ⟨_,rfl,rfl⟩
   ·rw [hgy]at hat;have hat':atL (nl n.toNat fun i=>mc (tR r v (g i) (ay (R.take t) (i:Int)))) (y:Int)=some (((w1,w2),true):(Int×Int)×Bool):=hat;simp only [fp,hw,hs,zbS,a1,a2,hat',hm,hw2,Int.toNat_natCast,qu];rw [if_pos (by omega),if_pos trivial,fin _ (by rw [hgy];rfl)]
    exact .inl ⟨_,rfl,rfl⟩)
  (by
   rintro _ rfl;refine⟨_,?_,rfl⟩;simp only [fp,hw,hs,zbS]
   rw [if_neg (by omega),List.take_length]) 0 (Nat.zero_le _) (((KM.aQ T j:Nat):Int),nl n.toNat fun i=>mc (g i)) (by simp [ay,tR])
 rw [q1,q2]
end
end Ev
end
noncomputable section
namespace Ev
open Go
section
variable {c : KM.Cx} {n k : Int} {T : List E3} {u : Sl It}
theorem afm(s:Sl Int)(hs:okS 1 s)(hl:s.l.length≤5000)(p:Int)(a:Nat)(ha:a≤s.l.length)(hp:∀i (hi:i<s.l.length),i<a→s.l[i]<p):
  ∃b:Nat,b≤s.l.length∧aM (gb s p) (a:Int)=some (.inl (b:Int))∧(∀i (hi:i<s.l.length),i<b→s.l[i]<p)∧∀hb:b<s.l.length,p≤s.l[b]:=by
 obtain⟨q,q1,b,b1,rfl,b2,b3⟩:=cu (b:=gb s p) s.l.length (fun j st=>st=(j:Int)∧∀i (hi:i<s.l.length),i<j→s.l[i]<p) (fun q=>∃b:Nat,b≤s.l.length∧q= .inl (b:Int)∧(∀i (hi:i<s.l.length),i<b→s.l[i]<p)∧∀hb:b<s.l.length,p≤s.l[b])
  (by
   rintro j _ hj ⟨rfl,hI⟩;have ej:=bI hs hj;simp only [gb,ej,zbS,cX hj (by omega)];rw [if_pos (by omega)];by_cases h:s.l[j]<p
   ·rw [if_pos h];refine .inl ⟨_,rfl,rfl,fun i hi hij=> ?_⟩;by_cases e:i=j
    ·subst e;exact h
    ·exact hI i hi (by omega)
   ·rw [if_neg h]
    exact .inr ⟨_,rfl,j,by omega,rfl,hI,fun _=>by omega⟩)
  (by
   rintro _ ⟨rfl,hI⟩;refine⟨.inl (s.l.length:Int),?_,s.l.length,Nat.le_refl _,rfl,hI,fun hb=>absurd hb (by omega)⟩;simp only [gb]
   rw [if_neg (by omega)]) a ha (a:Int) ⟨rfl,hp⟩
 exact⟨b,b1,q1,b2,b3⟩
def fR(r:Int)(T:List E3)(n:Nat)(l:List It):List ((Int×Int)×Bool):=nl n fun i=>mc (eV r (fun p=>bS p l) (qi T i) none)
theorem aaT(h:KM.IsC c n k T){p:Int}(hp:p ∉ c.2.2.1.l):KM.kT T p= []:=by
 by_cases h0:KM.kT T p= []
 ·exact h0
 ·obtain⟨x,hx⟩:=List.exists_mem_of_ne_nil _ h0;obtain⟨x1,x2⟩:=KM.lJ hx;have hb:=h.p x x1;obtain⟨j,rfl⟩:=Int.eq_ofNat_of_zero_le (show 0≤p by omega);refine absurd ?_ hp;rw [h.e3];exact KM.cols_mem.2 ⟨j,rfl,by omega,KM.neC_iff.2 h0⟩
theorem Bs{r p v:Int}{l:List It}(hT:KM.dM T)(hl:∀x∈l,x.1<p)(n:Nat):(nl n fun i=>mc (tR r v (eV r (fun q=>bS q l) (qi T i) none) (ay (KM.kT T p) (i:Int))))=fR r T n (l++ [(p,v)]):=by
 refine tQ fun i _=> ?_;congr 1;rw [←El];have g0:bS p l=none:=iM fun x hx=>by have:=hl x hx;omega
 refine(Br (h':=fun q=>bS q (l++ [(p,v)])) (fun q hq=> ?_) ?_ g0 (fun q hq=>⟨?_,?_⟩) (Qs hT i)).symm
 ·show bS q (l++ [(p,v)])=bS q l;rw [nF]
  have:bS q [(p,v)]=none:=by simp only [bS];rw [if_neg (by omega)]
  rw [this];cases bS q l<;>rfl
 ·show bS p (l++ [(p,v)])=some v;rw [nF,g0];simp [bS]
 ·exact iM fun x hx=>by have:=hl x hx;omega
 ·refine iM fun x hx=> ?_;rcases List.mem_append.1 hx with hx|hx
  ·have:=hl x hx;omega
  ·simp only [List.mem_cons,List.not_mem_nil,or_false]at hx;subst hx;simp only;omega
theorem MO{r:Int}(h:KM.IsC c n k T)(hv:Ka (k,u)):aM (fq r u c.2.2.1 c.2.2.2.1 c.2.2.2.2.1 c.2.2.2.2.2) (0,0,fR r T n.toNat [])=some (.inl (fR r T n.toNat u.l)):=by
 have hok:okS 2 u:=hv.2.1;have hul:=rJ hv.1;simp only at hul;have hL:=h.atLen
 obtain⟨q,q1,q2⟩:=cu (b:=fq r u c.2.2.1 c.2.2.2.1 c.2.2.2.2.1 c.2.2.2.2.2) u.l.length (fun j st=>∃a:Nat,st=((a:Int),(j:Int),fR r T n.toNat (u.l.take j))∧a≤c.2.2.1.l.length∧∀i (hi:i<c.2.2.1.l.length),i<a→∀q (hq:q<u.l.length),j≤q→c.2.2.1.l[i]<u.l[q].1) (fun q=>q= .inl (fR r T n.toNat u.l))
  (by
   rintro j _ hj ⟨a,rfl,ha,hI⟩;have ej:=bI hok hj;have hb:=oI hv.1 hj;have h64:=hv.2.2 _ (List.getElem_mem hj)
   have hlt:∀x∈u.l.take j,x.1<u.l[j].1:=fun x hx=>by
    obtain⟨s,hs,rfl⟩:=List.mem_iff_getElem.1 hx;rw [List.length_take]at hs;rw [List.getElem_take];exact JZ (Eg hv.1) (by omega) hj
   have hgt:∀q (hq:q<u.l.length),j+1≤q→u.l[j].1<u.l[q].1:=fun q hq hjq=>JZ (Eg hv.1) (by omega) hq;obtain⟨b,b1,b2,b3,b4⟩:=afm c.2.2.1 h.o3 (by omega) u.l[j].1 a ha fun i hi hia=>hI i hi hia j hj (Nat.le_refl _);rw [List.take_succ_eq_append_getElem hj];generalize u.l[j]=x at ej hb h64 hlt hgt b2 b3 b4;obtain⟨p,v⟩:=x;simp only at hb h64 hlt hgt b2 b3 b4
   have nxt:∀i (hi:i<c.2.2.1.l.length),i<b→∀q (hq:q<u.l.length),j+1≤q→c.2.2.1.l[i]<u.l[q].1:=fun i hi hib q hq hjq=>by
    have:=b3 i hi hib;have:=hgt q hq hjq;omega
   have hw:=cX hj (show u.l.length≤9223372036854775807 by omega);simp only [fq,ej,zbS,b2,Sum.elim_inl,hw];rw [if_pos (by omega)]
   have skip:p ∉ c.2.2.1.l→fR r T n.toNat (u.l.take j)=fR r T n.toNat (u.l.take j++ [(p,v)]):=fun hn=>by
    rw [←Bs h.r hlt,aaT h hn];rfl
   by_cases hbl:b<c.2.2.1.l.length
   ·have eb:=bI h.o3 hbl;rw [if_pos (by omega)];simp only [eb,zbS];by_cases e:c.2.2.1.l[b]=p
    ·rw [if_pos e];obtain⟨jn,g1,g2,g3,g4,g5⟩:=h.at_ge (List.getElem?_eq_getElem hbl);rw [e]at g1;have s1:=KM.jH h.o4 g4;have s2:=KM.jH h.o4 g5;have hc:=Uh (r:=r) (v:=v) h h64 (a:=b) (j:=jn) (by omega) s2 fun i=>eV r (fun q=>bS q (u.l.take j)) (qi T i) none;simp only [s1,zbS];unfold fR;rw [hc];simp only [zbS,Sum.elim_inl];refine .inl ⟨_,rfl,b,?_,b1,nxt⟩;rw [←g1,Bs h.r hlt];rfl
    ·rw [if_neg e];refine .inl ⟨_,rfl,b,?_,b1,nxt⟩;rw [skip fun hm=> ?_];obtain⟨i,hi,hip⟩:=List.mem_iff_getElem.1 hm;have hp:=List.pairwise_iff_getElem.1 h.asc;have h4:=b4 hbl;by_cases c1:i<b
     ·have:=b3 i hi c1;omega
     ·by_cases c2:i=b
      ·subst c2;exact e hip
      ·have:=hp b i hbl hi (by omega);omega
   ·rw [if_neg (by omega)];refine .inl ⟨_,rfl,b,?_,b1,nxt⟩;rw [skip fun hm=> ?_];obtain⟨i,hi,hip⟩:=List.mem_iff_getElem.1 hm
    have:=b3 i hi (by omega);omega)
  (by
   rintro _ ⟨a,rfl,ha,hI⟩;refine⟨.inl (fR r T n.toNat u.l),?_,rfl⟩;simp only [fq]
   rw [if_neg (by omega),List.take_length]) 0 (Nat.zero_le _) (0,0,fR r T n.toNat []) ⟨0,rfl,Nat.zero_le _,fun i hi h0=>absurd h0 (by omega)⟩
 rw [q1,q2]
def Em(r:Int)(T:List E3)(l:List It)(ask:Nat→Bool)(i:Nat):Option (Int×Wd):=if ask i=true then(eV r (fun p=>bS p l) (qi T i) none).map fun w=>((i:Int),w)else none
def nG(r:Int)(T:List E3)(l:List It)(ask:Nat→Bool)(n:Nat):List (Int×Wd):=(List.range n).filterMap (Em r T l ask)
theorem Bt(r:Int)(T:List E3)(l:List It)(ask:Nat→Bool)(n:Nat):nG r T l ask (n+1)=nG r T l ask n++(Em r T l ask n).toList:=by
 unfold nG;rw [List.range_succ,List.filterMap_append];congr 1
 all_goals (cases hs:Em r T l ask n<;>simp [hs])
theorem En(r:Int)(T:List E3)(l:List It)(ask:Nat→Bool)(n:Nat):(nG r T l ask n).length≤n:=by
 unfold nG
 have:=List.length_filterMap_le (Em r T l ask) (List.range n)
 simpa using this
theorem Qt{r:Int}{l:List It}{s:Sl Int}(hs:okS 1 s)(hu:qR s.l)(o:Bool){m:Nat}(hm:m≤4096):aM (el s (fR r T m l)) (o,[],0)=some (.inl (nG r T l (qU s.l o) m)):=by
 obtain⟨q,q1,q2⟩:=cu (b:=el s (fR r T m l)) m (fun j a=>a=(o,nG r T l (qU s.l o) j,(j:Int))) (fun q=>q= .inl (nG r T l (qU s.l o) m))
  (by
   rintro j _ hj rfl;have hh:=uP s j hs hu (by omega);have hlen:=En r T l (qU s.l o) j;have hap:=fun x=>Ov (l:=nG r T l (qU s.l o) j) (by omega) x;have hat:=Oz (n:=m) (fun i=>mc (eV r (fun p=>bS p l) (qi T i) none)) hj
   have hI:Em r T l (qU s.l o) j=if(fL s.l j !=o)=true then(eV r (fun p=>bS p l) (qi T j) none).map (fun w=>((j:Int),w))else none:=rfl
   have hl:((fR r T m l).length:Int)=(m:Int):=by unfold fR;rw [oL]
   rw [Bt,hI]
   cases hx:eV r (fun p=>bS p l) (qi T j) none with
   |none=>
    rw [hx]at hat;have hat':atL (fR r T m l) (j:Int)=some (((0,0),false):(Int×Int)×Bool):=hat;simp only [el,hl,hat',zbS,cX hj (by omega),if_pos (show(j:Int)<(m:Int)by omega)];rw [if_neg (by decide)];exact .inl ⟨_,rfl,by simp⟩
   |some w=>
    obtain⟨w1,w2⟩:=w;rw [hx]at hat;have hat':atL (fR r T m l) (j:Int)=some (((w1,w2),true):(Int×Int)×Bool):=hat;simp only [el,hl,hat',hh,hap,zbS,cX hj (by omega),if_pos (show(j:Int)<(m:Int)by omega)]
    cases hb:fL s.l j<;>cases o<;>exact .inl ⟨_,rfl,by simp⟩)
  (by
   rintro _ rfl;have hl:((fR r T m l).length:Int)=(m:Int):=by unfold fR;rw [oL]
   refine⟨.inl (nG r T l (qU s.l o) m),?_,rfl⟩;simp only [el,hl]
   rw [if_neg (by omega)]) 0 (Nat.zero_le _) (o,[],0) rfl
 rw [q1,q2]
end
end Ev
end
noncomputable section
namespace Ev
open Go
theorem MP{l:List E3}(h:KM.dM l):KM.jh (KM.jh l)=l:=KM.Ec (KM.mR (KM.mR h)) h fun x=>by rw [KM.turn_mem,KM.turn_mem,KM.rH]
theorem MQ{m:Mx}{n k:Int}{l:List E3}(h:KM.Is m n k l)(r:Int)(items:List It)(ask:Nat→Bool):nG r (KM.jh l) items ask n.toNat=qh r (fun p=>bS p items) m ask n.toNat:=by
 have key:∀q,q≤n.toNat→nG r (KM.jh l) items ask q=qh r (fun p=>bS p items) m ask q:=fun q=>by
  induction q with
  |zero=>intro _;rfl
  |succ q ih=>
   intro hm;rw [Bt,Bj,ih (by omega)];unfold Em Qh;rw [MN h (by have:=h.hn;omega)]
 exact key _ (Nat.le_refl _)
theorem Xr{d:Dn}{v:Int×Sl It}(hd:DV d (fe v).1.toNat fun p=>bS (p:Int) (fe v).2.l):lM d=fun p=>bS p (fe v).2.l:=by
 have hr:=lL v;generalize fe v=w at hr hd;obtain⟨k,u⟩:=w;simp only at hd ⊢;funext p;rw [hd.den];by_cases hp:0≤p
 ·rw [if_pos hp];show bS ((p.toNat:Nat):Int) u.l=bS p u.l;rw [Int.toNat_of_nonneg hp]
 ·rw [if_neg hp];refine(iM fun x hx=> ?_).symm;obtain⟨j,hj,rfl⟩:=List.mem_iff_getElem.1 hx
  have:=oI hr hj;omega
def vD(r:Int)(n k:Int)(T:List E3)(v:Int×Sl It)(ws:List Int)(o:Bool):Sl (Int×Wd)×Int:=
 if okR r=true then(if(fe v).1=k then(mo 3 (nG r T (fe v).2.l (qU ws o) n.toNat),0)else(gU,4))else(gU,8)
theorem Ui{n:Int}(hn:n≤4096)(r:Int)(k:Int)(T:List E3)(v:Int×Sl It)(ws:List Int)(o:Bool):okS 3 (vD r n k T v ws o).1∧(vD r n k T v ws o).1.l.length≤4096:=by
 unfold vD
 have:=En r T (fe v).2.l (qU ws o) n.toNat
 split
 ·split
  ·refine⟨oo _,?_⟩;simp only [kI];omega
  ·exact⟨kR,by simp [gU]⟩
 ·exact⟨kR,by simp [gU]⟩
theorem Hc(c:KM.Cx):iB c=KM.oh c:=by
 obtain⟨c1,c2,c3,c4,c5,c6⟩:=c;rw [KM.uQ];unfold iB;rfl
theorem DI{c q:KM.Cx}{n k:Int}{T:List E3}(hq:iB c=some q)(h:KM.IsC q n k T)(r:Int){v:Int×Sl It}(hok:okS 2 v.2)(hl:v.2.l.length≤9223372036854775807)(hi:∀x∈v.2.l,cH x.2){s:Sl Int}(hs:okS 1 s)(hu:qR s.l)(o:Bool):mD r c v s o=some (vD r n k T v s.l o):=by
 have e3:=qv v hok hl;have hn:=h.hn;have i1:=h.e1;have i2:=h.e2;have hlo:iX n=some ():=by unfold iX cS;rw [if_pos ⟨by omega,by omega⟩]
 have e5:=fun l=>Qt (r:=r) (T:=T) (l:=l) hs hu o (m:=n.toNat) (by omega)
 have rep:List.replicate n.toNat (((0,0),false):(Int×Int)×Bool)=fR r T n.toNat []:=by
  rw [Ug];refine tQ fun i _=> ?_;rw [jK fun x _=>rfl];rfl
 have e6:aM (iK s n) (o,[],0)=some (.inl (nG r T [] (qU s.l o) n.toNat)):=by
  rw [show iK s n=el s (fR r T n.toNat [])by rw [←rep];rfl];exact e5 []
 have e7:aM iL ()=some (.inl ()):=by
  obtain⟨q,q1,q2⟩:=cu (b:=iL) 0 (fun _ _=>True) (fun q=>q= .inl ()) (fun _ _ h=>absurd h (by omega)) (fun a _=>⟨.inl (),rfl,rfl⟩) 0 (Nat.le_refl _) () trivial;rw [q1,q2]
 have e4:fu v=true→v.1=k→aM (fq r v.2 q.2.2.1 q.2.2.2.1 q.2.2.2.2.1 q.2.2.2.2.2) (0,0,fR r T n.toNat [])=some (.inl (fR r T n.toNat v.2.l)):=fun hr hk=>by
  have hg:Ka (k,v.2):=⟨by rw [←hk];exact hr,hok,hi⟩;exact MO (r:=r) h hg
 obtain⟨c1,c2,c3,c4,c5,c6⟩:=c;obtain⟨q1,q2,q3,q4,q5,q6⟩:=q;obtain⟨v1,v2⟩:=v;simp only at i1 i2 e4 hok hl hi;subst i1 i2;unfold mD vD;simp only [tD,zbS,hq,e3];by_cases hr:okR r=true
 ·have hr':(decide (1≤r)&& decide (r≤5))=true:=hr;simp only [hr'];rw [if_pos trivial,if_pos hr];unfold fe;by_cases hv:fu (v1,v2)=true
  ·rw [if_pos hv,if_pos hv];by_cases hk:v1=q2
   ·rw [if_neg (by omega),if_pos hk,hlo,rep];simp only [zbS,e4 hv hk,Sum.elim_inl,e5]
   ·rw [if_pos hk,if_neg hk];rfl
  ·rw [if_neg hv,if_neg hv];by_cases hk:(0:Int)=q2
   ·rw [if_neg (by omega),if_pos hk,hlo];simp only [zbS,e7,e6,Sum.elim_inl];rfl
   ·rw [if_pos hk,if_neg hk];rfl
 ·have hr':¬(decide (1≤r)&& decide (r≤5))=true:=hr;rw [if_neg hr',if_neg hr];rfl
theorem MS{m:Mx}{n k:Int}{l:List E3}(h:KM.Is m n k l)(r:Int){v:Int×Sl It}{d:Dn}(hd:DV d (fe v).1.toNat fun p=>bS (p:Int) (fe v).2.l)(ws:List Int)(o:Bool):Ou r m d ws o=vD r n k (KM.jh l) v ws o:=by
 have e1:oJ d=d:=by unfold oJ;rw [if_pos hd.right]
 have e2:qg m=m:=by unfold qg;rw [if_pos (Ue h)]
 have e3:(d.1=k)=((fe v).1=k):=by
  rw [hd.num]
  have:0≤(fe v).1:=by
   have:=lL v
   simp only [fu,vt,Bool.and_eq_true,decide_eq_true_eq]at this;omega
  rw [Int.toNat_of_nonneg this]
 unfold Ou vD;rw [e1,e2,Xr hd,MQ h,h.e1,h.e2];simp only [e3]
theorem DK{m:Mx}{n k:Int}{l:List E3}(h:KM.Is m n k l)(r:Int){v:Int×Sl It}{d:Dn}(hd:DV d (fe v).1.toNat fun p=>bS (p:Int) (fe v).2.l){s:Sl Int}(hs:okS 1 s)(hu:qR s.l)(o:Bool):gl r m d s o=some (vD r n k (KM.jh l) v s.l o):=by
 rw [sI (adH h) hd.ok hs hu o,MS h r hd s.l o]
theorem Bu{c q:KM.Cx}{n k:Int}{T:List E3}(hq:KM.eQ c=some q)(h:KM.IsC q n k T)(r:Int){v:Int×Sl It}(hok:okS 2 v.2)(hl:v.2.l.length≤9223372036854775807)(hi:∀x∈v.2.l,cH x.2){s:Sl Int}(hs:okS 1 s)(hu:qR s.l)(o:Bool):kU r c v s o=some (vD r n k T v s.l o):=by
 obtain⟨m,e1,hm⟩:=KM.Dk h;have e2:eT c=some m:=(KM.Mk hq h).trans e1;obtain⟨d,e3,hd⟩:=Hb hok hl hi;have e4:=DK hm r hd hs hu o;rw [MP h.r]at e4;obtain⟨c1,c2,c3,c4,c5,c6⟩:=c;obtain⟨v1,v2⟩:=v;obtain⟨m1,m2,m3,m4,m5⟩:=m;obtain⟨d1,d2,d3⟩:=d;unfold kU;simp only [e2,e3,e4,zbS]
end Ev
end
noncomputable section
namespace Ev
open Go
theorem adI:FL=some true:=rfl
theorem tS(r:Int)(hr:inK .i64 r)(c:KM.Cx)(hc:inK .i64 c.1∧inK .i64 c.2.1∧SlW 1 (fun x=>inK .i64 x) c.2.2.1∧SlW 1 (fun x=>inK .i64 x) c.2.2.2.1∧SlW 1 (fun x=>inK .i64 x) c.2.2.2.2.1∧SlW 1 (fun x=>inK .i64 x) c.2.2.2.2.2)(v:Int×Sl It)(hv:inK .i64 v.1∧SlW 2 (fun x:It=>inK .i64 x.1∧inK .i64 x.2) v.2):lu r c v=some true:=by
 obtain⟨_,_,h3,h4,h5,h6⟩:=hc;have w1:okS 2 (DD v).2:=aaL hv.2.ok
 have w2:(DD v).2.l.length≤60∧∀x∈(DD v).2.l,x∈v.2.l:=by
  unfold DD;simp only;split
  ·exact⟨by simp;omega,fun x hx=>List.mem_of_mem_take hx⟩
  ·exact⟨by omega,fun x hx=>hx⟩
 have w3:∀x∈(DD v).2.l,cH x.2:=fun x hx=>FJ (hv.2.2.2.2 x (w2.2 x hx)).2;have e0:=uR v;generalize DD v=w at w1 w2 w3 e0
 have key:c.2.2.1.l.length≤40→c.2.2.2.1.l.length≤41→c.2.2.2.2.1.l.length≤60→∃p,mD r c w gU true=some p∧kU r c w gU true=some p∧dE p.1 p.1=some true:=fun a1 a2 a3=>by
  have ok:KM.OkC c:=⟨h3.ok,h4.ok,h5.ok,h6.ok,fun y hy=>FJ (h6.2.2.2 y hy),by omega,by omega,by omega,h6.2.2.1⟩;obtain⟨q,n,k,T,q1,q2,q3⟩:=KM.Ts ok;have e1:=DI ((Hc c).trans q1) q3 r w1 (by omega) w3 (s:=gU) kR (fun x hx=>by simp [gU]at hx) true;have e2:=Bu q2 q3 r w1 (by omega) w3 (s:=gU) kR (fun x hx=>by simp [gU]at hx) true;have hn:=q3.hn;have o1:=Ui hn.2 r k T w (gU:Sl Int).l true;exact⟨_,e1,e2,DE _ o1.1 (by omega)⟩
 obtain⟨c1,c2,c3,c4,c5,c6⟩:=c;obtain⟨v1,v2⟩:=v;obtain⟨w1,w2⟩:=w;simp only at key;unfold lu;simp only [adI,zbS];split
 ·rfl
 split
 ·rfl
 split
 ·rfl
 obtain⟨p,p1,p2,p3⟩:=key (by omega) (by omega) (by omega);rw [e0,show(⟨false,0,[]⟩:Sl Int)=gU from rfl];simp only [zbS,p1,p2,adI];rw [if_pos trivial,p3];simp only [zbS,if_true]
end Ev
end
end Go.Proofs.Ytjjbpdldbdmoeaa
