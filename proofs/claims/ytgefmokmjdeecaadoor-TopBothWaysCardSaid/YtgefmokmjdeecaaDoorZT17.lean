/- Texts of a claim, joined. -/
import Derived.Test.YtgefmokmjdeecaaDoorZT16
import Derived.Test.YtgefmokmjdeecaaDoorZT5
import Derived.Test.YtgefmokmjdeecaaDoorZT11
import Derived.Test.YtgefmokmjdeecaaDoorZT12
import Derived.Test.YtgefmokmjdeecaaDoorZT13
import Derived.Test.YtgefmokmjdeecaaDoorZT14
import Derived.Test.YtgefmokmjdeecaaDoorZT15
import Derived.Test.YtgefmokmjdeecaaDoorZT10
set_option linter.unusedVariables false
set_option linter.unusedSimpArgs false
namespace Go.Proofs.YtgefmokmjdeecaaDoor
noncomputable section
namespace Ev
open Go
abbrev It:=Int×Int
def okS{α:Type}(w:Nat)(s:Sl α):Prop:=s.l= []∨s.sz=w
theorem SlW.ok{α:Type}{w:Nat}{Q:α→Prop}{s:Sl α}(h:SlW w Q s):okS w s:= .inr h.1
def eW{α:Type}:Sl α:=⟨false,0,[]⟩
theorem ik{α:Type}{w:Nat}:okS w (eW:Sl α):= .inl rfl
theorem lu{α:Type}{w:Nat}(l:List α):okS w (mo w l):=by cases l with|nil=>exact .inl rfl|cons x l=>exact .inr rfl
def asc:Int→Int→List It→Bool
 |_,_,[]=>true
 |a,n,x::l=>decide (a<x.1)&& decide (x.1<n)&& asc x.1 n l
def xk(n:Int):Bool:=decide (0≤n)&& decide (n≤4096)
def eJ(v:Int×Sl It):Bool:=xk v.1 && asc (-1) v.1 v.2.l
def lW(v:Int×Sl It):Int×Sl It:=if eJ v=true then v else(0,eW)
theorem Og{v:Int×Sl It}(h:okS 2 v.2):okS 2 (lW v).2:=by unfold lW;split;exact h;exact ik
theorem Hm(v:Int×Sl It):eJ (lW v)=true:=by unfold lW;split;assumption;rfl
theorem Jq{n:Int}:∀{a:Int} {l:List It},asc a n l=true→∀x∈l,a<x.1∧x.1<n
 |a,y::l,h,x,hx=>by
  simp only [asc,Bool.and_eq_true,decide_eq_true_eq]at h;rcases List.mem_cons.1 hx with rfl|hx
  ·exact⟨h.1.1,h.1.2⟩
  ·have:=Jq h.2 x hx;omega
theorem Lj{n:Int}:∀{a:Int} {l:List It},asc a n l=true→(l.length:Int)≤max (n - a - 1) 0
 |a,[],h=>by simp;omega
 |a,y::l,h=>by
  simp only [asc,Bool.and_eq_true,decide_eq_true_eq]at h
  have:=Lj h.2
  simp only [List.length_cons];omega
theorem kE{v:Int×Sl It}(h:eJ v=true):v.2.l.length≤4096:=by
 simp only [eJ,xk,Bool.and_eq_true,decide_eq_true_eq]at h
 have:=Lj h.2;omega
theorem Oh(v:Int×Sl It):(lW v).2.l.length≤4096:=kE (Hm v)
theorem BI(n:Int):mE n=some (xk n):=by
 unfold mE xk;by_cases h1:n ≥ 0
 ·rw [if_pos h1];by_cases h2:n≤4096
  ·rw [if_pos h2,decide_eq_true (show 0≤n from h1),decide_eq_true h2];rfl
  ·rw [if_neg h2,decide_eq_false h2];simp
 ·rw [if_neg h1,decide_eq_false (show¬0≤n from h1)];rfl
theorem mP(v:Int×Sl It)(hok:okS 2 v.2)(hl:v.2.l.length≤9223372036854775807):ic v=some (eJ v):=by
 obtain⟨n,s⟩:=v;unfold ic eJ;simp only [BI,zbS]
 cases hs:xk n with
 |false=>simp
 |true=>
  simp only [if_true,Bool.true_and]
  obtain⟨r,h1,h2⟩:=bK (b:=fW n s) s.l.length (fun j a=>∃la,a=(la,(j:Int))∧asc (-1) n s.l=asc la n (s.l.drop j)) (fun r=>(asc (-1) n s.l=true∧r= .inl ())∨(asc (-1) n s.l=false∧r= .inr false))
   (by
    rintro j _ hj ⟨la,rfl,ha⟩;rw [List.drop_eq_getElem_cons hj]at ha;simp only [asc]at ha;simp only [fW,bu hok hj,zbS,bL hj (by simp only at hl;omega)];rw [if_pos (by omega)];by_cases c1:s.l[j].1≤la
    ·refine .inr ⟨_,if_pos c1,.inr ⟨?_,rfl⟩⟩;rw [ha,decide_eq_false (by omega)];rfl
    ·rw [if_neg c1];by_cases c2:s.l[j].1 ≥ n
     ·refine .inr ⟨_,if_pos c2,.inr ⟨?_,rfl⟩⟩;rw [ha,decide_eq_false (p:=s.l[j].1<n) (by omega)];simp
     ·refine .inl ⟨_,if_neg c2,_,rfl,?_⟩
      rw [ha,decide_eq_true (by omega),decide_eq_true (by omega)];rfl)
   (by
    rintro _ ⟨la,rfl,ha⟩;refine⟨_,if_neg (by omega),.inl ⟨?_,rfl⟩⟩
    rw [ha];simp [asc]) 0 (Nat.zero_le _) (-1,0) ⟨-1,rfl,rfl⟩
  rw [h1];rcases h2 with⟨h3,rfl⟩|⟨h3,rfl⟩<;>simp [h3]
theorem asc_iff{n:Int}{l:List It}:∀{a:Int},asc a n l=true↔∀j (h:j<l.length),(if h0:j=0 then a<l[j].1 else l[j - 1].1<l[j].1)∧l[j].1<n:=by
 induction l with
 |nil=>intro a;simp [asc]
 |cons x l ih=>
  intro a;simp only [asc,Bool.and_eq_true,decide_eq_true_eq,ih];constructor
  ·rintro⟨⟨h1,h2⟩,h3⟩ j hj
   cases j with
   |zero=>exact⟨by simpa using h1,by simpa using h2⟩
   |succ j=>
    have:=h3 j (by simpa using hj)
    refine⟨?_,by simpa using this.2⟩;rw [dif_neg (by omega)]
    cases j with
    |zero=>simpa using this.1
    |succ j=>have:=this.1;rw [dif_neg (by omega)]at this;simpa using this
  ·intro h;have h0:=h 0 (by simp);refine⟨⟨by simpa using h0.1,by simpa using h0.2⟩,fun j hj=> ?_⟩
   have:=h (j+1) (by simpa using hj)
   rw [dif_neg (by omega)]at this;refine⟨?_,by simpa using this.2⟩
   cases j with
   |zero=>simpa using this.1
   |succ j=>rw [dif_neg (by omega)];simpa using this.1
theorem asc_iff'{n:Int}{l:List It}:asc (-1) n l=true↔∀j (h:j<l.length),0≤l[j].1∧l[j].1<n∧(j≠0→l[j - 1].1<l[j].1):=by
 constructor
 ·intro h j hj;have h1:=Jq h l[j] (List.getElem_mem hj);have h2:=(asc_iff.1 h j hj).1;exact⟨by omega,h1.2,fun h0=>by rw [dif_neg h0]at h2;exact h2⟩
 ·intro h;refine asc_iff.2 fun j hj=>⟨?_,(h j hj).2.1⟩;split
  ·have:=(h j hj).1;omega
  ·rename_i h0;exact(h j hj).2.2 h0
end Ev
end
noncomputable section
namespace Ev
open Go
def cK(n:Int):Prop:= -9223372036854775808≤n∧n≤9223372036854775807
def eh(n:Int):Prop:=0≤n∧n≤18446744073709551615
theorem uE{n:Int}(h:inK .i64 n):cK n:=by simpa [inK,cK,Lit.wf,IntKind.min,IntKind.max,IntKind.signed,IntKind.bits]using h
theorem wrap_u64(n:Int):IntKind.u64.wrap n=n % 18446744073709551616:=by
 simp [IntKind.wrap,IntKind.signed,IntKind.bits]
theorem mM(n:Int):eh (IntKind.u64.wrap n):=by rw [wrap_u64];unfold eh;omega
theorem NO{n:Int}(h:eh n):IntKind.u64.wrap (IntKind.i64.wrap n)=n:=by rw [wrap_u64,IntKind.wrap_i64];unfold eh at h;omega
def ofW(n:Int):Int×Int:=(if n<0 then -1 else 0,IntKind.u64.wrap n)
theorem dO{n:Int}(h:cK n):fp n=some (ofW n):=by
 unfold fp wh ofW PC;rw [if_pos (by omega)];have e:(2:Int)^(min (63:Int).toNat IntKind.i64.bits)=9223372036854775808:=by decide
 rw [e];unfold cK at h
 have:n.fdiv 9223372036854775808=if n<0 then -1 else 0:=by
  rw [Int.fdiv_eq_ediv_of_nonneg _ (by omega)];split<;>omega
 rw [this];rfl
theorem zh(n:Int):eh (ofW n).2:=mM n
def zi(a b:Int×Int):Bool:=decide (a.1<b.1)||(decide (a.1=b.1)&& decide (a.2<b.2))
theorem xW(a b:Int×Int):∃c,jZ a b=some c∧(c<0↔zi a b=true):=by
 obtain⟨a1,a2⟩:=a;obtain⟨b1,b2⟩:=b;unfold jZ zi;simp only;by_cases h1:a1=b1∧a2=b2
 ·rw [if_pos h1];exact⟨0,rfl,by simp;omega⟩
 rw [if_neg h1];by_cases h2:a1<b1
 ·rw [if_pos h2];exact⟨-1,rfl,by simp [h2]⟩
 rw [if_neg h2];by_cases h3:a1=b1
 ·rw [if_pos h3];by_cases h4:a2<b2
  ·rw [if_pos h4];exact⟨-1,rfl,by simp [h3,h4]⟩
  ·rw [if_neg h4];exact⟨1,rfl,by simp [h3];omega⟩
 ·rw [if_neg h3];exact⟨1,rfl,by simp [h3];omega⟩
def mN(a b:Int×Int):Int×Int:=if zi b a=true then b else a
def nX(b:Bool):Int×Int:=if b=true then(0,1)else(0,0)
def xV(a b:Int×Int):Int×Int:=if IntKind.u64.wrap (a.2+b.2)<a.2 then(IntKind.i64.wrap (IntKind.i64.wrap (a.1+b.1)+1),IntKind.u64.wrap (a.2+b.2))else(IntKind.i64.wrap (a.1+b.1),IntKind.u64.wrap (a.2+b.2))
def gT(r:Int)(a b:Int×Int):Int×Int:=
 if r=1∨r=3∨r=4 then mN a b else if r=2 then nX (!(decide (a.1=0∧a.2=0)&& decide (b.1=0∧b.2=0)))else if r=5 then xV a b else(0,0)
theorem qS(a b:Int×Int):gg a b=some (mN a b):=by
 obtain⟨a1,a2⟩:=a;obtain⟨b1,b2⟩:=b;unfold gg mN;obtain⟨c,h1,h2⟩:=xW (b1,b2) (a1,a2);simp only [h1,zbS];by_cases hc:c<0
 ·rw [if_pos hc,if_pos (h2.1 hc)]
 ·rw [if_neg hc,if_neg (fun h=>hc (h2.2 h))]
theorem kW(b:Bool):fL b=some (nX b):=by
 unfold fL nX;cases b
 ·rfl
 ·simp only [if_true,dO (show cK 1 by unfold cK;omega),zbS];rfl
theorem xm(a b:Int×Int):jY a b=some (xV a b):=by
 obtain⟨a1,a2⟩:=a;obtain⟨b1,b2⟩:=b;unfold jY xV;simp only;split<;>rfl
theorem qT(r:Int)(a b:Int×Int):mF r a b=some (gT r a b):=by
 obtain⟨a1,a2⟩:=a;obtain⟨b1,b2⟩:=b;unfold mF gT;simp only [qS,kW,xm,zbS];by_cases h1:r=1
 ·simp only [if_pos h1,if_pos (show r=1∨r=3∨r=4 from .inl h1)]
 by_cases h3:r=3
 ·simp only [if_neg h1,if_pos h3,if_pos (show r=1∨r=3∨r=4 from .inr (.inl h3))]
 by_cases h4:r=4
 ·simp only [if_neg h1,if_neg h3,if_pos h4,if_pos (show r=1∨r=3∨r=4 from .inr (.inr h4))]
 simp only [if_neg h1,if_neg h3,if_neg h4,if_neg (show¬(r=1∨r=3∨r=4)by omega)];by_cases h2:r=2
 ·simp only [if_pos h2];by_cases ha:a1=0∧a2=0
  ·by_cases hb:b1=0∧b2=0
   ·simp [if_pos ha,if_pos hb,ha,hb]
   ·rw [if_pos ha,if_neg hb,decide_eq_true ha,decide_eq_false hb];rfl
  ·rw [if_neg ha,decide_eq_false ha];rfl
 ·simp only [if_neg h2];by_cases h5:r=5
  ·simp only [if_pos h5]
  ·simp only [if_neg h5]
theorem zk{r:Int}{a b:Int×Int}(ha:eh a.2)(hb:eh b.2):eh (gT r a b).2:=by
 have h0:eh 0:=by unfold eh;omega
 have h1:eh 1:=by unfold eh;omega
 unfold gT mN nX xV;split
 ·split<;>assumption
 ·split
  ·split<;>assumption
  ·split
   ·split<;>exact mM _
   ·exact h0
def cN(a:Int×Int):Int×Bool:=if a=ofW (IntKind.i64.wrap a.2)then(IntKind.i64.wrap a.2,true)else(0,false)
theorem uz(n:Int):cK (IntKind.i64.wrap n):=by rw [IntKind.wrap_i64];unfold cK;omega
theorem qU(r:Int)(a:Int×Int):lg r a=some (cN a):=by
 obtain⟨a1,a2⟩:=a;unfold lg nr cN;simp only [dO (uz a2),zbS];by_cases h:(a1,a2)=ofW (IntKind.i64.wrap a2)
 ·have h':a1=(ofW (IntKind.i64.wrap a2)).1∧a2=(ofW (IntKind.i64.wrap a2)).2:=⟨congrArg Prod.fst h,congrArg Prod.snd h⟩;rw [if_pos h,if_pos h'];rfl
 ·have h':¬(a1=(ofW (IntKind.i64.wrap a2)).1∧a2=(ofW (IntKind.i64.wrap a2)).2):=fun hh=>h (Prod.ext hh.1 hh.2);rw [if_neg h,if_neg h'];rfl
theorem tc(r:Int):pB r=some (decide (1≤r)&& decide (r≤5)):=by
 unfold pB;by_cases h1:r ≥ 1
 ·rw [if_pos h1,decide_eq_true (show 1≤r from h1)];by_cases h2:r≤5
  ·rw [if_pos h2,decide_eq_true h2];rfl
  ·rw [if_neg h2,decide_eq_false h2];rfl
 ·rw [if_neg h1,decide_eq_false (show¬1≤r from h1)];rfl
theorem qN(r:Int):fU r=some (decide (1≤r)&& decide (r≤5)):=by
 unfold fU;by_cases h1:r ≥ 1
 ·rw [if_pos h1,decide_eq_true (show 1≤r from h1)];by_cases h2:r≤5
  ·rw [if_pos h2,decide_eq_true h2];rfl
  ·rw [if_neg h2,decide_eq_false h2];rfl
 ·rw [if_neg h1,decide_eq_false (show¬1≤r from h1)];rfl
def Hn(r:Int):Int:=if r=1∨r=3∨r=4 then 4611686018427387904 else 0
theorem EX(r:Int):oB r=some (Hn r):=by
 unfold oB Hn;by_cases h1:r=1
 ·simp [h1]
 by_cases h3:r=3
 ·simp [h3]
 by_cases h4:r=4
 ·simp [h4]
 simp [h1,h3,h4]
end Ev
end
noncomputable section
namespace Ev
open Go
def okR(r:Int):Bool:=decide (1≤r)&& decide (r≤5)
theorem zy(s:Sl It)(hok:okS 2 s)(hl:s.l.length≤9223372036854775807):gF s s=some true:=by
 unfold gF;rw [if_neg (by simp)]
 obtain⟨q,h1,h2⟩:=bK (b:=dK s s) s.l.length (fun j a=>a=(j:Int)) (fun q=>q= .inl ())
  (by
   rintro j _ hj rfl;simp only [dK,bu hok hj,zbS,bL hj (by omega)];rw [if_pos (by omega)]
   exact .inl ⟨_,if_pos (by simp),rfl⟩)
  (by
   rintro _ rfl
   exact⟨_,if_neg (by omega),rfl⟩) 0 (Nat.zero_le _) 0 rfl
 subst h2;rw [h1];rfl
theorem My(v:Int×Sl It)(hok:okS 2 v.2)(hl:v.2.l.length≤9223372036854775807):mK v v=some true:=by
 obtain⟨n,s⟩:=v;unfold mK;simp only [if_true,zy s hok hl,zbS]
end Ev
end
noncomputable section
namespace Ev
open Go
def cY(p:Int):List It→Option Int
 | []=>none
 |x::l=>if x.1=p then some x.2 else cY p l
theorem kF{p:Int}:∀{l:List It},(∀x∈l,x.1≠p)→cY p l=none
 | [],_=>rfl
 |x::l,h=>by
  unfold cY;rw [if_neg (h x List.mem_cons_self)];exact kF fun y hy=>h y (List.mem_cons_of_mem _ hy)
end Ev
end
noncomputable section
namespace Ev
open Go
theorem uF{n:Int}{s:Sl It}(h:eJ (n,s)=true){j:Nat}(hj:j<s.l.length):0≤s.l[j].1∧s.l[j].1<n:=by
 simp only [eJ,Bool.and_eq_true]at h
 have:=Jq h.2 _ (List.getElem_mem hj);omega
theorem zA{n:Int}{s:Sl It}(h:eJ (n,s)=true):0≤n∧n≤4096:=by
 simp only [eJ,xk,Bool.and_eq_true,decide_eq_true_eq]at h;omega
theorem nJ(p:Int):∀(l m:List It),cY p (l++m)=match cY p l with|some x=>some x|none=>cY p m
 | [],m=>rfl
 |x::l,m=>by
  simp only [List.cons_append,cY];by_cases h:x.1=p
  ·rw [if_pos h,if_pos h]
  ·rw [if_neg h,if_neg h];exact nJ p l m
theorem Mz{n:Int}{s:Sl It}(h:eJ (n,s)=true){j:Nat}(hj:j<s.l.length):cY (s.l[j].1) (s.l.take j)=none:=by
 simp only [eJ,Bool.and_eq_true]at h;refine kF fun x hx=> ?_;obtain⟨i,hi,rfl⟩:=List.getElem_of_mem hx;have hij:i<j:=by simp at hi;omega
 rw [List.getElem_take]
 have key:∀d i (hi:i+d+1<s.l.length),s.l[i].1<s.l[i+d+1].1:=by
  intro d
  induction d with
  |zero=>intro i hi;exact((asc_iff'.1 h.2) (i+1) hi).2.2 (by omega)
  |succ d ih=>intro i hi;have h1:=ih i (by omega);have h2:=((asc_iff'.1 h.2) (i+(d+1)+1) hi).2.2 (by omega);simp only [Nat.add_sub_cancel]at h2;exact Int.lt_trans h1 h2
 have:=key (j - i - 1) i (by omega)
 simp only [show i+(j - i - 1)+1=j by omega]at this;omega
theorem EY{v:Int×Sl It}(h:eJ v=true):lW v=v:=by unfold lW;rw [if_pos h]
end Ev
end
noncomputable section
namespace Ev
open Go
theorem Ho{n:Int}{l:List It}(h:asc (-1) n l=true){i k:Nat}(hik:i<k)(hk:k<l.length):l[i].1<l[k].1:=by
 have key:∀d i (hi:i+d+1<l.length),l[i].1<l[i+d+1].1:=by
  intro d
  induction d with
  |zero=>intro i hi;exact((asc_iff'.1 h) (i+1) hi).2.2 (by omega)
  |succ d ih=>intro i hi;have h1:=ih i (by omega);have h2:=((asc_iff'.1 h) (i+(d+1)+1) hi).2.2 (by omega);simp only [Nat.add_sub_cancel]at h2;exact Int.lt_trans h1 h2
 have:=key (k - i - 1) i (by omega)
 simp only [show i+(k - i - 1)+1=k by omega]at this;exact this
end Ev
end
noncomputable section
namespace Ev
open Go
abbrev Ed:=Int×Int×Int
def Jr(a b:Ed):Bool:=decide (a.1<b.1)||(decide (a.1=b.1)&& decide (a.2.1<b.2.1))
def Xk(l:List Ed):Prop:=∀i j (hi:i<l.length) (hj:j<l.length),i<j→Jr l[i] l[j]=true
theorem Xl{α:Type}{w:Nat}{l:List α}{j:Nat}(hj:j<l.length):atS w (mo w l) (j:Int)=some l[j]:=by
 have:=bu (s:=mo w l) (w:=w) (lu l) (j:=j) (by rw [gS];exact hj)
 rw [this];congr 1;simp only [gS]
structure Oi(r:Int)(K:Ed→Prop)(P:Int×Int→Prop):Prop where
 lo:∀a,P a→eh a.2
 one:∀y,K y→P (ofW y.2.2)
 add:∀a b,P a→P b→P (gT r a b)
end Ev
end
noncomputable section
namespace Ev
open Go
structure CE(K:Ed→Prop)(c:Nat)(E:List Ed):Prop where
 few:E.length≤c
 rise:Xk E
 ends:∀x∈E,∃y,K y∧x.1=y.1∧x.2.1=y.2.1
 vals:∀x∈E,cK x.2.2
theorem TO{r:Int}{K:Ed→Prop}{P:Int×Int→Prop}(hP:Oi r K P){e:Ed}(he:P (ofW e.2.2)):∀S:List (Sm.Ky×Sm.V),(∀p∈S,P p.2)→∀p∈Sm.ins (KM.RG r) S e,P p.2
 | [],_,p,hp=>by
  simp only [Sm.ins,List.mem_singleton]at hp;subst hp;exact he
 |q::S,h,p,hp=>by
  have hq:=h q List.mem_cons_self;have hS:∀p∈S,P p.2:=fun p hp=>h p (List.mem_cons_of_mem _ hp);unfold Sm.ins at hp;split at hp
  ·rcases List.mem_cons.1 hp with rfl|hp
   ·exact hq
   ·exact TO hP he S hS p hp
  ·split at hp
   ·rcases List.mem_cons.1 hp with rfl|hp
    ·exact he
    ·exact h p hp
   ·rcases List.mem_cons.1 hp with rfl|hp
    ·exact hP.add _ _ hq he
    ·exact hS p hp
theorem TP{r:Int}{K:Ed→Prop}{P:Int×Int→Prop}(hP:Oi r K P):∀{l:List Ed} (S:List (Sm.Ky×Sm.V)),(∀p∈S,P p.2)→(∀x∈l,K x)→∀p∈l.foldl (Sm.ins (KM.RG r)) S,P p.2
 | [],S,h,_=>h
 |e::l,S,h,hK=>by
  show∀p∈l.foldl (Sm.ins (KM.RG r)) (Sm.ins (KM.RG r) S e),P p.2;exact TP hP (l:=l) _ (TO hP (hP.one _ (hK e List.mem_cons_self)) S h) fun x hx=>hK x (List.mem_cons_of_mem _ hx)
theorem kD(r:Int)(s:Sl Ed)(hr:okR r=true)(hok:okS 3 s)(hl:s.l.length≤5000)(K:Ed→Prop)(P:Int×Int→Prop)(hP:Oi r K P)(hK:∀x∈s.l,K x):∃o,cE r s=some o∧((o=(⟨false,0,[]⟩,12)∧∃x,P x∧(cN x).2=false)∨∃E,o=(mo 3 E,0)∧CE K s.l.length E):=by
 have e:cE r s=some (mo 3 (Sm.sumR (KM.RG r) s.l).1,(Sm.sumR (KM.RG r) s.l).2):=KM.qr hok (by omega) hr;refine⟨_,e,?_⟩;obtain⟨g1,g2,g3,g4⟩:=KM.uA (r:=r) (l:=s.l);by_cases c:(Sm.canS (KM.RG r) s.l).all (fun p=>((KM.RG r).na p.2).2)=true
 ·right
  have h0:(Sm.sumR (KM.RG r) s.l).2=0:=by unfold Sm.sumR;rw [if_pos c]
  refine⟨(Sm.sumR (KM.RG r) s.l).1,by rw [h0],g2,fun i j hi hj hij=> ?_,fun x hx=> ?_,fun x hx=>(g3 x hx).1⟩
  ·have:=KM.bel_iff.1 (List.pairwise_iff_getElem.1 g1 i j hi hj hij)
   unfold Jr;simp only [Bool.or_eq_true,Bool.and_eq_true,decide_eq_true_eq];exact this
  ·obtain⟨y,h1,h2,h3⟩:=(g3 x hx).2;exact⟨y,hK y h1,h2.symm,h3.symm⟩
 ·left
  have e2:Sm.sumR (KM.RG r) s.l=([],12):=by unfold Sm.sumR;rw [if_neg c]
  rw [e2];refine⟨rfl,?_⟩;rw [List.all_eq_true]at c
  obtain⟨p,hp,hn⟩:∃p∈Sm.canS (KM.RG r) s.l,((KM.RG r).na p.2).2=false:=by
   apply Classical.byContradiction;intro hno;refine c fun p hp=> ?_
   cases hq:((KM.RG r).na p.2).2 with
   |true=>rfl
   |false=>exact absurd ⟨p,hp,hq⟩ hno
  exact⟨p.2,TP hP [] (fun p hp=>by simp at hp) hK p hp,hn⟩
def nK(v:Int×Sl It):Prop:=eJ v=true∧okS 2 v.2∧∀x∈v.2.l,cK x.2
theorem Oj:nK (0,eW):=⟨rfl,ik,fun x hx=>by simp [eW]at hx⟩
def KOf(n:Int)(Q:Int→Prop)(y:Ed):Prop:=y.1=0∧0≤y.2.1∧y.2.1<n∧Q y.2.2
theorem EZ(r n:Int)(s:Sl It)(hr:okR r=true)(hok:okS 2 s)(h0:0≤n)(hn:n≤4096)(hl:s.l.length≤5000)(Q:Int→Prop)(hs:∀x∈s.l,0≤x.1∧x.1<n∧Q x.2)(P:Int×Int→Prop)(hP:Oi r (KOf n Q) P):∃v e,oz r n s=some (v,e)∧nK v∧(v.1=n∨∃x,P x∧(cN x).2=false):=by
 have hr':=hr;unfold okR at hr';unfold oz;simp only [qN,hr',zbS,if_true];rw [if_neg (by omega),if_neg (by omega)]
 obtain⟨q,h1,h2⟩:=bK (b:=jE n s) s.l.length (fun j a=>a=((s.l.take j).map (fun x=>((0,x.1,x.2):Ed)),(j:Int))) (fun q=>q= .inl (s.l.map fun x=>((0,x.1,x.2):Ed)))
  (by
   rintro j _ hj rfl;have hx:=hs _ (List.getElem_mem hj);have ha:app ((s.l.take j).map (fun x=>((0,x.1,x.2):Ed))) [(0,s.l[j].1,s.l[j].2)]=some ((s.l.take j).map (fun x=>((0,x.1,x.2):Ed))++ [(0,s.l[j].1,s.l[j].2)]):=gA (by simp;unfold cd;omega);simp only [jE,bu hok hj,zbS,bL hj (by omega),ha];rw [if_pos (by omega),if_neg (by omega),if_neg (by omega)];refine .inl ⟨_,rfl,?_⟩
   rw [List.take_succ_eq_append_getElem hj,List.map_append];rfl)
  (by
   rintro _ rfl
   exact⟨_,if_neg (by omega),by rw [List.take_length]⟩) 0 (Nat.zero_le _) ([],0) rfl
 subst h2;rw [h1];simp only [zbS,Sum.elim_inl]
 obtain⟨o,h3,h4⟩:=kD r (mo 3 (s.l.map fun x=>((0,x.1,x.2):Ed))) hr (lu _) (by rw [gS];simpa using hl) (KOf n Q) P hP (fun x hx=>by
  rw [gS]at hx;obtain⟨y,hy,rfl⟩:=List.mem_map.1 hx
  exact⟨rfl,hs y hy⟩)
 rw [h3];rcases h4 with⟨rfl,hbad⟩|⟨E,rfl,hE⟩
 ·exact⟨_,_,rfl,Oj,.inr hbad⟩
 have hfew:E.length≤5000:=by have:=hE.few;rw [gS]at this;simp at this;omega
 simp only [zbS,ne_eq,not_true,if_false]
 obtain⟨q,h5,h6⟩:=bK (b:=ib (mo 3 E)) E.length (fun j a=>a=((j:Int),(E.take j).map (fun x=>((x.2.1,x.2.2):It)))) (fun q=>q= .inl (E.map fun x=>((x.2.1,x.2.2):It)))
  (by
   rintro j _ hj rfl;have ha:app ((E.take j).map (fun x=>((x.2.1,x.2.2):It))) [(E[j].2.1,E[j].2.2)]=some ((E.take j).map (fun x=>((x.2.1,x.2.2):It))++ [(E[j].2.1,E[j].2.2)]):=gA (by simp;unfold cd;omega);simp only [ib,Xl hj,gS,zbS,bL hj (by omega),ha];rw [if_pos (by omega)];refine .inl ⟨_,rfl,?_⟩
   rw [List.take_succ_eq_append_getElem hj,List.map_append];rfl)
  (by
   rintro _ rfl;simp only [ib,gS]
   exact⟨_,if_neg (by omega),by rw [List.take_length]⟩) 0 (Nat.zero_le _) (0,[]) rfl
 subst h6;rw [h5];refine⟨_,_,rfl,⟨?_,lu _,fun x hx=> ?_⟩,.inl rfl⟩
 ·simp only [eJ,xk,gS,decide_eq_true h0,decide_eq_true hn,Bool.true_and];refine asc_iff'.2 fun j hj=> ?_;have hjE:j<E.length:=by simpa using hj
  obtain⟨y,⟨y1,y2,y3,_⟩,y4,y5⟩:=hE.ends _ (List.getElem_mem hjE);simp only [List.getElem_map];refine⟨by omega,by omega,fun hj0=> ?_⟩;obtain⟨z,⟨z1,z2,z3,_⟩,z4,z5⟩:=hE.ends _ (List.getElem_mem (show j - 1<E.length by omega))
  have:=hE.rise (j - 1) j (by omega) hjE (by omega)
  simp only [Jr,Bool.or_eq_true,Bool.and_eq_true,decide_eq_true_eq]at this;omega
 ·rw [gS]at hx;obtain⟨y,hy,rfl⟩:=List.mem_map.1 hx;exact hE.vals y hy
def OfN(a:Int×Int):Prop:=∃n,cK n∧a=ofW n
theorem US(n:Int):Oi 1 (KOf n cK) OfN:=⟨fun a h=>by obtain⟨m,_,rfl⟩:=h;exact zh _,fun y hy=>⟨_,hy.2.2.2,rfl⟩,fun a b ha hb=>by
 unfold gT mN;rw [if_pos (.inl rfl)];split
 ·exact hb
 ·exact ha⟩
theorem Js{a:Int×Int}(h:OfN a):(cN a).2=true:=by
 obtain⟨m,hm,rfl⟩:=h;unfold cN;have e:IntKind.i64.wrap (ofW m).2=m:=by show IntKind.i64.wrap (IntKind.u64.wrap m)=m;rw [wrap_u64,IntKind.wrap_i64];unfold cK at hm;omega
 rw [e,if_pos rfl]
theorem Fc(n:Int)(s:Sl It)(hok:okS 2 s)(h0:0≤n)(hn:n≤4096)(hl:s.l.length≤5000)(hs:∀x∈s.l,0≤x.1∧x.1<n∧cK x.2):∃v e,oz 1 n s=some (v,e)∧nK v∧v.1=n:=by
 obtain⟨v,e,h1,h2,h3⟩:=EZ 1 n s (by decide) hok h0 hn hl cK hs _ (US n);refine⟨v,e,h1,h2,h3.resolve_right ?_⟩;rintro⟨x,hx,hb⟩;rw [Js hx]at hb;simp at hb
end Ev
end
noncomputable section
namespace Ev
open Go
theorem TQ{n:Int}(h:inK .u8 n):0≤n∧n≤255:=by simpa [inK,Lit.wf,IntKind.min,IntKind.max,IntKind.signed,IntKind.bits]using h
end Ev
end
noncomputable section
namespace Ev
open Go
end Ev
end
noncomputable section
namespace Ev
open Go
end Ev
end
noncomputable section
namespace Ev
open Go
theorem QY{a b:Int×Int}(ha:eh a.2)(hb:eh b.2):xV a b=((a.1+b.1+(a.2+b.2)/ 18446744073709551616+9223372036854775808)% 18446744073709551616 - 9223372036854775808,(a.2+b.2)% 18446744073709551616):=by
 unfold eh at ha hb;unfold xV;simp only [wrap_u64,IntKind.wrap_i64];split
 ·refine Prod.ext ?_ rfl;simp only;omega
 ·refine Prod.ext ?_ rfl;simp only;omega
end Ev
end
noncomputable section
namespace Ev
open Go
def toW(z:Int):Int×Int:=((z / 18446744073709551616+9223372036854775808)% 18446744073709551616 - 9223372036854775808,z % 18446744073709551616)
theorem Ol(z:Int):eh (toW z).2:=by unfold toW eh;simp only;omega
theorem Lk{n:Int}(h:cK n):ofW n=toW n:=by
 unfold ofW toW cK at*;rw [wrap_u64];refine Prod.ext ?_ rfl;simp only;split<;>omega
theorem QZ(a b:Int):xV (toW a) (toW b)=toW (a+b):=by
 rw [QY (Ol a) (Ol b)];unfold toW;refine Prod.ext ?_ ?_<;>simp only<;>omega
theorem Jt(z k:Int):toW (z+k*340282366920938463463374607431768211456)=toW z:=by
 unfold toW;refine Prod.ext ?_ ?_<;>simp only<;>omega
theorem pL(a b:Int):jY (toW a) (toW b)=some (toW (a+b)):=by rw [xm,QZ]
theorem Ll{n:Int}(h:eh n):fO .u64 n 4294967295=n % 4294967296:=by
 obtain⟨h0,h1⟩:=h;obtain⟨m,rfl⟩:=Int.eq_ofNat_of_zero_le h0;unfold fO;have hb:IntKind.u64.bits=64:=rfl;rw [hb,wrap_u64];have e1:(BitVec.ofInt 64 (m:Int)).toNat=m:=by rw [BitVec.toNat_ofInt];omega
 have e2:(BitVec.ofInt 64 4294967295).toNat=2 ^ 32 - 1:=by decide
 rw [BitVec.toNat_and,e1,e2,Nat.and_two_pow_sub_one_eq_mod];omega
theorem Ju{n:Int}(h:eh n):wh .u64 n 32=some (n / 4294967296):=by
 unfold wh PC;rw [if_pos (by decide)];have e:(2:Int)^(min (32:Int).toNat IntKind.u64.bits)=4294967296:=by decide
 rw [e,Int.fdiv_eq_ediv_of_nonneg _ (by decide)]
theorem uG{a b:Int}(ha:0≤a)(ha':a≤4294967295)(hb:0≤b)(hb':b≤4294967295):0≤a*b∧a*b≤18446744065119617025:=
 ⟨Int.mul_nonneg ha hb,by have:=Int.mul_le_mul ha' hb' hb (by decide);omega⟩
theorem vV{a b:Int}(ha:eh a)(hb:eh b):jd a b=some ((a % 4294967296)*(b % 4294967296),(a % 4294967296)*(b / 4294967296),(a / 4294967296)*(b % 4294967296),(a / 4294967296)*(b / 4294967296)):=by
 unfold jd;rw [Ju ha,Ju hb];simp only [zbS,Ll ha,Ll hb];unfold eh at ha hb
 have w:∀{x y:Int},0≤x→x≤4294967295→0≤y→y≤4294967295→IntKind.u64.wrap (x*y)=x*y:=fun h1 h2 h3 h4=>by
  have:=uG h1 h2 h3 h4
  rw [wrap_u64];exact Int.emod_eq_of_lt this.1 (by omega)
 rw [w (by omega) (by omega) (by omega) (by omega),w (by omega) (by omega) (by omega) (by omega),w (by omega) (by omega) (by omega) (by omega),w (by omega) (by omega) (by omega) (by omega)]
theorem uH{n:Int}(h:eh n):mu (0,n) 32=some (toW (n*4294967296)):=by
 unfold mu;simp only;rw [if_neg (by decide),if_neg (by decide),if_neg (by decide)];have e1:IntKind.u64.wrap 0=0:=by decide
 have e2:IntKind.u64.wrap 32=32:=by decide
 have e3:IntKind.u64.wrap (IntKind.i64.wrap (64 - 32))=32:=by decide
 rw [e1,e2,e3,Ju h];unfold Ai PD;have e:(2:Int)^(min (32:Int).toNat IntKind.u64.bits)=4294967296:=by decide
 simp only [e,zbS,if_pos (show(0:Int)≤32 by decide),Int.zero_mul,e1]
 have hor:orI .u64 0 (n / 4294967296)=n / 4294967296:=by
  unfold eh at h;obtain⟨m,hm⟩:=Int.eq_ofNat_of_zero_le (show 0≤n / 4294967296 by omega);rw [hm];unfold orI;have hb:IntKind.u64.bits=64:=rfl;have e0:BitVec.ofInt 64 0=0#64:=by decide
  rw [hb,wrap_u64,e0,BitVec.zero_or,BitVec.toNat_ofInt];omega
 rw [hor,IntKind.wrap_i64,wrap_u64];unfold toW;unfold eh at h;congr 1;refine Prod.ext ?_ ?_<;>simp only<;>omega
theorem Hp{x y:Int}(hx:cK x)(hy:cK y):qK x y=some (toW (x*y)):=by
 unfold qK;have hux:=mM x;have huy:=mM y;have gx:IntKind.u64.wrap x=x+(if x<0 then 18446744073709551616 else 0):=by rw [wrap_u64];unfold cK at hx;split<;>omega
 have gy:IntKind.u64.wrap y=y+(if y<0 then 18446744073709551616 else 0):=by rw [wrap_u64];unfold cK at hy;split<;>omega
 generalize hX:IntKind.u64.wrap x=X at hux gx;generalize hY:IntKind.u64.wrap y=Y at huy gy;rw [vV hux huy];simp only [zbS];unfold eh at hux huy;generalize ha:X % 4294967296=a;generalize hA:X / 4294967296=A;generalize hb:Y % 4294967296=b;generalize hB:Y / 4294967296=B;have hXe:X=A*4294967296+a:=by omega
 have hYe:Y=B*4294967296+b:=by omega
 have p0:=uG (a:=a) (b:=b) (by omega) (by omega) (by omega) (by omega);have p1:=uG (a:=a) (b:=B) (by omega) (by omega) (by omega) (by omega);have p2:=uG (a:=A) (b:=b) (by omega) (by omega) (by omega) (by omega);have p3:=uG (a:=A) (b:=B) (by omega) (by omega) (by omega) (by omega)
 have hXY:X*Y=(A*B)*18446744073709551616+(a*B+A*b)*4294967296+a*b:=by
  rw [hXe,hYe,Int.add_mul,Int.mul_add,Int.mul_add]
  have q1:A*4294967296*(B*4294967296)=A*B*18446744073709551616:=by
   rw [Int.mul_assoc,Int.mul_left_comm 4294967296 B,←Int.mul_assoc];rfl
  have q2:A*4294967296*b=A*b*4294967296:=by rw [Int.mul_assoc,Int.mul_comm 4294967296 b,←Int.mul_assoc]
  have q3:a*(B*4294967296)=a*B*4294967296:=by rw [Int.mul_assoc]
  rw [q1,q2,q3];omega
 generalize hab:a*b=ab at*;generalize haB:a*B=aB at*;generalize hAb:A*b=Ab at*;generalize hAB:A*B=AB at*;rw [uH (n:=aB) ⟨by omega,by omega⟩];simp only [zbS]
 have e0:((IntKind.i64.wrap AB,ab):Int×Int)=toW (AB*18446744073709551616+ab):=by
  rw [IntKind.wrap_i64];unfold toW;refine Prod.ext ?_ ?_<;>simp only<;>omega
 rw [e0,show((toW (aB*4294967296)).1,(toW (aB*4294967296)).2)=toW (aB*4294967296)from rfl,pL];simp only [zbS];rw [uH (n:=Ab) ⟨by omega,by omega⟩];simp only [zbS];rw [show∀z,((toW z).1,(toW z).2)=toW z from fun _=>rfl,show∀z,((toW z).1,(toW z).2)=toW z from fun _=>rfl,pL];simp only [zbS];have e1:AB*18446744073709551616+ab+aB*4294967296+Ab*4294967296=X*Y:=by omega
 rw [e1]
 have hsub:∀z w:Int,(IntKind.i64.wrap ((toW z).1 - w),(toW z).2)=toW (z - w*18446744073709551616):=fun z w=>by
  rw [IntKind.wrap_i64];unfold toW;refine Prod.ext ?_ ?_<;>simp only<;>omega
 have hsub2:∀z w v:Int,(IntKind.i64.wrap (IntKind.i64.wrap ((toW z).1 - w) - v),(toW z).2)=toW (z - w*18446744073709551616 - v*18446744073709551616):=fun z w v=>by
  rw [IntKind.wrap_i64,IntKind.wrap_i64];unfold toW;refine Prod.ext ?_ ?_<;>simp only<;>omega
 by_cases hx0:x<0
 ·rw [if_pos hx0];rw [if_pos hx0]at gx;by_cases hy0:y<0
  ·rw [if_pos hy0,hsub2];rw [if_pos hy0]at gy
   have:X*Y - y*18446744073709551616 - x*18446744073709551616=x*y+1*340282366920938463463374607431768211456:=by
    rw [gx,gy,Int.add_mul,Int.mul_add,Int.mul_add];rw [Int.mul_comm x 18446744073709551616];omega
   rw [this,Jt]
  ·rw [if_neg hy0,hsub];rw [if_neg hy0]at gy
   have:X*Y - y*18446744073709551616=x*y:=by
    rw [gx,gy,Int.add_zero,Int.add_mul,Int.mul_comm 18446744073709551616 y];omega
   rw [this]
 ·rw [if_neg hx0];rw [if_neg hx0]at gx;by_cases hy0:y<0
  ·rw [if_pos hy0,hsub];rw [if_pos hy0]at gy
   have:X*Y - x*18446744073709551616=x*y:=by
    rw [gx,gy,Int.add_zero,Int.mul_add];omega
   rw [this]
  ·rw [if_neg hy0];rw [if_neg hy0]at gy;rw [gx,gy,Int.add_zero,Int.add_zero]
def pM:Int:=4611686018427387904
def pN(r x y:Int):Int×Int:=
 if r=1 then(if pM≤x∨pM≤y then ofW pM else mN (toW (x+y)) (ofW pM))
 else if r=2 then nX (!decide (x=0)&& !decide (y=0))
 else if r=4 then(if pM≤x∨pM≤y then ofW pM else ofW y)
 else if r=3 then(if pM≤x∨pM≤y then ofW pM else ofW x)
 else if r=5 then toW (x*y)else(0,0)
theorem Xm:cK pM:=by unfold cK pM;omega
theorem xn(r:Int){x y:Int}(hx:cK x)(hy:cK y):lf r x y=some (pN r x y):=by
 have hi:=Xm;unfold lf pN;have hI:(4611686018427387904:Int)=pM:=rfl;rw [hI];by_cases h1:r=1
 ·rw [if_pos h1,if_pos h1];by_cases c1:x ≥ pM
  ·rw [if_pos c1,if_pos (.inl c1),dO hi];rfl
  ·rw [if_neg c1];by_cases c2:y ≥ pM
   ·rw [if_pos c2,if_pos (.inr c2),dO hi];rfl
   ·rw [if_neg c2,if_neg (by omega),dO hx,dO hy];simp only [zbS];rw [show∀z,((ofW z).1,(ofW z).2)=ofW z from fun _=>rfl,show∀z,((ofW z).1,(ofW z).2)=ofW z from fun _=>rfl,Lk hx,Lk hy,pL];simp only [zbS];rw [dO hi];simp only [zbS];rw [show∀z,((ofW z).1,(ofW z).2)=ofW z from fun _=>rfl,show∀z,((toW z).1,(toW z).2)=toW z from fun _=>rfl,qS];rfl
 ·rw [if_neg h1,if_neg h1];by_cases h2:r=2
  ·rw [if_pos h2,if_pos h2];by_cases c1:x=0
   ·rw [if_neg (by simpa using c1),kW];simp [c1]
   ·rw [if_pos c1];by_cases c2:y=0
    ·rw [if_neg (by simpa using c2),kW];simp [c2]
    ·rw [if_pos c2,kW];simp [c1,c2]
  ·rw [if_neg h2,if_neg h2];by_cases h4:r=4
   ·rw [if_pos h4,if_pos h4];by_cases c2:y ≥ pM
    ·rw [if_pos c2,if_pos (.inr c2),dO hi];rfl
    ·rw [if_neg c2];by_cases c1:x ≥ pM
     ·rw [if_pos c1,if_pos (.inl c1),dO hi];rfl
     ·rw [if_neg c1,if_neg (by omega),dO hy];rfl
   ·rw [if_neg h4,if_neg h4];by_cases h3:r=3
    ·rw [if_pos h3,if_pos h3];by_cases c1:x ≥ pM
     ·rw [if_pos c1,if_pos (.inl c1),dO hi];rfl
     ·rw [if_neg c1];by_cases c2:y ≥ pM
      ·rw [if_pos c2,if_pos (.inr c2),dO hi];rfl
      ·rw [if_neg c2,if_neg (by omega),dO hx];rfl
    ·rw [if_neg h3,if_neg h3];by_cases h5:r=5
     ·rw [if_pos h5,if_pos h5,Hp hx hy];rfl
     ·rw [if_neg h5,if_neg h5]
end Ev
end
noncomputable section
namespace Ev
open Go
def hd:List It→List It→Int×Option Int×Option Int×List It×List It
 | [],[]=>(0,none,none,[],[])
 |x::l,[]=>(x.1,some x.2,none,l,[])
 | [],y::m=>(y.1,none,some y.2,[],m)
 |x::l,y::m=>if x.1≤y.1 then(if y.1≤x.1 then(y.1,some x.2,some y.2,l,m)else(x.1,some x.2,none,l,y::m))else(y.1,none,some y.2,x::l,m)
end Ev
end
noncomputable section
namespace Ev
open Go
end Ev
end
noncomputable section
namespace Ev
open Go
theorem BJ(n:Int)(s:Sl It)(hn:0≤n∧n≤255)(hok:okS 2 s)(hl:s.l.length≤9223372036854775807)(hv:∀x∈s.l,cK x.2):∃v,mD n s=some v∧nK v∧v.1=n.tmod 60:=by
 unfold mD;have hw:IntKind.i64.wrap n=n:=bW (by omega) (by omega)
 obtain⟨k,hk,k0,k1,k2⟩:∃k,kJ n 60=some k∧0≤k∧k<60∧k=n.tmod 60:=by
  refine⟨n.tmod 60,by unfold kJ;rw [if_pos (by omega)],?_,?_,rfl⟩
  ·exact Int.tmod_nonneg _ hn.1
  ·exact Int.tmod_lt_of_pos _ (by omega)
 rw [hw,hk];simp only [zbS]
 obtain⟨q,h1,l,rfl,h2,h3⟩:=bK (b:=fK s k) (if 0<k then min s.l.length 60 else 0) (fun j a=>∃l,a=(l,(j:Int))∧l.length≤j∧∀x∈l,0≤x.1∧x.1<k∧cK x.2) (fun q=>∃l,q= .inl l∧l.length≤60∧∀x∈l,0≤x.1∧x.1<k∧cK x.2)
  (by
   rintro j _ hj ⟨l,rfl,hlj,hlk⟩
   have hk0:0<k:=by
    by_cases c:0<k
    ·exact c
    ·rw [if_neg c]at hj;omega
   rw [if_pos hk0]at hj;have hj1:j<s.l.length:=by omega
   have hj2:j<60:=by omega
   simp only [fK,bu hok hj1,zbS,bL hj1 (by omega)];rw [if_pos (by omega),if_pos (by omega),if_pos (by omega)];by_cases c:s.l[j].1 ≥ 0
   ·rw [if_pos c];have hm:kJ s.l[j].1 k=some (s.l[j].1.tmod k):=by unfold kJ;rw [if_pos (by omega)]
    have ha:app l [(s.l[j].1.tmod k,s.l[j].2)]=some (l++ [(s.l[j].1.tmod k,s.l[j].2)]):=gA (by simp;unfold cd;omega);simp only [hm,ha,zbS];refine .inl ⟨_,rfl,_,rfl,by simp;omega,fun x hx=> ?_⟩;rcases List.mem_append.1 hx with hx|hx
    ·exact hlk x hx
    ·simp only [List.mem_singleton]at hx;subst hx;exact⟨Int.tmod_nonneg _ c,Int.tmod_lt_of_pos _ hk0,by have:=hv s.l[j] (List.getElem_mem hj1);exact this⟩
   ·rw [if_neg c]
    exact .inl ⟨_,rfl,l,rfl,by omega,hlk⟩)
  (by
   rintro _ ⟨l,rfl,hlj,hlk⟩
   have hb:l.length≤60:=by
    by_cases c:0<k
    ·rw [if_pos c]at hlj;omega
    ·rw [if_neg c]at hlj;omega
   refine⟨.inl l,?_,l,rfl,hb,hlk⟩;simp only [fK];by_cases c:0<k
   ·rw [if_pos c];by_cases c1:((min s.l.length 60:Nat):Int)<(s.l.length:Int)
    ·rw [if_pos c1,if_neg (by omega)]
    ·rw [if_neg c1]
   ·rw [if_neg c];by_cases c1:((0:Nat):Int)<(s.l.length:Int)
    ·rw [if_pos c1,if_pos (by omega),if_neg (by omega)]
    ·rw [if_neg c1]) 0 (Nat.zero_le _) ([],0) ⟨[],rfl,Nat.le_refl _,fun x hx=>by simp at hx⟩
 rw [h1];simp only [zbS,Sum.elim_inl];obtain⟨v,e,g1,g2,g3⟩:=Fc k (mo 2 l) (lu _) k0 (by omega) (by rw [gS];omega) (fun x hx=>h3 x (by rw [gS]at hx;exact hx));rw [g1];exact⟨_,rfl,g2,by rw [g3,k2]⟩
theorem Fd{n:Int}{r:List It}(h0:0≤n)(h1:n≤4096)(ha:asc (-1) n r=true)(hr:∀x∈r,cK x.2):nK (n,mo 2 r):=by
 refine⟨?_,lu _,by simpa only [gS]using hr⟩;unfold eJ xk;simp only [gS,ha,decide_eq_true h0,decide_eq_true h1,Bool.and_self]
end Ev
end
noncomputable section
namespace Ev
open Go
theorem rE{v:Int×Sl It}(h:eJ v=true):asc (-1) v.1 v.2.l=true:=by unfold eJ at h;simp only [Bool.and_eq_true]at h;exact h.2
abbrev RR:=List It ⊕((Int×Sl It)×Int)
end Ev
end
noncomputable section
namespace Ev
open Go
theorem Jv{j:Nat}(hj:j<1000000):vc .i64 (j:Int) 64=some ((j / 64:Nat):Int):=by
 unfold vc;rw [if_pos (by decide),Int.tdiv_eq_ediv_of_nonneg (by omega),bW (by omega) (by omega)];rfl
theorem Jw{j:Nat}:kJ (j:Int) 64=some ((j % 64:Nat):Int):=by
 unfold kJ;rw [if_pos (by decide),Int.tmod_eq_emod_of_nonneg (by omega)];rfl
theorem Ra{a b:Nat}(ha:a<18446744073709551616)(hb:b<18446744073709551616):fO .u64 (a:Int) (b:Int)=((a &&& b:Nat):Int):=by
 unfold fO;have hb':IntKind.u64.bits=64:=rfl;rw [hb',BitVec.toNat_and,BitVec.toNat_ofInt,BitVec.toNat_ofInt,wrap_u64];have e1:((a:Int)%((2 ^ 64:Nat):Int)).toNat=a:=by omega
 have e2:((b:Int)%((2 ^ 64:Nat):Int)).toNat=b:=by omega
 rw [e1,e2]
 have:a &&& b<2 ^ 64:=Nat.and_lt_two_pow a (by omega)
 omega
def gr(ws:List Int)(p:Nat):Bool:=match ws[p / 64]? with|some w=>w.toNat.testBit (p % 64)|none=>false
def oT(ws:List Int):Prop:=∀w∈ws,eh w
theorem Rb(a k:Nat):a &&& 2 ^ k≠0↔a.testBit k=true:=by
 constructor
 ·intro h
  cases hc:a.testBit k with
  |true=>rfl
  |false=>
   refine absurd (Nat.eq_of_testBit_eq fun i=> ?_) h;rw [Nat.testBit_and,Nat.testBit_two_pow,Nat.zero_testBit];by_cases e:k=i
   ·subst e;rw [hc];rfl
   ·rw [decide_eq_false e,Bool.and_false]
 ·intro h e
  have:(a &&& 2 ^ k).testBit k=false:=by rw [e];exact Nat.zero_testBit _
  rw [Nat.testBit_and,Nat.testBit_two_pow,h]at this;simp at this
theorem Jx{k:Nat}(hk:k<64):2 ^ k<18446744073709551616:=Nat.pow_lt_pow_right (by decide) hk
theorem kf(s:Sl Int)(p:Nat)(hok:okS 1 s)(hu:oT s.l)(hp:p<1000000):eG s (p:Int)=some (gr s.l p):=by
 unfold eG iG gr;simp only [Jv hp,zbS];rw [if_pos (by omega)];by_cases h:p / 64<s.l.length
 ·rw [if_pos (by omega)];simp only [zbS,if_true,bu hok h];have hw:=hu _ (List.getElem_mem h);have hg:s.l[p / 64]? =some s.l[p / 64]:=List.getElem?_eq_getElem h;rw [hg];obtain⟨w,hw2⟩:=Int.eq_ofNat_of_zero_le hw.1;rw [hw2]at hw ⊢;have hk:p % 64<64:=Nat.mod_lt _ (by decide);have hpow:=Jx hk
  have hb:jG (p:Int)=some ((2 ^(p % 64):Nat):Int):=by
   unfold jG;simp only [Jw,zbS];have e:IntKind.u64.wrap ((p % 64:Nat):Int)=((p % 64:Nat):Int):=by rw [wrap_u64];omega
   rw [e];unfold Ai PD;rw [if_pos (by omega)]
   have hmin:min (((p % 64:Nat):Int)).toNat IntKind.u64.bits=p % 64:=by
    have:IntKind.u64.bits=64:=rfl
    omega
   rw [hmin,Int.one_mul,wrap_u64];simp only [zbS];congr 1
   have:(2:Int)^(p % 64)=((2 ^(p % 64):Nat):Int):=by simp
   rw [this];clear this;generalize 2 ^(p % 64)=z at hpow ⊢;omega
  rw [hb];simp only [zbS];rw [Ra (by have:=hw.2;omega) hpow];simp only [Int.toNat_natCast];have ht:=Rb w (p % 64)
  cases hc:w.testBit (p % 64)with
  |false=>rw [hc]at ht;rw [if_neg (fun h=>by have:=ht.1 (fun e=>h (by rw [e];rfl));simp at this)]
  |true=>rw [hc]at ht;rw [if_pos (by have:=ht.2 rfl;omega)]
 ·rw [if_neg (by omega)];simp only [zbS,Bool.false_eq_true,if_false];rw [List.getElem?_eq_none (by omega)]
theorem Rc{s:Sl Int}(h:SlW 1 (fun x=>inK .u64 x) s):oT s.l:=fun x hx=>by
 have:=h.2.2.2 x hx
 simpa [inK,eh,Lit.wf,IntKind.min,IntKind.max,IntKind.signed,IntKind.bits]using this
end Ev
end
noncomputable section
namespace Ev
open Go
theorem mz{ws:List Int}{p i k:Nat}{w:Int}(hp:p / 64=i)(hk:p % 64=k)(hw:ws[i]? =some w):gr ws p=w.toNat.testBit k:=by unfold gr;rw [hp,hk,hw]
theorem zB{ws:List Int}{p:Nat}(h:ws.length≤p / 64):gr ws p=false:=by unfold gr;rw [List.getElem?_eq_none h]
theorem UT{a b:Nat}(ha:a<18446744073709551616)(hb:b<18446744073709551616):orI .u64 (a:Int) (b:Int)=((a|||b:Nat):Int):=by
 unfold orI;have hb':IntKind.u64.bits=64:=rfl;rw [hb',BitVec.toNat_or,BitVec.toNat_ofInt,BitVec.toNat_ofInt,wrap_u64];have e1:((a:Int)%((2 ^ 64:Nat):Int)).toNat=a:=by omega
 have e2:((b:Int)%((2 ^ 64:Nat):Int)).toNat=b:=by omega
 rw [e1,e2]
 have:a|||b<2 ^ 64:=Nat.or_lt_two_pow (by omega) (by omega)
 omega
theorem Rd{p:Nat}:Ai .u64 1 (IntKind.u64.wrap ((p % 64:Nat):Int))=some ((2 ^(p % 64):Nat):Int):=by
 have hk:p % 64<64:=Nat.mod_lt _ (by decide);have hpow:=Jx hk;have e:IntKind.u64.wrap ((p % 64:Nat):Int)=((p % 64:Nat):Int):=by rw [wrap_u64];omega
 rw [e];unfold Ai PD;rw [if_pos (by omega)]
 have hmin:min (((p % 64:Nat):Int)).toNat IntKind.u64.bits=p % 64:=by
  have:IntKind.u64.bits=64:=rfl
  omega
 rw [hmin,Int.one_mul,wrap_u64];congr 1
 have:(2:Int)^(p % 64)=((2 ^(p % 64):Nat):Int):=by simp
 rw [this];clear this;generalize 2 ^(p % 64)=z at hpow ⊢;omega
theorem Om(k i:Nat):gr (List.replicate k 0) i=false:=by
 unfold gr;rw [List.getElem?_replicate];split
 ·rename_i h;split at h
  ·simp only [zsI]at h;rw [←h];simp
  ·simp at h
 ·rfl
end Ev
end
noncomputable section
namespace Ev
open Go
abbrev E3:=Int×Int×Int
def bel(a b:E3):Bool:=decide (a.1<b.1)||(decide (a.1=b.1)&& decide (a.2.1<b.2.1))
theorem bel_iff{a b:E3}:bel a b=true↔a.1<b.1∨a.1=b.1∧a.2.1<b.2.1:=by unfold bel;simp
def dN{α:Type}(l:List α)(k:Nat)(y:α):List α:=l.take k++y::l.drop k
theorem GV{α:Type}{l:List α}{k:Nat}(y:α):(dN l k y).length=l.length+1:=by unfold dN;simp;omega
theorem pI{α:Type}{l:List α}{k:Nat}(hk:k≤l.length)(y:α):(dN l k y)[k]? =some y:=by
 unfold dN;rw [List.getElem?_append_right (by rw [List.length_take];omega),List.length_take,Nat.min_eq_left hk,Nat.sub_self];rfl
theorem mO{α:Type}{l:List α}{k:Nat}(hk:k≤l.length)(y x:α):(dN l k y).set k x=dN l k x:=by
 unfold dN;rw [List.set_append_right _ _ (by rw [List.length_take];omega),List.length_take,Nat.min_eq_left hk,Nat.sub_self];rfl
theorem oK{α:Type}(l:List α)(y:α):dN l l.length y=l++ [y]:=by unfold dN;simp
theorem oL{α:Type}{l:List α}{k:Nat}(hk:k+1≤l.length)(y:α):(dN l (k+1) y)[k]? =some l[k]∧dN l (k+1) l[k]=dN l k l[k]:=by
 unfold dN;constructor
 ·rw [List.getElem?_append_left (by simp;omega),List.getElem?_take,if_pos (by omega),List.getElem?_eq_getElem]
 ·rw [List.take_succ_eq_append_getElem (by omega),List.append_assoc,List.drop_eq_getElem_cons (i:=k) (by omega)];rfl
theorem GW{α:Type}{l:List α}{k:Nat}{y x:α}(h:x∈dN l k y):x=y∨x∈l:=by
 unfold dN at h;rcases List.mem_append.1 h with h|h
 ·exact .inr (List.mem_of_mem_take h)
 ·rcases List.mem_cons.1 h with h|h
  ·exact .inl h
  ·exact .inr (List.mem_of_mem_drop h)
abbrev RC:=(List E3×List (Int×Int)×Int)⊕((List E3×List (Int×Int))⊕(Sl E3×Int))
abbrev dm(l:List E3):Prop:=l.Pairwise fun a b=>bel a b=true
end Ev
end
noncomputable section
namespace Ev
open Go
theorem Cq{x:Nat}(h:x≠0):∃i,x.testBit i=true:=by
 by_cases hh:∃i,x.testBit i=true
 ·exact hh
 ·refine absurd (Nat.eq_of_testBit_eq (y:=0) fun i=> ?_) h;rw [Nat.zero_testBit]
  cases hb:x.testBit i with
  |false=>rfl
  |true=>exact absurd ⟨i,hb⟩ hh
theorem Re{w k:Nat}(hw:w<18446744073709551616)(hk:k<64):wh .u64 (w:Int) (IntKind.u64.wrap ((k:Nat):Int))=some ((w / 2 ^ k:Nat):Int):=by
 have e:IntKind.u64.wrap ((k:Nat):Int)=((k:Nat):Int):=by rw [wrap_u64];omega
 rw [e];unfold wh PC;rw [if_pos (by omega)]
 have hmin:min (((k:Nat):Int)).toNat IntKind.u64.bits=k:=by
  have:IntKind.u64.bits=64:=rfl
  omega
 rw [hmin]
 have:(2:Int)^ k=((2 ^ k:Nat):Int):=by simp
 rw [this,Int.fdiv_eq_ediv_of_nonneg _ (Int.natCast_nonneg _)];rfl
theorem On{w k:Nat}(hw:w<18446744073709551616)(h:w.testBit k=true):k<64:=by
 by_cases hk:k<64
 ·exact hk
 ·have:w<2 ^ k:=Nat.lt_of_lt_of_le (show w<2 ^ 64 by omega) (Nat.pow_le_pow_right (by decide) (by omega))
  rw [Nat.testBit_lt_two_pow this]at h;simp at h
theorem TR{x:Nat}(h0:x≠0)(h:x<18446744073709551616):∃k:Nat,TZ (x:Int)=some (k:Int)∧k<64:=by
 unfold TZ;rw [if_pos (by omega)];exact⟨_,rfl,by simpa using (Lib.lowest_bit 64 x h0 h).2⟩
theorem Rf{n6 j:Int}{w:Nat}(hw:w<18446744073709551616)(h0:0≤n6∧n6≤100)(h1:0≤j∧j≤100):(w=0→aL (eC n6 j w) ()=some (.inr (.inl ())))∧(w≠0→∃z,0≤z∧aL (eC n6 j w) ()=some (.inl z)):=by
 constructor
 ·intro h;exact iq (by unfold eC;rw [if_neg (by omega)])
 ·intro h;obtain⟨k,hk,hlt⟩:=TR h hw;refine⟨_,?_,iq (by unfold eC;rw [if_pos (by omega),hk];rfl)⟩;rw [bW (n:=n6+1) (by omega) (by omega),bW (n:=(n6+1)*64) (by omega) (by omega),bW (n:=j*64) (by omega) (by omega),bW (n:=j*64+(k:Int)) (by omega) (by omega),bW (by omega) (by omega)];omega
theorem zC(s:Sl Int)(n:Nat)(hok:okS 1 s)(hu:oT s.l)(hl:s.l.length≤64)(hn:n≤4096):∃z,mI s (n:Int)=some z∧(z<0↔∀p,n≤p→gr s.l p=false):=by
 unfold mI iG;have hm:pk (n:Int) 0=n:=by unfold pk;rw [if_neg (by omega)]
 rw [hm];simp only [Jv (show n<1000000 by omega),zbS,Jw];rw [if_pos (by omega)];by_cases h:n / 64<s.l.length
 ·rw [if_pos (by omega)];simp only [zbS,if_true,bu hok h];have hw:=hu _ (List.getElem_mem h);have hg:s.l[n / 64]? =some s.l[n / 64]:=List.getElem?_eq_getElem h;obtain⟨w,hw2⟩:=Int.eq_ofNat_of_zero_le hw.1;rw [hw2]at hw hg ⊢;have hwlt:w<18446744073709551616:=by have:=hw.2;omega
  rw [Re hwlt (Nat.mod_lt _ (by decide))];simp only [zbS];have hle:w / 2 ^(n % 64)≤w:=Nat.div_le_self _ _;have hdv:∀i,(w / 2 ^(n % 64)).testBit i=w.testBit (i+n % 64):=fun i=>by rw [Nat.testBit_div_two_pow]
  by_cases h0:w / 2 ^(n % 64)=0
  ·rw [if_neg (by omega)]
   have hsame:∀p,p / 64=n / 64→n≤p→gr s.l p=false:=fun p hp hnp=>by
    rw [mz hp rfl hg]
    have:=hdv (p % 64 - n % 64)
    rw [h0,Nat.zero_testBit,show p % 64 - n % 64+n % 64=p % 64 by omega]at this;simpa using this.symm
   have hcut:kq 1 s (IntKind.i64.wrap ((n / 64:Nat)+1)) ((s.l.length:Nat):Int)=some ⟨s.nn,s.sz,s.l.drop (n / 64+1)⟩:=by
    rw [bL h (by omega)];unfold kq;rw [if_pos ⟨by omega,by omega,by omega,.inl (hok.resolve_left (by intro e;rw [e]at h;simp at h))⟩];simp only [Int.toNat_natCast];rw [List.take_of_length_le (by simp)]
   rw [hcut];simp only [zbS];have hdm:∀x∈s.l.drop (n / 64+1),eh x:=fun x hx=>hu x (List.mem_of_mem_drop hx);have hdl:(s.l.drop (n / 64+1)).length+(n / 64+1)=s.l.length:=by simp;omega
   have hdg:∀i,(s.l.drop (n / 64+1))[i]? =s.l[n / 64+1+i]? :=fun i=>List.getElem?_drop;generalize s.l.drop (n / 64+1)=d at hdm hdl hdg
   have hget:∀i (hi:i<d.length) (h2:n / 64+1+i<s.l.length),d[i]=s.l[n / 64+1+i]:=fun i hi h2=>by
    have:=hdg i
    rw [List.getElem?_eq_getElem hi,List.getElem?_eq_getElem h2]at this;exact Option.some.inj this
   obtain⟨q,q1,q2⟩:=bK (b:=gL ((n / 64:Nat):Int) ⟨s.nn,s.sz,d⟩) d.length (fun j a=>a=(j:Int)∧∀i (h:i<d.length),i<j→d[i]=0) (fun q=>(∃z,q= .inl z∧0≤z∧∃i,∃h:i<d.length,d[i]≠0)∨(q= .inr (.inl ())∧∀i (h:i<d.length),d[i]=0))
    (by
     rintro j _ hj ⟨rfl,ha⟩;have hok':okS 1 (⟨s.nn,s.sz,d⟩:Sl Int):= .inr (hok.resolve_left (by intro e;rw [e]at h;simp at h));have hjl:j<64:=by omega
     have hv:=hdm _ (List.getElem_mem hj);simp only [gL,bu hok' hj,zbS];rw [if_pos (show(j:Int)<((d.length:Nat):Int)by omega)];obtain⟨v,hv2⟩:=Int.eq_ofNat_of_zero_le hv.1;have hvlt:v<18446744073709551616:=by have:=hv.2;omega
     have hin:=Rf (n6:=((n / 64:Nat):Int)) (j:=(j:Int)) hvlt ⟨by omega,by omega⟩ ⟨by omega,by omega⟩;rw [hv2];by_cases v0:v=0
     ·rw [hin.1 v0];refine .inl ⟨_,rfl,by rw [bL hj (by omega)],fun i hi hij=> ?_⟩;by_cases e:i=j
      ·subst e;omega
      ·exact ha i hi (by omega)
     ·obtain⟨z,z0,hz⟩:=hin.2 v0;rw [hz]
      exact .inr ⟨_,rfl,.inl ⟨z,rfl,z0,j,hj,by omega⟩⟩)
    (by
     rintro _ ⟨rfl,ha⟩
     refine⟨_,if_neg (show¬((d.length:Nat):Int)<((d.length:Nat):Int)by omega),.inr ⟨rfl,fun i hi=>ha i hi hi⟩⟩) 0 (Nat.zero_le _) 0 ⟨rfl,fun i hi h0=>absurd h0 (by omega)⟩
   rw [q1];rcases q2 with⟨z,rfl,z0,i,hi,hne⟩|⟨rfl,hz⟩
   ·refine⟨z,rfl,?_⟩;constructor
    ·intro hh;omega
    ·intro hh;exfalso;have hi':n / 64+1+i<s.l.length:=by omega
     rw [hget i hi hi']at hne;have hv:=hu _ (List.getElem_mem hi');obtain⟨v,hv2⟩:=Int.eq_ofNat_of_zero_le hv.1;rw [hv2]at hne hv;obtain⟨k,hk⟩:=Cq (x:=v) (by omega);have hk2:=On (by have:=hv.2;omega) hk
     have:=hh (64*(n / 64+1+i)+k) (by omega)
     rw [mz (i:=n / 64+1+i) (k:=k) (w:=(v:Int)) (by omega) (by omega) (by rw [List.getElem?_eq_getElem hi',hv2])]at this;simp only [Int.toNat_natCast]at this;rw [hk]at this;simp at this
   ·refine⟨-1,rfl,?_⟩;refine⟨fun _ p hp=> ?_,fun _=>by decide⟩;by_cases e:p / 64=n / 64
    ·exact hsame p e hp
    ·by_cases hlen:p / 64<s.l.length
     ·have hd:p / 64 - (n / 64+1)<d.length:=by omega
      have:=hz _ hd
      rw [hget _ hd (by omega)]at this;rw [mz (w:=0) rfl rfl (by rw [List.getElem?_eq_getElem hlen,←this];congr 2;omega)];simp
     ·exact zB (by omega)
  ·rw [if_pos (by omega)];obtain⟨k,hk,hk2⟩:=TR h0 (by omega);rw [hk];refine⟨_,rfl,?_⟩;rw [bW (by omega) (by omega)];constructor
   ·intro hh;omega
   ·intro hh;exfalso;obtain⟨i,hi⟩:=Cq h0;rw [hdv]at hi
    have:=On hwlt hi
    have h2:=hh (64*(n / 64)+(i+n % 64)) (by omega);rw [mz (i:=n / 64) (k:=i+n % 64) (by omega) (by omega) hg]at h2;simp only [Int.toNat_natCast]at h2;rw [hi]at h2;simp at h2
 ·rw [if_neg (by omega)];simp only [zbS,Bool.false_eq_true,if_false];refine⟨-1,rfl,?_⟩;exact⟨fun _ p hp=>zB (by omega),fun _=>by decide⟩
theorem qV{n:Int}(h:0≤n∧n≤4096):jI n=some ((n+63)/ 64):=by
 unfold jI;have e1:pk n 0=n:=by unfold pk;rw [if_neg (by omega)]
 have e2:PF n 4096=n:=by unfold PF;rw [if_neg (by omega)]
 rw [e1,e2,bW (by omega) (by omega)];unfold vc;rw [if_pos (by decide),Int.tdiv_eq_ediv_of_nonneg (by omega),bW (by omega) (by omega)];rfl
def uJ(ws:List Int):List Int:=((List.range (64*ws.length)).filter (gr ws)).map fun p:Nat=>(p:Int)
def dk(n:Int):Bool:=decide (0≤n)&& decide (n≤4096)
def tf(ws:List Int)(n:Int):Bool:=dk n &&(decide ((ws.length:Int)=(n+63)/ 64)&&(uJ ws).all fun p=>decide (p<n))
theorem places_mem{ws:List Int}{p:Int}:p∈uJ ws↔0≤p∧gr ws p.toNat=true:=by
 unfold uJ;simp only [List.mem_map,List.mem_filter,List.mem_range];constructor
 ·rintro⟨q,⟨h1,h2⟩,rfl⟩;exact⟨by omega,by simpa using h2⟩
 ·rintro⟨h1,h2⟩;refine⟨p.toNat,⟨?_,h2⟩,by omega⟩;by_cases hh:p.toNat<64*ws.length
  ·exact hh
  ·rw [zB (by omega)]at h2;simp at h2
theorem zD(s:Sl Int)(n:Int)(hok:okS 1 s)(hu:oT s.l)(hl:s.l.length≤9223372036854775807):lk s n=some (tf s.l n):=by
 unfold lk tf dk;by_cases h1:0≤n
 ·rw [if_pos (show n ≥ 0 from h1),decide_eq_true h1];by_cases h2:n≤4096
  ·rw [if_pos h2,decide_eq_true h2,qV ⟨h1,h2⟩];simp only [zbS,Bool.and_self,Bool.true_and];by_cases h3:((s.l.length:Nat):Int)=(n+63)/ 64
   ·rw [if_pos h3,decide_eq_true h3];obtain⟨k,rfl⟩:=Int.eq_ofNat_of_zero_le h1;obtain⟨z,z1,z2⟩:=zC s k hok hu (by omega) (by omega);rw [z1];simp only [zbS,Bool.true_and]
    have key:(uJ s.l).all (fun p=>decide (p<(k:Int)))=true↔z<0:=by
     rw [z2,List.all_eq_true];constructor
     ·intro h p hp
      cases hb:gr s.l p with
      |false=>rfl
      |true=>have:=h (p:Int) (places_mem.2 ⟨by omega,by simpa using hb⟩);simp at this;omega
     ·intro h p hp;obtain⟨p0,p1⟩:=places_mem.1 hp;rw [decide_eq_true_eq];by_cases hh:p<(k:Int)
      ·exact hh
      ·rw [h p.toNat (by omega)]at p1;simp at p1
    by_cases hz:z<0
    ·rw [if_pos hz,key.2 hz]
    ·rw [if_neg hz,Bool.eq_false_iff.2 fun e=>hz (key.1 e)]
   ·rw [if_neg h3,decide_eq_false h3];simp
  ·rw [if_neg h2,decide_eq_false h2];simp
 ·rw [if_neg (show¬n ≥ 0 from h1),decide_eq_false h1];simp
end Ev
end
noncomputable section
namespace Ev
open Go
def mQ(d:Int×Sl Int×Sl Int):Bool:=tf d.2.1.l d.1 &&(decide ((d.2.2.l.length:Int)=d.1)&&(List.range d.2.2.l.length).all fun i=>decide (d.2.2.l.getD i 0=0)||gr d.2.1.l i)
theorem iN{l:List Int}{i:Nat}(h:i<l.length):l.getD i 0=l[i]:=by rw [List.getD_eq_getElem?_getD,List.getElem?_eq_getElem h];rfl
theorem all_range{n:Nat}{f:Nat→Bool}:(List.range n).all f=true↔∀i,i<n→f i=true:=by
 rw [List.all_eq_true];exact⟨fun h i hi=>h i (by simpa using hi),fun h i hi=>h i (by simpa using hi)⟩
theorem oF{n:Nat}{f:Nat→Bool}{i:Nat}(hi:i<n)(h:f i=false):(List.range n).all f=false:=by
 rw [Bool.eq_false_iff];intro e;have:=all_range.1 e i hi;rw [h]at this;simp at this
structure OkD(d:Int×Sl Int×Sl Int):Prop where
 has:okS 1 d.2.1
 bits:oT d.2.1.l
 vals:okS 1 d.2.2
 v64:∀x∈d.2.2.l,cK x
 hl:d.2.1.l.length≤9223372036854775807
 vl:d.2.2.l.length≤9223372036854775807
theorem zE{d:Int×Sl Int×Sl Int}(h:OkD d):ln d=some (mQ d):=by
 obtain⟨n,s,t⟩:=d;obtain⟨h1,h2,h3,h4,h5,h6⟩:=h;simp only at h1 h2 h3 h4 h5 h6;unfold ln mQ;simp only [zD s n h1 h2 h5,zbS]
 cases hr:tf s.l n with
 |false=>simp
 |true=>
  simp only [if_true,Bool.true_and];by_cases hn:((t.l.length:Nat):Int)=n
  ·rw [if_neg (fun h=>h hn),decide_eq_true hn];simp only [Bool.true_and];have hb:n≤4096:=by unfold tf dk at hr;simp only [Bool.and_eq_true,decide_eq_true_eq]at hr;exact hr.1.2
   obtain⟨q,q1,q2⟩:=bK (b:=fX s t) t.l.length (fun j a=>a=(j:Int)∧∀i,i<j→(decide (t.l.getD i 0=0)||gr s.l i)=true) (fun q=>((List.range t.l.length).all (fun i=>decide (t.l.getD i 0=0)||gr s.l i)=true∧q= .inl ())∨((List.range t.l.length).all (fun i=>decide (t.l.getD i 0=0)||gr s.l i)=false∧q= .inr false))
    (by
     rintro j _ hj ⟨rfl,ha⟩;have hh:=kf s j h1 h2 (by omega);have hd:=iN hj;simp only [fX,bu h3 hj,zbS,hh,bL hj (by omega)];rw [if_pos (by omega)]
     have next:(decide (t.l.getD j 0=0)||gr s.l j)=true→∀i,i<j+1→(decide (t.l.getD i 0=0)||gr s.l i)=true:=fun h i hi=>by
      by_cases e:i=j
      ·rw [e];exact h
      ·exact ha i (by omega)
     by_cases h0:t.l[j]=0
     ·rw [if_neg (fun h=>h h0)];exact .inl ⟨_,rfl,rfl,next (by rw [hd,decide_eq_true h0];rfl)⟩
     ·rw [if_pos h0]
      cases hb:gr s.l j with
      |true=>exact .inl ⟨_,rfl,rfl,next (by rw [hb];simp)⟩
      |false=>exact .inr ⟨_,rfl,.inr ⟨oF hj (by rw [hd,hb,decide_eq_false h0];rfl),rfl⟩⟩)
    (by
     rintro _ ⟨rfl,ha⟩
     exact⟨_,if_neg (by omega),.inl ⟨all_range.2 ha,rfl⟩⟩) 0 (Nat.zero_le _) 0 ⟨rfl,fun i hi=>absurd hi (by omega)⟩
   rw [q1];rcases q2 with⟨e,rfl⟩|⟨e,rfl⟩<;>rw [e]<;>rfl
  ·rw [if_pos hn,decide_eq_false hn];simp
theorem Hq{d:Int×Sl Int×Sl Int}(h:mQ d=true):0≤d.1∧d.1≤4096∧(d.2.1.l.length:Int)=(d.1+63)/ 64∧(∀p∈uJ d.2.1.l,0≤p∧p<d.1)∧(d.2.2.l.length:Int)=d.1:=by
 unfold mQ tf dk at h;simp only [Bool.and_eq_true,decide_eq_true_eq,List.all_eq_true]at h;obtain⟨⟨⟨a,b⟩,c,e⟩,f,g⟩:=h;exact⟨a,b,c,fun p hp=>⟨(places_mem.1 hp).1,e p hp⟩,f⟩
theorem Lm{n:Int}(f:Int→Int):∀{l:List Int} {a:Int},l.Pairwise (·<·)→(∀p∈l,a<p∧p<n)→asc a n (l.map fun p=>(p,f p))=true
 | [],a,_,_=>rfl
 |x::l,a,h1,h2=>by
  rw [List.pairwise_cons]at h1;have hx:=h2 x List.mem_cons_self;simp only [List.map_cons,asc,Bool.and_eq_true,decide_eq_true_eq];exact⟨hx,Lm f h1.2 fun p hp=>⟨h1.1 p hp,(h2 p (List.mem_cons_of_mem _ hp)).2⟩⟩
def md(d:Int×Sl Int×Sl Int)(k:Int):Option Int:=if 0≤k∧gr d.2.1.l k.toNat=true then some (d.2.2.l.getD k.toNat 0)else none
end Ev
end
noncomputable section
namespace Ev
open Go
abbrev Mx:=Int×Int×Sl Int×Sl Int×Sl Int
def il(a n:Int)(l:List Int):Bool:=asc a n (l.map fun k=>(k,0))
theorem rC(a n x:Int)(l:List Int):il a n (x::l)=(decide (a<x)&& decide (x<n)&& il x n l):=rfl
theorem ascI_iff{n:Int}{l:List Int}:il (-1) n l=true↔∀j (h:j<l.length),0≤l[j]∧l[j]<n∧(j≠0→l[j - 1]'(by omega)<l[j]):=by
 unfold il;rw [asc_iff'];constructor
 ·intro h j hj
  have:=h j (by simpa using hj)
  simpa using this
 ·intro h j hj
  have:=h j (by simpa using hj)
  simpa using this
theorem nA(n:Int):fh n=some (dk n):=by
 unfold fh dk;by_cases h1:n ≥ 0
 ·rw [if_pos h1];by_cases h2:n≤4096
  ·rw [if_pos h2,decide_eq_true (show 0≤n from h1),decide_eq_true h2];rfl
  ·rw [if_neg h2,decide_eq_false h2];simp
 ·rw [if_neg h1,decide_eq_false (show¬0≤n from h1)];rfl
theorem ma(s:Sl Int)(n:Int)(hok:okS 1 s)(hl:s.l.length≤9223372036854775807):fe s n=some (il (-1) n s.l):=by
 unfold fe
 obtain⟨r,h1,h2⟩:=bK (b:=dU s n) s.l.length (fun j a=>∃la,a=(la,(j:Int))∧il (-1) n s.l=il la n (s.l.drop j)) (fun r=>(il (-1) n s.l=true∧r= .inl ())∨(il (-1) n s.l=false∧r= .inr false))
  (by
   rintro j _ hj ⟨la,rfl,ha⟩;rw [List.drop_eq_getElem_cons hj,rC]at ha;simp only [dU,bu hok hj,zbS,bL hj hl];rw [if_pos (by omega)];by_cases c1:s.l[j]≤la
   ·refine .inr ⟨_,if_pos c1,.inr ⟨?_,rfl⟩⟩;rw [ha,decide_eq_false (by omega)];rfl
   ·rw [if_neg c1];by_cases c2:s.l[j]≥ n
    ·refine .inr ⟨_,if_pos c2,.inr ⟨?_,rfl⟩⟩;rw [ha,decide_eq_false (p:=s.l[j]<n) (by omega)];simp
    ·refine .inl ⟨_,if_neg c2,_,rfl,?_⟩
     rw [ha,decide_eq_true (by omega),decide_eq_true (by omega)];rfl)
  (by
   rintro _ ⟨la,rfl,ha⟩;refine⟨_,if_neg (by omega),.inl ⟨?_,rfl⟩⟩
   rw [ha,List.drop_length];rfl) 0 (Nat.zero_le _) (-1,0) ⟨-1,rfl,rfl⟩
 rw [h1];rcases h2 with⟨h3,rfl⟩|⟨h3,rfl⟩<;>rw [h3]<;>rfl
def eH{α:Type}(l:List α)(f t:Int):List α:=(l.drop f.toNat).take (t.toNat - f.toNat)
theorem ke{α:Type}{l:List α}{f t:Int}(h:0≤f∧f≤t∧t≤l.length):(eH l f t).length=t.toNat - f.toNat:=by
 unfold eH;simp;omega
theorem Hr{α:Type}{l:List α}{f t:Int}(h:0≤f∧f≤t∧t≤l.length){j:Nat}(hj:j<t.toNat - f.toNat):(eH l f t)[j]'(by rw [ke h];exact hj)=l[f.toNat+j]'(by omega):=by
 unfold eH;simp
def gG(c:Int)(st co:List Int)(i:Nat):Bool:=decide (0≤st.getD i 0)&&(decide (st.getD i 0≤st.getD (i+1) 0)&&(decide (st.getD (i+1) 0≤co.length)&& il (-1) c (eH co (st.getD i 0) (st.getD (i+1) 0))))
def eX(m:Mx):Bool:=dk m.1 &&(dk m.2.1 &&(decide ((m.2.2.1.l.length:Int)=m.1+1)&&(decide (m.2.2.1.l.getD 0 0=0)&&(decide (m.2.2.2.1.l.length=m.2.2.2.2.l.length)&&(decide (m.2.2.2.1.l.length≤65536)&&(decide (m.2.2.1.l.getD m.1.toNat 0=m.2.2.2.1.l.length)&&(List.range m.1.toNat).all (gG m.2.1 m.2.2.1.l m.2.2.2.1.l)))))))
structure OkM(m:Mx):Prop where
 st:okS 1 m.2.2.1
 co:okS 1 m.2.2.2.1
 va:okS 1 m.2.2.2.2
 v64:∀x∈m.2.2.2.2.l,cK x
 sl:m.2.2.1.l.length≤9223372036854775807
 cl:m.2.2.2.1.l.length≤9223372036854775807
 vl:m.2.2.2.2.l.length≤9223372036854775807
theorem im{n:Nat}{c:Int}{st co:List Int}{i:Nat}(hi:i<n)(h:gG c st co i=false):(List.range n).all (gG c st co)=false:=oF hi h
theorem sizeF_iff{n:Int}:dk n=true↔0≤n∧n≤4096:=by unfold dk;simp
theorem zm{n:Nat}{c:Int}{s t:Sl Int}(hs:okS 1 s)(ht:okS 1 t)(hn:n≤4096)(hl:s.l.length=n+1)(h0:s.l.getD 0 0=0)(tl:t.l.length≤65536):∃q,aL (cX (n:Int) c s t) 0=some q∧(((List.range n).all (gG c s.l t.l)=true∧q= .inl ())∨((List.range n).all (gG c s.l t.l)=false∧q= .inr false)):=by
 refine bK (b:=cX (n:Int) c s t) n (fun j a=>a=(j:Int)∧0≤s.l.getD j 0∧∀i,i<j→gG c s.l t.l i=true) _ ?_ ?_ 0 (Nat.zero_le _) 0 ⟨rfl,by omega,fun i hi=>absurd hi (by omega)⟩
 ·rintro j _ hj ⟨rfl,hp,ha⟩;have e1:=bu hs (j:=j) (by omega);have e2:=bu hs (j:=j+1) (by omega);rw [←iN]at e1 e2;simp only [cX,e1,zbS,bL hj (by omega)];rw [if_pos (by omega),e2];simp only [zbS];by_cases c1:s.l.getD (j+1) 0<s.l.getD j 0
  ·rw [if_pos c1];exact .inr ⟨_,rfl,.inr ⟨im hj (by unfold gG;rw [decide_eq_false (p:=s.l.getD j 0≤s.l.getD (j+1) 0) (by omega)];simp),rfl⟩⟩
  rw [if_neg c1];by_cases c2:s.l.getD (j+1) 0>((t.l.length:Nat):Int)
  ·rw [if_pos c2];exact .inr ⟨_,rfl,.inr ⟨im hj (by unfold gG;rw [decide_eq_false (p:=s.l.getD (j+1) 0≤(t.l.length:Int)) (by omega)];simp),rfl⟩⟩
  rw [if_neg c2]
  have hc:kq 1 t (s.l.getD j 0) (s.l.getD (j+1) 0)=some ⟨t.nn,t.sz,eH t.l (s.l.getD j 0) (s.l.getD (j+1) 0)⟩:=by
   unfold kq
   have hz:t.sz=1∨s.l.getD j 0=0:=by
    rcases ht with h|h
    ·right;rw [h]at c2;simp only [List.length_nil]at c2;omega
    ·exact .inl h
   rw [if_pos ⟨hp,by omega,by omega,hz⟩];rfl
  rw [hc];simp only [zbS];have hcl:(eH t.l (s.l.getD j 0) (s.l.getD (j+1) 0)).length≤65536:=by rw [ke ⟨hp,by omega,by omega⟩];omega
  have hok:okS 1 (⟨t.nn,t.sz,eH t.l (s.l.getD j 0) (s.l.getD (j+1) 0)⟩:Sl Int):=by
   rcases ht with h|h
   ·left;unfold eH;simp [h]
   ·exact .inr h
  rw [ma _ c hok (show(eH t.l (s.l.getD j 0) (s.l.getD (j+1) 0)).length≤_ by omega)];simp only [zbS]
  have hr:gG c s.l t.l j=il (-1) c (eH t.l (s.l.getD j 0) (s.l.getD (j+1) 0)):=by
   unfold gG;rw [decide_eq_true hp,decide_eq_true (p:=s.l.getD j 0≤s.l.getD (j+1) 0) (by omega),decide_eq_true (p:=s.l.getD (j+1) 0≤(t.l.length:Int)) (by omega)];simp
  cases hb:il (-1) c (eH t.l (s.l.getD j 0) (s.l.getD (j+1) 0))with
  |true=>
   refine .inl ⟨_,rfl,rfl,by omega,fun i hi=> ?_⟩;by_cases e:i=j
   ·rw [e,hr,hb]
   ·exact ha i (by omega)
  |false=>exact .inr ⟨_,rfl,.inr ⟨im hj (by rw [hr,hb]),rfl⟩⟩
 ·rintro _ ⟨rfl,hp,ha⟩;exact⟨_,if_neg (by omega),.inl ⟨all_range.2 ha,rfl⟩⟩
theorem pG{m:Mx}(h:OkM m):eE m=some (eX m):=by
 obtain⟨n,c,s,t,v⟩:=m;obtain⟨h1,h2,h3,h4,h5,h6,h7⟩:=h;simp only at h1 h2 h3 h4 h5 h6 h7;unfold eE eX;simp only [nA,zbS]
 cases z1:dk n with
 |false=>rfl
 |true=>
  cases z2:dk c with
  |false=>rfl
  |true=>
   obtain⟨a1,a2⟩:=sizeF_iff.1 z1;simp only [if_true,Bool.true_and];rw [bW (n:=n+1) (by omega) (by omega)];by_cases g1:((s.l.length:Nat):Int)=n+1
   ·rw [if_neg (fun h=>h g1),decide_eq_true g1];have e0:=bu h1 (j:=0) (by omega);rw [←iN]at e0;have e0':atS 1 s 0=some (s.l.getD 0 0):=e0;rw [e0'];simp only [zbS,Bool.true_and];by_cases g2:s.l.getD 0 0=0
    ·rw [if_neg (fun h=>h g2),decide_eq_true g2];simp only [Bool.true_and];by_cases g3:t.l.length=v.l.length
     ·rw [if_neg (fun h=>h (by omega)),decide_eq_true g3];simp only [Bool.true_and];by_cases g4:t.l.length≤65536
      ·rw [if_neg (by omega),decide_eq_true g4];simp only [Bool.true_and];obtain⟨k,rfl⟩:=Int.eq_ofNat_of_zero_le a1;have en:=bu h1 (j:=k) (by omega);rw [←iN]at en;rw [en];simp only [zbS,Int.toNat_natCast];by_cases g5:s.l.getD k 0=((t.l.length:Nat):Int)
       ·rw [if_neg (fun h=>h g5),decide_eq_true g5];simp only [Bool.true_and];obtain⟨q,q1,q2⟩:=zm (c:=c) h1 h2 (by omega) (n:=k) (by omega) g2 g4;rw [q1];rcases q2 with⟨e,rfl⟩|⟨e,rfl⟩<;>rw [e]<;>rfl
       ·rw [if_pos g5,decide_eq_false g5];rfl
      ·rw [if_pos (by omega),decide_eq_false g4];rfl
     ·rw [if_pos (fun h=>g3 (by omega)),decide_eq_false g3];rfl
    ·rw [if_pos g2,decide_eq_false g2];rfl
   ·rw [if_pos g1,decide_eq_false g1];rfl
def kg(m:Mx):Mx:=if eX m=true then m else(0,0,⟨true,1,[0]⟩,eW,eW)
theorem uK{m:Mx}(h:OkM m):mw m=some (kg m):=by
 have hR:=pG h;obtain⟨n,c,s,t,v⟩:=m;unfold mw kg;simp only [hR,zbS];split<;>rfl
theorem Oo{m:Mx}(h:OkM m):OkM (kg m):=by
 unfold kg;split
 ·exact h
 ·exact⟨.inr rfl,ik,ik,fun x hx=>by simp [eW]at hx,by simp,by simp [eW],by simp [eW]⟩
theorem xo(m:Mx):eX (kg m)=true:=by unfold kg;split;assumption;rfl
theorem lx{m:Mx}(h:eX m=true):(0≤m.1∧m.1≤4096)∧(0≤m.2.1∧m.2.1≤4096)∧(m.2.2.1.l.length:Int)=m.1+1∧m.2.2.2.1.l.length=m.2.2.2.2.l.length∧m.2.2.2.1.l.length≤65536∧∀i:Nat,(i:Int)<m.1→0≤m.2.2.1.l.getD i 0∧m.2.2.1.l.getD i 0≤m.2.2.1.l.getD (i+1) 0∧m.2.2.1.l.getD (i+1) 0≤m.2.2.2.1.l.length∧il (-1) m.2.1 (eH m.2.2.2.1.l (m.2.2.1.l.getD i 0) (m.2.2.1.l.getD (i+1) 0))=true:=by
 unfold eX at h;simp only [Bool.and_eq_true,decide_eq_true_eq,sizeF_iff]at h;obtain⟨h1,h2,h3,h4,h5,h6,h7,h8⟩:=h;refine⟨h1,h2,h3,h5,h6,fun i hi=> ?_⟩
 have:=all_range.1 h8 i (by omega)
 unfold gG at this;simpa only [Bool.and_eq_true,decide_eq_true_eq]using this
end Ev
end
end Go.Proofs.YtgefmokmjdeecaaDoor
