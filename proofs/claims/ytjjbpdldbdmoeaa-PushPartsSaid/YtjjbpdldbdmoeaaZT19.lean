/- Texts of a claim, joined. -/
import Derived.Test.YtjjbpdldbdmoeaaZT18
import Derived.Test.YtjjbpdldbdmoeaaZT5
import Derived.Test.YtjjbpdldbdmoeaaZT14
import Derived.Test.YtjjbpdldbdmoeaaZT16
import Derived.Test.YtjjbpdldbdmoeaaZT17
import Derived.Test.YtjjbpdldbdmoeaaZT15
set_option linter.unusedVariables false
set_option linter.unusedSimpArgs false
namespace Go.Proofs.Ytjjbpdldbdmoeaa
noncomputable section
namespace Ev
open Go
abbrev It:=Int×Int
def WIt(x:It):Prop:=inK .i64 x.1∧inK .i64 x.2
def WV(v:Int×Sl It):Prop:=inK .i64 v.1∧SlW 2 WIt v.2
def okS{α:Type}(w:Nat)(s:Sl α):Prop:=s.l= []∨s.sz=w
theorem SlW.ok{α:Type}{w:Nat}{Q:α→Prop}{s:Sl α}(h:SlW w Q s):okS w s:= .inr h.1
def nI{α:Type}:Sl α:=⟨false,0,[]⟩
theorem zO{α:Type}{w:Nat}:okS w (nI:Sl α):= .inl rfl
theorem iR{α:Type}{w:Nat}(l:List α):okS w (mo w l):=by cases l with|nil=>exact .inl rfl|cons x l=>exact .inr rfl
def asc:Int→Int→List It→Bool
 |_,_,[]=>true
 |a,n,x::l=>decide (a<x.1)&& decide (x.1<n)&& asc x.1 n l
def qA(n:Int):Bool:=decide (0≤n)&& decide (n≤4096)
def fe(v:Int×Sl It):Bool:=qA v.1 && asc (-1) v.1 v.2.l
def Nv(v:Int×Sl It):Int×Sl It:=if fe v=true then v else(0,nI)
theorem Gu{n:Int}:∀{a:Int} {l:List It},asc a n l=true→∀x∈l,a<x.1∧x.1<n
 |a,y::l,h,x,hx=>by
  simp only [asc,Bool.and_eq_true,decide_eq_true_eq]at h;rcases List.mem_cons.1 hx with rfl|hx
  ·exact⟨h.1.1,h.1.2⟩
  ·have:=Gu h.2 x hx;omega
theorem yz{n:Int}:∀{a:Int} {l:List It},asc a n l=true→(l.length:Int)≤max (n - a - 1) 0
 |a,[],h=>by simp;omega
 |a,y::l,h=>by
  simp only [asc,Bool.and_eq_true,decide_eq_true_eq]at h
  have:=yz h.2
  simp only [List.length_cons];omega
theorem wi{v:Int×Sl It}(h:fe v=true):v.2.l.length≤4096:=by
 simp only [fe,qA,Bool.and_eq_true,decide_eq_true_eq]at h
 have:=yz h.2;omega
theorem rR(n:Int):eQ n=some (qA n):=by
 unfold eQ qA;by_cases h1:n ≥ 0
 ·rw [if_pos h1];by_cases h2:n≤4096
  ·rw [if_pos h2,decide_eq_true (show 0≤n from h1),decide_eq_true h2];rfl
  ·rw [if_neg h2,decide_eq_false h2];simp
 ·rw [if_neg h1,decide_eq_false (show¬0≤n from h1)];rfl
theorem qi(v:Int×Sl It)(hok:okS 2 v.2)(hl:v.2.l.length≤9223372036854775807):fv v=some (fe v):=by
 obtain⟨n,s⟩:=v;unfold fv fe;simp only [rR,zbS]
 cases hs:qA n with
 |false=>simp
 |true=>
  simp only [if_true,Bool.true_and]
  obtain⟨r,h1,h2⟩:=cz (b:=dS n s) s.l.length (fun j a=>∃la,a=(la,(j:Int))∧asc (-1) n s.l=asc la n (s.l.drop j)) (fun r=>(asc (-1) n s.l=true∧r= .inl ())∨(asc (-1) n s.l=false∧r= .inr false))
   (by
    rintro j _ hj ⟨la,rfl,ha⟩;rw [List.drop_eq_getElem_cons hj]at ha;simp only [asc]at ha;simp only [dS,bq hok hj,zbS,bM hj (by simp only at hl;omega)];rw [if_pos (by omega)];by_cases c1:s.l[j].1≤la
    ·refine .inr ⟨_,if_pos c1,.inr ⟨?_,rfl⟩⟩;rw [ha,decide_eq_false (by omega)];rfl
    ·rw [if_neg c1];by_cases c2:s.l[j].1 ≥ n
     ·refine .inr ⟨_,if_pos c2,.inr ⟨?_,rfl⟩⟩;rw [ha,decide_eq_false (p:=s.l[j].1<n) (by omega)];simp
     ·refine .inl ⟨_,if_neg c2,_,rfl,?_⟩
      rw [ha,decide_eq_true (by omega),decide_eq_true (by omega)];rfl)
   (by
    rintro _ ⟨la,rfl,ha⟩;refine⟨_,if_neg (by omega),.inl ⟨?_,rfl⟩⟩
    rw [ha];simp [asc]) 0 (Nat.zero_le _) (-1,0) ⟨-1,rfl,rfl⟩
  rw [h1];rcases h2 with⟨h3,rfl⟩|⟨h3,rfl⟩<;>simp [h3]
theorem asc_iff{n:Int}{l:List It}:∀{a:Int},asc a n l=true↔∀j (h:j<l.length),(if h0:j=0 then a<l[j].1 else l[j - 1].1<l[j].1)∧l[j].1<n:=by
 induction l with
 |nil=>intro a;simp [asc]
 |cons x l ih=>
  intro a;simp only [asc,Bool.and_eq_true,decide_eq_true_eq,ih];constructor
  ·rintro⟨⟨h1,h2⟩,h3⟩ j hj
   cases j with
   |zero=>exact⟨by simpa using h1,by simpa using h2⟩
   |succ j=>
    have:=h3 j (by simpa using hj)
    refine⟨?_,by simpa using this.2⟩;rw [dif_neg (by omega)]
    cases j with
    |zero=>simpa using this.1
    |succ j=>have:=this.1;rw [dif_neg (by omega)]at this;simpa using this
  ·intro h;have h0:=h 0 (by simp);refine⟨⟨by simpa using h0.1,by simpa using h0.2⟩,fun j hj=> ?_⟩
   have:=h (j+1) (by simpa using hj)
   rw [dif_neg (by omega)]at this;refine⟨?_,by simpa using this.2⟩
   cases j with
   |zero=>simpa using this.1
   |succ j=>rw [dif_neg (by omega)];simpa using this.1
theorem asc_iff'{n:Int}{l:List It}:asc (-1) n l=true↔∀j (h:j<l.length),0≤l[j].1∧l[j].1<n∧(j≠0→l[j - 1].1<l[j].1):=by
 constructor
 ·intro h j hj;have h1:=Gu h l[j] (List.getElem_mem hj);have h2:=(asc_iff.1 h j hj).1;exact⟨by omega,h1.2,fun h0=>by rw [dif_neg h0]at h2;exact h2⟩
 ·intro h;refine asc_iff.2 fun j hj=>⟨?_,(h j hj).2.1⟩;split
  ·have:=(h j hj).1;omega
  ·rename_i h0;exact(h j hj).2.2 h0
theorem qp(v:Int×Sl It)(hok:okS 2 v.2)(hl:v.2.l.length≤9223372036854775807):dW v=some (fe v):=by
 obtain⟨n,s⟩:=v;simp only at hl;unfold dW fe qA;by_cases h1:n<0
 ·simp only [if_pos h1,decide_eq_false (show¬0≤n by omega)];rfl
 by_cases h2:n>4096
 ·simp only [if_neg h1,if_pos h2,decide_eq_false (show¬n≤4096 by omega)];simp
 simp only [if_neg h1,if_neg h2,decide_eq_true (show 0≤n by omega),decide_eq_true (show n≤4096 by omega),Bool.true_and]
 have hF:∀j (hj:j<s.l.length),¬(0≤s.l[j].1∧s.l[j].1<n∧(j≠0→s.l[j - 1].1<s.l[j].1))→asc (-1) n s.l=false:=fun j hj hh=>by
  rw [Bool.eq_false_iff];intro hc;exact hh (asc_iff'.1 hc j hj)
 obtain⟨r,h3,h4⟩:=cz (b:=dX n s) s.l.length (fun j a=>a=(j:Int)∧∀i (h:i<s.l.length),i<j→0≤s.l[i].1∧s.l[i].1<n∧(i≠0→s.l[i - 1].1<s.l[i].1)) (fun r=>(asc (-1) n s.l=true∧r= .inl ())∨(asc (-1) n s.l=false∧r= .inr false))
  (by
   rintro j _ hj ⟨rfl,ha⟩;simp only [dX,bq hok hj,zbS,bM hj (by omega)];rw [if_pos (by omega)];by_cases c1:s.l[j].1<0
   ·exact .inr ⟨_,if_pos c1,.inr ⟨hF j hj (by omega),rfl⟩⟩
   rw [if_neg c1];by_cases c2:s.l[j].1 ≥ n
   ·exact .inr ⟨_,if_pos c2,.inr ⟨hF j hj (by omega),rfl⟩⟩
   rw [if_neg c2];by_cases c3:(j:Int)>0
   ·rw [if_pos c3];have e:IntKind.i64.wrap ((j:Int) - 1)=((j - 1:Nat):Int):=by rw [cV (by omega) (by omega)];omega
    rw [e,bq hok (show j - 1<s.l.length by omega)];simp only [zbS];by_cases c4:s.l[j].1≤s.l[j - 1].1
    ·exact .inr ⟨_,if_pos c4,.inr ⟨hF j hj (fun hh=>by have:=hh.2.2 (by omega);omega),rfl⟩⟩
    ·refine .inl ⟨_,if_neg c4,rfl,fun i hi hij=> ?_⟩;by_cases hh:i=j
     ·subst hh;exact⟨by omega,by omega,fun _=>by omega⟩
     ·exact ha i hi (by omega)
   ·refine .inl ⟨_,if_neg c3,rfl,fun i hi hij=> ?_⟩;by_cases hh:i=j
    ·subst hh;exact⟨by omega,by omega,fun _=>by omega⟩
    ·exact ha i hi (by omega))
  (by
   rintro _ ⟨rfl,ha⟩
   exact⟨_,if_neg (by omega),.inl ⟨asc_iff'.2 fun j hj=>ha j hj hj,rfl⟩⟩) 0 (Nat.zero_le _) 0 ⟨rfl,fun i _ h=>absurd h (by omega)⟩
 rw [h3];rcases h4 with⟨h5,rfl⟩|⟨h5,rfl⟩<;>simp [h5]
theorem se(v:Int×Sl It)(hok:okS 2 v.2)(hl:v.2.l.length≤9223372036854775807):eU v=some (Nv v):=by
 obtain⟨n,s⟩:=v;unfold eU Nv;simp only [qp (n,s) hok hl,zbS];split<;>rfl
end Ev
end
noncomputable section
namespace Ev
open Go
def bu(n:Int):Prop:= -9223372036854775808≤n∧n≤9223372036854775807
def ce(n:Int):Prop:=0≤n∧n≤18446744073709551615
theorem qZ{n:Int}(h:inK .i64 n):bu n:=by simpa [inK,bu,Lit.wf,IntKind.min,IntKind.max,IntKind.signed,IntKind.bits]using h
theorem dU(n:Int):IntKind.u64.wrap n=n % 18446744073709551616:=by
 simp [IntKind.wrap,IntKind.signed,IntKind.bits]
theorem lk(n:Int):ce (IntKind.u64.wrap n):=by rw [dU];unfold ce;omega
theorem RO{n:Int}(h:ce n):IntKind.u64.wrap (IntKind.i64.wrap n)=n:=by rw [dU,IntKind.wrap_i64];unfold ce at h;omega
def ofW(n:Int):Int×Int:=(if n<0 then -1 else 0,IntKind.u64.wrap n)
theorem dz{n:Int}(h:bu n):bU n=some (ofW n):=by
 unfold bU uX ofW TQ;rw [if_pos (by omega)];have e:(2:Int)^(min (63:Int).toNat IntKind.i64.bits)=9223372036854775808:=by decide
 rw [e];unfold bu at h
 have:n.fdiv 9223372036854775808=if n<0 then -1 else 0:=by
  rw [Int.fdiv_eq_ediv_of_nonneg _ (by omega)];split<;>omega
 rw [this];rfl
theorem xn(n:Int):jQ n=some (ofW n):=by
 unfold jQ ofW;by_cases h:n<0
 ·simp only [if_pos h]
 ·simp only [if_neg h]
theorem oV(n:Int):ce (ofW n).2:=lk n
def jP(a b:Int×Int):Bool:=decide (a.1<b.1)||(decide (a.1=b.1)&& decide (a.2<b.2))
theorem lL(a b:Int×Int):∃c,cR a b=some c∧(c<0↔jP a b=true):=by
 obtain⟨a1,a2⟩:=a;obtain⟨b1,b2⟩:=b;unfold cR jP;simp only;by_cases h1:a1=b1∧a2=b2
 ·rw [if_pos h1];exact⟨0,rfl,by simp;omega⟩
 rw [if_neg h1];by_cases h2:a1<b1
 ·rw [if_pos h2];exact⟨-1,rfl,by simp [h2]⟩
 rw [if_neg h2];by_cases h3:a1=b1
 ·rw [if_pos h3];by_cases h4:a2<b2
  ·rw [if_pos h4];exact⟨-1,rfl,by simp [h3,h4]⟩
  ·rw [if_neg h4];exact⟨1,rfl,by simp [h3];omega⟩
 ·rw [if_neg h3];exact⟨1,rfl,by simp [h3];omega⟩
theorem ky(a b:Int×Int):∃c,bK a b=some c∧(c<0↔jP a b=true):=by
 obtain⟨a1,a2⟩:=a;obtain⟨b1,b2⟩:=b;unfold bK jP;simp only;by_cases h2:a1<b1
 ·rw [if_pos h2];exact⟨-1,rfl,by simp [h2]⟩
 rw [if_neg h2];by_cases h3:a1=b1
 ·rw [if_pos h3];by_cases h4:a2<b2
  ·rw [if_pos h4];exact⟨-1,rfl,by simp [h3,h4]⟩
  ·rw [if_neg h4];by_cases h5:a1=b1∧a2=b2
   ·rw [if_pos h5];exact⟨0,rfl,by simp [h3];omega⟩
   ·rw [if_neg h5];exact⟨1,rfl,by simp [h3];omega⟩
 ·rw [if_neg h3];by_cases h5:a1=b1∧a2=b2
  ·exact absurd h5.1 h3
  ·rw [if_neg h5];exact⟨1,rfl,by simp [h3];omega⟩
def eF(a b:Int×Int):Int×Int:=if jP b a=true then b else a
def gO(b:Bool):Int×Int:=if b=true then(0,1)else(0,0)
def mY(a b:Int×Int):Int×Int:=if IntKind.u64.wrap (a.2+b.2)<a.2 then(IntKind.i64.wrap (IntKind.i64.wrap (a.1+b.1)+1),IntKind.u64.wrap (a.2+b.2))else(IntKind.i64.wrap (a.1+b.1),IntKind.u64.wrap (a.2+b.2))
def aI(r:Int)(a b:Int×Int):Int×Int:=
 if r=1∨r=3∨r=4 then eF a b else if r=2 then gO (!(decide (a.1=0∧a.2=0)&& decide (b.1=0∧b.2=0)))else if r=5 then mY a b else(0,0)
theorem jO(a b:Int×Int):cg a b=some (eF a b):=by
 obtain⟨a1,a2⟩:=a;obtain⟨b1,b2⟩:=b;unfold cg eF;obtain⟨c,h1,h2⟩:=lL (b1,b2) (a1,a2);simp only [h1,zbS];by_cases hc:c<0
 ·rw [if_pos hc,if_pos (h2.1 hc)]
 ·rw [if_neg hc,if_neg (fun h=>hc (h2.2 h))]
theorem gI(b:Bool):bV b=some (gO b):=by
 unfold bV gO;cases b
 ·rfl
 ·simp only [if_true,dz (show bu 1 by unfold bu;omega),zbS];rfl
theorem nf(a b:Int×Int):dw a b=some (mY a b):=by
 obtain⟨a1,a2⟩:=a;obtain⟨b1,b2⟩:=b;unfold dw mY;simp only;split<;>rfl
theorem pd(a b:Int×Int):gK a b=some (mY a b):=by
 obtain⟨a1,a2⟩:=a;obtain⟨b1,b2⟩:=b;unfold gK mY;simp only;split<;>rfl
theorem qh(r:Int)(a b:Int×Int):gZ r a b=some (aI r a b):=by
 obtain⟨a1,a2⟩:=a;obtain⟨b1,b2⟩:=b;unfold gZ aI;simp only [jO,gI,nf,zbS];by_cases h1:r=1
 ·simp only [if_pos h1,if_pos (show r=1∨r=3∨r=4 from .inl h1)]
 by_cases h3:r=3
 ·simp only [if_neg h1,if_pos h3,if_pos (show r=1∨r=3∨r=4 from .inr (.inl h3))]
 by_cases h4:r=4
 ·simp only [if_neg h1,if_neg h3,if_pos h4,if_pos (show r=1∨r=3∨r=4 from .inr (.inr h4))]
 simp only [if_neg h1,if_neg h3,if_neg h4,if_neg (show¬(r=1∨r=3∨r=4)by omega)];by_cases h2:r=2
 ·simp only [if_pos h2];by_cases ha:a1=0∧a2=0
  ·by_cases hb:b1=0∧b2=0
   ·simp [if_pos ha,if_pos hb,ha,hb]
   ·rw [if_pos ha,if_neg hb,decide_eq_true ha,decide_eq_false hb];rfl
  ·rw [if_neg ha,decide_eq_false ha];rfl
 ·simp only [if_neg h2];by_cases h5:r=5
  ·simp only [if_pos h5]
  ·simp only [if_neg h5]
theorem mA(b:Bool):cW b=some (gO b):=by unfold cW gO;cases b<;>rfl
theorem uw(r:Int)(a b:Int×Int):iA r a b=some (aI r a b):=by
 obtain⟨a1,a2⟩:=a;obtain⟨b1,b2⟩:=b
 have hl:((bK (b1,b2) (a1,a2)).bind fun n=>if n<0 then some (b1,b2)else some (a1,a2))=some (eF (a1,a2) (b1,b2)):=by
  obtain⟨c,h1,h2⟩:=ky (b1,b2) (a1,a2);simp only [h1,zbS];unfold eF;by_cases hc:c<0
  ·rw [if_pos hc,if_pos (h2.1 hc)]
  ·rw [if_neg hc,if_neg (fun h=>hc (h2.2 h))]
 unfold iA aI;simp only [hl,mA,pd,zbS];by_cases h1:r=1
 ·simp only [if_pos h1,if_pos (show r=1∨r=3∨r=4 from .inl h1)]
 by_cases h3:r=3
 ·simp only [if_neg h1,if_pos h3,if_pos (show r=1∨r=3∨r=4 from .inr (.inl h3))]
 by_cases h4:r=4
 ·simp only [if_neg h1,if_neg h3,if_pos h4,if_pos (show r=1∨r=3∨r=4 from .inr (.inr h4))]
 simp only [if_neg h1,if_neg h3,if_neg h4,if_neg (show¬(r=1∨r=3∨r=4)by omega)];by_cases h2:r=2
 ·simp only [if_pos h2];by_cases ha:a1=0∧a2=0
  ·by_cases hb:b1=0∧b2=0
   ·simp [if_pos ha,if_pos hb,ha,hb]
   ·rw [if_pos ha,if_neg hb,decide_eq_true ha,decide_eq_false hb];rfl
  ·rw [if_neg ha,decide_eq_false ha];rfl
 ·simp only [if_neg h2];by_cases h5:r=5
  ·simp only [if_pos h5]
  ·simp only [if_neg h5]
theorem oX{r:Int}{a b:Int×Int}(ha:ce a.2)(hb:ce b.2):ce (aI r a b).2:=by
 have h0:ce 0:=by unfold ce;omega
 have h1:ce 1:=by unfold ce;omega
 unfold aI eF gO mY;split
 ·split<;>assumption
 ·split
  ·split<;>assumption
  ·split
   ·split<;>exact lk _
   ·exact h0
def gk(a:Int×Int):Int×Bool:=if a=ofW (IntKind.i64.wrap a.2)then(IntKind.i64.wrap a.2,true)else(0,false)
theorem zg(n:Int):bu (IntKind.i64.wrap n):=by rw [IntKind.wrap_i64];unfold bu;omega
theorem sM(r:Int):jN r=some (decide (1≤r)&& decide (r≤5)):=by
 unfold jN;by_cases h1:r ≥ 1
 ·rw [if_pos h1,decide_eq_true (show 1≤r from h1)];by_cases h2:r≤5
  ·rw [if_pos h2,decide_eq_true h2];rfl
  ·rw [if_neg h2,decide_eq_false h2];rfl
 ·rw [if_neg h1,decide_eq_false (show¬1≤r from h1)];rfl
theorem qo(r:Int):fP r=some (decide (1≤r)&& decide (r≤5)):=by
 unfold fP;by_cases h1:r ≥ 1
 ·rw [if_pos h1,decide_eq_true (show 1≤r from h1)];by_cases h2:r≤5
  ·rw [if_pos h2,decide_eq_true h2];rfl
  ·rw [if_neg h2,decide_eq_false h2];rfl
 ·rw [if_neg h1,decide_eq_false (show¬1≤r from h1)];rfl
end Ev
end
noncomputable section
namespace Ev
open Go
def okR(r:Int):Bool:=decide (1≤r)&& decide (r≤5)
end Ev
end
noncomputable section
namespace Ev
open Go
def cS(p:Int):List It→Option Int
 | []=>none
 |x::l=>if x.1=p then some x.2 else cS p l
def Jc(p:Nat):Option Int→Option It
 |some x=>some ((p:Int),x)
 |none=>none
def eX(a k:Nat)(g:Nat→Option Int):List It:=(List.range' a k).filterMap fun p=>Jc p (g p)
theorem LB(a:Nat)(g:Nat→Option Int):eX a 0 g= []:=rfl
theorem jo(a k:Nat)(g:Nat→Option Int):eX a (k+1) g=(match g a with|some x=> [((a:Int),x)]|none=> [])++eX (a+1) k g:=by
 unfold eX;rw [List.range'_succ,List.filterMap_cons];cases h:g a<;>simp [Jc,h]
theorem rj(a k m:Nat)(g:Nat→Option Int):eX a (k+m) g=eX a k g++eX (a+k) m g:=by
 unfold eX;rw [←List.range'_append_1,List.filterMap_append]
theorem At(a k:Nat)(g:Nat→Option Int):eX a (k+1) g=eX a k g++(match g (a+k)with|some x=> [(((a+k:Nat):Int),x)]|none=> []):=by
 rw [rj,jo,LB,List.append_nil]
theorem Jd{a k:Nat}{g g':Nat→Option Int}(h:∀p,a≤p→p<a+k→g p=g' p):eX a k g=eX a k g':=by
 induction k generalizing a with
 |zero=>rfl
 |succ k ih=>rw [jo,jo,h a (Nat.le_refl _) (by omega),ih fun p h1 h2=>h p (by omega) (by omega)]
theorem Au{a k:Nat}{g:Nat→Option Int}(h:∀p,a≤p→p<a+k→g p=none):eX a k g= []:=by
 induction k generalizing a with
 |zero=>rfl
 |succ k ih=>rw [jo,h a (Nat.le_refl _) (by omega),ih fun p h1 h2=>h p (by omega) (by omega)];rfl
theorem oA{a k:Nat}{g:Nat→Option Int}{x:It}(h:x∈eX a k g):∃p:Nat,a≤p∧p<a+k∧x.1=(p:Int)∧g p=some x.2:=by
 unfold eX at h;obtain⟨p,hp,he⟩:=List.mem_filterMap.1 h;rw [List.mem_range'_1]at hp
 cases hg:g p with
 |none=>rw [hg]at he;simp [Jc]at he
 |some v=>rw [hg]at he;simp only [Jc,zsI]at he;subst he;exact⟨p,hp.1,hp.2,rfl,hg⟩
theorem Pj(a k:Nat)(g:Nat→Option Int):(eX a k g).length≤k:=by
 have:=List.length_filterMap_le (fun p=>Jc p (g p)) (List.range' a k)
 simpa [eX]using this
theorem Pk(a k:Nat)(g:Nat→Option Int)(b n:Int)(hb:b<(a:Int))(hn:((a+k:Nat):Int)≤n):asc b n (eX a k g)=true:=by
 induction k generalizing a b with
 |zero=>rfl
 |succ k ih=>
  rw [jo]
  cases h:g a with
  |none=>exact ih (a+1) b (by omega) (by omega)
  |some v=>
   show(decide (b<(a:Int))&& decide ((a:Int)<n)&& asc (a:Int) n (eX (a+1) k g))=true;rw [decide_eq_true hb,decide_eq_true (by omega),ih (a+1) a (by omega) (by omega)];rfl
theorem kD{p:Int}:∀{l:List It},(∀x∈l,x.1≠p)→cS p l=none
 | [],_=>rfl
 |x::l,h=>by
  unfold cS;rw [if_neg (h x List.mem_cons_self)];exact kD fun y hy=>h y (List.mem_cons_of_mem _ hy)
theorem Pm(a k:Nat)(g:Nat→Option Int)(p:Nat)(h1:a≤p)(h2:p<a+k):cS (p:Int) (eX a k g)=g p:=by
 induction k generalizing a with
 |zero=>omega
 |succ k ih=>
  rw [jo];by_cases hp:a=p
  ·subst hp
   cases h:g a with
   |some v=>simp [cS]
   |none=>
    refine kD fun x hx=> ?_;obtain⟨q,q1,q2,q3,q4⟩:=oA (by simpa using hx);omega
  ·have:=ih (a+1) (by omega) (by omega)
   cases h:g a with
   |some v=>simp only [List.singleton_append,cS];rw [if_neg (by omega)];exact this
   |none=>exact this
theorem Je{n:Int}:∀{l:List It} {a k:Nat},asc ((a:Int) - 1) n l=true→((a+k:Nat):Int)=n→l=eX a k fun p=>cS (p:Int) l
 | [],a,k,h,hn=>(Au fun p _ _=>rfl).symm
 |x::l,a,k,h,hn=>by
  simp only [asc,Bool.and_eq_true,decide_eq_true_eq]at h;obtain⟨⟨h1,h2⟩,h3⟩:=h;obtain⟨q,hq⟩:∃q:Nat,x.1=(q:Int):=⟨x.1.toNat,by omega⟩;have hk:k=(q - a)+((k - (q - a) - 1)+1):=by omega
  rw [hk,rj,jo]
  have e1:eX a (q - a) (fun p=>cS (p:Int) (x::l))= []:=Au fun p p1 p2=>by
   refine kD fun y hy=> ?_;rcases List.mem_cons.1 hy with rfl|hy
   ·omega
   ·have:=Gu h3 y hy;omega
  have ea:a+(q - a)=q:=by omega
  have e2:cS ((a+(q - a):Nat):Int) (x::l)=some x.2:=by unfold cS;rw [if_pos (by omega)]
  have h3':asc (((q+1:Nat):Int) - 1) n l=true:=by rw [hq]at h3;simpa using h3
  have ih:=Je (k:=k - (q - a) - 1) h3' (by omega);rw [e1,e2,ea]
  have e3:eX (q+1) (k - (q - a) - 1) (fun p=>cS (p:Int) (x::l))=l:=by
   rw [Jd (g':=fun p=>cS (p:Int) l) fun p p1 p2=>by
    show cS (p:Int) (x::l)=_
    rw [cS,if_neg (by omega)]]
   exact ih.symm
  rw [e3,List.nil_append,←hq];rfl
def gd(n:Nat)(g:Nat→Option Int):List It:=eX 0 n g
theorem LC{n:Int}{s:Sl It}(h:fe (n,s)=true):s.l=gd n.toNat fun p=>cS (p:Int) s.l:=by
 simp only [fe,qA,Bool.and_eq_true,decide_eq_true_eq]at h;exact Je (a:=0) (by simpa using h.2) (by omega)
theorem Av{n:Int}{s:Sl It}{g:Nat→Option Int}(h0:0≤n)(h1:n≤4096)(hs:s.l=gd n.toNat g):fe (n,s)=true:=by
 simp only [fe,qA,hs,decide_eq_true h0,decide_eq_true h1,Bool.true_and];exact Pk _ _ _ _ _ (by omega) (by omega)
end Ev
end
noncomputable section
namespace Ev
open Go
theorem SH{n:Int}{s:Sl It}(h:fe (n,s)=true){j:Nat}(hj:j<s.l.length):0≤s.l[j].1∧s.l[j].1<n:=by
 simp only [fe,Bool.and_eq_true]at h
 have:=Gu h.2 _ (List.getElem_mem hj);omega
theorem LE{n:Int}{s:Sl It}(h:fe (n,s)=true):0≤n∧n≤4096:=by
 simp only [fe,qA,Bool.and_eq_true,decide_eq_true_eq]at h;omega
theorem qB(p:Int):∀(l m:List It),cS p (l++m)=match cS p l with|some x=>some x|none=>cS p m
 | [],m=>rfl
 |x::l,m=>by
  simp only [List.cons_append,cS];by_cases h:x.1=p
  ·rw [if_pos h,if_pos h]
  ·rw [if_neg h,if_neg h];exact qB p l m
theorem We{v:Int×Sl It}(h:fe v=true):Nv v=v:=by unfold Nv;rw [if_pos h]
end Ev
end
noncomputable section
namespace Ev
open Go
theorem Jf{n:Int}{l:List It}(h:asc (-1) n l=true){i k:Nat}(hik:i<k)(hk:k<l.length):l[i].1<l[k].1:=by
 have key:∀d i (hi:i+d+1<l.length),l[i].1<l[i+d+1].1:=by
  intro d
  induction d with
  |zero=>intro i hi;exact((asc_iff'.1 h) (i+1) hi).2.2 (by omega)
  |succ d ih=>intro i hi;have h1:=ih i (by omega);have h2:=((asc_iff'.1 h) (i+(d+1)+1) hi).2.2 (by omega);simp only [Nat.add_sub_cancel]at h2;exact Int.lt_trans h1 h2
 have:=key (k - i - 1) i (by omega)
 simp only [show i+(k - i - 1)+1=k by omega]at this;exact this
end Ev
end
noncomputable section
namespace Ev
open Go
abbrev Ed:=Int×Int×Int
def LF(a b:Ed):Bool:=decide (a.1<b.1)||(decide (a.1=b.1)&& decide (a.2.1<b.2.1))
def acG(l:List Ed):Prop:=∀i j (hi:i<l.length) (hj:j<l.length),i<j→LF l[i] l[j]=true
theorem acH{α:Type}{w:Nat}{l:List α}{j:Nat}(hj:j<l.length):atS w (mo w l) (j:Int)=some l[j]:=by
 have:=bq (s:=mo w l) (w:=w) (iR l) (j:=j) (by rw [eZ];exact hj)
 rw [this];congr 1;simp only [eZ]
structure SI(r:Int)(K:Ed→Prop)(P:Int×Int→Prop):Prop where
 lo:∀a,P a→ce a.2
 one:∀y,K y→P (ofW y.2.2)
 add:∀a b,P a→P b→P (aI r a b)
end Ev
end
noncomputable section
namespace Ev
open Go
structure CE(K:Ed→Prop)(c:Nat)(E:List Ed):Prop where
 few:E.length≤c
 rise:acG E
 ends:∀x∈E,∃y,K y∧x.1=y.1∧x.2.1=y.2.1
 vals:∀x∈E,bu x.2.2
theorem XB{r:Int}{K:Ed→Prop}{P:Int×Int→Prop}(hP:SI r K P){e:Ed}(he:P (ofW e.2.2)):∀S:List (Sm.Ky×Sm.V),(∀p∈S,P p.2)→∀p∈Sm.ins (KM.RG r) S e,P p.2
 | [],_,p,hp=>by
  simp only [Sm.ins,List.mem_singleton]at hp;subst hp;exact he
 |q::S,h,p,hp=>by
  have hq:=h q List.mem_cons_self;have hS:∀p∈S,P p.2:=fun p hp=>h p (List.mem_cons_of_mem _ hp);unfold Sm.ins at hp;split at hp
  ·rcases List.mem_cons.1 hp with rfl|hp
   ·exact hq
   ·exact XB hP he S hS p hp
  ·split at hp
   ·rcases List.mem_cons.1 hp with rfl|hp
    ·exact he
    ·exact h p hp
   ·rcases List.mem_cons.1 hp with rfl|hp
    ·exact hP.add _ _ hq he
    ·exact hS p hp
theorem XC{r:Int}{K:Ed→Prop}{P:Int×Int→Prop}(hP:SI r K P):∀{l:List Ed} (S:List (Sm.Ky×Sm.V)),(∀p∈S,P p.2)→(∀x∈l,K x)→∀p∈l.foldl (Sm.ins (KM.RG r)) S,P p.2
 | [],S,h,_=>h
 |e::l,S,h,hK=>by
  show∀p∈l.foldl (Sm.ins (KM.RG r)) (Sm.ins (KM.RG r) S e),P p.2;exact XC hP (l:=l) _ (XB hP (hP.one _ (hK e List.mem_cons_self)) S h) fun x hx=>hK x (List.mem_cons_of_mem _ hx)
theorem kv(r:Int)(s:Sl Ed)(hr:okR r=true)(hok:okS 3 s)(hl:s.l.length≤5000)(K:Ed→Prop)(P:Int×Int→Prop)(hP:SI r K P)(hK:∀x∈s.l,K x):∃o,ct r s=some o∧((o=(⟨false,0,[]⟩,12)∧∃x,P x∧(gk x).2=false)∨∃E,o=(mo 3 E,0)∧CE K s.l.length E):=by
 have e:ct r s=some (mo 3 (Sm.sumR (KM.RG r) s.l).1,(Sm.sumR (KM.RG r) s.l).2):=KM.pT hok (by omega) hr;refine⟨_,e,?_⟩;obtain⟨g1,g2,g3,g4⟩:=KM.uA (r:=r) (l:=s.l);by_cases c:(Sm.canS (KM.RG r) s.l).all (fun p=>((KM.RG r).na p.2).2)=true
 ·right
  have h0:(Sm.sumR (KM.RG r) s.l).2=0:=by unfold Sm.sumR;rw [if_pos c]
  refine⟨(Sm.sumR (KM.RG r) s.l).1,by rw [h0],g2,fun i j hi hj hij=> ?_,fun x hx=> ?_,fun x hx=>(g3 x hx).1⟩
  ·have:=KM.bel_iff.1 (List.pairwise_iff_getElem.1 g1 i j hi hj hij)
   unfold LF;simp only [Bool.or_eq_true,Bool.and_eq_true,decide_eq_true_eq];exact this
  ·obtain⟨y,h1,h2,h3⟩:=(g3 x hx).2;exact⟨y,hK y h1,h2.symm,h3.symm⟩
 ·left
  have e2:Sm.sumR (KM.RG r) s.l=([],12):=by unfold Sm.sumR;rw [if_neg c]
  rw [e2];refine⟨rfl,?_⟩;rw [List.all_eq_true]at c
  obtain⟨p,hp,hn⟩:∃p∈Sm.canS (KM.RG r) s.l,((KM.RG r).na p.2).2=false:=by
   apply Classical.byContradiction;intro hno;refine c fun p hp=> ?_
   cases hq:((KM.RG r).na p.2).2 with
   |true=>rfl
   |false=>exact absurd ⟨p,hp,hq⟩ hno
  exact⟨p.2,XC hP [] (fun p hp=>by simp at hp) hK p hp,hn⟩
def sk(v:Int×Sl It):Prop:=fe v=true∧okS 2 v.2∧∀x∈v.2.l,bu x.2
theorem SJ:sk (0,nI):=⟨rfl,zO,fun x hx=>by simp [nI]at hx⟩
def KOf(n:Int)(Q:Int→Prop)(y:Ed):Prop:=y.1=0∧0≤y.2.1∧y.2.1<n∧Q y.2.2
theorem Gv(r n:Int)(s:Sl It)(hr:okR r=true)(hok:okS 2 s)(h0:0≤n)(hn:n≤4096)(hl:s.l.length≤5000)(Q:Int→Prop)(hs:∀x∈s.l,0≤x.1∧x.1<n∧Q x.2)(P:Int×Int→Prop)(hP:SI r (KOf n Q) P):∃v e,iY r n s=some (v,e)∧sk v∧(v.1=n∨∃x,P x∧(gk x).2=false):=by
 have hr':=hr;unfold okR at hr';unfold iY;simp only [qo,hr',zbS,if_true];rw [if_neg (by omega),if_neg (by omega)]
 obtain⟨q,h1,h2⟩:=cz (b:=ic n s) s.l.length (fun j a=>a=((s.l.take j).map (fun x=>((0,x.1,x.2):Ed)),(j:Int))) (fun q=>q= .inl (s.l.map fun x=>((0,x.1,x.2):Ed)))
  (by
   rintro j _ hj rfl;have hx:=hs _ (List.getElem_mem hj);have ha:app ((s.l.take j).map (fun x=>((0,x.1,x.2):Ed))) [(0,s.l[j].1,s.l[j].2)]=some ((s.l.take j).map (fun x=>((0,x.1,x.2):Ed))++ [(0,s.l[j].1,s.l[j].2)]):=fj (by simp;unfold bX;omega);simp only [ic,bq hok hj,zbS,bM hj (by omega),ha];rw [if_pos (by omega),if_neg (by omega),if_neg (by omega)];refine .inl ⟨_,rfl,?_⟩
   rw [List.take_succ_eq_append_getElem hj,List.map_append];rfl)
  (by
   rintro _ rfl
   exact⟨_,if_neg (by omega),by rw [List.take_length]⟩) 0 (Nat.zero_le _) ([],0) rfl
 subst h2;rw [h1];simp only [zbS,Sum.elim_inl]
 obtain⟨o,h3,h4⟩:=kv r (mo 3 (s.l.map fun x=>((0,x.1,x.2):Ed))) hr (iR _) (by rw [eZ];simpa using hl) (KOf n Q) P hP (fun x hx=>by
  rw [eZ]at hx;obtain⟨y,hy,rfl⟩:=List.mem_map.1 hx
  exact⟨rfl,hs y hy⟩)
 rw [h3];rcases h4 with⟨rfl,hbad⟩|⟨E,rfl,hE⟩
 ·exact⟨_,_,rfl,SJ,.inr hbad⟩
 have hfew:E.length≤5000:=by have:=hE.few;rw [eZ]at this;simp at this;omega
 simp only [zbS,ne_eq,not_true,if_false]
 obtain⟨q,h5,h6⟩:=cz (b:=gf (mo 3 E)) E.length (fun j a=>a=((j:Int),(E.take j).map (fun x=>((x.2.1,x.2.2):It)))) (fun q=>q= .inl (E.map fun x=>((x.2.1,x.2.2):It)))
  (by
   rintro j _ hj rfl;have ha:app ((E.take j).map (fun x=>((x.2.1,x.2.2):It))) [(E[j].2.1,E[j].2.2)]=some ((E.take j).map (fun x=>((x.2.1,x.2.2):It))++ [(E[j].2.1,E[j].2.2)]):=fj (by simp;unfold bX;omega);simp only [gf,acH hj,eZ,zbS,bM hj (by omega),ha];rw [if_pos (by omega)];refine .inl ⟨_,rfl,?_⟩
   rw [List.take_succ_eq_append_getElem hj,List.map_append];rfl)
  (by
   rintro _ rfl;simp only [gf,eZ]
   exact⟨_,if_neg (by omega),by rw [List.take_length]⟩) 0 (Nat.zero_le _) (0,[]) rfl
 subst h6;rw [h5];refine⟨_,_,rfl,⟨?_,iR _,fun x hx=> ?_⟩,.inl rfl⟩
 ·simp only [fe,qA,eZ,decide_eq_true h0,decide_eq_true hn,Bool.true_and];refine asc_iff'.2 fun j hj=> ?_;have hjE:j<E.length:=by simpa using hj
  obtain⟨y,⟨y1,y2,y3,_⟩,y4,y5⟩:=hE.ends _ (List.getElem_mem hjE);simp only [List.getElem_map];refine⟨by omega,by omega,fun hj0=> ?_⟩;obtain⟨z,⟨z1,z2,z3,_⟩,z4,z5⟩:=hE.ends _ (List.getElem_mem (show j - 1<E.length by omega))
  have:=hE.rise (j - 1) j (by omega) hjE (by omega)
  simp only [LF,Bool.or_eq_true,Bool.and_eq_true,decide_eq_true_eq]at this;omega
 ·rw [eZ]at hx;obtain⟨y,hy,rfl⟩:=List.mem_map.1 hx;exact hE.vals y hy
def OfN(a:Int×Int):Prop:=∃n,bu n∧a=ofW n
theorem ZL(n:Int):SI 1 (KOf n bu) OfN:=⟨fun a h=>by obtain⟨m,_,rfl⟩:=h;exact oV _,fun y hy=>⟨_,hy.2.2.2,rfl⟩,fun a b ha hb=>by
 unfold aI eF;rw [if_pos (.inl rfl)];split
 ·exact hb
 ·exact ha⟩
theorem LG{a:Int×Int}(h:OfN a):(gk a).2=true:=by
 obtain⟨m,hm,rfl⟩:=h;unfold gk;have e:IntKind.i64.wrap (ofW m).2=m:=by show IntKind.i64.wrap (IntKind.u64.wrap m)=m;rw [dU,IntKind.wrap_i64];unfold bu at hm;omega
 rw [e,if_pos rfl]
theorem Gw(n:Int)(s:Sl It)(hok:okS 2 s)(h0:0≤n)(hn:n≤4096)(hl:s.l.length≤5000)(hs:∀x∈s.l,0≤x.1∧x.1<n∧bu x.2):∃v e,iY 1 n s=some (v,e)∧sk v∧v.1=n:=by
 obtain⟨v,e,h1,h2,h3⟩:=Gv 1 n s (by decide) hok h0 hn hl bu hs _ (ZL n);refine⟨v,e,h1,h2,h3.resolve_right ?_⟩;rintro⟨x,hx,hb⟩;rw [LG hx]at hb;simp at hb
end Ev
end
noncomputable section
namespace Ev
open Go
theorem XD{n:Int}(h:inK .u8 n):0≤n∧n≤255:=by simpa [inK,Lit.wf,IntKind.min,IntKind.max,IntKind.signed,IntKind.bits]using h
end Ev
end
noncomputable section
namespace Ev
open Go
end Ev
end
noncomputable section
namespace Ev
open Go
end Ev
end
noncomputable section
namespace Ev
open Go
theorem wj(a b:Int×Int):jP a b=true↔a.1<b.1∨a.1=b.1∧a.2<b.2:=by unfold jP;simp
theorem Gx(a b c:Int×Int):eF (eF a b) c=eF a (eF b c):=by
 by_cases h1:jP b a=true<;>by_cases h2:jP c b=true<;>by_cases h3:jP c a=true<;>simp only [eF,h1,h2,h3,if_true,if_false,Bool.false_eq_true]<;>(exfalso;rw [wj]at*;omega)
theorem po{a b:Int×Int}(ha:ce a.2)(hb:ce b.2):mY a b=((a.1+b.1+(a.2+b.2)/ 18446744073709551616+9223372036854775808)% 18446744073709551616 - 9223372036854775808,(a.2+b.2)% 18446744073709551616):=by
 unfold ce at ha hb;unfold mY;simp only [dU,IntKind.wrap_i64];split
 ·refine Prod.ext ?_ rfl;simp only;omega
 ·refine Prod.ext ?_ rfl;simp only;omega
theorem Nw(a b:Int×Int):ce (mY a b).2:=by
 unfold mY;split<;>exact lk _
theorem LH{a b c:Int×Int}(ha:ce a.2)(hb:ce b.2)(hc:ce c.2):mY (mY a b) c=mY a (mY b c):=by
 rw [po (Nw a b) hc,po ha (Nw b c),po ha hb,po hb hc];unfold ce at ha hb hc;refine Prod.ext ?_ ?_<;>simp only<;>omega
theorem CT{r:Int}(h2:r≠2){a b c:Int×Int}(ha:ce a.2)(hb:ce b.2)(hc:ce c.2):aI r (aI r a b) c=aI r a (aI r b c):=by
 unfold aI;by_cases h1:r=1∨r=3∨r=4
 ·simp only [if_pos h1,Gx]
 ·simp only [if_neg h1,if_neg h2];by_cases h5:r=5
  ·simp only [if_pos h5,LH ha hb hc]
  ·simp only [if_neg h5]
end Ev
end
noncomputable section
namespace Ev
open Go
def toW(z:Int):Int×Int:=((z / 18446744073709551616+9223372036854775808)% 18446744073709551616 - 9223372036854775808,z % 18446744073709551616)
theorem Gy(z:Int):ce (toW z).2:=by unfold toW ce;simp only;omega
theorem Nx{n:Int}(h:bu n):ofW n=toW n:=by
 unfold ofW toW bu at*;rw [dU];refine Prod.ext ?_ rfl;simp only;split<;>omega
theorem Wf(a b:Int):mY (toW a) (toW b)=toW (a+b):=by
 rw [po (Gy a) (Gy b)];unfold toW;refine Prod.ext ?_ ?_<;>simp only<;>omega
theorem LI(z k:Int):toW (z+k*340282366920938463463374607431768211456)=toW z:=by
 unfold toW;refine Prod.ext ?_ ?_<;>simp only<;>omega
theorem pr(a b:Int):dw (toW a) (toW b)=some (toW (a+b)):=by rw [nf,Wf]
theorem Ny{n:Int}(h:ce n):eA .u64 n 4294967295=n % 4294967296:=by
 obtain⟨h0,h1⟩:=h;obtain⟨m,rfl⟩:=Int.eq_ofNat_of_zero_le h0;unfold eA;have hb:IntKind.u64.bits=64:=rfl;rw [hb,dU];have e1:(BitVec.ofInt 64 (m:Int)).toNat=m:=by rw [BitVec.toNat_ofInt];omega
 have e2:(BitVec.ofInt 64 4294967295).toNat=2 ^ 32 - 1:=by decide
 rw [BitVec.toNat_and,e1,e2,Nat.and_two_pow_sub_one_eq_mod];omega
theorem LJ{n:Int}(h:ce n):uX .u64 n 32=some (n / 4294967296):=by
 unfold uX TQ;rw [if_pos (by decide)];have e:(2:Int)^(min (32:Int).toNat IntKind.u64.bits)=4294967296:=by decide
 rw [e,Int.fdiv_eq_ediv_of_nonneg _ (by decide)]
theorem uM{a b:Int}(ha:0≤a)(ha':a≤4294967295)(hb:0≤b)(hb':b≤4294967295):0≤a*b∧a*b≤18446744065119617025:=
 ⟨Int.mul_nonneg ha hb,by have:=Int.mul_le_mul ha' hb' hb (by decide);omega⟩
theorem oe{a b:Int}(ha:ce a)(hb:ce b):cI a b=some ((a % 4294967296)*(b % 4294967296),(a % 4294967296)*(b / 4294967296),(a / 4294967296)*(b % 4294967296),(a / 4294967296)*(b / 4294967296)):=by
 unfold cI;rw [LJ ha,LJ hb];simp only [zbS,Ny ha,Ny hb];unfold ce at ha hb
 have w:∀{x y:Int},0≤x→x≤4294967295→0≤y→y≤4294967295→IntKind.u64.wrap (x*y)=x*y:=fun h1 h2 h3 h4=>by
  have:=uM h1 h2 h3 h4
  rw [dU];exact Int.emod_eq_of_lt this.1 (by omega)
 rw [w (by omega) (by omega) (by omega) (by omega),w (by omega) (by omega) (by omega) (by omega),w (by omega) (by omega) (by omega) (by omega),w (by omega) (by omega) (by omega) (by omega)]
theorem uN{n:Int}(h:ce n):fk (0,n) 32=some (toW (n*4294967296)):=by
 unfold fk;simp only;rw [if_neg (by decide),if_neg (by decide),if_neg (by decide)];have e1:IntKind.u64.wrap 0=0:=by decide
 have e2:IntKind.u64.wrap 32=32:=by decide
 have e3:IntKind.u64.wrap (IntKind.i64.wrap (64 - 32))=32:=by decide
 rw [e1,e2,e3,LJ h];unfold GL WU;have e:(2:Int)^(min (32:Int).toNat IntKind.u64.bits)=4294967296:=by decide
 simp only [e,zbS,if_pos (show(0:Int)≤32 by decide),Int.zero_mul,e1]
 have hor:orI .u64 0 (n / 4294967296)=n / 4294967296:=by
  unfold ce at h;obtain⟨m,hm⟩:=Int.eq_ofNat_of_zero_le (show 0≤n / 4294967296 by omega);rw [hm];unfold orI;have hb:IntKind.u64.bits=64:=rfl;have e0:BitVec.ofInt 64 0=0#64:=by decide
  rw [hb,dU,e0,BitVec.zero_or,BitVec.toNat_ofInt];omega
 rw [hor,IntKind.wrap_i64,dU];unfold toW;unfold ce at h;congr 1;refine Prod.ext ?_ ?_<;>simp only<;>omega
theorem xo{x y:Int}(hx:bu x)(hy:bu y):ia x y=some (toW (x*y)):=by
 unfold ia;have hux:=lk x;have huy:=lk y;have gx:IntKind.u64.wrap x=x+(if x<0 then 18446744073709551616 else 0):=by rw [dU];unfold bu at hx;split<;>omega
 have gy:IntKind.u64.wrap y=y+(if y<0 then 18446744073709551616 else 0):=by rw [dU];unfold bu at hy;split<;>omega
 generalize hX:IntKind.u64.wrap x=X at hux gx;generalize hY:IntKind.u64.wrap y=Y at huy gy;rw [oe hux huy];simp only [zbS];unfold ce at hux huy;generalize ha:X % 4294967296=a;generalize hA:X / 4294967296=A;generalize hb:Y % 4294967296=b;generalize hB:Y / 4294967296=B;have hXe:X=A*4294967296+a:=by omega
 have hYe:Y=B*4294967296+b:=by omega
 have p0:=uM (a:=a) (b:=b) (by omega) (by omega) (by omega) (by omega);have p1:=uM (a:=a) (b:=B) (by omega) (by omega) (by omega) (by omega);have p2:=uM (a:=A) (b:=b) (by omega) (by omega) (by omega) (by omega);have p3:=uM (a:=A) (b:=B) (by omega) (by omega) (by omega) (by omega)
 have hXY:X*Y=(A*B)*18446744073709551616+(a*B+A*b)*4294967296+a*b:=by
  rw [hXe,hYe,Int.add_mul,Int.mul_add,Int.mul_add]
  have q1:A*4294967296*(B*4294967296)=A*B*18446744073709551616:=by
   rw [Int.mul_assoc,Int.mul_left_comm 4294967296 B,←Int.mul_assoc];rfl
  have q2:A*4294967296*b=A*b*4294967296:=by rw [Int.mul_assoc,Int.mul_comm 4294967296 b,←Int.mul_assoc]
  have q3:a*(B*4294967296)=a*B*4294967296:=by rw [Int.mul_assoc]
  rw [q1,q2,q3];omega
 generalize hab:a*b=ab at*;generalize haB:a*B=aB at*;generalize hAb:A*b=Ab at*;generalize hAB:A*B=AB at*;rw [uN (n:=aB) ⟨by omega,by omega⟩];simp only [zbS]
 have e0:((IntKind.i64.wrap AB,ab):Int×Int)=toW (AB*18446744073709551616+ab):=by
  rw [IntKind.wrap_i64];unfold toW;refine Prod.ext ?_ ?_<;>simp only<;>omega
 rw [e0,show((toW (aB*4294967296)).1,(toW (aB*4294967296)).2)=toW (aB*4294967296)from rfl,pr];simp only [zbS];rw [uN (n:=Ab) ⟨by omega,by omega⟩];simp only [zbS];rw [show∀z,((toW z).1,(toW z).2)=toW z from fun _=>rfl,show∀z,((toW z).1,(toW z).2)=toW z from fun _=>rfl,pr];simp only [zbS];have e1:AB*18446744073709551616+ab+aB*4294967296+Ab*4294967296=X*Y:=by omega
 rw [e1]
 have hsub:∀z w:Int,(IntKind.i64.wrap ((toW z).1 - w),(toW z).2)=toW (z - w*18446744073709551616):=fun z w=>by
  rw [IntKind.wrap_i64];unfold toW;refine Prod.ext ?_ ?_<;>simp only<;>omega
 have hsub2:∀z w v:Int,(IntKind.i64.wrap (IntKind.i64.wrap ((toW z).1 - w) - v),(toW z).2)=toW (z - w*18446744073709551616 - v*18446744073709551616):=fun z w v=>by
  rw [IntKind.wrap_i64,IntKind.wrap_i64];unfold toW;refine Prod.ext ?_ ?_<;>simp only<;>omega
 by_cases hx0:x<0
 ·rw [if_pos hx0];rw [if_pos hx0]at gx;by_cases hy0:y<0
  ·rw [if_pos hy0,hsub2];rw [if_pos hy0]at gy
   have:X*Y - y*18446744073709551616 - x*18446744073709551616=x*y+1*340282366920938463463374607431768211456:=by
    rw [gx,gy,Int.add_mul,Int.mul_add,Int.mul_add];rw [Int.mul_comm x 18446744073709551616];omega
   rw [this,LI]
  ·rw [if_neg hy0,hsub];rw [if_neg hy0]at gy
   have:X*Y - y*18446744073709551616=x*y:=by
    rw [gx,gy,Int.add_zero,Int.add_mul,Int.mul_comm 18446744073709551616 y];omega
   rw [this]
 ·rw [if_neg hx0];rw [if_neg hx0]at gx;by_cases hy0:y<0
  ·rw [if_pos hy0,hsub];rw [if_pos hy0]at gy
   have:X*Y - x*18446744073709551616=x*y:=by
    rw [gx,gy,Int.add_zero,Int.mul_add];omega
   rw [this]
  ·rw [if_neg hy0];rw [if_neg hy0]at gy;rw [gx,gy,Int.add_zero,Int.add_zero]
def pu:Int:=4611686018427387904
def iK(r x y:Int):Int×Int:=
 if r=1 then(if pu≤x∨pu≤y then ofW pu else eF (toW (x+y)) (ofW pu))
 else if r=2 then gO (!decide (x=0)&& !decide (y=0))
 else if r=4 then(if pu≤x∨pu≤y then ofW pu else ofW y)
 else if r=3 then(if pu≤x∨pu≤y then ofW pu else ofW x)
 else if r=5 then toW (x*y)else(0,0)
theorem acI:bu pu:=by unfold bu pu;omega
theorem xt(r:Int){x y:Int}(hx:bu x)(hy:bu y):jS r x y=some (iK r x y):=by
 have hi:=acI;unfold jS iK;have hI:(4611686018427387904:Int)=pu:=rfl;rw [hI];by_cases h1:r=1
 ·rw [if_pos h1,if_pos h1];by_cases c1:x ≥ pu
  ·rw [if_pos c1,if_pos (.inl c1),dz hi];rfl
  ·rw [if_neg c1];by_cases c2:y ≥ pu
   ·rw [if_pos c2,if_pos (.inr c2),dz hi];rfl
   ·rw [if_neg c2,if_neg (by omega),dz hx,dz hy];simp only [zbS];rw [show∀z,((ofW z).1,(ofW z).2)=ofW z from fun _=>rfl,show∀z,((ofW z).1,(ofW z).2)=ofW z from fun _=>rfl,Nx hx,Nx hy,pr];simp only [zbS];rw [dz hi];simp only [zbS];rw [show∀z,((ofW z).1,(ofW z).2)=ofW z from fun _=>rfl,show∀z,((toW z).1,(toW z).2)=toW z from fun _=>rfl,jO];rfl
 ·rw [if_neg h1,if_neg h1];by_cases h2:r=2
  ·rw [if_pos h2,if_pos h2];by_cases c1:x=0
   ·rw [if_neg (by simpa using c1),gI];simp [c1]
   ·rw [if_pos c1];by_cases c2:y=0
    ·rw [if_neg (by simpa using c2),gI];simp [c2]
    ·rw [if_pos c2,gI];simp [c1,c2]
  ·rw [if_neg h2,if_neg h2];by_cases h4:r=4
   ·rw [if_pos h4,if_pos h4];by_cases c2:y ≥ pu
    ·rw [if_pos c2,if_pos (.inr c2),dz hi];rfl
    ·rw [if_neg c2];by_cases c1:x ≥ pu
     ·rw [if_pos c1,if_pos (.inl c1),dz hi];rfl
     ·rw [if_neg c1,if_neg (by omega),dz hy];rfl
   ·rw [if_neg h4,if_neg h4];by_cases h3:r=3
    ·rw [if_pos h3,if_pos h3];by_cases c1:x ≥ pu
     ·rw [if_pos c1,if_pos (.inl c1),dz hi];rfl
     ·rw [if_neg c1];by_cases c2:y ≥ pu
      ·rw [if_pos c2,if_pos (.inr c2),dz hi];rfl
      ·rw [if_neg c2,if_neg (by omega),dz hx];rfl
    ·rw [if_neg h3,if_neg h3];by_cases h5:r=5
     ·rw [if_pos h5,if_pos h5,xo hx hy];rfl
     ·rw [if_neg h5,if_neg h5]
end Ev
end
noncomputable section
namespace Ev
open Go
def hd:List It→List It→Int×Option Int×Option Int×List It×List It
 | [],[]=>(0,none,none,[],[])
 |x::l,[]=>(x.1,some x.2,none,l,[])
 | [],y::m=>(y.1,none,some y.2,[],m)
 |x::l,y::m=>if x.1≤y.1 then(if y.1≤x.1 then(y.1,some x.2,some y.2,l,m)else(x.1,some x.2,none,l,y::m))else(y.1,none,some y.2,x::l,m)
abbrev MR:=List It ⊕(List It ⊕ Empty)
end Ev
end
noncomputable section
namespace Ev
open Go
def outM(q:Option (Option Int))(p:Int)(s t:Sl It)(o:List It):Option ((Sl It×Sl It×List It)⊕ MR):=
 match q with
 |none=>some (.inr (.inl o))
 |some none=>some (.inl (s,t,o))
 |some (some v)=>some (.inl (s,t,o++ [(p,v)]))
end Ev
end
noncomputable section
namespace Ev
open Go
theorem CU(n:Int)(s:Sl It)(hn:0≤n∧n≤255)(hok:okS 2 s)(hl:s.l.length≤9223372036854775807)(hv:∀x∈s.l,bu x.2):∃v,go n s=some v∧sk v∧v.1=n.tmod 60:=by
 unfold go;have hw:IntKind.i64.wrap n=n:=cV (by omega) (by omega)
 obtain⟨k,hk,k0,k1,k2⟩:∃k,iZ n 60=some k∧0≤k∧k<60∧k=n.tmod 60:=by
  refine⟨n.tmod 60,by unfold iZ;rw [if_pos (by omega)],?_,?_,rfl⟩
  ·exact Int.tmod_nonneg _ hn.1
  ·exact Int.tmod_lt_of_pos _ (by omega)
 rw [hw,hk];simp only [zbS]
 obtain⟨q,h1,l,rfl,h2,h3⟩:=cz (b:=eM s k) (if 0<k then min s.l.length 60 else 0) (fun j a=>∃l,a=(l,(j:Int))∧l.length≤j∧∀x∈l,0≤x.1∧x.1<k∧bu x.2) (fun q=>∃l,q= .inl l∧l.length≤60∧∀x∈l,0≤x.1∧x.1<k∧bu x.2)
  (by
   rintro j _ hj ⟨l,rfl,hlj,hlk⟩
   have hk0:0<k:=by
    by_cases c:0<k
    ·exact c
    ·rw [if_neg c]at hj;omega
   rw [if_pos hk0]at hj;have hj1:j<s.l.length:=by omega
   have hj2:j<60:=by omega
   simp only [eM,bq hok hj1,zbS,bM hj1 (by omega)];rw [if_pos (by omega),if_pos (by omega),if_pos (by omega)];by_cases c:s.l[j].1 ≥ 0
   ·rw [if_pos c];have hm:iZ s.l[j].1 k=some (s.l[j].1.tmod k):=by unfold iZ;rw [if_pos (by omega)]
    have ha:app l [(s.l[j].1.tmod k,s.l[j].2)]=some (l++ [(s.l[j].1.tmod k,s.l[j].2)]):=fj (by simp;unfold bX;omega);simp only [hm,ha,zbS];refine .inl ⟨_,rfl,_,rfl,by simp;omega,fun x hx=> ?_⟩;rcases List.mem_append.1 hx with hx|hx
    ·exact hlk x hx
    ·simp only [List.mem_singleton]at hx;subst hx;exact⟨Int.tmod_nonneg _ c,Int.tmod_lt_of_pos _ hk0,by have:=hv s.l[j] (List.getElem_mem hj1);exact this⟩
   ·rw [if_neg c]
    exact .inl ⟨_,rfl,l,rfl,by omega,hlk⟩)
  (by
   rintro _ ⟨l,rfl,hlj,hlk⟩
   have hb:l.length≤60:=by
    by_cases c:0<k
    ·rw [if_pos c]at hlj;omega
    ·rw [if_neg c]at hlj;omega
   refine⟨.inl l,?_,l,rfl,hb,hlk⟩;simp only [eM];by_cases c:0<k
   ·rw [if_pos c];by_cases c1:((min s.l.length 60:Nat):Int)<(s.l.length:Int)
    ·rw [if_pos c1,if_neg (by omega)]
    ·rw [if_neg c1]
   ·rw [if_neg c];by_cases c1:((0:Nat):Int)<(s.l.length:Int)
    ·rw [if_pos c1,if_pos (by omega),if_neg (by omega)]
    ·rw [if_neg c1]) 0 (Nat.zero_le _) ([],0) ⟨[],rfl,Nat.le_refl _,fun x hx=>by simp at hx⟩
 rw [h1];simp only [zbS,Sum.elim_inl];obtain⟨v,e,g1,g2,g3⟩:=Gw k (mo 2 l) (iR _) k0 (by omega) (by rw [eZ];omega) (fun x hx=>h3 x (by rw [eZ]at hx;exact hx));rw [g1];exact⟨_,rfl,g2,by rw [g3,k2]⟩
theorem Nz{n:Int}{r:List It}(h0:0≤n)(h1:n≤4096)(ha:asc (-1) n r=true)(hr:∀x∈r,bu x.2):sk (n,mo 2 r):=by
 refine⟨?_,iR _,by simpa only [eZ]using hr⟩;unfold fe qA;simp only [eZ,ha,decide_eq_true h0,decide_eq_true h1,Bool.and_self]
end Ev
end
noncomputable section
namespace Ev
open Go
theorem rl{v:Int×Sl It}(h:fe v=true):asc (-1) v.1 v.2.l=true:=by unfold fe at h;simp only [Bool.and_eq_true]at h;exact h.2
abbrev RR:=List It ⊕((Int×Sl It)×Int)
theorem LK(r:Int){x y:Int}(hx:bu x)(hy:bu y):ce (iK r x y).2:=by
 unfold iK;split
 ·split
  ·exact oV _
  ·unfold eF;split
   ·exact oV _
   ·exact Gy _
 ·split
  ·unfold gO ce;split<;>simp
  ·split
   ·split<;>exact oV _
   ·split
    ·split<;>exact oV _
    ·split
     ·exact Gy _
     ·unfold ce;simp
end Ev
end
noncomputable section
namespace Ev
open Go
theorem ZM{j:Nat}(hj:j<1000000):JL .i64 (j:Int) 64=some ((j / 64:Nat):Int):=by
 unfold JL;rw [if_pos (by decide),Int.tdiv_eq_ediv_of_nonneg (by omega),cV (by omega) (by omega)];rfl
theorem ZN{j:Nat}:iZ (j:Int) 64=some ((j % 64:Nat):Int):=by
 unfold iZ;rw [if_pos (by decide),Int.tmod_eq_emod_of_nonneg (by omega)];rfl
theorem Wg{a b:Nat}(ha:a<18446744073709551616)(hb:b<18446744073709551616):eA .u64 (a:Int) (b:Int)=((a &&& b:Nat):Int):=by
 unfold eA;have hb':IntKind.u64.bits=64:=rfl;rw [hb',BitVec.toNat_and,BitVec.toNat_ofInt,BitVec.toNat_ofInt,dU];have e1:((a:Int)%((2 ^ 64:Nat):Int)).toNat=a:=by omega
 have e2:((b:Int)%((2 ^ 64:Nat):Int)).toNat=b:=by omega
 rw [e1,e2]
 have:a &&& b<2 ^ 64:=Nat.and_lt_two_pow a (by omega)
 omega
def Pn(ws:List Int)(p:Nat):Bool:=match ws[p / 64]? with|some w=>w.toNat.testBit (p % 64)|none=>false
def SK(ws:List Int):Prop:=∀w∈ws,ce w
theorem Wh(a k:Nat):a &&& 2 ^ k≠0↔a.testBit k=true:=by
 constructor
 ·intro h
  cases hc:a.testBit k with
  |true=>rfl
  |false=>
   refine absurd (Nat.eq_of_testBit_eq fun i=> ?_) h;rw [Nat.testBit_and,Nat.testBit_two_pow,Nat.zero_testBit];by_cases e:k=i
   ·subst e;rw [hc];rfl
   ·rw [decide_eq_false e,Bool.and_false]
 ·intro h e
  have:(a &&& 2 ^ k).testBit k=false:=by rw [e];exact Nat.zero_testBit _
  rw [Nat.testBit_and,Nat.testBit_two_pow,h]at this;simp at this
theorem ZO{k:Nat}(hk:k<64):2 ^ k<18446744073709551616:=Nat.pow_lt_pow_right (by decide) hk
theorem ux(s:Sl Int)(p:Nat)(hok:okS 1 s)(hu:SK s.l)(hp:p<1000000):gM s (p:Int)=some (Pn s.l p):=by
 unfold gM eH Pn;simp only [ZM hp,zbS];rw [if_pos (by omega)];by_cases h:p / 64<s.l.length
 ·rw [if_pos (by omega)];simp only [zbS,if_true,bq hok h];have hw:=hu _ (List.getElem_mem h);have hg:s.l[p / 64]? =some s.l[p / 64]:=List.getElem?_eq_getElem h;rw [hg];obtain⟨w,hw2⟩:=Int.eq_ofNat_of_zero_le hw.1;rw [hw2]at hw ⊢;have hk:p % 64<64:=Nat.mod_lt _ (by decide);have hpow:=ZO hk
  have hb:gL (p:Int)=some ((2 ^(p % 64):Nat):Int):=by
   unfold gL;simp only [ZN,zbS];have e:IntKind.u64.wrap ((p % 64:Nat):Int)=((p % 64:Nat):Int):=by rw [dU];omega
   rw [e];unfold GL WU;rw [if_pos (by omega)]
   have hmin:min (((p % 64:Nat):Int)).toNat IntKind.u64.bits=p % 64:=by
    have:IntKind.u64.bits=64:=rfl
    omega
   rw [hmin,Int.one_mul,dU];simp only [zbS];congr 1
   have:(2:Int)^(p % 64)=((2 ^(p % 64):Nat):Int):=by simp
   rw [this];clear this;generalize 2 ^(p % 64)=z at hpow ⊢;omega
  rw [hb];simp only [zbS];rw [Wg (by have:=hw.2;omega) hpow];simp only [Int.toNat_natCast];have ht:=Wh w (p % 64)
  cases hc:w.testBit (p % 64)with
  |false=>rw [hc]at ht;rw [if_neg (fun h=>by have:=ht.1 (fun e=>h (by rw [e];rfl));simp at this)]
  |true=>rw [hc]at ht;rw [if_pos (by have:=ht.2 rfl;omega)]
 ·rw [if_neg (by omega)];simp only [zbS,Bool.false_eq_true,if_false];rw [List.getElem?_eq_none (by omega)]
theorem Wi{s:Sl Int}(h:SlW 1 (fun x=>inK .u64 x) s):SK s.l:=fun x hx=>by
 have:=h.2.2.2 x hx
 simpa [inK,ce,Lit.wf,IntKind.min,IntKind.max,IntKind.signed,IntKind.bits]using this
end Ev
end
noncomputable section
namespace Ev
open Go
end Ev
end
noncomputable section
namespace Ev
open Go
abbrev E3:=Int×Int×Int
def bel(a b:E3):Bool:=decide (a.1<b.1)||(decide (a.1=b.1)&& decide (a.2.1<b.2.1))
theorem bel_iff{a b:E3}:bel a b=true↔a.1<b.1∨a.1=b.1∧a.2.1<b.2.1:=by unfold bel;simp
def cU{α:Type}(l:List α)(k:Nat)(y:α):List α:=l.take k++y::l.drop k
theorem ID{α:Type}{l:List α}{k:Nat}(y:α):(cU l k y).length=l.length+1:=by unfold cU;simp;omega
theorem pg{α:Type}{l:List α}{k:Nat}(hk:k≤l.length)(y:α):(cU l k y)[k]? =some y:=by
 unfold cU;rw [List.getElem?_append_right (by rw [List.length_take];omega),List.length_take,Nat.min_eq_left hk,Nat.sub_self];rfl
theorem mD{α:Type}{l:List α}{k:Nat}(hk:k≤l.length)(y x:α):(cU l k y).set k x=cU l k x:=by
 unfold cU;rw [List.set_append_right _ _ (by rw [List.length_take];omega),List.length_take,Nat.min_eq_left hk,Nat.sub_self];rfl
theorem oh{α:Type}(l:List α)(y:α):cU l l.length y=l++ [y]:=by unfold cU;simp
theorem ol{α:Type}{l:List α}{k:Nat}(hk:k+1≤l.length)(y:α):(cU l (k+1) y)[k]? =some l[k]∧cU l (k+1) l[k]=cU l k l[k]:=by
 unfold cU;constructor
 ·rw [List.getElem?_append_left (by simp;omega),List.getElem?_take,if_pos (by omega),List.getElem?_eq_getElem]
 ·rw [List.take_succ_eq_append_getElem (by omega),List.append_assoc,List.drop_eq_getElem_cons (i:=k) (by omega)];rfl
theorem IE{α:Type}{l:List α}{k:Nat}{y x:α}(h:x∈cU l k y):x=y∨x∈l:=by
 unfold cU at h;rcases List.mem_append.1 h with h|h
 ·exact .inr (List.mem_of_mem_take h)
 ·rcases List.mem_cons.1 h with h|h
  ·exact .inl h
  ·exact .inr (List.mem_of_mem_drop h)
abbrev RC:=(List E3×List (Int×Int)×Int)⊕((List E3×List (Int×Int))⊕(Sl E3×Int))
abbrev cn(l:List E3):Prop:=l.Pairwise fun a b=>bel a b=true
end Ev
end
noncomputable section
namespace Ev
open Go
def cM(n:Int):Bool:=decide (0≤n)&& decide (n≤4096)
end Ev
end
noncomputable section
namespace Ev
open Go
theorem jf{l:List Int}{i:Nat}(h:i<l.length):l.getD i 0=l[i]:=by rw [List.getD_eq_getElem?_getD,List.getElem?_eq_getElem h];rfl
theorem all_range{n:Nat}{f:Nat→Bool}:(List.range n).all f=true↔∀i,i<n→f i=true:=by
 rw [List.all_eq_true];exact⟨fun h i hi=>h i (by simpa using hi),fun h i hi=>h i (by simpa using hi)⟩
theorem rg{n:Nat}{f:Nat→Bool}{i:Nat}(hi:i<n)(h:f i=false):(List.range n).all f=false:=by
 rw [Bool.eq_false_iff];intro e;have:=all_range.1 e i hi;rw [h]at this;simp at this
theorem NA{n:Int}(f:Int→Int):∀{l:List Int} {a:Int},l.Pairwise (·<·)→(∀p∈l,a<p∧p<n)→asc a n (l.map fun p=>(p,f p))=true
 | [],a,_,_=>rfl
 |x::l,a,h1,h2=>by
  rw [List.pairwise_cons]at h1;have hx:=h2 x List.mem_cons_self;simp only [List.map_cons,asc,Bool.and_eq_true,decide_eq_true_eq];exact⟨hx,NA f h1.2 fun p hp=>⟨h1.1 p hp,(h2 p (List.mem_cons_of_mem _ hp)).2⟩⟩
end Ev
end
noncomputable section
namespace Ev
open Go
abbrev Mx:=Int×Int×Sl Int×Sl Int×Sl Int
def gD(a n:Int)(l:List Int):Bool:=asc a n (l.map fun k=>(k,0))
theorem rh(a n x:Int)(l:List Int):gD a n (x::l)=(decide (a<x)&& decide (x<n)&& gD x n l):=rfl
theorem ascI_iff{n:Int}{l:List Int}:gD (-1) n l=true↔∀j (h:j<l.length),0≤l[j]∧l[j]<n∧(j≠0→l[j - 1]'(by omega)<l[j]):=by
 unfold gD;rw [asc_iff'];constructor
 ·intro h j hj
  have:=h j (by simpa using hj)
  simpa using this
 ·intro h j hj
  have:=h j (by simpa using hj)
  simpa using this
def bE{α:Type}(l:List α)(f t:Int):List α:=(l.drop f.toNat).take (t.toNat - f.toNat)
theorem og{α:Type}{l:List α}{f t:Int}(h:0≤f∧f≤t∧t≤l.length):(bE l f t).length=t.toNat - f.toNat:=by
 unfold bE;simp;omega
theorem zP{α:Type}{l:List α}{f t:Int}(h:0≤f∧f≤t∧t≤l.length){j:Nat}(hj:j<t.toNat - f.toNat):(bE l f t)[j]'(by rw [og h];exact hj)=l[f.toNat+j]'(by omega):=by
 unfold bE;simp
def gE(c:Int)(st co:List Int)(i:Nat):Bool:=decide (0≤st.getD i 0)&&(decide (st.getD i 0≤st.getD (i+1) 0)&&(decide (st.getD (i+1) 0≤co.length)&& gD (-1) c (bE co (st.getD i 0) (st.getD (i+1) 0))))
def lQ(m:Mx):Bool:=cM m.1 &&(cM m.2.1 &&(decide ((m.2.2.1.l.length:Int)=m.1+1)&&(decide (m.2.2.1.l.getD 0 0=0)&&(decide (m.2.2.2.1.l.length=m.2.2.2.2.l.length)&&(decide (m.2.2.2.1.l.length≤65536)&&(decide (m.2.2.1.l.getD m.1.toNat 0=m.2.2.2.1.l.length)&&(List.range m.1.toNat).all (gE m.2.1 m.2.2.1.l m.2.2.2.1.l)))))))
structure OkM(m:Mx):Prop where
 st:okS 1 m.2.2.1
 co:okS 1 m.2.2.2.1
 va:okS 1 m.2.2.2.2
 v64:∀x∈m.2.2.2.2.l,bu x
 sl:m.2.2.1.l.length≤9223372036854775807
 cl:m.2.2.2.1.l.length≤9223372036854775807
 vl:m.2.2.2.2.l.length≤9223372036854775807
theorem fy{n:Nat}{c:Int}{st co:List Int}{i:Nat}(hi:i<n)(h:gE c st co i=false):(List.range n).all (gE c st co)=false:=rg hi h
theorem sizeF_iff{n:Int}:cM n=true↔0≤n∧n≤4096:=by unfold cM;simp
theorem FT{n:Nat}{c:Int}{s t:Sl Int}(hs:okS 1 s)(ht:okS 1 t)(hl:s.l.length=n+1)(tl:t.l.length≤65536){i:Nat}(hi:i<n)(hp:0≤s.l.getD i 0∧s.l.getD i 0≤s.l.getD (i+1) 0∧s.l.getD (i+1) 0≤(t.l.length:Int))(hn:n≤4096):
  ∃q,aN (cL c s t (i:Int)) (s.l.getD i 0)=some q∧((gD (-1) c (bE t.l (s.l.getD i 0) (s.l.getD (i+1) 0))=true∧q= .inl ())∨(gD (-1) c (bE t.l (s.l.getD i 0) (s.l.getD (i+1) 0))=false∧q= .inr (.inr (.inr false)))):=by
 have e1:=bq hs (j:=i) (by omega);have e2:=bq hs (j:=i+1) (by omega);rw [←jf]at e1 e2;generalize hf:s.l.getD i 0=f at*;generalize hg:s.l.getD (i+1) 0=g at*;have hlen:=og (l:=t.l) hp;have hget:=fun j hj=>zP (l:=t.l) hp (j:=j) hj
 have hF:∀j (hj:j<(bE t.l f g).length),¬(0≤(bE t.l f g)[j]∧(bE t.l f g)[j]<c∧(j≠0→(bE t.l f g)[j - 1]'(by omega)<(bE t.l f g)[j]))→gD (-1) c (bE t.l f g)=false:=fun j hj hh=>by
  rw [Bool.eq_false_iff];intro hc;exact hh (ascI_iff.1 hc j hj)
 have key:=cz (b:=cL c s t (i:Int)) (g.toNat - f.toNat) (fun j a=>a=f+(j:Int)∧∀i (h:i<(bE t.l f g).length),i<j→0≤(bE t.l f g)[i]∧(bE t.l f g)[i]<c∧(i≠0→(bE t.l f g)[i - 1]'(by omega)<(bE t.l f g)[i])) (fun q=>(gD (-1) c (bE t.l f g)=true∧q= .inl ())∨(gD (-1) c (bE t.l f g)=false∧q= .inr (.inr (.inr false))))
  (by
   rintro j _ hj ⟨rfl,ha⟩;have hk:f.toNat+j<t.l.length:=by omega
   have ek:=bq ht hk;rw [show((f.toNat+j:Nat):Int)=f+(j:Int)by omega]at ek;have hcj:=hget j hj;have w1:IntKind.i64.wrap ((i:Int)+1)=((i+1:Nat):Int):=bM hi (by omega);simp only [cL,w1,e2,e1,zbS,ek];rw [if_pos (by omega)];rw [←hcj];by_cases c1:(bE t.l f g)[j]'(by omega)<0
   ·rw [if_pos c1];exact .inr ⟨_,rfl,.inr ⟨hF j (by omega) (fun h=>by omega),rfl⟩⟩
   rw [if_neg c1];by_cases c2:(bE t.l f g)[j]'(by omega)≥ c
   ·rw [if_pos c2];exact .inr ⟨_,rfl,.inr ⟨hF j (by omega) (fun h=>by omega),rfl⟩⟩
   rw [if_neg c2]
   have next:(j≠0→(bE t.l f g)[j - 1]'(by omega)<(bE t.l f g)[j]'(by omega))→∀i (h:i<(bE t.l f g).length),i<j+1→0≤(bE t.l f g)[i]∧(bE t.l f g)[i]<c∧(i≠0→(bE t.l f g)[i - 1]'(by omega)<(bE t.l f g)[i]):=fun hh i h hij=>by
    by_cases e:i=j
    ·subst e;exact⟨by omega,by omega,hh⟩
    ·exact ha i h (by omega)
   have wk:IntKind.i64.wrap (f+(j:Int)+1)=f+((j+1:Nat):Int):=by rw [cV (by omega) (by omega)];omega
   rw [wk];by_cases c3:f+(j:Int)>f
   ·rw [if_pos c3,cV (n:=f+(j:Int) - 1) (by omega) (by omega)];have ep:=bq ht (j:=f.toNat+(j - 1)) (by omega);rw [show((f.toNat+(j - 1):Nat):Int)=f+(j:Int) - 1 by omega,←hget (j - 1) (by omega)]at ep;rw [ep];simp only [zbS];by_cases c4:(bE t.l f g)[j]'(by omega)≤(bE t.l f g)[j - 1]'(by omega)
    ·rw [if_pos c4];exact .inr ⟨_,rfl,.inr ⟨hF j (by omega) (fun h=>by have:=h.2.2 (by omega);omega),rfl⟩⟩
    ·rw [if_neg c4];exact .inl ⟨_,rfl,rfl,next fun _=>by omega⟩
   ·rw [if_neg c3];exact .inl ⟨_,rfl,rfl,next fun h0=>absurd h0 (by omega)⟩)
  (by
   rintro _ ⟨rfl,ha⟩;have w1:IntKind.i64.wrap ((i:Int)+1)=((i+1:Nat):Int):=bM hi (by omega);simp only [cL,w1,e2,zbS];rw [if_neg (by omega)]
   exact⟨_,rfl,.inl ⟨ascI_iff.2 fun j hj=>ha j hj (by omega),rfl⟩⟩) 0 (Nat.zero_le _) f ⟨by omega,fun i h hi=>absurd hi (by omega)⟩
 exact key
theorem zQ{n:Nat}{c:Int}{s t:Sl Int}(hs:okS 1 s)(ht:okS 1 t)(hn:n≤4096)(hl:s.l.length=n+1)(tl:t.l.length≤65536):∃q,aN (cK (n:Int) c s t) 0=some q∧(((List.range n).all (gE c s.l t.l)=true∧q= .inl ())∨((List.range n).all (gE c s.l t.l)=false∧q= .inr false)):=by
 refine cz (b:=cK (n:Int) c s t) n (fun j a=>a=(j:Int)∧∀i,i<j→gE c s.l t.l i=true) _ ?_ ?_ 0 (Nat.zero_le _) 0 ⟨rfl,fun i hi=>absurd hi (by omega)⟩
 ·rintro j _ hj ⟨rfl,ha⟩;have e1:=bq hs (j:=j) (by omega);have e2:=bq hs (j:=j+1) (by omega);rw [←jf]at e1 e2;simp only [cK,e1,zbS,bM hj (by omega)];rw [if_pos (by omega),e2];simp only [zbS];by_cases c1:s.l.getD j 0>s.l.getD (j+1) 0
  ·rw [if_pos c1];exact .inr ⟨_,rfl,.inr ⟨fy hj (by unfold gE;rw [decide_eq_false (p:=s.l.getD j 0≤s.l.getD (j+1) 0) (by omega)];simp),rfl⟩⟩
  rw [if_neg c1];by_cases c0:s.l.getD j 0<0
  ·rw [if_pos c0];exact .inr ⟨_,rfl,.inr ⟨fy hj (by unfold gE;rw [decide_eq_false (p:=0≤s.l.getD j 0) (by omega)];simp),rfl⟩⟩
  rw [if_neg c0];by_cases c2:s.l.getD (j+1) 0>((t.l.length:Nat):Int)
  ·rw [if_pos c2];exact .inr ⟨_,rfl,.inr ⟨fy hj (by unfold gE;rw [decide_eq_false (p:=s.l.getD (j+1) 0≤(t.l.length:Int)) (by omega)];simp),rfl⟩⟩
  rw [if_neg c2];obtain⟨q,q1,q2⟩:=FT (c:=c) hs ht hl tl hj ⟨by omega,by omega,by omega⟩ hn;rw [q1]
  have hr:gE c s.l t.l j=gD (-1) c (bE t.l (s.l.getD j 0) (s.l.getD (j+1) 0)):=by
   unfold gE;rw [decide_eq_true (p:=0≤s.l.getD j 0) (by omega),decide_eq_true (p:=s.l.getD j 0≤s.l.getD (j+1) 0) (by omega),decide_eq_true (p:=s.l.getD (j+1) 0≤(t.l.length:Int)) (by omega)];simp
  rcases q2 with⟨e,rfl⟩|⟨e,rfl⟩
  ·refine .inl ⟨_,rfl,rfl,fun i hi=> ?_⟩;by_cases e':i=j
   ·rw [e',hr,e]
   ·exact ha i (by omega)
  ·exact .inr ⟨_,rfl,.inr ⟨fy hj (by rw [hr,e]),rfl⟩⟩
 ·rintro _ ⟨rfl,ha⟩;exact⟨_,if_neg (by omega),.inl ⟨all_range.2 ha,rfl⟩⟩
theorem mB{m:Mx}(h:OkM m):eL m=some (lQ m):=by
 obtain⟨n,c,s,t,v⟩:=m;obtain⟨h1,h2,h3,h4,h5,h6,h7⟩:=h;simp only at h1 h2 h3 h4 h5 h6 h7;unfold eL lQ;simp only;by_cases a1:n<0
 ·rw [if_pos a1,show cM n=false by unfold cM;rw [decide_eq_false (by omega)];rfl];rfl
 by_cases a2:n>4096
 ·rw [if_neg a1,if_pos a2,show cM n=false by unfold cM;rw [decide_eq_false (p:=n≤4096) (by omega)];simp];rfl
 rw [if_neg a1,if_neg a2,sizeF_iff.2 ⟨by omega,by omega⟩];by_cases b1:c<0
 ·rw [if_pos b1,show cM c=false by unfold cM;rw [decide_eq_false (by omega)];rfl];rfl
 by_cases b2:c>4096
 ·rw [if_neg b1,if_pos b2,show cM c=false by unfold cM;rw [decide_eq_false (p:=c≤4096) (by omega)];simp];rfl
 rw [if_neg b1,if_neg b2,sizeF_iff.2 ⟨by omega,by omega⟩];simp only [Bool.true_and];rw [cV (n:=n+1) (by omega) (by omega)];by_cases g1:((s.l.length:Nat):Int)=n+1
 ·rw [if_neg (fun h=>h g1),decide_eq_true g1];simp only [Bool.true_and];by_cases g3:t.l.length=v.l.length
  ·rw [if_neg (fun h=>h (by omega)),decide_eq_true g3];simp only [Bool.true_and];by_cases g4:t.l.length≤65536
   ·rw [if_neg (by omega),decide_eq_true g4];have e0:=bq h1 (j:=0) (by omega);rw [←jf]at e0;have e0':atS 1 s 0=some (s.l.getD 0 0):=e0;rw [e0'];simp only [zbS,Bool.true_and];by_cases g2:s.l.getD 0 0=0
    ·rw [if_neg (fun h=>h g2),decide_eq_true g2];obtain⟨k,rfl⟩:=Int.eq_ofNat_of_zero_le (show 0≤n by omega);have en:=bq h1 (j:=k) (by omega);rw [←jf]at en;rw [en];simp only [zbS,Int.toNat_natCast,Bool.true_and];by_cases g5:s.l.getD k 0=((t.l.length:Nat):Int)
     ·rw [if_neg (fun h=>h g5),decide_eq_true g5];simp only [Bool.true_and];obtain⟨q,q1,q2⟩:=zQ (c:=c) h1 h2 (by omega) (n:=k) (by omega) g4;rw [q1];rcases q2 with⟨e,rfl⟩|⟨e,rfl⟩<;>rw [e]<;>rfl
     ·rw [if_pos g5,decide_eq_false g5];rfl
    ·rw [if_pos g2,decide_eq_false g2];rfl
   ·rw [if_pos (by omega),decide_eq_false g4];simp
  ·rw [if_pos (fun h=>g3 (by omega)),decide_eq_false g3];simp
 ·rw [if_pos g1,decide_eq_false g1];rfl
def XE(m:Mx):Mx:=if lQ m=true then m else(0,0,⟨true,1,[0]⟩,nI,nI)
theorem sd{m:Mx}(h:OkM m):ew m=some (XE m):=by
 have hR:=mB h;obtain⟨n,c,s,t,v⟩:=m;unfold ew XE;simp only [hR,zbS];split
 ·rfl
 ·rfl
end Ev
end
noncomputable section
namespace Ev
open Go
abbrev Wd:=Int×Int
def eC(r:Int)(h:Int→Option Int)(acc:Option Wd)(x:Int×Int):Option Wd:=
 match h x.1 with
 |none=>acc
 |some y=>some (match acc with|none=>iK r x.2 y|some a=>aI r a (iK r x.2 y))
def bi(r:Int)(h:Int→Option Int):List (Int×Int)→Option Wd→Option Wd
 | [],acc=>acc
 |x::l,acc=>bi r h l (eC r h acc x)
def ael:Option Wd→Bool
 |none=>false
 |some _=>true
def aem:Option Wd→Wd
 |none=>(0,0)
 |some w=>w
def Aw(ws:List Int)(o:Bool)(i:Nat):Bool:=Pn ws i !=o
theorem Wj{l:List (Int×Wd)}(hl:l.length≤5000)(x:Int×Wd):app l [x]=some (l++ [x]):=fj (by simp;unfold bX;omega)
theorem CV(s:Sl (Int×Wd))(hok:okS 3 s)(hl:s.l.length≤9223372036854775807):cJ s s=some true:=by
 unfold cJ;rw [if_neg (by simp)]
 obtain⟨q,h1,h2⟩:=cz (b:=dB s s) s.l.length (fun j a=>a=(j:Int)) (fun q=>q= .inl ())
  (by
   rintro j _ hj rfl;simp only [dB,bq hok hj,zbS,bM hj (by omega)];rw [if_pos (by omega)]
   exact .inl ⟨_,if_pos (by simp),rfl⟩)
  (by
   rintro _ rfl
   exact⟨_,if_neg (by omega),rfl⟩) 0 (Nat.zero_le _) 0 rfl
 subst h2;rw [h1];rfl
end Ev
end
noncomputable section
namespace Ev
open Go
def gU(n:Nat)(f:Nat→Int):List Int:=(List.range (n+1)).map f
theorem gF(n:Nat)(f:Nat→Int):(gU n f).length=n+1:=by unfold gU;simp
theorem fU{n k:Nat}(f:Nat→Int)(h:k≤n):(gU n f)[k]? =some (f k):=by
 unfold gU;rw [List.getElem?_map,List.getElem?_range (by omega)];rfl
theorem iH{n k:Nat}(f:Nat→Int)(h:k≤n):(gU n f).getD k 0=f k:=by rw [List.getD_eq_getElem?_getD,fU f h];rfl
theorem kw{n:Nat}{f g:Nat→Int}(h:∀k,k≤n→f k=g k):gU n f=gU n g:=by
 unfold gU;refine List.map_congr_left fun k hk=>h k ?_;simp at hk;omega
theorem Iz{n k:Nat}(f:Nat→Int)(v:Int)(h:k≤n):(gU n f).set k v=gU n fun i=>if i=k then v else f i:=by
 refine List.ext_getElem? fun i=> ?_;rw [List.getElem?_set];by_cases hi:i≤n
 ·rw [fU _ hi];by_cases e:k=i
  ·subst e;rw [if_pos rfl,if_pos (by rw [gF];omega),fU _ hi,if_pos rfl]
  ·rw [if_neg e,fU _ hi,if_neg (Ne.symm e)]
 ·rw [if_neg (by omega)];rw [List.getElem?_eq_none (by rw [gF];omega),List.getElem?_eq_none (by rw [gF];omega)]
theorem vX(n:Nat):List.replicate (n+1) (0:Int)=gU n fun _=>0:=by
 refine List.ext_getElem? fun i=> ?_;by_cases hi:i≤n
 ·rw [fU _ hi,List.getElem?_replicate,if_pos (by omega)]
 ·rw [List.getElem?_eq_none (by simp;omega),List.getElem?_eq_none (by rw [gF];omega)]
def aC(l:List E3)(k:Nat):Nat:=l.countP fun x=>decide (x.1<(k:Int))
theorem nm(l:List E3)(k:Nat):aC l k≤l.length:=List.countP_le_length
theorem IA(l:List E3)(x:E3)(k:Nat):aC (l++ [x]) k=aC l k+if x.1<(k:Int)then 1 else 0:=by
 unfold aC;rw [List.countP_append];congr 1;by_cases h:x.1<(k:Int)<;>simp [h]
def ye(n c:Int)(l:List E3):Mx:=(n,c,⟨true,1,gU n.toNat fun k=>((aC l k:Nat):Int)⟩,mo 1 (l.map (·.2.1)),mo 1 (l.map (·.2.2)))
theorem qq{l:List E3}(h:l.Pairwise fun a b=>a.1≤b.1)(k:Int):(l.filter fun x=>decide (x.1<k))++(l.filter fun x=> !decide (x.1<k))=l:=by
 induction l with
 |nil=>rfl
 |cons x l ih=>
  rw [List.pairwise_cons]at h;have ih:=ih h.2;by_cases c:x.1<k
  ·rw [List.filter_cons_of_pos (by simp [c]),List.filter_cons_of_neg (by simp [c]),List.cons_append,ih]
  ·have e1:(l.filter fun x=>decide (x.1<k))= []:=by
    rw [List.filter_eq_nil_iff];intro y hy
    have:=h.1 y hy
    simp;omega
   rw [e1,List.nil_append]at ih;rw [List.filter_cons_of_neg (by simp [c]),List.filter_cons_of_pos (by simp [c]),e1,List.nil_append,ih]
theorem pf{l:List E3}(h:l.Pairwise fun a b=>a.1≤b.1)(k:Nat):l.take (aC l k)=(l.filter fun x=>decide (x.1<(k:Int)))∧l.drop (aC l k)=l.filter fun x=> !decide (x.1<(k:Int)):=by
 have e:=qq h (k:Int);have hl:aC l k=(l.filter fun x=>decide (x.1<(k:Int))).length:=by unfold aC;rw [List.countP_eq_length_filter]
 have key:∀A B:List E3,A++B=l→l.take A.length=A∧l.drop A.length=B:=by
  rintro A B rfl;exact⟨List.take_left,List.drop_left⟩
 rw [hl];exact key _ _ e
def sP(l:List E3)(i:Nat):List E3:=(l.filter fun x=> !decide (x.1<(i:Int))).filter fun x=>decide (x.1<((i+1:Nat):Int))
theorem rowE_mem{l:List E3}{i:Nat}{x:E3}:x∈sP l i↔x∈l∧x.1=(i:Int):=by
 unfold sP;simp only [List.mem_filter,Bool.not_eq_true',decide_eq_false_iff_not,decide_eq_true_eq];constructor
 ·rintro⟨⟨h1,h2⟩,h3⟩;exact⟨h1,by omega⟩
 ·rintro⟨h1,h2⟩;exact⟨⟨h1,by omega⟩,by omega⟩
theorem qr{l:List E3}(h:cn l):l.Pairwise fun a b=>a.1≤b.1:=h.imp fun hb=>by rw [bel_iff]at hb;omega
theorem np{l:List E3}(h:cn l)(i:Nat):aC l i≤aC l (i+1)∧(l.drop (aC l i)).take (aC l (i+1) - aC l i)=sP l i:=by
 have hle:=qr h;have e1:=(pf hle i).2
 have hmono:aC l i≤aC l (i+1):=by
  unfold aC;refine List.countP_mono_left fun x _ hx=> ?_;simp only [decide_eq_true_eq]at hx ⊢;omega
 refine⟨hmono,?_⟩;rw [e1];have hg:(l.filter fun x=> !decide (x.1<(i:Int))).Pairwise fun a b=>a.1≤b.1:=hle.sublist List.filter_sublist;have e2:=(pf hg (i+1)).1
 have hc:aC (l.filter fun x=> !decide (x.1<(i:Int))) (i+1)=aC l (i+1) - aC l i:=by
  have h1:aC l (i+1)=aC (l.filter fun x=>decide (x.1<(i:Int))) (i+1)+aC (l.filter fun x=> !decide (x.1<(i:Int))) (i+1):=by
   conv=>lhs;rw [←qq hle (i:Int)]
   unfold aC;rw [List.countP_append]
  have h2:aC (l.filter fun x=>decide (x.1<(i:Int))) (i+1)=aC l i:=by
   unfold aC;rw [List.countP_filter];refine List.countP_congr fun x _=> ?_;simp only [Bool.and_eq_true,decide_eq_true_eq];omega
  omega
 rw [←hc,e2];rfl
theorem sQ{l:List E3}(h:cn l)(i:Nat):((sP l i).map (·.2.1)).Pairwise (·<·):=by
 rw [List.pairwise_map];have hs:cn (sP l i):=h.sublist (List.filter_sublist.trans List.filter_sublist);refine hs.imp_of_mem fun{a b} ha hb hab=> ?_;have h1:=(rowE_mem.1 ha).2;have h2:=(rowE_mem.1 hb).2;rw [bel_iff]at hab;omega
theorem uz{α β:Type}(f:α→β)(l:List α)(a b:Int):bE (l.map f) a b=(bE l a b).map f:=by unfold bE;rw [←List.map_drop,←List.map_take]
theorem zR{n c:Int}(hn:0≤n∧n≤4096)(hc:0≤c∧c≤4096){l:List E3}(hl:l.length≤65536)(h:cn l)(hp:∀x∈l,(0≤x.1∧x.1<n)∧0≤x.2.1∧x.2.1<c):lQ (ye n c l)=true:=by
 have h0:aC l 0=0:=by
  unfold aC;rw [List.countP_eq_zero];intro x hx
  have:=(hp x hx).1.1
  simp;omega
 have hN:aC l n.toNat=l.length:=by
  unfold aC;rw [List.countP_eq_length];intro x hx
  have:=(hp x hx).1.2
  simp;omega
 unfold lQ ye;simp only [eZ,Bool.and_eq_true,decide_eq_true_eq,sizeF_iff,List.length_map,gF];refine⟨hn,hc,by omega,?_,trivial,hl,?_,?_⟩
 ·rw [iH _ (Nat.zero_le _),h0];rfl
 ·rw [iH _ (Nat.le_refl _),hN]
 ·refine all_range.2 fun i hi=> ?_;unfold gE;rw [iH _ (by omega),iH _ (by omega)];obtain⟨r1,r2⟩:=np h i;have hle:=nm l (i+1);simp only [Bool.and_eq_true,decide_eq_true_eq,List.length_map];refine⟨by omega,by omega,by omega,?_⟩
  have e:bE (l.map (·.2.1)) ((aC l i:Nat):Int) ((aC l (i+1):Nat):Int)=(sP l i).map (·.2.1):=by
   rw [uz];unfold bE;rw [Int.toNat_natCast,Int.toNat_natCast,r2]
  rw [e]
  exact NA (fun _=>0) (sQ h i) fun p hp'=>by
   obtain⟨x,hx,rfl⟩:=List.mem_map.1 hp'
   have:=(hp x (rowE_mem.1 hx).1).2
   omega
def dn(n:Int):Int:=n.tmod 40
theorem nH{n:Int}(h:0≤n∧n≤255):dL n=some (dn n)∧0≤dn n∧dn n<40:=by
 unfold dL dn iZ;rw [cV (by omega) (by omega),if_pos (by decide),Int.tmod_eq_emod_of_nonneg (by omega)];exact⟨rfl,by omega,by omega⟩
end Ev
end
noncomputable section
namespace Ev
open Go
theorem mu{r:Int}{h:Int→Option Int}(hh:∀k y,h k=some y→bu y):∀{l:List (Int×Int)} {acc:Option Wd},(∀x∈l,bu x.2)→(∀w,acc=some w→ce w.2)→∀w,bi r h l acc=some w→ce w.2
 | [],acc,_,ha,w,hw=>ha w hw
 |x::l,acc,hl,ha,w,hw=>by
  refine mu hh (fun y hy=>hl y (List.mem_cons_of_mem _ hy)) (fun v hv=> ?_) w hw;unfold eC at hv
  cases hx:h x.1 with
  |none=>rw [hx]at hv;exact ha v hv
  |some y=>
   rw [hx]at hv;simp only [zsI]at hv;have hm:=LK r (hl x List.mem_cons_self) (hh _ _ hx);rw [←hv]
   cases acc with
   |none=>exact hm
   |some a=>exact oX (ha a rfl) hm
end Ev
end
noncomputable section
namespace Ev
open Go
theorem yA{p y:Int}:∀{l:List It},cS p l=some y→(p,y)∈l
 |x::l,h=>by
  unfold cS at h;split at h
  ·rename_i e;simp only [zsI]at h;rw [←e,←h];exact List.mem_cons_self
  ·exact List.mem_cons_of_mem _ (yA h)
end Ev
end
end Go.Proofs.Ytjjbpdldbdmoeaa
