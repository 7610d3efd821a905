/- Texts of a claim, joined. -/
import Derived.Test.YtjjbpdldbdmoeaaZT13
import Derived.Test.YtjjbpdldbdmoeaaZT10
import Derived.Test.YtjjbpdldbdmoeaaZT11
set_option linter.unusedVariables false
set_option linter.unusedSimpArgs false
namespace Go.Proofs.Ytjjbpdldbdmoeaa
noncomputable section
namespace Ev
namespace KM
section
open Go
def okS{α:Type}(w:Nat)(s:Sl α):Prop:=s.l= []∨s.sz=w
theorem SlW.ok{α:Type}{w:Nat}{Q:α→Prop}{s:Sl α}(h:SlW w Q s):okS w s:= .inr h.1
def nI{α:Type}:Sl α:=⟨false,0,[]⟩
theorem zO{α:Type}{w:Nat}:okS w (nI:Sl α):= .inl rfl
theorem iR{α:Type}{w:Nat}(l:List α):okS w (mo w l):=by cases l with|nil=>exact .inl rfl|cons x l=>exact .inr rfl
theorem cZ{α:Type}{l:List α}{j:Nat}{x:α}(h:l[j]? =some x):atL l (j:Int)=some x:=by
 have hj:=(List.getElem?_eq_some_iff.1 h);rw [WZ hj.1,hj.2]
theorem jw{α:Type}{w:Nat}{s:Sl α}(hs:okS w s){j:Nat}{x:α}(h:s.l[j]? =some x):atS w s (j:Int)=some x:=by
 have hj:=(List.getElem?_eq_some_iff.1 h);rw [bq hs hj.1,hj.2]
theorem Sk{A R:Type}{b:A→Option (A ⊕ R)}(n:Nat)(st:Nat→A){r:R}(hs:∀j,j<n→b (st j)=some (.inl (st (j+1))))(he:b (st n)=some (.inr r)):aN b (st 0)=some r:=by
 obtain⟨q,h1,h2⟩:=cz (b:=b) n (fun j a=>a=st j) (fun q=>q=r) (fun j a hj ha=> .inl ⟨st (j+1),by rw [ha];exact hs j hj,rfl⟩) (fun a ha=>⟨r,by rw [ha];exact he,rfl⟩) 0 (Nat.zero_le _) (st 0) rfl;rw [h1,h2]
theorem fT{A R:Type}{b:A→Option (A ⊕ R)}(n:Nat)(st:Nat→A){a:A}(ha:a=st 0){r:R}(hs:∀j,j<n→b (st j)=some (.inl (st (j+1))))(he:b (st n)=some (.inr r)):aN b a=some r:=by rw [ha];exact Sk n st hs he
theorem all_range{n:Nat}{p:Nat→Bool}:(List.range n).all p=true↔∀i,i<n→p i=true:=by
 rw [List.all_eq_true];exact⟨fun h i hi=>h i (List.mem_range.2 hi),fun h i hi=>h i (List.mem_range.1 hi)⟩
theorem rg{n i:Nat}{p:Nat→Bool}(hi:i<n)(h:p i=false):(List.range n).all p=false:=by
 rw [Bool.eq_false_iff];intro ha;rw [all_range.1 ha i hi]at h;cases h
theorem jf{l:List Int}{j:Nat}(h:j<l.length):l.getD j 0=l[j]:=by rw [List.getD_eq_getElem?_getD,List.getElem?_eq_getElem h];rfl
theorem yu(a b:Int):iN a b=min a b:=by unfold iN;split<;>omega
theorem yw(a b:Int):fh a b=max a b:=by unfold fh;split<;>omega
def cM(n:Int):Bool:=decide (0≤n)&& decide (n≤4096)
theorem sizeF_iff{n:Int}:cM n=true↔0≤n∧n≤4096:=by unfold cM;simp
theorem VH{n:Int}(h:0≤n∧n≤4096):mQ (n+1)=some ():=by unfold mQ bX;rw [if_pos ⟨by omega,by omega⟩]
end
section
open Go
abbrev Mx:=Int×Int×Sl Int×Sl Int×Sl Int
abbrev E3:=Int×Int×Int
def gD:Int→Int→List Int→Bool
 |_,_,[]=>true
 |a,n,x::l=>decide (a<x)&& decide (x<n)&& gD x n l
theorem rh(a n x:Int)(l:List Int):gD a n (x::l)=(decide (a<x)&& decide (x<n)&& gD x n l):=rfl
theorem ascI_iff'{n:Int}:∀{l:List Int} {a:Int},gD a n l=true↔l.Pairwise (·<·)∧∀x∈l,a<x∧x<n
 | [],a=>by simp [gD]
 |x::l,a=>by
  rw [rh,Bool.and_eq_true,Bool.and_eq_true,decide_eq_true_eq,decide_eq_true_eq,ascI_iff',List.pairwise_cons];constructor
  ·rintro⟨⟨h1,h2⟩,h3,h4⟩;refine⟨⟨fun y hy=>(h4 y hy).1,h3⟩,fun y hy=> ?_⟩;rcases List.mem_cons.1 hy with rfl|hy
   ·exact⟨h1,h2⟩
   ·have:=h4 y hy;omega
  ·rintro⟨⟨h1,h2⟩,h3⟩;exact⟨h3 x (by simp),h2,fun y hy=>⟨h1 y hy,(h3 y (by simp [hy])).2⟩⟩
theorem ascI_iff{n:Int}{l:List Int}:gD (-1) n l=true↔∀j (h:j<l.length),0≤l[j]∧l[j]<n∧(j≠0→l[j - 1]'(by omega)<l[j]):=by
 rw [ascI_iff'];constructor
 ·rintro⟨h1,h2⟩ j hj
  have:=h2 _ (List.getElem_mem hj)
  refine⟨by omega,this.2,fun h0=> ?_⟩;exact List.pairwise_iff_getElem.1 h1 (j - 1) j (by omega) hj (by omega)
 ·intro h;constructor
  ·have key:∀d i (hi:i+d+1<l.length),l[i]'(by omega)<l[i+d+1]:=by
    intro d
    induction d with
    |zero=>intro i hi;have:=(h (i+1) hi).2.2 (by omega);simpa using this
    |succ d ih=>intro i hi;have h1:=ih i (by omega);have h2:=(h (i+d+1+1) hi).2.2 (by omega);simp only [Nat.add_sub_cancel]at h2;exact Int.lt_trans h1 h2
   rw [List.pairwise_iff_getElem];intro i j hi hj hij
   have:=key (j - i - 1) i (by omega)
   simpa [show i+(j - i - 1)+1=j by omega]using this
  ·intro x hx;obtain⟨j,hj,rfl⟩:=List.mem_iff_getElem.1 hx
   have:=h j hj
   omega
theorem Iy(n:Int):ku n=some (cM n):=by
 rw [FP];unfold cM;by_cases h1:n ≥ 0
 ·rw [if_pos h1,decide_eq_true (show 0≤n from h1)];simp
 ·rw [if_neg h1,decide_eq_false (show¬0≤n from h1)];rfl
theorem uy(s:Sl Int)(n:Int)(hok:okS 1 s)(hl:s.l.length≤9223372036854775807):jk s n=some (gD (-1) n s.l):=by
 rw [Cu]
 obtain⟨r,h1,h2⟩:=cz (b:=nG s n) s.l.length (fun j a=>∃la,a=(la,(j:Int))∧gD (-1) n s.l=gD la n (s.l.drop j)) (fun r=>(gD (-1) n s.l=true∧r= .inl ())∨(gD (-1) n s.l=false∧r= .inr (.inl false)))
  (by
   rintro j _ hj ⟨la,rfl,ha⟩;rw [List.drop_eq_getElem_cons hj,rh]at ha;simp only [nG,bq hok hj,zbS,bM hj hl];rw [if_pos (by omega)];by_cases c1:s.l[j]≤la
   ·refine .inr ⟨_,if_pos c1,.inr ⟨?_,rfl⟩⟩;rw [ha,decide_eq_false (by omega)];rfl
   ·rw [if_neg c1];by_cases c2:s.l[j]≥ n
    ·refine .inr ⟨_,if_pos c2,.inr ⟨?_,rfl⟩⟩;rw [ha,decide_eq_false (p:=s.l[j]<n) (by omega)];simp
    ·refine .inl ⟨_,if_neg c2,_,rfl,?_⟩
     rw [ha,decide_eq_true (by omega),decide_eq_true (by omega)];rfl)
  (by
   rintro _ ⟨la,rfl,ha⟩;refine⟨_,if_neg (by simp only;omega),.inl ⟨?_,rfl⟩⟩
   rw [ha,List.drop_length];rfl) 0 (Nat.zero_le _) (-1,0) ⟨-1,rfl,rfl⟩
 rw [h1];rcases h2 with⟨h3,rfl⟩|⟨h3,rfl⟩<;>rw [h3]<;>rfl
def bE{α:Type}(l:List α)(f t:Int):List α:=(l.drop f.toNat).take (t.toNat - f.toNat)
theorem og{α:Type}{l:List α}{f t:Int}(h:0≤f∧f≤t∧t≤l.length):(bE l f t).length=t.toNat - f.toNat:=by
 unfold bE;simp;omega
theorem zP{α:Type}{l:List α}{f t:Int}(h:0≤f∧f≤t∧t≤l.length){j:Nat}(hj:j<t.toNat - f.toNat):(bE l f t)[j]'(by rw [og h];exact hj)=l[f.toNat+j]'(by omega):=by
 unfold bE;simp
def gE(c:Int)(st co:List Int)(i:Nat):Bool:=decide (0≤st.getD i 0)&&(decide (st.getD i 0≤st.getD (i+1) 0)&&(decide (st.getD (i+1) 0≤co.length)&& gD (-1) c (bE co (st.getD i 0) (st.getD (i+1) 0))))
def lQ(m:Mx):Bool:=cM m.1 &&(cM m.2.1 &&(decide ((m.2.2.1.l.length:Int)=m.1+1)&&(decide (m.2.2.1.l.getD 0 0=0)&&(decide (m.2.2.2.1.l.length=m.2.2.2.2.l.length)&&(decide (m.2.2.2.1.l.length≤65536)&&(decide (m.2.2.1.l.getD m.1.toNat 0=m.2.2.2.1.l.length)&&(List.range m.1.toNat).all (gE m.2.1 m.2.2.1.l m.2.2.2.1.l)))))))
structure OkM(m:Mx):Prop where
 st:okS 1 m.2.2.1
 co:okS 1 m.2.2.2.1
 va:okS 1 m.2.2.2.2
 v64:∀x∈m.2.2.2.2.l,bu x
 sl:m.2.2.1.l.length≤9223372036854775807
 cl:m.2.2.2.1.l.length≤9223372036854775807
 vl:m.2.2.2.2.l.length≤9223372036854775807
theorem fy{n:Nat}{c:Int}{st co:List Int}{i:Nat}(hi:i<n)(h:gE c st co i=false):(List.range n).all (gE c st co)=false:=rg hi h
theorem FT{n:Nat}{nn c:Int}{s t v:Sl Int}(hs:okS 1 s)(ht:okS 1 t)(hl:s.l.length=n+1)(tl:t.l.length≤65536){i:Nat}(hi:i<n)(hp:0≤s.l.getD i 0∧s.l.getD i 0≤s.l.getD (i+1) 0∧s.l.getD (i+1) 0≤(t.l.length:Int))(hn:n≤4096):
  ∃q,aN (cK (nn,c,s,t,v) (i:Int)) (s.l.getD i 0)=some q∧((gD (-1) c (bE t.l (s.l.getD i 0) (s.l.getD (i+1) 0))=true∧q= .inl ())∨(gD (-1) c (bE t.l (s.l.getD i 0) (s.l.getD (i+1) 0))=false∧q= .inr (.inl false))):=by
 have e1:=bq hs (j:=i) (by omega);have e2:=bq hs (j:=i+1) (by omega);rw [←jf]at e1 e2;generalize hf:s.l.getD i 0=f at*;generalize hg:s.l.getD (i+1) 0=g at*;have hlen:=og (l:=t.l) hp;have hget:=fun j hj=>zP (l:=t.l) hp (j:=j) hj
 have hF:∀j (hj:j<(bE t.l f g).length),¬(0≤(bE t.l f g)[j]∧(bE t.l f g)[j]<c∧(j≠0→(bE t.l f g)[j - 1]'(by omega)<(bE t.l f g)[j]))→gD (-1) c (bE t.l f g)=false:=fun j hj hh=>by
  rw [Bool.eq_false_iff];intro hc;exact hh (ascI_iff.1 hc j hj)
 have key:=cz (b:=cK (nn,c,s,t,v) (i:Int)) (g.toNat - f.toNat) (fun j a=>a=f+(j:Int)∧∀i (h:i<(bE t.l f g).length),i<j→0≤(bE t.l f g)[i]∧(bE t.l f g)[i]<c∧(i≠0→(bE t.l f g)[i - 1]'(by omega)<(bE t.l f g)[i])) (fun q=>(gD (-1) c (bE t.l f g)=true∧q= .inl ())∨(gD (-1) c (bE t.l f g)=false∧q= .inr (.inl false)))
  (by
   rintro j _ hj ⟨rfl,ha⟩;have hk:f.toNat+j<t.l.length:=by omega
   have ek:=bq ht hk;rw [show((f.toNat+j:Nat):Int)=f+(j:Int)by omega]at ek;have hcj:=hget j hj;have w1:IntKind.i64.wrap ((i:Int)+1)=((i+1:Nat):Int):=bM hi (by omega);simp only [cK,w1,e2,e1,zbS,ek];rw [if_pos (by omega)];rw [←hcj];by_cases c1:(bE t.l f g)[j]'(by omega)<0
   ·rw [if_pos c1];exact .inr ⟨_,rfl,.inr ⟨hF j (by omega) (fun h=>by omega),rfl⟩⟩
   rw [if_neg c1];by_cases c2:(bE t.l f g)[j]'(by omega)≥ c
   ·rw [if_pos c2];exact .inr ⟨_,rfl,.inr ⟨hF j (by omega) (fun h=>by omega),rfl⟩⟩
   rw [if_neg c2]
   have next:(j≠0→(bE t.l f g)[j - 1]'(by omega)<(bE t.l f g)[j]'(by omega))→∀i (h:i<(bE t.l f g).length),i<j+1→0≤(bE t.l f g)[i]∧(bE t.l f g)[i]<c∧(i≠0→(bE t.l f g)[i - 1]'(by omega)<(bE t.l f g)[i]):=fun hh i h hij=>by
    by_cases e:i=j
    ·subst e;exact⟨by omega,by omega,hh⟩
    ·exact ha i h (by omega)
   have wk:IntKind.i64.wrap (f+(j:Int)+1)=f+((j+1:Nat):Int):=by rw [cV (by omega) (by omega)];omega
   rw [wk];by_cases c3:f+(j:Int)>f
   ·rw [if_pos c3,cV (n:=f+(j:Int) - 1) (by omega) (by omega)];have ep:=bq ht (j:=f.toNat+(j - 1)) (by omega);rw [show((f.toNat+(j - 1):Nat):Int)=f+(j:Int) - 1 by omega,←hget (j - 1) (by omega)]at ep;rw [ep];simp only [zbS];by_cases c4:(bE t.l f g)[j]'(by omega)≤(bE t.l f g)[j - 1]'(by omega)
    ·rw [if_pos c4];exact .inr ⟨_,rfl,.inr ⟨hF j (by omega) (fun h=>by have:=h.2.2 (by omega);omega),rfl⟩⟩
    ·rw [if_neg c4];exact .inl ⟨_,rfl,rfl,next fun _=>by omega⟩
   ·rw [if_neg c3];exact .inl ⟨_,rfl,rfl,next fun h0=>absurd h0 (by omega)⟩)
  (by
   rintro _ ⟨rfl,ha⟩;have w1:IntKind.i64.wrap ((i:Int)+1)=((i+1:Nat):Int):=bM hi (by omega);simp only [cK,w1,e2,zbS];rw [if_neg (by omega)]
   exact⟨_,rfl,.inl ⟨ascI_iff.2 fun j hj=>ha j hj (by omega),rfl⟩⟩) 0 (Nat.zero_le _) f ⟨by omega,fun i h hi=>absurd hi (by omega)⟩
 exact key
theorem zQ{n:Nat}{c:Int}{s t v:Sl Int}(hs:okS 1 s)(ht:okS 1 t)(hn:n≤4096)(hl:s.l.length=n+1)(tl:t.l.length≤65536):∃q,aN (cL ((n:Int),c,s,t,v)) 0=some q∧(((List.range n).all (gE c s.l t.l)=true∧q= .inl ())∨((List.range n).all (gE c s.l t.l)=false∧q= .inr (.inl false))):=by
 refine cz (b:=cL ((n:Int),c,s,t,v)) n (fun j a=>a=(j:Int)∧∀i,i<j→gE c s.l t.l i=true) _ ?_ ?_ 0 (Nat.zero_le _) 0 ⟨rfl,fun i hi=>absurd hi (by omega)⟩
 ·rintro j _ hj ⟨rfl,ha⟩;have e1:=bq hs (j:=j) (by omega);have e2:=bq hs (j:=j+1) (by omega);rw [←jf]at e1 e2;simp only [cL,e1,zbS,bM hj (by omega)];rw [if_pos (by omega),e2];simp only [zbS];by_cases c1:s.l.getD j 0>s.l.getD (j+1) 0
  ·rw [if_pos c1];exact .inr ⟨_,rfl,.inr ⟨fy hj (by unfold gE;rw [decide_eq_false (p:=s.l.getD j 0≤s.l.getD (j+1) 0) (by omega)];simp),rfl⟩⟩
  rw [if_neg c1];by_cases c0:s.l.getD j 0<0
  ·rw [if_pos c0];exact .inr ⟨_,rfl,.inr ⟨fy hj (by unfold gE;rw [decide_eq_false (p:=0≤s.l.getD j 0) (by omega)];simp),rfl⟩⟩
  rw [if_neg c0];by_cases c2:s.l.getD (j+1) 0>((t.l.length:Nat):Int)
  ·rw [if_pos c2];exact .inr ⟨_,rfl,.inr ⟨fy hj (by unfold gE;rw [decide_eq_false (p:=s.l.getD (j+1) 0≤(t.l.length:Int)) (by omega)];simp),rfl⟩⟩
  rw [if_neg c2];obtain⟨q,q1,q2⟩:=FT (nn:=(n:Int)) (c:=c) (v:=v) hs ht hl tl hj ⟨by omega,by omega,by omega⟩ hn;rw [q1]
  have hr:gE c s.l t.l j=gD (-1) c (bE t.l (s.l.getD j 0) (s.l.getD (j+1) 0)):=by
   unfold gE;rw [decide_eq_true (p:=0≤s.l.getD j 0) (by omega),decide_eq_true (p:=s.l.getD j 0≤s.l.getD (j+1) 0) (by omega),decide_eq_true (p:=s.l.getD (j+1) 0≤(t.l.length:Int)) (by omega)];simp
  rcases q2 with⟨e,rfl⟩|⟨e,rfl⟩
  ·refine .inl ⟨_,rfl,rfl,fun i hi=> ?_⟩;by_cases e':i=j
   ·rw [e',hr,e]
   ·exact ha i (by omega)
  ·exact .inr ⟨_,rfl,.inr ⟨fy hj (by rw [hr,e]),rfl⟩⟩
 ·rintro _ ⟨rfl,ha⟩;exact⟨_,if_neg (by omega),.inl ⟨all_range.2 ha,rfl⟩⟩
theorem Cy{m:Mx}(h:OkM m):eL m=some (lQ m):=by
 obtain⟨n,c,s,t,v⟩:=m;obtain⟨h1,h2,h3,h4,h5,h6,h7⟩:=h;simp only at h1 h2 h3 h4 h5 h6 h7;rw [mB];unfold lQ;simp only;by_cases a1:n<0
 ·rw [if_pos a1,show cM n=false by unfold cM;rw [decide_eq_false (by omega)];rfl];rfl
 by_cases a2:n>4096
 ·rw [if_neg a1,if_pos a2,show cM n=false by unfold cM;rw [decide_eq_false (p:=n≤4096) (by omega)];simp];rfl
 rw [if_neg a1,if_neg a2,sizeF_iff.2 ⟨by omega,by omega⟩];by_cases b1:c<0
 ·rw [if_pos b1,show cM c=false by unfold cM;rw [decide_eq_false (by omega)];rfl];rfl
 by_cases b2:c>4096
 ·rw [if_neg b1,if_pos b2,show cM c=false by unfold cM;rw [decide_eq_false (p:=c≤4096) (by omega)];simp];rfl
 rw [if_neg b1,if_neg b2,sizeF_iff.2 ⟨by omega,by omega⟩];simp only [Bool.true_and];rw [cV (n:=n+1) (by omega) (by omega)];by_cases g1:((s.l.length:Nat):Int)=n+1
 ·rw [if_neg (fun h=>h g1),decide_eq_true g1];simp only [Bool.true_and];by_cases g3:t.l.length=v.l.length
  ·rw [if_neg (fun h=>h (by omega)),decide_eq_true g3];simp only [Bool.true_and];by_cases g4:t.l.length≤65536
   ·rw [if_neg (by omega),decide_eq_true g4];have e0:=bq h1 (j:=0) (by omega);rw [←jf]at e0;have e0':atS 1 s 0=some (s.l.getD 0 0):=e0;rw [e0'];simp only [zbS,Bool.true_and];by_cases g2:s.l.getD 0 0=0
    ·rw [if_neg (fun h=>h g2),decide_eq_true g2];obtain⟨k,rfl⟩:=Int.eq_ofNat_of_zero_le (show 0≤n by omega);have en:=bq h1 (j:=k) (by omega);rw [←jf]at en;rw [en];simp only [zbS,Int.toNat_natCast,Bool.true_and];by_cases g5:s.l.getD k 0=((t.l.length:Nat):Int)
     ·rw [if_neg (fun h=>h g5),decide_eq_true g5];simp only [Bool.true_and];obtain⟨q,q1,q2⟩:=zQ (c:=c) (v:=v) h1 h2 (by omega) (n:=k) (by omega) g4;rw [q1];rcases q2 with⟨e,rfl⟩|⟨e,rfl⟩<;>rw [e]<;>rfl
     ·rw [if_pos g5,decide_eq_false g5];rfl
    ·rw [if_pos g2,decide_eq_false g2];rfl
   ·rw [if_pos (by omega),decide_eq_false g4];simp
  ·rw [if_pos (fun h=>g3 (by omega)),decide_eq_false g3];simp
 ·rw [if_pos g1,decide_eq_false g1];rfl
end
section
open Go Sm
def bel(a b:E3):Bool:=klt (key a) (key b)
theorem bel_iff{a b:E3}:bel a b=true↔a.1<b.1∨a.1=b.1∧a.2.1<b.2.1:=by unfold bel klt key;simp
abbrev cn(l:List E3):Prop:=l.Pairwise fun a b=>bel a b=true
def gU(n:Nat)(f:Nat→Int):List Int:=(List.range (n+1)).map f
theorem gF(n:Nat)(f:Nat→Int):(gU n f).length=n+1:=by unfold gU;simp
theorem fU{n k:Nat}(f:Nat→Int)(h:k≤n):(gU n f)[k]? =some (f k):=by
 unfold gU;rw [List.getElem?_map,List.getElem?_range (by omega)];rfl
theorem iH{n k:Nat}(f:Nat→Int)(h:k≤n):(gU n f).getD k 0=f k:=by rw [List.getD_eq_getElem?_getD,fU f h];rfl
theorem kw{n:Nat}{f g:Nat→Int}(h:∀k,k≤n→f k=g k):gU n f=gU n g:=by
 unfold gU;refine List.map_congr_left fun k hk=>h k ?_;simp at hk;omega
theorem Iz{n k:Nat}(f:Nat→Int)(v:Int)(h:k≤n):(gU n f).set k v=gU n fun i=>if i=k then v else f i:=by
 refine List.ext_getElem? fun i=> ?_;rw [List.getElem?_set];by_cases hi:i≤n
 ·rw [fU _ hi];by_cases e:k=i
  ·subst e;rw [if_pos rfl,if_pos (by rw [gF];omega),fU _ hi,if_pos rfl]
  ·rw [if_neg e,fU _ hi,if_neg (Ne.symm e)]
 ·rw [if_neg (by omega)];rw [List.getElem?_eq_none (by rw [gF];omega),List.getElem?_eq_none (by rw [gF];omega)]
theorem vX(n:Nat):List.replicate (n+1) (0:Int)=gU n fun _=>0:=by
 refine List.ext_getElem? fun i=> ?_;by_cases hi:i≤n
 ·rw [fU _ hi,List.getElem?_replicate,if_pos (by omega)]
 ·rw [List.getElem?_eq_none (by simp;omega),List.getElem?_eq_none (by rw [gF];omega)]
def aC(l:List E3)(k:Nat):Nat:=l.countP fun x=>decide (x.1<(k:Int))
theorem nm(l:List E3)(k:Nat):aC l k≤l.length:=List.countP_le_length
theorem IA(l:List E3)(x:E3)(k:Nat):aC (l++ [x]) k=aC l k+if x.1<(k:Int)then 1 else 0:=by
 unfold aC;rw [List.countP_append];congr 1;by_cases h:x.1<(k:Int)<;>simp [h]
theorem Sn{n:Nat}(hn:n≤4096){row:Nat}(hr:row<n){f:Nat→Int}(hf:∀k,0≤f k∧f k≤100000):aN (ib (n:Int)) ((((row+1:Nat):Int)),gU n f)=some (.inl (gU n fun i=>f i+if row<i then 1 else 0)):=by
 obtain⟨q,q1,q2⟩:=cz (b:=ib (n:Int)) (n - row) (fun j st=>st=(((row+1+j:Nat):Int),gU n fun i=>f i+if row<i∧i≤row+j then 1 else 0)) (fun q=>q= .inl (gU n fun i=>f i+if row<i then 1 else 0))
  (by
   rintro j _ hj rfl
   have hat:atL (gU n fun i=>f i+if row<i∧i≤row+j then 1 else 0) ((row+1+j:Nat):Int)=some (f (row+1+j)):=by
    unfold atL;rw [if_pos (by omega),Int.toNat_natCast,fU _ (by omega),if_neg (by omega),Int.add_zero]
   have hfk:=hf (row+1+j);simp only [ib,hat,zbS,Int.toNat_natCast];rw [if_pos (by omega),cV (n:=f (row+1+j)+1) (by omega) (by omega),Iz _ _ (by omega),cV (n:=((row+1+j:Nat):Int)+1) (by omega) (by omega)];refine .inl ⟨_,rfl,?_⟩;rw [Prod.mk.injEq];refine⟨by omega,kw fun i hi=> ?_⟩;by_cases e:i=row+1+j
   ·rw [if_pos e,e,if_pos (by omega)]
   ·rw [if_neg e];by_cases h1:row<i∧i≤row+j
    ·rw [if_pos h1,if_pos (by omega)]
    ·rw [if_neg h1,if_neg (by omega)])
  (by
   rintro _ rfl;refine⟨_,?_,rfl⟩;simp only [ib];rw [if_neg (by omega)];congr 3;refine kw fun i hi=> ?_;by_cases h1:row<i
   ·rw [if_pos h1,if_pos (by omega)]
   ·rw [if_neg h1,if_neg (by omega)]) 0 (Nat.zero_le _) (((row+1:Nat):Int),gU n f) (by
    rw [Prod.mk.injEq];refine⟨by omega,kw fun i hi=> ?_⟩
    rw [if_neg (by omega),Int.add_zero])
 rw [q1,q2]
def ye(n c:Int)(l:List E3):Mx:=(n,c,⟨true,1,gU n.toNat fun k=>((aC l k:Nat):Int)⟩,mo 1 (l.map (·.2.1)),mo 1 (l.map (·.2.2)))
theorem nJ{n c:Int}(hn:0≤n∧n≤4096){s:Sl E3}(hs:okS 3 s)(hl:s.l.length≤65536)(hr:∀x∈s.l,0≤x.1∧x.1<n):fw n c s=some (ye n c s.l):=by
 obtain⟨k,rfl⟩:=Int.eq_ofNat_of_zero_le hn.1;rw [zN];unfold ye;rw [cV (by omega) (by omega),Bh];have hlo:mQ ((k:Int)+1)=some ():=by unfold mQ bX;rw [if_pos ⟨by omega,by omega⟩]
 rw [hlo];have tk:((k:Int)+1).toNat=k+1:=by omega
 simp only [zbS,tk,Int.toNat_natCast];rw [vX]
 obtain⟨q,q1,q2⟩:=cz (b:=jT (k:Int) s) s.l.length (fun j st=>st=((j:Int),(k:Int),c,gU k (fun i=>((aC (s.l.take j) i:Nat):Int)),(s.l.take j).map (·.2.1),(s.l.take j).map (·.2.2))) (fun q=>q= .inl ((k:Int),c,gU k (fun i=>((aC s.l i:Nat):Int)),s.l.map (·.2.1),s.l.map (·.2.2)))
  (by
   rintro j _ hj rfl;have ej:=bq hs hj;have hx:=hr _ (List.getElem_mem hj);obtain⟨row,hrow⟩:=Int.eq_ofNat_of_zero_le hx.1;have hlen:(s.l.take j).length≤65536:=by simp;omega
   have ap1:app ((s.l.take j).map (·.2.1)) [s.l[j].2.1]=some ((s.l.take j).map (·.2.1)++ [s.l[j].2.1]):=fj (by simp at hlen ⊢;unfold bX;omega);have ap2:app ((s.l.take j).map (·.2.2)) [s.l[j].2.2]=some ((s.l.take j).map (·.2.2)++ [s.l[j].2.2]):=fj (by simp at hlen ⊢;unfold bX;omega);have hw:IntKind.i64.wrap (s.l[j].1+1)=((row+1:Nat):Int):=by rw [cV (by omega) (by omega)];omega
   have hin:=Sn (n:=k) (by omega) (row:=row) (by omega) (f:=fun i=>((aC (s.l.take j) i:Nat):Int)) (fun i=>by have:=nm (s.l.take j) i;omega);simp only [jT,ej,zbS,ap1,ap2,hw,hin,Sum.elim_inl,bM hj (by omega)];rw [if_pos (by omega)];refine .inl ⟨_,rfl,?_⟩;rw [List.take_succ_eq_append_getElem hj,List.map_append,List.map_append];simp only [List.map_cons,List.map_nil,Prod.mk.injEq,and_true,true_and];refine kw fun i hi=> ?_;rw [IA,hrow];by_cases h:row<i
   ·rw [if_pos h,if_pos (by omega)];omega
   ·rw [if_neg h,if_neg (by omega)];omega)
  (by
   rintro _ rfl;refine⟨.inl ((k:Int),c,gU k (fun i=>((aC s.l i:Nat):Int)),s.l.map (·.2.1),s.l.map (·.2.2)),?_,rfl⟩;simp only [jT]
   rw [if_neg (by omega),List.take_length]) 0 (Nat.zero_le _) (0,(k:Int),c,gU k (fun _=>0),[],[]) rfl
 rw [q1,q2];rfl
theorem qq{l:List E3}(h:l.Pairwise fun a b=>a.1≤b.1)(k:Int):(l.filter fun x=>decide (x.1<k))++(l.filter fun x=> !decide (x.1<k))=l:=by
 induction l with
 |nil=>rfl
 |cons x l ih=>
  rw [List.pairwise_cons]at h;have ih:=ih h.2;by_cases c:x.1<k
  ·rw [List.filter_cons_of_pos (by simp [c]),List.filter_cons_of_neg (by simp [c]),List.cons_append,ih]
  ·have e1:(l.filter fun x=>decide (x.1<k))= []:=by
    rw [List.filter_eq_nil_iff];intro y hy
    have:=h.1 y hy
    simp;omega
   rw [e1,List.nil_append]at ih;rw [List.filter_cons_of_neg (by simp [c]),List.filter_cons_of_pos (by simp [c]),e1,List.nil_append,ih]
theorem pf{l:List E3}(h:l.Pairwise fun a b=>a.1≤b.1)(k:Nat):l.take (aC l k)=(l.filter fun x=>decide (x.1<(k:Int)))∧l.drop (aC l k)=l.filter fun x=> !decide (x.1<(k:Int)):=by
 have e:=qq h (k:Int);have hl:aC l k=(l.filter fun x=>decide (x.1<(k:Int))).length:=by unfold aC;rw [List.countP_eq_length_filter]
 have key:∀A B:List E3,A++B=l→l.take A.length=A∧l.drop A.length=B:=by
  rintro A B rfl;exact⟨List.take_left,List.drop_left⟩
 rw [hl];exact key _ _ e
def sP(l:List E3)(i:Nat):List E3:=(l.filter fun x=> !decide (x.1<(i:Int))).filter fun x=>decide (x.1<((i+1:Nat):Int))
theorem rowE_mem{l:List E3}{i:Nat}{x:E3}:x∈sP l i↔x∈l∧x.1=(i:Int):=by
 unfold sP;simp only [List.mem_filter,Bool.not_eq_true',decide_eq_false_iff_not,decide_eq_true_eq];constructor
 ·rintro⟨⟨h1,h2⟩,h3⟩;exact⟨h1,by omega⟩
 ·rintro⟨h1,h2⟩;exact⟨⟨h1,by omega⟩,by omega⟩
theorem qr{l:List E3}(h:cn l):l.Pairwise fun a b=>a.1≤b.1:=h.imp fun hb=>by rw [bel_iff]at hb;omega
theorem np{l:List E3}(h:cn l)(i:Nat):aC l i≤aC l (i+1)∧(l.drop (aC l i)).take (aC l (i+1) - aC l i)=sP l i:=by
 have hle:=qr h;have e1:=(pf hle i).2
 have hmono:aC l i≤aC l (i+1):=by
  unfold aC;refine List.countP_mono_left fun x _ hx=> ?_;simp only [decide_eq_true_eq]at hx ⊢;omega
 refine⟨hmono,?_⟩;rw [e1];have hg:(l.filter fun x=> !decide (x.1<(i:Int))).Pairwise fun a b=>a.1≤b.1:=hle.sublist List.filter_sublist;have e2:=(pf hg (i+1)).1
 have hc:aC (l.filter fun x=> !decide (x.1<(i:Int))) (i+1)=aC l (i+1) - aC l i:=by
  have h1:aC l (i+1)=aC (l.filter fun x=>decide (x.1<(i:Int))) (i+1)+aC (l.filter fun x=> !decide (x.1<(i:Int))) (i+1):=by
   conv=>lhs;rw [←qq hle (i:Int)]
   unfold aC;rw [List.countP_append]
  have h2:aC (l.filter fun x=>decide (x.1<(i:Int))) (i+1)=aC l i:=by
   unfold aC;rw [List.countP_filter];refine List.countP_congr fun x _=> ?_;simp only [Bool.and_eq_true,decide_eq_true_eq];omega
  omega
 rw [←hc,e2];rfl
theorem sQ{l:List E3}(h:cn l)(i:Nat):((sP l i).map (·.2.1)).Pairwise (·<·):=by
 rw [List.pairwise_map];have hs:cn (sP l i):=h.sublist (List.filter_sublist.trans List.filter_sublist);refine hs.imp_of_mem fun{a b} ha hb hab=> ?_;have h1:=(rowE_mem.1 ha).2;have h2:=(rowE_mem.1 hb).2;rw [bel_iff]at hab;omega
theorem uz{α β:Type}(f:α→β)(l:List α)(a b:Int):bE (l.map f) a b=(bE l a b).map f:=by unfold bE;rw [←List.map_drop,←List.map_take]
theorem zR{n c:Int}(hn:0≤n∧n≤4096)(hc:0≤c∧c≤4096){l:List E3}(hl:l.length≤65536)(h:cn l)(hp:∀x∈l,(0≤x.1∧x.1<n)∧0≤x.2.1∧x.2.1<c):lQ (ye n c l)=true:=by
 have h0:aC l 0=0:=by
  unfold aC;rw [List.countP_eq_zero];intro x hx
  have:=(hp x hx).1.1
  simp;omega
 have hN:aC l n.toNat=l.length:=by
  unfold aC;rw [List.countP_eq_length];intro x hx
  have:=(hp x hx).1.2
  simp;omega
 unfold lQ ye;simp only [eZ,Bool.and_eq_true,decide_eq_true_eq,sizeF_iff,List.length_map,gF];refine⟨hn,hc,by omega,?_,trivial,hl,?_,?_⟩
 ·rw [iH _ (Nat.zero_le _),h0];rfl
 ·rw [iH _ (Nat.le_refl _),hN]
 ·refine all_range.2 fun i hi=> ?_;unfold gE;rw [iH _ (by omega),iH _ (by omega)];obtain⟨r1,r2⟩:=np h i;have hle:=nm l (i+1);simp only [Bool.and_eq_true,decide_eq_true_eq,List.length_map];refine⟨by omega,by omega,by omega,?_⟩
  have e:bE (l.map (·.2.1)) ((aC l i:Nat):Int) ((aC l (i+1):Nat):Int)=(sP l i).map (·.2.1):=by
   rw [uz];unfold bE;rw [Int.toNat_natCast,Int.toNat_natCast,r2]
  rw [e]
  exact ascI_iff'.2 ⟨sQ h i,fun p hp'=>by
   obtain⟨x,hx,rfl⟩:=List.mem_map.1 hp'
   have:=(hp x (rowE_mem.1 hx).1).2
   omega⟩
end
section
open Go Sm
abbrev RG(r:Int):Rg:=⟨ofW,aI r,gk⟩
theorem Lk(n:Int):jQ n=some (ofW n):=by
 rw [xn];unfold ofW;by_cases h:n<0
 ·simp only [if_pos h]
 ·simp only [if_neg h]
theorem ky(a b:Int×Int):∃c:Int,bK a b=some c∧(c<0↔jP a b=true):=by
 obtain⟨a1,a2⟩:=a;obtain⟨b1,b2⟩:=b;rw [vV];unfold jP;simp only;by_cases h2:a1<b1
 ·rw [if_pos h2];exact⟨-1,rfl,by simp [h2]⟩
 rw [if_neg h2];by_cases h3:a1=b1
 ·rw [if_pos h3];by_cases h4:a2<b2
  ·rw [if_pos h4];exact⟨-1,rfl,by simp [h3,h4]⟩
  ·rw [if_neg h4];by_cases h5:a1=b1∧a2=b2
   ·rw [if_pos h5];exact⟨0,rfl,by simp [h3];omega⟩
   ·rw [if_neg h5];exact⟨1,rfl,by simp [h3];omega⟩
 ·rw [if_neg h3];by_cases h5:a1=b1∧a2=b2
  ·exact absurd h5.1 h3
  ·rw [if_neg h5];exact⟨1,rfl,by simp [h3];omega⟩
theorem IB(a b:Int×Int):gK a b=some (mY a b):=by
 obtain⟨a1,a2⟩:=a;obtain⟨b1,b2⟩:=b;rw [pd];unfold mY pc;simp only;split<;>rfl
theorem Cz(b:Bool):cW b=some (gO b):=by rw [mA];unfold gO;cases b<;>rfl
theorem IC(r:Int)(a b:Int×Int):iA r a b=some (aI r a b):=by
 rw [uw];unfold aI
 have hl:((bK b a).bind fun(out:Int)=>if out<0 then some b else some a)=some (eF a b):=by
  obtain⟨c,h1,h2⟩:=ky b a;rw [h1,zbS];unfold eF;by_cases hc:c<0
  ·rw [if_pos hc,if_pos (h2.1 hc)]
  ·rw [if_neg hc,if_neg (fun h=>hc (h2.2 h))]
 simp only [hl,Cz,IB,zbS];by_cases h1:r=1
 ·simp [h1]
 by_cases h3:r=3
 ·simp [h3]
 by_cases h4:r=4
 ·simp [h4]
 simp only [if_neg h1,if_neg h3,if_neg (show¬(r=1∨r=3∨r=4)by omega),decide_eq_false h4,zbS,Sum.elim_inl,Bool.false_eq_true,if_false];by_cases h2:r=2
 ·simp only [if_pos h2];by_cases ha:a.1=0∧a.2=0
  ·by_cases hb:b.1=0∧b.2=0
   ·simp [ha,hb]
   ·simp [ha,hb]
  ·simp [ha]
 ·simp only [if_neg h2];split<;>rfl
theorem zS{a:Int×Int}(h:ce a.2):gm a=some (gk a):=by
 obtain⟨a1,a2⟩:=a;rw [yd];unfold gk ofW;simp only [RO h,Prod.mk.injEq,and_true];by_cases hn:IntKind.i64.wrap a2<0
 ·have hg:¬IntKind.i64.wrap a2 ≥ 0:=by omega
  simp only [if_pos hn,if_neg hg];by_cases h1:a1=0
  ·have:¬a1= -1:=by omega
   simp only [if_pos h1,if_neg this]
  ·simp only [if_neg h1];split<;>rfl
 ·have hg:IntKind.i64.wrap a2 ≥ 0:=by omega
  simp only [if_neg hn,if_pos hg];by_cases h1:a1=0
  ·simp only [if_pos h1]
  ·simp only [if_neg h1];split<;>rfl
theorem zT(r:Int):fP r=some (lJ r):=by
 rw [qo];unfold lJ;by_cases h1:r ≥ 1
 ·rw [if_pos h1,decide_eq_true (show 1≤r from h1)];simp
 ·rw [if_neg h1,decide_eq_false (show¬1≤r from h1)];rfl
end
section
open Go Sm
theorem nK(a b:E3):hZ a b=some (bel a b):=by
 rw [zM]
 have hb:bel a b=(decide (a.1<b.1)||(decide (a.1=b.1)&& decide (a.2.1<b.2.1))):=by
  unfold bel klt key;rw [Bool.decide_or,Bool.decide_and]
 rw [hb];by_cases h1:a.1<b.1
 ·rw [if_pos h1,decide_eq_true h1];rfl
 ·rw [if_neg h1,decide_eq_false h1];by_cases h2:a.1=b.1
  ·rw [if_pos h2,decide_eq_true h2];rfl
  ·rw [if_neg h2,decide_eq_false h2];rfl
def cU{α:Type}(l:List α)(k:Nat)(y:α):List α:=l.take k++y::l.drop k
theorem ID{α:Type}{l:List α}{k:Nat}(y:α):(cU l k y).length=l.length+1:=by unfold cU;simp;omega
theorem pg{α:Type}{l:List α}{k:Nat}(hk:k≤l.length)(y:α):(cU l k y)[k]? =some y:=by
 unfold cU;rw [List.getElem?_append_right (by rw [List.length_take];omega),List.length_take,Nat.min_eq_left hk,Nat.sub_self];rfl
theorem mD{α:Type}{l:List α}{k:Nat}(hk:k≤l.length)(y x:α):(cU l k y).set k x=cU l k x:=by
 unfold cU;rw [List.set_append_right _ _ (by rw [List.length_take];omega),List.length_take,Nat.min_eq_left hk,Nat.sub_self];rfl
theorem oh{α:Type}(l:List α)(y:α):cU l l.length y=l++ [y]:=by unfold cU;simp
theorem ol{α:Type}{l:List α}{k:Nat}(hk:k+1≤l.length)(y:α):(cU l (k+1) y)[k]? =some l[k]∧cU l (k+1) l[k]=cU l k l[k]:=by
 unfold cU;constructor
 ·rw [List.getElem?_append_left (by simp;omega),List.getElem?_take,if_pos (by omega),List.getElem?_eq_getElem]
 ·rw [List.take_succ_eq_append_getElem (by omega),List.append_assoc,List.drop_eq_getElem_cons (i:=k) (by omega)];rfl
theorem IE{α:Type}{l:List α}{k:Nat}{y x:α}(h:x∈cU l k y):x=y∨x∈l:=by
 unfold cU at h;rcases List.mem_append.1 h with h|h
 ·exact .inr (List.mem_of_mem_take h)
 ·rcases List.mem_cons.1 h with h|h
  ·exact .inl h
  ·exact .inr (List.mem_of_mem_drop h)
theorem Dr{b:Int×List E3×List (Int×Int)→Option ((Int×List E3×List (Int×Int))⊕((List E3×List (Int×Int))⊕ Empty))}{a:Nat}(hb:b=fR (a:Int)∨b=fS (a:Int)){l:List E3}{s:List (Int×Int)}(hl:s.length=l.length)(hn:l.length≤100000)(ha:a≤l.length)(y:E3)(z:Int×Int):
  ∃y' z',aN b ((l.length:Int),l++ [y],s++ [z])=some (.inl (cU l a y',cU s a z')):=by
 have step:∀(k:Nat) y z,a<k+1→k+1≤l.length→∃y' z',b (((k+1:Nat):Int),cU l (k+1) y,cU s (k+1) z)=some (.inl ((k:Int),cU l k y',cU s k z')):=fun k y z h1 hk=>by
  have hks:k+1≤s.length:=by omega
  have e1:=cZ (ol hk y).1;have e2:=cZ (pg hk y);have e3:=cZ (ol hks z).1;have e4:=cZ (pg hks z);have hw:IntKind.i64.wrap (((k+1:Nat):Int) - 1)=(k:Int):=by rw [cV (by omega) (by omega)];omega
  have t1:((k+1:Nat):Int).toNat=k+1:=Int.toNat_natCast _;refine⟨l[k],s[k],?_⟩;rw [←(ol hk y).2,←(ol hks z).2,←mD hk y l[k],←mD hks z s[k]];rcases hb with rfl|rfl
  ·simp only [fR,hw,e1,e2,e3,e4,zbS,t1];rw [if_pos (by omega)]
  ·simp only [fS,hw,e1,e2,e3,e4,zbS,t1];rw [if_pos (by omega)]
 have stop:∀y z,b ((a:Int),cU l a y,cU s a z)=some (.inr (.inl (cU l a y,cU s a z))):=fun y z=>by
  rcases hb with rfl|rfl
  ·simp only [fR];rw [if_neg (by omega)]
  ·simp only [fS];rw [if_neg (by omega)]
 obtain⟨q,q1,y',z',q2⟩:=cz (b:=b) (l.length - a) (fun j st=>∃y z,st=(((l.length - j:Nat):Int),cU l (l.length - j) y,cU s (l.length - j) z)) (fun q=>∃y z,q= .inl (cU l a y,cU s a z))
  (by
   rintro j _ hj ⟨y,z,rfl⟩;obtain⟨k,hk⟩:∃k,l.length - j=k+1:=⟨l.length - j - 1,by omega⟩;rw [hk];obtain⟨y',z',e⟩:=step k y z (by omega) (by omega)
   exact .inl ⟨_,e,y',z',by rw [show l.length - (j+1)=k by omega]⟩)
  (by
   rintro _ ⟨y,z,rfl⟩;rw [show l.length - (l.length - a)=a by omega]
   exact⟨_,stop y z,y,z,rfl⟩) 0 (Nat.zero_le _) ((l.length:Int),l++ [y],s++ [z]) ⟨y,z,by rw [Nat.sub_zero,oh,←hl,oh,hl]⟩
 exact⟨y',z',by rw [q1,q2]⟩
def kz(p:Ky×V):E3:=(p.1.1,p.1.2,0)
def pos(S:List (Ky×V))(e:E3):Nat:=(S.takeWhile fun p=>klt p.1 (key e)).length
theorem So(S:List (Ky×V))(e:E3):pos S e≤S.length:=(List.takeWhile_sublist _).length_le
theorem zU{p:Ky×V}{S:List (Ky×V)}{e:E3}(hp:klt p.1 (key e)=true):pos (p::S) e=pos S e+1:=by unfold pos;simp [List.takeWhile_cons,hp]
theorem zV{p:Ky×V}{S:List (Ky×V)}{e:E3}(hp:¬klt p.1 (key e)=true):pos (p::S) e=0:=by unfold pos;simp [List.takeWhile_cons,hp]
theorem Sp:∀{S:List (Ky×V)} {e:E3} {j:Nat} (hj:j<S.length),j<pos S e→klt S[j].1 (key e)=true
 | [],e,j,hj,h=>by simp at hj
 |p::S,e,j,hj,h=>by
  by_cases hp:klt p.1 (key e)=true
  ·rw [zU hp]at h
   cases j with
   |zero=>exact hp
   |succ j=>exact Sp (S:=S) (e:=e) (j:=j) (by simpa using hj) (by omega)
  ·rw [zV hp]at h;omega
theorem Ns:∀{S:List (Ky×V)} {e:E3} {j:Nat} (hj:j<S.length),j=pos S e→klt S[j].1 (key e)=false
 | [],e,j,hj,h=>by simp at hj
 |p::S,e,j,hj,h=>by
  by_cases hp:klt p.1 (key e)=true
  ·rw [zU hp]at h;subst h;exact Ns (S:=S) (e:=e) (j:=pos S e) (by simpa using hj) rfl
  ·rw [zV hp]at h;subst h;simpa using hp
theorem Sq{S:List (Ky×V)}{e:E3}(h:pos S e<S.length):klt (S[pos S e]'h).1 (key e)=false:=Ns h rfl
theorem FU(R:Rg)(e:E3):∀(S:List (Ky×V)),ins R S e=if h:pos S e<S.length then(if klt (key e) (S[pos S e]'h).1=true then cU S (pos S e) (key e,R.o e.2.2)else S.set (pos S e) ((S[pos S e]'h).1,R.ad (S[pos S e]'h).2 (R.o e.2.2)))else S++ [(key e,R.o e.2.2)]
 | []=>by simp [ins,pos]
 |p::S=>by
  have ih:=FU R e S;unfold ins;by_cases hp:klt p.1 (key e)=true
  ·have hpos:pos (p::S) e=pos S e+1:=by unfold pos;simp [List.takeWhile_cons,hp]
   rw [if_pos hp,ih];simp only [hpos,List.length_cons,Nat.add_lt_add_iff_right,List.getElem_cons_succ];split
   ·split
    ·unfold cU;simp
    ·simp
   ·simp
  ·have hpos:pos (p::S) e=0:=by unfold pos;simp [List.takeWhile_cons,hp]
   rw [if_neg hp];simp only [hpos,List.length_cons,Nat.zero_lt_succ,dif_pos,List.getElem_cons_zero];split
   ·unfold cU;simp
   ·simp
theorem IF{α β:Type}(f:α→β)(l:List α)(k:Nat)(y:α):(cU l k y).map f=cU (l.map f) k (f y):=by unfold cU;simp
theorem FW(R:Rg)(l:List E3):(canS R l).length≤l.length:=by
 have key:∀(S:List (Ky×V)) e,(ins R S e).length≤S.length+1:=by
  intro S e;rw [FU];split
  ·split
   ·rw [ID];omega
   ·simp
  ·simp
 have:∀(l:List E3) (S:List (Ky×V)),(l.foldl (ins R) S).length≤S.length+l.length:=by
  intro l
  induction l with
  |nil=>intro S;simp
  |cons e l ih=>intro S;have h1:=ih (ins R S e);have h2:=key S e;simp only [List.foldl_cons,List.length_cons];omega
 simpa [canS]using this l []
theorem Zy{r:Int}{S:List (Ky×V)}{e:E3}(h:∀p∈S,ce p.2.2):∀p∈ins (RG r) S e,ce p.2.2:=by
 intro p hp;rw [FU]at hp;split at hp
 ·rename_i hl;split at hp
  ·rcases IE hp with rfl|hp
   ·exact oV _
   ·exact h p hp
  ·rcases List.mem_or_eq_of_mem_set hp with hp|rfl
   ·exact h p hp
   ·exact oX (h _ (List.getElem_mem hl)) (oV _)
 ·rcases List.mem_append.1 hp with hp|hp
  ·exact h p hp
  ·simp at hp;subst hp;exact oV _
theorem Zz(r:Int)(l:List E3):∀p∈canS (RG r) l,ce p.2.2:=by
 have:∀(l:List E3) (S:List (Ky×V)),(∀p∈S,ce p.2.2)→∀p∈l.foldl (ins (RG r)) S,ce p.2.2:=by
  intro l
  induction l with
  |nil=>intro S h;exact h
  |cons e l ih=>intro S h;exact ih _ (Zy h)
 exact this l [] (by simp)
theorem VI{x:Sl E3}{S:List (Ky×V)}{w:List (Int×Int)}{i:Nat}(hs:okS 3 x)(hi:i<x.l.length)(hn:S.length≤100000):aN (fQ x (S.map kz,w,(i:Int))) 0=some (.inl ((pos S x.l[i]:Nat):Int)):=by
 have ei:=bq hs hi;have hb:∀j (hj:j<S.length),bel (kz S[j]) x.l[i]=klt S[j].1 (key x.l[i]):=fun j hj=>rfl;refine fT (pos S x.l[i]) (fun j=>(j:Int)) rfl (fun j hj=> ?_) ?_
 ·have hjl:j<S.length:=Nat.lt_of_lt_of_le hj (So _ _);have ej:atL (S.map kz) (j:Int)=some (kz S[j]):=cZ (by simp [hjl]);simp only [fQ,ej,ei,zbS,nK,hb j hjl,Sp hjl hj,if_true,List.length_map,bM hjl (by omega)];rw [if_pos (by omega)]
 ·by_cases hl:pos S x.l[i]<S.length
  ·have ej:atL (S.map kz) ((pos S x.l[i]:Nat):Int)=some (kz S[pos S x.l[i]]):=cZ (by simp [hl]);simp only [fQ,ej,ei,zbS,nK,hb _ hl,Sq hl,List.length_map];rw [if_pos (by omega),if_neg (by simp)]
  ·simp only [fQ,List.length_map];rw [if_neg (by omega)]
theorem FX{r:Int}{x:Sl E3}(hs:okS 3 x)(hn:x.l.length≤65536):aN (iB r x) ([],[],0)=some (.inl ((canS (RG r) x.l).map kz,(canS (RG r) x.l).map (·.2))):=by
 refine fT x.l.length (fun j=>((canS (RG r) (x.l.take j)).map kz,(canS (RG r) (x.l.take j)).map (·.2),(j:Int))) (by simp [canS]) (fun j hj=> ?_) ?_
 ·have hlen:=FW (RG r) (x.l.take j);have hlj:(x.l.take j).length≤65536:=by simp;omega
  rw [List.take_succ_eq_append_getElem hj,OQ];generalize canS (RG r) (x.l.take j)=S at hlen ⊢;have hf:=VI (S:=S) (w:=S.map (·.2)) hs hj (by omega);have ej:=bq hs hj;have hp:=So S x.l[j];have hat:= @Sq S x.l[j];have hi:=FU (RG r) x.l[j] S;generalize hA:pos S x.l[j]=a at hf hp hat hi;generalize x.l[j]=e at ej hf hat hi;have ap1:app (S.map kz) [((0:Int),(0:Int),(0:Int))]=some (S.map kz++ [(0,0,0)]):=fj (by simp;unfold bX;omega);have ap2:app (S.map (·.2)) [((0:Int),(0:Int))]=some (S.map (·.2)++ [(0,0)]):=fj (by simp;unfold bX;omega);have hw1:IntKind.i64.wrap ((((S.map kz++ [((0:Int),(0:Int),(0:Int))]).length:Nat):Int) - 1)=((S.map kz).length:Int):=by simp only [List.length_append,List.length_map,List.length_cons,List.length_nil];rw [cV (by omega) (by omega)];omega
  have ta:((a:Nat):Int).toNat=a:=Int.toNat_natCast _;have hl2:(S.map (·.2)).length=(S.map kz).length:=by simp
  have hak:a≤(S.map kz).length:=by simpa using hp
  have has:a≤(S.map (·.2)).length:=by simpa using hp
  obtain⟨y2,z2,sh2⟩:=Dr (b:=fR (a:Int)) (.inl rfl) hl2 (by simp;omega) hak (0,0,0) (0,0);obtain⟨y3,z3,sh3⟩:=Dr (b:=fS (a:Int)) (.inr rfl) hl2 (by simp;omega) hak (0,0,0) (0,0);have i2:=cZ (pg hak y2);have j2:=cZ (pg has z2);have i3:=cZ (pg hak y3);have j3:=cZ (pg has z3);have hne:∀{α:Type} (l:List α) k y,neL (cU l k y)=some ():=fun l k y=>Ua (by unfold cU;simp);simp only [iB,hf,zbS,Sum.elim_inl,ej,Lk,List.length_map];rw [if_pos (by omega)];by_cases hl:a<S.length
  ·rw [if_pos (by omega)];have e1:atL (S.map kz) (a:Int)=some (kz S[a]):=cZ (by simp [hl]);have e2:atL (S.map (·.2)) (a:Int)=some S[a].2:=cZ (by simp [hl]);have hk:bel e (kz S[a])=klt (key e) S[a].1:=rfl;simp only [e1,e2,zbS,nK,hk,IC,ap1,ap2,hw1,sh2,Sum.elim_inl,i2,j2,ta,mD hak,mD has,hne,bM hj (by omega)];rw [dif_pos hl]at hi;by_cases hc:klt (key e) S[a].1=true
   ·rw [if_pos hc]at hi;rw [if_neg (by simp [hc]),hi,IF,IF];rfl
   ·rw [if_neg hc]at hi;rw [if_pos (by simpa using hc),hi,List.map_set,List.map_set]
    have:(S.map kz).set a (kz (S[a].1,(RG r).ad S[a].2 ((RG r).o e.2.2)))=S.map kz:=by
     have hk2:kz (S[a].1,(RG r).ad S[a].2 ((RG r).o e.2.2))=(S.map kz)[a]'(by simpa using hl):=by simp [kz]
     rw [hk2,List.set_getElem_self]
    rw [this]
  ·rw [if_neg (by omega)];rw [dif_neg hl]at hi;have hae:a=S.length:=by omega
   simp only [zbS,ap1,ap2,hw1,sh3,Sum.elim_inl,i3,j3,ta,mD hak,mD has,hne,bM hj (by omega)];rw [hi,hae]
   have q1:cU (S.map kz) S.length (e.1,e.2.1,(0:Int))=S.map kz++ [(e.1,e.2.1,0)]:=by
    have:=oh (S.map kz) (e.1,e.2.1,(0:Int));rwa [List.length_map]at this
   have q2:cU (S.map (·.2)) S.length (ofW e.2.2)=S.map (·.2)++ [ofW e.2.2]:=by
    have:=oh (S.map (·.2)) (ofW e.2.2);rwa [List.length_map]at this
   rw [q1,q2];simp [kz,key]
 ·simp only [iB,List.take_length];rw [if_neg (by omega)]
theorem pT{r:Int}{x:Sl E3}(hs:okS 3 x)(hn:x.l.length≤65536)(hr:lJ r=true):ct r x=some (mo 3 (sumR (RG r) x.l).1,(sumR (RG r) x.l).2):=by
 rw [kv,zT,hr];simp only [zbS,not_true_eq_false,if_false];rw [FX hs hn];simp only [zbS,Sum.elim_inl];have hlen:=FW (RG r) x.l;have hlo:=Zz r x.l;unfold sumR;generalize canS (RG r) x.l=S at hlen hlo ⊢
 obtain⟨q,q1,q2⟩:=cz (b:=iE (S.map kz,S.map (·.2))) S.length (fun j st=>st=((S.take j).map (toE (RG r))++(S.drop j).map kz,(j:Int))∧∀p∈S.take j,(gk p.2).2=true) (fun q=>(S.all (fun p=>(gk p.2).2)=true∧q= .inl (S.map (toE (RG r))))∨(S.all (fun p=>(gk p.2).2)=false∧q= .inr (.inl ([],12))))
  (by
   rintro j _ hj ⟨rfl,ha⟩;have e2:atL (S.map (·.2)) (j:Int)=some S[j].2:=cZ (by simp [hj]);have hln:((S.take j).map (toE (RG r))++(S.drop j).map kz).length=S.length:=by simp;omega
   have e1:atL ((S.take j).map (toE (RG r))++(S.drop j).map kz) (j:Int)=some (kz S[j]):=cZ (by
    rw [List.getElem?_append_right (by simp;omega)]
    simp [List.getElem?_drop,show min j S.length=j by omega,hj])
   have hN:gm S[j].2=some (gk S[j].2):=zS (hlo _ (List.getElem_mem hj));simp only [iE,hln,e2,zbS,hN,e1,bM hj (by omega),Int.toNat_natCast];rw [if_pos (by omega)];by_cases hc:(gk S[j].2).2=true
   ·rw [if_neg (by simpa using hc)];refine .inl ⟨_,rfl,?_,?_⟩
    ·rw [Prod.mk.injEq];refine⟨?_,rfl⟩;rw [List.take_succ_eq_append_getElem hj,List.set_append_right _ _ (by simp;omega)];simp only [List.length_map,List.length_take,show min j S.length=j by omega,Nat.sub_self,List.map_append,List.map_cons,List.map_nil];rw [List.drop_eq_getElem_cons hj,List.map_cons,List.set_cons_zero,List.append_assoc];simp [toE,kz]
    ·intro p hp;rw [List.take_succ_eq_append_getElem hj]at hp;rcases List.mem_append.1 hp with hp|hp
     ·exact ha p hp
     ·simp at hp;subst hp;exact hc
   ·rw [if_pos (by simpa using hc)];refine .inr ⟨_,rfl,.inr ⟨?_,rfl⟩⟩;rw [Bool.eq_false_iff];intro hh
    exact hc (List.all_eq_true.1 hh _ (List.getElem_mem hj)))
  (by
   rintro _ ⟨rfl,ha⟩;simp only [iE,List.take_length,List.drop_length,List.map_nil,List.append_nil,List.length_map];rw [List.take_length]at ha;rw [if_neg (by omega)]
   exact⟨_,rfl,.inl ⟨List.all_eq_true.2 ha,rfl⟩⟩) 0 (Nat.zero_le _) (S.map kz,0) ⟨by simp,by simp⟩
 rw [q1];rcases q2 with⟨h,rfl⟩|⟨h,rfl⟩
 ·rw [if_pos h];rfl
 ·rw [if_neg (by rw [h];simp)];rfl
end
section
open Go Sm
def w64(l:List E3):Prop:=∀x∈l,bu x.1∧bu x.2.1∧bu x.2.2
theorem uA{r:Int}{l:List E3}:cn (sumR (RG r) l).1∧(sumR (RG r) l).1.length≤l.length∧(∀x∈(sumR (RG r) l).1,bu x.2.2∧∃y∈l,y.1=x.1∧y.2.1=x.2.1)∧((sumR (RG r) l).2=0∨sumR (RG r) l=([],12)):=by
 unfold sumR;split
 ·refine⟨?_,by rw [List.length_map];exact FW _ _,fun x hx=> ?_,.inl rfl⟩
  ·show((canS (RG r) l).map (toE (RG r))).Pairwise _;rw [List.pairwise_map];exact(Nl (RG r) l).1
  ·obtain⟨p,hp,rfl⟩:=List.mem_map.1 hx;refine⟨?_,?_⟩
   ·show bu (gk p.2).1;unfold gk;split
    ·exact zg _
    ·unfold bu;omega
   ·obtain⟨e,he,hk⟩:=VC (((Nl (RG r) l).2 p.1 p.2).1 hp);have h1:=congrArg Prod.fst hk;have h2:=congrArg Prod.snd hk;exact⟨e,he,h1,h2⟩
 ·exact⟨List.Pairwise.nil,Nat.zero_le _,by simp,.inr rfl⟩
def OX:Mx:=(0,0,nI,nI,nI)
def inM(n c:Int)(x:E3):Bool:=decide (0≤x.1∧x.1<n∧0≤x.2.1∧x.2.1<c)
def ofV(r n c:Int)(l:List E3):Mx×Int:=
 if lJ r=true then if cM n=true∧cM c=true then if l.length≤65536 then if l.all (inM n c)=true then
  if(sumR (RG r) l).2=0 then(ye n c (sumR (RG r) l).1,0)else(OX,(sumR (RG r) l).2)
 else(OX,3)else(OX,5)else(OX,3)else(OX,8)
theorem Nt{n c:Int}{x:E3}(h:x.1<0∨x.1 ≥ n∨x.2.1<0∨x.2.1 ≥ c):inM n c x=false:=by unfold inM;rw [decide_eq_false];omega
theorem acy{α:Type}{p:α→Bool}{l:List α}{j:Nat}(hj:j<l.length)(h:p l[j]=false):l.all p=false:=by
 rw [Bool.eq_false_iff];intro ha;rw [List.all_eq_true.1 ha _ (List.getElem_mem hj)]at h;cases h
theorem CA{n c:Int}{x:Sl E3}(hs:okS 3 x)(hl:x.l.length≤65536):aN (lq n c x) ([],0,0,0,[],[],[])=some (if x.l.all (inM n c)=true then .inl (x.l,0,0,[],[],[])else .inr (.inl (3,0,0,[],[],[]))):=by
 obtain⟨q,q1,q2⟩:=cz (b:=lq n c x) x.l.length (fun j st=>st=(x.l.take j,(j:Int),0,0,[],[],[])∧∀y∈x.l.take j,inM n c y=true) (fun q=>q=if x.l.all (inM n c)=true then .inl (x.l,0,0,[],[],[])else .inr (.inl (3,0,0,[],[],[])))
  (by
   rintro j _ hj ⟨rfl,ha⟩;have ej:=bq hs hj;have hlen:(x.l.take j).length≤65536:=by simp;omega
   have ap:app (x.l.take j) [(x.l[j].1,x.l[j].2.1,x.l[j].2.2)]=some (x.l.take j++ [x.l[j]]):=fj (by simp;unfold bX;omega);simp only [lq,ej,zbS,ap,bM hj (by omega)];rw [if_pos (by omega)]
   have bad:inM n c x.l[j]=false→∃r,(some (Sum.inr (Sum.inr (Sum.inl ((3:Int),(0:Int),(0:Int),([]:List Int),([]:List Int),([]:List Int))))):Option ((List E3×Int×Int×Int×List Int×List Int×List Int)⊕((List E3×Int×Int×List Int×List Int×List Int)⊕((Int×Int×Int×List Int×List Int×List Int)⊕ Empty))))=some (.inr r)∧r=if x.l.all (inM n c)=true then .inl (x.l,0,0,[],[],[])else .inr (.inl (3,0,0,[],[],[])):=fun h=>⟨_,rfl,by rw [acy hj h];rfl⟩
   by_cases c1:x.l[j].1<0
   ·rw [if_pos c1];exact .inr (bad (Nt (.inl c1)))
   by_cases c2:x.l[j].1 ≥ n
   ·rw [if_neg c1,if_pos c2];exact .inr (bad (Nt (.inr (.inl c2))))
   by_cases c3:x.l[j].2.1<0
   ·rw [if_neg c1,if_neg c2,if_pos c3];exact .inr (bad (Nt (.inr (.inr (.inl c3)))))
   by_cases c4:x.l[j].2.1 ≥ c
   ·rw [if_neg c1,if_neg c2,if_neg c3,if_pos c4];exact .inr (bad (Nt (.inr (.inr (.inr c4)))))
   rw [if_neg c1,if_neg c2,if_neg c3,if_neg c4,←List.take_succ_eq_append_getElem hj];refine .inl ⟨_,rfl,rfl,fun y hy=> ?_⟩;rw [List.take_succ_eq_append_getElem hj]at hy;rcases List.mem_append.1 hy with hy|hy
   ·exact ha y hy
   ·simp at hy;subst hy
    unfold inM;rw [decide_eq_true];omega)
  (by
   rintro _ ⟨rfl,ha⟩;rw [List.take_length]at ha;simp only [lq];rw [if_neg (by omega),if_pos (List.all_eq_true.2 ha),List.take_length]
   exact⟨_,rfl,rfl⟩) 0 (Nat.zero_le _) ([],0,0,0,[],[],[]) ⟨rfl,by simp⟩
 rw [q1,q2]
theorem zW{l:List E3}{e:Int}(hl:l.length≤65536){s:Sl E3}(hs:okS 3 s)(hsl:s.l=l):aN (nh (s,e)) ([],0)=some (.inl l):=by
 refine fT l.length (fun j=>(l.take j,(j:Int))) rfl (fun j hj=> ?_) ?_
 ·have ej:atS 3 s (j:Int)=some l[j]:=jw hs (by rw [hsl];simp [hj]);have hlen:(l.take j).length≤65536:=by simp;omega
  have ap:app (l.take j) [(l[j].1,l[j].2.1,l[j].2.2)]=some (l.take j++ [l[j]]):=fj (by simp;unfold bX;omega);simp only [nh,ej,zbS,ap,bM hj (by omega),hsl];rw [if_pos (by omega),List.take_succ_eq_append_getElem hj]
 ·simp only [nh,hsl,List.take_length];rw [if_neg (by omega)]
theorem Nu{n c:Int}{l:List E3}(h:l.all (inM n c)=true){r:Int}:∀x∈(sumR (RG r) l).1,(0≤x.1∧x.1<n)∧0≤x.2.1∧x.2.1<c:=by
 intro x hx;obtain⟨_,y,hy,e1,e2⟩:=(uA (r:=r) (l:=l)).2.2.1 x hx
 have:=List.all_eq_true.1 h y hy
 unfold inM at this;simp only [decide_eq_true_eq]at this;omega
theorem Ll{r n c:Int}{x:Sl E3}(hs:okS 3 x):ln r n c x=some (ofV r n c x.l):=by
 rw [Iw,zT];unfold ofV
 cases hr:lJ r with
 |false=>rfl
 |true=>
  simp only [zbS,not_true_eq_false,if_false,if_true];by_cases h1:cM n=true
  ·obtain⟨g1,g2⟩:=sizeF_iff.1 h1;rw [if_neg (by omega),if_neg (by omega)];by_cases h2:cM c=true
   ·obtain⟨g3,g4⟩:=sizeF_iff.1 h2;rw [if_neg (by omega),if_neg (by omega),if_pos (show cM n=true∧cM c=true from⟨h1,h2⟩)];by_cases hl:x.l.length≤65536
    ·rw [if_neg (by omega),if_pos hl,CA hs hl];by_cases ha:x.l.all (inM n c)=true
     ·have hlen:=(uA (r:=r) (l:=x.l)).2.1;simp only [if_pos ha,zbS,Sum.elim_inl];rw [pT (iR _) (by rw [eZ];exact hl) hr];simp only [eZ,zbS];by_cases h0:(sumR (RG r) x.l).2=0
      ·rw [if_neg (fun h=>h h0),if_pos h0,zW (l:=(sumR (RG r) x.l).1) (by omega) (iR _) (eZ _ _)];simp only [zbS,Sum.elim_inl];rw [nJ ⟨g1,g2⟩ (iR _) (by rw [eZ];omega) (by rw [eZ];exact fun y hy=>(Nu ha y hy).1),eZ];rfl
      ·rw [if_pos h0,if_neg h0];rfl
     ·rw [if_neg ha,if_neg ha];rfl
    ·rw [if_pos (by omega),if_neg hl];rfl
   ·rw [if_neg (show¬(cM n=true∧cM c=true)from fun h=>h2 h.2)]
    have:¬(0≤c∧c≤4096):=fun h=>h2 (sizeF_iff.2 h)
    by_cases h3:c<0
    ·rw [if_pos h3];rfl
    ·rw [if_neg h3,if_pos (by omega)];rfl
  ·rw [if_neg (show¬(cM n=true∧cM c=true)from fun h=>h1 h.1)]
   have:¬(0≤n∧n≤4096):=fun h=>h1 (sizeF_iff.2 h)
   by_cases h3:n<0
   ·rw [if_pos h3];rfl
   ·rw [if_neg h3,if_pos (by omega)];rfl
end
section
open Go Sm
theorem IG{x:Sl E3}(hs:okS 3 x):∃s:Sl E3,mt x=some s∧s.l=x.l.take 60∧okS 3 s∧s.nn=x.nn:=by
 rw [FQ];by_cases h:x.l.length>60
 ·rw [if_pos (by omega)];have hz:x.sz=3:=hs.resolve_left (by intro h';rw [h']at h;simp at h);refine⟨⟨x.nn,x.sz,x.l.take 60⟩,?_,rfl,.inr hz,rfl⟩;unfold GM;rw [if_pos ⟨by omega,by omega,by omega,.inl hz⟩];simp
 ·rw [if_neg (by omega)];exact⟨x,rfl,(List.take_of_length_le (by omega)).symm,hs,rfl⟩
end
section
open Go Sm
structure Is(m:Mx)(n c:Int)(l:List E3):Prop where
 hn:0≤n∧n≤4096
 hc:0≤c∧c≤4096
 len:l.length≤65536
 r:cn l
 p:∀x∈l,(0≤x.1∧x.1<n)∧0≤x.2.1∧x.2.1<c
 v:∀x∈l,bu x.2.2
 e1:m.1=n
 e2:m.2.1=c
 e3:m.2.2.1.l=gU n.toNat fun k=>((aC l k:Nat):Int)
 e4:m.2.2.2.1.l=l.map (·.2.1)
 e5:m.2.2.2.2.l=l.map (·.2.2)
 o3:okS 1 m.2.2.1
 o4:okS 1 m.2.2.2.1
 o5:okS 1 m.2.2.2.2
section
variable {m : Mx} {n c : Int} {l : List E3}
theorem FY(hn:0≤n∧n≤4096)(hc:0≤c∧c≤4096)(hl:l.length≤65536)(h:cn l)(hp:∀x∈l,(0≤x.1∧x.1<n)∧0≤x.2.1∧x.2.1<c)(hv:∀x∈l,bu x.2.2):Is (ye n c l) n c l:=
 ⟨hn,hc,hl,h,hp,hv,rfl,rfl,rfl,eZ _ _,eZ _ _,.inr rfl,iR _,iR _⟩
theorem Is.ok(h:Is m n c l):OkM m:=by
 refine⟨h.o3,h.o4,h.o5,fun y hy=> ?_,?_,?_,?_⟩
 ·rw [h.e5]at hy;obtain⟨x,hx,rfl⟩:=List.mem_map.1 hy;exact h.v x hx
 ·rw [h.e3,gF];have:=h.hn;omega
 ·rw [h.e4,List.length_map];have:=h.len;omega
 ·rw [h.e5,List.length_map];have:=h.len;omega
theorem Is.right(h:Is m n c l):lQ m=true:=by
 have:=zR h.hn h.hc h.len h.r h.p
 unfold lQ at this ⊢;simp only [Bool.and_eq_true,decide_eq_true_eq]at this ⊢;rw [h.e1,h.e2,h.e3,h.e4,h.e5];simp only [ye,eZ]at this;exact this
theorem kW(h:Is m n c l):ew m=some m:=by rw [sd,Cy h.ok,h.right];rfl
def dI(l:List E3)(i:Int):List E3:=l.filter fun x=>decide (x.1=i)
theorem qt(l:List E3)(i:Nat):dI l (i:Int)=sP l i:=by
 unfold dI sP;rw [List.filter_filter];refine List.filter_congr fun x _=> ?_;rw [Bool.eq_iff_iff];simp;omega
theorem Ds{i:Int}(h:∀x∈l,x.1≠i):dI l i= []:=by
 unfold dI;rw [List.filter_eq_nil_iff];exact fun x hx hd=>h x hx (by simpa using hd)
def nL(l:List E3)(k:Int):List E3:=l.filter fun x=>decide (x.1<k)
theorem Dt(h:cn l)(k:Nat):nL l ((k+1:Nat):Int)=nL l (k:Int)++dI l (k:Int):=by
 have e1:=(pf (qr h) k).1;have e2:=(pf (qr h) (k+1)).1;obtain⟨c1,c2⟩:=np h k;unfold nL;rw [←e1,←e2,qt,←c2];rw [←List.take_add,show aC l k+(aC l (k+1) - aC l k)=aC l (k+1)by omega]
theorem IH{n:Int}(h:∀x∈l,x.1<n):nL l n=l:=by
 unfold nL;rw [List.filter_eq_self];exact fun x hx=>by simpa using h x hx
theorem Du{n:Int}(h:∀x∈l,n≤x.1):nL l n= []:=by
 unfold nL;rw [List.filter_eq_nil_iff]
 exact fun x hx hd=>by
  have:=h x hx;have:x.1<n:=by simpa using hd
  omega
theorem zX(l:List E3)(k:Int):(nL l k).length≤l.length:=List.length_filter_le _ _
theorem II(l:List E3)(k:Int):(dI l k).length≤l.length:=List.length_filter_le _ _
theorem lu{x:E3}{k:Int}(h:x∈dI l k):x∈l∧x.1=k:=by
 unfold dI at h;rw [List.mem_filter]at h;exact⟨h.1,by simpa using h.2⟩
theorem OY(h:cn l){x y:E3}(hx:x∈l)(hy:y∈l)(h1:x.1=y.1)(h2:x.2.1=y.2.1):x=y:=by
 obtain⟨a,ha,rfl⟩:=List.mem_iff_getElem.1 hx;obtain⟨b,hb,rfl⟩:=List.mem_iff_getElem.1 hy;have hp:=List.pairwise_iff_getElem.1 h;by_cases hab:a=b
 ·subst hab;rfl
 ·rcases Nat.lt_or_gt_of_ne hab with hl|hl
  ·have:=bel_iff.1 (hp a b ha hb hl);omega
  ·have:=bel_iff.1 (hp b a hb ha hl);omega
theorem VJ(h:cn l)(i:Int):((dI l i).map (·.2.1)).Pairwise (·<·):=by
 rw [List.pairwise_map];have h1:(dI l i).Pairwise fun a b=>bel a b=true:=h.sublist List.filter_sublist;refine h1.imp_of_mem fun{a b} ha hb hab=> ?_
 have:=(lu ha).2
 have:=(lu hb).2
 rw [bel_iff]at hab;omega
end
end
section
open Go Sm
theorem ZA{n:Int}(h:inK .u8 n):0≤n∧n≤255:=by simpa [inK,Lit.wf,IntKind.min,IntKind.max,IntKind.signed,IntKind.bits]using h
def dn(n:Int):Int:=n % 40
theorem uB{n:Int}(h:inK .u8 n):dL n=some (dn n)∧0≤dn n∧dn n<40:=by
 have:=ZA h
 rw [nH];unfold dn iZ;rw [cV (by omega) (by omega),if_pos (by decide),Int.tmod_eq_emod_of_nonneg (by omega)];exact⟨rfl,by omega,by omega⟩
theorem Sr{a:Int×Int}(ha:inK .u8 a.1∧inK .u8 a.2){s:Sl E3}(hs:okS 3 s)(hv:w64 s.l):∃m l,fI a s=some m∧Is m (dn a.1) (dn a.2) l:=by
 obtain⟨a1,a2⟩:=a;obtain⟨z1,z2,z3⟩:=uB ha.1;obtain⟨y1,y2,y3⟩:=uB ha.2;obtain⟨t,t1,t2,t3,t4⟩:=IG hs;have tl:t.l.length≤60:=by rw [t2,List.length_take];omega
 have tv:w64 t.l:=fun x hx=>hv x (by rw [t2]at hx;exact List.mem_of_mem_take hx);rw [Cw];simp only at z1 z2 z3 y1 y2 y3 ⊢;simp only [z1,y1,t1,zbS];generalize dn a1=n at z2 z3 ⊢;generalize dn a2=c at y2 y3 ⊢
 obtain⟨q,q1,u,rfl,u1,u2,u3⟩:=cz (b:=kV n c t) t.l.length (fun j st=>∃u:List E3,st=(u,(j:Int))∧u.length≤j∧(∀x∈u,(0≤x.1∧x.1<n)∧0≤x.2.1∧x.2.1<c)∧w64 u) (fun q=>∃u:List E3,q= .inl u∧u.length≤t.l.length∧(∀x∈u,(0≤x.1∧x.1<n)∧0≤x.2.1∧x.2.1<c)∧w64 u)
  (by
   rintro j _ hj ⟨u,rfl,g1,g2,g3⟩;have ej:=bq t3 hj;have hxv:=tv _ (List.getElem_mem hj);generalize t.l[j]=x at ej hxv;simp only [kV,ej,zbS,bM hj (by omega)];rw [if_pos (by omega)];by_cases c1:x.1<0
   ·rw [if_pos c1];exact .inl ⟨_,rfl,u,rfl,by omega,g2,g3⟩
   by_cases c2:x.2.1<0
   ·rw [if_neg c1,if_pos c2];exact .inl ⟨_,rfl,u,rfl,by omega,g2,g3⟩
   by_cases c3:n=0
   ·rw [if_neg c1,if_neg c2,if_pos c3];exact .inl ⟨_,rfl,u,rfl,by omega,g2,g3⟩
   by_cases c4:c=0
   ·rw [if_neg c1,if_neg c2,if_neg c3,if_pos c4];exact .inl ⟨_,rfl,u,rfl,by omega,g2,g3⟩
   rw [if_neg c1,if_neg c2,if_neg c3,if_neg c4];have m1:iZ x.1 n=some (x.1 % n):=by unfold iZ;rw [if_pos c3,Int.tmod_eq_emod_of_nonneg (by omega)]
   have m2:iZ x.2.1 c=some (x.2.1 % c):=by unfold iZ;rw [if_pos c4,Int.tmod_eq_emod_of_nonneg (by omega)]
   have ap:∀z:E3,app u [z]=some (u++ [z]):=fun z=>fj (by simp;unfold bX;omega);simp only [m1,m2,zbS,ap];have h1:=Int.emod_nonneg x.1 c3;have h2:=Int.emod_lt_of_pos x.1 (show 0<n by omega);have h3:=Int.emod_nonneg x.2.1 c4;have h4:=Int.emod_lt_of_pos x.2.1 (show 0<c by omega);refine .inl ⟨_,rfl,_,rfl,by simp;omega,fun y hy=> ?_,fun y hy=> ?_⟩
   ·rcases List.mem_append.1 hy with hy|hy
    ·exact g2 y hy
    ·simp only [List.mem_cons,List.not_mem_nil,or_false]at hy;subst hy;exact⟨⟨h1,h2⟩,h3,h4⟩
   ·rcases List.mem_append.1 hy with hy|hy
    ·exact g3 y hy
    ·simp only [List.mem_cons,List.not_mem_nil,or_false]at hy;subst hy
     exact⟨by unfold bu;dsimp only;omega,by unfold bu;dsimp only;omega,hxv.2.2⟩)
  (by
   rintro _ ⟨u,rfl,g1,g2,g3⟩;refine⟨.inl u,?_,u,rfl,g1,g2,g3⟩;simp only [kV]
   rw [if_neg (by omega)]) 0 (Nat.zero_le _) ([],0) ⟨[],rfl,Nat.le_refl _,fun x hx=>by simp at hx,fun x hx=>by simp at hx⟩
 rw [q1];simp only [zbS,Sum.elim_inl];rw [Ll (iR _),eZ];simp only [zbS]
 have hall:u.all (inM n c)=true:=by
  rw [List.all_eq_true];intro x hx;unfold inM;rw [decide_eq_true_eq]
  have:=u2 x hx
  omega
 have e:ofV 1 n c u=if(sumR (RG 1) u).2=0 then(ye n c (sumR (RG 1) u).1,0)else(OX,(sumR (RG 1) u).2):=by
  unfold ofV;rw [if_pos (by decide),if_pos ⟨sizeF_iff.2 (by omega),sizeF_iff.2 (by omega)⟩,if_pos (by omega),if_pos hall]
 rw [e];obtain⟨s1,s2,s3,s4⟩:=uA (r:=1) (l:=u);by_cases h0:(sumR (RG 1) u).2=0
 ·rw [if_pos h0,if_neg (by simp)];exact⟨_,_,rfl,FY (by omega) (by omega) (by omega) s1 (Nu hall) fun x hx=>(s3 x hx).1⟩
 ·rw [if_neg h0,if_pos h0,cV (by omega) (by omega),Bh,VH (by omega)];refine⟨_,[],rfl,?_⟩
  have:=FY (n:=n) (c:=c) (l:= []) (by omega) (by omega) (by simp) List.Pairwise.nil (by simp) (by simp)
  refine⟨this.hn,this.hc,this.len,this.r,this.p,this.v,rfl,rfl,?_,rfl,rfl,.inr rfl,.inl rfl,.inl rfl⟩;show List.replicate (n+1).toNat (0:Int)=_;rw [show(n+1).toNat=n.toNat+1 by omega,vX];rfl
end
section
open Go Sm
def kf(x:E3):E3:=(x.2.1,x.1,x.2.2)
theorem Dv(x:E3):kf (kf x)=x:=rfl
theorem IJ{x y:E3}(h:kf x=kf y):x=y:=by rw [←Dv x,h,Dv]
theorem IK{l:List E3}{x:E3}:x∈l.map kf↔kf x∈l:=by
 constructor
 ·intro h;obtain⟨y,hy,rfl⟩:=List.mem_map.1 h;exact hy
 ·exact fun h=>List.mem_map.2 ⟨_,h,rfl⟩
def leE(a b:E3):Bool:= !bel b a
theorem yx{a b:E3}:leE a b=true↔¬(b.1<a.1∨b.1=a.1∧b.2.1<a.2.1):=by
 unfold leE;rw [←bel_iff];cases bel b a<;>simp
def dC(l:List E3):List E3:=(l.map kf).mergeSort leE
theorem vY(l:List E3):(dC l).Perm (l.map kf):=List.mergeSort_perm _ _
theorem turn_mem{l:List E3}{x:E3}:x∈dC l↔kf x∈l:=by rw [(vY l).mem_iff,IK]
theorem zY(l:List E3):(dC l).length=l.length:=by rw [(vY l).length_eq,List.length_map]
theorem qu{l:List E3}(h:cn l):l.Nodup:=h.imp fun{a b} hab he=>by
 subst he
 have:=bel_iff.1 hab
 omega
theorem kA{l:List E3}(h:cn l):cn (dC l):=by
 have h1:(dC l).Pairwise fun a b=>leE a b=true:=List.pairwise_mergeSort (fun a b c hab hbc=>by rw [yx]at*;omega) (fun a b=>by
  rw [Bool.or_eq_true,yx,yx];omega) _
 have h2:(dC l).Nodup:=(vY l).nodup_iff.2 (List.pairwise_map.2 ((qu h).imp fun{a b} hab he=>hab (IJ he)));rw [cn,List.pairwise_iff_getElem];intro i j hi hj hij;have p1:=List.pairwise_iff_getElem.1 h1 i j hi hj hij;have p2:=List.pairwise_iff_getElem.1 h2 i j hi hj hij;rw [yx]at p1;rw [bel_iff];by_cases hk:(dC l)[i].1=(dC l)[j].1∧(dC l)[i].2.1=(dC l)[j].2.1
 ·have m1:=turn_mem.1 (List.getElem_mem hi);have m2:=turn_mem.1 (List.getElem_mem hj);exact absurd (IJ (OY h m1 m2 hk.2 hk.1)) p2
 ·omega
theorem OZ{l l':List E3}(h:cn l)(h':cn l')(hm:∀x,x∈l↔x∈l'):l=l':=
 List.Perm.eq_of_pairwise (le:=fun a b=>bel a b=true) (fun a b _ _ h1 h2=>by rw [bel_iff]at h1 h2;omega) h h' ((List.perm_ext_iff_of_nodup (qu h) (qu h')).2 hm)
section
variable {m : Mx} {n c : Int} {l : List E3}
end
end
section
open Go Sm
section
variable {m : Mx}
end
end
section
open Go Sm
abbrev Cx:=Int×Int×Sl Int×Sl Int×Sl Int×Sl Int
def neC(T:List E3)(k:Nat):Bool:=decide (aC T k<aC T (k+1))
def gG(T:List E3)(n:Nat):List Int:=((List.range n).filter (neC T)).map fun(k:Nat)=>(k:Int)
def Dw(T:List E3)(n:Nat):List Int:=((List.range n).filter (neC T)).map fun(k:Nat)=>((aC T (k+1):Nat):Int)
def jV(T:List E3)(n:Nat):List Int:=0::Dw T n
section
variable {T : List E3}
theorem mE(n:Nat):gG T (n+1)=gG T n++if neC T n=true then [(n:Int)]else []:=by
 unfold gG;rw [List.range_succ,List.filter_append,List.map_append];by_cases h:neC T n=true<;>simp [h]
theorem Lm(n:Nat):Dw T (n+1)=Dw T n++if neC T n=true then [((aC T (n+1):Nat):Int)]else []:=by
 unfold Dw;rw [List.range_succ,List.filter_append,List.map_append];by_cases h:neC T n=true<;>simp [h]
theorem Ss(n:Nat):(Dw T n).length=(gG T n).length:=by unfold Dw gG;simp
theorem om(n:Nat):(jV T n).length=(gG T n).length+1:=by unfold jV;rw [List.length_cons,Ss]
theorem lw(n:Nat):jV T (n+1)=jV T n++if neC T n=true then [((aC T (n+1):Nat):Int)]else []:=by
 unfold jV;rw [Lm,List.cons_append]
theorem IL(n:Nat):(gG T n).length≤n:=by
 unfold gG;rw [List.length_map];exact Nat.le_trans (List.length_filter_le _ _) (by rw [List.length_range];exact Nat.le_refl _)
theorem uC(T:List E3)(k:Nat):aC T (k+1)=aC T k+(dI T (k:Int)).length:=by
 unfold aC dI
 induction T with
 |nil=>rfl
 |cons x l ih=>
  rw [List.countP_cons,List.countP_cons,List.filter_cons,ih];by_cases h:x.1<(k:Int)
  ·rw [if_pos (decide_eq_true (by omega)),if_pos (decide_eq_true h),if_neg (by simp;omega)];omega
  ·by_cases h2:x.1=(k:Int)
   ·rw [if_pos (decide_eq_true (by omega)),if_neg (by simpa using h),if_pos (decide_eq_true h2),List.length_cons];omega
   ·rw [if_neg (by simp;omega),if_neg (by simpa using h),if_neg (by simpa using h2)];omega
theorem neC_iff{k:Nat}:neC T k=true↔dI T (k:Int)≠[]:=by
 unfold neC;rw [uC,decide_eq_true_eq,←List.length_pos_iff];omega
theorem zh(h0:∀x∈T,0≤x.1):aC T 0=0:=by
 unfold aC;rw [List.countP_eq_zero];intro x hx
 have:=h0 x hx
 simp;omega
theorem cols_mem{n:Nat}{x:Int}:x∈gG T n↔∃j:Nat,x=(j:Int)∧j<n∧neC T j=true:=by
 unfold gG;rw [List.mem_map];constructor
 ·rintro⟨j,h1,h2⟩;rw [List.mem_filter,List.mem_range]at h1;exact⟨j,h2.symm,h1⟩
 ·rintro⟨j,h1,h2⟩;exact⟨j,by rw [List.mem_filter,List.mem_range];exact h2,h1.symm⟩
theorem Su(n:Nat):(gG T n).Pairwise (·<·):=by
 unfold gG;rw [List.pairwise_map];exact(List.pairwise_lt_range.sublist List.filter_sublist).imp fun h=>by omega
theorem sR(h0:∀x∈T,0≤x.1):∀n:Nat,(jV T n)[(gG T n).length]? =some ((aC T n:Nat):Int)
 |0=>by rw [zh h0];rfl
 |n+1=>by
  rw [lw,mE];by_cases h:neC T n=true
  ·rw [if_pos h,if_pos h,List.length_append,List.length_singleton,List.getElem?_append_right (by rw [om];exact Nat.le_refl _),om,Nat.sub_self];rfl
  ·rw [if_neg h,if_neg h,List.append_nil,List.append_nil,sR h0 n]
   have:¬aC T n<aC T (n+1):=by simpa [neC]using h
   have h3:=uC T n
   have:aC T (n+1)=aC T n:=by omega
   rw [this]
theorem zZ(h0:∀x∈T,0≤x.1):∀(n i j:Nat),(gG T n)[i]? =some (j:Int)→(j<n∧neC T j=true)∧(jV T n)[i]? =some ((aC T j:Nat):Int)∧(jV T n)[i+1]? =some ((aC T (j+1):Nat):Int)
 |0,i,j,h=>by simp [gG]at h
 |n+1,i,j,h=>by
  have hL:=om (T:=T) n;by_cases hn:neC T n=true
  ·rw [mE,if_pos hn]at h;rw [lw,if_pos hn];by_cases hi:i<(gG T n).length
   ·rw [List.getElem?_append_left hi]at h;obtain⟨⟨h1,h2⟩,h3,h4⟩:=zZ h0 n i j h;exact⟨⟨by omega,h2⟩,by rw [List.getElem?_append_left (by omega),h3],by rw [List.getElem?_append_left (by omega),h4]⟩
   ·have hi2:=(List.getElem?_eq_some_iff.1 h).1;rw [List.length_append,List.length_singleton]at hi2;obtain rfl:i=(gG T n).length:=by omega
    rw [List.getElem?_append_right (Nat.le_refl _),Nat.sub_self]at h
    have:(n:Int)=(j:Int):=by simpa using h
    obtain rfl:n=j:=by omega
    refine⟨⟨by omega,hn⟩,?_,?_⟩
    ·rw [List.getElem?_append_left (by omega),sR h0]
    ·rw [List.getElem?_append_right (by omega),hL,Nat.sub_self];rfl
  ·rw [mE,if_neg hn,List.append_nil]at h;rw [lw,if_neg hn,List.append_nil];obtain⟨⟨h1,h2⟩,h3⟩:=zZ h0 n i j h;exact⟨⟨by omega,h2⟩,h3⟩
end
structure IsC(c:Cx)(n k:Int)(T:List E3):Prop where
 hn:0≤n∧n≤4096
 hk:0≤k∧k≤4096
 len:T.length≤65536
 r:cn T
 p:∀x∈T,(0≤x.1∧x.1<k)∧0≤x.2.1∧x.2.1<n
 v:∀x∈T,bu x.2.2
 e1:c.1=n
 e2:c.2.1=k
 e3:c.2.2.1.l=gG T k.toNat
 e4:c.2.2.2.1.l=jV T k.toNat
 e5:c.2.2.2.2.1.l=T.map (·.2.1)
 e6:c.2.2.2.2.2.l=T.map (·.2.2)
 o3:okS 1 c.2.2.1
 o4:okS 1 c.2.2.2.1
 o5:okS 1 c.2.2.2.2.1
 o6:okS 1 c.2.2.2.2.2
section
variable {c : Cx} {n k : Int} {T : List E3}
theorem IsC.h0(h:IsC c n k T):∀x∈T,0≤x.1:=fun x hx=>(h.p x hx).1.1
theorem IsC.at_ge(h:IsC c n k T){i:Nat}{j:Int}(hi:c.2.2.1.l[i]? =some j):∃jn:Nat,j=(jn:Int)∧jn<k.toNat∧neC T jn=true∧c.2.2.2.1.l[i]? =some ((aC T jn:Nat):Int)∧c.2.2.2.1.l[i+1]? =some ((aC T (jn+1):Nat):Int):=by
 rw [h.e3]at hi;obtain⟨jn,rfl,h1,h2⟩:=cols_mem.1 (List.mem_of_getElem? hi);obtain⟨_,h3,h4⟩:=zZ h.h0 _ _ _ hi;rw [←h.e4]at h3 h4;exact⟨jn,rfl,h1,h2,h3,h4⟩
theorem IsC.atLen(h:IsC c n k T):c.2.2.1.l.length≤4096:=by
 rw [h.e3]
 have:=IL (T:=T) k.toNat
 have:=h.hk
 omega
theorem IsC.stLen(h:IsC c n k T):c.2.2.2.1.l.length=c.2.2.1.l.length+1:=by rw [h.e4,h.e3,om]
theorem IsC.asc(h:IsC c n k T):c.2.2.1.l.Pairwise (·<·):=by rw [h.e3];exact Su _
theorem IM(hp:∀x∈T,x.1<k){j:Nat}(hj:k≤(j:Int)):aC T j=T.length:=by
 unfold aC;rw [List.countP_eq_length];intro x hx
 have:=hp x hx
 simp;omega
theorem IsC.last(h:IsC c n k T):c.2.2.2.1.l[c.2.2.1.l.length]? =some (T.length:Int):=by
 rw [h.e4,h.e3,sR h.h0,IM (fun x hx=>(h.p x hx).1.2) (by have:=h.hk;omega)]
end
def sf(r:Int)(st ro:List Int)(i:Nat):Bool:=decide (0≤st.getD i 0)&&(decide (st.getD i 0<st.getD (i+1) 0)&&(decide (st.getD (i+1) 0≤ro.length)&& gD (-1) r (bE ro (st.getD i 0) (st.getD (i+1) 0))))
def qv(c:Cx):Bool:=cM c.1 &&(cM c.2.1 &&(decide (c.2.2.2.1.l.length=c.2.2.1.l.length+1)&&(decide (c.2.2.2.1.l.getD 0 0=0)&&(gD (-1) c.2.1 c.2.2.1.l &&(decide (c.2.2.2.2.1.l.length=c.2.2.2.2.2.l.length)&&(decide (c.2.2.2.2.1.l.length≤65536)&&(decide (c.2.2.2.1.l.getD c.2.2.1.l.length 0=c.2.2.2.2.1.l.length)&&(List.range c.2.2.1.l.length).all (sf c.1 c.2.2.2.1.l c.2.2.2.2.1.l))))))))
structure OkC(c:Cx):Prop where
 a:okS 1 c.2.2.1
 s:okS 1 c.2.2.2.1
 r:okS 1 c.2.2.2.2.1
 v:okS 1 c.2.2.2.2.2
 va:∀y∈c.2.2.2.2.2.l,bu y
 la:c.2.2.1.l.length≤4096
 ls:c.2.2.2.1.l.length≤9223372036854775806
 lr:c.2.2.2.2.1.l.length≤9223372036854775806
 lv:c.2.2.2.2.2.l.length≤9223372036854775807
theorem yz:∀{l:List Int} {a n:Int},a<n→gD a n l=true→(l.length:Int)≤n - a - 1
 | [],a,n,h,_=>by simp;omega
 |x::l,a,n,h,hl=>by
  rw [rh,Bool.and_eq_true,Bool.and_eq_true,decide_eq_true_eq,decide_eq_true_eq]at hl
  have:=yz hl.1.2 hl.2
  rw [List.length_cons];omega
section
variable {c : Cx}
theorem gg(h:qv c=true):(0≤c.1∧c.1≤4096)∧(0≤c.2.1∧c.2.1≤4096)∧c.2.2.2.1.l.length=c.2.2.1.l.length+1∧c.2.2.2.1.l.getD 0 0=0∧gD (-1) c.2.1 c.2.2.1.l=true∧c.2.2.2.2.1.l.length=c.2.2.2.2.2.l.length∧c.2.2.2.2.1.l.length≤65536∧c.2.2.2.1.l.getD c.2.2.1.l.length 0=c.2.2.2.2.1.l.length∧∀i,i<c.2.2.1.l.length→sf c.1 c.2.2.2.1.l c.2.2.2.2.1.l i=true:=by
 unfold qv at h;simp only [Bool.and_eq_true,decide_eq_true_eq,sizeF_iff,all_range]at h;exact h
end
end
section
open Go Sm
def vZ(a b:Int)(x:E3):E3:=(x.1 - a,x.2.1 - b,x.2.2)
def inC(a b:Int)(x:E3):Bool:=decide (a≤x.2.1∧x.2.1<b)
def Sv(lo lo2 hi2:Int)(l:List E3):List E3:=l.filter fun x=>decide (lo≤x.1)&& inC lo2 hi2 x
def jE(lo hi lo2 hi2:Int)(l:List E3):List E3:=(nL (Sv lo lo2 hi2 l) hi).map (vZ lo lo2)
theorem IN{lo lo2 hi2:Int}{l:List E3}{x:E3}:x∈Sv lo lo2 hi2 l↔x∈l∧lo≤x.1∧lo2≤x.2.1∧x.2.1<hi2:=by
 unfold Sv inC;rw [List.mem_filter,Bool.and_eq_true,decide_eq_true_eq,decide_eq_true_eq]
theorem cutE_mem{lo hi lo2 hi2:Int}{l:List E3}{y:E3}:y∈jE lo hi lo2 hi2 l↔(y.1+lo,y.2.1+lo2,y.2.2)∈l∧(0≤y.1∧y.1<hi - lo)∧0≤y.2.1∧y.2.1<hi2 - lo2:=by
 unfold jE nL;rw [List.mem_map];constructor
 ·rintro⟨x,hx,rfl⟩;rw [List.mem_filter,decide_eq_true_eq,IN]at hx;obtain⟨⟨h1,h2,h3,h4⟩,h5⟩:=hx;refine⟨?_,?_,?_⟩
  ·show(x.1 - lo+lo,x.2.1 - lo2+lo2,x.2.2)∈l;rw [Int.sub_add_cancel,Int.sub_add_cancel];exact h1
  ·show 0≤x.1 - lo∧x.1 - lo<hi - lo;omega
  ·show 0≤x.2.1 - lo2∧x.2.1 - lo2<hi2 - lo2;omega
 ·rintro⟨h1,h2,h3⟩;refine⟨(y.1+lo,y.2.1+lo2,y.2.2),?_,?_⟩
  ·rw [List.mem_filter,decide_eq_true_eq,IN];exact⟨⟨h1,by dsimp only;omega,by dsimp only;omega,by dsimp only;omega⟩,by dsimp only;omega⟩
  ·unfold vZ;simp only [Int.add_sub_cancel]
theorem IP{a b:Int}{l:List E3}(h:cn l):cn (l.map (vZ a b)):=by
 rw [cn,List.pairwise_map];refine h.imp fun{x y} hxy=> ?_;rw [bel_iff]at hxy ⊢;show x.1 - a<y.1 - a∨x.1 - a=y.1 - a∧x.2.1 - b<y.2.1 - b;omega
theorem Pa{lo hi lo2 hi2:Int}{l:List E3}(h:cn l):cn (jE lo hi lo2 hi2 l):=IP ((h.sublist List.filter_sublist).sublist List.filter_sublist)
theorem VK(lo hi lo2 hi2:Int)(l:List E3):(jE lo hi lo2 hi2 l).length≤l.length:=by
 unfold jE Sv;rw [List.length_map];exact Nat.le_trans (zX _ _) (List.length_filter_le _ _)
section
variable {m : Mx} {n c : Int} {l : List E3}
end
end
section
open Go Sm
def pr2(x:E3):Int×Int:=(x.2.1,x.2.2)
section
variable {m : Mx} {n c : Int} {l : List E3}
theorem Is.at_st(h:Is m n c l){k:Nat}(hk:k≤n.toNat):atS 1 m.2.2.1 (k:Int)=some ((aC l k:Nat):Int):=jw h.o3 (show m.2.2.1.l[k]? =some _ by rw [h.e3];exact fU _ hk)
theorem Is.at_co(h:Is m n c l){i:Nat}(hi:i<l.length):atS 1 m.2.2.2.1 (i:Int)=some l[i].2.1:=jw h.o4 (by rw [h.e4,List.getElem?_map,List.getElem?_eq_getElem hi];rfl)
theorem Is.at_va(h:Is m n c l){i:Nat}(hi:i<l.length):atS 1 m.2.2.2.2 (i:Int)=some l[i].2.2:=jw h.o5 (by rw [h.e5,List.getElem?_map,List.getElem?_eq_getElem hi];rfl)
theorem IQ(h:Is m n c l)(k:Nat):aC l k≤aC l (k+1)∧aC l (k+1)≤l.length∧(l.drop (aC l k)).take (aC l (k+1) - aC l k)=dI l (k:Int):=by
 obtain⟨c1,c2⟩:=np h.r k;exact⟨c1,nm _ _,by rw [c2,qt]⟩
theorem IR{a b j:Nat}(hb:b≤l.length)(hj:a+j<b):((l.drop a).take (b - a))[j]? =some (l[a+j]'(by omega)):=by
 rw [List.getElem?_take,if_pos (by omega),List.getElem?_drop,List.getElem?_eq_getElem (by omega)]
theorem FZ(h:Is m n c l)(i:Int):mr m i=some ((dI l i).map pr2):=by
 rw [FO,kW h,zbS];by_cases h0:i<0
 ·have hr:dI l i= []:=Ds fun x hx he=>by have:=(h.p x hx).1;omega
  rw [if_pos h0,hr];rfl
 ·by_cases h1:i ≥ n
  ·have hr:dI l i= []:=Ds fun x hx he=>by have:=(h.p x hx).1;omega
   rw [if_neg h0,h.e1,if_pos h1,hr];rfl
  ·obtain⟨k,rfl⟩:=Int.eq_ofNat_of_zero_le (by omega:0≤i);have hk:k<n.toNat:=by omega
   have hn:=h.hn;have hlen:=h.len;obtain⟨p1,p2,p3⟩:=IQ h k;have w1:IntKind.i64.wrap ((k:Int)+1)=((k+1:Nat):Int):=bM (n:=n.toNat) hk (by omega);have hpl:(dI l (k:Int)).length=aC l (k+1) - aC l k:=by rw [←p3,List.length_take,List.length_drop];omega
   rw [if_neg h0,h.e1,if_neg h1,h.at_st (by omega),zbS]
   have q:aN (mc (k:Int) m) ([],((aC l k:Nat):Int))=some (.inl ((dI l (k:Int)).map pr2)):=by
    refine fT (dI l (k:Int)).length (fun j=>(((dI l (k:Int)).take j).map pr2,((aC l k+j:Nat):Int))) rfl (fun j hj=> ?_) ?_
    ·have hlt:aC l k+j<l.length:=by omega
     have g:(dI l (k:Int))[j]? =some l[aC l k+j]:=by rw [←p3];exact IR p2 (by omega)
     have g2:(dI l (k:Int))[j]=l[aC l k+j]:=by rw [List.getElem?_eq_getElem hj]at g;exact Option.some.inj g
     have hl2:=II l (k:Int);simp only [mc];rw [w1,h.at_st (by omega),zbS,if_pos (by omega),h.at_co hlt,zbS,h.at_va hlt,zbS,fj (by simp [bX];omega),zbS,cV (by omega) (by omega),List.take_succ_eq_append_getElem hj,List.map_append,g2];rfl
    ·simp only [mc];rw [w1,h.at_st (by omega),zbS,if_neg (by omega),List.take_length]
   rw [q];rfl
theorem oo(h:Is m n c l):fH m=some l:=by
 have hn:=h.hn;have hlen:=h.len;rw [vW,kW h,zbS]
 have q:aN (iG m) ([],0)=some (.inl l):=by
  refine fT n.toNat (fun j=>(nL l (j:Int),((j:Nat):Int))) (by rw [show((0:Nat):Int)=0 from rfl,Du fun x hx=>(h.p x hx).1.1]) (fun k hk=> ?_) ?_
  ·obtain⟨p1,p2,p3⟩:=IQ h k;have w1:IntKind.i64.wrap ((k:Int)+1)=((k+1:Nat):Int):=bM (n:=n.toNat) hk (by omega);have hpl:(dI l (k:Int)).length=aC l (k+1) - aC l k:=by rw [←p3,List.length_take,List.length_drop];omega
   have hb:=zX l (k:Int)
   have q:aN (iF m (nL l (k:Int),(k:Int))) (nL l (k:Int),((aC l k:Nat):Int))=some (.inl (nL l (k:Int)++dI l (k:Int))):=by
    refine fT (dI l (k:Int)).length (fun j=>(nL l (k:Int)++(dI l (k:Int)).take j,((aC l k+j:Nat):Int))) (by simp) (fun j hj=> ?_) ?_
    ·have hlt:aC l k+j<l.length:=by omega
     have g:(dI l (k:Int))[j]? =some l[aC l k+j]:=by rw [←p3];exact IR p2 (by omega)
     have g2:(dI l (k:Int))[j]=l[aC l k+j]:=by rw [List.getElem?_eq_getElem hj]at g;exact Option.some.inj g
     have g3:l[aC l k+j].1=(k:Int):=by rw [←g2];exact(lu (List.getElem_mem hj)).2
     have hl2:=II l (k:Int);simp only [iF];rw [w1,h.at_st (by omega),zbS,if_pos (by omega),h.at_co hlt,zbS,h.at_va hlt,zbS,fj (by simp [bX];omega),zbS,cV (by omega) (by omega),List.take_succ_eq_append_getElem hj,g2,←g3,List.append_assoc];rfl
    ·simp only [iF];rw [w1,h.at_st (by omega),zbS,if_neg (by omega),List.take_length]
   simp only [iG];rw [h.e1,if_pos (by omega),h.at_st (by omega),zbS,q,zbS];simp only [Sum.elim_inl];rw [w1,Dt h.r]
  ·simp only [iG];rw [h.e1,if_neg (by omega),IH fun x hx=>by have:=(h.p x hx).1;omega]
 rw [q];rfl
theorem Sw(h:cn l)(k:Int):(l.filter fun x=>decide (x.2.1=k)).map kf=dI (dC l) k:=by
 refine OZ ?_ ((kA h).sublist List.filter_sublist) fun x=> ?_
 ·rw [cn,List.pairwise_map];refine(h.sublist List.filter_sublist).imp_of_mem fun{a b} ha hb hab=> ?_;have h1:a.2.1=k:=by simpa using (List.mem_filter.1 ha).2
  have h2:b.2.1=k:=by simpa using (List.mem_filter.1 hb).2
  rw [bel_iff]at hab ⊢;show a.2.1<b.2.1∨a.2.1=b.2.1∧a.1<b.1;omega
 ·unfold dI;rw [IK,List.mem_filter,List.mem_filter,turn_mem];exact Iff.rfl
theorem CB(h:Is m n c l):∃m',kr m=some m'∧Is m' c n (dC l):=by
 have hc:=h.hc;have hlen:=h.len
 have hp:∀x∈dC l,(0≤x.1∧x.1<c)∧0≤x.2.1∧x.2.1<n:=fun x hx=>by
  have:=h.p _ (turn_mem.1 hx)
  exact⟨this.2,this.1⟩
 rw [Ct,kW h,zbS,oo h,zbS]
 have q:aN (kT m l) ([],0)=some (.inl (dC l)):=by
  refine fT c.toNat (fun j=>(nL (dC l) (j:Int),((j:Nat):Int))) (by rw [show((0:Nat):Int)=0 from rfl,Du fun x hx=>(hp x hx).1.1]) (fun k hk=> ?_) ?_
  ·have hb:=zX (dC l) (k:Int);rw [zY]at hb
   have q:aN (kR l (nL (dC l) (k:Int),(k:Int))) (nL (dC l) (k:Int),0)=some (.inl (nL (dC l) (k:Int)++(l.filter fun x=>decide (x.2.1=(k:Int))).map kf)):=by
    refine fT l.length (fun j=>(nL (dC l) (k:Int)++((l.take j).filter fun x=>decide (x.2.1=(k:Int))).map kf,((j:Nat):Int))) (by simp) (fun j hj=> ?_) ?_
    ·have e:atL l (j:Int)=some l[j]:=cZ (List.getElem?_eq_getElem hj);have hfl:((l.take j).filter fun x=>decide (x.2.1=(k:Int))).length≤l.length:=Nat.le_trans (List.length_filter_le _ _) (by rw [List.length_take];omega);simp only [kR];rw [if_pos (by omega),e];simp only [zbS];rw [List.take_succ_eq_append_getElem hj,List.filter_append,List.map_append];by_cases hz:l[j].2.1=(k:Int)
     ·rw [if_pos hz,fj (by simp [bX];omega),zbS,bM hj (by omega)];simp only [List.filter_cons,decide_eq_true hz,if_true,List.filter_nil,List.map_cons,List.map_nil,List.append_assoc];unfold kf;rw [←hz]
     ·rw [if_neg hz,bM hj (by omega)];simp [hz]
    ·simp only [kR];rw [if_neg (by omega),List.take_length]
   simp only [kT];rw [h.e2,if_pos (by omega),q,zbS];simp only [Sum.elim_inl];rw [bM hk (by omega),Dt (kA h.r),Sw h.r]
  ·simp only [kT];rw [h.e2,if_neg (by omega),IH fun x hx=>by have:=(hp x hx).1;omega]
 rw [q,zbS];simp only [Sum.elim_inl];rw [h.e1,h.e2,nJ hc (iR _) (by rw [eZ,zY];exact hlen) (by rw [eZ];exact fun x hx=>(hp x hx).1),eZ];exact⟨_,rfl,FY hc h.hn (by rw [zY];exact hlen) (kA h.r) hp fun x hx=>h.v (kf x) (turn_mem.1 hx)⟩
end
end
section
open Go Sm
theorem qw{c:Cx}(h:qv c=true→False):some false=some (qv c):=by rw [Bool.eq_false_iff.2 h]
theorem colOk_iff{r:Int}{st ro:List Int}{i:Nat}:sf r st ro i=true↔0≤st.getD i 0∧st.getD i 0<st.getD (i+1) 0∧st.getD (i+1) 0≤(ro.length:Int)∧gD (-1) r (bE ro (st.getD i 0) (st.getD (i+1) 0))=true:=by
 unfold sf;simp only [Bool.and_eq_true,decide_eq_true_eq]
theorem Pb{r k:Int}{a s t v:Sl Int}(hs:okS 1 s)(ht:okS 1 t)(hn:a.l.length≤4096)(hl:s.l.length=a.l.length+1)(h0:s.l.getD 0 0=0)(tl:t.l.length≤65536):∃q,aN (kU (r,k,a,s,t,v)) 0=some q∧(((List.range a.l.length).all (sf r s.l t.l)=true∧q= .inl ())∨((List.range a.l.length).all (sf r s.l t.l)=false∧q= .inr (.inl false))):=by
 refine cz (b:=kU (r,k,a,s,t,v)) a.l.length (fun j z=>z=(j:Int)∧0≤s.l.getD j 0∧∀i,i<j→sf r s.l t.l i=true) _ ?_ ?_ 0 (Nat.zero_le _) 0 ⟨rfl,by omega,fun i hi=>absurd hi (by omega)⟩
 ·rintro j _ hj ⟨rfl,hp,ha⟩;have e1:=bq hs (j:=j) (by omega);have e2:=bq hs (j:=j+1) (by omega);rw [←jf]at e1 e2;simp only [kU,e1,zbS,bM hj (by omega)];rw [if_pos (by omega),e2];simp only [zbS];have bad:¬sf r s.l t.l j=true→(List.range a.l.length).all (sf r s.l t.l)=false:=fun h=>rg hj (Bool.eq_false_iff.2 h);by_cases c1:s.l.getD (j+1) 0≤s.l.getD j 0
  ·rw [if_pos c1];exact .inr ⟨_,rfl,.inr ⟨bad fun h=>by have:=colOk_iff.1 h;omega,rfl⟩⟩
  rw [if_neg c1];by_cases c2:s.l.getD (j+1) 0>((t.l.length:Nat):Int)
  ·rw [if_pos c2];exact .inr ⟨_,rfl,.inr ⟨bad fun h=>by have:=colOk_iff.1 h;omega,rfl⟩⟩
  rw [if_neg c2]
  have hc:GM 1 t (s.l.getD j 0) (s.l.getD (j+1) 0)=some ⟨t.nn,t.sz,bE t.l (s.l.getD j 0) (s.l.getD (j+1) 0)⟩:=by
   unfold GM
   have hz:t.sz=1∨s.l.getD j 0=0:=by
    rcases ht with h|h
    ·rw [h]at c2;simp only [List.length_nil]at c2;omega
    ·exact .inl h
   rw [if_pos ⟨hp,by omega,by omega,hz⟩];rfl
  rw [hc];simp only [zbS];have hcl:(bE t.l (s.l.getD j 0) (s.l.getD (j+1) 0)).length≤65536:=by rw [og ⟨hp,by omega,by omega⟩];omega
  have hok:okS 1 (⟨t.nn,t.sz,bE t.l (s.l.getD j 0) (s.l.getD (j+1) 0)⟩:Sl Int):=by
   rcases ht with h|h
   ·left;unfold bE;simp [h]
   ·exact .inr h
  rw [uy _ r hok (show(bE t.l (s.l.getD j 0) (s.l.getD (j+1) 0)).length≤_ by omega)];simp only [zbS]
  cases hb:gD (-1) r (bE t.l (s.l.getD j 0) (s.l.getD (j+1) 0))with
  |true=>
   rw [if_neg (by simp)];refine .inl ⟨_,rfl,rfl,by omega,fun i hi=> ?_⟩;by_cases e:i=j
   ·rw [e];exact colOk_iff.2 ⟨hp,by omega,by omega,hb⟩
   ·exact ha i (by omega)
  |false=>
   rw [if_pos (by simp)];exact .inr ⟨_,rfl,.inr ⟨bad fun h=>(by have:=(colOk_iff.1 h).2.2.2;rw [hb]at this;cases this),rfl⟩⟩
 ·rintro _ ⟨rfl,hp,ha⟩;exact⟨_,if_neg (show¬((a.l.length:Nat):Int)<((a.l.length:Nat):Int)by omega),.inl ⟨all_range.2 ha,rfl⟩⟩
theorem Dx{c:Cx}(h1:cM c.1=true)(h2:cM c.2.1=true)(h3:c.2.2.2.1.l.length=c.2.2.1.l.length+1)(h4:c.2.2.2.1.l.getD 0 0=0)(h5:gD (-1) c.2.1 c.2.2.1.l=true)(h6:c.2.2.2.2.1.l.length=c.2.2.2.2.2.l.length)(h7:c.2.2.2.2.1.l.length≤65536)(h8:c.2.2.2.1.l.getD c.2.2.1.l.length 0=c.2.2.2.2.1.l.length):qv c=(List.range c.2.2.1.l.length).all (sf c.1 c.2.2.2.1.l c.2.2.2.2.1.l):=by
 unfold qv;rw [h1,h2,decide_eq_true h3,decide_eq_true h4,h5,decide_eq_true h6,decide_eq_true h7,decide_eq_true h8];rfl
theorem Ga{c:Cx}(h:OkC c):eT c=some (qv c):=by
 obtain⟨r,k,a,s,t,v⟩:=c;obtain⟨o1,o2,o3,o4,vv,la,ls,lr,lv⟩:=h;simp only at o1 o2 o3 o4 vv la ls lr lv;rw [Cv];simp only [Iy,zbS];by_cases z1:cM r=true
 rotate_left
 ·rw [if_pos z1];exact qw fun h=>z1 (sizeF_iff.2 (gg h).1)
 rw [if_neg (fun h=>h z1)];by_cases z2:cM k=true
 rotate_left
 ·rw [if_pos z2];exact qw fun h=>z2 (sizeF_iff.2 (gg h).2.1)
 rw [if_neg (fun h=>h z2),cV (n:=((a.l.length:Nat):Int)+1) (by omega) (by omega)];by_cases g1:s.l.length=a.l.length+1
 rotate_left
 ·rw [if_pos (by omega)];exact qw fun h=>g1 (gg h).2.2.1
 rw [if_neg (by omega)];have e0:=bq o2 (j:=0) (by omega);rw [←jf]at e0;have e0':atS 1 s 0=some (s.l.getD 0 0):=e0;rw [e0'];simp only [zbS];by_cases g2:s.l.getD 0 0=0
 rotate_left
 ·rw [if_pos g2];exact qw fun h=>g2 (gg h).2.2.2.1
 rw [if_neg (fun h=>h g2),uy _ _ o1 (by omega)];simp only [zbS];by_cases g3:gD (-1) k a.l=true
 rotate_left
 ·rw [if_pos g3];exact qw fun h=>g3 (gg h).2.2.2.2.1
 rw [if_neg (fun h=>h g3)];by_cases g4:t.l.length=v.l.length
 rotate_left
 ·rw [if_pos (by omega)];exact qw fun h=>g4 (gg h).2.2.2.2.2.1
 rw [if_neg (by omega)];by_cases g5:t.l.length≤65536
 rotate_left
 ·rw [if_pos (by omega)];exact qw fun h=>g5 (gg h).2.2.2.2.2.2.1
 rw [if_neg (by omega)];have en:=bq o2 (j:=a.l.length) (by omega);rw [←jf]at en;rw [en];simp only [zbS];by_cases g6:s.l.getD a.l.length 0=((t.l.length:Nat):Int)
 rotate_left
 ·rw [if_pos g6];exact qw fun h=>g6 (gg h).2.2.2.2.2.2.2.1
 rw [if_neg (fun h=>h g6)];obtain⟨q,q1,q2⟩:=Pb (r:=r) (k:=k) (v:=v) o2 o3 la g1 g2 g5;rw [q1,Dx z1 z2 g1 g2 g3 g4 g5 g6];rcases q2 with⟨e,rfl⟩|⟨e,rfl⟩<;>simp only [e]<;>rfl
section
variable {c : Cx} {n k : Int} {T : List E3}
theorem IsC.ok(h:IsC c n k T):OkC c:=by
 have:=h.atLen
 have:=h.stLen
 have:=h.len
 refine⟨h.o3,h.o4,h.o5,h.o6,fun y hy=> ?_,by omega,by omega,?_,?_⟩
 ·rw [h.e6]at hy;obtain⟨x,hx,rfl⟩:=List.mem_map.1 hy;exact h.v x hx
 ·rw [h.e5,List.length_map];omega
 ·rw [h.e6,List.length_map];omega
theorem getD_some{l:List Int}{i:Nat}{x:Int}(h:l[i]? =some x):l.getD i 0=x:=by rw [List.getD_eq_getElem?_getD,h];rfl
theorem IsC.right(h:IsC c n k T):qv c=true:=by
 have hl:=h.last;have hlen:=h.len;rw [Dx (sizeF_iff.2 (by rw [h.e1];exact h.hn)) (sizeF_iff.2 (by rw [h.e2];exact h.hk)) h.stLen (by rw [h.e4];rfl) ?_ (by rw [h.e5,h.e6,List.length_map,List.length_map]) (by rw [h.e5,List.length_map];exact hlen) (by rw [getD_some hl,h.e5,List.length_map])]
 ·refine all_range.2 fun i hi=>colOk_iff.2 ?_;obtain⟨jn,e1,h1,h2,h3,h4⟩:=h.at_ge (List.getElem?_eq_getElem hi);rw [getD_some h3,getD_some h4,h.e5,List.length_map];have h5:aC T jn<aC T (jn+1):=by simpa [neC]using h2
  have h6:=nm T (jn+1);refine⟨by omega,by omega,by omega,?_⟩;rw [uz];unfold bE;rw [Int.toNat_natCast,Int.toNat_natCast,(np h.r jn).2,←qt,ascI_iff'];refine⟨VJ h.r _,fun x hx=> ?_⟩;obtain⟨y,hy,rfl⟩:=List.mem_map.1 hx
  have:=(h.p y (lu hy).1).2
  rw [h.e1];omega
 ·rw [h.e2,ascI_iff'];refine⟨h.asc,fun x hx=> ?_⟩;rw [h.e3]at hx;obtain⟨j,rfl,h1,_⟩:=cols_mem.1 hx;omega
theorem CC(h:IsC c n k T):eT c=some true:=by rw [Ga h.ok,h.right]
end
end
section
open Go Sm
section
variable {m : Mx} {n k : Int} {l T : List E3} {c : Cx}
theorem IsC.at_ro(h:IsC c n k T){i:Nat}(hi:i<T.length):atS 1 c.2.2.2.2.1 (i:Int)=some T[i].2.1:=jw h.o5 (by rw [h.e5,List.getElem?_map,List.getElem?_eq_getElem hi];rfl)
theorem IsC.at_va(h:IsC c n k T){i:Nat}(hi:i<T.length):atS 1 c.2.2.2.2.2 (i:Int)=some T[i].2.2:=jw h.o6 (by rw [h.e6,List.getElem?_map,List.getElem?_eq_getElem hi];rfl)
end
end
section
open Go Sm
def inW(a b a2 b2:Int)(x:E3):Bool:=decide (a≤x.1∧x.1<b∧a2≤x.2.1∧x.2.1<b2)
section
variable {m : Mx} {n c : Int} {l : List E3}
theorem VL(h:Is m n c l)(y z:Int×Int):aN (me y z m l) ([],0)=some (.inl ((l.filter (inW (max y.1 0) (min y.2 n) (max z.1 0) (min z.2 c))).map (vZ (max y.1 0) (max z.1 0)))):=by
 have hn:=h.hn;have hc:=h.hc;have hlen:=h.len;refine fT l.length (fun j=>(((l.take j).filter (inW (max y.1 0) (min y.2 n) (max z.1 0) (min z.2 c))).map (vZ (max y.1 0) (max z.1 0)),((j:Nat):Int))) rfl (fun j hj=> ?_) ?_
 ·have e:atL l (j:Int)=some l[j]:=cZ (List.getElem?_eq_getElem hj);have hp:=h.p _ (List.getElem_mem hj);have hfl:((l.take j).filter (inW (max y.1 0) (min y.2 n) (max z.1 0) (min z.2 c))).length≤l.length:=Nat.le_trans (List.length_filter_le _ _) (by rw [List.length_take];omega);have hw:=bM (j:=j) hj (by omega);simp only [me];rw [if_pos (by omega),e];simp only [zbS];rw [yw,yw,yu,yu,h.e1,h.e2,List.take_succ_eq_append_getElem hj,List.filter_append,List.map_append];by_cases c1:l[j].1 ≥ max y.1 0
  ·by_cases c2:l[j].1<min y.2 n
   ·by_cases c3:l[j].2.1 ≥ max z.1 0
    ·by_cases c4:l[j].2.1<min z.2 c
     ·have hi:inW (max y.1 0) (min y.2 n) (max z.1 0) (min z.2 c) l[j]=true:=by unfold inW;rw [decide_eq_true_eq];exact⟨c1,c2,c3,c4⟩
      rw [if_pos c1,if_pos c2,if_pos c3,if_pos c4,cV (by omega) (by omega),cV (by omega) (by omega),fj (by simp [bX];omega),zbS,hw];simp only [List.filter_cons,hi,if_true,List.filter_nil,List.map_cons,List.map_nil];rfl
     ·have hi:inW (max y.1 0) (min y.2 n) (max z.1 0) (min z.2 c) l[j]=false:=by unfold inW;rw [decide_eq_false_iff_not];omega
      rw [if_pos c1,if_pos c2,if_pos c3,if_neg c4,hw];simp [hi]
    ·have hi:inW (max y.1 0) (min y.2 n) (max z.1 0) (min z.2 c) l[j]=false:=by unfold inW;rw [decide_eq_false_iff_not];omega
     rw [if_pos c1,if_pos c2,if_neg c3,hw];simp [hi]
   ·have hi:inW (max y.1 0) (min y.2 n) (max z.1 0) (min z.2 c) l[j]=false:=by unfold inW;rw [decide_eq_false_iff_not];omega
    rw [if_pos c1,if_neg c2,hw];simp [hi]
  ·have hi:inW (max y.1 0) (min y.2 n) (max z.1 0) (min z.2 c) l[j]=false:=by unfold inW;rw [decide_eq_false_iff_not];omega
   rw [if_neg c1,hw];simp [hi]
 ·simp only [me];rw [if_neg (by omega),List.take_length]
theorem Dy{lo hi lo2 hi2:Int}(h:hi=lo∨hi2=lo2):jE lo hi lo2 hi2 l= []:=by
 rw [List.eq_nil_iff_forall_not_mem];intro y hy
 have:=(cutE_mem.1 hy).2
 omega
theorem uD(h:Is m n c l)(y z:Int×Int){lo hi lo2 hi2:Int}(b1:0≤lo∧lo≤hi∧hi≤n)(p1:min y.2 n>max y.1 0→lo=max y.1 0∧hi=min y.2 n)(q1:¬min y.2 n>max y.1 0→hi=lo)
  (b2:0≤lo2∧lo2≤hi2∧hi2≤c) (p2:min z.2 c>max z.1 0→lo2=max z.1 0∧hi2=min z.2 c) (q2:¬min z.2 c>max z.1 0→hi2=lo2):∃m',fp m y z=some m'∧Is m' (hi - lo) (hi2 - lo2) (jE lo hi lo2 hi2 l):=by
 have hn:=h.hn;have hc:=h.hc;have hlen:=h.len;have hl:=VK lo hi lo2 hi2 l;have hp:∀x∈jE lo hi lo2 hi2 l,(0≤x.1∧x.1<hi - lo)∧0≤x.2.1∧x.2.1<hi2 - lo2:=fun x hx=>(cutE_mem.1 hx).2
 have fin:fw (hi - lo) (hi2 - lo2) (mo 3 (jE lo hi lo2 hi2 l))=some (ye (hi - lo) (hi2 - lo2) (jE lo hi lo2 hi2 l)):=by
  rw [nJ (by omega) (iR _) (by rw [eZ];omega) (by rw [eZ];exact fun x hx=>(hp x hx).1),eZ]
 have e1:(if min y.2 n>max y.1 0 then mf (IntKind.i64.wrap (min y.2 n - max y.1 0))else mf 0)=some (.inl (hi - lo)):=by
  by_cases g:min y.2 n>max y.1 0
  ·obtain⟨rfl,rfl⟩:=p1 g;rw [if_pos g,cV (by omega) (by omega)];rfl
  ·rw [if_neg g,q1 g,Int.sub_self];rfl
 have e2:(if min z.2 c>max z.1 0 then mg (IntKind.i64.wrap (min z.2 c - max z.1 0))else mg 0)=some (.inl (hi2 - lo2)):=by
  by_cases g:min z.2 c>max z.1 0
  ·obtain⟨rfl,rfl⟩:=p2 g;rw [if_pos g,cV (by omega) (by omega)];rfl
  ·rw [if_neg g,q2 g,Int.sub_self];rfl
 refine⟨_,?_,FY (by omega) (by omega) (by omega) (Pa h.r) hp fun x hx=>h.v (x.1+lo,x.2.1+lo2,x.2.2) (cutE_mem.1 hx).1⟩;rw [FS,kW h,zbS,oo h,zbS,VL h,zbS];simp only [Sum.elim_inl];rw [yw,yw,yu,yu,h.e1,h.e2,e1,zbS];simp only [Sum.elim_inl];rw [e2,zbS];simp only [Sum.elim_inl];by_cases g1:hi - lo=0
 ·rw [if_pos g1,zbS];simp only [Sum.elim_inl];rw [Dy (.inl (by omega))]at fin ⊢;rw [fin];rfl
 ·by_cases g2:hi2 - lo2=0
  ·rw [if_neg g1,if_pos g2,zbS];simp only [Sum.elim_inl];rw [Dy (.inr (by omega))]at fin ⊢;rw [fin];rfl
  ·obtain⟨rfl,rfl⟩:=p1 (by by_cases g:min y.2 n>max y.1 0;exact g;exact absurd (q1 g) (by omega));obtain⟨rfl,rfl⟩:=p2 (by by_cases g:min z.2 c>max z.1 0;exact g;exact absurd (q2 g) (by omega));rw [if_neg g1,if_neg g2,zbS];simp only [Sum.elim_inl]
   have hL:(l.filter (inW (max y.1 0) (min y.2 n) (max z.1 0) (min z.2 c))).map (vZ (max y.1 0) (max z.1 0))=jE (max y.1 0) (min y.2 n) (max z.1 0) (min z.2 c) l:=by
    unfold jE nL Sv;rw [List.filter_filter];refine congrArg _ (List.filter_congr fun x _=> ?_);unfold inW inC;rw [Bool.eq_iff_iff];simp only [decide_eq_true_eq,Bool.and_eq_true];omega
   rw [hL,fin];rfl
end
end
section
open Go Sm
section
variable {m m' : Mx} {n c : Int} {l : List E3}
end
end
section
open Go Sm
section
variable {m : Mx} {n k : Int} {l T : List E3} {c : Cx}
theorem Sx(h:cn T)(j:Nat):T.take (aC T (j+1))=T.take (aC T j)++dI T (j:Int):=by
 obtain⟨h1,h2⟩:=np h j;rw [qt,←h2,show aC T (j+1)=aC T j+(aC T (j+1) - aC T j)by omega,List.take_add,show aC T j+(aC T (j+1) - aC T j) - aC T j=aC T (j+1) - aC T j by omega]
theorem ph(h:IsC c n k T){f t j x:Nat}(ht:t≤T.length)(hr:(T.drop f).take (t - f)=dI T (j:Int))(hx:f+x<t):(T[f+x]'(by omega)).1=(j:Int):=by
 have:T[f+x]'(by omega)∈dI T (j:Int):=by
  rw [←hr];refine List.mem_iff_getElem?.2 ⟨x,?_⟩;rw [List.getElem?_take_of_lt (by omega),List.getElem?_drop,List.getElem?_eq_getElem (by omega)]
 exact(lu this).2
theorem qx(h:Is m n k l):∃q,fx m=some q∧IsC q n k (dC l):=by
 obtain⟨t,t1,t2⟩:=CB h;have hk:=h.hc;have hlen:=t2.len;have hT:=t2.r;have h0:∀x∈dC l,0≤x.1:=fun x hx=>(t2.p x hx).1.1;rw [Ix,t1];simp only [zbS];generalize hTT:dC l=T at*
 have q:aN (nl t) (0,t.2.1,t.1,[],[0],[],[])=some (.inl (n,k,gG T k.toNat,jV T k.toNat,T.map (·.2.1),T.map (·.2.2))):=by
  rw [t2.e1,t2.e2];have e:T=T.take (aC T k.toNat):=by rw [IM (fun x hx=>(t2.p x hx).1.2) (by omega),List.take_length]
  rw [show(T.map (·.2.1),T.map (·.2.2))=((T.take (aC T k.toNat)).map (·.2.1),(T.take (aC T k.toNat)).map (·.2.2))by rw [←e]];refine fT k.toNat (fun i=>((i:Int),n,k,gG T i,jV T i,(T.take (aC T i)).map (·.2.1),(T.take (aC T i)).map (·.2.2))) ?_ (fun i hi=> ?_) ?_
  ·rw [zh h0];rfl
  ·have w1:IntKind.i64.wrap ((i:Int)+1)=((i+1:Nat):Int):=bM hi (by omega);have hcl:=IL (T:=T) i;have hsl:=om (T:=T) i;have hcs:=uC T i;have hcle:=nm T (i+1);simp only [nl];rw [t2.e1,if_pos (by omega),FZ t2];simp only [zbS,w1];by_cases hr:dI T (i:Int)= []
   ·have hne:¬neC T i=true:=fun hh=>neC_iff.1 hh hr;rw [hr]at hcs;simp only [List.length_nil]at hcs;rw [hr,if_pos (by simp),mE,lw,if_neg hne,if_neg hne,hcs];simp
   ·have hne:neC T i=true:=neC_iff.2 hr;have hpos:=List.length_pos_iff.2 hr;rw [if_neg (by rw [List.length_map];omega),fj (by simp;unfold bX;omega)];simp only [zbS]
    have q2:aN (nj ((dI T (i:Int)).map pr2)) (0,n,k,gG T i++ [(i:Int)],jV T i,(T.take (aC T i)).map (·.2.1),(T.take (aC T i)).map (·.2.2))=some (.inl (n,k,gG T i++ [(i:Int)],jV T i,(T.take (aC T (i+1))).map (·.2.1),(T.take (aC T (i+1))).map (·.2.2))):=by
     rw [Sx hT];have e2:dI T (i:Int)=(dI T (i:Int)).take (dI T (i:Int)).length:=by rw [List.take_length]
     refine fT (dI T (i:Int)).length (fun x=>((x:Int),n,k,gG T i++ [(i:Int)],jV T i,(T.take (aC T i)++(dI T (i:Int)).take x).map (·.2.1),(T.take (aC T i)++(dI T (i:Int)).take x).map (·.2.2))) ?_ (fun x hx=> ?_) ?_
     ·simp
     ·have a1:atL ((dI T (i:Int)).map pr2) (x:Int)=some (pr2 (dI T (i:Int))[x]):=cZ (by rw [List.getElem?_map,List.getElem?_eq_getElem hx];rfl);simp only [nj,a1,zbS];rw [if_pos (by rw [List.length_map];omega),fj (by simp;unfold bX;omega),fj (by simp;unfold bX;omega),bM hx (by omega),List.take_succ_eq_append_getElem hx];simp only [List.map_append,List.map_cons,List.map_nil,List.append_assoc];rfl
     ·simp only [nj];rw [if_neg (by rw [List.length_map];omega),List.take_length]
    rw [q2];simp only [zbS,Sum.elim_inl];rw [fj (by simp;unfold bX;omega),show neL (gG T i++ [(i:Int)])=some ()by unfold neL;cases gG T i<;>rfl];simp only [zbS];rw [mE,lw,if_pos hne,if_pos hne,List.length_map,List.length_take,Nat.min_eq_left hcle]
  ·simp only [nl];rw [t2.e1,if_neg (by omega)]
 rw [q];refine⟨_,rfl,h.hn,hk,hlen,hT,fun x hx=>t2.p x hx,fun x hx=>t2.v x hx,rfl,rfl,eZ _ _,rfl,eZ _ _,eZ _ _,iR _,.inr rfl,iR _,iR _⟩
end
end
section
open Go Sm
section
variable {m a : Mx} {n k : Int} {l T : List E3} {c q : Cx}
end
end
end KM
end Ev
end
end Go.Proofs.Ytjjbpdldbdmoeaa
