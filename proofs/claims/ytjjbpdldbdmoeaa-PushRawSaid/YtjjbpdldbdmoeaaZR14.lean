/- Texts of a claim, joined. -/
import Derived.Test.YtjjbpdldbdmoeaaZR13
import Derived.Test.YtjjbpdldbdmoeaaZR10
import Derived.Test.YtjjbpdldbdmoeaaZR11
set_option linter.unusedVariables false
set_option linter.unusedSimpArgs false
namespace Go.Proofs.Ytjjbpdldbdmoeaa
noncomputable section
namespace Ev
namespace KM
section
open Go
def okS{α:Type}(w:Nat)(s:Sl α):Prop:=s.l= []∨s.sz=w
theorem SlW.ok{α:Type}{w:Nat}{Q:α→Prop}{s:Sl α}(h:SlW w Q s):okS w s:= .inr h.1
def gU{α:Type}:Sl α:=⟨false,0,[]⟩
theorem kR{α:Type}{w:Nat}:okS w (gU:Sl α):= .inl rfl
theorem oo{α:Type}{w:Nat}(l:List α):okS w (mo w l):=by cases l with|nil=>exact .inl rfl|cons x l=>exact .inr rfl
theorem eL{α:Type}{l:List α}{j:Nat}{x:α}(h:l[j]? =some x):atL l (j:Int)=some x:=by
 have hj:=(List.getElem?_eq_some_iff.1 h);rw [Yf hj.1,hj.2]
theorem jH{α:Type}{w:Nat}{s:Sl α}(hs:okS w s){j:Nat}{x:α}(h:s.l[j]? =some x):atS w s (j:Int)=some x:=by
 have hj:=(List.getElem?_eq_some_iff.1 h);rw [bI hs hj.1,hj.2]
theorem Tf{A R:Type}{b:A→Option (A ⊕ R)}(n:Nat)(st:Nat→A){r:R}(hs:∀j,j<n→b (st j)=some (.inl (st (j+1))))(he:b (st n)=some (.inr r)):aM b (st 0)=some r:=by
 obtain⟨q,h1,h2⟩:=cu (b:=b) n (fun j a=>a=st j) (fun q=>q=r) (fun j a hj ha=> .inl ⟨st (j+1),by rw [ha];exact hs j hj,rfl⟩) (fun a ha=>⟨r,by rw [ha];exact he,rfl⟩) 0 (Nat.zero_le _) (st 0) rfl;rw [h1,h2]
theorem oq{A R:Type}{b:A→Option (A ⊕ R)}(n:Nat)(st:Nat→A){a:A}(ha:a=st 0){r:R}(hs:∀j,j<n→b (st j)=some (.inl (st (j+1))))(he:b (st n)=some (.inr r)):aM b a=some r:=by rw [ha];exact Tf n st hs he
theorem all_range{n:Nat}{p:Nat→Bool}:(List.range n).all p=true↔∀i,i<n→p i=true:=by
 rw [List.all_eq_true];exact⟨fun h i hi=>h i (List.mem_range.2 hi),fun h i hi=>h i (List.mem_range.1 hi)⟩
theorem ot{n i:Nat}{p:Nat→Bool}(hi:i<n)(h:p i=false):(List.range n).all p=false:=by
 rw [Bool.eq_false_iff];intro ha;rw [all_range.1 ha i hi]at h;cases h
theorem cm{l:List Int}{j:Nat}(h:j<l.length):l.getD j 0=l[j]:=by rw [List.getD_eq_getElem?_getD,List.getElem?_eq_getElem h];rfl
def dn(n:Int):Bool:=decide (0≤n)&& decide (n≤4096)
theorem sizeF_iff{n:Int}:dn n=true↔0≤n∧n≤4096:=by unfold dn;simp
end
section
open Go
abbrev Mx:=Int×Int×Sl Int×Sl Int×Sl Int
abbrev E3:=Int×Int×Int
def gP:Int→Int→List Int→Bool
 |_,_,[]=>true
 |a,n,x::l=>decide (a<x)&& decide (x<n)&& gP x n l
theorem mC(a n x:Int)(l:List Int):gP a n (x::l)=(decide (a<x)&& decide (x<n)&& gP x n l):=rfl
theorem ascI_iff'{n:Int}:∀{l:List Int} {a:Int},gP a n l=true↔l.Pairwise (·<·)∧∀x∈l,a<x∧x<n
 | [],a=>by simp [gP]
 |x::l,a=>by
  rw [mC,Bool.and_eq_true,Bool.and_eq_true,decide_eq_true_eq,decide_eq_true_eq,ascI_iff',List.pairwise_cons];constructor
  ·rintro⟨⟨h1,h2⟩,h3,h4⟩;refine⟨⟨fun y hy=>(h4 y hy).1,h3⟩,fun y hy=> ?_⟩;rcases List.mem_cons.1 hy with rfl|hy
   ·exact⟨h1,h2⟩
   ·have:=h4 y hy;omega
  ·rintro⟨⟨h1,h2⟩,h3⟩;exact⟨h3 x (by simp),h2,fun y hy=>⟨h1 y hy,(h3 y (by simp [hy])).2⟩⟩
theorem ascI_iff{n:Int}{l:List Int}:gP (-1) n l=true↔∀j (h:j<l.length),0≤l[j]∧l[j]<n∧(j≠0→l[j - 1]'(by omega)<l[j]):=by
 rw [ascI_iff'];constructor
 ·rintro⟨h1,h2⟩ j hj
  have:=h2 _ (List.getElem_mem hj)
  refine⟨by omega,this.2,fun h0=> ?_⟩;exact List.pairwise_iff_getElem.1 h1 (j - 1) j (by omega) hj (by omega)
 ·intro h;constructor
  ·have key:∀d i (hi:i+d+1<l.length),l[i]'(by omega)<l[i+d+1]:=by
    intro d
    induction d with
    |zero=>intro i hi;have:=(h (i+1) hi).2.2 (by omega);simpa using this
    |succ d ih=>intro i hi;have h1:=ih i (by omega);have h2:=(h (i+d+1+1) hi).2.2 (by omega);simp only [Nat.add_sub_cancel]at h2;exact Int.lt_trans h1 h2
   rw [List.pairwise_iff_getElem];intro i j hi hj hij
   have:=key (j - i - 1) i (by omega)
   simpa [show i+(j - i - 1)+1=j by omega]using this
  ·intro x hx;obtain⟨j,hj,rfl⟩:=List.mem_iff_getElem.1 hx
   have:=h j hj
   omega
theorem JA(n:Int):kP n=some (dn n):=by
 rw [Gw];unfold dn;by_cases h1:n ≥ 0
 ·rw [if_pos h1,decide_eq_true (show 0≤n from h1)];simp
 ·rw [if_neg h1,decide_eq_false (show¬0≤n from h1)];rfl
theorem uY(s:Sl Int)(n:Int)(hok:okS 1 s)(hl:s.l.length≤9223372036854775807):jy s n=some (gP (-1) n s.l):=by
 rw [De]
 obtain⟨r,h1,h2⟩:=cu (b:=nS s n) s.l.length (fun j a=>∃la,a=(la,(j:Int))∧gP (-1) n s.l=gP la n (s.l.drop j)) (fun r=>(gP (-1) n s.l=true∧r= .inl ())∨(gP (-1) n s.l=false∧r= .inr (.inl false)))
  (by
   rintro j _ hj ⟨la,rfl,ha⟩;rw [List.drop_eq_getElem_cons hj,mC]at ha;simp only [nS,bI hok hj,zbS,cX hj hl];rw [if_pos (by omega)];by_cases c1:s.l[j]≤la
   ·refine .inr ⟨_,if_pos c1,.inr ⟨?_,rfl⟩⟩;rw [ha,decide_eq_false (by omega)];rfl
   ·rw [if_neg c1];by_cases c2:s.l[j]≥ n
    ·refine .inr ⟨_,if_pos c2,.inr ⟨?_,rfl⟩⟩;rw [ha,decide_eq_false (p:=s.l[j]<n) (by omega)];simp
    ·refine .inl ⟨_,if_neg c2,_,rfl,?_⟩
     rw [ha,decide_eq_true (by omega),decide_eq_true (by omega)];rfl)
  (by
   rintro _ ⟨la,rfl,ha⟩;refine⟨_,if_neg (by simp only;omega),.inl ⟨?_,rfl⟩⟩
   rw [ha,List.drop_length];rfl) 0 (Nat.zero_le _) (-1,0) ⟨-1,rfl,rfl⟩
 rw [h1];rcases h2 with⟨h3,rfl⟩|⟨h3,rfl⟩<;>rw [h3]<;>rfl
def cN{α:Type}(l:List α)(f t:Int):List α:=(l.drop f.toNat).take (t.toNat - f.toNat)
theorem ig{α:Type}{l:List α}{f t:Int}(h:0≤f∧f≤t∧t≤l.length):(cN l f t).length=t.toNat - f.toNat:=by
 unfold cN;simp;omega
theorem uZ{α:Type}{l:List α}{f t:Int}(h:0≤f∧f≤t∧t≤l.length){j:Nat}(hj:j<t.toNat - f.toNat):(cN l f t)[j]'(by rw [ig h];exact hj)=l[f.toNat+j]'(by omega):=by
 unfold cN;simp
def gQ(c:Int)(st co:List Int)(i:Nat):Bool:=decide (0≤st.getD i 0)&&(decide (st.getD i 0≤st.getD (i+1) 0)&&(decide (st.getD (i+1) 0≤co.length)&& gP (-1) c (cN co (st.getD i 0) (st.getD (i+1) 0))))
def cI(m:Mx):Bool:=dn m.1 &&(dn m.2.1 &&(decide ((m.2.2.1.l.length:Int)=m.1+1)&&(decide (m.2.2.1.l.getD 0 0=0)&&(decide (m.2.2.2.1.l.length=m.2.2.2.2.l.length)&&(decide (m.2.2.2.1.l.length≤65536)&&(decide (m.2.2.1.l.getD m.1.toNat 0=m.2.2.2.1.l.length)&&(List.range m.1.toNat).all (gQ m.2.1 m.2.2.1.l m.2.2.2.1.l)))))))
structure OkM(m:Mx):Prop where
 st:okS 1 m.2.2.1
 co:okS 1 m.2.2.2.1
 va:okS 1 m.2.2.2.2
 v64:∀x∈m.2.2.2.2.l,cH x
 sl:m.2.2.1.l.length≤9223372036854775807
 cl:m.2.2.2.1.l.length≤9223372036854775807
 vl:m.2.2.2.2.l.length≤9223372036854775807
theorem lI{n:Nat}{c:Int}{st co:List Int}{i:Nat}(hi:i<n)(h:gQ c st co i=false):(List.range n).all (gQ c st co)=false:=ot hi h
theorem Oh{n:Nat}{nn c:Int}{s t v:Sl Int}(hs:okS 1 s)(ht:okS 1 t)(hl:s.l.length=n+1)(tl:t.l.length≤65536){i:Nat}(hi:i<n)(hp:0≤s.l.getD i 0∧s.l.getD i 0≤s.l.getD (i+1) 0∧s.l.getD (i+1) 0≤(t.l.length:Int))(hn:n≤4096):
  ∃q,aM (fK (nn,c,s,t,v) (i:Int)) (s.l.getD i 0)=some q∧((gP (-1) c (cN t.l (s.l.getD i 0) (s.l.getD (i+1) 0))=true∧q= .inl ())∨(gP (-1) c (cN t.l (s.l.getD i 0) (s.l.getD (i+1) 0))=false∧q= .inr (.inl false))):=by
 have e1:=bI hs (j:=i) (by omega);have e2:=bI hs (j:=i+1) (by omega);rw [←cm]at e1 e2;generalize hf:s.l.getD i 0=f at*;generalize hg:s.l.getD (i+1) 0=g at*;have hlen:=ig (l:=t.l) hp;have hget:=fun j hj=>uZ (l:=t.l) hp (j:=j) hj
 have hF:∀j (hj:j<(cN t.l f g).length),¬(0≤(cN t.l f g)[j]∧(cN t.l f g)[j]<c∧(j≠0→(cN t.l f g)[j - 1]'(by omega)<(cN t.l f g)[j]))→gP (-1) c (cN t.l f g)=false:=fun j hj hh=>by
  rw [Bool.eq_false_iff];intro hc;exact hh (ascI_iff.1 hc j hj)
 have key:=cu (b:=fK (nn,c,s,t,v) (i:Int)) (g.toNat - f.toNat) (fun j a=>a=f+(j:Int)∧∀i (h:i<(cN t.l f g).length),i<j→0≤(cN t.l f g)[i]∧(cN t.l f g)[i]<c∧(i≠0→(cN t.l f g)[i - 1]'(by omega)<(cN t.l f g)[i])) (fun q=>(gP (-1) c (cN t.l f g)=true∧q= .inl ())∨(gP (-1) c (cN t.l f g)=false∧q= .inr (.inl false)))
  (by
   rintro j _ hj ⟨rfl,ha⟩;have hk:f.toNat+j<t.l.length:=by omega
   have ek:=bI ht hk;rw [show((f.toNat+j:Nat):Int)=f+(j:Int)by omega]at ek;have hcj:=hget j hj;have w1:IntKind.i64.wrap ((i:Int)+1)=((i+1:Nat):Int):=cX hi (by omega);simp only [fK,w1,e2,e1,zbS,ek];rw [if_pos (by omega)];rw [←hcj];by_cases c1:(cN t.l f g)[j]'(by omega)<0
   ·rw [if_pos c1];exact .inr ⟨_,rfl,.inr ⟨hF j (by omega) (fun h=>by omega),rfl⟩⟩
   rw [if_neg c1];by_cases c2:(cN t.l f g)[j]'(by omega)≥ c
   ·rw [if_pos c2];exact .inr ⟨_,rfl,.inr ⟨hF j (by omega) (fun h=>by omega),rfl⟩⟩
   rw [if_neg c2]
   have next:(j≠0→(cN t.l f g)[j - 1]'(by omega)<(cN t.l f g)[j]'(by omega))→∀i (h:i<(cN t.l f g).length),i<j+1→0≤(cN t.l f g)[i]∧(cN t.l f g)[i]<c∧(i≠0→(cN t.l f g)[i - 1]'(by omega)<(cN t.l f g)[i]):=fun hh i h hij=>by
    by_cases e:i=j
    ·subst e;exact⟨by omega,by omega,hh⟩
    ·exact ha i h (by omega)
   have wk:IntKind.i64.wrap (f+(j:Int)+1)=f+((j+1:Nat):Int):=by rw [fM (by omega) (by omega)];omega
   rw [wk];by_cases c3:f+(j:Int)>f
   ·rw [if_pos c3,fM (n:=f+(j:Int) - 1) (by omega) (by omega)];have ep:=bI ht (j:=f.toNat+(j - 1)) (by omega);rw [show((f.toNat+(j - 1):Nat):Int)=f+(j:Int) - 1 by omega,←hget (j - 1) (by omega)]at ep;rw [ep];simp only [zbS];by_cases c4:(cN t.l f g)[j]'(by omega)≤(cN t.l f g)[j - 1]'(by omega)
    ·rw [if_pos c4];exact .inr ⟨_,rfl,.inr ⟨hF j (by omega) (fun h=>by have:=h.2.2 (by omega);omega),rfl⟩⟩
    ·rw [if_neg c4];exact .inl ⟨_,rfl,rfl,next fun _=>by omega⟩
   ·rw [if_neg c3];exact .inl ⟨_,rfl,rfl,next fun h0=>absurd h0 (by omega)⟩)
  (by
   rintro _ ⟨rfl,ha⟩;have w1:IntKind.i64.wrap ((i:Int)+1)=((i+1:Nat):Int):=cX hi (by omega);simp only [fK,w1,e2,zbS];rw [if_neg (by omega)]
   exact⟨_,rfl,.inl ⟨ascI_iff.2 fun j hj=>ha j hj (by omega),rfl⟩⟩) 0 (Nat.zero_le _) f ⟨by omega,fun i h hi=>absurd hi (by omega)⟩
 exact key
theorem Tg{n:Nat}{c:Int}{s t v:Sl Int}(hs:okS 1 s)(ht:okS 1 t)(hn:n≤4096)(hl:s.l.length=n+1)(tl:t.l.length≤65536):∃q,aM (jY ((n:Int),c,s,t,v)) 0=some q∧(((List.range n).all (gQ c s.l t.l)=true∧q= .inl ())∨((List.range n).all (gQ c s.l t.l)=false∧q= .inr (.inl false))):=by
 refine cu (b:=jY ((n:Int),c,s,t,v)) n (fun j a=>a=(j:Int)∧∀i,i<j→gQ c s.l t.l i=true) _ ?_ ?_ 0 (Nat.zero_le _) 0 ⟨rfl,fun i hi=>absurd hi (by omega)⟩
 ·rintro j _ hj ⟨rfl,ha⟩;have e1:=bI hs (j:=j) (by omega);have e2:=bI hs (j:=j+1) (by omega);rw [←cm]at e1 e2;simp only [jY,e1,zbS,cX hj (by omega)];rw [if_pos (by omega),e2];simp only [zbS];by_cases c1:s.l.getD j 0>s.l.getD (j+1) 0
  ·rw [if_pos c1];exact .inr ⟨_,rfl,.inr ⟨lI hj (by unfold gQ;rw [decide_eq_false (p:=s.l.getD j 0≤s.l.getD (j+1) 0) (by omega)];simp),rfl⟩⟩
  rw [if_neg c1];by_cases c0:s.l.getD j 0<0
  ·rw [if_pos c0];exact .inr ⟨_,rfl,.inr ⟨lI hj (by unfold gQ;rw [decide_eq_false (p:=0≤s.l.getD j 0) (by omega)];simp),rfl⟩⟩
  rw [if_neg c0];by_cases c2:s.l.getD (j+1) 0>((t.l.length:Nat):Int)
  ·rw [if_pos c2];exact .inr ⟨_,rfl,.inr ⟨lI hj (by unfold gQ;rw [decide_eq_false (p:=s.l.getD (j+1) 0≤(t.l.length:Int)) (by omega)];simp),rfl⟩⟩
  rw [if_neg c2];obtain⟨q,q1,q2⟩:=Oh (nn:=(n:Int)) (c:=c) (v:=v) hs ht hl tl hj ⟨by omega,by omega,by omega⟩ hn;rw [q1]
  have hr:gQ c s.l t.l j=gP (-1) c (cN t.l (s.l.getD j 0) (s.l.getD (j+1) 0)):=by
   unfold gQ;rw [decide_eq_true (p:=0≤s.l.getD j 0) (by omega),decide_eq_true (p:=s.l.getD j 0≤s.l.getD (j+1) 0) (by omega),decide_eq_true (p:=s.l.getD (j+1) 0≤(t.l.length:Int)) (by omega)];simp
  rcases q2 with⟨e,rfl⟩|⟨e,rfl⟩
  ·refine .inl ⟨_,rfl,rfl,fun i hi=> ?_⟩;by_cases e':i=j
   ·rw [e',hr,e]
   ·exact ha i (by omega)
  ·exact .inr ⟨_,rfl,.inr ⟨lI hj (by rw [hr,e]),rfl⟩⟩
 ·rintro _ ⟨rfl,ha⟩;exact⟨_,if_neg (by omega),.inl ⟨all_range.2 ha,rfl⟩⟩
theorem Dg{m:Mx}(h:OkM m):eA m=some (cI m):=by
 obtain⟨n,c,s,t,v⟩:=m;obtain⟨h1,h2,h3,h4,h5,h6,h7⟩:=h;simp only at h1 h2 h3 h4 h5 h6 h7;rw [mO];unfold cI;simp only;by_cases a1:n<0
 ·rw [if_pos a1,show dn n=false by unfold dn;rw [decide_eq_false (by omega)];rfl];rfl
 by_cases a2:n>4096
 ·rw [if_neg a1,if_pos a2,show dn n=false by unfold dn;rw [decide_eq_false (p:=n≤4096) (by omega)];simp];rfl
 rw [if_neg a1,if_neg a2,sizeF_iff.2 ⟨by omega,by omega⟩];by_cases b1:c<0
 ·rw [if_pos b1,show dn c=false by unfold dn;rw [decide_eq_false (by omega)];rfl];rfl
 by_cases b2:c>4096
 ·rw [if_neg b1,if_pos b2,show dn c=false by unfold dn;rw [decide_eq_false (p:=c≤4096) (by omega)];simp];rfl
 rw [if_neg b1,if_neg b2,sizeF_iff.2 ⟨by omega,by omega⟩];simp only [Bool.true_and];rw [fM (n:=n+1) (by omega) (by omega)];by_cases g1:((s.l.length:Nat):Int)=n+1
 ·rw [if_neg (fun h=>h g1),decide_eq_true g1];simp only [Bool.true_and];by_cases g3:t.l.length=v.l.length
  ·rw [if_neg (fun h=>h (by omega)),decide_eq_true g3];simp only [Bool.true_and];by_cases g4:t.l.length≤65536
   ·rw [if_neg (by omega),decide_eq_true g4];have e0:=bI h1 (j:=0) (by omega);rw [←cm]at e0;have e0':atS 1 s 0=some (s.l.getD 0 0):=e0;rw [e0'];simp only [zbS,Bool.true_and];by_cases g2:s.l.getD 0 0=0
    ·rw [if_neg (fun h=>h g2),decide_eq_true g2];obtain⟨k,rfl⟩:=Int.eq_ofNat_of_zero_le (show 0≤n by omega);have en:=bI h1 (j:=k) (by omega);rw [←cm]at en;rw [en];simp only [zbS,Int.toNat_natCast,Bool.true_and];by_cases g5:s.l.getD k 0=((t.l.length:Nat):Int)
     ·rw [if_neg (fun h=>h g5),decide_eq_true g5];simp only [Bool.true_and];obtain⟨q,q1,q2⟩:=Tg (c:=c) (v:=v) h1 h2 (by omega) (n:=k) (by omega) g4;rw [q1];rcases q2 with⟨e,rfl⟩|⟨e,rfl⟩<;>rw [e]<;>rfl
     ·rw [if_pos g5,decide_eq_false g5];rfl
    ·rw [if_pos g2,decide_eq_false g2];rfl
   ·rw [if_pos (by omega),decide_eq_false g4];simp
  ·rw [if_pos (fun h=>g3 (by omega)),decide_eq_false g3];simp
 ·rw [if_pos g1,decide_eq_false g1];rfl
end
section
open Go Sm
def bel(a b:E3):Bool:=klt (key a) (key b)
theorem bel_iff{a b:E3}:bel a b=true↔a.1<b.1∨a.1=b.1∧a.2.1<b.2.1:=by unfold bel klt key;simp
abbrev dM(l:List E3):Prop:=l.Pairwise fun a b=>bel a b=true
def gX(n:Nat)(f:Nat→Int):List Int:=(List.range (n+1)).map f
theorem gA(n:Nat)(f:Nat→Int):(gX n f).length=n+1:=by unfold gX;simp
theorem fY{n k:Nat}(f:Nat→Int)(h:k≤n):(gX n f)[k]? =some (f k):=by
 unfold gX;rw [List.getElem?_map,List.getElem?_range (by omega)];rfl
theorem gB{n k:Nat}(f:Nat→Int)(h:k≤n):(gX n f).getD k 0=f k:=by rw [List.getD_eq_getElem?_getD,fY f h];rfl
theorem mP{n:Nat}{f g:Nat→Int}(h:∀k,k≤n→f k=g k):gX n f=gX n g:=by
 unfold gX;refine List.map_congr_left fun k hk=>h k ?_;simp at hk;omega
theorem JB{n k:Nat}(f:Nat→Int)(v:Int)(h:k≤n):(gX n f).set k v=gX n fun i=>if i=k then v else f i:=by
 refine List.ext_getElem? fun i=> ?_;rw [List.getElem?_set];by_cases hi:i≤n
 ·rw [fY _ hi];by_cases e:k=i
  ·subst e;rw [if_pos rfl,if_pos (by rw [gA];omega),fY _ hi,if_pos rfl]
  ·rw [if_neg e,fY _ hi,if_neg (Ne.symm e)]
 ·rw [if_neg (by omega)];rw [List.getElem?_eq_none (by rw [gA];omega),List.getElem?_eq_none (by rw [gA];omega)]
theorem Ea(n:Nat):List.replicate (n+1) (0:Int)=gX n fun _=>0:=by
 refine List.ext_getElem? fun i=> ?_;by_cases hi:i≤n
 ·rw [fY _ hi,List.getElem?_replicate,if_pos (by omega)]
 ·rw [List.getElem?_eq_none (by simp;omega),List.getElem?_eq_none (by rw [gA];omega)]
def aQ(l:List E3)(k:Nat):Nat:=l.countP fun x=>decide (x.1<(k:Int))
theorem pn(l:List E3)(k:Nat):aQ l k≤l.length:=List.countP_le_length
theorem JC(l:List E3)(x:E3)(k:Nat):aQ (l++ [x]) k=aQ l k+if x.1<(k:Int)then 1 else 0:=by
 unfold aQ;rw [List.countP_append];congr 1;by_cases h:x.1<(k:Int)<;>simp [h]
theorem Ti{n:Nat}(hn:n≤4096){row:Nat}(hr:row<n){f:Nat→Int}(hf:∀k,0≤f k∧f k≤100000):aM (ie (n:Int)) ((((row+1:Nat):Int)),gX n f)=some (.inl (gX n fun i=>f i+if row<i then 1 else 0)):=by
 obtain⟨q,q1,q2⟩:=cu (b:=ie (n:Int)) (n - row) (fun j st=>st=(((row+1+j:Nat):Int),gX n fun i=>f i+if row<i∧i≤row+j then 1 else 0)) (fun q=>q= .inl (gX n fun i=>f i+if row<i then 1 else 0))
  (by
   rintro j _ hj rfl
   have hat:atL (gX n fun i=>f i+if row<i∧i≤row+j then 1 else 0) ((row+1+j:Nat):Int)=some (f (row+1+j)):=by
    unfold atL;rw [if_pos (by omega),Int.toNat_natCast,fY _ (by omega),if_neg (by omega),Int.add_zero]
   have hfk:=hf (row+1+j);simp only [ie,hat,zbS,Int.toNat_natCast];rw [if_pos (by omega),fM (n:=f (row+1+j)+1) (by omega) (by omega),JB _ _ (by omega),fM (n:=((row+1+j:Nat):Int)+1) (by omega) (by omega)];refine .inl ⟨_,rfl,?_⟩;rw [Prod.mk.injEq];refine⟨by omega,mP fun i hi=> ?_⟩;by_cases e:i=row+1+j
   ·rw [if_pos e,e,if_pos (by omega)]
   ·rw [if_neg e];by_cases h1:row<i∧i≤row+j
    ·rw [if_pos h1,if_pos (by omega)]
    ·rw [if_neg h1,if_neg (by omega)])
  (by
   rintro _ rfl;refine⟨_,?_,rfl⟩;simp only [ie];rw [if_neg (by omega)];congr 3;refine mP fun i hi=> ?_;by_cases h1:row<i
   ·rw [if_pos h1,if_pos (by omega)]
   ·rw [if_neg h1,if_neg (by omega)]) 0 (Nat.zero_le _) (((row+1:Nat):Int),gX n f) (by
    rw [Prod.mk.injEq];refine⟨by omega,mP fun i hi=> ?_⟩
    rw [if_neg (by omega),Int.add_zero])
 rw [q1,q2]
def nV(n c:Int)(l:List E3):Mx:=(n,c,⟨true,1,gX n.toNat fun k=>((aQ l k:Nat):Int)⟩,mo 1 (l.map (·.2.1)),mo 1 (l.map (·.2.2)))
theorem Dh{n c:Int}(hn:0≤n∧n≤4096){s:Sl E3}(hs:okS 3 s)(hl:s.l.length≤65536)(hr:∀x∈s.l,0≤x.1∧x.1<n):jF n c s=some (nV n c s.l):=by
 obtain⟨k,rfl⟩:=Int.eq_ofNat_of_zero_le hn.1;rw [Aw];unfold nV;rw [fM (by omega) (by omega),Nk];have hlo:iX ((k:Int)+1)=some ():=by unfold iX cS;rw [if_pos ⟨by omega,by omega⟩]
 rw [hlo];have tk:((k:Int)+1).toNat=k+1:=by omega
 simp only [zbS,tk,Int.toNat_natCast];rw [Ea]
 obtain⟨q,q1,q2⟩:=cu (b:=jX (k:Int) s) s.l.length (fun j st=>st=((j:Int),(k:Int),c,gX k (fun i=>((aQ (s.l.take j) i:Nat):Int)),(s.l.take j).map (·.2.1),(s.l.take j).map (·.2.2))) (fun q=>q= .inl ((k:Int),c,gX k (fun i=>((aQ s.l i:Nat):Int)),s.l.map (·.2.1),s.l.map (·.2.2)))
  (by
   rintro j _ hj rfl;have ej:=bI hs hj;have hx:=hr _ (List.getElem_mem hj);obtain⟨row,hrow⟩:=Int.eq_ofNat_of_zero_le hx.1;have hlen:(s.l.take j).length≤65536:=by simp;omega
   have ap1:app ((s.l.take j).map (·.2.1)) [s.l[j].2.1]=some ((s.l.take j).map (·.2.1)++ [s.l[j].2.1]):=mm (by simp at hlen ⊢;unfold cS;omega);have ap2:app ((s.l.take j).map (·.2.2)) [s.l[j].2.2]=some ((s.l.take j).map (·.2.2)++ [s.l[j].2.2]):=mm (by simp at hlen ⊢;unfold cS;omega);have hw:IntKind.i64.wrap (s.l[j].1+1)=((row+1:Nat):Int):=by rw [fM (by omega) (by omega)];omega
   have hin:=Ti (n:=k) (by omega) (row:=row) (by omega) (f:=fun i=>((aQ (s.l.take j) i:Nat):Int)) (fun i=>by have:=pn (s.l.take j) i;omega);simp only [jX,ej,zbS,ap1,ap2,hw,hin,Sum.elim_inl,cX hj (by omega)];rw [if_pos (by omega)];refine .inl ⟨_,rfl,?_⟩;rw [List.take_succ_eq_append_getElem hj,List.map_append,List.map_append];simp only [List.map_cons,List.map_nil,Prod.mk.injEq,and_true,true_and];refine mP fun i hi=> ?_;rw [JC,hrow];by_cases h:row<i
   ·rw [if_pos h,if_pos (by omega)];omega
   ·rw [if_neg h,if_neg (by omega)];omega)
  (by
   rintro _ rfl;refine⟨.inl ((k:Int),c,gX k (fun i=>((aQ s.l i:Nat):Int)),s.l.map (·.2.1),s.l.map (·.2.2)),?_,rfl⟩;simp only [jX]
   rw [if_neg (by omega),List.take_length]) 0 (Nat.zero_le _) (0,(k:Int),c,gX k (fun _=>0),[],[]) rfl
 rw [q1,q2];rfl
theorem qG{l:List E3}(h:l.Pairwise fun a b=>a.1≤b.1)(k:Int):(l.filter fun x=>decide (x.1<k))++(l.filter fun x=> !decide (x.1<k))=l:=by
 induction l with
 |nil=>rfl
 |cons x l ih=>
  rw [List.pairwise_cons]at h;have ih:=ih h.2;by_cases c:x.1<k
  ·rw [List.filter_cons_of_pos (by simp [c]),List.filter_cons_of_neg (by simp [c]),List.cons_append,ih]
  ·have e1:(l.filter fun x=>decide (x.1<k))= []:=by
    rw [List.filter_eq_nil_iff];intro y hy
    have:=h.1 y hy
    simp;omega
   rw [e1,List.nil_append]at ih;rw [List.filter_cons_of_neg (by simp [c]),List.filter_cons_of_pos (by simp [c]),e1,List.nil_append,ih]
theorem vc{l:List E3}(h:l.Pairwise fun a b=>a.1≤b.1)(k:Nat):l.take (aQ l k)=(l.filter fun x=>decide (x.1<(k:Int)))∧l.drop (aQ l k)=l.filter fun x=> !decide (x.1<(k:Int)):=by
 have e:=qG h (k:Int);have hl:aQ l k=(l.filter fun x=>decide (x.1<(k:Int))).length:=by unfold aQ;rw [List.countP_eq_length_filter]
 have key:∀A B:List E3,A++B=l→l.take A.length=A∧l.drop A.length=B:=by
  rintro A B rfl;exact⟨List.take_left,List.drop_left⟩
 rw [hl];exact key _ _ e
def qn(l:List E3)(i:Nat):List E3:=(l.filter fun x=> !decide (x.1<(i:Int))).filter fun x=>decide (x.1<((i+1:Nat):Int))
theorem rowE_mem{l:List E3}{i:Nat}{x:E3}:x∈qn l i↔x∈l∧x.1=(i:Int):=by
 unfold qn;simp only [List.mem_filter,Bool.not_eq_true',decide_eq_false_iff_not,decide_eq_true_eq];constructor
 ·rintro⟨⟨h1,h2⟩,h3⟩;exact⟨h1,by omega⟩
 ·rintro⟨h1,h2⟩;exact⟨⟨h1,by omega⟩,by omega⟩
theorem AC{l:List E3}(h:dM l):l.Pairwise fun a b=>a.1≤b.1:=h.imp fun hb=>by rw [bel_iff]at hb;omega
theorem nv{l:List E3}(h:dM l)(i:Nat):aQ l i≤aQ l (i+1)∧(l.drop (aQ l i)).take (aQ l (i+1) - aQ l i)=qn l i:=by
 have hle:=AC h;have e1:=(vc hle i).2
 have hmono:aQ l i≤aQ l (i+1):=by
  unfold aQ;refine List.countP_mono_left fun x _ hx=> ?_;simp only [decide_eq_true_eq]at hx ⊢;omega
 refine⟨hmono,?_⟩;rw [e1];have hg:(l.filter fun x=> !decide (x.1<(i:Int))).Pairwise fun a b=>a.1≤b.1:=hle.sublist List.filter_sublist;have e2:=(vc hg (i+1)).1
 have hc:aQ (l.filter fun x=> !decide (x.1<(i:Int))) (i+1)=aQ l (i+1) - aQ l i:=by
  have h1:aQ l (i+1)=aQ (l.filter fun x=>decide (x.1<(i:Int))) (i+1)+aQ (l.filter fun x=> !decide (x.1<(i:Int))) (i+1):=by
   conv=>lhs;rw [←qG hle (i:Int)]
   unfold aQ;rw [List.countP_append]
  have h2:aQ (l.filter fun x=>decide (x.1<(i:Int))) (i+1)=aQ l i:=by
   unfold aQ;rw [List.countP_filter];refine List.countP_congr fun x _=> ?_;simp only [Bool.and_eq_true,decide_eq_true_eq];omega
  omega
 rw [←hc,e2];rfl
theorem tG{l:List E3}(h:dM l)(i:Nat):((qn l i).map (·.2.1)).Pairwise (·<·):=by
 rw [List.pairwise_map];have hs:dM (qn l i):=h.sublist (List.filter_sublist.trans List.filter_sublist);refine hs.imp_of_mem fun{a b} ha hb hab=> ?_;have h1:=(rowE_mem.1 ha).2;have h2:=(rowE_mem.1 hb).2;rw [bel_iff]at hab;omega
theorem ou{α β:Type}(f:α→β)(l:List α)(a b:Int):cN (l.map f) a b=(cN l a b).map f:=by unfold cN;rw [←List.map_drop,←List.map_take]
def dS(m:Mx)(i:Nat):List (Int×Int):=(cN m.2.2.2.1.l (m.2.2.1.l.getD i 0) (m.2.2.1.l.getD (i+1) 0)).zip (cN m.2.2.2.2.l (m.2.2.1.l.getD i 0) (m.2.2.1.l.getD (i+1) 0))
theorem fZ{m:Mx}(h:cI m=true):(0≤m.1∧m.1≤4096)∧(0≤m.2.1∧m.2.1≤4096)∧(m.2.2.1.l.length:Int)=m.1+1∧m.2.2.2.1.l.length=m.2.2.2.2.l.length∧m.2.2.2.1.l.length≤65536∧∀i:Nat,(i:Int)<m.1→0≤m.2.2.1.l.getD i 0∧m.2.2.1.l.getD i 0≤m.2.2.1.l.getD (i+1) 0∧m.2.2.1.l.getD (i+1) 0≤m.2.2.2.1.l.length∧gP (-1) m.2.1 (cN m.2.2.2.1.l (m.2.2.1.l.getD i 0) (m.2.2.1.l.getD (i+1) 0))=true:=by
 unfold cI at h;simp only [Bool.and_eq_true,decide_eq_true_eq,sizeF_iff]at h;obtain⟨h1,h2,h3,h4,h5,h6,h7,h8⟩:=h;refine⟨h1,h2,h3,h5,h6,fun i hi=> ?_⟩
 have:=all_range.1 h8 i (by omega)
 unfold gQ at this;simpa only [Bool.and_eq_true,decide_eq_true_eq]using this
theorem AD{n c:Int}(hn:0≤n∧n≤4096)(hc:0≤c∧c≤4096){l:List E3}(hl:l.length≤65536)(h:dM l)(hp:∀x∈l,(0≤x.1∧x.1<n)∧0≤x.2.1∧x.2.1<c):cI (nV n c l)=true:=by
 have h0:aQ l 0=0:=by
  unfold aQ;rw [List.countP_eq_zero];intro x hx
  have:=(hp x hx).1.1
  simp;omega
 have hN:aQ l n.toNat=l.length:=by
  unfold aQ;rw [List.countP_eq_length];intro x hx
  have:=(hp x hx).1.2
  simp;omega
 unfold cI nV;simp only [kI,Bool.and_eq_true,decide_eq_true_eq,sizeF_iff,List.length_map,gA];refine⟨hn,hc,by omega,?_,trivial,hl,?_,?_⟩
 ·rw [gB _ (Nat.zero_le _),h0];rfl
 ·rw [gB _ (Nat.le_refl _),hN]
 ·refine all_range.2 fun i hi=> ?_;unfold gQ;rw [gB _ (by omega),gB _ (by omega)];obtain⟨r1,r2⟩:=nv h i;have hle:=pn l (i+1);simp only [Bool.and_eq_true,decide_eq_true_eq,List.length_map];refine⟨by omega,by omega,by omega,?_⟩
  have e:cN (l.map (·.2.1)) ((aQ l i:Nat):Int) ((aQ l (i+1):Nat):Int)=(qn l i).map (·.2.1):=by
   rw [ou];unfold cN;rw [Int.toNat_natCast,Int.toNat_natCast,r2]
  rw [e]
  exact ascI_iff'.2 ⟨tG h i,fun p hp'=>by
   obtain⟨x,hx,rfl⟩:=List.mem_map.1 hp'
   have:=(hp x (rowE_mem.1 hx).1).2
   omega⟩
end
section
open Go Sm
abbrev RG(r:Int):Rg:=⟨ofW,fj r,fQ⟩
theorem Md(n:Int):aO n=some (ofW n):=by
 rw [ns];unfold ofW;by_cases h:n<0
 ·simp only [if_pos h]
 ·simp only [if_neg h]
theorem oy(a b:Int×Int):∃c:Int,bB a b=some c∧(c<0↔kJ a b=true):=by
 obtain⟨a1,a2⟩:=a;obtain⟨b1,b2⟩:=b;rw [wJ];unfold kJ;simp only;by_cases h2:a1<b1
 ·rw [if_pos h2];exact⟨-1,rfl,by simp [h2]⟩
 rw [if_neg h2];by_cases h3:a1=b1
 ·rw [if_pos h3];by_cases h4:a2<b2
  ·rw [if_pos h4];exact⟨-1,rfl,by simp [h3,h4]⟩
  ·rw [if_neg h4];by_cases h5:a1=b1∧a2=b2
   ·rw [if_pos h5];exact⟨0,rfl,by simp [h3];omega⟩
   ·rw [if_neg h5];exact⟨1,rfl,by simp [h3];omega⟩
 ·rw [if_neg h3];by_cases h5:a1=b1∧a2=b2
  ·exact absurd h5.1 h3
  ·rw [if_neg h5];exact⟨1,rfl,by simp [h3];omega⟩
theorem JD(a b:Int×Int):bG a b=some (sb a b):=by
 obtain⟨a1,a2⟩:=a;obtain⟨b1,b2⟩:=b;rw [pm];unfold sb pk;simp only;split<;>rfl
theorem Di(b:Bool):aS b=some (jx b):=by rw [mN];unfold jx;cases b<;>rfl
theorem yb(r:Int)(a b:Int×Int):fE r a b=some (fj r a b):=by
 rw [my];unfold fj
 have hl:((bB b a).bind fun(out:Int)=>if out<0 then some b else some a)=some (kM a b):=by
  obtain⟨c,h1,h2⟩:=oy b a;rw [h1,zbS];unfold kM;by_cases hc:c<0
  ·rw [if_pos hc,if_pos (h2.1 hc)]
  ·rw [if_neg hc,if_neg (fun h=>hc (h2.2 h))]
 simp only [hl,Di,JD,zbS];by_cases h1:r=1
 ·simp [h1]
 by_cases h3:r=3
 ·simp [h3]
 by_cases h4:r=4
 ·simp [h4]
 simp only [if_neg h1,if_neg h3,if_neg (show¬(r=1∨r=3∨r=4)by omega),decide_eq_false h4,zbS,Sum.elim_inl,Bool.false_eq_true,if_false];by_cases h2:r=2
 ·simp only [if_pos h2];by_cases ha:a.1=0∧a.2=0
  ·by_cases hb:b.1=0∧b.2=0
   ·simp [ha,hb]
   ·simp [ha,hb]
  ·simp [ha]
 ·simp only [if_neg h2];split<;>rfl
theorem AE{a:Int×Int}(h:eY a.2):gJ a=some (fQ a):=by
 obtain⟨a1,a2⟩:=a;rw [yV];unfold fQ ofW;simp only [SG h,Prod.mk.injEq,and_true];by_cases hn:IntKind.i64.wrap a2<0
 ·have hg:¬IntKind.i64.wrap a2 ≥ 0:=by omega
  simp only [if_pos hn,if_neg hg];by_cases h1:a1=0
  ·have:¬a1= -1:=by omega
   simp only [if_pos h1,if_neg this]
  ·simp only [if_neg h1];split<;>rfl
 ·have hg:IntKind.i64.wrap a2 ≥ 0:=by omega
  simp only [if_neg hn,if_pos hg];by_cases h1:a1=0
  ·simp only [if_pos h1]
  ·simp only [if_neg h1];split<;>rfl
theorem AF(r:Int):fV r=some (lY r):=by
 rw [qB];unfold lY;by_cases h1:r ≥ 1
 ·rw [if_pos h1,decide_eq_true (show 1≤r from h1)];simp
 ·rw [if_neg h1,decide_eq_false (show¬1≤r from h1)];rfl
end
section
open Go Sm
theorem nW(a b:E3):ia a b=some (bel a b):=by
 rw [Av]
 have hb:bel a b=(decide (a.1<b.1)||(decide (a.1=b.1)&& decide (a.2.1<b.2.1))):=by
  unfold bel klt key;rw [Bool.decide_or,Bool.decide_and]
 rw [hb];by_cases h1:a.1<b.1
 ·rw [if_pos h1,decide_eq_true h1];rfl
 ·rw [if_neg h1,decide_eq_false h1];by_cases h2:a.1=b.1
  ·rw [if_pos h2,decide_eq_true h2];rfl
  ·rw [if_neg h2,decide_eq_false h2];rfl
def dh{α:Type}(l:List α)(k:Nat)(y:α):List α:=l.take k++y::l.drop k
theorem JE{α:Type}{l:List α}{k:Nat}(y:α):(dh l k y).length=l.length+1:=by unfold dh;simp;omega
theorem po{α:Type}{l:List α}{k:Nat}(hk:k≤l.length)(y:α):(dh l k y)[k]? =some y:=by
 unfold dh;rw [List.getElem?_append_right (by rw [List.length_take];omega),List.length_take,Nat.min_eq_left hk,Nat.sub_self];rfl
theorem mQ{α:Type}{l:List α}{k:Nat}(hk:k≤l.length)(y x:α):(dh l k y).set k x=dh l k x:=by
 unfold dh;rw [List.set_append_right _ _ (by rw [List.length_take];omega),List.length_take,Nat.min_eq_left hk,Nat.sub_self];rfl
theorem oz{α:Type}(l:List α)(y:α):dh l l.length y=l++ [y]:=by unfold dh;simp
theorem oA{α:Type}{l:List α}{k:Nat}(hk:k+1≤l.length)(y:α):(dh l (k+1) y)[k]? =some l[k]∧dh l (k+1) l[k]=dh l k l[k]:=by
 unfold dh;constructor
 ·rw [List.getElem?_append_left (by simp;omega),List.getElem?_take,if_pos (by omega),List.getElem?_eq_getElem]
 ·rw [List.take_succ_eq_append_getElem (by omega),List.append_assoc,List.drop_eq_getElem_cons (i:=k) (by omega)];rfl
theorem JF{α:Type}{l:List α}{k:Nat}{y x:α}(h:x∈dh l k y):x=y∨x∈l:=by
 unfold dh at h;rcases List.mem_append.1 h with h|h
 ·exact .inr (List.mem_of_mem_take h)
 ·rcases List.mem_cons.1 h with h|h
  ·exact .inl h
  ·exact .inr (List.mem_of_mem_drop h)
theorem Eb{b:Int×List E3×List (Int×Int)→Option ((Int×List E3×List (Int×Int))⊕((List E3×List (Int×Int))⊕ Empty))}{a:Nat}(hb:b=gw (a:Int)∨b=gz (a:Int)){l:List E3}{s:List (Int×Int)}(hl:s.length=l.length)(hn:l.length≤100000)(ha:a≤l.length)(y:E3)(z:Int×Int):
  ∃y' z',aM b ((l.length:Int),l++ [y],s++ [z])=some (.inl (dh l a y',dh s a z')):=by
 have step:∀(k:Nat) y z,a<k+1→k+1≤l.length→∃y' z',b (((k+1:Nat):Int),dh l (k+1) y,dh s (k+1) z)=some (.inl ((k:Int),dh l k y',dh s k z')):=fun k y z h1 hk=>by
  have hks:k+1≤s.length:=by omega
  have e1:=eL (oA hk y).1;have e2:=eL (po hk y);have e3:=eL (oA hks z).1;have e4:=eL (po hks z);have hw:IntKind.i64.wrap (((k+1:Nat):Int) - 1)=(k:Int):=by rw [fM (by omega) (by omega)];omega
  have t1:((k+1:Nat):Int).toNat=k+1:=Int.toNat_natCast _;refine⟨l[k],s[k],?_⟩;rw [←(oA hk y).2,←(oA hks z).2,←mQ hk y l[k],←mQ hks z s[k]];rcases hb with rfl|rfl
  ·simp only [gw,hw,e1,e2,e3,e4,zbS,t1];rw [if_pos (by omega)]
  ·simp only [gz,hw,e1,e2,e3,e4,zbS,t1];rw [if_pos (by omega)]
 have stop:∀y z,b ((a:Int),dh l a y,dh s a z)=some (.inr (.inl (dh l a y,dh s a z))):=fun y z=>by
  rcases hb with rfl|rfl
  ·simp only [gw];rw [if_neg (by omega)]
  ·simp only [gz];rw [if_neg (by omega)]
 obtain⟨q,q1,y',z',q2⟩:=cu (b:=b) (l.length - a) (fun j st=>∃y z,st=(((l.length - j:Nat):Int),dh l (l.length - j) y,dh s (l.length - j) z)) (fun q=>∃y z,q= .inl (dh l a y,dh s a z))
  (by
   rintro j _ hj ⟨y,z,rfl⟩;obtain⟨k,hk⟩:∃k,l.length - j=k+1:=⟨l.length - j - 1,by omega⟩;rw [hk];obtain⟨y',z',e⟩:=step k y z (by omega) (by omega)
   exact .inl ⟨_,e,y',z',by rw [show l.length - (j+1)=k by omega]⟩)
  (by
   rintro _ ⟨y,z,rfl⟩;rw [show l.length - (l.length - a)=a by omega]
   exact⟨_,stop y z,y,z,rfl⟩) 0 (Nat.zero_le _) ((l.length:Int),l++ [y],s++ [z]) ⟨y,z,by rw [Nat.sub_zero,oz,←hl,oz,hl]⟩
 exact⟨y',z',by rw [q1,q2]⟩
def kz(p:Ky×V):E3:=(p.1.1,p.1.2,0)
def pos(S:List (Ky×V))(e:E3):Nat:=(S.takeWhile fun p=>klt p.1 (key e)).length
theorem Tj(S:List (Ky×V))(e:E3):pos S e≤S.length:=(List.takeWhile_sublist _).length_le
theorem AG{p:Ky×V}{S:List (Ky×V)}{e:E3}(hp:klt p.1 (key e)=true):pos (p::S) e=pos S e+1:=by unfold pos;simp [List.takeWhile_cons,hp]
theorem AH{p:Ky×V}{S:List (Ky×V)}{e:E3}(hp:¬klt p.1 (key e)=true):pos (p::S) e=0:=by unfold pos;simp [List.takeWhile_cons,hp]
theorem Tk:∀{S:List (Ky×V)} {e:E3} {j:Nat} (hj:j<S.length),j<pos S e→klt S[j].1 (key e)=true
 | [],e,j,hj,h=>by simp at hj
 |p::S,e,j,hj,h=>by
  by_cases hp:klt p.1 (key e)=true
  ·rw [AG hp]at h
   cases j with
   |zero=>exact hp
   |succ j=>exact Tk (S:=S) (e:=e) (j:=j) (by simpa using hj) (by omega)
  ·rw [AH hp]at h;omega
theorem Oi:∀{S:List (Ky×V)} {e:E3} {j:Nat} (hj:j<S.length),j=pos S e→klt S[j].1 (key e)=false
 | [],e,j,hj,h=>by simp at hj
 |p::S,e,j,hj,h=>by
  by_cases hp:klt p.1 (key e)=true
  ·rw [AG hp]at h;subst h;exact Oi (S:=S) (e:=e) (j:=pos S e) (by simpa using hj) rfl
  ·rw [AH hp]at h;subst h;simpa using hp
theorem Tl{S:List (Ky×V)}{e:E3}(h:pos S e<S.length):klt (S[pos S e]'h).1 (key e)=false:=Oi h rfl
theorem Gx(R:Rg)(e:E3):∀(S:List (Ky×V)),ins R S e=if h:pos S e<S.length then(if klt (key e) (S[pos S e]'h).1=true then dh S (pos S e) (key e,R.o e.2.2)else S.set (pos S e) ((S[pos S e]'h).1,R.ad (S[pos S e]'h).2 (R.o e.2.2)))else S++ [(key e,R.o e.2.2)]
 | []=>by simp [ins,pos]
 |p::S=>by
  have ih:=Gx R e S;unfold ins;by_cases hp:klt p.1 (key e)=true
  ·have hpos:pos (p::S) e=pos S e+1:=by unfold pos;simp [List.takeWhile_cons,hp]
   rw [if_pos hp,ih];simp only [hpos,List.length_cons,Nat.add_lt_add_iff_right,List.getElem_cons_succ];split
   ·split
    ·unfold dh;simp
    ·simp
   ·simp
  ·have hpos:pos (p::S) e=0:=by unfold pos;simp [List.takeWhile_cons,hp]
   rw [if_neg hp];simp only [hpos,List.length_cons,Nat.zero_lt_succ,dif_pos,List.getElem_cons_zero];split
   ·unfold dh;simp
   ·simp
theorem JG{α β:Type}(f:α→β)(l:List α)(k:Nat)(y:α):(dh l k y).map f=dh (l.map f) k (f y):=by unfold dh;simp
theorem Gy(R:Rg)(l:List E3):(canS R l).length≤l.length:=by
 have key:∀(S:List (Ky×V)) e,(ins R S e).length≤S.length+1:=by
  intro S e;rw [Gx];split
  ·split
   ·rw [JE];omega
   ·simp
  ·simp
 have:∀(l:List E3) (S:List (Ky×V)),(l.foldl (ins R) S).length≤S.length+l.length:=by
  intro l
  induction l with
  |nil=>intro S;simp
  |cons e l ih=>intro S;have h1:=ih (ins R S e);have h2:=key S e;simp only [List.foldl_cons,List.length_cons];omega
 simpa [canS]using this l []
theorem aaz{r:Int}{S:List (Ky×V)}{e:E3}(h:∀p∈S,eY p.2.2):∀p∈ins (RG r) S e,eY p.2.2:=by
 intro p hp;rw [Gx]at hp;split at hp
 ·rename_i hl;split at hp
  ·rcases JF hp with rfl|hp
   ·exact FK _
   ·exact h p hp
  ·rcases List.mem_or_eq_of_mem_set hp with hp|rfl
   ·exact h p hp
   ·exact zT (h _ (List.getElem_mem hl)) (FK _)
 ·rcases List.mem_append.1 hp with hp|hp
  ·exact h p hp
  ·simp at hp;subst hp;exact FK _
theorem aaA(r:Int)(l:List E3):∀p∈canS (RG r) l,eY p.2.2:=by
 have:∀(l:List E3) (S:List (Ky×V)),(∀p∈S,eY p.2.2)→∀p∈l.foldl (ins (RG r)) S,eY p.2.2:=by
  intro l
  induction l with
  |nil=>intro S h;exact h
  |cons e l ih=>intro S h;exact ih _ (aaz h)
 exact this l [] (by simp)
theorem Wy{x:Sl E3}{S:List (Ky×V)}{w:List (Int×Int)}{i:Nat}(hs:okS 3 x)(hi:i<x.l.length)(hn:S.length≤100000):aM (gv x (S.map kz,w,(i:Int))) 0=some (.inl ((pos S x.l[i]:Nat):Int)):=by
 have ei:=bI hs hi;have hb:∀j (hj:j<S.length),bel (kz S[j]) x.l[i]=klt S[j].1 (key x.l[i]):=fun j hj=>rfl;refine oq (pos S x.l[i]) (fun j=>(j:Int)) rfl (fun j hj=> ?_) ?_
 ·have hjl:j<S.length:=Nat.lt_of_lt_of_le hj (Tj _ _);have ej:atL (S.map kz) (j:Int)=some (kz S[j]):=eL (by simp [hjl]);simp only [gv,ej,ei,zbS,nW,hb j hjl,Tk hjl hj,if_true,List.length_map,cX hjl (by omega)];rw [if_pos (by omega)]
 ·by_cases hl:pos S x.l[i]<S.length
  ·have ej:atL (S.map kz) ((pos S x.l[i]:Nat):Int)=some (kz S[pos S x.l[i]]):=eL (by simp [hl]);simp only [gv,ej,ei,zbS,nW,hb _ hl,Tl hl,List.length_map];rw [if_pos (by omega),if_neg (by simp)]
  ·simp only [gv,List.length_map];rw [if_neg (by omega)]
theorem Gz{r:Int}{x:Sl E3}(hs:okS 3 x)(hn:x.l.length≤65536):aM (iG r x) ([],[],0)=some (.inl ((canS (RG r) x.l).map kz,(canS (RG r) x.l).map (·.2))):=by
 refine oq x.l.length (fun j=>((canS (RG r) (x.l.take j)).map kz,(canS (RG r) (x.l.take j)).map (·.2),(j:Int))) (by simp [canS]) (fun j hj=> ?_) ?_
 ·have hlen:=Gy (RG r) (x.l.take j);have hlj:(x.l.take j).length≤65536:=by simp;omega
  rw [List.take_succ_eq_append_getElem hj,PF];generalize canS (RG r) (x.l.take j)=S at hlen ⊢;have hf:=Wy (S:=S) (w:=S.map (·.2)) hs hj (by omega);have ej:=bI hs hj;have hp:=Tj S x.l[j];have hat:= @Tl S x.l[j];have hi:=Gx (RG r) x.l[j] S;generalize hA:pos S x.l[j]=a at hf hp hat hi;generalize x.l[j]=e at ej hf hat hi;have ap1:app (S.map kz) [((0:Int),(0:Int),(0:Int))]=some (S.map kz++ [(0,0,0)]):=mm (by simp;unfold cS;omega);have ap2:app (S.map (·.2)) [((0:Int),(0:Int))]=some (S.map (·.2)++ [(0,0)]):=mm (by simp;unfold cS;omega);have hw1:IntKind.i64.wrap ((((S.map kz++ [((0:Int),(0:Int),(0:Int))]).length:Nat):Int) - 1)=((S.map kz).length:Int):=by simp only [List.length_append,List.length_map,List.length_cons,List.length_nil];rw [fM (by omega) (by omega)];omega
  have ta:((a:Nat):Int).toNat=a:=Int.toNat_natCast _;have hl2:(S.map (·.2)).length=(S.map kz).length:=by simp
  have hak:a≤(S.map kz).length:=by simpa using hp
  have has:a≤(S.map (·.2)).length:=by simpa using hp
  obtain⟨y2,z2,sh2⟩:=Eb (b:=gw (a:Int)) (.inl rfl) hl2 (by simp;omega) hak (0,0,0) (0,0);obtain⟨y3,z3,sh3⟩:=Eb (b:=gz (a:Int)) (.inr rfl) hl2 (by simp;omega) hak (0,0,0) (0,0);have i2:=eL (po hak y2);have j2:=eL (po has z2);have i3:=eL (po hak y3);have j3:=eL (po has z3);have hne:∀{α:Type} (l:List α) k y,neL (dh l k y)=some ():=fun l k y=>KY (by unfold dh;simp);simp only [iG,hf,zbS,Sum.elim_inl,ej,Md,List.length_map];rw [if_pos (by omega)];by_cases hl:a<S.length
  ·rw [if_pos (by omega)];have e1:atL (S.map kz) (a:Int)=some (kz S[a]):=eL (by simp [hl]);have e2:atL (S.map (·.2)) (a:Int)=some S[a].2:=eL (by simp [hl]);have hk:bel e (kz S[a])=klt (key e) S[a].1:=rfl;simp only [e1,e2,zbS,nW,hk,yb,ap1,ap2,hw1,sh2,Sum.elim_inl,i2,j2,ta,mQ hak,mQ has,hne,cX hj (by omega)];rw [dif_pos hl]at hi;by_cases hc:klt (key e) S[a].1=true
   ·rw [if_pos hc]at hi;rw [if_neg (by simp [hc]),hi,JG,JG];rfl
   ·rw [if_neg hc]at hi;rw [if_pos (by simpa using hc),hi,List.map_set,List.map_set]
    have:(S.map kz).set a (kz (S[a].1,(RG r).ad S[a].2 ((RG r).o e.2.2)))=S.map kz:=by
     have hk2:kz (S[a].1,(RG r).ad S[a].2 ((RG r).o e.2.2))=(S.map kz)[a]'(by simpa using hl):=by simp [kz]
     rw [hk2,List.set_getElem_self]
    rw [this]
  ·rw [if_neg (by omega)];rw [dif_neg hl]at hi;have hae:a=S.length:=by omega
   simp only [zbS,ap1,ap2,hw1,sh3,Sum.elim_inl,i3,j3,ta,mQ hak,mQ has,hne,cX hj (by omega)];rw [hi,hae]
   have q1:dh (S.map kz) S.length (e.1,e.2.1,(0:Int))=S.map kz++ [(e.1,e.2.1,0)]:=by
    have:=oz (S.map kz) (e.1,e.2.1,(0:Int));rwa [List.length_map]at this
   have q2:dh (S.map (·.2)) S.length (ofW e.2.2)=S.map (·.2)++ [ofW e.2.2]:=by
    have:=oz (S.map (·.2)) (ofW e.2.2);rwa [List.length_map]at this
   rw [q1,q2];simp [kz,key]
 ·simp only [iG,List.take_length];rw [if_neg (by omega)]
theorem qe{r:Int}{x:Sl E3}(hs:okS 3 x)(hn:x.l.length≤65536)(hr:lY r=true):dA r x=some (mo 3 (sumR (RG r) x.l).1,(sumR (RG r) x.l).2):=by
 rw [ol,AF,hr];simp only [zbS,not_true_eq_false,if_false];rw [Gz hs hn];simp only [zbS,Sum.elim_inl];have hlen:=Gy (RG r) x.l;have hlo:=aaA r x.l;unfold sumR;generalize canS (RG r) x.l=S at hlen hlo ⊢
 obtain⟨q,q1,q2⟩:=cu (b:=iH (S.map kz,S.map (·.2))) S.length (fun j st=>st=((S.take j).map (toE (RG r))++(S.drop j).map kz,(j:Int))∧∀p∈S.take j,(fQ p.2).2=true) (fun q=>(S.all (fun p=>(fQ p.2).2)=true∧q= .inl (S.map (toE (RG r))))∨(S.all (fun p=>(fQ p.2).2)=false∧q= .inr (.inl ([],12))))
  (by
   rintro j _ hj ⟨rfl,ha⟩;have e2:atL (S.map (·.2)) (j:Int)=some S[j].2:=eL (by simp [hj]);have hln:((S.take j).map (toE (RG r))++(S.drop j).map kz).length=S.length:=by simp;omega
   have e1:atL ((S.take j).map (toE (RG r))++(S.drop j).map kz) (j:Int)=some (kz S[j]):=eL (by
    rw [List.getElem?_append_right (by simp;omega)]
    simp [List.getElem?_drop,show min j S.length=j by omega,hj])
   have hN:gJ S[j].2=some (fQ S[j].2):=AE (hlo _ (List.getElem_mem hj));simp only [iH,hln,e2,zbS,hN,e1,cX hj (by omega),Int.toNat_natCast];rw [if_pos (by omega)];by_cases hc:(fQ S[j].2).2=true
   ·rw [if_neg (by simpa using hc)];refine .inl ⟨_,rfl,?_,?_⟩
    ·rw [Prod.mk.injEq];refine⟨?_,rfl⟩;rw [List.take_succ_eq_append_getElem hj,List.set_append_right _ _ (by simp;omega)];simp only [List.length_map,List.length_take,show min j S.length=j by omega,Nat.sub_self,List.map_append,List.map_cons,List.map_nil];rw [List.drop_eq_getElem_cons hj,List.map_cons,List.set_cons_zero,List.append_assoc];simp [toE,kz]
    ·intro p hp;rw [List.take_succ_eq_append_getElem hj]at hp;rcases List.mem_append.1 hp with hp|hp
     ·exact ha p hp
     ·simp at hp;subst hp;exact hc
   ·rw [if_pos (by simpa using hc)];refine .inr ⟨_,rfl,.inr ⟨?_,rfl⟩⟩;rw [Bool.eq_false_iff];intro hh
    exact hc (List.all_eq_true.1 hh _ (List.getElem_mem hj)))
  (by
   rintro _ ⟨rfl,ha⟩;simp only [iH,List.take_length,List.drop_length,List.map_nil,List.append_nil,List.length_map];rw [List.take_length]at ha;rw [if_neg (by omega)]
   exact⟨_,rfl,.inl ⟨List.all_eq_true.2 ha,rfl⟩⟩) 0 (Nat.zero_le _) (S.map kz,0) ⟨by simp,by simp⟩
 rw [q1];rcases q2 with⟨h,rfl⟩|⟨h,rfl⟩
 ·rw [if_pos h];rfl
 ·rw [if_neg (by rw [h];simp)];rfl
end
section
open Go Sm
theorem wK{n:Int}(h:cH n):fQ (ofW n)=(n,true):=by
 unfold fQ
 have e:IntKind.i64.wrap (ofW n).2=n:=by
  unfold ofW;simp only;rw [bY,IntKind.wrap_i64];unfold cH at h;omega
 rw [e,if_pos rfl]
theorem Me{r:Int}{l:List E3}(h:dM l)(hw:∀x∈l,cH x.2.2):sumR (RG r) l=(l,0):=by
 have hc:=II (RG r) l h
 have ha:(canS (RG r) l).all (fun p=>((RG r).na p.2).2)=true:=by
  rw [hc,List.all_eq_true];intro p hp;obtain⟨e,he,rfl⟩:=List.mem_map.1 hp;show(fQ (ofW e.2.2)).2=true;rw [wK (hw e he)]
 unfold sumR;rw [if_pos ha,hc,List.map_map]
 have:l.map (toE (RG r)∘ fun e=>(key e,(RG r).o e.2.2))=l:=by
  refine(List.map_congr_left (g:=id) fun e he=> ?_).trans (List.map_id l);show(e.1,e.2.1,(fQ (ofW e.2.2)).1)=e;rw [wK (hw e he)]
 rw [this]
theorem AI{r:Int}{l:List E3}:dM (sumR (RG r) l).1∧(sumR (RG r) l).1.length≤l.length∧(∀x∈(sumR (RG r) l).1,cH x.2.2∧∃y∈l,y.1=x.1∧y.2.1=x.2.1)∧((sumR (RG r) l).2=0∨sumR (RG r) l=([],12)):=by
 unfold sumR;split
 ·refine⟨?_,by rw [List.length_map];exact Gy _ _,fun x hx=> ?_,.inl rfl⟩
  ·show((canS (RG r) l).map (toE (RG r))).Pairwise _;rw [List.pairwise_map];exact(zp (RG r) l).1
  ·obtain⟨p,hp,rfl⟩:=List.mem_map.1 hx;refine⟨?_,?_⟩
   ·show cH (fQ p.2).1;unfold fQ;split
    ·exact Ix _
    ·unfold cH;omega
   ·obtain⟨e,he,hk⟩:=FS (((zp (RG r) l).2 p.1 p.2).1 hp);have h1:=congrArg Prod.fst hk;have h2:=congrArg Prod.snd hk;exact⟨e,he,h1,h2⟩
 ·exact⟨List.Pairwise.nil,Nat.zero_le _,by simp,.inr rfl⟩
def Tm:Mx:=(0,0,gU,gU,gU)
def inM(n c:Int)(x:E3):Bool:=decide (0≤x.1∧x.1<n∧0≤x.2.1∧x.2.1<c)
def ofV(r n c:Int)(l:List E3):Mx×Int:=
 if lY r=true then if dn n=true∧dn c=true then if l.length≤65536 then if l.all (inM n c)=true then
  if(sumR (RG r) l).2=0 then(nV n c (sumR (RG r) l).1,0)else(Tm,(sumR (RG r) l).2)
 else(Tm,3)else(Tm,5)else(Tm,3)else(Tm,8)
theorem Oj{n c:Int}{x:E3}(h:x.1<0∨x.1 ≥ n∨x.2.1<0∨x.2.1 ≥ c):inM n c x=false:=by unfold inM;rw [decide_eq_false];omega
theorem adz{α:Type}{p:α→Bool}{l:List α}{j:Nat}(hj:j<l.length)(h:p l[j]=false):l.all p=false:=by
 rw [Bool.eq_false_iff];intro ha;rw [List.all_eq_true.1 ha _ (List.getElem_mem hj)]at h;cases h
theorem Dj{n c:Int}{x:Sl E3}(hs:okS 3 x)(hl:x.l.length≤65536):aM (lH n c x) ([],0,0,0,[],[],[])=some (if x.l.all (inM n c)=true then .inl (x.l,0,0,[],[],[])else .inr (.inl (3,0,0,[],[],[]))):=by
 obtain⟨q,q1,q2⟩:=cu (b:=lH n c x) x.l.length (fun j st=>st=(x.l.take j,(j:Int),0,0,[],[],[])∧∀y∈x.l.take j,inM n c y=true) (fun q=>q=if x.l.all (inM n c)=true then .inl (x.l,0,0,[],[],[])else .inr (.inl (3,0,0,[],[],[])))
  (by
   rintro j _ hj ⟨rfl,ha⟩;have ej:=bI hs hj;have hlen:(x.l.take j).length≤65536:=by simp;omega
   have ap:app (x.l.take j) [(x.l[j].1,x.l[j].2.1,x.l[j].2.2)]=some (x.l.take j++ [x.l[j]]):=mm (by simp;unfold cS;omega);simp only [lH,ej,zbS,ap,cX hj (by omega)];rw [if_pos (by omega)]
   have bad:inM n c x.l[j]=false→∃r,(some (Sum.inr (Sum.inr (Sum.inl ((3:Int),(0:Int),(0:Int),([]:List Int),([]:List Int),([]:List Int))))):Option ((List E3×Int×Int×Int×List Int×List Int×List Int)⊕((List E3×Int×Int×List Int×List Int×List Int)⊕((Int×Int×Int×List Int×List Int×List Int)⊕ Empty))))=some (.inr r)∧r=if x.l.all (inM n c)=true then .inl (x.l,0,0,[],[],[])else .inr (.inl (3,0,0,[],[],[])):=fun h=>⟨_,rfl,by rw [adz hj h];rfl⟩
   by_cases c1:x.l[j].1<0
   ·rw [if_pos c1];exact .inr (bad (Oj (.inl c1)))
   by_cases c2:x.l[j].1 ≥ n
   ·rw [if_neg c1,if_pos c2];exact .inr (bad (Oj (.inr (.inl c2))))
   by_cases c3:x.l[j].2.1<0
   ·rw [if_neg c1,if_neg c2,if_pos c3];exact .inr (bad (Oj (.inr (.inr (.inl c3)))))
   by_cases c4:x.l[j].2.1 ≥ c
   ·rw [if_neg c1,if_neg c2,if_neg c3,if_pos c4];exact .inr (bad (Oj (.inr (.inr (.inr c4)))))
   rw [if_neg c1,if_neg c2,if_neg c3,if_neg c4,←List.take_succ_eq_append_getElem hj];refine .inl ⟨_,rfl,rfl,fun y hy=> ?_⟩;rw [List.take_succ_eq_append_getElem hj]at hy;rcases List.mem_append.1 hy with hy|hy
   ·exact ha y hy
   ·simp at hy;subst hy
    unfold inM;rw [decide_eq_true];omega)
  (by
   rintro _ ⟨rfl,ha⟩;rw [List.take_length]at ha;simp only [lH];rw [if_neg (by omega),if_pos (List.all_eq_true.2 ha),List.take_length]
   exact⟨_,rfl,rfl⟩) 0 (Nat.zero_le _) ([],0,0,0,[],[],[]) ⟨rfl,by simp⟩
 rw [q1,q2]
theorem AJ{l:List E3}{e:Int}(hl:l.length≤65536){s:Sl E3}(hs:okS 3 s)(hsl:s.l=l):aM (nu (s,e)) ([],0)=some (.inl l):=by
 refine oq l.length (fun j=>(l.take j,(j:Int))) rfl (fun j hj=> ?_) ?_
 ·have ej:atS 3 s (j:Int)=some l[j]:=jH hs (by rw [hsl];simp [hj]);have hlen:(l.take j).length≤65536:=by simp;omega
  have ap:app (l.take j) [(l[j].1,l[j].2.1,l[j].2.2)]=some (l.take j++ [l[j]]):=mm (by simp;unfold cS;omega);simp only [nu,ej,zbS,ap,cX hj (by omega),hsl];rw [if_pos (by omega),List.take_succ_eq_append_getElem hj]
 ·simp only [nu,hsl,List.take_length];rw [if_neg (by omega)]
theorem Wz{n c:Int}{l:List E3}(h:l.all (inM n c)=true){r:Int}:∀x∈(sumR (RG r) l).1,(0≤x.1∧x.1<n)∧0≤x.2.1∧x.2.1<c:=by
 intro x hx;obtain⟨_,y,hy,e1,e2⟩:=(AI (r:=r) (l:=l)).2.2.1 x hx
 have:=List.all_eq_true.1 h y hy
 unfold inM at this;simp only [decide_eq_true_eq]at this;omega
theorem Mf{r n c:Int}{x:Sl E3}(hs:okS 3 x):lG r n c x=some (ofV r n c x.l):=by
 rw [Jz,AF];unfold ofV
 cases hr:lY r with
 |false=>rfl
 |true=>
  simp only [zbS,not_true_eq_false,if_false,if_true];by_cases h1:dn n=true
  ·obtain⟨g1,g2⟩:=sizeF_iff.1 h1;rw [if_neg (by omega),if_neg (by omega)];by_cases h2:dn c=true
   ·obtain⟨g3,g4⟩:=sizeF_iff.1 h2;rw [if_neg (by omega),if_neg (by omega),if_pos (show dn n=true∧dn c=true from⟨h1,h2⟩)];by_cases hl:x.l.length≤65536
    ·rw [if_neg (by omega),if_pos hl,Dj hs hl];by_cases ha:x.l.all (inM n c)=true
     ·have hlen:=(AI (r:=r) (l:=x.l)).2.1;simp only [if_pos ha,zbS,Sum.elim_inl];rw [qe (oo _) (by rw [kI];exact hl) hr];simp only [kI,zbS];by_cases h0:(sumR (RG r) x.l).2=0
      ·rw [if_neg (fun h=>h h0),if_pos h0,AJ (l:=(sumR (RG r) x.l).1) (by omega) (oo _) (kI _ _)];simp only [zbS,Sum.elim_inl];rw [Dh ⟨g1,g2⟩ (oo _) (by rw [kI];omega) (by rw [kI];exact fun y hy=>(Wz ha y hy).1),kI];rfl
      ·rw [if_pos h0,if_neg h0];rfl
     ·rw [if_neg ha,if_neg ha];rfl
    ·rw [if_pos (by omega),if_neg hl];rfl
   ·rw [if_neg (show¬(dn n=true∧dn c=true)from fun h=>h2 h.2)]
    have:¬(0≤c∧c≤4096):=fun h=>h2 (sizeF_iff.2 h)
    by_cases h3:c<0
    ·rw [if_pos h3];rfl
    ·rw [if_neg h3,if_pos (by omega)];rfl
  ·rw [if_neg (show¬(dn n=true∧dn c=true)from fun h=>h1 h.1)]
   have:¬(0≤n∧n≤4096):=fun h=>h1 (sizeF_iff.2 h)
   by_cases h3:n<0
   ·rw [if_pos h3];rfl
   ·rw [if_neg h3,if_pos (by omega)];rfl
end
section
open Go Sm
end
section
open Go Sm
structure Is(m:Mx)(n c:Int)(l:List E3):Prop where
 hn:0≤n∧n≤4096
 hc:0≤c∧c≤4096
 len:l.length≤65536
 r:dM l
 p:∀x∈l,(0≤x.1∧x.1<n)∧0≤x.2.1∧x.2.1<c
 v:∀x∈l,cH x.2.2
 e1:m.1=n
 e2:m.2.1=c
 e3:m.2.2.1.l=gX n.toNat fun k=>((aQ l k:Nat):Int)
 e4:m.2.2.2.1.l=l.map (·.2.1)
 e5:m.2.2.2.2.l=l.map (·.2.2)
 o3:okS 1 m.2.2.1
 o4:okS 1 m.2.2.2.1
 o5:okS 1 m.2.2.2.2
section
variable {m : Mx} {n c : Int} {l : List E3}
theorem aaB(hn:0≤n∧n≤4096)(hc:0≤c∧c≤4096)(hl:l.length≤65536)(h:dM l)(hp:∀x∈l,(0≤x.1∧x.1<n)∧0≤x.2.1∧x.2.1<c)(hv:∀x∈l,cH x.2.2):Is (nV n c l) n c l:=
 ⟨hn,hc,hl,h,hp,hv,rfl,rfl,rfl,kI _ _,kI _ _,.inr rfl,oo _,oo _⟩
theorem Is.ok(h:Is m n c l):OkM m:=by
 refine⟨h.o3,h.o4,h.o5,fun y hy=> ?_,?_,?_,?_⟩
 ·rw [h.e5]at hy;obtain⟨x,hx,rfl⟩:=List.mem_map.1 hy;exact h.v x hx
 ·rw [h.e3,gA];have:=h.hn;omega
 ·rw [h.e4,List.length_map];have:=h.len;omega
 ·rw [h.e5,List.length_map];have:=h.len;omega
def kT(l:List E3)(i:Int):List E3:=l.filter fun x=>decide (x.1=i)
theorem vd(l:List E3)(i:Nat):kT l (i:Int)=qn l i:=by
 unfold kT qn;rw [List.filter_filter];refine List.filter_congr fun x _=> ?_;rw [Bool.eq_iff_iff];simp;omega
theorem lJ{x:E3}{k:Int}(h:x∈kT l k):x∈l∧x.1=k:=by
 unfold kT at h;rw [List.mem_filter]at h;exact⟨h.1,by simpa using h.2⟩
theorem PL(h:dM l){x y:E3}(hx:x∈l)(hy:y∈l)(h1:x.1=y.1)(h2:x.2.1=y.2.1):x=y:=by
 obtain⟨a,ha,rfl⟩:=List.mem_iff_getElem.1 hx;obtain⟨b,hb,rfl⟩:=List.mem_iff_getElem.1 hy;have hp:=List.pairwise_iff_getElem.1 h;by_cases hab:a=b
 ·subst hab;rfl
 ·rcases Nat.lt_or_gt_of_ne hab with hl|hl
  ·have:=bel_iff.1 (hp a b ha hb hl);omega
  ·have:=bel_iff.1 (hp b a hb ha hl);omega
theorem WA(h:dM l)(i:Int):((kT l i).map (·.2.1)).Pairwise (·<·):=by
 rw [List.pairwise_map];have h1:(kT l i).Pairwise fun a b=>bel a b=true:=h.sublist List.filter_sublist;refine h1.imp_of_mem fun{a b} ha hb hab=> ?_
 have:=(lJ ha).2
 have:=(lJ hb).2
 rw [bel_iff]at hab;omega
end
end
section
open Go Sm
end
section
open Go Sm
def jg(x:E3):E3:=(x.2.1,x.1,x.2.2)
theorem rH(x:E3):jg (jg x)=x:=rfl
theorem JH{x y:E3}(h:jg x=jg y):x=y:=by rw [←rH x,h,rH]
theorem mem_flip{l:List E3}{x:E3}:x∈l.map jg↔jg x∈l:=by
 constructor
 ·intro h;obtain⟨y,hy,rfl⟩:=List.mem_map.1 h;exact hy
 ·exact fun h=>List.mem_map.2 ⟨_,h,rfl⟩
def leE(a b:E3):Bool:= !bel b a
theorem zr{a b:E3}:leE a b=true↔¬(b.1<a.1∨b.1=a.1∧b.2.1<a.2.1):=by
 unfold leE;rw [←bel_iff];cases bel b a<;>simp
def jh(l:List E3):List E3:=(l.map jg).mergeSort leE
theorem rI(l:List E3):(jh l).Perm (l.map jg):=List.mergeSort_perm _ _
theorem turn_mem{l:List E3}{x:E3}:x∈jh l↔jg x∈l:=by rw [(rI l).mem_iff,mem_flip]
theorem Tn(l:List E3):(jh l).length=l.length:=by rw [(rI l).length_eq,List.length_map]
theorem qH{l:List E3}(h:dM l):l.Nodup:=h.imp fun{a b} hab he=>by
 subst he
 have:=bel_iff.1 hab
 omega
theorem mR{l:List E3}(h:dM l):dM (jh l):=by
 have h1:(jh l).Pairwise fun a b=>leE a b=true:=List.pairwise_mergeSort (fun a b c hab hbc=>by rw [zr]at*;omega) (fun a b=>by
  rw [Bool.or_eq_true,zr,zr];omega) _
 have h2:(jh l).Nodup:=(rI l).nodup_iff.2 (List.pairwise_map.2 ((qH h).imp fun{a b} hab he=>hab (JH he)));rw [dM,List.pairwise_iff_getElem];intro i j hi hj hij;have p1:=List.pairwise_iff_getElem.1 h1 i j hi hj hij;have p2:=List.pairwise_iff_getElem.1 h2 i j hi hj hij;rw [zr]at p1;rw [bel_iff];by_cases hk:(jh l)[i].1=(jh l)[j].1∧(jh l)[i].2.1=(jh l)[j].2.1
 ·have m1:=turn_mem.1 (List.getElem_mem hi);have m2:=turn_mem.1 (List.getElem_mem hj);exact absurd (JH (PL h m1 m2 hk.2 hk.1)) p2
 ·omega
theorem Ec{l l':List E3}(h:dM l)(h':dM l')(hm:∀x,x∈l↔x∈l'):l=l':=
 List.Perm.eq_of_pairwise (le:=fun a b=>bel a b=true) (fun a b _ _ h1 h2=>by rw [bel_iff]at h1 h2;omega) h h' ((List.perm_ext_iff_of_nodup (qH h) (qH h')).2 hm)
section
variable {m : Mx} {n c : Int} {l : List E3}
end
end
section
open Go Sm
def wL(m:Mx)(i:Nat):List E3:=(dS m i).map fun p=>((i:Int),p.1,p.2)
def qI(m:Mx):Nat→List E3
 |0=> []
 |k+1=>qI m k++wL m k
section
variable {m : Mx}
theorem pr(h:cI m=true):m.2.2.1.l.getD 0 0=0∧m.2.2.1.l.getD m.1.toNat 0=m.2.2.2.1.l.length:=by
 unfold cI at h;simp only [Bool.and_eq_true,decide_eq_true_eq]at h;exact⟨h.2.2.2.1,h.2.2.2.2.2.2.1⟩
theorem wM(hr:cI m=true){i:Nat}(hi:(i:Int)<m.1):(wL m i).map (·.2.1)=cN m.2.2.2.1.l (m.2.2.1.l.getD i 0) (m.2.2.1.l.getD (i+1) 0)∧(wL m i).map (·.2.2)=cN m.2.2.2.2.l (m.2.2.1.l.getD i 0) (m.2.2.1.l.getD (i+1) 0):=by
 obtain⟨r1,r2,r3,r4,r5,r6⟩:=fZ hr;obtain⟨p1,p2,p3,p4⟩:=r6 i hi;have l1:=ig (l:=m.2.2.2.1.l) ⟨p1,p2,p3⟩;have l2:=ig (l:=m.2.2.2.2.l) (f:=m.2.2.1.l.getD i 0) (t:=m.2.2.1.l.getD (i+1) 0) ⟨p1,p2,by omega⟩;unfold wL dS;rw [List.map_map,List.map_map];constructor
 ·show List.map Prod.fst _=_;rw [List.map_fst_zip (by omega)]
 ·show List.map Prod.snd _=_;rw [List.map_snd_zip (by omega)]
theorem wN(hr:cI m=true):∀k:Nat,(k:Int)≤m.1→(qI m k).map (·.2.1)=m.2.2.2.1.l.take (m.2.2.1.l.getD k 0).toNat∧(qI m k).map (·.2.2)=m.2.2.2.2.l.take (m.2.2.1.l.getD k 0).toNat
 |0,_=>by
  rw [(pr hr).1];exact⟨rfl,rfl⟩
 |k+1,h=>by
  obtain⟨i1,i2⟩:=wN hr k (by omega);obtain⟨e1,e2⟩:=wM hr (i:=k) (by omega);obtain⟨r1,r2,r3,r4,r5,r6⟩:=fZ hr;obtain⟨p1,p2,p3,p4⟩:=r6 k (by omega);have hs:(m.2.2.1.l.getD (k+1) 0).toNat=(m.2.2.1.l.getD k 0).toNat+((m.2.2.1.l.getD (k+1) 0).toNat - (m.2.2.1.l.getD k 0).toNat):=by omega
  constructor
  ·show(qI m k++wL m k).map _=_;rw [List.map_append,i1,e1,hs,List.take_add];rfl
  ·show(qI m k++wL m k).map _=_;rw [List.map_append,i2,e2,hs,List.take_add];rfl
theorem JI(hr:cI m=true){k:Nat}(h:(k:Int)≤m.1):((qI m k).length:Int)=m.2.2.1.l.getD k 0:=by
 have e:=congrArg List.length (wN hr k h).1;rw [List.length_map,List.length_take]at e;obtain⟨r1,r2,r3,r4,r5,r6⟩:=fZ hr
 have hb:0≤m.2.2.1.l.getD k 0∧m.2.2.1.l.getD k 0≤m.2.2.2.1.l.length:=by
  cases k with
  |zero=>rw [(pr hr).1];omega
  |succ k=>have:=r6 k (by omega);omega
 omega
theorem qJ(hr:cI m=true){i:Nat}(hi:(i:Int)<m.1){x:E3}(hx:x∈wL m i):x.1=(i:Int)∧0≤x.2.1∧x.2.1<m.2.1:=by
 obtain⟨r1,r2,r3,r4,r5,r6⟩:=fZ hr;obtain⟨p1,p2,p3,p4⟩:=r6 i hi;have h1:x.2.1∈(wL m i).map (·.2.1):=List.mem_map.2 ⟨x,hx,rfl⟩;rw [(wM hr hi).1]at h1
 have:=(ascI_iff'.1 p4).2 _ h1
 refine⟨?_,by omega,by omega⟩;unfold wL at hx;obtain⟨p,_,rfl⟩:=List.mem_map.1 hx;rfl
theorem ve(hr:cI m=true){x:E3}:∀{k:Nat},(k:Int)≤m.1→x∈qI m k→(0≤x.1∧x.1<(k:Int))∧0≤x.2.1∧x.2.1<m.2.1
 |0,_,hx=>by simp [qI]at hx
 |k+1,h,hx=>by
  rcases List.mem_append.1 (show x∈qI m k++wL m k from hx)with hx|hx
  ·have:=ve hr (k:=k) (by omega) hx
   exact⟨by omega,this.2⟩
  ·have:=qJ hr (by omega) hx
   exact⟨by omega,this.2⟩
theorem AK(hr:cI m=true):∀{k:Nat},(k:Int)≤m.1→dM (qI m k)
 |0,_=>List.Pairwise.nil
 |k+1,h=>by
  show(qI m k++wL m k).Pairwise _;rw [List.pairwise_append];refine⟨AK hr (by omega),?_,fun a ha b hb=> ?_⟩
  ·obtain⟨r1,r2,r3,r4,r5,r6⟩:=fZ hr;obtain⟨p1,p2,p3,p4⟩:=r6 k (by omega);have h1:=(ascI_iff'.1 p4).1;rw [←(wM hr (i:=k) (by omega)).1,List.pairwise_map]at h1;refine h1.imp_of_mem fun{a b} ha hb hab=> ?_
   have:=(qJ hr (by omega) ha).1
   have:=(qJ hr (by omega) hb).1
   rw [bel_iff];omega
  ·have:=ve hr (by omega) ha
   have:=qJ hr (by omega) hb
   rw [bel_iff];omega
theorem JJ(hr:cI m=true):∀{j:Nat},(j:Int)≤m.1→∀k,k≤j→aQ (qI m j) k=(qI m k).length
 |0,_,k,hk=>by
  obtain rfl:k=0:=by omega
  rfl
 |j+1,h,k,hk=>by
  by_cases hkj:k≤j
  ·have ih:=JJ hr (j:=j) (by omega) k hkj;show(qI m j++wL m j).countP _=_;rw [List.countP_append]
   have h0:(wL m j).countP (fun x=>decide (x.1<(k:Int)))=0:=List.countP_eq_zero.2 fun x hx hd=>by
    have:=(qJ hr (by omega) hx).1
    have:x.1<(k:Int):=by simpa using hd
    omega
   rw [h0];exact ih
  ·obtain rfl:k=j+1:=by omega
   exact List.countP_eq_length.2 fun x hx=>by
    have:=(ve hr h hx).1.2
    simpa using this
theorem To(ok:OkM m)(hr:cI m=true):Is m m.1 m.2.1 (qI m m.1.toNat):=by
 obtain⟨r1,r2,r3,r4,r5,r6⟩:=fZ hr;have hk:((m.1.toNat:Nat):Int)≤m.1:=by omega
 have hl:=JI hr hk;rw [(pr hr).2]at hl;obtain⟨e1,e2⟩:=wN hr m.1.toNat hk;rw [(pr hr).2,Int.toNat_natCast]at e1 e2;rw [List.take_length]at e1;rw [List.take_of_length_le (by omega)]at e2;refine⟨r1,r2,by omega,AK hr hk,fun x hx=> ?_,fun x hx=> ?_,rfl,rfl,?_,e1.symm,e2.symm,ok.st,ok.co,ok.va⟩
 ·have:=ve hr hk hx
  exact⟨by omega,this.2⟩
 ·exact ok.v64 _ (by rw [←e2];exact List.mem_map.2 ⟨x,hx,rfl⟩)
 ·refine List.ext_getElem? fun j=> ?_;by_cases hj:j≤m.1.toNat
  ·rw [fY _ hj,JJ hr hk j hj,JI hr (by omega),List.getElem?_eq_getElem (by omega),←cm]
  ·rw [List.getElem?_eq_none (by omega),List.getElem?_eq_none (by rw [gA];omega)]
end
end
section
open Go Sm
abbrev Cx:=Int×Int×Sl Int×Sl Int×Sl Int×Sl Int
def neC(T:List E3)(k:Nat):Bool:=decide (aQ T k<aQ T (k+1))
def ke(T:List E3)(n:Nat):List Int:=((List.range n).filter (neC T)).map fun(k:Nat)=>(k:Int)
def Ee(T:List E3)(n:Nat):List Int:=((List.range n).filter (neC T)).map fun(k:Nat)=>((aQ T (k+1):Nat):Int)
def pu(T:List E3)(n:Nat):List Int:=0::Ee T n
section
variable {T : List E3}
theorem tH(n:Nat):ke T (n+1)=ke T n++if neC T n=true then [(n:Int)]else []:=by
 unfold ke;rw [List.range_succ,List.filter_append,List.map_append];by_cases h:neC T n=true<;>simp [h]
theorem Mh(n:Nat):Ee T (n+1)=Ee T n++if neC T n=true then [((aQ T (n+1):Nat):Int)]else []:=by
 unfold Ee;rw [List.range_succ,List.filter_append,List.map_append];by_cases h:neC T n=true<;>simp [h]
theorem Tp(n:Nat):(Ee T n).length=(ke T n).length:=by unfold Ee ke;simp
theorem oB(n:Nat):(pu T n).length=(ke T n).length+1:=by unfold pu;rw [List.length_cons,Tp]
theorem qK(n:Nat):pu T (n+1)=pu T n++if neC T n=true then [((aQ T (n+1):Nat):Int)]else []:=by
 unfold pu;rw [Mh,List.cons_append]
theorem Tq(n:Nat):(ke T n).length≤n:=by
 unfold ke;rw [List.length_map];exact Nat.le_trans (List.length_filter_le _ _) (by rw [List.length_range];exact Nat.le_refl _)
theorem vh(T:List E3)(k:Nat):aQ T (k+1)=aQ T k+(kT T (k:Int)).length:=by
 unfold aQ kT
 induction T with
 |nil=>rfl
 |cons x l ih=>
  rw [List.countP_cons,List.countP_cons,List.filter_cons,ih];by_cases h:x.1<(k:Int)
  ·rw [if_pos (decide_eq_true (by omega)),if_pos (decide_eq_true h),if_neg (by simp;omega)];omega
  ·by_cases h2:x.1=(k:Int)
   ·rw [if_pos (decide_eq_true (by omega)),if_neg (by simpa using h),if_pos (decide_eq_true h2),List.length_cons];omega
   ·rw [if_neg (by simp;omega),if_neg (by simpa using h),if_neg (by simpa using h2)];omega
theorem neC_iff{k:Nat}:neC T k=true↔kT T (k:Int)≠[]:=by
 unfold neC;rw [vh,decide_eq_true_eq,←List.length_pos_iff];omega
theorem zV(h0:∀x∈T,0≤x.1):aQ T 0=0:=by
 unfold aQ;rw [List.countP_eq_zero];intro x hx
 have:=h0 x hx
 simp;omega
theorem cols_mem{n:Nat}{x:Int}:x∈ke T n↔∃j:Nat,x=(j:Int)∧j<n∧neC T j=true:=by
 unfold ke;rw [List.mem_map];constructor
 ·rintro⟨j,h1,h2⟩;rw [List.mem_filter,List.mem_range]at h1;exact⟨j,h2.symm,h1⟩
 ·rintro⟨j,h1,h2⟩;exact⟨j,by rw [List.mem_filter,List.mem_range];exact h2,h1.symm⟩
theorem JK(n:Nat):(ke T n).Pairwise (·<·):=by
 unfold ke;rw [List.pairwise_map];exact(List.pairwise_lt_range.sublist List.filter_sublist).imp fun h=>by omega
theorem tI(h0:∀x∈T,0≤x.1):∀n:Nat,(pu T n)[(ke T n).length]? =some ((aQ T n:Nat):Int)
 |0=>by rw [zV h0];rfl
 |n+1=>by
  rw [qK,tH];by_cases h:neC T n=true
  ·rw [if_pos h,if_pos h,List.length_append,List.length_singleton,List.getElem?_append_right (by rw [oB];exact Nat.le_refl _),oB,Nat.sub_self];rfl
  ·rw [if_neg h,if_neg h,List.append_nil,List.append_nil,tI h0 n]
   have:¬aQ T n<aQ T (n+1):=by simpa [neC]using h
   have h3:=vh T n
   have:aQ T (n+1)=aQ T n:=by omega
   rw [this]
theorem vi(h0:∀x∈T,0≤x.1):∀(n i j:Nat),(ke T n)[i]? =some (j:Int)→(j<n∧neC T j=true)∧(pu T n)[i]? =some ((aQ T j:Nat):Int)∧(pu T n)[i+1]? =some ((aQ T (j+1):Nat):Int)
 |0,i,j,h=>by simp [ke]at h
 |n+1,i,j,h=>by
  have hL:=oB (T:=T) n;by_cases hn:neC T n=true
  ·rw [tH,if_pos hn]at h;rw [qK,if_pos hn];by_cases hi:i<(ke T n).length
   ·rw [List.getElem?_append_left hi]at h;obtain⟨⟨h1,h2⟩,h3,h4⟩:=vi h0 n i j h;exact⟨⟨by omega,h2⟩,by rw [List.getElem?_append_left (by omega),h3],by rw [List.getElem?_append_left (by omega),h4]⟩
   ·have hi2:=(List.getElem?_eq_some_iff.1 h).1;rw [List.length_append,List.length_singleton]at hi2;obtain rfl:i=(ke T n).length:=by omega
    rw [List.getElem?_append_right (Nat.le_refl _),Nat.sub_self]at h
    have:(n:Int)=(j:Int):=by simpa using h
    obtain rfl:n=j:=by omega
    refine⟨⟨by omega,hn⟩,?_,?_⟩
    ·rw [List.getElem?_append_left (by omega),tI h0]
    ·rw [List.getElem?_append_right (by omega),hL,Nat.sub_self];rfl
  ·rw [tH,if_neg hn,List.append_nil]at h;rw [qK,if_neg hn,List.append_nil];obtain⟨⟨h1,h2⟩,h3⟩:=vi h0 n i j h;exact⟨⟨by omega,h2⟩,h3⟩
theorem GA:∀{a b:List Int},a.Pairwise (·<·)→b.Pairwise (·<·)→(∀x,x∈a↔x∈b)→a=b
 | [],[],_,_,_=>rfl
 | [],y::b,_,_,h=>by have:=(h y).2 (by simp);simp at this
 |x::a,[],_,_,h=>by have:=(h x).1 (by simp);simp at this
 |x::a,y::b,ha,hb,h=>by
  rw [List.pairwise_cons]at ha hb;have hx:=(h x).1 (by simp);have hy:=(h y).2 (by simp)
  have e:x=y:=by
   rcases List.mem_cons.1 hx with e|h1
   ·exact e
   ·rcases List.mem_cons.1 hy with e|h2
    ·exact e.symm
    ·have:=hb.1 _ h1
     have:=ha.1 _ h2
     omega
  subst e;refine congrArg _ (GA ha.2 hb.2 fun z=>⟨fun hz=> ?_,fun hz=> ?_⟩)
  ·have h1:=ha.1 z hz;rcases List.mem_cons.1 ((h z).1 (List.mem_cons_of_mem _ hz))with e|h2
   ·omega
   ·exact h2
  ·have h1:=hb.1 z hz;rcases List.mem_cons.1 ((h z).2 (List.mem_cons_of_mem _ hz))with e|h2
   ·omega
   ·exact h2
end
structure IsC(c:Cx)(n k:Int)(T:List E3):Prop where
 hn:0≤n∧n≤4096
 hk:0≤k∧k≤4096
 len:T.length≤65536
 r:dM T
 p:∀x∈T,(0≤x.1∧x.1<k)∧0≤x.2.1∧x.2.1<n
 v:∀x∈T,cH x.2.2
 e1:c.1=n
 e2:c.2.1=k
 e3:c.2.2.1.l=ke T k.toNat
 e4:c.2.2.2.1.l=pu T k.toNat
 e5:c.2.2.2.2.1.l=T.map (·.2.1)
 e6:c.2.2.2.2.2.l=T.map (·.2.2)
 o3:okS 1 c.2.2.1
 o4:okS 1 c.2.2.2.1
 o5:okS 1 c.2.2.2.2.1
 o6:okS 1 c.2.2.2.2.2
section
variable {c : Cx} {n k : Int} {T : List E3}
theorem IsC.h0(h:IsC c n k T):∀x∈T,0≤x.1:=fun x hx=>(h.p x hx).1.1
theorem IsC.at_ge(h:IsC c n k T){i:Nat}{j:Int}(hi:c.2.2.1.l[i]? =some j):∃jn:Nat,j=(jn:Int)∧jn<k.toNat∧neC T jn=true∧c.2.2.2.1.l[i]? =some ((aQ T jn:Nat):Int)∧c.2.2.2.1.l[i+1]? =some ((aQ T (jn+1):Nat):Int):=by
 rw [h.e3]at hi;obtain⟨jn,rfl,h1,h2⟩:=cols_mem.1 (List.mem_of_getElem? hi);obtain⟨_,h3,h4⟩:=vi h.h0 _ _ _ hi;rw [←h.e4]at h3 h4;exact⟨jn,rfl,h1,h2,h3,h4⟩
theorem IsC.atLen(h:IsC c n k T):c.2.2.1.l.length≤4096:=by
 rw [h.e3]
 have:=Tq (T:=T) k.toNat
 have:=h.hk
 omega
theorem IsC.stLen(h:IsC c n k T):c.2.2.2.1.l.length=c.2.2.1.l.length+1:=by rw [h.e4,h.e3,oB]
theorem IsC.asc(h:IsC c n k T):c.2.2.1.l.Pairwise (·<·):=by rw [h.e3];exact JK _
theorem Tr(hp:∀x∈T,x.1<k){j:Nat}(hj:k≤(j:Int)):aQ T j=T.length:=by
 unfold aQ;rw [List.countP_eq_length];intro x hx
 have:=hp x hx
 simp;omega
theorem IsC.last(h:IsC c n k T):c.2.2.2.1.l[c.2.2.1.l.length]? =some (T.length:Int):=by
 rw [h.e4,h.e3,tI h.h0,Tr (fun x hx=>(h.p x hx).1.2) (by have:=h.hk;omega)]
end
def ji(r:Int)(st ro:List Int)(i:Nat):Bool:=decide (0≤st.getD i 0)&&(decide (st.getD i 0<st.getD (i+1) 0)&&(decide (st.getD (i+1) 0≤ro.length)&& gP (-1) r (cN ro (st.getD i 0) (st.getD (i+1) 0))))
def mf(c:Cx):Bool:=dn c.1 &&(dn c.2.1 &&(decide (c.2.2.2.1.l.length=c.2.2.1.l.length+1)&&(decide (c.2.2.2.1.l.getD 0 0=0)&&(gP (-1) c.2.1 c.2.2.1.l &&(decide (c.2.2.2.2.1.l.length=c.2.2.2.2.2.l.length)&&(decide (c.2.2.2.2.1.l.length≤65536)&&(decide (c.2.2.2.1.l.getD c.2.2.1.l.length 0=c.2.2.2.2.1.l.length)&&(List.range c.2.2.1.l.length).all (ji c.1 c.2.2.2.1.l c.2.2.2.2.1.l))))))))
structure OkC(c:Cx):Prop where
 a:okS 1 c.2.2.1
 s:okS 1 c.2.2.2.1
 r:okS 1 c.2.2.2.2.1
 v:okS 1 c.2.2.2.2.2
 va:∀y∈c.2.2.2.2.2.l,cH y
 la:c.2.2.1.l.length≤4096
 ls:c.2.2.2.1.l.length≤9223372036854775806
 lr:c.2.2.2.2.1.l.length≤9223372036854775806
 lv:c.2.2.2.2.2.l.length≤9223372036854775807
def AL(c:Cx):Mx:=(c.2.2.1.l.length,c.1,c.2.2.2.1,c.2.2.2.2.1,c.2.2.2.2.2)
theorem vj:∀{l:List Int} {a n:Int},a<n→gP a n l=true→(l.length:Int)≤n - a - 1
 | [],a,n,h,_=>by simp;omega
 |x::l,a,n,h,hl=>by
  rw [mC,Bool.and_eq_true,Bool.and_eq_true,decide_eq_true_eq,decide_eq_true_eq]at hl
  have:=vj hl.1.2 hl.2
  rw [List.length_cons];omega
section
variable {c : Cx}
theorem bE(h:mf c=true):(0≤c.1∧c.1≤4096)∧(0≤c.2.1∧c.2.1≤4096)∧c.2.2.2.1.l.length=c.2.2.1.l.length+1∧c.2.2.2.1.l.getD 0 0=0∧gP (-1) c.2.1 c.2.2.1.l=true∧c.2.2.2.2.1.l.length=c.2.2.2.2.2.l.length∧c.2.2.2.2.1.l.length≤65536∧c.2.2.2.1.l.getD c.2.2.1.l.length 0=c.2.2.2.2.1.l.length∧∀i,i<c.2.2.1.l.length→ji c.1 c.2.2.2.1.l c.2.2.2.2.1.l i=true:=by
 unfold mf at h;simp only [Bool.and_eq_true,decide_eq_true_eq,sizeF_iff,all_range]at h;exact h
theorem Mi(h:mf c=true):cI (AL c)=true:=by
 obtain⟨h1,h2,h3,h4,h5,h6,h7,h8,h9⟩:=bE h;have h10:=vj (by omega) h5;unfold cI AL;simp only [Bool.and_eq_true,decide_eq_true_eq,sizeF_iff,all_range,Int.toNat_natCast];refine⟨by omega,h1,by omega,h4,h6,h7,h8,fun i hi=> ?_⟩
 have:=h9 i hi
 unfold ji at this;unfold gQ;simp only [Bool.and_eq_true,decide_eq_true_eq]at this ⊢;exact⟨this.1,by omega,this.2.2⟩
theorem OkC.ok(h:OkC c):OkM (AL c):=⟨h.s,h.r,h.v,h.va,Nat.le_succ_of_le h.ls,Nat.le_succ_of_le h.lr,h.lv⟩
def Mj(c:Cx):List E3:=(qI (AL c) c.2.2.1.l.length).map fun x=>(c.2.2.1.l.getD x.1.toNat 0,x.2.1,x.2.2)
theorem PM(ok:OkC c)(h:mf c=true):IsC c c.1 c.2.1 (Mj c):=by
 obtain⟨h1,h2,h3,h4,h5,h6,h7,h8,h9⟩:=bE h;have hI:=To ok.ok (Mi h);rw [show(AL c).1=(c.2.2.1.l.length:Int)from rfl,show(AL c).2.1=c.1 from rfl,Int.toNat_natCast]at hI;generalize hL:qI (AL c) c.2.2.1.l.length=L at hI;have hT:Mj c=L.map fun x=>(c.2.2.1.l.getD x.1.toNat 0,x.2.1,x.2.2):=by unfold Mj;rw [hL]
 obtain⟨a1,a2⟩:=ascI_iff'.1 h5
 have mono:∀i j:Nat,i<j→j<c.2.2.1.l.length→c.2.2.1.l.getD i 0<c.2.2.1.l.getD j 0:=fun i j hij hj=>by
  rw [cm (show i<c.2.2.1.l.length by omega),cm hj];exact List.pairwise_iff_getElem.1 a1 i j (by omega) hj hij
 have bnd:∀i:Nat,i<c.2.2.1.l.length→0≤c.2.2.1.l.getD i 0∧c.2.2.1.l.getD i 0<c.2.1:=fun i hi=>by
  rw [cm hi]
  have:=a2 _ (List.getElem_mem hi)
  omega
 have idx:∀x∈L,x.1.toNat<c.2.2.1.l.length∧((x.1.toNat:Nat):Int)=x.1:=fun x hx=>by have:=(hI.p x hx).1;omega
 have cnt:∀i:Nat,i<c.2.2.1.l.length→aQ (Mj c) (c.2.2.1.l.getD i 0).toNat=aQ L i∧aQ (Mj c) ((c.2.2.1.l.getD i 0).toNat+1)=aQ L (i+1):=fun i hi=>by
  have hb:=bnd i hi;rw [hT];unfold aQ;rw [List.countP_map,List.countP_map];constructor
  ·refine List.countP_congr fun x hx=> ?_;obtain⟨b1,b2⟩:=idx x hx;simp only [Function.comp,decide_eq_true_eq];rcases Nat.lt_trichotomy x.1.toNat i with q|q|q
   ·have:=mono _ _ q hi;omega
   ·rw [q];omega
   ·have:=mono _ _ q b1;omega
  ·refine List.countP_congr fun x hx=> ?_;obtain⟨b1,b2⟩:=idx x hx;simp only [Function.comp,decide_eq_true_eq];rcases Nat.lt_trichotomy x.1.toNat i with q|q|q
   ·have:=mono _ _ q hi;omega
   ·rw [q];omega
   ·have:=mono _ _ q b1;omega
 have st:∀i:Nat,i≤c.2.2.1.l.length→c.2.2.2.1.l[i]? =some ((aQ L i:Nat):Int):=fun i hi=>by
  rw [show c.2.2.2.1.l=_ from hI.e3,fY _ (by omega)]
 have ec:ke (Mj c) c.2.1.toNat=c.2.2.1.l:=by
  refine GA (JK _) a1 fun z=> ?_;rw [cols_mem];constructor
  ·rintro⟨j,rfl,h11,h12⟩;rw [neC_iff]at h12;obtain⟨x,hx⟩:=List.exists_mem_of_ne_nil _ h12;obtain⟨q1,q2⟩:=lJ hx;rw [hT]at q1;obtain⟨y,hy,rfl⟩:=List.mem_map.1 q1;rw [←q2];show c.2.2.1.l.getD _ 0∈_;rw [cm (idx y hy).1];exact List.getElem_mem _
  ·intro hz;obtain⟨i,hi,rfl⟩:=List.mem_iff_getElem.1 hz;have hb:=bnd i hi;rw [cm hi]at hb;refine⟨(c.2.2.1.l[i]).toNat,by omega,by omega,?_⟩;obtain⟨q1,q2⟩:=cnt i hi;rw [cm hi]at q1 q2;unfold neC;rw [q1,q2,decide_eq_true_eq];have q3:=h9 i hi;unfold ji at q3;simp only [Bool.and_eq_true,decide_eq_true_eq]at q3;have q4:=q3.2.1;rw [List.getD_eq_getElem?_getD,List.getD_eq_getElem?_getD,st i (by omega),st (i+1) (by omega)]at q4;simp only [Option.getD_some]at q4;omega
 refine⟨h1,h2,by rw [hT,List.length_map];exact hI.len,?_,fun x hx=> ?_,fun x hx=> ?_,rfl,rfl,ec.symm,?_,?_,?_,ok.a,ok.s,ok.r,ok.v⟩
 ·rw [hT];show List.Pairwise _ _;rw [List.pairwise_map];refine List.Pairwise.imp_of_mem (fun{a b} ha hb hab=> ?_) hI.r;obtain⟨b1,b2⟩:=idx a ha;obtain⟨b3,b4⟩:=idx b hb;rw [bel_iff]at hab ⊢;rcases hab with q|⟨q,q'⟩
  ·exact .inl (mono _ _ (by omega) b3)
  ·exact .inr ⟨by show c.2.2.1.l.getD _ 0=c.2.2.1.l.getD _ 0;rw [q],q'⟩
 ·rw [hT]at hx;obtain⟨y,hy,rfl⟩:=List.mem_map.1 hx;exact⟨bnd _ (idx y hy).1,(hI.p y hy).2⟩
 ·rw [hT]at hx;obtain⟨y,hy,rfl⟩:=List.mem_map.1 hx;exact hI.v y hy
 ·refine List.ext_getElem? fun i=> ?_;rcases Nat.lt_or_ge c.2.2.1.l.length i with hi|hi
  ·rw [List.getElem?_eq_none (by omega),List.getElem?_eq_none (by rw [oB,ec];omega)]
  ·rw [st i hi];rcases i with _|i
   ·rw [zV fun x hx=>(hI.p x hx).1.1];rfl
   ·have hb:=bnd i (by omega)
    have:=(vi (T:=Mj c) (fun x hx=>by rw [hT]at hx;obtain⟨y,hy,rfl⟩:=List.mem_map.1 hx;exact(bnd _ (idx y hy).1).1) c.2.1.toNat i (c.2.2.1.l.getD i 0).toNat (by rw [ec,List.getElem?_eq_getElem (show i<_ by omega),cm (show i<c.2.2.1.l.length by omega)];rw [cm (show i<c.2.2.1.l.length by omega)]at hb;congr 1;omega)).2.2
    rw [this,(cnt i (by omega)).2]
 ·rw [hT,List.map_map];exact hI.e4
 ·rw [hT,List.map_map];exact hI.e5
end
end
section
open Go Sm
section
variable {m : Mx} {n c : Int} {l : List E3}
end
end
section
open Go Sm
section
variable {m : Mx} {n c : Int} {l : List E3}
end
end
section
open Go Sm
theorem gV{c:Cx}(h:mf c=true→False):some false=some (mf c):=by rw [Bool.eq_false_iff.2 h]
theorem colOk_iff{r:Int}{st ro:List Int}{i:Nat}:ji r st ro i=true↔0≤st.getD i 0∧st.getD i 0<st.getD (i+1) 0∧st.getD (i+1) 0≤(ro.length:Int)∧gP (-1) r (cN ro (st.getD i 0) (st.getD (i+1) 0))=true:=by
 unfold ji;simp only [Bool.and_eq_true,decide_eq_true_eq]
theorem PO{r k:Int}{a s t v:Sl Int}(hs:okS 1 s)(ht:okS 1 t)(hn:a.l.length≤4096)(hl:s.l.length=a.l.length+1)(h0:s.l.getD 0 0=0)(tl:t.l.length≤65536):∃q,aM (ll (r,k,a,s,t,v)) 0=some q∧(((List.range a.l.length).all (ji r s.l t.l)=true∧q= .inl ())∨((List.range a.l.length).all (ji r s.l t.l)=false∧q= .inr (.inl false))):=by
 refine cu (b:=ll (r,k,a,s,t,v)) a.l.length (fun j z=>z=(j:Int)∧0≤s.l.getD j 0∧∀i,i<j→ji r s.l t.l i=true) _ ?_ ?_ 0 (Nat.zero_le _) 0 ⟨rfl,by omega,fun i hi=>absurd hi (by omega)⟩
 ·rintro j _ hj ⟨rfl,hp,ha⟩;have e1:=bI hs (j:=j) (by omega);have e2:=bI hs (j:=j+1) (by omega);rw [←cm]at e1 e2;simp only [ll,e1,zbS,cX hj (by omega)];rw [if_pos (by omega),e2];simp only [zbS];have bad:¬ji r s.l t.l j=true→(List.range a.l.length).all (ji r s.l t.l)=false:=fun h=>ot hj (Bool.eq_false_iff.2 h);by_cases c1:s.l.getD (j+1) 0≤s.l.getD j 0
  ·rw [if_pos c1];exact .inr ⟨_,rfl,.inr ⟨bad fun h=>by have:=colOk_iff.1 h;omega,rfl⟩⟩
  rw [if_neg c1];by_cases c2:s.l.getD (j+1) 0>((t.l.length:Nat):Int)
  ·rw [if_pos c2];exact .inr ⟨_,rfl,.inr ⟨bad fun h=>by have:=colOk_iff.1 h;omega,rfl⟩⟩
  rw [if_neg c2]
  have hc:zn 1 t (s.l.getD j 0) (s.l.getD (j+1) 0)=some ⟨t.nn,t.sz,cN t.l (s.l.getD j 0) (s.l.getD (j+1) 0)⟩:=by
   unfold zn
   have hz:t.sz=1∨s.l.getD j 0=0:=by
    rcases ht with h|h
    ·rw [h]at c2;simp only [List.length_nil]at c2;omega
    ·exact .inl h
   rw [if_pos ⟨hp,by omega,by omega,hz⟩];rfl
  rw [hc];simp only [zbS];have hcl:(cN t.l (s.l.getD j 0) (s.l.getD (j+1) 0)).length≤65536:=by rw [ig ⟨hp,by omega,by omega⟩];omega
  have hok:okS 1 (⟨t.nn,t.sz,cN t.l (s.l.getD j 0) (s.l.getD (j+1) 0)⟩:Sl Int):=by
   rcases ht with h|h
   ·left;unfold cN;simp [h]
   ·exact .inr h
  rw [uY _ r hok (show(cN t.l (s.l.getD j 0) (s.l.getD (j+1) 0)).length≤_ by omega)];simp only [zbS]
  cases hb:gP (-1) r (cN t.l (s.l.getD j 0) (s.l.getD (j+1) 0))with
  |true=>
   rw [if_neg (by simp)];refine .inl ⟨_,rfl,rfl,by omega,fun i hi=> ?_⟩;by_cases e:i=j
   ·rw [e];exact colOk_iff.2 ⟨hp,by omega,by omega,hb⟩
   ·exact ha i (by omega)
  |false=>
   rw [if_pos (by simp)];exact .inr ⟨_,rfl,.inr ⟨bad fun h=>(by have:=(colOk_iff.1 h).2.2.2;rw [hb]at this;cases this),rfl⟩⟩
 ·rintro _ ⟨rfl,hp,ha⟩;exact⟨_,if_neg (show¬((a.l.length:Nat):Int)<((a.l.length:Nat):Int)by omega),.inl ⟨all_range.2 ha,rfl⟩⟩
theorem wO{c:Cx}(h1:dn c.1=true)(h2:dn c.2.1=true)(h3:c.2.2.2.1.l.length=c.2.2.1.l.length+1)(h4:c.2.2.2.1.l.getD 0 0=0)(h5:gP (-1) c.2.1 c.2.2.1.l=true)(h6:c.2.2.2.2.1.l.length=c.2.2.2.2.2.l.length)(h7:c.2.2.2.2.1.l.length≤65536)(h8:c.2.2.2.1.l.getD c.2.2.1.l.length 0=c.2.2.2.2.1.l.length):mf c=(List.range c.2.2.1.l.length).all (ji c.1 c.2.2.2.1.l c.2.2.2.2.1.l):=by
 unfold mf;rw [h1,h2,decide_eq_true h3,decide_eq_true h4,h5,decide_eq_true h6,decide_eq_true h7,decide_eq_true h8];rfl
theorem GB{c:Cx}(h:OkC c):gk c=some (mf c):=by
 obtain⟨r,k,a,s,t,v⟩:=c;obtain⟨o1,o2,o3,o4,vv,la,ls,lr,lv⟩:=h;simp only at o1 o2 o3 o4 vv la ls lr lv;rw [Df];simp only [JA,zbS];by_cases z1:dn r=true
 rotate_left
 ·rw [if_pos z1];exact gV fun h=>z1 (sizeF_iff.2 (bE h).1)
 rw [if_neg (fun h=>h z1)];by_cases z2:dn k=true
 rotate_left
 ·rw [if_pos z2];exact gV fun h=>z2 (sizeF_iff.2 (bE h).2.1)
 rw [if_neg (fun h=>h z2),fM (n:=((a.l.length:Nat):Int)+1) (by omega) (by omega)];by_cases g1:s.l.length=a.l.length+1
 rotate_left
 ·rw [if_pos (by omega)];exact gV fun h=>g1 (bE h).2.2.1
 rw [if_neg (by omega)];have e0:=bI o2 (j:=0) (by omega);rw [←cm]at e0;have e0':atS 1 s 0=some (s.l.getD 0 0):=e0;rw [e0'];simp only [zbS];by_cases g2:s.l.getD 0 0=0
 rotate_left
 ·rw [if_pos g2];exact gV fun h=>g2 (bE h).2.2.2.1
 rw [if_neg (fun h=>h g2),uY _ _ o1 (by omega)];simp only [zbS];by_cases g3:gP (-1) k a.l=true
 rotate_left
 ·rw [if_pos g3];exact gV fun h=>g3 (bE h).2.2.2.2.1
 rw [if_neg (fun h=>h g3)];by_cases g4:t.l.length=v.l.length
 rotate_left
 ·rw [if_pos (by omega)];exact gV fun h=>g4 (bE h).2.2.2.2.2.1
 rw [if_neg (by omega)];by_cases g5:t.l.length≤65536
 rotate_left
 ·rw [if_pos (by omega)];exact gV fun h=>g5 (bE h).2.2.2.2.2.2.1
 rw [if_neg (by omega)];have en:=bI o2 (j:=a.l.length) (by omega);rw [←cm]at en;rw [en];simp only [zbS];by_cases g6:s.l.getD a.l.length 0=((t.l.length:Nat):Int)
 rotate_left
 ·rw [if_pos g6];exact gV fun h=>g6 (bE h).2.2.2.2.2.2.2.1
 rw [if_neg (fun h=>h g6)];obtain⟨q,q1,q2⟩:=PO (r:=r) (k:=k) (v:=v) o2 o3 la g1 g2 g5;rw [q1,wO z1 z2 g1 g2 g3 g4 g5 g6];rcases q2 with⟨e,rfl⟩|⟨e,rfl⟩<;>simp only [e]<;>rfl
def tJ(k:Int)(al:List Int)(j:Nat):Bool:=decide (0≤al.getD j 0∧al.getD j 0<k∧(j≠0→al.getD (j - 1) 0<al.getD j 0))
theorem atOk_all{k:Int}{al:List Int}:gP (-1) k al=true↔∀j,j<al.length→tJ k al j=true:=by
 rw [ascI_iff];constructor
 ·intro h j hj
  have:=h j hj
  unfold tJ;rw [decide_eq_true_eq,cm hj];refine⟨this.1,this.2.1,fun h0=> ?_⟩;rw [cm (show j - 1<al.length by omega)];exact this.2.2 h0
 ·intro h j hj
  have:=h j hj
  unfold tJ at this;rw [decide_eq_true_eq,cm hj]at this;refine⟨this.1,this.2.1,fun h0=> ?_⟩;have h2:=this.2.2 h0
  rwa [cm (show j - 1<al.length by omega)]at h2
theorem PP{r k:Int}{a s t v:Sl Int}(hA:okS 1 a)(hs:okS 1 s)(ht:okS 1 t)(hn:a.l.length≤4096)(hl:s.l.length=a.l.length+1)(tl:t.l.length≤65536):∃q,aM (jZ (r,k,a,s,t,v)) 0=some q∧(((∀j,j<a.l.length→tJ k a.l j=true∧ji r s.l t.l j=true)∧q= .inl ())∨(¬(∀j,j<a.l.length→tJ k a.l j=true∧ji r s.l t.l j=true)∧q= .inr (.inl false))):=by
 refine cu (b:=jZ (r,k,a,s,t,v)) a.l.length (fun j z=>z=(j:Int)∧∀i,i<j→tJ k a.l i=true∧ji r s.l t.l i=true) _ ?_ ?_ 0 (Nat.zero_le _) 0 ⟨rfl,fun i hi=>absurd hi (by omega)⟩
 ·rintro j _ hj ⟨rfl,ha⟩;have e0:=bI hA (j:=j) hj;have e1:=bI hs (j:=j) (by omega);have e2:=bI hs (j:=j+1) (by omega);rw [←cm]at e0 e1 e2;simp only [jZ,e0,e1,zbS,cX hj (by omega),e2];rw [if_pos (by omega)];have badA:¬tJ k a.l j=true→¬∀j,j<a.l.length→tJ k a.l j=true∧ji r s.l t.l j=true:=fun h h'=>h (h' j hj).1;have badC:¬ji r s.l t.l j=true→¬∀j,j<a.l.length→tJ k a.l j=true∧ji r s.l t.l j=true:=fun h h'=>h (h' j hj).2;by_cases c1:a.l.getD j 0<0
  ·rw [if_pos c1];exact .inr ⟨_,rfl,.inr ⟨badA fun h=>by have:=of_decide_eq_true h;omega,rfl⟩⟩
  rw [if_neg c1];by_cases c2:a.l.getD j 0 ≥ k
  ·rw [if_pos c2];exact .inr ⟨_,rfl,.inr ⟨badA fun h=>by have:=of_decide_eq_true h;omega,rfl⟩⟩
  rw [if_neg c2]
  have rest:tJ k a.l j=true→((∃a',(if s.l.getD j 0<0 then some (Sum.inr (Sum.inr (Sum.inl false)))else if s.l.getD j 0 ≥ s.l.getD (j+1) 0 then some (Sum.inr (Sum.inr (Sum.inl false)))else if s.l.getD (j+1) 0>((t.l.length:Nat):Int)then some (Sum.inr (Sum.inr (Sum.inl false)))else(aM (fK (0,r,s,t,v) (j:Int)) (s.l.getD j 0)).bind fun(y:PUnit ⊕ Bool ⊕ Empty)=>Sum.elim (fun(val:PUnit)=>some (Sum.inl ((j+1:Nat):Int))) (fun(val:Bool ⊕ Empty)=>Sum.elim (fun(val:Bool)=>some (Sum.inr (Sum.inr (Sum.inl val)))) (fun(val:Empty)=>nE val) val) y:Option (Int ⊕ PUnit ⊕ Bool ⊕ Empty))=some (.inl a')∧a'=((j+1:Nat):Int)∧∀i,i<j+1→tJ k a.l i=true∧ji r s.l t.l i=true)∨∃q,(if s.l.getD j 0<0 then some (Sum.inr (Sum.inr (Sum.inl false)))else if s.l.getD j 0 ≥ s.l.getD (j+1) 0 then some (Sum.inr (Sum.inr (Sum.inl false)))else if s.l.getD (j+1) 0>((t.l.length:Nat):Int)then some (Sum.inr (Sum.inr (Sum.inl false)))else(aM (fK (0,r,s,t,v) (j:Int)) (s.l.getD j 0)).bind fun(y:PUnit ⊕ Bool ⊕ Empty)=>Sum.elim (fun(val:PUnit)=>some (Sum.inl ((j+1:Nat):Int))) (fun(val:Bool ⊕ Empty)=>Sum.elim (fun(val:Bool)=>some (Sum.inr (Sum.inr (Sum.inl val)))) (fun(val:Empty)=>nE val) val) y:Option (Int ⊕ PUnit ⊕ Bool ⊕ Empty))=some (.inr q)∧(((∀j,j<a.l.length→tJ k a.l j=true∧ji r s.l t.l j=true)∧q= .inl ())∨(¬(∀j,j<a.l.length→tJ k a.l j=true∧ji r s.l t.l j=true)∧q= .inr (.inl false)))):=by
   intro hat;by_cases d1:s.l.getD j 0<0
   ·rw [if_pos d1];exact .inr ⟨_,rfl,.inr ⟨badC fun h=>by have:=colOk_iff.1 h;omega,rfl⟩⟩
   rw [if_neg d1];by_cases d2:s.l.getD j 0 ≥ s.l.getD (j+1) 0
   ·rw [if_pos d2];exact .inr ⟨_,rfl,.inr ⟨badC fun h=>by have:=colOk_iff.1 h;omega,rfl⟩⟩
   rw [if_neg d2];by_cases d3:s.l.getD (j+1) 0>((t.l.length:Nat):Int)
   ·rw [if_pos d3];exact .inr ⟨_,rfl,.inr ⟨badC fun h=>by have:=colOk_iff.1 h;omega,rfl⟩⟩
   rw [if_neg d3];obtain⟨q,q1,q2⟩:=Oh (nn:=0) (c:=r) (v:=v) hs ht hl tl hj ⟨by omega,by omega,by omega⟩ hn;rw [q1];rcases q2 with⟨e,rfl⟩|⟨e,rfl⟩
   ·refine .inl ⟨_,rfl,rfl,fun i hi=> ?_⟩;by_cases e':i=j
    ·rw [e'];exact⟨hat,colOk_iff.2 ⟨by omega,by omega,by omega,e⟩⟩
    ·exact ha i (by omega)
   ·exact .inr ⟨_,rfl,.inr ⟨badC fun h=>(by have:=(colOk_iff.1 h).2.2.2;rw [e]at this;cases this),rfl⟩⟩
  by_cases c3:(j:Int)>0
  ·rw [if_pos c3,fM (n:=(j:Int) - 1) (by omega) (by omega)];have ep:=bI hA (j:=j - 1) (by omega);rw [←cm,show((j - 1:Nat):Int)=(j:Int) - 1 by omega]at ep;rw [ep];simp only [zbS];by_cases c4:a.l.getD j 0≤a.l.getD (j - 1) 0
   ·rw [if_pos c4];exact .inr ⟨_,rfl,.inr ⟨badA fun h=>by have:=of_decide_eq_true h;omega,rfl⟩⟩
   rw [if_neg c4];exact rest (by unfold tJ;rw [decide_eq_true_eq];omega)
  ·rw [if_neg c3];exact rest (by unfold tJ;rw [decide_eq_true_eq];omega)
 ·rintro _ ⟨rfl,ha⟩;exact⟨_,if_neg (show¬((a.l.length:Nat):Int)<((a.l.length:Nat):Int)by omega),.inl ⟨ha,rfl⟩⟩
theorem sJ{c:Cx}(h:OkC c):jG c=some (mf c):=by
 obtain⟨r,k,a,s,t,v⟩:=c;obtain⟨o1,o2,o3,o4,vv,la,ls,lr,lv⟩:=h;simp only at o1 o2 o3 o4 vv la ls lr lv;rw [AA];simp only;by_cases a1:r<0
 ·rw [if_pos a1];exact gV fun h=>by have:=(bE h).1;simp only at this;omega
 rw [if_neg a1];by_cases a2:r>4096
 ·rw [if_pos a2];exact gV fun h=>by have:=(bE h).1;simp only at this;omega
 rw [if_neg a2];by_cases a3:k<0
 ·rw [if_pos a3];exact gV fun h=>by have:=(bE h).2.1;simp only at this;omega
 rw [if_neg a3];by_cases a4:k>4096
 ·rw [if_pos a4];exact gV fun h=>by have:=(bE h).2.1;simp only at this;omega
 rw [if_neg a4,fM (n:=((a.l.length:Nat):Int)+1) (by omega) (by omega)];by_cases g1:s.l.length=a.l.length+1
 rotate_left
 ·rw [if_pos (by omega)];exact gV fun h=>g1 (bE h).2.2.1
 rw [if_neg (by omega)];by_cases g4:t.l.length=v.l.length
 rotate_left
 ·rw [if_pos (by omega)];exact gV fun h=>g4 (bE h).2.2.2.2.2.1
 rw [if_neg (by omega)];by_cases g5:t.l.length≤65536
 rotate_left
 ·rw [if_pos (by omega)];exact gV fun h=>g5 (bE h).2.2.2.2.2.2.1
 rw [if_neg (by omega)];have e0:=bI o2 (j:=0) (by omega);rw [←cm]at e0;have e0':atS 1 s 0=some (s.l.getD 0 0):=e0;rw [e0'];simp only [zbS];by_cases g2:s.l.getD 0 0=0
 rotate_left
 ·rw [if_pos g2];exact gV fun h=>g2 (bE h).2.2.2.1
 rw [if_neg (fun h=>h g2)];have en:=bI o2 (j:=a.l.length) (by omega);rw [←cm]at en;rw [en];simp only [zbS];by_cases g6:s.l.getD a.l.length 0=((t.l.length:Nat):Int)
 rotate_left
 ·rw [if_pos g6];exact gV fun h=>g6 (bE h).2.2.2.2.2.2.2.1
 rw [if_neg (fun h=>h g6)];obtain⟨q,q1,q2⟩:=PP (r:=r) (k:=k) (v:=v) o1 o2 o3 la g1 g5;rw [q1];rcases q2 with⟨e,rfl⟩|⟨e,rfl⟩
 ·have g3:gP (-1) k a.l=true:=atOk_all.2 fun j hj=>(e j hj).1;rw [wO (sizeF_iff.2 ⟨by simp only;omega,by simp only;omega⟩) (sizeF_iff.2 ⟨by simp only;omega,by simp only;omega⟩) g1 g2 g3 g4 g5 g6,all_range.2 fun j hj=>(e j hj).2];rfl
 ·exact gV fun h=>e fun j hj=>⟨atOk_all.1 (bE h).2.2.2.2.1 j hj,(bE h).2.2.2.2.2.2.2.2 j hj⟩
def adA:Cx:=(0,0,gU,⟨true,1,[0]⟩,gU,gU)
theorem WB:IsC adA 0 0 []:=⟨by omega,by omega,by simp,List.Pairwise.nil,fun x hx=>by simp at hx,fun x hx=>by simp at hx,rfl,rfl,rfl,rfl,rfl,rfl,kR,.inr rfl,kR,kR⟩
section
variable {c : Cx} {n k : Int} {T : List E3}
theorem IsC.ok(h:IsC c n k T):OkC c:=by
 have:=h.atLen
 have:=h.stLen
 have:=h.len
 refine⟨h.o3,h.o4,h.o5,h.o6,fun y hy=> ?_,by omega,by omega,?_,?_⟩
 ·rw [h.e6]at hy;obtain⟨x,hx,rfl⟩:=List.mem_map.1 hy;exact h.v x hx
 ·rw [h.e5,List.length_map];omega
 ·rw [h.e6,List.length_map];omega
theorem getD_some{l:List Int}{i:Nat}{x:Int}(h:l[i]? =some x):l.getD i 0=x:=by rw [List.getD_eq_getElem?_getD,h];rfl
theorem IsC.right(h:IsC c n k T):mf c=true:=by
 have hl:=h.last;have hlen:=h.len;rw [wO (sizeF_iff.2 (by rw [h.e1];exact h.hn)) (sizeF_iff.2 (by rw [h.e2];exact h.hk)) h.stLen (by rw [h.e4];rfl) ?_ (by rw [h.e5,h.e6,List.length_map,List.length_map]) (by rw [h.e5,List.length_map];exact hlen) (by rw [getD_some hl,h.e5,List.length_map])]
 ·refine all_range.2 fun i hi=>colOk_iff.2 ?_;obtain⟨jn,e1,h1,h2,h3,h4⟩:=h.at_ge (List.getElem?_eq_getElem hi);rw [getD_some h3,getD_some h4,h.e5,List.length_map];have h5:aQ T jn<aQ T (jn+1):=by simpa [neC]using h2
  have h6:=pn T (jn+1);refine⟨by omega,by omega,by omega,?_⟩;rw [ou];unfold cN;rw [Int.toNat_natCast,Int.toNat_natCast,(nv h.r jn).2,←vd,ascI_iff'];refine⟨WA h.r _,fun x hx=> ?_⟩;obtain⟨y,hy,rfl⟩:=List.mem_map.1 hx
  have:=(h.p y (lJ hy).1).2
  rw [h.e1];omega
 ·rw [h.e2,ascI_iff'];refine⟨h.asc,fun x hx=> ?_⟩;rw [h.e3]at hx;obtain⟨j,rfl,h1,_⟩:=cols_mem.1 hx;omega
theorem sK(h:IsC c n k T):eQ c=some c:=by rw [sG,sJ h.ok,h.right];rfl
theorem Ts(ok:OkC c):∃q n k T,oh c=some q∧eQ c=some q∧IsC q n k T:=by
 rw [uQ,sG,GB ok,sJ ok];simp only [zbS];by_cases h:mf c=true
 ·rw [if_pos h];exact⟨_,_,_,_,rfl,rfl,PM ok h⟩
 ·rw [if_neg h];exact⟨adA,_,_,_,rfl,rfl,WB⟩
end
end
section
open Go Sm
section
variable {m : Mx} {n k : Int} {l T : List E3} {c : Cx}
theorem IsC.at_ro(h:IsC c n k T){i:Nat}(hi:i<T.length):atS 1 c.2.2.2.2.1 (i:Int)=some T[i].2.1:=jH h.o5 (by rw [h.e5,List.getElem?_map,List.getElem?_eq_getElem hi];rfl)
theorem IsC.at_va(h:IsC c n k T){i:Nat}(hi:i<T.length):atS 1 c.2.2.2.2.2 (i:Int)=some T[i].2.2:=jH h.o6 (by rw [h.e6,List.getElem?_map,List.getElem?_eq_getElem hi];rfl)
theorem PQ{α:Type}{l:List α}{a b i:Nat}(hb:b≤l.length)(hi:a+i<b):((l.drop a).take (i+1))=(l.drop a).take i++ [l[a+i]]:=by
 rw [List.take_add_one,List.getElem?_drop,List.getElem?_eq_getElem (by omega)];rfl
end
end
section
open Go Sm
section
variable {m : Mx} {n c : Int} {l : List E3}
end
end
section
open Go Sm
section
variable {m m' : Mx} {n c : Int} {l : List E3}
end
end
section
open Go Sm
theorem pw{R:Rg}{k:Ky}:∀{l:List E3} {f:Ky→Option V},k ∉ l.map key→l.foldl (Sm.upd R) f k=f k
 | [],f,_=>rfl
 |e::l,f,h=>by
  simp only [List.map_cons,List.mem_cons,not_or]at h;rw [List.foldl_cons,pw h.2];unfold Sm.upd;rw [if_neg h.1]
theorem Ef{R:Rg}:∀{l:List E3} {f:Ky→Option V},(l.map key).Nodup→(∀k,f k=none)→∀e∈l,l.foldl (Sm.upd R) f (key e)=some (R.o e.2.2)
 | [],_,_,_,e,he=>by simp at he
 |x::l,f,hn,hf,e,he=>by
  rw [List.map_cons,List.nodup_cons]at hn;rw [List.foldl_cons];rcases List.mem_cons.1 he with rfl|he
  ·rw [pw hn.1];unfold Sm.upd;rw [if_pos rfl,hf]
  ·-- the first one is another place
   have key2:∀{l:List E3} {f g:Ky→Option V},(∀k∈l.map key,f k=g k)→∀k∈l.map key,l.foldl (Sm.upd R) f k=l.foldl (Sm.upd R) g k:=by
    intro l
    induction l with
    |nil=>intro f g _ k hk;simp at hk
    |cons y l ih=>
     intro f g hfg k hk;rw [List.foldl_cons,List.foldl_cons]
     have hu:∀k',k'∈(y::l).map key→Sm.upd R f y k'=Sm.upd R g y k':=fun k' hk'=>by
      unfold Sm.upd;rw [hfg (key y) (by simp),hfg k' hk']
     by_cases hkl:k∈l.map key
     ·exact ih (fun k' hk'=>hu k' (by rw [List.map_cons];exact List.mem_cons_of_mem _ hk')) k hkl
     ·rw [pw hkl,pw hkl];exact hu k hk
   rw [key2 (g:=fun _=>none) (fun k hk=> ?_) (key e) (List.mem_map_of_mem he)]
   ·exact Ef hn.2 (fun _=>rfl) e he
   ·unfold Sm.upd;rw [if_neg fun h=>hn.1 (by rw [←h];exact hk),hf]
theorem Ol{R:Rg}{l:List E3}(hn:(l.map key).Nodup){e:E3}(he:e∈l):fm R l (key e)=some (R.o e.2.2):=Ef hn (fun _=>rfl) e he
theorem Tt{r:Int}{l l':List E3}(hp:l'.Perm l)(hr:dM l')(hw:∀x∈l',cH x.2.2):sumR (RG r) l=(l',0):=by
 have hn':(l'.map key).Nodup:=by
  show List.Pairwise _ _;rw [List.pairwise_map];exact hr.imp fun{a b} h=>SR h
 have hn:(l.map key).Nodup:=(hp.map key).nodup_iff.1 hn'
 have hf:fm (RG r) l=fm (RG r) l':=by
  funext k;by_cases hk:∃e∈l,key e=k
  ·obtain⟨e,he,rfl⟩:=hk;rw [Ol hn he,Ol hn' (hp.mem_iff.2 he)]
  ·have h1:fm (RG r) l k=none:=by
    cases h:fm (RG r) l k with
    |none=>rfl
    |some z=>exact absurd (FS h) hk
   have h2:fm (RG r) l' k=none:=by
    cases h:fm (RG r) l' k with
    |none=>rfl
    |some z=>
     obtain⟨e,he,h3⟩:=FS h;exact absurd ⟨e,hp.mem_iff.1 he,h3⟩ hk
   rw [h1,h2]
 have hc:canS (RG r) l=canS (RG r) l':=(zp (RG r) l).uniq (by rw [hf];exact zp (RG r) l')
 have:sumR (RG r) l=sumR (RG r) l':=by unfold sumR;rw [hc]
 rw [this,Me hr hw]
section
variable {m : Mx} {n k : Int} {l T : List E3} {c : Cx}
theorem Tu(hn:0≤n∧n≤4096)(hk:0≤k∧k≤4096){r:Int}(hr:lY r=true){l':List E3}(hp:l'.Perm l)(h:dM l')(hl:l.length≤65536)(hi:∀x∈l,(0≤x.1∧x.1<n)∧0≤x.2.1∧x.2.1<k)(hw:∀x∈l',cH x.2.2):ofV r n k l=(nV n k l',0):=by
 have hall:l.all (inM n k)=true:=by
  rw [List.all_eq_true];intro y hy;unfold inM;rw [decide_eq_true_eq]
  have:=hi y hy
  omega
 unfold ofV;rw [if_pos hr,if_pos ⟨sizeF_iff.2 hn,sizeF_iff.2 hk⟩,if_pos hl,if_pos hall,Tt hp h hw];rfl
theorem Tv(h:dM T)(j:Nat):T.take (aQ T (j+1))=T.take (aQ T j)++kT T (j:Int):=by
 obtain⟨h1,h2⟩:=nv h j;rw [vd,←h2,show aQ T (j+1)=aQ T j+(aQ T (j+1) - aQ T j)by omega,List.take_add,show aQ T j+(aQ T (j+1) - aQ T j) - aQ T j=aQ T (j+1) - aQ T j by omega]
def jz(c:Cx)(T:List E3)(i:Nat):List E3:=T.take (c.2.2.2.1.l.getD i 0).toNat
theorem IsC.first(h:IsC c n k T){i:Nat}(hi:i<c.2.2.1.l.length):∃f t j:Nat,c.2.2.1.l[i]=(j:Int)∧atS 1 c.2.2.1 (i:Int)=some (j:Int)∧atS 1 c.2.2.2.1 (i:Int)=some (f:Int)∧atS 1 c.2.2.2.1 ((i+1:Nat):Int)=some (t:Int)∧f≤t∧t≤T.length∧(T.drop f).take (t - f)=kT T (j:Int)∧jz c T (i+1)=jz c T i++kT T (j:Int)∧t - f=(kT T (j:Int)).length:=by
 obtain⟨jn,j1,j2,j3,j4,j5⟩:=h.at_ge (List.getElem?_eq_getElem hi);have hc:=vh T jn;refine⟨_,_,jn,j1,by rw [jH h.o3 (List.getElem?_eq_getElem hi),j1],jH h.o4 j4,jH h.o4 j5,by omega,pn _ _,by rw [(nv h.r jn).2,vd],?_,by omega⟩;unfold jz;rw [getD_some j4,getD_some j5,Int.toNat_natCast,Int.toNat_natCast,Tv h.r]
theorem IsC.first_zero(h:IsC c n k T):jz c T 0= []:=by unfold jz;rw [h.e4];rfl
theorem IsC.first_all(h:IsC c n k T):jz c T c.2.2.1.l.length=T:=by
 unfold jz;rw [getD_some h.last,Int.toNat_natCast,List.take_length]
theorem ny(h:IsC c n k T){f t j x:Nat}(ht:t≤T.length)(hr:(T.drop f).take (t - f)=kT T (j:Int))(hx:f+x<t):(T[f+x]'(by omega)).1=(j:Int):=by
 have:T[f+x]'(by omega)∈kT T (j:Int):=by
  rw [←hr];refine List.mem_iff_getElem?.2 ⟨x,?_⟩;rw [List.getElem?_take_of_lt (by omega),List.getElem?_drop,List.getElem?_eq_getElem (by omega)]
 exact(lJ this).2
theorem Dk(h:IsC c n k T):∃m',eT c=some m'∧Is m' n k (jh T):=by
 have hL:=h.atLen;have hS:=h.stLen;have hlen:=h.len;rw [nT,sK h];simp only [zbS]
 have q:aM (lq c) ([],0)=some (.inl (T.map jg)):=by
  rw [show T.map jg=(jz c T c.2.2.1.l.length).map jg by rw [h.first_all]];refine oq c.2.2.1.l.length (fun i=>((jz c T i).map jg,(i:Int))) ?_ (fun i hi=> ?_) ?_
  ·rw [h.first_zero];rfl
  ·obtain⟨f,t,j,j0,j1,j2,j3,j4,j5,j6,j7,j8⟩:=h.first hi;have w1:IntKind.i64.wrap ((i:Int)+1)=((i+1:Nat):Int):=cX hi (by omega);have hfl:(jz c T i).length≤65536:=by unfold jz;rw [List.length_take];omega
   simp only [lq,w1];rw [if_pos (by omega),if_pos (by omega),j2];simp only [zbS]
   have q2:aM (ln c ((jz c T i).map jg,(i:Int))) ((jz c T i).map jg,(f:Int))=some (.inl ((jz c T (i+1)).map jg)):=by
    rw [j7,←j6];refine oq (t - f) (fun x=>((jz c T i++(T.drop f).take x).map jg,((f+x:Nat):Int))) ?_ (fun x hx=> ?_) ?_
    ·simp
    ·have a1:=h.at_ro (i:=f+x) (by omega);have a2:=h.at_va (i:=f+x) (by omega);have a3:=ny h (x:=x) j5 j6 (by omega);simp only [ln,w1,j3,j1,a1,a2,zbS];rw [if_pos (by omega),mm (by simp;unfold cS;omega),fM (by omega) (by omega),PQ j5 (by omega),←a3];simp only [List.map_append,List.map_cons,List.map_nil,List.append_assoc];rfl
    ·simp only [ln,w1,j3,zbS];rw [if_neg (by omega)]
   rw [q2];rfl
  ·simp only [lq];rw [if_neg (by omega)]
 rw [q];simp only [zbS,Sum.elim_inl];have ht:∀x∈jh T,cH x.2.2:=fun x hx=>h.v (jg x) (turn_mem.1 hx)
 have hpt:∀x∈T.map jg,(0≤x.1∧x.1<n)∧0≤x.2.1∧x.2.1<k:=fun x hx=>by
  have:=h.p _ (mem_flip.1 hx)
  exact⟨this.2,this.1⟩
 rw [Mf (oo _),kI,h.e1,h.e2,Tu h.hn h.hk (by decide) (rI T) (mR h.r) (by rw [List.length_map];exact hlen) hpt ht];exact⟨_,rfl,aaB h.hn h.hk (by rw [Tn];exact hlen) (mR h.r) (fun x hx=>by have:=h.p _ (turn_mem.1 hx);exact⟨this.2,this.1⟩) ht⟩
end
end
section
open Go Sm
section
variable {m a : Mx} {n k : Int} {l T : List E3} {c q : Cx}
theorem yW(h:eQ c=some q)(hq:IsC q n k T):eQ q=eQ c:=by rw [h,sK hq]
theorem Mk(h:eQ c=some q)(hq:IsC q n k T):eT c=eT q:=by
 rw [nT,nT,yW h hq]
end
end
end KM
end Ev
end
end Go.Proofs.Ytjjbpdldbdmoeaa
