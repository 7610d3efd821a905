/- Texts of a claim, joined. -/
import Derived.Test.YtgefmokmjdeecaaDoorZT15
import Derived.Test.YtgefmokmjdeecaaDoorZT9
set_option linter.unusedVariables false
set_option linter.unusedSimpArgs false
namespace Go.Proofs.YtgefmokmjdeecaaDoor
noncomputable section
namespace Ev
namespace KM
section
open Go
def cK(n:Int):Prop:= -9223372036854775808≤n∧n≤9223372036854775807
def eh(n:Int):Prop:=0≤n∧n≤18446744073709551615
theorem wrap_u64(n:Int):IntKind.u64.wrap n=n % 18446744073709551616:=by
 simp [IntKind.wrap,IntKind.signed,IntKind.bits]
theorem mM(n:Int):eh (IntKind.u64.wrap n):=by rw [wrap_u64];unfold eh;omega
theorem NO{n:Int}(h:eh n):IntKind.u64.wrap (IntKind.i64.wrap n)=n:=by rw [wrap_u64,IntKind.wrap_i64];unfold eh at h;omega
theorem uz(n:Int):cK (IntKind.i64.wrap n):=by rw [IntKind.wrap_i64];unfold cK;omega
def ofW(n:Int):Int×Int:=(if n<0 then -1 else 0,IntKind.u64.wrap n)
theorem zh(n:Int):eh (ofW n).2:=mM n
def zi(a b:Int×Int):Bool:=decide (a.1<b.1)||(decide (a.1=b.1)&& decide (a.2<b.2))
def mN(a b:Int×Int):Int×Int:=if zi b a=true then b else a
def nX(b:Bool):Int×Int:=if b=true then(0,1)else(0,0)
def xV(a b:Int×Int):Int×Int:=if IntKind.u64.wrap (a.2+b.2)<a.2 then(IntKind.i64.wrap (IntKind.i64.wrap (a.1+b.1)+1),IntKind.u64.wrap (a.2+b.2))else(IntKind.i64.wrap (a.1+b.1),IntKind.u64.wrap (a.2+b.2))
def gT(r:Int)(a b:Int×Int):Int×Int:=
 if r=1∨r=3∨r=4 then mN a b else if r=2 then nX (!(decide (a.1=0∧a.2=0)&& decide (b.1=0∧b.2=0)))else if r=5 then xV a b else(0,0)
def cN(a:Int×Int):Int×Bool:=if a=ofW (IntKind.i64.wrap a.2)then(IntKind.i64.wrap a.2,true)else(0,false)
def zj(r:Int):Bool:=decide (1≤r)&& decide (r≤5)
theorem zk{r:Int}{a b:Int×Int}(ha:eh a.2)(hb:eh b.2):eh (gT r a b).2:=by
 have h0:eh 0:=by unfold eh;omega
 have h1:eh 1:=by unfold eh;omega
 unfold gT mN nX xV;split
 ·split<;>assumption
 ·split
  ·split<;>assumption
  ·split
   ·split<;>exact mM _
   ·exact h0
end
section
open Go
def okS{α:Type}(w:Nat)(s:Sl α):Prop:=s.l= []∨s.sz=w
theorem SlW.ok{α:Type}{w:Nat}{Q:α→Prop}{s:Sl α}(h:SlW w Q s):okS w s:= .inr h.1
def eW{α:Type}:Sl α:=⟨false,0,[]⟩
theorem ik{α:Type}{w:Nat}:okS w (eW:Sl α):= .inl rfl
theorem lu{α:Type}{w:Nat}(l:List α):okS w (mo w l):=by cases l with|nil=>exact .inl rfl|cons x l=>exact .inr rfl
theorem cv{α:Type}{l:List α}{j:Nat}{x:α}(h:l[j]? =some x):atL l (j:Int)=some x:=by
 have hj:=(List.getElem?_eq_some_iff.1 h);rw [LG hj.1,hj.2]
theorem du{α:Type}{w:Nat}{s:Sl α}(hs:okS w s){j:Nat}{x:α}(h:s.l[j]? =some x):atS w s (j:Int)=some x:=by
 have hj:=(List.getElem?_eq_some_iff.1 h);rw [bu hs hj.1,hj.2]
theorem NP{A R:Type}{b:A→Option (A ⊕ R)}(n:Nat)(st:Nat→A){r:R}(hs:∀j,j<n→b (st j)=some (.inl (st (j+1))))(he:b (st n)=some (.inr r)):aL b (st 0)=some r:=by
 obtain⟨q,h1,h2⟩:=bK (b:=b) n (fun j a=>a=st j) (fun q=>q=r) (fun j a hj ha=> .inl ⟨st (j+1),by rw [ha];exact hs j hj,rfl⟩) (fun a ha=>⟨r,by rw [ha];exact he,rfl⟩) 0 (Nat.zero_le _) (st 0) rfl;rw [h1,h2]
theorem iM{A R:Type}{b:A→Option (A ⊕ R)}(n:Nat)(st:Nat→A){a:A}(ha:a=st 0){r:R}(hs:∀j,j<n→b (st j)=some (.inl (st (j+1))))(he:b (st n)=some (.inr r)):aL b a=some r:=by rw [ha];exact NP n st hs he
theorem all_range{n:Nat}{p:Nat→Bool}:(List.range n).all p=true↔∀i,i<n→p i=true:=by
 rw [List.all_eq_true];exact⟨fun h i hi=>h i (List.mem_range.2 hi),fun h i hi=>h i (List.mem_range.1 hi)⟩
theorem oF{n i:Nat}{p:Nat→Bool}(hi:i<n)(h:p i=false):(List.range n).all p=false:=by
 rw [Bool.eq_false_iff];intro ha;rw [all_range.1 ha i hi]at h;cases h
theorem iN{l:List Int}{j:Nat}(h:j<l.length):l.getD j 0=l[j]:=by rw [List.getD_eq_getElem?_getD,List.getElem?_eq_getElem h];rfl
def dk(n:Int):Bool:=decide (0≤n)&& decide (n≤4096)
theorem sizeF_iff{n:Int}:dk n=true↔0≤n∧n≤4096:=by unfold dk;simp
theorem Ld{n:Int}(h:0≤n∧n≤4096):gU (n+1)=some ():=by unfold gU cd;rw [if_pos ⟨by omega,by omega⟩]
theorem UO{n:Nat}(h:n≤1000000):gU (n:Int)=some ():=by unfold gU cd;rw [if_pos ⟨by omega,by omega⟩]
end
section
open Go
abbrev Mx:=Int×Int×Sl Int×Sl Int×Sl Int
abbrev E3:=Int×Int×Int
def il:Int→Int→List Int→Bool
 |_,_,[]=>true
 |a,n,x::l=>decide (a<x)&& decide (x<n)&& il x n l
theorem rC(a n x:Int)(l:List Int):il a n (x::l)=(decide (a<x)&& decide (x<n)&& il x n l):=rfl
theorem ascI_iff'{n:Int}:∀{l:List Int} {a:Int},il a n l=true↔l.Pairwise (·<·)∧∀x∈l,a<x∧x<n
 | [],a=>by simp [il]
 |x::l,a=>by
  rw [rC,Bool.and_eq_true,Bool.and_eq_true,decide_eq_true_eq,decide_eq_true_eq,ascI_iff',List.pairwise_cons];constructor
  ·rintro⟨⟨h1,h2⟩,h3,h4⟩;refine⟨⟨fun y hy=>(h4 y hy).1,h3⟩,fun y hy=> ?_⟩;rcases List.mem_cons.1 hy with rfl|hy
   ·exact⟨h1,h2⟩
   ·have:=h4 y hy;omega
  ·rintro⟨⟨h1,h2⟩,h3⟩;exact⟨h3 x (by simp),h2,fun y hy=>⟨h1 y hy,(h3 y (by simp [hy])).2⟩⟩
theorem zl(n:Int):fh n=some (dk n):=by
 rw [nA];unfold dk;by_cases h1:n ≥ 0
 ·rw [if_pos h1,decide_eq_true (show 0≤n from h1)];simp
 ·rw [if_neg h1,decide_eq_false (show¬0≤n from h1)];rfl
theorem xi(s:Sl Int)(n:Int)(hok:okS 1 s)(hl:s.l.length≤9223372036854775807):fe s n=some (il (-1) n s.l):=by
 rw [ma]
 obtain⟨r,h1,h2⟩:=bK (b:=dU s n) s.l.length (fun j a=>∃la,a=(la,(j:Int))∧il (-1) n s.l=il la n (s.l.drop j)) (fun r=>(il (-1) n s.l=true∧r= .inl ())∨(il (-1) n s.l=false∧r= .inr (.inl false)))
  (by
   rintro j _ hj ⟨la,rfl,ha⟩;rw [List.drop_eq_getElem_cons hj,rC]at ha;simp only [dU,bu hok hj,zbS,bL hj hl];rw [if_pos (by omega)];by_cases c1:s.l[j]≤la
   ·refine .inr ⟨_,if_pos c1,.inr ⟨?_,rfl⟩⟩;rw [ha,decide_eq_false (by omega)];rfl
   ·rw [if_neg c1];by_cases c2:s.l[j]≥ n
    ·refine .inr ⟨_,if_pos c2,.inr ⟨?_,rfl⟩⟩;rw [ha,decide_eq_false (p:=s.l[j]<n) (by omega)];simp
    ·refine .inl ⟨_,if_neg c2,_,rfl,?_⟩
     rw [ha,decide_eq_true (by omega),decide_eq_true (by omega)];rfl)
  (by
   rintro _ ⟨la,rfl,ha⟩;refine⟨_,if_neg (by simp only;omega),.inl ⟨?_,rfl⟩⟩
   rw [ha,List.drop_length];rfl) 0 (Nat.zero_le _) (-1,0) ⟨-1,rfl,rfl⟩
 rw [h1];rcases h2 with⟨h3,rfl⟩|⟨h3,rfl⟩<;>rw [h3]<;>rfl
def eH{α:Type}(l:List α)(f t:Int):List α:=(l.drop f.toNat).take (t.toNat - f.toNat)
theorem ke{α:Type}{l:List α}{f t:Int}(h:0≤f∧f≤t∧t≤l.length):(eH l f t).length=t.toNat - f.toNat:=by
 unfold eH;simp;omega
def gG(c:Int)(st co:List Int)(i:Nat):Bool:=decide (0≤st.getD i 0)&&(decide (st.getD i 0≤st.getD (i+1) 0)&&(decide (st.getD (i+1) 0≤co.length)&& il (-1) c (eH co (st.getD i 0) (st.getD (i+1) 0))))
def eX(m:Mx):Bool:=dk m.1 &&(dk m.2.1 &&(decide ((m.2.2.1.l.length:Int)=m.1+1)&&(decide (m.2.2.1.l.getD 0 0=0)&&(decide (m.2.2.2.1.l.length=m.2.2.2.2.l.length)&&(decide (m.2.2.2.1.l.length≤65536)&&(decide (m.2.2.1.l.getD m.1.toNat 0=m.2.2.2.1.l.length)&&(List.range m.1.toNat).all (gG m.2.1 m.2.2.1.l m.2.2.2.1.l)))))))
structure OkM(m:Mx):Prop where
 st:okS 1 m.2.2.1
 co:okS 1 m.2.2.2.1
 va:okS 1 m.2.2.2.2
 v64:∀x∈m.2.2.2.2.l,cK x
 sl:m.2.2.1.l.length≤9223372036854775807
 cl:m.2.2.2.1.l.length≤9223372036854775807
 vl:m.2.2.2.2.l.length≤9223372036854775807
theorem im{n:Nat}{c:Int}{st co:List Int}{i:Nat}(hi:i<n)(h:gG c st co i=false):(List.range n).all (gG c st co)=false:=oF hi h
theorem zm{n:Nat}{c:Int}{s t v:Sl Int}(hs:okS 1 s)(ht:okS 1 t)(hn:n≤4096)(hl:s.l.length=n+1)(h0:s.l.getD 0 0=0)(tl:t.l.length≤65536):∃q,aL (cX ((n:Int),c,s,t,v)) 0=some q∧(((List.range n).all (gG c s.l t.l)=true∧q= .inl ())∨((List.range n).all (gG c s.l t.l)=false∧q= .inr (.inl false))):=by
 refine bK (b:=cX ((n:Int),c,s,t,v)) n (fun j a=>a=(j:Int)∧0≤s.l.getD j 0∧∀i,i<j→gG c s.l t.l i=true) _ ?_ ?_ 0 (Nat.zero_le _) 0 ⟨rfl,by omega,fun i hi=>absurd hi (by omega)⟩
 ·rintro j _ hj ⟨rfl,hp,ha⟩;have e1:=bu hs (j:=j) (by omega);have e2:=bu hs (j:=j+1) (by omega);rw [←iN]at e1 e2;simp only [cX,e1,zbS,bL hj (by omega)];rw [if_pos (by omega),e2];simp only [zbS];by_cases c1:s.l.getD (j+1) 0<s.l.getD j 0
  ·rw [if_pos c1];exact .inr ⟨_,rfl,.inr ⟨im hj (by unfold gG;rw [decide_eq_false (p:=s.l.getD j 0≤s.l.getD (j+1) 0) (by omega)];simp),rfl⟩⟩
  rw [if_neg c1];by_cases c2:s.l.getD (j+1) 0>((t.l.length:Nat):Int)
  ·rw [if_pos c2];exact .inr ⟨_,rfl,.inr ⟨im hj (by unfold gG;rw [decide_eq_false (p:=s.l.getD (j+1) 0≤(t.l.length:Int)) (by omega)];simp),rfl⟩⟩
  rw [if_neg c2]
  have hc:kq 1 t (s.l.getD j 0) (s.l.getD (j+1) 0)=some ⟨t.nn,t.sz,eH t.l (s.l.getD j 0) (s.l.getD (j+1) 0)⟩:=by
   unfold kq
   have hz:t.sz=1∨s.l.getD j 0=0:=by
    rcases ht with h|h
    ·right;rw [h]at c2;simp only [List.length_nil]at c2;omega
    ·exact .inl h
   rw [if_pos ⟨hp,by omega,by omega,hz⟩];rfl
  rw [hc];simp only [zbS];have hcl:(eH t.l (s.l.getD j 0) (s.l.getD (j+1) 0)).length≤65536:=by rw [ke ⟨hp,by omega,by omega⟩];omega
  have hok:okS 1 (⟨t.nn,t.sz,eH t.l (s.l.getD j 0) (s.l.getD (j+1) 0)⟩:Sl Int):=by
   rcases ht with h|h
   ·left;unfold eH;simp [h]
   ·exact .inr h
  rw [xi _ c hok (show(eH t.l (s.l.getD j 0) (s.l.getD (j+1) 0)).length≤_ by omega)];simp only [zbS]
  have hr:gG c s.l t.l j=il (-1) c (eH t.l (s.l.getD j 0) (s.l.getD (j+1) 0)):=by
   unfold gG;rw [decide_eq_true hp,decide_eq_true (p:=s.l.getD j 0≤s.l.getD (j+1) 0) (by omega),decide_eq_true (p:=s.l.getD (j+1) 0≤(t.l.length:Int)) (by omega)];simp
  cases hb:il (-1) c (eH t.l (s.l.getD j 0) (s.l.getD (j+1) 0))with
  |true=>
   rw [if_neg (by simp)];refine .inl ⟨_,rfl,rfl,by omega,fun i hi=> ?_⟩;by_cases e:i=j
   ·rw [e,hr,hb]
   ·exact ha i (by omega)
  |false=>
   rw [if_pos (by simp)];exact .inr ⟨_,rfl,.inr ⟨im hj (by rw [hr,hb]),rfl⟩⟩
 ·rintro _ ⟨rfl,hp,ha⟩;exact⟨_,if_neg (by omega),.inl ⟨all_range.2 ha,rfl⟩⟩
theorem GR{m:Mx}(h:OkM m):eE m=some (eX m):=by
 obtain⟨n,c,s,t,v⟩:=m;obtain⟨h1,h2,h3,h4,h5,h6,h7⟩:=h;simp only at h1 h2 h3 h4 h5 h6 h7;rw [pG];unfold eX;simp only [zl,zbS]
 cases z1:dk n with
 |false=>rfl
 |true=>
  cases z2:dk c with
  |false=>rfl
  |true=>
   obtain⟨a1,a2⟩:=sizeF_iff.1 z1;simp only [Bool.true_and,not_true_eq_false,if_false];rw [bW (n:=n+1) (by omega) (by omega)];by_cases g1:((s.l.length:Nat):Int)=n+1
   ·rw [if_neg (fun h=>h g1),decide_eq_true g1];have e0:=bu h1 (j:=0) (by omega);rw [←iN]at e0;have e0':atS 1 s 0=some (s.l.getD 0 0):=e0;rw [e0'];simp only [zbS,Bool.true_and];by_cases g2:s.l.getD 0 0=0
    ·rw [if_neg (fun h=>h g2),decide_eq_true g2];simp only [Bool.true_and];by_cases g3:t.l.length=v.l.length
     ·rw [if_neg (fun h=>h (by omega)),decide_eq_true g3];simp only [Bool.true_and];by_cases g4:t.l.length≤65536
      ·rw [if_neg (by omega),decide_eq_true g4];simp only [Bool.true_and];obtain⟨k,rfl⟩:=Int.eq_ofNat_of_zero_le a1;have en:=bu h1 (j:=k) (by omega);rw [←iN]at en;rw [en];simp only [zbS,Int.toNat_natCast];by_cases g5:s.l.getD k 0=((t.l.length:Nat):Int)
       ·rw [if_neg (fun h=>h g5),decide_eq_true g5];simp only [Bool.true_and];obtain⟨q,q1,q2⟩:=zm (c:=c) (v:=v) h1 h2 (by omega) (n:=k) (by omega) g2 g4;rw [q1];rcases q2 with⟨e,rfl⟩|⟨e,rfl⟩<;>rw [e]<;>rfl
       ·rw [if_pos g5,decide_eq_false g5];rfl
      ·rw [if_pos (by omega),decide_eq_false g4];rfl
     ·rw [if_pos (fun h=>g3 (by omega)),decide_eq_false g3];rfl
    ·rw [if_pos g2,decide_eq_false g2];rfl
   ·rw [if_pos g1,decide_eq_false g1];rfl
end
section
open Go Sm
def bel(a b:E3):Bool:=klt (key a) (key b)
theorem bel_iff{a b:E3}:bel a b=true↔a.1<b.1∨a.1=b.1∧a.2.1<b.2.1:=by unfold bel klt key;simp
abbrev dm(l:List E3):Prop:=l.Pairwise fun a b=>bel a b=true
def dL(n:Nat)(f:Nat→Int):List Int:=(List.range (n+1)).map f
theorem dD(n:Nat)(f:Nat→Int):(dL n f).length=n+1:=by unfold dL;simp
theorem de{n k:Nat}(f:Nat→Int)(h:k≤n):(dL n f)[k]? =some (f k):=by
 unfold dL;rw [List.getElem?_map,List.getElem?_range (by omega)];rfl
theorem gb{n k:Nat}(f:Nat→Int)(h:k≤n):(dL n f).getD k 0=f k:=by rw [List.getD_eq_getElem?_getD,de f h];rfl
theorem dM{n:Nat}{f g:Nat→Int}(h:∀k,k≤n→f k=g k):dL n f=dL n g:=by
 unfold dL;refine List.map_congr_left fun k hk=>h k ?_;simp at hk;omega
theorem qO{n k:Nat}(f:Nat→Int)(v:Int)(h:k≤n):(dL n f).set k v=dL n fun i=>if i=k then v else f i:=by
 refine List.ext_getElem? fun i=> ?_;rw [List.getElem?_set];by_cases hi:i≤n
 ·rw [de _ hi];by_cases e:k=i
  ·subst e;rw [if_pos rfl,if_pos (by rw [dD];omega),de _ hi,if_pos rfl]
  ·rw [if_neg e,de _ hi,if_neg (Ne.symm e)]
 ·rw [if_neg (by omega)];rw [List.getElem?_eq_none (by rw [dD];omega),List.getElem?_eq_none (by rw [dD];omega)]
theorem rD(n:Nat):List.replicate (n+1) (0:Int)=dL n fun _=>0:=by
 refine List.ext_getElem? fun i=> ?_;by_cases hi:i≤n
 ·rw [de _ hi,List.getElem?_replicate,if_pos (by omega)]
 ·rw [List.getElem?_eq_none (by simp;omega),List.getElem?_eq_none (by rw [dD];omega)]
def aO(l:List E3)(k:Nat):Nat:=l.countP fun x=>decide (x.1<(k:Int))
theorem kV(l:List E3)(k:Nat):aO l k≤l.length:=List.countP_le_length
theorem GS(l:List E3)(x:E3)(k:Nat):aO (l++ [x]) k=aO l k+if x.1<(k:Int)then 1 else 0:=by
 unfold aO;rw [List.countP_append];congr 1;by_cases h:x.1<(k:Int)<;>simp [h]
theorem NQ{n:Nat}(hn:n≤4096){row:Nat}(hr:row<n){f:Nat→Int}(hf:∀k,0≤f k∧f k≤100000):aL (ij (n:Int)) ((((row+1:Nat):Int)),dL n f)=some (.inl (dL n fun i=>f i+if row<i then 1 else 0)):=by
 obtain⟨q,q1,q2⟩:=bK (b:=ij (n:Int)) (n - row) (fun j st=>st=(((row+1+j:Nat):Int),dL n fun i=>f i+if row<i∧i≤row+j then 1 else 0)) (fun q=>q= .inl (dL n fun i=>f i+if row<i then 1 else 0))
  (by
   rintro j _ hj rfl
   have hat:atL (dL n fun i=>f i+if row<i∧i≤row+j then 1 else 0) ((row+1+j:Nat):Int)=some (f (row+1+j)):=by
    unfold atL;rw [if_pos (by omega),Int.toNat_natCast,de _ (by omega),if_neg (by omega),Int.add_zero]
   have hfk:=hf (row+1+j);simp only [ij,hat,zbS,Int.toNat_natCast];rw [if_pos (by omega),bW (n:=f (row+1+j)+1) (by omega) (by omega),qO _ _ (by omega),bW (n:=((row+1+j:Nat):Int)+1) (by omega) (by omega)];refine .inl ⟨_,rfl,?_⟩;rw [Prod.mk.injEq];refine⟨by omega,dM fun i hi=> ?_⟩;by_cases e:i=row+1+j
   ·rw [if_pos e,e,if_pos (by omega)]
   ·rw [if_neg e];by_cases h1:row<i∧i≤row+j
    ·rw [if_pos h1,if_pos (by omega)]
    ·rw [if_neg h1,if_neg (by omega)])
  (by
   rintro _ rfl;refine⟨_,?_,rfl⟩;simp only [ij];rw [if_neg (by omega)];congr 3;refine dM fun i hi=> ?_;by_cases h1:row<i
   ·rw [if_pos h1,if_pos (by omega)]
   ·rw [if_neg h1,if_neg (by omega)]) 0 (Nat.zero_le _) (((row+1:Nat):Int),dL n f) (by
    rw [Prod.mk.injEq];refine⟨by omega,dM fun i hi=> ?_⟩
    rw [if_neg (by omega),Int.add_zero])
 rw [q1,q2]
def nk(n c:Int)(l:List E3):Mx:=(n,c,⟨true,1,dL n.toNat fun k=>((aO l k:Nat):Int)⟩,mo 1 (l.map (·.2.1)),mo 1 (l.map (·.2.2)))
theorem BF{n c:Int}(hn:0≤n∧n≤4096){s:Sl E3}(hs:okS 3 s)(hl:s.l.length≤65536)(hr:∀x∈s.l,0≤x.1∧x.1<n):jA n c s=some (nk n c s.l):=by
 obtain⟨k,rfl⟩:=Int.eq_ofNat_of_zero_le hn.1;rw [zf];unfold nk;rw [bW (by omega) (by omega),pW];have hlo:gU ((k:Int)+1)=some ():=by unfold gU cd;rw [if_pos ⟨by omega,by omega⟩]
 rw [hlo];have tk:((k:Int)+1).toNat=k+1:=by omega
 simp only [zbS,tk,Int.toNat_natCast];rw [rD]
 obtain⟨q,q1,q2⟩:=bK (b:=kd (k:Int) s) s.l.length (fun j st=>st=((j:Int),(k:Int),c,dL k (fun i=>((aO (s.l.take j) i:Nat):Int)),(s.l.take j).map (·.2.1),(s.l.take j).map (·.2.2))) (fun q=>q= .inl ((k:Int),c,dL k (fun i=>((aO s.l i:Nat):Int)),s.l.map (·.2.1),s.l.map (·.2.2)))
  (by
   rintro j _ hj rfl;have ej:=bu hs hj;have hx:=hr _ (List.getElem_mem hj);obtain⟨row,hrow⟩:=Int.eq_ofNat_of_zero_le hx.1;have hlen:(s.l.take j).length≤65536:=by simp;omega
   have ap1:app ((s.l.take j).map (·.2.1)) [s.l[j].2.1]=some ((s.l.take j).map (·.2.1)++ [s.l[j].2.1]):=gA (by simp at hlen ⊢;unfold cd;omega);have ap2:app ((s.l.take j).map (·.2.2)) [s.l[j].2.2]=some ((s.l.take j).map (·.2.2)++ [s.l[j].2.2]):=gA (by simp at hlen ⊢;unfold cd;omega);have hw:IntKind.i64.wrap (s.l[j].1+1)=((row+1:Nat):Int):=by rw [bW (by omega) (by omega)];omega
   have hin:=NQ (n:=k) (by omega) (row:=row) (by omega) (f:=fun i=>((aO (s.l.take j) i:Nat):Int)) (fun i=>by have:=kV (s.l.take j) i;omega);simp only [kd,ej,zbS,ap1,ap2,hw,hin,Sum.elim_inl,bL hj (by omega)];rw [if_pos (by omega)];refine .inl ⟨_,rfl,?_⟩;rw [List.take_succ_eq_append_getElem hj,List.map_append,List.map_append];simp only [List.map_cons,List.map_nil,Prod.mk.injEq,and_true,true_and];refine dM fun i hi=> ?_;rw [GS,hrow];by_cases h:row<i
   ·rw [if_pos h,if_pos (by omega)];omega
   ·rw [if_neg h,if_neg (by omega)];omega)
  (by
   rintro _ rfl;refine⟨.inl ((k:Int),c,dL k (fun i=>((aO s.l i:Nat):Int)),s.l.map (·.2.1),s.l.map (·.2.2)),?_,rfl⟩;simp only [kd]
   rw [if_neg (by omega),List.take_length]) 0 (Nat.zero_le _) (0,(k:Int),c,dL k (fun _=>0),[],[]) rfl
 rw [q1,q2];rfl
theorem oH{l:List E3}(h:l.Pairwise fun a b=>a.1≤b.1)(k:Int):(l.filter fun x=>decide (x.1<k))++(l.filter fun x=> !decide (x.1<k))=l:=by
 induction l with
 |nil=>rfl
 |cons x l ih=>
  rw [List.pairwise_cons]at h;have ih:=ih h.2;by_cases c:x.1<k
  ·rw [List.filter_cons_of_pos (by simp [c]),List.filter_cons_of_neg (by simp [c]),List.cons_append,ih]
  ·have e1:(l.filter fun x=>decide (x.1<k))= []:=by
    rw [List.filter_eq_nil_iff];intro y hy
    have:=h.1 y hy
    simp;omega
   rw [e1,List.nil_append]at ih;rw [List.filter_cons_of_neg (by simp [c]),List.filter_cons_of_pos (by simp [c]),e1,List.nil_append,ih]
theorem pH{l:List E3}(h:l.Pairwise fun a b=>a.1≤b.1)(k:Nat):l.take (aO l k)=(l.filter fun x=>decide (x.1<(k:Int)))∧l.drop (aO l k)=l.filter fun x=> !decide (x.1<(k:Int)):=by
 have e:=oH h (k:Int);have hl:aO l k=(l.filter fun x=>decide (x.1<(k:Int))).length:=by unfold aO;rw [List.countP_eq_length_filter]
 have key:∀A B:List E3,A++B=l→l.take A.length=A∧l.drop A.length=B:=by
  rintro A B rfl;exact⟨List.take_left,List.drop_left⟩
 rw [hl];exact key _ _ e
def qC(l:List E3)(i:Nat):List E3:=(l.filter fun x=> !decide (x.1<(i:Int))).filter fun x=>decide (x.1<((i+1:Nat):Int))
theorem rowE_mem{l:List E3}{i:Nat}{x:E3}:x∈qC l i↔x∈l∧x.1=(i:Int):=by
 unfold qC;simp only [List.mem_filter,Bool.not_eq_true',decide_eq_false_iff_not,decide_eq_true_eq];constructor
 ·rintro⟨⟨h1,h2⟩,h3⟩;exact⟨h1,by omega⟩
 ·rintro⟨h1,h2⟩;exact⟨⟨h1,by omega⟩,by omega⟩
theorem oI{l:List E3}(h:dm l):l.Pairwise fun a b=>a.1≤b.1:=h.imp fun hb=>by rw [bel_iff]at hb;omega
theorem mc{l:List E3}(h:dm l)(i:Nat):aO l i≤aO l (i+1)∧(l.drop (aO l i)).take (aO l (i+1) - aO l i)=qC l i:=by
 have hle:=oI h;have e1:=(pH hle i).2
 have hmono:aO l i≤aO l (i+1):=by
  unfold aO;refine List.countP_mono_left fun x _ hx=> ?_;simp only [decide_eq_true_eq]at hx ⊢;omega
 refine⟨hmono,?_⟩;rw [e1];have hg:(l.filter fun x=> !decide (x.1<(i:Int))).Pairwise fun a b=>a.1≤b.1:=hle.sublist List.filter_sublist;have e2:=(pH hg (i+1)).1
 have hc:aO (l.filter fun x=> !decide (x.1<(i:Int))) (i+1)=aO l (i+1) - aO l i:=by
  have h1:aO l (i+1)=aO (l.filter fun x=>decide (x.1<(i:Int))) (i+1)+aO (l.filter fun x=> !decide (x.1<(i:Int))) (i+1):=by
   conv=>lhs;rw [←oH hle (i:Int)]
   unfold aO;rw [List.countP_append]
  have h2:aO (l.filter fun x=>decide (x.1<(i:Int))) (i+1)=aO l i:=by
   unfold aO;rw [List.countP_filter];refine List.countP_congr fun x _=> ?_;simp only [Bool.and_eq_true,decide_eq_true_eq];omega
  omega
 rw [←hc,e2];rfl
theorem sX{l:List E3}(h:dm l)(i:Nat):((qC l i).map (·.2.1)).Pairwise (·<·):=by
 rw [List.pairwise_map];have hs:dm (qC l i):=h.sublist (List.filter_sublist.trans List.filter_sublist);refine hs.imp_of_mem fun{a b} ha hb hab=> ?_;have h1:=(rowE_mem.1 ha).2;have h2:=(rowE_mem.1 hb).2;rw [bel_iff]at hab;omega
theorem oJ{α β:Type}(f:α→β)(l:List α)(a b:Int):eH (l.map f) a b=(eH l a b).map f:=by unfold eH;rw [←List.map_drop,←List.map_take]
theorem sY{n c:Int}(hn:0≤n∧n≤4096)(hc:0≤c∧c≤4096){l:List E3}(hl:l.length≤65536)(h:dm l)(hp:∀x∈l,(0≤x.1∧x.1<n)∧0≤x.2.1∧x.2.1<c):eX (nk n c l)=true:=by
 have h0:aO l 0=0:=by
  unfold aO;rw [List.countP_eq_zero];intro x hx
  have:=(hp x hx).1.1
  simp;omega
 have hN:aO l n.toNat=l.length:=by
  unfold aO;rw [List.countP_eq_length];intro x hx
  have:=(hp x hx).1.2
  simp;omega
 unfold eX nk;simp only [gS,Bool.and_eq_true,decide_eq_true_eq,sizeF_iff,List.length_map,dD];refine⟨hn,hc,by omega,?_,trivial,hl,?_,?_⟩
 ·rw [gb _ (Nat.zero_le _),h0];rfl
 ·rw [gb _ (Nat.le_refl _),hN]
 ·refine all_range.2 fun i hi=> ?_;unfold gG;rw [gb _ (by omega),gb _ (by omega)];obtain⟨r1,r2⟩:=mc h i;have hle:=kV l (i+1);simp only [Bool.and_eq_true,decide_eq_true_eq,List.length_map];refine⟨by omega,by omega,by omega,?_⟩
  have e:eH (l.map (·.2.1)) ((aO l i:Nat):Int) ((aO l (i+1):Nat):Int)=(qC l i).map (·.2.1):=by
   rw [oJ];unfold eH;rw [Int.toNat_natCast,Int.toNat_natCast,r2]
  rw [e]
  exact ascI_iff'.2 ⟨sX h i,fun p hp'=>by
   obtain⟨x,hx,rfl⟩:=List.mem_map.1 hp'
   have:=(hp x (rowE_mem.1 hx).1).2
   omega⟩
end
section
open Go Sm
abbrev RG(r:Int):Rg:=⟨ofW,gT r,cN⟩
theorem Ji(n:Int):ol n=some (ofW n):=by
 rw [GN];unfold ofW;by_cases h:n<0
 ·simp only [if_pos h]
 ·simp only [if_neg h]
theorem vU(a b:Int×Int):∃c:Int,fI a b=some c∧(c<0↔zi a b=true):=by
 obtain⟨a1,a2⟩:=a;obtain⟨b1,b2⟩:=b;rw [vT];unfold zi;simp only;by_cases h2:a1<b1
 ·rw [if_pos h2];exact⟨-1,rfl,by simp [h2]⟩
 rw [if_neg h2];by_cases h3:a1=b1
 ·rw [if_pos h3];by_cases h4:a2<b2
  ·rw [if_pos h4];exact⟨-1,rfl,by simp [h3,h4]⟩
  ·rw [if_neg h4];by_cases h5:a1=b1∧a2=b2
   ·rw [if_pos h5];exact⟨0,rfl,by simp [h3];omega⟩
   ·rw [if_neg h5];exact⟨1,rfl,by simp [h3];omega⟩
 ·rw [if_neg h3];by_cases h5:a1=b1∧a2=b2
  ·exact absurd h5.1 h3
  ·rw [if_neg h5];exact⟨1,rfl,by simp [h3];omega⟩
theorem GT(a b:Int×Int):mq a b=some (xV a b):=by
 obtain⟨a1,a2⟩:=a;obtain⟨b1,b2⟩:=b;rw [EH];unfold xV pF;simp only;split<;>rfl
theorem BG(b:Bool):gZ b=some (nX b):=by rw [ze];unfold nX;cases b<;>rfl
theorem GU(r:Int)(a b:Int×Int):mr r a b=some (gT r a b):=by
 rw [EI];unfold gT
 have hl:((fI b a).bind fun(out:Int)=>if out<0 then some b else some a)=some (mN a b):=by
  obtain⟨c,h1,h2⟩:=vU b a;rw [h1,zbS];unfold mN;by_cases hc:c<0
  ·rw [if_pos hc,if_pos (h2.1 hc)]
  ·rw [if_neg hc,if_neg (fun h=>hc (h2.2 h))]
 simp only [hl,BG,GT,zbS];by_cases h1:r=1
 ·simp [h1]
 by_cases h3:r=3
 ·simp [h3]
 by_cases h4:r=4
 ·simp [h4]
 simp only [if_neg h1,if_neg h3,if_neg (show¬(r=1∨r=3∨r=4)by omega),decide_eq_false h4,zbS,Sum.elim_inl,Bool.false_eq_true,if_false];by_cases h2:r=2
 ·simp only [if_pos h2];by_cases ha:a.1=0∧a.2=0
  ·by_cases hb:b.1=0∧b.2=0
   ·simp [ha,hb]
   ·simp [ha,hb]
  ·simp [ha]
 ·simp only [if_neg h2];split<;>rfl
theorem zn{a:Int×Int}(h:eh a.2):gm a=some (cN a):=by
 obtain⟨a1,a2⟩:=a;rw [xU];unfold cN ofW;simp only [NO h,Prod.mk.injEq,and_true];by_cases hn:IntKind.i64.wrap a2<0
 ·have hg:¬IntKind.i64.wrap a2 ≥ 0:=by omega
  simp only [if_pos hn,if_neg hg];by_cases h1:a1=0
  ·have:¬a1= -1:=by omega
   simp only [if_pos h1,if_neg this]
  ·simp only [if_neg h1];split<;>rfl
 ·have hg:IntKind.i64.wrap a2 ≥ 0:=by omega
  simp only [if_neg hn,if_pos hg];by_cases h1:a1=0
  ·simp only [if_pos h1]
  ·simp only [if_neg h1];split<;>rfl
theorem zo(r:Int):fU r=some (zj r):=by
 rw [qN];unfold zj;by_cases h1:r ≥ 1
 ·rw [if_pos h1,decide_eq_true (show 1≤r from h1)];simp
 ·rw [if_neg h1,decide_eq_false (show¬1≤r from h1)];rfl
end
section
open Go Sm
theorem nZ(a b:E3):gY a b=some (bel a b):=by
 rw [zd]
 have hb:bel a b=(decide (a.1<b.1)||(decide (a.1=b.1)&& decide (a.2.1<b.2.1))):=by
  unfold bel klt key;rw [Bool.decide_or,Bool.decide_and]
 rw [hb];by_cases h1:a.1<b.1
 ·rw [if_pos h1,decide_eq_true h1];rfl
 ·rw [if_neg h1,decide_eq_false h1];by_cases h2:a.1=b.1
  ·rw [if_pos h2,decide_eq_true h2];rfl
  ·rw [if_neg h2,decide_eq_false h2];rfl
def dN{α:Type}(l:List α)(k:Nat)(y:α):List α:=l.take k++y::l.drop k
theorem GV{α:Type}{l:List α}{k:Nat}(y:α):(dN l k y).length=l.length+1:=by unfold dN;simp;omega
theorem pI{α:Type}{l:List α}{k:Nat}(hk:k≤l.length)(y:α):(dN l k y)[k]? =some y:=by
 unfold dN;rw [List.getElem?_append_right (by rw [List.length_take];omega),List.length_take,Nat.min_eq_left hk,Nat.sub_self];rfl
theorem mO{α:Type}{l:List α}{k:Nat}(hk:k≤l.length)(y x:α):(dN l k y).set k x=dN l k x:=by
 unfold dN;rw [List.set_append_right _ _ (by rw [List.length_take];omega),List.length_take,Nat.min_eq_left hk,Nat.sub_self];rfl
theorem oK{α:Type}(l:List α)(y:α):dN l l.length y=l++ [y]:=by unfold dN;simp
theorem oL{α:Type}{l:List α}{k:Nat}(hk:k+1≤l.length)(y:α):(dN l (k+1) y)[k]? =some l[k]∧dN l (k+1) l[k]=dN l k l[k]:=by
 unfold dN;constructor
 ·rw [List.getElem?_append_left (by simp;omega),List.getElem?_take,if_pos (by omega),List.getElem?_eq_getElem]
 ·rw [List.take_succ_eq_append_getElem (by omega),List.append_assoc,List.drop_eq_getElem_cons (i:=k) (by omega)];rfl
theorem GW{α:Type}{l:List α}{k:Nat}{y x:α}(h:x∈dN l k y):x=y∨x∈l:=by
 unfold dN at h;rcases List.mem_append.1 h with h|h
 ·exact .inr (List.mem_of_mem_take h)
 ·rcases List.mem_cons.1 h with h|h
  ·exact .inl h
  ·exact .inr (List.mem_of_mem_drop h)
theorem Ci{b:Int×List E3×List (Int×Int)→Option ((Int×List E3×List (Int×Int))⊕((List E3×List (Int×Int))⊕ Empty))}{a:Nat}(hb:b=fZ (a:Int)∨b=ga (a:Int)){l:List E3}{s:List (Int×Int)}(hl:s.length=l.length)(hn:l.length≤100000)(ha:a≤l.length)(y:E3)(z:Int×Int):
  ∃y' z',aL b ((l.length:Int),l++ [y],s++ [z])=some (.inl (dN l a y',dN s a z')):=by
 have step:∀(k:Nat) y z,a<k+1→k+1≤l.length→∃y' z',b (((k+1:Nat):Int),dN l (k+1) y,dN s (k+1) z)=some (.inl ((k:Int),dN l k y',dN s k z')):=fun k y z h1 hk=>by
  have hks:k+1≤s.length:=by omega
  have e1:=cv (oL hk y).1;have e2:=cv (pI hk y);have e3:=cv (oL hks z).1;have e4:=cv (pI hks z);have hw:IntKind.i64.wrap (((k+1:Nat):Int) - 1)=(k:Int):=by rw [bW (by omega) (by omega)];omega
  have t1:((k+1:Nat):Int).toNat=k+1:=Int.toNat_natCast _;refine⟨l[k],s[k],?_⟩;rw [←(oL hk y).2,←(oL hks z).2,←mO hk y l[k],←mO hks z s[k]];rcases hb with rfl|rfl
  ·simp only [fZ,hw,e1,e2,e3,e4,zbS,t1];rw [if_pos (by omega)]
  ·simp only [ga,hw,e1,e2,e3,e4,zbS,t1];rw [if_pos (by omega)]
 have stop:∀y z,b ((a:Int),dN l a y,dN s a z)=some (.inr (.inl (dN l a y,dN s a z))):=fun y z=>by
  rcases hb with rfl|rfl
  ·simp only [fZ];rw [if_neg (by omega)]
  ·simp only [ga];rw [if_neg (by omega)]
 obtain⟨q,q1,y',z',q2⟩:=bK (b:=b) (l.length - a) (fun j st=>∃y z,st=(((l.length - j:Nat):Int),dN l (l.length - j) y,dN s (l.length - j) z)) (fun q=>∃y z,q= .inl (dN l a y,dN s a z))
  (by
   rintro j _ hj ⟨y,z,rfl⟩;obtain⟨k,hk⟩:∃k,l.length - j=k+1:=⟨l.length - j - 1,by omega⟩;rw [hk];obtain⟨y',z',e⟩:=step k y z (by omega) (by omega)
   exact .inl ⟨_,e,y',z',by rw [show l.length - (j+1)=k by omega]⟩)
  (by
   rintro _ ⟨y,z,rfl⟩;rw [show l.length - (l.length - a)=a by omega]
   exact⟨_,stop y z,y,z,rfl⟩) 0 (Nat.zero_le _) ((l.length:Int),l++ [y],s++ [z]) ⟨y,z,by rw [Nat.sub_zero,oK,←hl,oK,hl]⟩
 exact⟨y',z',by rw [q1,q2]⟩
def kz(p:Ky×V):E3:=(p.1.1,p.1.2,0)
def pos(S:List (Ky×V))(e:E3):Nat:=(S.takeWhile fun p=>klt p.1 (key e)).length
theorem NR(S:List (Ky×V))(e:E3):pos S e≤S.length:=(List.takeWhile_sublist _).length_le
theorem zp{p:Ky×V}{S:List (Ky×V)}{e:E3}(hp:klt p.1 (key e)=true):pos (p::S) e=pos S e+1:=by unfold pos;simp [List.takeWhile_cons,hp]
theorem zq{p:Ky×V}{S:List (Ky×V)}{e:E3}(hp:¬klt p.1 (key e)=true):pos (p::S) e=0:=by unfold pos;simp [List.takeWhile_cons,hp]
theorem NS:∀{S:List (Ky×V)} {e:E3} {j:Nat} (hj:j<S.length),j<pos S e→klt S[j].1 (key e)=true
 | [],e,j,hj,h=>by simp at hj
 |p::S,e,j,hj,h=>by
  by_cases hp:klt p.1 (key e)=true
  ·rw [zp hp]at h
   cases j with
   |zero=>exact hp
   |succ j=>exact NS (S:=S) (e:=e) (j:=j) (by simpa using hj) (by omega)
  ·rw [zq hp]at h;omega
theorem Lf:∀{S:List (Ky×V)} {e:E3} {j:Nat} (hj:j<S.length),j=pos S e→klt S[j].1 (key e)=false
 | [],e,j,hj,h=>by simp at hj
 |p::S,e,j,hj,h=>by
  by_cases hp:klt p.1 (key e)=true
  ·rw [zp hp]at h;subst h;exact Lf (S:=S) (e:=e) (j:=pos S e) (by simpa using hj) rfl
  ·rw [zq hp]at h;subst h;simpa using hp
theorem NT{S:List (Ky×V)}{e:E3}(h:pos S e<S.length):klt (S[pos S e]'h).1 (key e)=false:=Lf h rfl
theorem EO(R:Rg)(e:E3):∀(S:List (Ky×V)),ins R S e=if h:pos S e<S.length then(if klt (key e) (S[pos S e]'h).1=true then dN S (pos S e) (key e,R.o e.2.2)else S.set (pos S e) ((S[pos S e]'h).1,R.ad (S[pos S e]'h).2 (R.o e.2.2)))else S++ [(key e,R.o e.2.2)]
 | []=>by simp [ins,pos]
 |p::S=>by
  have ih:=EO R e S;unfold ins;by_cases hp:klt p.1 (key e)=true
  ·have hpos:pos (p::S) e=pos S e+1:=by unfold pos;simp [List.takeWhile_cons,hp]
   rw [if_pos hp,ih];simp only [hpos,List.length_cons,Nat.add_lt_add_iff_right,List.getElem_cons_succ];split
   ·split
    ·unfold dN;simp
    ·simp
   ·simp
  ·have hpos:pos (p::S) e=0:=by unfold pos;simp [List.takeWhile_cons,hp]
   rw [if_neg hp];simp only [hpos,List.length_cons,Nat.zero_lt_succ,dif_pos,List.getElem_cons_zero];split
   ·unfold dN;simp
   ·simp
theorem GX{α β:Type}(f:α→β)(l:List α)(k:Nat)(y:α):(dN l k y).map f=dN (l.map f) k (f y):=by unfold dN;simp
theorem EP(R:Rg)(l:List E3):(canS R l).length≤l.length:=by
 have key:∀(S:List (Ky×V)) e,(ins R S e).length≤S.length+1:=by
  intro S e;rw [EO];split
  ·split
   ·rw [GV];omega
   ·simp
  ·simp
 have:∀(l:List E3) (S:List (Ky×V)),(l.foldl (ins R) S).length≤S.length+l.length:=by
  intro l
  induction l with
  |nil=>intro S;simp
  |cons e l ih=>intro S;have h1:=ih (ins R S e);have h2:=key S e;simp only [List.foldl_cons,List.length_cons];omega
 simpa [canS]using this l []
theorem UP{r:Int}{S:List (Ky×V)}{e:E3}(h:∀p∈S,eh p.2.2):∀p∈ins (RG r) S e,eh p.2.2:=by
 intro p hp;rw [EO]at hp;split at hp
 ·rename_i hl;split at hp
  ·rcases GW hp with rfl|hp
   ·exact zh _
   ·exact h p hp
  ·rcases List.mem_or_eq_of_mem_set hp with hp|rfl
   ·exact h p hp
   ·exact zk (h _ (List.getElem_mem hl)) (zh _)
 ·rcases List.mem_append.1 hp with hp|hp
  ·exact h p hp
  ·simp at hp;subst hp;exact zh _
theorem UQ(r:Int)(l:List E3):∀p∈canS (RG r) l,eh p.2.2:=by
 have:∀(l:List E3) (S:List (Ky×V)),(∀p∈S,eh p.2.2)→∀p∈l.foldl (ins (RG r)) S,eh p.2.2:=by
  intro l
  induction l with
  |nil=>intro S h;exact h
  |cons e l ih=>intro S h;exact ih _ (UP h)
 exact this l [] (by simp)
theorem QU{x:Sl E3}{S:List (Ky×V)}{w:List (Int×Int)}{i:Nat}(hs:okS 3 x)(hi:i<x.l.length)(hn:S.length≤100000):aL (fY x (S.map kz,w,(i:Int))) 0=some (.inl ((pos S x.l[i]:Nat):Int)):=by
 have ei:=bu hs hi;have hb:∀j (hj:j<S.length),bel (kz S[j]) x.l[i]=klt S[j].1 (key x.l[i]):=fun j hj=>rfl;refine iM (pos S x.l[i]) (fun j=>(j:Int)) rfl (fun j hj=> ?_) ?_
 ·have hjl:j<S.length:=Nat.lt_of_lt_of_le hj (NR _ _);have ej:atL (S.map kz) (j:Int)=some (kz S[j]):=cv (by simp [hjl]);simp only [fY,ej,ei,zbS,nZ,hb j hjl,NS hjl hj,if_true,List.length_map,bL hjl (by omega)];rw [if_pos (by omega)]
 ·by_cases hl:pos S x.l[i]<S.length
  ·have ej:atL (S.map kz) ((pos S x.l[i]:Nat):Int)=some (kz S[pos S x.l[i]]):=cv (by simp [hl]);simp only [fY,ej,ei,zbS,nZ,hb _ hl,NT hl,List.length_map];rw [if_pos (by omega),if_neg (by simp)]
  ·simp only [fY,List.length_map];rw [if_neg (by omega)]
theorem EQ{r:Int}{x:Sl E3}(hs:okS 3 x)(hn:x.l.length≤65536):aL (iK r x) ([],[],0)=some (.inl ((canS (RG r) x.l).map kz,(canS (RG r) x.l).map (·.2))):=by
 refine iM x.l.length (fun j=>((canS (RG r) (x.l.take j)).map kz,(canS (RG r) (x.l.take j)).map (·.2),(j:Int))) (by simp [canS]) (fun j hj=> ?_) ?_
 ·have hlen:=EP (RG r) (x.l.take j);have hlj:(x.l.take j).length≤65536:=by simp;omega
  rw [List.take_succ_eq_append_getElem hj,Mq];generalize canS (RG r) (x.l.take j)=S at hlen ⊢;have hf:=QU (S:=S) (w:=S.map (·.2)) hs hj (by omega);have ej:=bu hs hj;have hp:=NR S x.l[j];have hat:= @NT S x.l[j];have hi:=EO (RG r) x.l[j] S;generalize hA:pos S x.l[j]=a at hf hp hat hi;generalize x.l[j]=e at ej hf hat hi;have ap1:app (S.map kz) [((0:Int),(0:Int),(0:Int))]=some (S.map kz++ [(0,0,0)]):=gA (by simp;unfold cd;omega);have ap2:app (S.map (·.2)) [((0:Int),(0:Int))]=some (S.map (·.2)++ [(0,0)]):=gA (by simp;unfold cd;omega);have hw1:IntKind.i64.wrap ((((S.map kz++ [((0:Int),(0:Int),(0:Int))]).length:Nat):Int) - 1)=((S.map kz).length:Int):=by simp only [List.length_append,List.length_map,List.length_cons,List.length_nil];rw [bW (by omega) (by omega)];omega
  have ta:((a:Nat):Int).toNat=a:=Int.toNat_natCast _;have hl2:(S.map (·.2)).length=(S.map kz).length:=by simp
  have hak:a≤(S.map kz).length:=by simpa using hp
  have has:a≤(S.map (·.2)).length:=by simpa using hp
  obtain⟨y2,z2,sh2⟩:=Ci (b:=fZ (a:Int)) (.inl rfl) hl2 (by simp;omega) hak (0,0,0) (0,0);obtain⟨y3,z3,sh3⟩:=Ci (b:=ga (a:Int)) (.inr rfl) hl2 (by simp;omega) hak (0,0,0) (0,0);have i2:=cv (pI hak y2);have j2:=cv (pI has z2);have i3:=cv (pI hak y3);have j3:=cv (pI has z3);have hne:∀{α:Type} (l:List α) k y,neL (dN l k y)=some ():=fun l k y=>PL (by unfold dN;simp);simp only [iK,hf,zbS,Sum.elim_inl,ej,Ji,List.length_map];rw [if_pos (by omega)];by_cases hl:a<S.length
  ·rw [if_pos (by omega)];have e1:atL (S.map kz) (a:Int)=some (kz S[a]):=cv (by simp [hl]);have e2:atL (S.map (·.2)) (a:Int)=some S[a].2:=cv (by simp [hl]);have hk:bel e (kz S[a])=klt (key e) S[a].1:=rfl;simp only [e1,e2,zbS,nZ,hk,GU,ap1,ap2,hw1,sh2,Sum.elim_inl,i2,j2,ta,mO hak,mO has,hne,bL hj (by omega)];rw [dif_pos hl]at hi;by_cases hc:klt (key e) S[a].1=true
   ·rw [if_pos hc]at hi;rw [if_neg (by simp [hc]),hi,GX,GX];rfl
   ·rw [if_neg hc]at hi;rw [if_pos (by simpa using hc),hi,List.map_set,List.map_set]
    have:(S.map kz).set a (kz (S[a].1,(RG r).ad S[a].2 ((RG r).o e.2.2)))=S.map kz:=by
     have hk2:kz (S[a].1,(RG r).ad S[a].2 ((RG r).o e.2.2))=(S.map kz)[a]'(by simpa using hl):=by simp [kz]
     rw [hk2,List.set_getElem_self]
    rw [this]
  ·rw [if_neg (by omega)];rw [dif_neg hl]at hi;have hae:a=S.length:=by omega
   simp only [zbS,ap1,ap2,hw1,sh3,Sum.elim_inl,i3,j3,ta,mO hak,mO has,hne,bL hj (by omega)];rw [hi,hae]
   have q1:dN (S.map kz) S.length (e.1,e.2.1,(0:Int))=S.map kz++ [(e.1,e.2.1,0)]:=by
    have:=oK (S.map kz) (e.1,e.2.1,(0:Int));rwa [List.length_map]at this
   have q2:dN (S.map (·.2)) S.length (ofW e.2.2)=S.map (·.2)++ [ofW e.2.2]:=by
    have:=oK (S.map (·.2)) (ofW e.2.2);rwa [List.length_map]at this
   rw [q1,q2];simp [kz,key]
 ·simp only [iK,List.take_length];rw [if_neg (by omega)]
theorem qr{r:Int}{x:Sl E3}(hs:okS 3 x)(hn:x.l.length≤65536)(hr:zj r=true):cE r x=some (mo 3 (sumR (RG r) x.l).1,(sumR (RG r) x.l).2):=by
 rw [kD,zo,hr];simp only [zbS,not_true_eq_false,if_false];rw [EQ hs hn];simp only [zbS,Sum.elim_inl];have hlen:=EP (RG r) x.l;have hlo:=UQ r x.l;unfold sumR;generalize canS (RG r) x.l=S at hlen hlo ⊢
 obtain⟨q,q1,q2⟩:=bK (b:=iL (S.map kz,S.map (·.2))) S.length (fun j st=>st=((S.take j).map (toE (RG r))++(S.drop j).map kz,(j:Int))∧∀p∈S.take j,(cN p.2).2=true) (fun q=>(S.all (fun p=>(cN p.2).2)=true∧q= .inl (S.map (toE (RG r))))∨(S.all (fun p=>(cN p.2).2)=false∧q= .inr (.inl ([],12))))
  (by
   rintro j _ hj ⟨rfl,ha⟩;have e2:atL (S.map (·.2)) (j:Int)=some S[j].2:=cv (by simp [hj]);have hln:((S.take j).map (toE (RG r))++(S.drop j).map kz).length=S.length:=by simp;omega
   have e1:atL ((S.take j).map (toE (RG r))++(S.drop j).map kz) (j:Int)=some (kz S[j]):=cv (by
    rw [List.getElem?_append_right (by simp;omega)]
    simp [List.getElem?_drop,show min j S.length=j by omega,hj])
   have hN:gm S[j].2=some (cN S[j].2):=zn (hlo _ (List.getElem_mem hj));simp only [iL,hln,e2,zbS,hN,e1,bL hj (by omega),Int.toNat_natCast];rw [if_pos (by omega)];by_cases hc:(cN S[j].2).2=true
   ·rw [if_neg (by simpa using hc)];refine .inl ⟨_,rfl,?_,?_⟩
    ·rw [Prod.mk.injEq];refine⟨?_,rfl⟩;rw [List.take_succ_eq_append_getElem hj,List.set_append_right _ _ (by simp;omega)];simp only [List.length_map,List.length_take,show min j S.length=j by omega,Nat.sub_self,List.map_append,List.map_cons,List.map_nil];rw [List.drop_eq_getElem_cons hj,List.map_cons,List.set_cons_zero,List.append_assoc];simp [toE,kz]
    ·intro p hp;rw [List.take_succ_eq_append_getElem hj]at hp;rcases List.mem_append.1 hp with hp|hp
     ·exact ha p hp
     ·simp at hp;subst hp;exact hc
   ·rw [if_pos (by simpa using hc)];refine .inr ⟨_,rfl,.inr ⟨?_,rfl⟩⟩;rw [Bool.eq_false_iff];intro hh
    exact hc (List.all_eq_true.1 hh _ (List.getElem_mem hj)))
  (by
   rintro _ ⟨rfl,ha⟩;simp only [iL,List.take_length,List.drop_length,List.map_nil,List.append_nil,List.length_map];rw [List.take_length]at ha;rw [if_neg (by omega)]
   exact⟨_,rfl,.inl ⟨List.all_eq_true.2 ha,rfl⟩⟩) 0 (Nat.zero_le _) (S.map kz,0) ⟨by simp,by simp⟩
 rw [q1];rcases q2 with⟨h,rfl⟩|⟨h,rfl⟩
 ·rw [if_pos h];rfl
 ·rw [if_neg (by rw [h];simp)];rfl
end
section
open Go Sm
def w64(l:List E3):Prop:=∀x∈l,cK x.1∧cK x.2.1∧cK x.2.2
theorem uA{r:Int}{l:List E3}:dm (sumR (RG r) l).1∧(sumR (RG r) l).1.length≤l.length∧(∀x∈(sumR (RG r) l).1,cK x.2.2∧∃y∈l,y.1=x.1∧y.2.1=x.2.1)∧((sumR (RG r) l).2=0∨sumR (RG r) l=([],12)):=by
 unfold sumR;split
 ·refine⟨?_,by rw [List.length_map];exact EP _ _,fun x hx=> ?_,.inl rfl⟩
  ·show((canS (RG r) l).map (toE (RG r))).Pairwise _;rw [List.pairwise_map];exact(Lc (RG r) l).1
  ·obtain⟨p,hp,rfl⟩:=List.mem_map.1 hx;refine⟨?_,?_⟩
   ·show cK (cN p.2).1;unfold cN;split
    ·exact uz _
    ·unfold cK;omega
   ·obtain⟨e,he,hk⟩:=QS (((Lc (RG r) l).2 p.1 p.2).1 hp);have h1:=congrArg Prod.fst hk;have h2:=congrArg Prod.snd hk;exact⟨e,he,h1,h2⟩
 ·exact⟨List.Pairwise.nil,Nat.zero_le _,by simp,.inr rfl⟩
def nl(l:List E3)(k:Nat):Nat:=l.countP fun x=>decide (x.1+1=(k:Int))
theorem Lg(l:List E3)(k:Nat):nl l k≤l.length:=List.countP_le_length
theorem NU(l:List E3)(x:E3)(k:Nat):nl (l++ [x]) k=nl l k+if x.1+1=(k:Int)then 1 else 0:=by
 unfold nl;rw [List.countP_append];congr 1;by_cases h:x.1+1=(k:Int)<;>simp [h]
theorem Cj:∀(l:List E3) (k:Nat),aO l (k+1)=aO l k+nl l (k+1)
 | [],k=>rfl
 |x::l,k=>by
  have ih:=Cj l k;unfold aO nl at*;simp only [List.countP_cons,ih];by_cases h1:x.1<(k:Int)
  ·have h2:x.1<((k+1:Nat):Int):=by omega
   have h3:¬x.1+1=((k+1:Nat):Int):=by omega
   simp only [decide_eq_true h1,decide_eq_true h2,decide_eq_false h3];simp;omega
  ·by_cases h3:x.1+1=((k+1:Nat):Int)
   ·have h2:x.1<((k+1:Nat):Int):=by omega
    simp only [decide_eq_false h1,decide_eq_true h2,decide_eq_true h3];simp;omega
   ·have h2:¬x.1<((k+1:Nat):Int):=by omega
    simp only [decide_eq_false h1,decide_eq_false h2,decide_eq_false h3];simp
def Mr:Mx:=(0,0,eW,eW,eW)
def inM(n c:Int)(x:E3):Bool:=decide (0≤x.1∧x.1<n∧0≤x.2.1∧x.2.1<c)
def ofV(r n c:Int)(l:List E3):Mx×Int:=
 if zj r=true then if dk n=true∧dk c=true then if l.length≤65536 then if l.all (inM n c)=true then
  if(sumR (RG r) l).2=0 then(nk n c (sumR (RG r) l).1,0)else(Mr,(sumR (RG r) l).2)
 else(Mr,3)else(Mr,5)else(Mr,3)else(Mr,8)
theorem Lh{n c:Int}{x:E3}(h:x.1<0∨x.1 ≥ n∨x.2.1<0∨x.2.1 ≥ c):inM n c x=false:=by unfold inM;rw [decide_eq_false];omega
theorem Xj{α:Type}{p:α→Bool}{l:List α}{j:Nat}(hj:j<l.length)(h:p l[j]=false):l.all p=false:=by
 rw [Bool.eq_false_iff];intro ha;rw [List.all_eq_true.1 ha _ (List.getElem_mem hj)]at h;cases h
theorem BH{n c:Int}{x:Sl E3}(hs:okS 3 x)(hl:x.l.length≤65536):aL (lq n c x) ([],0,0,0,[],[],[])=some (if x.l.all (inM n c)=true then .inl (x.l,0,0,[],[],[])else .inr (.inl (3,0,0,[],[],[]))):=by
 obtain⟨q,q1,q2⟩:=bK (b:=lq n c x) x.l.length (fun j st=>st=(x.l.take j,(j:Int),0,0,[],[],[])∧∀y∈x.l.take j,inM n c y=true) (fun q=>q=if x.l.all (inM n c)=true then .inl (x.l,0,0,[],[],[])else .inr (.inl (3,0,0,[],[],[])))
  (by
   rintro j _ hj ⟨rfl,ha⟩;have ej:=bu hs hj;have hlen:(x.l.take j).length≤65536:=by simp;omega
   have ap:app (x.l.take j) [(x.l[j].1,x.l[j].2.1,x.l[j].2.2)]=some (x.l.take j++ [x.l[j]]):=gA (by simp;unfold cd;omega);simp only [lq,ej,zbS,ap,bL hj (by omega)];rw [if_pos (by omega)]
   have bad:inM n c x.l[j]=false→∃r,(some (Sum.inr (Sum.inr (Sum.inl ((3:Int),(0:Int),(0:Int),([]:List Int),([]:List Int),([]:List Int))))):Option ((List E3×Int×Int×Int×List Int×List Int×List Int)⊕((List E3×Int×Int×List Int×List Int×List Int)⊕((Int×Int×Int×List Int×List Int×List Int)⊕ Empty))))=some (.inr r)∧r=if x.l.all (inM n c)=true then .inl (x.l,0,0,[],[],[])else .inr (.inl (3,0,0,[],[],[])):=fun h=>⟨_,rfl,by rw [Xj hj h];rfl⟩
   by_cases c1:x.l[j].1<0
   ·rw [if_pos c1];exact .inr (bad (Lh (.inl c1)))
   by_cases c2:x.l[j].1 ≥ n
   ·rw [if_neg c1,if_pos c2];exact .inr (bad (Lh (.inr (.inl c2))))
   by_cases c3:x.l[j].2.1<0
   ·rw [if_neg c1,if_neg c2,if_pos c3];exact .inr (bad (Lh (.inr (.inr (.inl c3)))))
   by_cases c4:x.l[j].2.1 ≥ c
   ·rw [if_neg c1,if_neg c2,if_neg c3,if_pos c4];exact .inr (bad (Lh (.inr (.inr (.inr c4)))))
   rw [if_neg c1,if_neg c2,if_neg c3,if_neg c4,←List.take_succ_eq_append_getElem hj];refine .inl ⟨_,rfl,rfl,fun y hy=> ?_⟩;rw [List.take_succ_eq_append_getElem hj]at hy;rcases List.mem_append.1 hy with hy|hy
   ·exact ha y hy
   ·simp at hy;subst hy
    unfold inM;rw [decide_eq_true];omega)
  (by
   rintro _ ⟨rfl,ha⟩;rw [List.take_length]at ha;simp only [lq];rw [if_neg (by omega),if_pos (List.all_eq_true.2 ha),List.take_length]
   exact⟨_,rfl,rfl⟩) 0 (Nat.zero_le _) ([],0,0,0,[],[],[]) ⟨rfl,by simp⟩
 rw [q1,q2]
theorem zr{l:List E3}{e:Int}(hl:l.length≤65536){s:Sl E3}(hs:okS 3 s)(hsl:s.l=l):aL (nz (s,e)) ([],0)=some (.inl l):=by
 refine iM l.length (fun j=>(l.take j,(j:Int))) rfl (fun j hj=> ?_) ?_
 ·have ej:atS 3 s (j:Int)=some l[j]:=du hs (by rw [hsl];simp [hj]);have hlen:(l.take j).length≤65536:=by simp;omega
  have ap:app (l.take j) [(l[j].1,l[j].2.1,l[j].2.2)]=some (l.take j++ [l[j]]):=gA (by simp;unfold cd;omega);simp only [nz,ej,zbS,ap,bL hj (by omega),hsl];rw [if_pos (by omega),List.take_succ_eq_append_getElem hj]
 ·simp only [nz,hsl,List.take_length];rw [if_neg (by omega)]
theorem Li{n c:Int}{l:List E3}(h:l.all (inM n c)=true){r:Int}:∀x∈(sumR (RG r) l).1,(0≤x.1∧x.1<n)∧0≤x.2.1∧x.2.1<c:=by
 intro x hx;obtain⟨_,y,hy,e1,e2⟩:=(uA (r:=r) (l:=l)).2.2.1 x hx
 have:=List.all_eq_true.1 h y hy
 unfold inM at this;simp only [decide_eq_true_eq]at this;omega
theorem Jj{r n c:Int}{x:Sl E3}(hs:okS 3 x):om r n c x=some (ofV r n c x.l):=by
 rw [GO,zo];unfold ofV
 cases hr:zj r with
 |false=>rfl
 |true=>
  simp only [zbS,not_true_eq_false,if_false,if_true];by_cases h1:dk n=true
  ·obtain⟨g1,g2⟩:=sizeF_iff.1 h1;rw [if_neg (by omega),if_neg (by omega)];by_cases h2:dk c=true
   ·obtain⟨g3,g4⟩:=sizeF_iff.1 h2;rw [if_neg (by omega),if_neg (by omega),if_pos (show dk n=true∧dk c=true from⟨h1,h2⟩)];by_cases hl:x.l.length≤65536
    ·rw [if_neg (by omega),if_pos hl,BH hs hl];by_cases ha:x.l.all (inM n c)=true
     ·have hlen:=(uA (r:=r) (l:=x.l)).2.1;simp only [if_pos ha,zbS,Sum.elim_inl];rw [qr (lu _) (by rw [gS];exact hl) hr];simp only [gS,zbS];by_cases h0:(sumR (RG r) x.l).2=0
      ·rw [if_neg (fun h=>h h0),if_pos h0,zr (l:=(sumR (RG r) x.l).1) (by omega) (lu _) (gS _ _)];simp only [zbS,Sum.elim_inl];rw [BF ⟨g1,g2⟩ (lu _) (by rw [gS];omega) (by rw [gS];exact fun y hy=>(Li ha y hy).1),gS];rfl
      ·rw [if_pos h0,if_neg h0];rfl
     ·rw [if_neg ha,if_neg ha];rfl
    ·rw [if_pos (by omega),if_neg hl];rfl
   ·rw [if_neg (show¬(dk n=true∧dk c=true)from fun h=>h2 h.2)]
    have:¬(0≤c∧c≤4096):=fun h=>h2 (sizeF_iff.2 h)
    by_cases h3:c<0
    ·rw [if_pos h3];rfl
    ·rw [if_neg h3,if_pos (by omega)];rfl
  ·rw [if_neg (show¬(dk n=true∧dk c=true)from fun h=>h1 h.1)]
   have:¬(0≤n∧n≤4096):=fun h=>h1 (sizeF_iff.2 h)
   by_cases h3:n<0
   ·rw [if_pos h3];rfl
   ·rw [if_neg h3,if_pos (by omega)];rfl
end
section
open Go Sm
theorem GY{x:Sl E3}(hs:okS 3 x):∃s:Sl E3,mn x=some s∧s.l=x.l.take 60∧okS 3 s∧s.nn=x.nn:=by
 rw [EG];by_cases h:x.l.length>60
 ·rw [if_pos (by omega)];have hz:x.sz=3:=hs.resolve_left (by intro h';rw [h']at h;simp at h);refine⟨⟨x.nn,x.sz,x.l.take 60⟩,?_,rfl,.inr hz,rfl⟩;unfold kq;rw [if_pos ⟨by omega,by omega,by omega,.inl hz⟩];simp
 ·rw [if_neg (by omega)];exact⟨x,rfl,(List.take_of_length_le (by omega)).symm,hs,rfl⟩
end
section
open Go Sm
structure Is(m:Mx)(n c:Int)(l:List E3):Prop where
 hn:0≤n∧n≤4096
 hc:0≤c∧c≤4096
 len:l.length≤65536
 r:dm l
 p:∀x∈l,(0≤x.1∧x.1<n)∧0≤x.2.1∧x.2.1<c
 v:∀x∈l,cK x.2.2
 e1:m.1=n
 e2:m.2.1=c
 e3:m.2.2.1.l=dL n.toNat fun k=>((aO l k:Nat):Int)
 e4:m.2.2.2.1.l=l.map (·.2.1)
 e5:m.2.2.2.2.l=l.map (·.2.2)
 o3:okS 1 m.2.2.1
 o4:okS 1 m.2.2.2.1
 o5:okS 1 m.2.2.2.2
section
variable {m : Mx} {n c : Int} {l : List E3}
theorem NV(hn:0≤n∧n≤4096)(hc:0≤c∧c≤4096)(hl:l.length≤65536)(h:dm l)(hp:∀x∈l,(0≤x.1∧x.1<n)∧0≤x.2.1∧x.2.1<c)(hv:∀x∈l,cK x.2.2):Is (nk n c l) n c l:=
 ⟨hn,hc,hl,h,hp,hv,rfl,rfl,rfl,gS _ _,gS _ _,.inr rfl,lu _,lu _⟩
theorem Is.ok(h:Is m n c l):OkM m:=by
 refine⟨h.o3,h.o4,h.o5,fun y hy=> ?_,?_,?_,?_⟩
 ·rw [h.e5]at hy;obtain⟨x,hx,rfl⟩:=List.mem_map.1 hy;exact h.v x hx
 ·rw [h.e3,dD];have:=h.hn;omega
 ·rw [h.e4,List.length_map];have:=h.len;omega
 ·rw [h.e5,List.length_map];have:=h.len;omega
theorem Is.right(h:Is m n c l):eX m=true:=by
 have:=sY h.hn h.hc h.len h.r h.p
 unfold eX at this ⊢;simp only [Bool.and_eq_true,decide_eq_true_eq]at this ⊢;rw [h.e1,h.e2,h.e3,h.e4,h.e5];simp only [nk,gS]at this;exact this
theorem ER(h:Is m n c l):eE m=some true:=by rw [GR h.ok,h.right]
theorem xj(h:Is m n c l):mC m=some m:=by rw [GP,ER h];rfl
theorem ES(h:Is m n c l):gK m=some (l.length:Int):=by
 rw [EN,xj h];simp only [zbS];rw [h.e5,List.length_map]
def gP(l:List E3)(i:Int):List E3:=l.filter fun x=>decide (x.1=i)
theorem oM(l:List E3)(i:Nat):gP l (i:Int)=qC l i:=by
 unfold gP qC;rw [List.filter_filter];refine List.filter_congr fun x _=> ?_;rw [Bool.eq_iff_iff];simp;omega
theorem Ck{i:Int}(h:∀x∈l,x.1≠i):gP l i= []:=by
 unfold gP;rw [List.filter_eq_nil_iff];exact fun x hx hd=>h x hx (by simpa using hd)
theorem GZ{s:Sl Int}(hs:okS 1 s){f:E3→Int}(e:s.l=l.map f){a b:Nat}(hab:a≤b)(hb:b≤l.length):∃t:Sl Int,kq 1 s (a:Int) (b:Int)=some t∧t.l=((l.drop a).take (b - a)).map f∧okS 1 t:=by
 have h0:s.sz=1∨(a:Int)=0:=by
  rcases hs with h|h
  ·rw [e,List.map_eq_nil_iff]at h;subst h
   right;simp at hb;omega
  ·exact .inl h
 refine⟨⟨s.nn,s.sz,(s.l.drop a).take (b - a)⟩,?_,?_,?_⟩
 ·unfold kq;rw [if_pos ⟨by omega,by omega,by rw [e,List.length_map];omega,h0⟩];simp
 ·show(s.l.drop a).take (b - a)=_;rw [e,←List.map_drop,←List.map_take]
 ·rcases hs with h|h
  ·exact .inl (by show(s.l.drop a).take (b - a)= [];rw [h];simp)
  ·exact .inr h
theorem Jk(h:Is m n c l)(i:Int):∃s t:Sl Int,rB m i=some (s,t)∧s.l=(gP l i).map (·.2.1)∧t.l=(gP l i).map (·.2.2)∧okS 1 s∧okS 1 t:=by
 rw [Jh];by_cases h0:i<0
 ·have hr:gP l i= []:=Ck fun x hx he=>by have:=(h.p x hx).1;omega
  rw [if_pos h0,hr];exact⟨eW,eW,rfl,rfl,rfl,ik,ik⟩
 ·by_cases h1:i ≥ n
  ·have hr:gP l i= []:=Ck fun x hx he=>by have:=(h.p x hx).1;omega
   rw [if_neg h0,h.e1,if_pos h1,hr];exact⟨eW,eW,rfl,rfl,rfl,ik,ik⟩
  ·obtain⟨k,rfl⟩:=Int.eq_ofNat_of_zero_le (by omega:0≤i);have hk:k<n.toNat:=by omega
   rw [if_neg h0,h.e1,if_neg h1];have w1:IntKind.i64.wrap ((k:Int)+1)=((k+1:Nat):Int):=bL (n:=n.toNat) hk (by have:=h.hn;omega);have a1:=du h.o3 (show m.2.2.1.l[k]? =some _ by rw [h.e3];exact de _ (by omega));have a2:=du h.o3 (show m.2.2.1.l[k+1]? =some _ by rw [h.e3];exact de _ (by omega));obtain⟨c1,c2⟩:=mc h.r k;have hle:=kV l (k+1);obtain⟨s,s1,s2,s3⟩:=GZ h.o4 h.e4 c1 hle;obtain⟨t,t1,t2,t3⟩:=GZ h.o5 h.e5 c1 hle;rw [a1,w1,a2];simp only [zbS];rw [if_pos ⟨Int.le_refl _,by rw [h.e4,List.length_map];omega⟩,s1];simp only [zbS];rw [if_pos ⟨Int.le_refl _,by rw [h.e5,List.length_map];omega⟩,t1];refine⟨s,t,rfl,?_,?_,s3,t3⟩
   ·rw [s2,c2,oM]
   ·rw [t2,c2,oM]
def zt(l:List E3)(k:Int):List E3:=l.filter fun x=>decide (x.1<k)
theorem Cl(h:dm l)(k:Nat):zt l ((k+1:Nat):Int)=zt l (k:Int)++gP l (k:Int):=by
 have e1:=(pH (oI h) k).1;have e2:=(pH (oI h) (k+1)).1;obtain⟨c1,c2⟩:=mc h k;unfold zt;rw [←e1,←e2,oM,←c2];rw [←List.take_add,show aO l k+(aO l (k+1) - aO l k)=aO l (k+1)by omega]
theorem NW{n:Int}(h:∀x∈l,x.1<n):zt l n=l:=by
 unfold zt;rw [List.filter_eq_self];exact fun x hx=>by simpa using h x hx
theorem Ms{n:Int}(h:∀x∈l,n≤x.1):zt l n= []:=by
 unfold zt;rw [List.filter_eq_nil_iff]
 exact fun x hx hd=>by
  have:=h x hx;have:x.1<n:=by simpa using hd
  omega
theorem NX(l:List E3)(k:Int):(gP l k).length≤l.length:=List.length_filter_le _ _
theorem lw{x:E3}{k:Int}(h:x∈gP l k):x∈l∧x.1=k:=by
 unfold gP at h;rw [List.mem_filter]at h;exact⟨h.1,by simpa using h.2⟩
theorem Mt(h:dm l){x y:E3}(hx:x∈l)(hy:y∈l)(h1:x.1=y.1)(h2:x.2.1=y.2.1):x=y:=by
 obtain⟨a,ha,rfl⟩:=List.mem_iff_getElem.1 hx;obtain⟨b,hb,rfl⟩:=List.mem_iff_getElem.1 hy;have hp:=List.pairwise_iff_getElem.1 h;by_cases hab:a=b
 ·subst hab;rfl
 ·rcases Nat.lt_or_gt_of_ne hab with hl|hl
  ·have:=bel_iff.1 (hp a b ha hb hl);omega
  ·have:=bel_iff.1 (hp b a hb ha hl);omega
theorem QV(h:dm l)(i:Int):((gP l i).map (·.2.1)).Pairwise (·<·):=by
 rw [List.pairwise_map];have h1:(gP l i).Pairwise fun a b=>bel a b=true:=h.sublist List.filter_sublist;refine h1.imp_of_mem fun{a b} ha hb hab=> ?_
 have:=(lw ha).2
 have:=(lw hb).2
 rw [bel_iff]at hab;omega
end
end
section
open Go Sm
theorem UR{n:Int}(h:inK .u8 n):0≤n∧n≤255:=by simpa [inK,Lit.wf,IntKind.min,IntKind.max,IntKind.signed,IntKind.bits]using h
def cH(n:Int):Int:=n % 40
theorem uB{n:Int}(h:inK .u8 n):dI n=some (cH n)∧0≤cH n∧cH n<40:=by
 have:=UR h
 rw [nW];unfold cH kJ;rw [bW (by omega) (by omega),if_pos (by decide),Int.tmod_eq_emod_of_nonneg (by omega)];exact⟨rfl,by omega,by omega⟩
theorem NY{a:Int×Int}(ha:inK .u8 a.1∧inK .u8 a.2){s:Sl E3}(hs:okS 3 s)(hv:w64 s.l):∃m l,fJ a s=some m∧Is m (cH a.1) (cH a.2) l:=by
 obtain⟨a1,a2⟩:=a;obtain⟨z1,z2,z3⟩:=uB ha.1;obtain⟨y1,y2,y3⟩:=uB ha.2;obtain⟨t,t1,t2,t3,t4⟩:=GY hs;have tl:t.l.length≤60:=by rw [t2,List.length_take];omega
 have tv:w64 t.l:=fun x hx=>hv x (by rw [t2]at hx;exact List.mem_of_mem_take hx);rw [BB];simp only at z1 z2 z3 y1 y2 y3 ⊢;simp only [z1,y1,t1,zbS];generalize cH a1=n at z2 z3 ⊢;generalize cH a2=c at y2 y3 ⊢
 obtain⟨q,q1,u,rfl,u1,u2,u3⟩:=bK (b:=kT n c t) t.l.length (fun j st=>∃u:List E3,st=(u,(j:Int))∧u.length≤j∧(∀x∈u,(0≤x.1∧x.1<n)∧0≤x.2.1∧x.2.1<c)∧w64 u) (fun q=>∃u:List E3,q= .inl u∧u.length≤t.l.length∧(∀x∈u,(0≤x.1∧x.1<n)∧0≤x.2.1∧x.2.1<c)∧w64 u)
  (by
   rintro j _ hj ⟨u,rfl,g1,g2,g3⟩;have ej:=bu t3 hj;have hxv:=tv _ (List.getElem_mem hj);generalize t.l[j]=x at ej hxv;simp only [kT,ej,zbS,bL hj (by omega)];rw [if_pos (by omega)];by_cases c1:x.1<0
   ·rw [if_pos c1];exact .inl ⟨_,rfl,u,rfl,by omega,g2,g3⟩
   by_cases c2:x.2.1<0
   ·rw [if_neg c1,if_pos c2];exact .inl ⟨_,rfl,u,rfl,by omega,g2,g3⟩
   by_cases c3:n=0
   ·rw [if_neg c1,if_neg c2,if_pos c3];exact .inl ⟨_,rfl,u,rfl,by omega,g2,g3⟩
   by_cases c4:c=0
   ·rw [if_neg c1,if_neg c2,if_neg c3,if_pos c4];exact .inl ⟨_,rfl,u,rfl,by omega,g2,g3⟩
   rw [if_neg c1,if_neg c2,if_neg c3,if_neg c4];have m1:kJ x.1 n=some (x.1 % n):=by unfold kJ;rw [if_pos c3,Int.tmod_eq_emod_of_nonneg (by omega)]
   have m2:kJ x.2.1 c=some (x.2.1 % c):=by unfold kJ;rw [if_pos c4,Int.tmod_eq_emod_of_nonneg (by omega)]
   have ap:∀z:E3,app u [z]=some (u++ [z]):=fun z=>gA (by simp;unfold cd;omega);simp only [m1,m2,zbS,ap];have h1:=Int.emod_nonneg x.1 c3;have h2:=Int.emod_lt_of_pos x.1 (show 0<n by omega);have h3:=Int.emod_nonneg x.2.1 c4;have h4:=Int.emod_lt_of_pos x.2.1 (show 0<c by omega);refine .inl ⟨_,rfl,_,rfl,by simp;omega,fun y hy=> ?_,fun y hy=> ?_⟩
   ·rcases List.mem_append.1 hy with hy|hy
    ·exact g2 y hy
    ·simp only [List.mem_cons,List.not_mem_nil,or_false]at hy;subst hy;exact⟨⟨h1,h2⟩,h3,h4⟩
   ·rcases List.mem_append.1 hy with hy|hy
    ·exact g3 y hy
    ·simp only [List.mem_cons,List.not_mem_nil,or_false]at hy;subst hy
     exact⟨by unfold cK;dsimp only;omega,by unfold cK;dsimp only;omega,hxv.2.2⟩)
  (by
   rintro _ ⟨u,rfl,g1,g2,g3⟩;refine⟨.inl u,?_,u,rfl,g1,g2,g3⟩;simp only [kT]
   rw [if_neg (by omega)]) 0 (Nat.zero_le _) ([],0) ⟨[],rfl,Nat.le_refl _,fun x hx=>by simp at hx,fun x hx=>by simp at hx⟩
 rw [q1];simp only [zbS,Sum.elim_inl];rw [Jj (lu _),gS];simp only [zbS]
 have hall:u.all (inM n c)=true:=by
  rw [List.all_eq_true];intro x hx;unfold inM;rw [decide_eq_true_eq]
  have:=u2 x hx
  omega
 have e:ofV 1 n c u=if(sumR (RG 1) u).2=0 then(nk n c (sumR (RG 1) u).1,0)else(Mr,(sumR (RG 1) u).2):=by
  unfold ofV;rw [if_pos (by decide),if_pos ⟨sizeF_iff.2 (by omega),sizeF_iff.2 (by omega)⟩,if_pos (by omega),if_pos hall]
 rw [e];obtain⟨s1,s2,s3,s4⟩:=uA (r:=1) (l:=u);by_cases h0:(sumR (RG 1) u).2=0
 ·rw [if_pos h0,if_neg (by simp)];exact⟨_,_,rfl,NV (by omega) (by omega) (by omega) s1 (Li hall) fun x hx=>(s3 x hx).1⟩
 ·rw [if_neg h0,if_pos h0,bW (by omega) (by omega),pW,Ld (by omega)];refine⟨_,[],rfl,?_⟩
  have:=NV (n:=n) (c:=c) (l:= []) (by omega) (by omega) (by simp) List.Pairwise.nil (by simp) (by simp)
  refine⟨this.hn,this.hc,this.len,this.r,this.p,this.v,rfl,rfl,?_,rfl,rfl,.inr rfl,.inl rfl,.inl rfl⟩;show List.replicate (n+1).toNat (0:Int)=_;rw [show(n+1).toNat=n.toNat+1 by omega,rD];rfl
end
section
open Go Sm
def bQ(x:E3):E3:=(x.2.1,x.1,x.2.2)
theorem oO(x:E3):bQ (bQ x)=x:=rfl
theorem Ha{x y:E3}(h:bQ x=bQ y):x=y:=by rw [←oO x,h,oO]
theorem mem_flip{l:List E3}{x:E3}:x∈l.map bQ↔bQ x∈l:=by
 constructor
 ·intro h;obtain⟨y,hy,rfl⟩:=List.mem_map.1 h;exact hy
 ·exact fun h=>List.mem_map.2 ⟨_,h,rfl⟩
def leE(a b:E3):Bool:= !bel b a
theorem yc{a b:E3}:leE a b=true↔¬(b.1<a.1∨b.1=a.1∧b.2.1<a.2.1):=by
 unfold leE;rw [←bel_iff];cases bel b a<;>simp
def cS(l:List E3):List E3:=(l.map bQ).mergeSort leE
theorem oQ(l:List E3):(cS l).Perm (l.map bQ):=List.mergeSort_perm _ _
theorem turn_mem{l:List E3}{x:E3}:x∈cS l↔bQ x∈l:=by rw [(oQ l).mem_iff,mem_flip]
theorem zu(l:List E3):(cS l).length=l.length:=by rw [(oQ l).length_eq,List.length_map]
theorem nH{l:List E3}(h:dm l):l.Nodup:=h.imp fun{a b} hab he=>by
 subst he
 have:=bel_iff.1 hab
 omega
theorem pJ{l:List E3}(h:dm l):dm (cS l):=by
 have h1:(cS l).Pairwise fun a b=>leE a b=true:=List.pairwise_mergeSort (fun a b c hab hbc=>by rw [yc]at*;omega) (fun a b=>by
  rw [Bool.or_eq_true,yc,yc];omega) _
 have h2:(cS l).Nodup:=(oQ l).nodup_iff.2 (List.pairwise_map.2 ((nH h).imp fun{a b} hab he=>hab (Ha he)));rw [dm,List.pairwise_iff_getElem];intro i j hi hj hij;have p1:=List.pairwise_iff_getElem.1 h1 i j hi hj hij;have p2:=List.pairwise_iff_getElem.1 h2 i j hi hj hij;rw [yc]at p1;rw [bel_iff];by_cases hk:(cS l)[i].1=(cS l)[j].1∧(cS l)[i].2.1=(cS l)[j].2.1
 ·have m1:=turn_mem.1 (List.getElem_mem hi);have m2:=turn_mem.1 (List.getElem_mem hj);exact absurd (Ha (Mt h m1 m2 hk.2 hk.1)) p2
 ·omega
theorem Mu{l l':List E3}(h:dm l)(h':dm l')(hm:∀x,x∈l↔x∈l'):l=l':=
 List.Perm.eq_of_pairwise (le:=fun a b=>bel a b=true) (fun a b _ _ h1 h2=>by rw [bel_iff]at h1 h2;omega) h h' ((List.perm_ext_iff_of_nodup (nH h) (nH h')).2 hm)
theorem Jl{T:List E3}(h:dm T){p:Nat}(hp:p<T.length):T.countP (fun y=>bel y T[p])=p:=by
 have hpw:=List.pairwise_iff_getElem.1 h;have e:T=T.take p++T[p]::T.drop (p+1):=by rw [List.getElem_cons_drop,List.take_append_drop]
 have c:∀x,T.countP (fun y=>bel y x)=(T.take p).countP (fun y=>bel y x)+(T[p]::T.drop (p+1)).countP (fun y=>bel y x):=fun x=>by rw [←List.countP_append,←e]
 rw [c,List.countP_eq_length.2,List.countP_eq_zero.2]
 ·rw [List.length_take];omega
 ·intro a ha;rcases List.mem_cons.1 ha with rfl|ha
  ·rw [bel_iff];omega
  ·obtain⟨j,hj,rfl⟩:=List.mem_iff_getElem.1 ha;rw [List.getElem_drop];rw [List.length_drop]at hj
   have:=bel_iff.1 (hpw p (p+1+j) hp (by omega) (by omega))
   rw [bel_iff];omega
 ·intro a ha;obtain⟨j,hj,rfl⟩:=List.mem_take_iff_getElem.1 ha;exact hpw j p (by omega) hp (by omega)
def rZ(u:List E3)(k:Nat):Nat:=u.countP fun x=>decide (x.2.1=(k:Int))
theorem QW(u:List E3)(k:Nat):rZ u k≤u.length:=List.countP_le_length
theorem NZ(u:List E3)(e:E3)(k:Nat):rZ (u++ [e]) k=rZ u k+if e.2.1=(k:Int)then 1 else 0:=by
 unfold rZ;rw [List.countP_append];congr 1;by_cases h:e.2.1=(k:Int)<;>simp [h]
theorem Cm{a:Int}:∀u:List E3,u.countP (fun y=>decide (y.2.1<a∨y.2.1=a))=u.countP (fun y=>decide (y.2.1<a))+u.countP (fun y=>decide (y.2.1=a))
 | []=>rfl
 |x::u=>by
  have ih:=Cm (a:=a) u;simp only [List.countP_cons,ih];by_cases h1:x.2.1<a
  ·have h2:¬x.2.1=a:=by omega
   simp [h1,h2];omega
  ·by_cases h2:x.2.1=a
   ·simp [h2];omega
   ·simp [h1,h2]
theorem zv{l u w:List E3}{e:E3}(hl:l=u++e::w)(h:dm l){k:Nat}(hk:e.2.1=(k:Int)):(cS l)[aO (l.map bQ) k+rZ u k]? =some (bQ e):=by
 have he:e∈l:=by rw [hl];simp
 obtain⟨p,hp,hpe⟩:=List.mem_iff_getElem.1 (turn_mem.2 (show bQ (bQ e)∈l from he));have hi:=Jl (pJ h) hp;rw [hpe,(oQ l).countP_eq,List.countP_map]at hi;have hc:aO (l.map bQ) k=l.countP fun y=>decide (y.2.1<(k:Int)):=by unfold aO;rw [List.countP_map];rfl
 rw [hl,dm,List.pairwise_append]at h;obtain⟨h1,h2,h3⟩:=h;obtain⟨h4,h5⟩:=List.pairwise_cons.1 h2
 have c1:u.countP ((fun y=>bel y (bQ e))∘ bQ)=u.countP (fun y=>decide (y.2.1<(k:Int)∨y.2.1=(k:Int))):=List.countP_congr fun y hy=>by
  have:=bel_iff.1 (h3 y hy e List.mem_cons_self)
  show bel (bQ y) (bQ e)=true↔_;rw [bel_iff,decide_eq_true_eq];show y.2.1<e.2.1∨y.2.1=e.2.1∧y.1<e.1↔_;rw [hk];omega
 have c2:(e::w).countP ((fun y=>bel y (bQ e))∘ bQ)=(e::w).countP (fun y=>decide (y.2.1<(k:Int))):=List.countP_congr fun y hy=>by
  show bel (bQ y) (bQ e)=true↔_;rw [bel_iff,decide_eq_true_eq];show y.2.1<e.2.1∨y.2.1=e.2.1∧y.1<e.1↔_;rw [hk];rcases List.mem_cons.1 hy with rfl|hy
  ·omega
  ·have:=bel_iff.1 (h4 y hy)
   omega
 have:aO (l.map bQ) k+rZ u k=p:=by
  rw [←hi,hc,hl,List.countP_append,List.countP_append,c1,c2,Cm];unfold rZ;omega
 rw [this,List.getElem?_eq_getElem hp,hpe]
theorem Hb{l u w:List E3}{e:E3}(hl:l=u++e::w)(h:dm l){k:Nat}(hk:e.2.1=(k:Int))(g:E3→Int):((cS l).map fun x=>if bQ x∈u then g x else 0).set (aO (l.map bQ) k+rZ u k) (g (bQ e))=(cS l).map fun x=>if bQ x∈u++ [e]then g x else 0:=by
 have hp:=zv hl h hk;have hnd:=nH (pJ h);refine List.ext_getElem? fun j=> ?_;rw [List.getElem?_set];by_cases hj:aO (l.map bQ) k+rZ u k=j
 ·rw [if_pos hj];rw [hj]at hp;have hlt:=(List.getElem?_eq_some_iff.1 hp).1;rw [if_pos (by rw [hj,List.length_map];exact hlt),List.getElem?_map,hp];simp [oO]
 ·rw [if_neg hj,List.getElem?_map,List.getElem?_map]
  cases hx:(cS l)[j]? with
  |none=>rfl
  |some x=>
   have hne:bQ x≠e:=by
    intro he;obtain⟨a1,a2⟩:=List.getElem?_eq_some_iff.1 hx;obtain⟨b1,b2⟩:=List.getElem?_eq_some_iff.1 hp;refine hj ?_;have hxe:x=bQ e:=by rw [←he,oO]
    have hpw:=List.pairwise_iff_getElem.1 hnd;rcases Nat.lt_trichotomy (aO (l.map bQ) k+rZ u k) j with hlt|heq|hlt
    ·exact absurd (b2.trans (hxe.symm.trans a2.symm)) (hpw _ _ b1 a1 hlt)
    ·exact heq
    ·exact absurd (a2.trans (hxe.trans b2.symm)) (hpw _ _ a1 b1 hlt)
   simp [hne]
theorem Hc{k:Nat}(hk:k≤4096){l:List E3}(hl:l.length≤65536)(hr:∀x∈l,0≤x.1):aL nD (1,dL k (fun i=>((nl l i:Nat):Int)))=some (.inl (dL k fun i=>((aO l i:Nat):Int))):=by
 have h0:aO l 0=nl l 0:=by
  unfold aO nl;refine List.countP_congr fun x hx=> ?_
  have:=hr x hx
  simp;omega
 refine iM k (fun j=>(((j+1:Nat):Int),dL k (fun i=>if i≤j then((aO l i:Nat):Int)else((nl l i:Nat):Int)))) ?_ (fun j hj=> ?_) ?_
 ·rw [Prod.mk.injEq];refine⟨rfl,dM fun i hi=> ?_⟩;by_cases h:i≤0
  ·rw [if_pos h,show i=0 by omega,h0]
  ·rw [if_neg h]
 ·have e1:atL (dL k (fun i=>if i≤j then((aO l i:Nat):Int)else((nl l i:Nat):Int))) ((j+1:Nat):Int)=some ((nl l (j+1):Nat):Int):=cv (by rw [de _ (by omega),if_neg (by omega)]);have e2:atL (dL k (fun i=>if i≤j then((aO l i:Nat):Int)else((nl l i:Nat):Int))) (j:Int)=some ((aO l j:Nat):Int):=cv (by rw [de _ (by omega),if_pos (by omega)]);have w1:IntKind.i64.wrap (((j+1:Nat):Int) - 1)=(j:Int):=by rw [bW (by omega) (by omega)];omega
  have w2:IntKind.i64.wrap (((j+1:Nat):Int)+1)=((j+1+1:Nat):Int):=by rw [bW (by omega) (by omega)];omega
  have c1:=Lg l (j+1);have c2:=kV l j;have w3:IntKind.i64.wrap (((nl l (j+1):Nat):Int)+((aO l j:Nat):Int))=((nl l (j+1):Nat):Int)+((aO l j:Nat):Int):=bW (by omega) (by omega);simp only [nD,e1,e2,w1,w2,w3,zbS,Int.toNat_natCast,dD];rw [if_pos (by omega),qO _ _ (by omega)];refine congrArg (fun z=>some (Sum.inl ((((j+1+1:Nat):Int),z)))) (dM fun i hi=> ?_)
  have:=Cj l j
  by_cases h:i=j+1
  ·rw [if_pos h,if_pos (by omega),h,this];omega
  ·rw [if_neg h];by_cases h2:i≤j
   ·rw [if_pos h2,if_pos (by omega)]
   ·rw [if_neg h2,if_neg (by omega)]
 ·simp only [nD,dD];rw [if_neg (by omega)];refine congrArg (fun z=>some (Sum.inr (Sum.inl z))) (dM fun i hi=> ?_);rw [if_pos hi]
section
variable {m : Mx} {n c : Int} {l : List E3}
theorem Jm(h:Is m n c l):aL (nB m) (0,dL c.toNat fun _=>0)=some (.inl (dL c.toNat fun i=>((nl (l.map bQ) i:Nat):Int))):=by
 have hc:=h.hc;have hlen:=h.len;refine iM l.length (fun j=>((j:Int),dL c.toNat (fun i=>((nl ((l.take j).map bQ) i:Nat):Int)))) rfl (fun j hj=> ?_) ?_
 ·have ej:=du h.o4 (show m.2.2.2.1.l[j]? =some l[j].2.1 by rw [h.e4,List.getElem?_map,List.getElem?_eq_getElem hj];rfl);have hx:=h.p _ (List.getElem_mem hj);obtain⟨row,hrow⟩:=Int.eq_ofNat_of_zero_le hx.2.1;have hlen2:((l.take j).map bQ).length≤65536:=by simp;omega
  have hw:IntKind.i64.wrap (l[j].2.1+1)=((row+1:Nat):Int):=by rw [bW (by omega) (by omega)];omega
  have hat:atL (dL c.toNat fun i=>((nl ((l.take j).map bQ) i:Nat):Int)) ((row+1:Nat):Int)=some ((nl ((l.take j).map bQ) (row+1):Nat):Int):=cv (de _ (by omega));have hcc:=Lg ((l.take j).map bQ) (row+1);have hw2:IntKind.i64.wrap (((nl ((l.take j).map bQ) (row+1):Nat):Int)+1)=((nl ((l.take j).map bQ) (row+1):Nat):Int)+1:=bW (by omega) (by omega);simp only [nB,ej,zbS,hw,hat,hw2,Int.toNat_natCast,bL hj (by omega)];rw [if_pos (by rw [h.e4,List.length_map];omega),qO _ _ (by omega),List.take_succ_eq_append_getElem hj,List.map_append];simp only [List.map_cons,List.map_nil];refine congrArg (fun z=>some (Sum.inl ((((j+1:Nat):Int),z)))) (dM fun i hi=> ?_);rw [NU];show _=((nl ((l.take j).map bQ) i+if l[j].2.1+1=(i:Int)then 1 else 0:Nat):Int);rw [hrow];by_cases h:i=row+1
  ·rw [if_pos h,if_pos (by omega),h];omega
  ·rw [if_neg h,if_neg (by omega)];omega
 ·simp only [nB];rw [if_neg (by rw [h.e4,List.length_map];omega),List.take_length]
def uC(l u:List E3)(g:E3→Int):List Int:=(cS l).map fun x=>if bQ x∈u then g x else 0
def atV(c:Int)(l u:List E3):List Int:=dL c.toNat fun k=>((aO (l.map bQ) k+rZ u k:Nat):Int)
theorem Oa(h:Is m n c l){q:List Int×List Int×List Int}{i:Int}{u R w:List E3}(hl:l=u++R++w)(hR:∀x∈R,x.1=i){s t:Sl Int}(hs:s.l=R.map (·.2.1))(ht:t.l=R.map (·.2.2))(os:okS 1 s)(ot:okS 1 t):
  aL (nF (i,q) (s,t)) (0,uC l u (·.2.1),uC l u (·.2.2),atV c l u)=some (.inl (uC l (u++R) (·.2.1),uC l (u++R) (·.2.2),atV c l (u++R))):=by
 have hc:=h.hc;have hlen:=h.len;have hRl:R.length≤65536:=by have:=congrArg List.length hl;simp at this;omega
 refine iM R.length (fun j=>((j:Int),uC l (u++R.take j) (·.2.1),uC l (u++R.take j) (·.2.2),atV c l (u++R.take j))) (by simp) (fun j hj=> ?_) ?_
 ·have g:=List.getElem?_eq_getElem hj;have a1:=du os (show s.l[j]? =some R[j].2.1 by rw [hs,List.getElem?_map,g];rfl);have a2:=du ot (show t.l[j]? =some R[j].2.2 by rw [ht,List.getElem?_map,g];rfl)
  have hl2:l=(u++R.take j)++R[j]::(R.drop (j+1)++w):=by
   rw [hl];have hsp:R=R.take j++R[j]::R.drop (j+1):=by rw [List.getElem_cons_drop,List.take_append_drop]
   have:R++w=R.take j++R[j]::(R.drop (j+1)++w):=by
    rw [←List.cons_append,←List.append_assoc,←hsp]
   rw [List.append_assoc,this,List.append_assoc]
  have hx:=h.p R[j] (by rw [hl];simp);obtain⟨k,hk⟩:=Int.eq_ofNat_of_zero_le hx.2.1;have hp:=zv hl2 h.r hk;have e1:=Hb hl2 h.r hk (·.2.1);have e2:=Hb hl2 h.r hk (·.2.2);have hi:(bQ R[j]).2.1=i:=hR _ (List.getElem_mem hj);have hu:u++R.take (j+1)=u++R.take j++ [R[j]]:=by rw [List.take_succ_eq_append_getElem hj,List.append_assoc]
  have c1:=kV (l.map bQ) k;have c2:=QW (u++R.take j) k;have c3:(u++R.take j).length≤65536:=by have:=congrArg List.length hl2;simp at this ⊢;omega
  rw [List.length_map]at c1
  have b1:atL (atV c l (u++R.take j)) R[j].2.1=some ((aO (l.map bQ) k+rZ (u++R.take j) k:Nat):Int):=by
   rw [hk];exact cv (de _ (by omega))
  have hgs:∀g:E3→Int,∃v,(uC l (u++R.take j) g)[aO (l.map bQ) k+rZ (u++R.take j) k]? =some v:=fun g=>⟨_,by unfold uC;rw [List.getElem?_map,hp];rfl⟩;obtain⟨v1,hv1⟩:=hgs (·.2.1);obtain⟨v2,hv2⟩:=hgs (·.2.2);have b2:=cv hv1;have b3:=cv hv2;have w1:IntKind.i64.wrap (((aO (l.map bQ) k+rZ (u++R.take j) k:Nat):Int)+1)=((aO (l.map bQ) k+rZ (u++R.take j) k+1:Nat):Int):=by rw [bW (by omega) (by omega)];rfl
  simp only [nF];rw [if_pos (by rw [hs,List.length_map];omega)];simp only [a1,a2,b1,b2,b3,w1,zbS,bL hj (by omega),Int.toNat_natCast];refine congrArg some (congrArg Sum.inl ?_);simp only [Prod.mk.injEq,true_and];refine⟨?_,?_,?_⟩
  ·rw [hu,←hi];exact e1
  ·rw [hu];exact e2
  ·rw [hu,hk,Int.toNat_natCast];unfold atV;rw [qO _ _ (by omega)];refine dM fun i2 hi2=> ?_;rw [NZ,hk];by_cases h:i2=k
   ·subst h;simp;omega
   ·rw [if_neg h,if_neg (by omega)];omega
 ·simp only [nF];rw [if_neg (by rw [hs,List.length_map];omega),List.take_length]
theorem Hd(l:List E3)(g:E3→Int):uC l l g=(cS l).map g:=by
 unfold uC;refine List.map_congr_left fun x hx=> ?_;rw [if_pos (turn_mem.1 hx)]
theorem He(l:List E3)(g:E3→Int):uC l [] g=List.replicate l.length 0:=by
 unfold uC;rw [←zu l,List.eq_replicate_iff];exact⟨List.length_map ..,fun b hb=>by obtain⟨x,_,rfl⟩:=List.mem_map.1 hb;simp⟩
theorem Jn(h:Is m n c l):jb m=some (c,n,⟨true,1,dL c.toNat fun i=>((aO (l.map bQ) i:Nat):Int)⟩,⟨true,1,(cS l).map (·.2.1)⟩,⟨true,1,(cS l).map (·.2.2)⟩):=by
 have hc:=h.hc;have hn:=h.hn;have hlen:=h.len;have tk:(c+1).toNat=c.toNat+1:=by omega
 rw [GQ,xj h];simp only [zbS];rw [h.e1,h.e2,h.e4,h.e5,bW (by omega) (by omega),pW,Ld hc,List.length_map,List.length_map,pW,UO (by omega)];simp only [zbS,tk,Int.toNat_natCast];rw [rD,Jm h];simp only [zbS,Sum.elim_inl];rw [Hc (by omega) (by rw [List.length_map];exact hlen) (fun x hx=>(h.p _ (mem_flip.1 hx)).2.1)];simp only [zbS,Sum.elim_inl];rw [gA (by rw [dD];unfold cd;simp;omega),List.nil_append];simp only [zbS]
 have q:aL (nG m) (0,List.replicate l.length 0,List.replicate l.length 0,dL c.toNat fun i=>((aO (l.map bQ) i:Nat):Int))=some (.inl ((cS l).map (·.2.1),(cS l).map (·.2.2))):=by
  refine iM n.toNat (fun i=>((i:Int),uC l (zt l (i:Int)) (·.2.1),uC l (zt l (i:Int)) (·.2.2),atV c l (zt l (i:Int)))) ?_ (fun i hi=> ?_) ?_
  ·rw [show((0:Nat):Int)=0 from rfl,Ms fun x hx=>(h.p x hx).1.1,He,He];refine congrArg (fun z=>((0:Int),List.replicate l.length (0:Int),List.replicate l.length (0:Int),z)) (dM fun i hi=> ?_);simp [rZ]
  ·obtain⟨s,t,e1,e2,e3,e4,e5⟩:=Jk h (i:Int);simp only [nG];rw [h.e1,if_pos (by omega),e1];simp only [zbS]
   have hsplit:l=zt l (i:Int)++gP l (i:Int)++(l.filter fun x=> !decide (x.1<((i+1:Nat):Int))):=by
    rw [←Cl h.r];exact(oH (oI h.r) _).symm
   rw [Oa h hsplit (fun x hx=>(lw hx).2) e2 e3 e4 e5];simp only [zbS,Sum.elim_inl];rw [bL hi (by omega),Cl h.r]
  ·simp only [nG];rw [h.e1,if_neg (by omega),NW fun x hx=>by have:=(h.p x hx).1;omega,Hd,Hd]
 rw [q];simp only [zbS,Sum.elim_inl]
end
end
section
open Go Sm
section
variable {m : Mx}
end
end
section
open Go Sm
abbrev Cx:=Int×Int×Sl Int×Sl Int×Sl Int×Sl Int
def neC(T:List E3)(k:Nat):Bool:=decide (aO T k<aO T (k+1))
def je(T:List E3)(n:Nat):List Int:=((List.range n).filter (neC T)).map fun(k:Nat)=>(k:Int)
def Cn(T:List E3)(n:Nat):List Int:=((List.range n).filter (neC T)).map fun(k:Nat)=>((aO T (k+1):Nat):Int)
def lM(T:List E3)(n:Nat):List Int:=0::Cn T n
section
variable {T : List E3}
theorem pK(n:Nat):je T (n+1)=je T n++if neC T n=true then [(n:Int)]else []:=by
 unfold je;rw [List.range_succ,List.filter_append,List.map_append];by_cases h:neC T n=true<;>simp [h]
theorem Jo(n:Nat):Cn T (n+1)=Cn T n++if neC T n=true then [((aO T (n+1):Nat):Int)]else []:=by
 unfold Cn;rw [List.range_succ,List.filter_append,List.map_append];by_cases h:neC T n=true<;>simp [h]
theorem Ob(n:Nat):(Cn T n).length=(je T n).length:=by unfold Cn je;simp
theorem oS(n:Nat):(lM T n).length=(je T n).length+1:=by unfold lM;rw [List.length_cons,Ob]
theorem nI(n:Nat):lM T (n+1)=lM T n++if neC T n=true then [((aO T (n+1):Nat):Int)]else []:=by
 unfold lM;rw [Jo,List.cons_append]
theorem Hg(n:Nat):(je T n).length≤n:=by
 unfold je;rw [List.length_map];exact Nat.le_trans (List.length_filter_le _ _) (by rw [List.length_range];exact Nat.le_refl _)
theorem qP(T:List E3)(k:Nat):aO T (k+1)=aO T k+(gP T (k:Int)).length:=by
 unfold aO gP
 induction T with
 |nil=>rfl
 |cons x l ih=>
  rw [List.countP_cons,List.countP_cons,List.filter_cons,ih];by_cases h:x.1<(k:Int)
  ·rw [if_pos (decide_eq_true (by omega)),if_pos (decide_eq_true h),if_neg (by simp;omega)];omega
  ·by_cases h2:x.1=(k:Int)
   ·rw [if_pos (decide_eq_true (by omega)),if_neg (by simpa using h),if_pos (decide_eq_true h2),List.length_cons];omega
   ·rw [if_neg (by simp;omega),if_neg (by simpa using h),if_neg (by simpa using h2)];omega
theorem neC_iff{k:Nat}:neC T k=true↔gP T (k:Int)≠[]:=by
 unfold neC;rw [qP,decide_eq_true_eq,←List.length_pos_iff];omega
theorem Hh(h0:∀x∈T,0≤x.1):aO T 0=0:=by
 unfold aO;rw [List.countP_eq_zero];intro x hx
 have:=h0 x hx
 simp;omega
theorem cols_mem{n:Nat}{x:Int}:x∈je T n↔∃j:Nat,x=(j:Int)∧j<n∧neC T j=true:=by
 unfold je;rw [List.mem_map];constructor
 ·rintro⟨j,h1,h2⟩;rw [List.mem_filter,List.mem_range]at h1;exact⟨j,h2.symm,h1⟩
 ·rintro⟨j,h1,h2⟩;exact⟨j,by rw [List.mem_filter,List.mem_range];exact h2,h1.symm⟩
theorem Oc(n:Nat):(je T n).Pairwise (·<·):=by
 unfold je;rw [List.pairwise_map];exact(List.pairwise_lt_range.sublist List.filter_sublist).imp fun h=>by omega
theorem sZ(h0:∀x∈T,0≤x.1):∀n:Nat,(lM T n)[(je T n).length]? =some ((aO T n:Nat):Int)
 |0=>by rw [Hh h0];rfl
 |n+1=>by
  rw [nI,pK];by_cases h:neC T n=true
  ·rw [if_pos h,if_pos h,List.length_append,List.length_singleton,List.getElem?_append_right (by rw [oS];exact Nat.le_refl _),oS,Nat.sub_self];rfl
  ·rw [if_neg h,if_neg h,List.append_nil,List.append_nil,sZ h0 n]
   have:¬aO T n<aO T (n+1):=by simpa [neC]using h
   have h3:=qP T n
   have:aO T (n+1)=aO T n:=by omega
   rw [this]
theorem zw(h0:∀x∈T,0≤x.1):∀(n i j:Nat),(je T n)[i]? =some (j:Int)→(j<n∧neC T j=true)∧(lM T n)[i]? =some ((aO T j:Nat):Int)∧(lM T n)[i+1]? =some ((aO T (j+1):Nat):Int)
 |0,i,j,h=>by simp [je]at h
 |n+1,i,j,h=>by
  have hL:=oS (T:=T) n;by_cases hn:neC T n=true
  ·rw [pK,if_pos hn]at h;rw [nI,if_pos hn];by_cases hi:i<(je T n).length
   ·rw [List.getElem?_append_left hi]at h;obtain⟨⟨h1,h2⟩,h3,h4⟩:=zw h0 n i j h;exact⟨⟨by omega,h2⟩,by rw [List.getElem?_append_left (by omega),h3],by rw [List.getElem?_append_left (by omega),h4]⟩
   ·have hi2:=(List.getElem?_eq_some_iff.1 h).1;rw [List.length_append,List.length_singleton]at hi2;obtain rfl:i=(je T n).length:=by omega
    rw [List.getElem?_append_right (Nat.le_refl _),Nat.sub_self]at h
    have:(n:Int)=(j:Int):=by simpa using h
    obtain rfl:n=j:=by omega
    refine⟨⟨by omega,hn⟩,?_,?_⟩
    ·rw [List.getElem?_append_left (by omega),sZ h0]
    ·rw [List.getElem?_append_right (by omega),hL,Nat.sub_self];rfl
  ·rw [pK,if_neg hn,List.append_nil]at h;rw [nI,if_neg hn,List.append_nil];obtain⟨⟨h1,h2⟩,h3⟩:=zw h0 n i j h;exact⟨⟨by omega,h2⟩,h3⟩
end
structure IsC(c:Cx)(n k:Int)(T:List E3):Prop where
 hn:0≤n∧n≤4096
 hk:0≤k∧k≤4096
 len:T.length≤65536
 r:dm T
 p:∀x∈T,(0≤x.1∧x.1<k)∧0≤x.2.1∧x.2.1<n
 v:∀x∈T,cK x.2.2
 e1:c.1=n
 e2:c.2.1=k
 e3:c.2.2.1.l=je T k.toNat
 e4:c.2.2.2.1.l=lM T k.toNat
 e5:c.2.2.2.2.1.l=T.map (·.2.1)
 e6:c.2.2.2.2.2.l=T.map (·.2.2)
 o3:okS 1 c.2.2.1
 o4:okS 1 c.2.2.2.1
 o5:okS 1 c.2.2.2.2.1
 o6:okS 1 c.2.2.2.2.2
section
variable {c : Cx} {n k : Int} {T : List E3}
theorem IsC.h0(h:IsC c n k T):∀x∈T,0≤x.1:=fun x hx=>(h.p x hx).1.1
theorem IsC.at_ge(h:IsC c n k T){i:Nat}{j:Int}(hi:c.2.2.1.l[i]? =some j):∃jn:Nat,j=(jn:Int)∧jn<k.toNat∧neC T jn=true∧c.2.2.2.1.l[i]? =some ((aO T jn:Nat):Int)∧c.2.2.2.1.l[i+1]? =some ((aO T (jn+1):Nat):Int):=by
 rw [h.e3]at hi;obtain⟨jn,rfl,h1,h2⟩:=cols_mem.1 (List.mem_of_getElem? hi);obtain⟨_,h3,h4⟩:=zw h.h0 _ _ _ hi;rw [←h.e4]at h3 h4;exact⟨jn,rfl,h1,h2,h3,h4⟩
theorem IsC.mem_iff(h:IsC c n k T){j:Int}:j∈c.2.2.1.l↔gP T j≠[]:=by
 rw [h.e3,cols_mem];constructor
 ·rintro⟨jn,rfl,_,h2⟩;exact neC_iff.1 h2
 ·intro hne;obtain⟨x,hx⟩:=List.exists_mem_of_ne_nil _ hne;obtain⟨h1,h2⟩:=lw hx
  have:=(h.p x h1).1
  rw [h2]at this;refine⟨j.toNat,by omega,by omega,?_⟩;rw [neC_iff,show((j.toNat:Nat):Int)=j by omega];exact hne
theorem IsC.atLen(h:IsC c n k T):c.2.2.1.l.length≤4096:=by
 rw [h.e3]
 have:=Hg (T:=T) k.toNat
 have:=h.hk
 omega
theorem IsC.stLen(h:IsC c n k T):c.2.2.2.1.l.length=c.2.2.1.l.length+1:=by rw [h.e4,h.e3,oS]
theorem IsC.asc(h:IsC c n k T):c.2.2.1.l.Pairwise (·<·):=by rw [h.e3];exact Oc _
theorem Hi(hp:∀x∈T,x.1<k){j:Nat}(hj:k≤(j:Int)):aO T j=T.length:=by
 unfold aO;rw [List.countP_eq_length];intro x hx
 have:=hp x hx
 simp;omega
theorem IsC.last(h:IsC c n k T):c.2.2.2.1.l[c.2.2.1.l.length]? =some (T.length:Int):=by
 rw [h.e4,h.e3,sZ h.h0,Hi (fun x hx=>(h.p x hx).1.2) (by have:=h.hk;omega)]
end
def sw(r:Int)(st ro:List Int)(i:Nat):Bool:=decide (0≤st.getD i 0)&&(decide (st.getD i 0<st.getD (i+1) 0)&&(decide (st.getD (i+1) 0≤ro.length)&& il (-1) r (eH ro (st.getD i 0) (st.getD (i+1) 0))))
def qQ(c:Cx):Bool:=dk c.1 &&(dk c.2.1 &&(decide (c.2.2.2.1.l.length=c.2.2.1.l.length+1)&&(decide (c.2.2.2.1.l.getD 0 0=0)&&(il (-1) c.2.1 c.2.2.1.l &&(decide (c.2.2.2.2.1.l.length=c.2.2.2.2.2.l.length)&&(decide (c.2.2.2.2.1.l.length≤65536)&&(decide (c.2.2.2.1.l.getD c.2.2.1.l.length 0=c.2.2.2.2.1.l.length)&&(List.range c.2.2.1.l.length).all (sw c.1 c.2.2.2.1.l c.2.2.2.2.1.l))))))))
structure OkC(c:Cx):Prop where
 a:okS 1 c.2.2.1
 s:okS 1 c.2.2.2.1
 r:okS 1 c.2.2.2.2.1
 v:okS 1 c.2.2.2.2.2
 va:∀y∈c.2.2.2.2.2.l,cK y
 la:c.2.2.1.l.length≤4096
 ls:c.2.2.2.1.l.length≤9223372036854775806
 lr:c.2.2.2.2.1.l.length≤9223372036854775806
 lv:c.2.2.2.2.2.l.length≤9223372036854775806
section
variable {c : Cx}
theorem gh(h:qQ c=true):(0≤c.1∧c.1≤4096)∧(0≤c.2.1∧c.2.1≤4096)∧c.2.2.2.1.l.length=c.2.2.1.l.length+1∧c.2.2.2.1.l.getD 0 0=0∧il (-1) c.2.1 c.2.2.1.l=true∧c.2.2.2.2.1.l.length=c.2.2.2.2.2.l.length∧c.2.2.2.2.1.l.length≤65536∧c.2.2.2.1.l.getD c.2.2.1.l.length 0=c.2.2.2.2.1.l.length∧∀i,i<c.2.2.1.l.length→sw c.1 c.2.2.2.1.l c.2.2.2.2.1.l i=true:=by
 unfold qQ at h;simp only [Bool.and_eq_true,decide_eq_true_eq,sizeF_iff,all_range]at h;exact h
end
end
section
open Go Sm
section
variable {m : Mx} {n c : Int} {l : List E3}
end
end
section
open Go Sm
section
variable {m : Mx} {n c : Int} {l : List E3}
end
end
section
open Go Sm
theorem Hj(n:Int):ky n=some (dk n):=by
 rw [←zl,EJ,nA]
theorem uD(s:Sl Int)(n:Int)(hok:okS 1 s)(hl:s.l.length≤9223372036854775807):js s n=some (il (-1) n s.l):=by
 rw [←xi s n hok hl,BD,ma];rfl
theorem qR{c:Cx}(h:qQ c=true→False):some false=some (qQ c):=by rw [Bool.eq_false_iff.2 h]
theorem colOk_iff{r:Int}{st ro:List Int}{i:Nat}:sw r st ro i=true↔0≤st.getD i 0∧st.getD i 0<st.getD (i+1) 0∧st.getD (i+1) 0≤(ro.length:Int)∧il (-1) r (eH ro (st.getD i 0) (st.getD (i+1) 0))=true:=by
 unfold sw;simp only [Bool.and_eq_true,decide_eq_true_eq]
theorem Mv{r k:Int}{a s t v:Sl Int}(hs:okS 1 s)(ht:okS 1 t)(hn:a.l.length≤4096)(hl:s.l.length=a.l.length+1)(h0:s.l.getD 0 0=0)(tl:t.l.length≤65536):∃q,aL (kU (r,k,a,s,t,v)) 0=some q∧(((List.range a.l.length).all (sw r s.l t.l)=true∧q= .inl ())∨((List.range a.l.length).all (sw r s.l t.l)=false∧q= .inr (.inl false))):=by
 refine bK (b:=kU (r,k,a,s,t,v)) a.l.length (fun j z=>z=(j:Int)∧0≤s.l.getD j 0∧∀i,i<j→sw r s.l t.l i=true) _ ?_ ?_ 0 (Nat.zero_le _) 0 ⟨rfl,by omega,fun i hi=>absurd hi (by omega)⟩
 ·rintro j _ hj ⟨rfl,hp,ha⟩;have e1:=bu hs (j:=j) (by omega);have e2:=bu hs (j:=j+1) (by omega);rw [←iN]at e1 e2;simp only [kU,e1,zbS,bL hj (by omega)];rw [if_pos (by omega),e2];simp only [zbS];have bad:¬sw r s.l t.l j=true→(List.range a.l.length).all (sw r s.l t.l)=false:=fun h=>oF hj (Bool.eq_false_iff.2 h);by_cases c1:s.l.getD (j+1) 0≤s.l.getD j 0
  ·rw [if_pos c1];exact .inr ⟨_,rfl,.inr ⟨bad fun h=>by have:=colOk_iff.1 h;omega,rfl⟩⟩
  rw [if_neg c1];by_cases c2:s.l.getD (j+1) 0>((t.l.length:Nat):Int)
  ·rw [if_pos c2];exact .inr ⟨_,rfl,.inr ⟨bad fun h=>by have:=colOk_iff.1 h;omega,rfl⟩⟩
  rw [if_neg c2]
  have hc:kq 1 t (s.l.getD j 0) (s.l.getD (j+1) 0)=some ⟨t.nn,t.sz,eH t.l (s.l.getD j 0) (s.l.getD (j+1) 0)⟩:=by
   unfold kq
   have hz:t.sz=1∨s.l.getD j 0=0:=by
    rcases ht with h|h
    ·rw [h]at c2;simp only [List.length_nil]at c2;omega
    ·exact .inl h
   rw [if_pos ⟨hp,by omega,by omega,hz⟩];rfl
  rw [hc];simp only [zbS];have hcl:(eH t.l (s.l.getD j 0) (s.l.getD (j+1) 0)).length≤65536:=by rw [ke ⟨hp,by omega,by omega⟩];omega
  have hok:okS 1 (⟨t.nn,t.sz,eH t.l (s.l.getD j 0) (s.l.getD (j+1) 0)⟩:Sl Int):=by
   rcases ht with h|h
   ·left;unfold eH;simp [h]
   ·exact .inr h
  rw [uD _ r hok (show(eH t.l (s.l.getD j 0) (s.l.getD (j+1) 0)).length≤_ by omega)];simp only [zbS]
  cases hb:il (-1) r (eH t.l (s.l.getD j 0) (s.l.getD (j+1) 0))with
  |true=>
   rw [if_neg (by simp)];refine .inl ⟨_,rfl,rfl,by omega,fun i hi=> ?_⟩;by_cases e:i=j
   ·rw [e];exact colOk_iff.2 ⟨hp,by omega,by omega,hb⟩
   ·exact ha i (by omega)
  |false=>
   rw [if_pos (by simp)];exact .inr ⟨_,rfl,.inr ⟨bad fun h=>(by have:=(colOk_iff.1 h).2.2.2;rw [hb]at this;cases this),rfl⟩⟩
 ·rintro _ ⟨rfl,hp,ha⟩;exact⟨_,if_neg (show¬((a.l.length:Nat):Int)<((a.l.length:Nat):Int)by omega),.inl ⟨all_range.2 ha,rfl⟩⟩
theorem Co{c:Cx}(h1:dk c.1=true)(h2:dk c.2.1=true)(h3:c.2.2.2.1.l.length=c.2.2.1.l.length+1)(h4:c.2.2.2.1.l.getD 0 0=0)(h5:il (-1) c.2.1 c.2.2.1.l=true)(h6:c.2.2.2.2.1.l.length=c.2.2.2.2.2.l.length)(h7:c.2.2.2.2.1.l.length≤65536)(h8:c.2.2.2.1.l.getD c.2.2.1.l.length 0=c.2.2.2.2.1.l.length):qQ c=(List.range c.2.2.1.l.length).all (sw c.1 c.2.2.2.1.l c.2.2.2.2.1.l):=by
 unfold qQ;rw [h1,h2,decide_eq_true h3,decide_eq_true h4,h5,decide_eq_true h6,decide_eq_true h7,decide_eq_true h8];rfl
theorem ET{c:Cx}(h:OkC c):dJ c=some (qQ c):=by
 obtain⟨r,k,a,s,t,v⟩:=c;obtain⟨o1,o2,o3,o4,vv,la,ls,lr,lv⟩:=h;simp only at o1 o2 o3 o4 vv la ls lr lv;rw [BE];simp only [Hj,zbS];by_cases z1:dk r=true
 rotate_left
 ·rw [if_pos z1];exact qR fun h=>z1 (sizeF_iff.2 (gh h).1)
 rw [if_neg (fun h=>h z1)];by_cases z2:dk k=true
 rotate_left
 ·rw [if_pos z2];exact qR fun h=>z2 (sizeF_iff.2 (gh h).2.1)
 rw [if_neg (fun h=>h z2),bW (n:=((a.l.length:Nat):Int)+1) (by omega) (by omega)];by_cases g1:s.l.length=a.l.length+1
 rotate_left
 ·rw [if_pos (by omega)];exact qR fun h=>g1 (gh h).2.2.1
 rw [if_neg (by omega)];have e0:=bu o2 (j:=0) (by omega);rw [←iN]at e0;have e0':atS 1 s 0=some (s.l.getD 0 0):=e0;rw [e0'];simp only [zbS];by_cases g2:s.l.getD 0 0=0
 rotate_left
 ·rw [if_pos g2];exact qR fun h=>g2 (gh h).2.2.2.1
 rw [if_neg (fun h=>h g2),uD _ _ o1 (by omega)];simp only [zbS];by_cases g3:il (-1) k a.l=true
 rotate_left
 ·rw [if_pos g3];exact qR fun h=>g3 (gh h).2.2.2.2.1
 rw [if_neg (fun h=>h g3)];by_cases g4:t.l.length=v.l.length
 rotate_left
 ·rw [if_pos (by omega)];exact qR fun h=>g4 (gh h).2.2.2.2.2.1
 rw [if_neg (by omega)];by_cases g5:t.l.length≤65536
 rotate_left
 ·rw [if_pos (by omega)];exact qR fun h=>g5 (gh h).2.2.2.2.2.2.1
 rw [if_neg (by omega)];have en:=bu o2 (j:=a.l.length) (by omega);rw [←iN]at en;rw [en];simp only [zbS];by_cases g6:s.l.getD a.l.length 0=((t.l.length:Nat):Int)
 rotate_left
 ·rw [if_pos g6];exact qR fun h=>g6 (gh h).2.2.2.2.2.2.2.1
 rw [if_neg (fun h=>h g6)];obtain⟨q,q1,q2⟩:=Mv (r:=r) (k:=k) (v:=v) o2 o3 la g1 g2 g5;rw [q1,Co z1 z2 g1 g2 g3 g4 g5 g6];rcases q2 with⟨e,rfl⟩|⟨e,rfl⟩<;>simp only [e]<;>rfl
section
variable {c : Cx} {n k : Int} {T : List E3}
theorem IsC.ok(h:IsC c n k T):OkC c:=by
 have:=h.atLen
 have:=h.stLen
 have:=h.len
 refine⟨h.o3,h.o4,h.o5,h.o6,fun y hy=> ?_,by omega,by omega,?_,?_⟩
 ·rw [h.e6]at hy;obtain⟨x,hx,rfl⟩:=List.mem_map.1 hy;exact h.v x hx
 ·rw [h.e5,List.length_map];omega
 ·rw [h.e6,List.length_map];omega
theorem getD_some{l:List Int}{i:Nat}{x:Int}(h:l[i]? =some x):l.getD i 0=x:=by rw [List.getD_eq_getElem?_getD,h];rfl
theorem IsC.right(h:IsC c n k T):qQ c=true:=by
 have hl:=h.last;have hlen:=h.len;rw [Co (sizeF_iff.2 (by rw [h.e1];exact h.hn)) (sizeF_iff.2 (by rw [h.e2];exact h.hk)) h.stLen (by rw [h.e4];rfl) ?_ (by rw [h.e5,h.e6,List.length_map,List.length_map]) (by rw [h.e5,List.length_map];exact hlen) (by rw [getD_some hl,h.e5,List.length_map])]
 ·refine all_range.2 fun i hi=>colOk_iff.2 ?_;obtain⟨jn,e1,h1,h2,h3,h4⟩:=h.at_ge (List.getElem?_eq_getElem hi);rw [getD_some h3,getD_some h4,h.e5,List.length_map];have h5:aO T jn<aO T (jn+1):=by simpa [neC]using h2
  have h6:=kV T (jn+1);refine⟨by omega,by omega,by omega,?_⟩;rw [oJ];unfold eH;rw [Int.toNat_natCast,Int.toNat_natCast,(mc h.r jn).2,←oM,ascI_iff'];refine⟨QV h.r _,fun x hx=> ?_⟩;obtain⟨y,hy,rfl⟩:=List.mem_map.1 hx
  have:=(h.p y (lw hy).1).2
  rw [h.e1];omega
 ·rw [h.e2,ascI_iff'];refine⟨h.asc,fun x hx=> ?_⟩;rw [h.e3]at hx;obtain⟨j,rfl,h1,_⟩:=cols_mem.1 hx;omega
theorem ob(h:IsC c n k T):dJ c=some true:=by rw [ET h.ok,h.right]
theorem EU(h:IsC c n k T):mt c=some c:=by rw [EK,ob h];rfl
end
end
section
open Go Sm
theorem Od{s:Sl Int}{a b:Nat}(hs:okS 1 s)(hab:a≤b)(hb:b≤s.l.length):∃t:Sl Int,kq 1 s (a:Int) (b:Int)=some t∧t.l=(s.l.drop a).take (b - a)∧okS 1 t:=by
 have hz:s.sz=1∨(a:Int)=0:=by
  rcases hs with h|h
  ·rw [h]at hb;simp at hb;right;omega
  ·exact .inl h
 refine⟨⟨s.nn,s.sz,(s.l.drop a).take (b - a)⟩,?_,rfl,?_⟩
 ·unfold kq;rw [if_pos ⟨by omega,by omega,by omega,hz⟩];simp
 ·rcases hs with h|h
  ·left;simp [h]
  ·exact .inr h
def zx(n k:Int)(T:List E3):Cx:=(n,k,mo 1 (je T k.toNat),⟨true,1,lM T k.toNat⟩,⟨true,1,T.map (·.2.1)⟩,⟨true,1,T.map (·.2.2)⟩)
section
variable {m : Mx} {n k : Int} {l T : List E3} {c : Cx}
theorem QX(hn:0≤n∧n≤4096)(hk:0≤k∧k≤4096)(hl:T.length≤65536)(h:dm T)(hp:∀x∈T,(0≤x.1∧x.1<k)∧0≤x.2.1∧x.2.1<n)(hv:∀x∈T,cK x.2.2):IsC (zx n k T) n k T:=
 ⟨hn,hk,hl,h,hp,hv,rfl,rfl,gS _ _,rfl,rfl,rfl,lu _,.inr rfl,.inr rfl,.inr rfl⟩
theorem Oe(l:List E3)(i:Nat):aO (l.map bQ) i=aO (cS l) i:=by
 unfold aO;rw [(oQ l).countP_eq]
theorem Of{n:Nat}(h:n≤100000):vc .i64 (n:Int) 2=some ((n / 2:Nat):Int):=by
 unfold vc;rw [if_pos (by omega),Int.tdiv_eq_ediv_of_nonneg (by omega),bW (by omega) (by omega)];rfl
theorem Hk(h:IsC c n k T)(y:Int):(∃j:Nat,y=(j:Int)∧jB c y=some (((aO T j:Nat):Int),((aO T (j+1):Nat):Int)))∨(gP T y= []∧jB c y=some (0,0)):=by
 have hp:=List.pairwise_iff_getElem.1 h.asc;have hL:=h.atLen
 have key:∀d a b:Nat,b - a≤d→a≤b→b≤c.2.2.1.l.length→(∀j (hj:j<c.2.2.1.l.length),j<a→c.2.2.1.l[j]<y)→(∀j (hj:j<c.2.2.1.l.length),b≤j→y<c.2.2.1.l[j])→(∃j:Nat,y=(j:Int)∧aL (dq c y) (0,0,(a:Int),(b:Int))=some (.inl (((aO T j:Nat):Int),((aO T (j+1):Nat):Int))))∨(y ∉ c.2.2.1.l∧aL (dq c y) (0,0,(a:Int),(b:Int))=some (.inl (0,0))):=by
  intro d
  induction d with
  |zero=>
   intro a b hd hab hb h1 h2;obtain rfl:a=b:=by omega
   refine .inr ⟨fun hy=> ?_,iq ?_⟩
   ·obtain⟨j,hj,he⟩:=List.mem_iff_getElem.1 hy;rcases Nat.lt_or_ge j a with h3|h3
    ·have:=h1 j hj h3;omega
    ·have:=h2 j hj h3;omega
   ·simp only [dq];rw [if_neg (by omega)]
  |succ d ih=>
   intro a b hd hab hb h1 h2;by_cases hlt:a<b
   ·have hmid:(a+b)/ 2<c.2.2.1.l.length:=by omega
    have e1:IntKind.i64.wrap ((a:Int)+(b:Int))=((a+b:Nat):Int):=by rw [bW (by omega) (by omega)];omega
    have e2:=Of (n:=a+b) (by omega);have a1:=du h.o3 (List.getElem?_eq_getElem hmid);have w1:IntKind.i64.wrap ((((a+b)/ 2:Nat):Int)+1)=(((a+b)/ 2+1:Nat):Int):=by rw [bW (by omega) (by omega)];omega
    by_cases hc:c.2.2.1.l[(a+b)/ 2]=y
    ·obtain⟨jn,j1,j2,j3,j4,j5⟩:=h.at_ge (List.getElem?_eq_getElem hmid);refine .inl ⟨jn,by omega,iq ?_⟩;simp only [dq];rw [if_pos (by omega),e1,e2];simp only [zbS];rw [a1];simp only [zbS];rw [if_pos hc,du h.o4 j4,w1,du h.o4 j5];rfl
    by_cases hc2:c.2.2.1.l[(a+b)/ 2]<y
    ·have st:aL (dq c y) (0,0,(a:Int),(b:Int))=aL (dq c y) (0,0,(((a+b)/ 2+1:Nat):Int),(b:Int)):=tC (by
      simp only [dq];rw [if_pos (by omega),e1,e2];simp only [zbS];rw [a1];simp only [zbS]
      rw [if_neg hc,if_pos hc2,w1])
     rw [st]
     exact ih ((a+b)/ 2+1) b (by omega) (by omega) hb (fun j hj hja=>by
      by_cases hjm:j=(a+b)/ 2
      ·subst hjm;exact hc2
      ·have:=hp j ((a+b)/ 2) hj hmid (by omega);omega) h2
    ·have st:aL (dq c y) (0,0,(a:Int),(b:Int))=aL (dq c y) (0,0,(a:Int),(((a+b)/ 2:Nat):Int)):=tC (by
      simp only [dq];rw [if_pos (by omega),e1,e2];simp only [zbS];rw [a1];simp only [zbS]
      rw [if_neg hc,if_neg hc2])
     rw [st]
     exact ih a ((a+b)/ 2) (by omega) (by omega) (by omega) h1 (fun j hj hja=>by
      by_cases hjm:j=(a+b)/ 2
      ·subst hjm;omega
      ·have:=hp ((a+b)/ 2) j hmid hj (by omega);omega)
   ·obtain rfl:a=b:=by omega
    exact ih a a (by omega) hab hb h1 h2
 rw [EL];rcases key c.2.2.1.l.length 0 c.2.2.1.l.length (by omega) (by omega) (Nat.le_refl _) (fun j _ h=>by omega) (fun j hj h=>by omega)with⟨j,q1,q2⟩|⟨q1,q2⟩
 ·refine .inl ⟨j,q1,?_⟩;rw [show((0:Int),(0:Int),(0:Int),(c.2.2.1.l.length:Int))=(0,0,((0:Nat):Int),(c.2.2.1.l.length:Int))from rfl,q2];rfl
 ·refine .inr ⟨?_,?_⟩
  ·rw [h.mem_iff]at q1;exact Classical.not_not.1 q1
  ·rw [show((0:Int),(0:Int),(0:Int),(c.2.2.1.l.length:Int))=(0,0,((0:Nat):Int),(c.2.2.1.l.length:Int))from rfl,q2];rfl
theorem EV(h:IsC c n k T)(y:Int):∃f t:Nat,jB c y=some ((f:Int),(t:Int))∧f≤t∧t≤T.length∧(T.drop f).take (t - f)=gP T y∧t - f=(gP T y).length:=by
 rcases Hk h y with⟨j,rfl,e⟩|⟨e1,e2⟩
 ·have:=qP T j
  refine⟨_,_,e,by omega,kV _ _,?_,by omega⟩;rw [(mc h.r j).2,oM]
 ·exact⟨0,0,e2,by omega,by omega,by simp [e1],by simp [e1]⟩
theorem IsC.at_ro(h:IsC c n k T){i:Nat}(hi:i<T.length):atS 1 c.2.2.2.2.1 (i:Int)=some T[i].2.1:=du h.o5 (by rw [h.e5,List.getElem?_map,List.getElem?_eq_getElem hi];rfl)
theorem IsC.at_va(h:IsC c n k T){i:Nat}(hi:i<T.length):atS 1 c.2.2.2.2.2 (i:Int)=some T[i].2.2:=du h.o6 (by rw [h.e6,List.getElem?_map,List.getElem?_eq_getElem hi];rfl)
def jf(T:List E3)(l:List Int):Nat:=(l.map fun y=>(gP T y).length).sum
theorem Cp(T:List E3)(l:List Int)(y:Int):jf T (l++ [y])=jf T l+(gP T y).length:=by unfold jf;simp
theorem Hl(T:List E3):∀l:List Int,jf T l≤l.length*T.length
 | []=>by simp [jf]
 |y::l=>by
  have:=Hl T l
  have h2:=NX T y;unfold jf at this ⊢;rw [List.map_cons,List.sum_cons,List.length_cons,Nat.succ_mul];omega
theorem Mw{T:List E3}(hT:T.length≤65536){l:List Int}(hl:l.length≤10000):jf T l≤655360000:=by
 have:=Hl T l
 have:l.length*T.length≤10000*65536:=Nat.mul_le_mul hl hT
 omega
theorem Jp{T:List E3}{l:List Int}{i:Nat}(hi:i<l.length):jf T (l.take (i+1))=jf T (l.take i)+(gP T l[i]).length:=by
 rw [List.take_succ_eq_append_getElem hi,Cp]
theorem EW(h:IsC c n k T){y:Sl Int}(hy:okS 1 y)(hl:y.l.length≤10000):fV c y=some (jf T y.l:Int):=by
 have hlen:=h.len;rw [EM,EU h];simp only [zbS]
 have q:aL (mb y c) (0,0)=some (.inl (jf T y.l:Int)):=by
  have e:jf T y.l=jf T (y.l.take y.l.length):=by rw [List.take_length]
  rw [e];refine iM y.l.length (fun i=>((jf T (y.l.take i):Int),(i:Int))) ?_ (fun i hi=> ?_) ?_
  ·simp [jf]
  ·obtain⟨f,t,e,h1,h2,h3,h4⟩:=EV h y.l[i];have a1:=du hy (List.getElem?_eq_getElem hi);have b1:=Mw hlen (l:=y.l.take i) (by rw [List.length_take];omega);simp only [mb,a1,zbS];rw [if_pos (by omega),e];simp only [zbS];rw [bW (n:=(t:Int) - (f:Int)) (by omega) (by omega),bW (n:=(jf T (y.l.take i):Int)+_) (by omega) (by omega),bL hi (by omega),Jp hi,←h4];refine congrArg some (congrArg Sum.inl (Prod.ext ?_ rfl));simp only;omega
  ·simp only [mb];rw [if_neg (by omega)]
 rw [q];rfl
end
end
end KM
end Ev
end
end Go.Proofs.YtgefmokmjdeecaaDoor
