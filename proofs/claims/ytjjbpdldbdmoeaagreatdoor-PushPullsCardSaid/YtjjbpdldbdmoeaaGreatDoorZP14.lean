/- Texts of a claim, joined. -/
import Derived.Test.YtjjbpdldbdmoeaaGreatDoorZP13
set_option linter.unusedVariables false
set_option linter.unusedSimpArgs false
namespace Go.Proofs.YtjjbpdldbdmoeaaGreatDoor
noncomputable section
namespace Ev
namespace KM
section
open Go
def okS{α:Type}(w:Nat)(s:Sl α):Prop:=s.l= []∨s.sz=w
theorem SlW.ok{α:Type}{w:Nat}{Q:α->Prop}{s:Sl α}(h:SlW w Q s):okS w s:= .inr h.1
def iE{α:Type}:Sl α:=⟨false,0,[]⟩
theorem jp{α:Type}{w:Nat}:okS w (iE:Sl α):= .inl rfl
theorem mS{α:Type}{w:Nat}(l:List α):okS w (mo w l):=by cases l with|nil=>exact .inl rfl|cons x l=>exact .inr rfl
theorem cA{α:Type}{l:List α}{j:Nat}{x:α}(h:l[j]? =some x):atL l (j:Int)=some x:=by
 have hj:=(List.getElem?_eq_some_iff.1 h);rw [Pr hj.1,hj.2]
theorem fE{α:Type}{w:Nat}{s:Sl α}(hs:okS w s){j:Nat}{x:α}(h:s.l[j]? =some x):atS w s (j:Int)=some x:=by
 have hj:=(List.getElem?_eq_some_iff.1 h);rw [cg hs hj.1,hj.2]
theorem TY{A R:Type}{b:A->Option (A ⊕ R)}(n:Nat)(st:Nat->A){r:R}(hs:∀j,j<n->b (st j)=some (.inl (st (j+1))))(he:b (st n)=some (.inr r)):aK b (st 0)=some r:=by
 obtain⟨q,h1,h2⟩:=cr (b:=b) n (λj a=>a=st j) (λq=>q=r) (λj a hj ha=> .inl ⟨st (j+1),by rw [ha];exact hs j hj,rfl⟩) (λa ha=>⟨r,by rw [ha];exact he,rfl⟩) 0 (Nat.zero_le _) (st 0) rfl;rw [h1,h2]
theorem jC{A R:Type}{b:A->Option (A ⊕ R)}(n:Nat)(st:Nat->A){a:A}(ha:a=st 0){r:R}(hs:∀j,j<n->b (st j)=some (.inl (st (j+1))))(he:b (st n)=some (.inr r)):aK b a=some r:=by rw [ha];exact TY n st hs he
theorem all_range{n:Nat}{p:Nat->Bool}:(List.range n).all p=true↔∀i,i<n->p i=true:=by
 rw [List.all_eq_true];exact⟨λh i hi=>h i (List.mem_range.2 hi),λh i hi=>h i (List.mem_range.1 hi)⟩
theorem oM{n i:Nat}{p:Nat->Bool}(hi:i<n)(h:p i=false):(List.range n).all p=false:=by
 rw [Bool.eq_false_iff];intro ha;rw [all_range.1 ha i hi]at h;cases h
theorem kW{l:List Int}{j:Nat}(h:j<l.length):l.getD j 0=l[j]:=by rw [List.getD_eq_getElem?_getD,List.getElem?_eq_getElem h];rfl
def eo(n:Int):Bool:=decide (0<=n)&& decide (n<=4096)
theorem sizeF_iff{n:Int}:eo n=true↔0<=n/\n<=4096:=by unfold eo;simp
theorem OM{n:Int}(h:0<=n/\n<=4096):gP (n+1)=some ():=by unfold gP cu;rw [if_pos ⟨by omega,by omega⟩]
theorem abF{n:Nat}(h:n<=1000000):gP (n:Int)=some ():=by unfold gP cu;rw [if_pos ⟨by omega,by omega⟩]
end
section
open Go
abbrev Mx:=Int×Int×Sl Int×Sl Int×Sl Int
abbrev E3:=Int×Int×Int
def jN:Int->Int->List Int->Bool
 |_,_,[]=>true
 |a,n,x::l=>decide (a<x)&& decide (x<n)&& jN x n l
theorem oO(a n x:Int)(l:List Int):jN a n (x::l)=(decide (a<x)&& decide (x<n)&& jN x n l):=rfl
theorem ascI_iff'{n:Int}:∀{l:List Int} {a:Int},jN a n l=true↔l.Pairwise (·<·)/\∀x∈l,a<x/\x<n
 | [],a=>by simp [jN]
 |x::l,a=>by
  rw [oO,Bool.and_eq_true,Bool.and_eq_true,decide_eq_true_eq,decide_eq_true_eq,ascI_iff',List.pairwise_cons];constructor
  .rintro⟨⟨h1,h2⟩,h3,h4⟩;refine⟨⟨λy hy=>(h4 y hy).1,h3⟩,λy hy=> ?_⟩;rcases List.mem_cons.1 hy with rfl|hy
   .exact⟨h1,h2⟩
   .have:=h4 y hy;omega
  .rintro⟨⟨h1,h2⟩,h3⟩;exact⟨h3 x (by simp),h2,λy hy=>⟨h1 y hy,(h3 y (by simp [hy])).2⟩⟩
theorem Bc(n:Int):mP n=some (eo n):=by
 rw [yw];unfold eo;by_cases h1:n >= 0
 .rw [if_pos h1,decide_eq_true (show 0<=n from h1)];simp
 .rw [if_neg h1,decide_eq_false (show¬0<=n from h1)];rfl
theorem yz(s:Sl Int)(n:Int)(hok:okS 1 s)(hl:s.l.length<=9223372036854775807):mC s n=some (jN (-1) n s.l):=by
 rw [vC]
 obtain⟨r,h1,h2⟩:=cr (b:=pL s n) s.l.length (λj a=>∃la,a=(la,(j:Int))/\jN (-1) n s.l=jN la n (s.l.drop j)) (λr=>(jN (-1) n s.l=true/\r= .inl ())∨(jN (-1) n s.l=false/\r= .inr (.inl false)))
  (by
   rintro j _ hj ⟨la,rfl,ha⟩;rw [List.drop_eq_getElem_cons hj,oO]at ha;simp only [pL,cg hok hj,zbS,ci hj hl];rw [if_pos (by omega)];by_cases c1:s.l[j]<=la
   .refine .inr ⟨_,if_pos c1,.inr ⟨?_,rfl⟩⟩;rw [ha,decide_eq_false (by omega)];rfl
   .rw [if_neg c1];by_cases c2:s.l[j]>= n
    .refine .inr ⟨_,if_pos c2,.inr ⟨?_,rfl⟩⟩;rw [ha,decide_eq_false (p:=s.l[j]<n) (by omega)];simp
    .refine .inl ⟨_,if_neg c2,_,rfl,?_⟩
     rw [ha,decide_eq_true (by omega),decide_eq_true (by omega)];rfl)
  (by
   rintro _ ⟨la,rfl,ha⟩;refine⟨_,if_neg (by simp only;omega),.inl ⟨?_,rfl⟩⟩
   rw [ha,List.drop_length];rfl) 0 (Nat.zero_le _) (-1,0) ⟨-1,rfl,rfl⟩
 rw [h1];rcases h2 with⟨h3,rfl⟩|⟨h3,rfl⟩<;>rw [h3]<;>rfl
def gg{α:Type}(l:List α)(f t:Int):List α:=(l.drop f.toNat).take (t.toNat - f.toNat)
theorem lk{α:Type}{l:List α}{f t:Int}(h:0<=f/\f<=t/\t<=l.length):(gg l f t).length=t.toNat - f.toNat:=by
 unfold gg;simp;omega
def iM(c:Int)(st co:List Int)(i:Nat):Bool:=decide (0<=st.getD i 0)&&(decide (st.getD i 0<=st.getD (i+1) 0)&&(decide (st.getD (i+1) 0<=co.length)&& jN (-1) c (gg co (st.getD i 0) (st.getD (i+1) 0))))
def eK(m:Mx):Bool:=eo m.1 &&(eo m.2.1 &&(decide ((m.2.2.1.l.length:Int)=m.1+1)&&(decide (m.2.2.1.l.getD 0 0=0)&&(decide (m.2.2.2.1.l.length=m.2.2.2.2.l.length)&&(decide (m.2.2.2.1.l.length<=65536)&&(decide (m.2.2.1.l.getD m.1.toNat 0=m.2.2.2.1.l.length)&&(List.range m.1.toNat).all (iM m.2.1 m.2.2.1.l m.2.2.2.1.l)))))))
structure OkM(m:Mx):Prop where
 st:okS 1 m.2.2.1
 co:okS 1 m.2.2.2.1
 va:okS 1 m.2.2.2.2
 v64:∀x∈m.2.2.2.2.l,cC x
 sl:m.2.2.1.l.length<=9223372036854775807
 cl:m.2.2.2.1.l.length<=9223372036854775807
 vl:m.2.2.2.2.l.length<=9223372036854775807
theorem nI{n:Nat}{c:Int}{st co:List Int}{i:Nat}(hi:i<n)(h:iM c st co i=false):(List.range n).all (iM c st co)=false:=oM hi h
theorem Ua{n:Nat}{c:Int}{s t v:Sl Int}(hs:okS 1 s)(ht:okS 1 t)(hn:n<=4096)(hl:s.l.length=n+1)(h0:s.l.getD 0 0=0)(tl:t.l.length<=65536):∃q,aK (mh ((n:Int),c,s,t,v)) 0=some q/\(((List.range n).all (iM c s.l t.l)=true/\q= .inl ())∨((List.range n).all (iM c s.l t.l)=false/\q= .inr (.inl false))):=by
 refine cr (b:=mh ((n:Int),c,s,t,v)) n (λj a=>a=(j:Int)/\0<=s.l.getD j 0/\∀i,i<j->iM c s.l t.l i=true) _ ?_ ?_ 0 (Nat.zero_le _) 0 ⟨rfl,by omega,λi hi=>absurd hi (by omega)⟩
 .rintro j _ hj ⟨rfl,hp,ha⟩;have e1:=cg hs (j:=j) (by omega);have e2:=cg hs (j:=j+1) (by omega);rw [<-kW]at e1 e2;simp only [mh,e1,zbS,ci hj (by omega)];rw [if_pos (by omega),e2];simp only [zbS];by_cases c1:s.l.getD (j+1) 0<s.l.getD j 0
  .rw [if_pos c1];exact .inr ⟨_,rfl,.inr ⟨nI hj (by unfold iM;rw [decide_eq_false (p:=s.l.getD j 0<=s.l.getD (j+1) 0) (by omega)];simp),rfl⟩⟩
  rw [if_neg c1];by_cases c2:s.l.getD (j+1) 0>((t.l.length:Nat):Int)
  .rw [if_pos c2];exact .inr ⟨_,rfl,.inr ⟨nI hj (by unfold iM;rw [decide_eq_false (p:=s.l.getD (j+1) 0<=(t.l.length:Int)) (by omega)];simp),rfl⟩⟩
  rw [if_neg c2]
  have hc:lA 1 t (s.l.getD j 0) (s.l.getD (j+1) 0)=some ⟨t.nn,t.sz,gg t.l (s.l.getD j 0) (s.l.getD (j+1) 0)⟩:=by
   unfold lA
   have hz:t.sz=1∨s.l.getD j 0=0:=by
    rcases ht with h|h
    .right;rw [h]at c2;simp only [List.length_nil]at c2;omega
    .exact .inl h
   rw [if_pos ⟨hp,by omega,by omega,hz⟩];rfl
  rw [hc];simp only [zbS];have hcl:(gg t.l (s.l.getD j 0) (s.l.getD (j+1) 0)).length<=65536:=by rw [lk ⟨hp,by omega,by omega⟩];omega
  have hok:okS 1 (⟨t.nn,t.sz,gg t.l (s.l.getD j 0) (s.l.getD (j+1) 0)⟩:Sl Int):=by
   rcases ht with h|h
   .left;unfold gg;simp [h]
   .exact .inr h
  rw [yz _ c hok (show(gg t.l (s.l.getD j 0) (s.l.getD (j+1) 0)).length<=_ by omega)];simp only [zbS]
  have hr:iM c s.l t.l j=jN (-1) c (gg t.l (s.l.getD j 0) (s.l.getD (j+1) 0)):=by
   unfold iM;rw [decide_eq_true hp,decide_eq_true (p:=s.l.getD j 0<=s.l.getD (j+1) 0) (by omega),decide_eq_true (p:=s.l.getD (j+1) 0<=(t.l.length:Int)) (by omega)];simp
  cases hb:jN (-1) c (gg t.l (s.l.getD j 0) (s.l.getD (j+1) 0))with
  |true=>
   rw [if_neg (by simp)];refine .inl ⟨_,rfl,rfl,by omega,λi hi=> ?_⟩;by_cases e:i=j
   .rw [e,hr,hb]
   .exact ha i (by omega)
  |false=>
   rw [if_pos (by simp)];exact .inr ⟨_,rfl,.inr ⟨nI hj (by rw [hr,hb]),rfl⟩⟩
 .rintro _ ⟨rfl,hp,ha⟩;exact⟨_,if_neg (by omega),.inl ⟨all_range.2 ha,rfl⟩⟩
theorem yA{m:Mx}(h:OkM m):eZ m=some (eK m):=by
 obtain⟨n,c,s,t,v⟩:=m;obtain⟨h1,h2,h3,h4,h5,h6,h7⟩:=h;simp only at h1 h2 h3 h4 h5 h6 h7;rw [pM];unfold eK;simp only [Bc,zbS]
 cases z1:eo n with
 |false=>rfl
 |true=>
  cases z2:eo c with
  |false=>rfl
  |true=>
   obtain⟨a1,a2⟩:=sizeF_iff.1 z1;simp only [Bool.true_and,not_true_eq_false,if_false];rw [cY (n:=n+1) (by omega) (by omega)];by_cases g1:((s.l.length:Nat):Int)=n+1
   .rw [if_neg (λh=>h g1),decide_eq_true g1];have e0:=cg h1 (j:=0) (by omega);rw [<-kW]at e0;have e0':atS 1 s 0=some (s.l.getD 0 0):=e0;rw [e0'];simp only [zbS,Bool.true_and];by_cases g2:s.l.getD 0 0=0
    .rw [if_neg (λh=>h g2),decide_eq_true g2];simp only [Bool.true_and];by_cases g3:t.l.length=v.l.length
     .rw [if_neg (λh=>h (by omega)),decide_eq_true g3];simp only [Bool.true_and];by_cases g4:t.l.length<=65536
      .rw [if_neg (by omega),decide_eq_true g4];simp only [Bool.true_and];obtain⟨k,rfl⟩:=Int.eq_ofNat_of_zero_le a1;have en:=cg h1 (j:=k) (by omega);rw [<-kW]at en;rw [en];simp only [zbS,Int.toNat_natCast];by_cases g5:s.l.getD k 0=((t.l.length:Nat):Int)
       .rw [if_neg (λh=>h g5),decide_eq_true g5];simp only [Bool.true_and];obtain⟨q,q1,q2⟩:=Ua (c:=c) (v:=v) h1 h2 (by omega) (n:=k) (by omega) g2 g4;rw [q1];rcases q2 with⟨e,rfl⟩|⟨e,rfl⟩<;>rw [e]<;>rfl
       .rw [if_pos g5,decide_eq_false g5];rfl
      .rw [if_pos (by omega),decide_eq_false g4];rfl
     .rw [if_pos (λh=>g3 (by omega)),decide_eq_false g3];rfl
    .rw [if_pos g2,decide_eq_false g2];rfl
   .rw [if_pos g1,decide_eq_false g1];rfl
end
section
open Go Sm
def bel(a b:E3):Bool:=klt (key a) (key b)
theorem bel_iff{a b:E3}:bel a b=true↔a.1<b.1∨a.1=b.1/\a.2.1<b.2.1:=by unfold bel klt key;simp
abbrev dF(l:List E3):Prop:=l.Pairwise λa b=>bel a b=true
def ee(n:Nat)(f:Nat->Int):List Int:=(List.range (n+1)).map f
theorem dY(n:Nat)(f:Nat->Int):(ee n f).length=n+1:=by unfold ee;simp
theorem dw{n k:Nat}(f:Nat->Int)(h:k<=n):(ee n f)[k]? =some (f k):=by
 unfold ee;rw [List.getElem?_map,List.getElem?_range (by omega)];rfl
theorem gh{n k:Nat}(f:Nat->Int)(h:k<=n):(ee n f).getD k 0=f k:=by rw [List.getD_eq_getElem?_getD,dw f h];rfl
theorem eg{n:Nat}{f g:Nat->Int}(h:∀k,k<=n->f k=g k):ee n f=ee n g:=by
 unfold ee;refine List.map_congr_left λk hk=>h k ?_;simp at hk;omega
theorem rg{n k:Nat}(f:Nat->Int)(v:Int)(h:k<=n):(ee n f).set k v=ee n λi=>if i=k then v else f i:=by
 refine List.ext_getElem? λi=> ?_;rw [List.getElem?_set];by_cases hi:i<=n
 .rw [dw _ hi];by_cases e:k=i
  .subst e;rw [if_pos rfl,if_pos (by rw [dY];omega),dw _ hi,if_pos rfl]
  .rw [if_neg e,dw _ hi,if_neg (Ne.symm e)]
 .rw [if_neg (by omega)];rw [List.getElem?_eq_none (by rw [dY];omega),List.getElem?_eq_none (by rw [dY];omega)]
theorem so(n:Nat):List.replicate (n+1) (0:Int)=ee n λ_=>0:=by
 refine List.ext_getElem? λi=> ?_;by_cases hi:i<=n
 .rw [dw _ hi,List.getElem?_replicate,if_pos (by omega)]
 .rw [List.getElem?_eq_none (by simp;omega),List.getElem?_eq_none (by rw [dY];omega)]
def aH(l:List E3)(k:Nat):Nat:=l.countP λx=>decide (x.1<(k:Int))
theorem ml(l:List E3)(k:Nat):aH l k<=l.length:=List.countP_le_length
theorem JF(l:List E3)(x:E3)(k:Nat):aH (l++ [x]) k=aH l k+if x.1<(k:Int)then 1 else 0:=by
 unfold aH;rw [List.countP_append];congr 1;by_cases h:x.1<(k:Int)<;>simp [h]
theorem Ub{n:Nat}(hn:n<=4096){row:Nat}(hr:row<n){f:Nat->Int}(hf:∀k,0<=f k/\f k<=100000):aK (hZ (n:Int)) ((((row+1:Nat):Int)),ee n f)=some (.inl (ee n λi=>f i+if row<i then 1 else 0)):=by
 obtain⟨q,q1,q2⟩:=cr (b:=hZ (n:Int)) (n - row) (λj st=>st=(((row+1+j:Nat):Int),ee n λi=>f i+if row<i/\i<=row+j then 1 else 0)) (λq=>q= .inl (ee n λi=>f i+if row<i then 1 else 0))
  (by
   rintro j _ hj rfl
   have hat:atL (ee n λi=>f i+if row<i/\i<=row+j then 1 else 0) ((row+1+j:Nat):Int)=some (f (row+1+j)):=by
    unfold atL;rw [if_pos (by omega),Int.toNat_natCast,dw _ (by omega),if_neg (by omega),Int.add_zero]
   have hfk:=hf (row+1+j);simp only [hZ,hat,zbS,Int.toNat_natCast];rw [if_pos (by omega),cY (n:=f (row+1+j)+1) (by omega) (by omega),rg _ _ (by omega),cY (n:=((row+1+j:Nat):Int)+1) (by omega) (by omega)];refine .inl ⟨_,rfl,?_⟩;rw [Prod.mk.injEq];refine⟨by omega,eg λi hi=> ?_⟩;by_cases e:i=row+1+j
   .rw [if_pos e,e,if_pos (by omega)]
   .rw [if_neg e];by_cases h1:row<i/\i<=row+j
    .rw [if_pos h1,if_pos (by omega)]
    .rw [if_neg h1,if_neg (by omega)])
  (by
   rintro _ rfl;refine⟨_,?_,rfl⟩;simp only [hZ];rw [if_neg (by omega)];congr 3;refine eg λi hi=> ?_;by_cases h1:row<i
   .rw [if_pos h1,if_pos (by omega)]
   .rw [if_neg h1,if_neg (by omega)]) 0 (Nat.zero_le _) (((row+1:Nat):Int),ee n f) (by
    rw [Prod.mk.injEq];refine⟨by omega,eg λi hi=> ?_⟩
    rw [if_neg (by omega),Int.add_zero])
 rw [q1,q2]
def nr(n c:Int)(l:List E3):Mx:=(n,c,⟨true,1,ee n.toNat λk=>((aH l k:Nat):Int)⟩,mo 1 (l.map (·.2.1)),mo 1 (l.map (·.2.2)))
theorem Dy{n c:Int}(hn:0<=n/\n<=4096){s:Sl E3}(hs:okS 3 s)(hl:s.l.length<=65536)(hr:∀x∈s.l,0<=x.1/\x.1<n):jA n c s=some (nr n c s.l):=by
 obtain⟨k,rfl⟩:=Int.eq_ofNat_of_zero_le hn.1;rw [AZ];unfold nr;rw [cY (by omega) (by omega),qg];have hlo:gP ((k:Int)+1)=some ():=by unfold gP cu;rw [if_pos ⟨by omega,by omega⟩]
 rw [hlo];have tk:((k:Int)+1).toNat=k+1:=by omega
 simp only [zbS,tk,Int.toNat_natCast];rw [so]
 obtain⟨q,q1,q2⟩:=cr (b:=jU (k:Int) s) s.l.length (λj st=>st=((j:Int),(k:Int),c,ee k (λi=>((aH (s.l.take j) i:Nat):Int)),(s.l.take j).map (·.2.1),(s.l.take j).map (·.2.2))) (λq=>q= .inl ((k:Int),c,ee k (λi=>((aH s.l i:Nat):Int)),s.l.map (·.2.1),s.l.map (·.2.2)))
  (by
   rintro j _ hj rfl;have ej:=cg hs hj;have hx:=hr _ (List.getElem_mem hj);obtain⟨row,hrow⟩:=Int.eq_ofNat_of_zero_le hx.1;have hlen:(s.l.take j).length<=65536:=by simp;omega
   have ap1:app ((s.l.take j).map (·.2.1)) [s.l[j].2.1]=some ((s.l.take j).map (·.2.1)++ [s.l[j].2.1]):=ik (by simp at hlen ⊢;unfold cu;omega);have ap2:app ((s.l.take j).map (·.2.2)) [s.l[j].2.2]=some ((s.l.take j).map (·.2.2)++ [s.l[j].2.2]):=ik (by simp at hlen ⊢;unfold cu;omega);have hw:IntKind.i64.wrap (s.l[j].1+1)=((row+1:Nat):Int):=by rw [cY (by omega) (by omega)];omega
   have hin:=Ub (n:=k) (by omega) (row:=row) (by omega) (f:=λi=>((aH (s.l.take j) i:Nat):Int)) (λi=>by have:=ml (s.l.take j) i;omega);simp only [jU,ej,zbS,ap1,ap2,hw,hin,Sum.elim_inl,ci hj (by omega)];rw [if_pos (by omega)];refine .inl ⟨_,rfl,?_⟩;rw [List.take_succ_eq_append_getElem hj,List.map_append,List.map_append];simp only [List.map_cons,List.map_nil,Prod.mk.injEq,and_true,true_and];refine eg λi hi=> ?_;rw [JF,hrow];by_cases h:row<i
   .rw [if_pos h,if_pos (by omega)];omega
   .rw [if_neg h,if_neg (by omega)];omega)
  (by
   rintro _ rfl;refine⟨.inl ((k:Int),c,ee k (λi=>((aH s.l i:Nat):Int)),s.l.map (·.2.1),s.l.map (·.2.2)),?_,rfl⟩;simp only [jU]
   rw [if_neg (by omega),List.take_length]) 0 (Nat.zero_le _) (0,(k:Int),c,ee k (λ_=>0),[],[]) rfl
 rw [q1,q2];rfl
theorem oQ{l:List E3}(h:l.Pairwise λa b=>a.1<=b.1)(k:Int):(l.filter λx=>decide (x.1<k))++(l.filter λx=> !decide (x.1<k))=l:=by
 induction l with
 |nil=>rfl
 |cons x l ih=>
  rw [List.pairwise_cons]at h;have ih:=ih h.2;by_cases c:x.1<k
  .rw [List.filter_cons_of_pos (by simp [c]),List.filter_cons_of_neg (by simp [c]),List.cons_append,ih]
  .have e1:(l.filter λx=>decide (x.1<k))= []:=by
    rw [List.filter_eq_nil_iff];intro y hy
    have:=h.1 y hy
    simp;omega
   rw [e1,List.nil_append]at ih;rw [List.filter_cons_of_neg (by simp [c]),List.filter_cons_of_pos (by simp [c]),e1,List.nil_append,ih]
theorem pO{l:List E3}(h:l.Pairwise λa b=>a.1<=b.1)(k:Nat):l.take (aH l k)=(l.filter λx=>decide (x.1<(k:Int)))/\l.drop (aH l k)=l.filter λx=> !decide (x.1<(k:Int)):=by
 have e:=oQ h (k:Int);have hl:aH l k=(l.filter λx=>decide (x.1<(k:Int))).length:=by unfold aH;rw [List.countP_eq_length_filter]
 have key:∀A B:List E3,A++B=l->l.take A.length=A/\l.drop A.length=B:=by
  rintro A B rfl;exact⟨List.take_left,List.drop_left⟩
 rw [hl];exact key _ _ e
def qK(l:List E3)(i:Nat):List E3:=(l.filter λx=> !decide (x.1<(i:Int))).filter λx=>decide (x.1<((i+1:Nat):Int))
theorem rowE_mem{l:List E3}{i:Nat}{x:E3}:x∈qK l i↔x∈l/\x.1=(i:Int):=by
 unfold qK;simp only [List.mem_filter,Bool.not_eq_true',decide_eq_false_iff_not,decide_eq_true_eq];constructor
 .rintro⟨⟨h1,h2⟩,h3⟩;exact⟨h1,by omega⟩
 .rintro⟨h1,h2⟩;exact⟨⟨h1,by omega⟩,by omega⟩
theorem oS{l:List E3}(h:dF l):l.Pairwise λa b=>a.1<=b.1:=h.imp λhb=>by rw [bel_iff]at hb;omega
theorem nJ{l:List E3}(h:dF l)(i:Nat):aH l i<=aH l (i+1)/\(l.drop (aH l i)).take (aH l (i+1) - aH l i)=qK l i:=by
 have hle:=oS h;have e1:=(pO hle i).2
 have hmono:aH l i<=aH l (i+1):=by
  unfold aH;refine List.countP_mono_left λx _ hx=> ?_;simp only [decide_eq_true_eq]at hx ⊢;omega
 refine⟨hmono,?_⟩;rw [e1];have hg:(l.filter λx=> !decide (x.1<(i:Int))).Pairwise λa b=>a.1<=b.1:=hle.sublist List.filter_sublist;have e2:=(pO hg (i+1)).1
 have hc:aH (l.filter λx=> !decide (x.1<(i:Int))) (i+1)=aH l (i+1) - aH l i:=by
  have h1:aH l (i+1)=aH (l.filter λx=>decide (x.1<(i:Int))) (i+1)+aH (l.filter λx=> !decide (x.1<(i:Int))) (i+1):=by
   conv=>lhs;rw [<-oQ hle (i:Int)]
   unfold aH;rw [List.countP_append]
  have h2:aH (l.filter λx=>decide (x.1<(i:Int))) (i+1)=aH l i:=by
   unfold aH;rw [List.countP_filter];refine List.countP_congr λx _=> ?_;simp only [Bool.and_eq_true,decide_eq_true_eq];omega
  omega
 rw [<-hc,e2];rfl
theorem ug{l:List E3}(h:dF l)(i:Nat):((qK l i).map (·.2.1)).Pairwise (·<·):=by
 rw [List.pairwise_map];have hs:dF (qK l i):=h.sublist (List.filter_sublist.trans List.filter_sublist);refine hs.imp_of_mem λ{a b} ha hb hab=> ?_;have h1:=(rowE_mem.1 ha).2;have h2:=(rowE_mem.1 hb).2;rw [bel_iff]at hab;omega
theorem oT{α β:Type}(f:α->β)(l:List α)(a b:Int):gg (l.map f) a b=(gg l a b).map f:=by unfold gg;rw [<-List.map_drop,<-List.map_take]
theorem uh{n c:Int}(hn:0<=n/\n<=4096)(hc:0<=c/\c<=4096){l:List E3}(hl:l.length<=65536)(h:dF l)(hp:∀x∈l,(0<=x.1/\x.1<n)/\0<=x.2.1/\x.2.1<c):eK (nr n c l)=true:=by
 have h0:aH l 0=0:=by
  unfold aH;rw [List.countP_eq_zero];intro x hx
  have:=(hp x hx).1.1
  simp;omega
 have hN:aH l n.toNat=l.length:=by
  unfold aH;rw [List.countP_eq_length];intro x hx
  have:=(hp x hx).1.2
  simp;omega
 unfold eK nr;simp only [iU,Bool.and_eq_true,decide_eq_true_eq,sizeF_iff,List.length_map,dY];refine⟨hn,hc,by omega,?_,trivial,hl,?_,?_⟩
 .rw [gh _ (Nat.zero_le _),h0];rfl
 .rw [gh _ (Nat.le_refl _),hN]
 .refine all_range.2 λi hi=> ?_;unfold iM;rw [gh _ (by omega),gh _ (by omega)];obtain⟨r1,r2⟩:=nJ h i;have hle:=ml l (i+1);simp only [Bool.and_eq_true,decide_eq_true_eq,List.length_map];refine⟨by omega,by omega,by omega,?_⟩
  have e:gg (l.map (·.2.1)) ((aH l i:Nat):Int) ((aH l (i+1):Nat):Int)=(qK l i).map (·.2.1):=by
   rw [oT];unfold gg;rw [Int.toNat_natCast,Int.toNat_natCast,r2]
  rw [e]
  exact ascI_iff'.2 ⟨ug h i,λp hp'=>by
   obtain⟨x,hx,rfl⟩:=List.mem_map.1 hp'
   have:=(hp x (rowE_mem.1 hx).1).2
   omega⟩
end
section
open Go Sm
abbrev RG(r:Int):Rg:=⟨ofW,eQ r,gu⟩
theorem MA(n:Int):oI n=some (ofW n):=by
 rw [JA];unfold ofW;by_cases h:n<0
 .simp only [if_pos h]
 .simp only [if_neg h]
theorem xi(a b:Int×Int):∃c:Int,fQ a b=some c/\(c<0↔vi a b=true):=by
 obtain⟨a1,a2⟩:=a;obtain⟨b1,b2⟩:=b;rw [xh];unfold vi;simp only;by_cases h2:a1<b1
 .rw [if_pos h2];exact⟨-1,rfl,by simp [h2]⟩
 rw [if_neg h2];by_cases h3:a1=b1
 .rw [if_pos h3];by_cases h4:a2<b2
  .rw [if_pos h4];exact⟨-1,rfl,by simp [h3,h4]⟩
  .rw [if_neg h4];by_cases h5:a1=b1/\a2=b2
   .rw [if_pos h5];exact⟨0,rfl,by simp [h3];omega⟩
   .rw [if_neg h5];exact⟨1,rfl,by simp [h3];omega⟩
 .rw [if_neg h3];by_cases h5:a1=b1/\a2=b2
  .exact absurd h5.1 h3
  .rw [if_neg h5];exact⟨1,rfl,by simp [h3];omega⟩
theorem JG(a b:Int×Int):mA a b=some (vj a b):=by
 obtain⟨a1,a2⟩:=a;obtain⟨b1,b2⟩:=b;rw [GG];unfold vj pK;simp only;split<;>rfl
theorem Dz(b:Bool):gZ b=some (lJ b):=by rw [AY];unfold lJ;cases b<;>rfl
theorem JH(r:Int)(a b:Int×Int):mB r a b=some (eQ r a b):=by
 rw [GH];unfold eQ
 have hl:((fQ b a).bind λ(out:Int)=>if out<0 then some b else some a)=some (kv a b):=by
  obtain⟨c,h1,h2⟩:=xi b a;rw [h1,zbS];unfold kv;by_cases hc:c<0
  .rw [if_pos hc,if_pos (h2.1 hc)]
  .rw [if_neg hc,if_neg (λh=>hc (h2.2 h))]
 simp only [hl,Dz,JG,zbS];by_cases h1:r=1
 .simp [h1]
 by_cases h3:r=3
 .simp [h3]
 by_cases h4:r=4
 .simp [h4]
 simp only [if_neg h1,if_neg h3,if_neg (show¬(r=1∨r=3∨r=4)by omega),decide_eq_false h4,zbS,Sum.elim_inl,Bool.false_eq_true,if_false];by_cases h2:r=2
 .simp only [if_pos h2];by_cases ha:a.1=0/\a.2=0
  .by_cases hb:b.1=0/\b.2=0
   .simp [ha,hb]
   .simp [ha,hb]
  .simp [ha]
 .simp only [if_neg h2];split<;>rfl
theorem Bd{a:Int×Int}(h:eJ a.2):gv a=some (gu a):=by
 obtain⟨a1,a2⟩:=a;rw [zl];unfold gu ofW;simp only [TB h,Prod.mk.injEq,and_true];by_cases hn:IntKind.i64.wrap a2<0
 .have hg:¬IntKind.i64.wrap a2 >= 0:=by omega
  simp only [if_pos hn,if_neg hg];by_cases h1:a1=0
  .have:¬a1= -1:=by omega
   simp only [if_pos h1,if_neg this]
  .simp only [if_neg h1];split<;>rfl
 .have hg:IntKind.i64.wrap a2 >= 0:=by omega
  simp only [if_neg hn,if_pos hg];by_cases h1:a1=0
  .simp only [if_pos h1]
  .simp only [if_neg h1];split<;>rfl
theorem Bf(r:Int):fZ r=some (mM r):=by
 rw [ra];unfold mM;by_cases h1:r >= 1
 .rw [if_pos h1,decide_eq_true (show 1<=r from h1)];simp
 .rw [if_neg h1,decide_eq_false (show¬1<=r from h1)];rfl
end
section
open Go Sm
theorem og(a b:E3):gY a b=some (bel a b):=by
 rw [AX]
 have hb:bel a b=(decide (a.1<b.1)||(decide (a.1=b.1)&& decide (a.2.1<b.2.1))):=by
  unfold bel klt key;rw [Bool.decide_or,Bool.decide_and]
 rw [hb];by_cases h1:a.1<b.1
 .rw [if_pos h1,decide_eq_true h1];rfl
 .rw [if_neg h1,decide_eq_false h1];by_cases h2:a.1=b.1
  .rw [if_pos h2,decide_eq_true h2];rfl
  .rw [if_neg h2,decide_eq_false h2];rfl
def dm{α:Type}(l:List α)(k:Nat)(y:α):List α:=l.take k++y::l.drop k
theorem JI{α:Type}{l:List α}{k:Nat}(y:α):(dm l k y).length=l.length+1:=by unfold dm;simp;omega
theorem pP{α:Type}{l:List α}{k:Nat}(hk:k<=l.length)(y:α):(dm l k y)[k]? =some y:=by
 unfold dm;rw [List.getElem?_append_right (by rw [List.length_take];omega),List.length_take,Nat.min_eq_left hk,Nat.sub_self];rfl
theorem mT{α:Type}{l:List α}{k:Nat}(hk:k<=l.length)(y x:α):(dm l k y).set k x=dm l k x:=by
 unfold dm;rw [List.set_append_right _ _ (by rw [List.length_take];omega),List.length_take,Nat.min_eq_left hk,Nat.sub_self];rfl
theorem oU{α:Type}(l:List α)(y:α):dm l l.length y=l++ [y]:=by unfold dm;simp
theorem oV{α:Type}{l:List α}{k:Nat}(hk:k+1<=l.length)(y:α):(dm l (k+1) y)[k]? =some l[k]/\dm l (k+1) l[k]=dm l k l[k]:=by
 unfold dm;constructor
 .rw [List.getElem?_append_left (by simp;omega),List.getElem?_take,if_pos (by omega),List.getElem?_eq_getElem]
 .rw [List.take_succ_eq_append_getElem (by omega),List.append_assoc,List.drop_eq_getElem_cons (i:=k) (by omega)];rfl
theorem JJ{α:Type}{l:List α}{k:Nat}{y x:α}(h:x∈dm l k y):x=y∨x∈l:=by
 unfold dm at h;rcases List.mem_append.1 h with h|h
 .exact .inr (List.mem_of_mem_take h)
 .rcases List.mem_cons.1 h with h|h
  .exact .inl h
  .exact .inr (List.mem_of_mem_drop h)
theorem Et{b:Int×List E3×List (Int×Int)->Option ((Int×List E3×List (Int×Int))⊕((List E3×List (Int×Int))⊕ Empty))}{a:Nat}(hb:b=gd (a:Int)∨b=gf (a:Int)){l:List E3}{s:List (Int×Int)}(hl:s.length=l.length)(hn:l.length<=100000)(ha:a<=l.length)(y:E3)(z:Int×Int):
  ∃y' z',aK b ((l.length:Int),l++ [y],s++ [z])=some (.inl (dm l a y',dm s a z')):=by
 have step:∀(k:Nat) y z,a<k+1->k+1<=l.length->∃y' z',b (((k+1:Nat):Int),dm l (k+1) y,dm s (k+1) z)=some (.inl ((k:Int),dm l k y',dm s k z')):=λk y z h1 hk=>by
  have hks:k+1<=s.length:=by omega
  have e1:=cA (oV hk y).1;have e2:=cA (pP hk y);have e3:=cA (oV hks z).1;have e4:=cA (pP hks z);have hw:IntKind.i64.wrap (((k+1:Nat):Int) - 1)=(k:Int):=by rw [cY (by omega) (by omega)];omega
  have t1:((k+1:Nat):Int).toNat=k+1:=Int.toNat_natCast _;refine⟨l[k],s[k],?_⟩;rw [<-(oV hk y).2,<-(oV hks z).2,<-mT hk y l[k],<-mT hks z s[k]];rcases hb with rfl|rfl
  .simp only [gd,hw,e1,e2,e3,e4,zbS,t1];rw [if_pos (by omega)]
  .simp only [gf,hw,e1,e2,e3,e4,zbS,t1];rw [if_pos (by omega)]
 have stop:∀y z,b ((a:Int),dm l a y,dm s a z)=some (.inr (.inl (dm l a y,dm s a z))):=λy z=>by
  rcases hb with rfl|rfl
  .simp only [gd];rw [if_neg (by omega)]
  .simp only [gf];rw [if_neg (by omega)]
 obtain⟨q,q1,y',z',q2⟩:=cr (b:=b) (l.length - a) (λj st=>∃y z,st=(((l.length - j:Nat):Int),dm l (l.length - j) y,dm s (l.length - j) z)) (λq=>∃y z,q= .inl (dm l a y,dm s a z))
  (by
   rintro j _ hj ⟨y,z,rfl⟩;obtain⟨k,hk⟩:∃k,l.length - j=k+1:=⟨l.length - j - 1,by omega⟩;rw [hk];obtain⟨y',z',e⟩:=step k y z (by omega) (by omega)
   exact .inl ⟨_,e,y',z',by rw [show l.length - (j+1)=k by omega]⟩)
  (by
   rintro _ ⟨y,z,rfl⟩;rw [show l.length - (l.length - a)=a by omega]
   exact⟨_,stop y z,y,z,rfl⟩) 0 (Nat.zero_le _) ((l.length:Int),l++ [y],s++ [z]) ⟨y,z,by rw [Nat.sub_zero,oU,<-hl,oU,hl]⟩
 exact⟨y',z',by rw [q1,q2]⟩
def kz(p:Ky×V):E3:=(p.1.1,p.1.2,0)
def pos(S:List (Ky×V))(e:E3):Nat:=(S.takeWhile λp=>klt p.1 (key e)).length
theorem Uc(S:List (Ky×V))(e:E3):pos S e<=S.length:=(List.takeWhile_sublist _).length_le
theorem Bg{p:Ky×V}{S:List (Ky×V)}{e:E3}(hp:klt p.1 (key e)=true):pos (p::S) e=pos S e+1:=by unfold pos;simp [List.takeWhile_cons,hp]
theorem Bh{p:Ky×V}{S:List (Ky×V)}{e:E3}(hp:¬klt p.1 (key e)=true):pos (p::S) e=0:=by unfold pos;simp [List.takeWhile_cons,hp]
theorem Ud:∀{S:List (Ky×V)} {e:E3} {j:Nat} (hj:j<S.length),j<pos S e->klt S[j].1 (key e)=true
 | [],e,j,hj,h=>by simp at hj
 |p::S,e,j,hj,h=>by
  by_cases hp:klt p.1 (key e)=true
  .rw [Bg hp]at h
   cases j with
   |zero=>exact hp
   |succ j=>exact Ud (S:=S) (e:=e) (j:=j) (by simpa using hj) (by omega)
  .rw [Bh hp]at h;omega
theorem ON:∀{S:List (Ky×V)} {e:E3} {j:Nat} (hj:j<S.length),j=pos S e->klt S[j].1 (key e)=false
 | [],e,j,hj,h=>by simp at hj
 |p::S,e,j,hj,h=>by
  by_cases hp:klt p.1 (key e)=true
  .rw [Bg hp]at h;subst h;exact ON (S:=S) (e:=e) (j:=pos S e) (by simpa using hj) rfl
  .rw [Bh hp]at h;subst h;simpa using hp
theorem Ue{S:List (Ky×V)}{e:E3}(h:pos S e<S.length):klt (S[pos S e]'h).1 (key e)=false:=ON h rfl
theorem GJ(R:Rg)(e:E3):∀(S:List (Ky×V)),ins R S e=if h:pos S e<S.length then(if klt (key e) (S[pos S e]'h).1=true then dm S (pos S e) (key e,R.o e.2.2)else S.set (pos S e) ((S[pos S e]'h).1,R.ad (S[pos S e]'h).2 (R.o e.2.2)))else S++ [(key e,R.o e.2.2)]
 | []=>by simp [ins,pos]
 |p::S=>by
  have ih:=GJ R e S;unfold ins;by_cases hp:klt p.1 (key e)=true
  .have hpos:pos (p::S) e=pos S e+1:=by unfold pos;simp [List.takeWhile_cons,hp]
   rw [if_pos hp,ih];simp only [hpos,List.length_cons,Nat.add_lt_add_iff_right,List.getElem_cons_succ];split
   .split
    .unfold dm;simp
    .simp
   .simp
  .have hpos:pos (p::S) e=0:=by unfold pos;simp [List.takeWhile_cons,hp]
   rw [if_neg hp];simp only [hpos,List.length_cons,Nat.zero_lt_succ,dif_pos,List.getElem_cons_zero];split
   .unfold dm;simp
   .simp
theorem JK{α β:Type}(f:α->β)(l:List α)(k:Nat)(y:α):(dm l k y).map f=dm (l.map f) k (f y):=by unfold dm;simp
theorem GK(R:Rg)(l:List E3):(canS R l).length<=l.length:=by
 have key:∀(S:List (Ky×V)) e,(ins R S e).length<=S.length+1:=by
  intro S e;rw [GJ];split
  .split
   .rw [JI];omega
   .simp
  .simp
 have:∀(l:List E3) (S:List (Ky×V)),(l.foldl (ins R) S).length<=S.length+l.length:=by
  intro l
  induction l with
  |nil=>intro S;simp
  |cons e l ih=>intro S;have h1:=ih (ins R S e);have h2:=key S e;simp only [List.foldl_cons,List.length_cons];omega
 simpa [canS]using this l []
theorem abG{r:Int}{S:List (Ky×V)}{e:E3}(h:∀p∈S,eJ p.2.2):∀p∈ins (RG r) S e,eJ p.2.2:=by
 intro p hp;rw [GJ]at hp;split at hp
 .rename_i hl;split at hp
  .rcases JJ hp with rfl|hp
   .exact Ai _
   .exact h p hp
  .rcases List.mem_or_eq_of_mem_set hp with hp|rfl
   .exact h p hp
   .exact Aj (h _ (List.getElem_mem hl)) (Ai _)
 .rcases List.mem_append.1 hp with hp|hp
  .exact h p hp
  .simp at hp;subst hp;exact Ai _
theorem abH(r:Int)(l:List E3):∀p∈canS (RG r) l,eJ p.2.2:=by
 have:∀(l:List E3) (S:List (Ky×V)),(∀p∈S,eJ p.2.2)->∀p∈l.foldl (ins (RG r)) S,eJ p.2.2:=by
  intro l
  induction l with
  |nil=>intro S h;exact h
  |cons e l ih=>intro S h;exact ih _ (abG h)
 exact this l [] (by simp)
theorem XM{x:Sl E3}{S:List (Ky×V)}{w:List (Int×Int)}{i:Nat}(hs:okS 3 x)(hi:i<x.l.length)(hn:S.length<=100000):aK (gb x (S.map kz,w,(i:Int))) 0=some (.inl ((pos S x.l[i]:Nat):Int)):=by
 have ei:=cg hs hi;have hb:∀j (hj:j<S.length),bel (kz S[j]) x.l[i]=klt S[j].1 (key x.l[i]):=λj hj=>rfl;refine jC (pos S x.l[i]) (λj=>(j:Int)) rfl (λj hj=> ?_) ?_
 .have hjl:j<S.length:=Nat.lt_of_lt_of_le hj (Uc _ _);have ej:atL (S.map kz) (j:Int)=some (kz S[j]):=cA (by simp [hjl]);simp only [gb,ej,ei,zbS,og,hb j hjl,Ud hjl hj,if_true,List.length_map,ci hjl (by omega)];rw [if_pos (by omega)]
 .by_cases hl:pos S x.l[i]<S.length
  .have ej:atL (S.map kz) ((pos S x.l[i]:Nat):Int)=some (kz S[pos S x.l[i]]):=cA (by simp [hl]);simp only [gb,ej,ei,zbS,og,hb _ hl,Ue hl,List.length_map];rw [if_pos (by omega),if_neg (by simp)]
  .simp only [gb,List.length_map];rw [if_neg (by omega)]
theorem GL{r:Int}{x:Sl E3}(hs:okS 3 x)(hn:x.l.length<=65536):aK (iz r x) ([],[],0)=some (.inl ((canS (RG r) x.l).map kz,(canS (RG r) x.l).map (·.2))):=by
 refine jC x.l.length (λj=>((canS (RG r) (x.l.take j)).map kz,(canS (RG r) (x.l.take j)).map (·.2),(j:Int))) (by simp [canS]) (λj hj=> ?_) ?_
 .have hlen:=GK (RG r) (x.l.take j);have hlj:(x.l.take j).length<=65536:=by simp;omega
  rw [List.take_succ_eq_append_getElem hj,Qq];generalize canS (RG r) (x.l.take j)=S at hlen ⊢;have hf:=XM (S:=S) (w:=S.map (·.2)) hs hj (by omega);have ej:=cg hs hj;have hp:=Uc S x.l[j];have hat:= @Ue S x.l[j];have hi:=GJ (RG r) x.l[j] S;generalize hA:pos S x.l[j]=a at hf hp hat hi;generalize x.l[j]=e at ej hf hat hi;have ap1:app (S.map kz) [((0:Int),(0:Int),(0:Int))]=some (S.map kz++ [(0,0,0)]):=ik (by simp;unfold cu;omega);have ap2:app (S.map (·.2)) [((0:Int),(0:Int))]=some (S.map (·.2)++ [(0,0)]):=ik (by simp;unfold cu;omega);have hw1:IntKind.i64.wrap ((((S.map kz++ [((0:Int),(0:Int),(0:Int))]).length:Nat):Int) - 1)=((S.map kz).length:Int):=by simp only [List.length_append,List.length_map,List.length_cons,List.length_nil];rw [cY (by omega) (by omega)];omega
  have ta:((a:Nat):Int).toNat=a:=Int.toNat_natCast _;have hl2:(S.map (·.2)).length=(S.map kz).length:=by simp
  have hak:a<=(S.map kz).length:=by simpa using hp
  have has:a<=(S.map (·.2)).length:=by simpa using hp
  obtain⟨y2,z2,sh2⟩:=Et (b:=gd (a:Int)) (.inl rfl) hl2 (by simp;omega) hak (0,0,0) (0,0);obtain⟨y3,z3,sh3⟩:=Et (b:=gf (a:Int)) (.inr rfl) hl2 (by simp;omega) hak (0,0,0) (0,0);have i2:=cA (pP hak y2);have j2:=cA (pP has z2);have i3:=cA (pP hak y3);have j3:=cA (pP has z3);have hne:∀{α:Type} (l:List α) k y,neL (dm l k y)=some ():=λl k y=>Wf (by unfold dm;simp);simp only [iz,hf,zbS,Sum.elim_inl,ej,MA,List.length_map];rw [if_pos (by omega)];by_cases hl:a<S.length
  .rw [if_pos (by omega)];have e1:atL (S.map kz) (a:Int)=some (kz S[a]):=cA (by simp [hl]);have e2:atL (S.map (·.2)) (a:Int)=some S[a].2:=cA (by simp [hl]);have hk:bel e (kz S[a])=klt (key e) S[a].1:=rfl;simp only [e1,e2,zbS,og,hk,JH,ap1,ap2,hw1,sh2,Sum.elim_inl,i2,j2,ta,mT hak,mT has,hne,ci hj (by omega)];rw [dif_pos hl]at hi;by_cases hc:klt (key e) S[a].1=true
   .rw [if_pos hc]at hi;rw [if_neg (by simp [hc]),hi,JK,JK];rfl
   .rw [if_neg hc]at hi;rw [if_pos (by simpa using hc),hi,List.map_set,List.map_set]
    have:(S.map kz).set a (kz (S[a].1,(RG r).ad S[a].2 ((RG r).o e.2.2)))=S.map kz:=by
     have hk2:kz (S[a].1,(RG r).ad S[a].2 ((RG r).o e.2.2))=(S.map kz)[a]'(by simpa using hl):=by simp [kz]
     rw [hk2,List.set_getElem_self]
    rw [this]
  .rw [if_neg (by omega)];rw [dif_neg hl]at hi;have hae:a=S.length:=by omega
   simp only [zbS,ap1,ap2,hw1,sh3,Sum.elim_inl,i3,j3,ta,mT hak,mT has,hne,ci hj (by omega)];rw [hi,hae]
   have q1:dm (S.map kz) S.length (e.1,e.2.1,(0:Int))=S.map kz++ [(e.1,e.2.1,0)]:=by
    have:=oU (S.map kz) (e.1,e.2.1,(0:Int));rwa [List.length_map]at this
   have q2:dm (S.map (·.2)) S.length (ofW e.2.2)=S.map (·.2)++ [ofW e.2.2]:=by
    have:=oU (S.map (·.2)) (ofW e.2.2);rwa [List.length_map]at this
   rw [q1,q2];simp [kz,key]
 .simp only [iz,List.take_length];rw [if_neg (by omega)]
theorem qE{r:Int}{x:Sl E3}(hs:okS 3 x)(hn:x.l.length<=65536)(hr:mM r=true):cG r x=some (mo 3 (sumR (RG r) x.l).1,(sumR (RG r) x.l).2):=by
 rw [kA,Bf,hr];simp only [zbS,not_true_eq_false,if_false];rw [GL hs hn];simp only [zbS,Sum.elim_inl];have hlen:=GK (RG r) x.l;have hlo:=abH r x.l;unfold sumR;generalize canS (RG r) x.l=S at hlen hlo ⊢
 obtain⟨q,q1,q2⟩:=cr (b:=iA (S.map kz,S.map (·.2))) S.length (λj st=>st=((S.take j).map (toE (RG r))++(S.drop j).map kz,(j:Int))/\∀p∈S.take j,(gu p.2).2=true) (λq=>(S.all (λp=>(gu p.2).2)=true/\q= .inl (S.map (toE (RG r))))∨(S.all (λp=>(gu p.2).2)=false/\q= .inr (.inl ([],12))))
  (by
   rintro j _ hj ⟨rfl,ha⟩;have e2:atL (S.map (·.2)) (j:Int)=some S[j].2:=cA (by simp [hj]);have hln:((S.take j).map (toE (RG r))++(S.drop j).map kz).length=S.length:=by simp;omega
   have e1:atL ((S.take j).map (toE (RG r))++(S.drop j).map kz) (j:Int)=some (kz S[j]):=cA (by
    rw [List.getElem?_append_right (by simp;omega)]
    simp [List.getElem?_drop,show min j S.length=j by omega,hj])
   have hN:gv S[j].2=some (gu S[j].2):=Bd (hlo _ (List.getElem_mem hj));simp only [iA,hln,e2,zbS,hN,e1,ci hj (by omega),Int.toNat_natCast];rw [if_pos (by omega)];by_cases hc:(gu S[j].2).2=true
   .rw [if_neg (by simpa using hc)];refine .inl ⟨_,rfl,?_,?_⟩
    .rw [Prod.mk.injEq];refine⟨?_,rfl⟩;rw [List.take_succ_eq_append_getElem hj,List.set_append_right _ _ (by simp;omega)];simp only [List.length_map,List.length_take,show min j S.length=j by omega,Nat.sub_self,List.map_append,List.map_cons,List.map_nil];rw [List.drop_eq_getElem_cons hj,List.map_cons,List.set_cons_zero,List.append_assoc];simp [toE,kz]
    .intro p hp;rw [List.take_succ_eq_append_getElem hj]at hp;rcases List.mem_append.1 hp with hp|hp
     .exact ha p hp
     .simp at hp;subst hp;exact hc
   .rw [if_pos (by simpa using hc)];refine .inr ⟨_,rfl,.inr ⟨?_,rfl⟩⟩;rw [Bool.eq_false_iff];intro hh
    exact hc (List.all_eq_true.1 hh _ (List.getElem_mem hj)))
  (by
   rintro _ ⟨rfl,ha⟩;simp only [iA,List.take_length,List.drop_length,List.map_nil,List.append_nil,List.length_map];rw [List.take_length]at ha;rw [if_neg (by omega)]
   exact⟨_,rfl,.inl ⟨List.all_eq_true.2 ha,rfl⟩⟩) 0 (Nat.zero_le _) (S.map kz,0) ⟨by simp,by simp⟩
 rw [q1];rcases q2 with⟨h,rfl⟩|⟨h,rfl⟩
 .rw [if_pos h];rfl
 .rw [if_neg (by rw [h];simp)];rfl
end
section
open Go Sm
def w64(l:List E3):Prop:=∀x∈l,cC x.1/\cC x.2.1/\cC x.2.2
theorem vF{r:Int}{l:List E3}:dF (sumR (RG r) l).1/\(sumR (RG r) l).1.length<=l.length/\(∀x∈(sumR (RG r) l).1,cC x.2.2/\∃y∈l,y.1=x.1/\y.2.1=x.2.1)/\((sumR (RG r) l).2=0∨sumR (RG r) l=([],12)):=by
 unfold sumR;split
 .refine⟨?_,by rw [List.length_map];exact GK _ _,λx hx=> ?_,.inl rfl⟩
  .show((canS (RG r) l).map (toE (RG r))).Pairwise _;rw [List.pairwise_map];exact(OF (RG r) l).1
  .obtain⟨p,hp,rfl⟩:=List.mem_map.1 hx;refine⟨?_,?_⟩
   .show cC (gu p.2).1;unfold gu;split
    .exact Ah _
    .unfold cC;omega
   .obtain⟨e,he,hk⟩:=XE (((OF (RG r) l).2 p.1 p.2).1 hp);have h1:=congrArg Prod.fst hk;have h2:=congrArg Prod.snd hk;exact⟨e,he,h1,h2⟩
 .exact⟨List.Pairwise.nil,Nat.zero_le _,by simp,.inr rfl⟩
def ns(l:List E3)(k:Nat):Nat:=l.countP λx=>decide (x.1+1=(k:Int))
theorem OO(l:List E3)(k:Nat):ns l k<=l.length:=List.countP_le_length
theorem Uf(l:List E3)(x:E3)(k:Nat):ns (l++ [x]) k=ns l k+if x.1+1=(k:Int)then 1 else 0:=by
 unfold ns;rw [List.countP_append];congr 1;by_cases h:x.1+1=(k:Int)<;>simp [h]
theorem Eu:∀(l:List E3) (k:Nat),aH l (k+1)=aH l k+ns l (k+1)
 | [],k=>rfl
 |x::l,k=>by
  have ih:=Eu l k;unfold aH ns at*;simp only [List.countP_cons,ih];by_cases h1:x.1<(k:Int)
  .have h2:x.1<((k+1:Nat):Int):=by omega
   have h3:¬x.1+1=((k+1:Nat):Int):=by omega
   simp only [decide_eq_true h1,decide_eq_true h2,decide_eq_false h3];simp;omega
  .by_cases h3:x.1+1=((k+1:Nat):Int)
   .have h2:x.1<((k+1:Nat):Int):=by omega
    simp only [decide_eq_false h1,decide_eq_true h2,decide_eq_true h3];simp;omega
   .have h2:¬x.1<((k+1:Nat):Int):=by omega
    simp only [decide_eq_false h1,decide_eq_false h2,decide_eq_false h3];simp
def Qx:Mx:=(0,0,iE,iE,iE)
def inM(n c:Int)(x:E3):Bool:=decide (0<=x.1/\x.1<n/\0<=x.2.1/\x.2.1<c)
def ofV(r n c:Int)(l:List E3):Mx×Int:=
 if mM r=true then if eo n=true/\eo c=true then if l.length<=65536 then if l.all (inM n c)=true then
  if(sumR (RG r) l).2=0 then(nr n c (sumR (RG r) l).1,0)else(Qx,(sumR (RG r) l).2)
 else(Qx,3)else(Qx,5)else(Qx,3)else(Qx,8)
theorem OP{n c:Int}{x:E3}(h:x.1<0∨x.1 >= n∨x.2.1<0∨x.2.1 >= c):inM n c x=false:=by unfold inM;rw [decide_eq_false];omega
theorem aeI{α:Type}{p:α->Bool}{l:List α}{j:Nat}(hj:j<l.length)(h:p l[j]=false):l.all p=false:=by
 rw [Bool.eq_false_iff];intro ha;rw [List.all_eq_true.1 ha _ (List.getElem_mem hj)]at h;cases h
theorem DA{n c:Int}{x:Sl E3}(hs:okS 3 x)(hl:x.l.length<=65536):aK (lh n c x) ([],0,0,0,[],[],[])=some (if x.l.all (inM n c)=true then .inl (x.l,0,0,[],[],[])else .inr (.inl (3,0,0,[],[],[]))):=by
 obtain⟨q,q1,q2⟩:=cr (b:=lh n c x) x.l.length (λj st=>st=(x.l.take j,(j:Int),0,0,[],[],[])/\∀y∈x.l.take j,inM n c y=true) (λq=>q=if x.l.all (inM n c)=true then .inl (x.l,0,0,[],[],[])else .inr (.inl (3,0,0,[],[],[])))
  (by
   rintro j _ hj ⟨rfl,ha⟩;have ej:=cg hs hj;have hlen:(x.l.take j).length<=65536:=by simp;omega
   have ap:app (x.l.take j) [(x.l[j].1,x.l[j].2.1,x.l[j].2.2)]=some (x.l.take j++ [x.l[j]]):=ik (by simp;unfold cu;omega);simp only [lh,ej,zbS,ap,ci hj (by omega)];rw [if_pos (by omega)]
   have bad:inM n c x.l[j]=false->∃r,(some (Sum.inr (Sum.inr (Sum.inl ((3:Int),(0:Int),(0:Int),([]:List Int),([]:List Int),([]:List Int))))):Option ((List E3×Int×Int×Int×List Int×List Int×List Int)⊕((List E3×Int×Int×List Int×List Int×List Int)⊕((Int×Int×Int×List Int×List Int×List Int)⊕ Empty))))=some (.inr r)/\r=if x.l.all (inM n c)=true then .inl (x.l,0,0,[],[],[])else .inr (.inl (3,0,0,[],[],[])):=λh=>⟨_,rfl,by rw [aeI hj h];rfl⟩
   by_cases c1:x.l[j].1<0
   .rw [if_pos c1];exact .inr (bad (OP (.inl c1)))
   by_cases c2:x.l[j].1 >= n
   .rw [if_neg c1,if_pos c2];exact .inr (bad (OP (.inr (.inl c2))))
   by_cases c3:x.l[j].2.1<0
   .rw [if_neg c1,if_neg c2,if_pos c3];exact .inr (bad (OP (.inr (.inr (.inl c3)))))
   by_cases c4:x.l[j].2.1 >= c
   .rw [if_neg c1,if_neg c2,if_neg c3,if_pos c4];exact .inr (bad (OP (.inr (.inr (.inr c4)))))
   rw [if_neg c1,if_neg c2,if_neg c3,if_neg c4,<-List.take_succ_eq_append_getElem hj];refine .inl ⟨_,rfl,rfl,λy hy=> ?_⟩;rw [List.take_succ_eq_append_getElem hj]at hy;rcases List.mem_append.1 hy with hy|hy
   .exact ha y hy
   .simp at hy;subst hy
    unfold inM;rw [decide_eq_true];omega)
  (by
   rintro _ ⟨rfl,ha⟩;rw [List.take_length]at ha;simp only [lh];rw [if_neg (by omega),if_pos (List.all_eq_true.2 ha),List.take_length]
   exact⟨_,rfl,rfl⟩) 0 (Nat.zero_le _) ([],0,0,0,[],[],[]) ⟨rfl,by simp⟩
 rw [q1,q2]
theorem Bi{l:List E3}{e:Int}(hl:l.length<=65536){s:Sl E3}(hs:okS 3 s)(hsl:s.l=l):aK (nA (s,e)) ([],0)=some (.inl l):=by
 refine jC l.length (λj=>(l.take j,(j:Int))) rfl (λj hj=> ?_) ?_
 .have ej:atS 3 s (j:Int)=some l[j]:=fE hs (by rw [hsl];simp [hj]);have hlen:(l.take j).length<=65536:=by simp;omega
  have ap:app (l.take j) [(l[j].1,l[j].2.1,l[j].2.2)]=some (l.take j++ [l[j]]):=ik (by simp;unfold cu;omega);simp only [nA,ej,zbS,ap,ci hj (by omega),hsl];rw [if_pos (by omega),List.take_succ_eq_append_getElem hj]
 .simp only [nA,hsl,List.take_length];rw [if_neg (by omega)]
theorem OQ{n c:Int}{l:List E3}(h:l.all (inM n c)=true){r:Int}:∀x∈(sumR (RG r) l).1,(0<=x.1/\x.1<n)/\0<=x.2.1/\x.2.1<c:=by
 intro x hx;obtain⟨_,y,hy,e1,e2⟩:=(vF (r:=r) (l:=l)).2.2.1 x hx
 have:=List.all_eq_true.1 h y hy
 unfold inM at this;simp only [decide_eq_true_eq]at this;omega
theorem MB{r n c:Int}{x:Sl E3}(hs:okS 3 x):oJ r n c x=some (ofV r n c x.l):=by
 rw [JB,Bf];unfold ofV
 cases hr:mM r with
 |false=>rfl
 |true=>
  simp only [zbS,not_true_eq_false,if_false,if_true];by_cases h1:eo n=true
  .obtain⟨g1,g2⟩:=sizeF_iff.1 h1;rw [if_neg (by omega),if_neg (by omega)];by_cases h2:eo c=true
   .obtain⟨g3,g4⟩:=sizeF_iff.1 h2;rw [if_neg (by omega),if_neg (by omega),if_pos (show eo n=true/\eo c=true from⟨h1,h2⟩)];by_cases hl:x.l.length<=65536
    .rw [if_neg (by omega),if_pos hl,DA hs hl];by_cases ha:x.l.all (inM n c)=true
     .have hlen:=(vF (r:=r) (l:=x.l)).2.1;simp only [if_pos ha,zbS,Sum.elim_inl];rw [qE (mS _) (by rw [iU];exact hl) hr];simp only [iU,zbS];by_cases h0:(sumR (RG r) x.l).2=0
      .rw [if_neg (λh=>h h0),if_pos h0,Bi (l:=(sumR (RG r) x.l).1) (by omega) (mS _) (iU _ _)];simp only [zbS,Sum.elim_inl];rw [Dy ⟨g1,g2⟩ (mS _) (by rw [iU];omega) (by rw [iU];exact λy hy=>(OQ ha y hy).1),iU];rfl
      .rw [if_pos h0,if_neg h0];rfl
     .rw [if_neg ha,if_neg ha];rfl
    .rw [if_pos (by omega),if_neg hl];rfl
   .rw [if_neg (show¬(eo n=true/\eo c=true)from λh=>h2 h.2)]
    have:¬(0<=c/\c<=4096):=λh=>h2 (sizeF_iff.2 h)
    by_cases h3:c<0
    .rw [if_pos h3];rfl
    .rw [if_neg h3,if_pos (by omega)];rfl
  .rw [if_neg (show¬(eo n=true/\eo c=true)from λh=>h1 h.1)]
   have:¬(0<=n/\n<=4096):=λh=>h1 (sizeF_iff.2 h)
   by_cases h3:n<0
   .rw [if_pos h3];rfl
   .rw [if_neg h3,if_pos (by omega)];rfl
end
section
open Go Sm
theorem JL{x:Sl E3}(hs:okS 3 x):∃s:Sl E3,mz x=some s/\s.l=x.l.take 60/\okS 3 s/\s.nn=x.nn:=by
 rw [GF];by_cases h:x.l.length>60
 .rw [if_pos (by omega)];have hz:x.sz=3:=hs.resolve_left (by intro h';rw [h']at h;simp at h);refine⟨⟨x.nn,x.sz,x.l.take 60⟩,?_,rfl,.inr hz,rfl⟩;unfold lA;rw [if_pos ⟨by omega,by omega,by omega,.inl hz⟩];simp
 .rw [if_neg (by omega)];exact⟨x,rfl,(List.take_of_length_le (by omega)).symm,hs,rfl⟩
end
section
open Go Sm
structure Is(m:Mx)(n c:Int)(l:List E3):Prop where
 hn:0<=n/\n<=4096
 hc:0<=c/\c<=4096
 len:l.length<=65536
 r:dF l
 p:∀x∈l,(0<=x.1/\x.1<n)/\0<=x.2.1/\x.2.1<c
 v:∀x∈l,cC x.2.2
 e1:m.1=n
 e2:m.2.1=c
 e3:m.2.2.1.l=ee n.toNat λk=>((aH l k:Nat):Int)
 e4:m.2.2.2.1.l=l.map (·.2.1)
 e5:m.2.2.2.2.l=l.map (·.2.2)
 o3:okS 1 m.2.2.1
 o4:okS 1 m.2.2.2.1
 o5:okS 1 m.2.2.2.2
section
variable {m : Mx} {n c : Int} {l : List E3}
theorem Ug(hn:0<=n/\n<=4096)(hc:0<=c/\c<=4096)(hl:l.length<=65536)(h:dF l)(hp:∀x∈l,(0<=x.1/\x.1<n)/\0<=x.2.1/\x.2.1<c)(hv:∀x∈l,cC x.2.2):Is (nr n c l) n c l:=
 ⟨hn,hc,hl,h,hp,hv,rfl,rfl,rfl,iU _ _,iU _ _,.inr rfl,mS _,mS _⟩
theorem Is.ok(h:Is m n c l):OkM m:=by
 refine⟨h.o3,h.o4,h.o5,λy hy=> ?_,?_,?_,?_⟩
 .rw [h.e5]at hy;obtain⟨x,hx,rfl⟩:=List.mem_map.1 hy;exact h.v x hx
 .rw [h.e3,dY];have:=h.hn;omega
 .rw [h.e4,List.length_map];have:=h.len;omega
 .rw [h.e5,List.length_map];have:=h.len;omega
theorem Is.right(h:Is m n c l):eK m=true:=by
 have:=uh h.hn h.hc h.len h.r h.p
 unfold eK at this ⊢;simp only [Bool.and_eq_true,decide_eq_true_eq]at this ⊢;rw [h.e1,h.e2,h.e3,h.e4,h.e5];simp only [nr,iU]at this;exact this
theorem GM(h:Is m n c l):eZ m=some true:=by rw [yA h.ok,h.right]
theorem JM(h:Is m n c l):oK m=some m:=by rw [JC,GM h];rfl
def jV(l:List E3)(i:Int):List E3:=l.filter λx=>decide (x.1=i)
theorem rh(l:List E3)(i:Nat):jV l (i:Int)=qK l i:=by
 unfold jV qK;rw [List.filter_filter];refine List.filter_congr λx _=> ?_;rw [Bool.eq_iff_iff];simp;omega
theorem Ew{i:Int}(h:∀x∈l,x.1≠i):jV l i= []:=by
 unfold jV;rw [List.filter_eq_nil_iff];exact λx hx hd=>h x hx (by simpa using hd)
theorem JN{s:Sl Int}(hs:okS 1 s){f:E3->Int}(e:s.l=l.map f){a b:Nat}(hab:a<=b)(hb:b<=l.length):∃t:Sl Int,lA 1 s (a:Int) (b:Int)=some t/\t.l=((l.drop a).take (b - a)).map f/\okS 1 t:=by
 have h0:s.sz=1∨(a:Int)=0:=by
  rcases hs with h|h
  .rw [e,List.map_eq_nil_iff]at h;subst h
   right;simp at hb;omega
  .exact .inl h
 refine⟨⟨s.nn,s.sz,(s.l.drop a).take (b - a)⟩,?_,?_,?_⟩
 .unfold lA;rw [if_pos ⟨by omega,by omega,by rw [e,List.length_map];omega,h0⟩];simp
 .show(s.l.drop a).take (b - a)=_;rw [e,<-List.map_drop,<-List.map_take]
 .rcases hs with h|h
  .exact .inl (by show(s.l.drop a).take (b - a)= [];rw [h];simp)
  .exact .inr h
theorem MC(h:Is m n c l)(i:Int):∃s t:Sl Int,sn m i=some (s,t)/\s.l=(jV l i).map (·.2.1)/\t.l=(jV l i).map (·.2.2)/\okS 1 s/\okS 1 t:=by
 rw [Mz];by_cases h0:i<0
 .have hr:jV l i= []:=Ew λx hx he=>by have:=(h.p x hx).1;omega
  rw [if_pos h0,hr];exact⟨iE,iE,rfl,rfl,rfl,jp,jp⟩
 .by_cases h1:i >= n
  .have hr:jV l i= []:=Ew λx hx he=>by have:=(h.p x hx).1;omega
   rw [if_neg h0,h.e1,if_pos h1,hr];exact⟨iE,iE,rfl,rfl,rfl,jp,jp⟩
  .obtain⟨k,rfl⟩:=Int.eq_ofNat_of_zero_le (by omega:0<=i);have hk:k<n.toNat:=by omega
   rw [if_neg h0,h.e1,if_neg h1];have w1:IntKind.i64.wrap ((k:Int)+1)=((k+1:Nat):Int):=ci (n:=n.toNat) hk (by have:=h.hn;omega);have a1:=fE h.o3 (show m.2.2.1.l[k]? =some _ by rw [h.e3];exact dw _ (by omega));have a2:=fE h.o3 (show m.2.2.1.l[k+1]? =some _ by rw [h.e3];exact dw _ (by omega));obtain⟨c1,c2⟩:=nJ h.r k;have hle:=ml l (k+1);obtain⟨s,s1,s2,s3⟩:=JN h.o4 h.e4 c1 hle;obtain⟨t,t1,t2,t3⟩:=JN h.o5 h.e5 c1 hle;rw [a1,w1,a2];simp only [zbS];rw [if_pos ⟨Int.le_refl _,by rw [h.e4,List.length_map];omega⟩,s1];simp only [zbS];rw [if_pos ⟨Int.le_refl _,by rw [h.e5,List.length_map];omega⟩,t1];refine⟨s,t,rfl,?_,?_,s3,t3⟩
   .rw [s2,c2,rh]
   .rw [t2,c2,rh]
def Bj(l:List E3)(k:Int):List E3:=l.filter λx=>decide (x.1<k)
theorem Ey(h:dF l)(k:Nat):Bj l ((k+1:Nat):Int)=Bj l (k:Int)++jV l (k:Int):=by
 have e1:=(pO (oS h) k).1;have e2:=(pO (oS h) (k+1)).1;obtain⟨c1,c2⟩:=nJ h k;unfold Bj;rw [<-e1,<-e2,rh,<-c2];rw [<-List.take_add,show aH l k+(aH l (k+1) - aH l k)=aH l (k+1)by omega]
theorem Uh{n:Int}(h:∀x∈l,x.1<n):Bj l n=l:=by
 unfold Bj;rw [List.filter_eq_self];exact λx hx=>by simpa using h x hx
theorem Qy{n:Int}(h:∀x∈l,n<=x.1):Bj l n= []:=by
 unfold Bj;rw [List.filter_eq_nil_iff]
 exact λx hx hd=>by
  have:=h x hx;have:x.1<n:=by simpa using hd
  omega
theorem mU{x:E3}{k:Int}(h:x∈jV l k):x∈l/\x.1=k:=by
 unfold jV at h;rw [List.mem_filter]at h;exact⟨h.1,by simpa using h.2⟩
theorem Qz(h:dF l){x y:E3}(hx:x∈l)(hy:y∈l)(h1:x.1=y.1)(h2:x.2.1=y.2.1):x=y:=by
 obtain⟨a,ha,rfl⟩:=List.mem_iff_getElem.1 hx;obtain⟨b,hb,rfl⟩:=List.mem_iff_getElem.1 hy;have hp:=List.pairwise_iff_getElem.1 h;by_cases hab:a=b
 .subst hab;rfl
 .rcases Nat.lt_or_gt_of_ne hab with hl|hl
  .have:=bel_iff.1 (hp a b ha hb hl);omega
  .have:=bel_iff.1 (hp b a hb ha hl);omega
theorem XN(h:dF l)(i:Int):((jV l i).map (·.2.1)).Pairwise (·<·):=by
 rw [List.pairwise_map];have h1:(jV l i).Pairwise λa b=>bel a b=true:=h.sublist List.filter_sublist;refine h1.imp_of_mem λ{a b} ha hb hab=> ?_
 have:=(mU ha).2
 have:=(mU hb).2
 rw [bel_iff]at hab;omega
end
end
section
open Go Sm
theorem abI{n:Int}(h:inK .u8 n):0<=n/\n<=255:=by simpa [inK,Lit.wf,IntKind.min,IntKind.max,IntKind.signed,IntKind.bits]using h
def dn(n:Int):Int:=n % 40
theorem vG{n:Int}(h:inK .u8 n):dK n=some (dn n)/\0<=dn n/\dn n<40:=by
 have:=abI h
 rw [oe];unfold dn jw;rw [cY (by omega) (by omega),if_pos (by decide),Int.tmod_eq_emod_of_nonneg (by omega)];exact⟨rfl,by omega,by omega⟩
theorem Ui{a:Int×Int}(ha:inK .u8 a.1/\inK .u8 a.2){s:Sl E3}(hs:okS 3 s)(hv:w64 s.l):∃m l,fR a s=some m/\Is m (dn a.1) (dn a.2) l:=by
 obtain⟨a1,a2⟩:=a;obtain⟨z1,z2,z3⟩:=vG ha.1;obtain⟨y1,y2,y3⟩:=vG ha.2;obtain⟨t,t1,t2,t3,t4⟩:=JL hs;have tl:t.l.length<=60:=by rw [t2,List.length_take];omega
 have tv:w64 t.l:=λx hx=>hv x (by rw [t2]at hx;exact List.mem_of_mem_take hx);rw [Du];simp only at z1 z2 z3 y1 y2 y3 ⊢;simp only [z1,y1,t1,zbS];generalize dn a1=n at z2 z3 ⊢;generalize dn a2=c at y2 y3 ⊢
 obtain⟨q,q1,u,rfl,u1,u2,u3⟩:=cr (b:=kU n c t) t.l.length (λj st=>∃u:List E3,st=(u,(j:Int))/\u.length<=j/\(∀x∈u,(0<=x.1/\x.1<n)/\0<=x.2.1/\x.2.1<c)/\w64 u) (λq=>∃u:List E3,q= .inl u/\u.length<=t.l.length/\(∀x∈u,(0<=x.1/\x.1<n)/\0<=x.2.1/\x.2.1<c)/\w64 u)
  (by
   rintro j _ hj ⟨u,rfl,g1,g2,g3⟩;have ej:=cg t3 hj;have hxv:=tv _ (List.getElem_mem hj);generalize t.l[j]=x at ej hxv;simp only [kU,ej,zbS,ci hj (by omega)];rw [if_pos (by omega)];by_cases c1:x.1<0
   .rw [if_pos c1];exact .inl ⟨_,rfl,u,rfl,by omega,g2,g3⟩
   by_cases c2:x.2.1<0
   .rw [if_neg c1,if_pos c2];exact .inl ⟨_,rfl,u,rfl,by omega,g2,g3⟩
   by_cases c3:n=0
   .rw [if_neg c1,if_neg c2,if_pos c3];exact .inl ⟨_,rfl,u,rfl,by omega,g2,g3⟩
   by_cases c4:c=0
   .rw [if_neg c1,if_neg c2,if_neg c3,if_pos c4];exact .inl ⟨_,rfl,u,rfl,by omega,g2,g3⟩
   rw [if_neg c1,if_neg c2,if_neg c3,if_neg c4];have m1:jw x.1 n=some (x.1 % n):=by unfold jw;rw [if_pos c3,Int.tmod_eq_emod_of_nonneg (by omega)]
   have m2:jw x.2.1 c=some (x.2.1 % c):=by unfold jw;rw [if_pos c4,Int.tmod_eq_emod_of_nonneg (by omega)]
   have ap:∀z:E3,app u [z]=some (u++ [z]):=λz=>ik (by simp;unfold cu;omega);simp only [m1,m2,zbS,ap];have h1:=Int.emod_nonneg x.1 c3;have h2:=Int.emod_lt_of_pos x.1 (show 0<n by omega);have h3:=Int.emod_nonneg x.2.1 c4;have h4:=Int.emod_lt_of_pos x.2.1 (show 0<c by omega);refine .inl ⟨_,rfl,_,rfl,by simp;omega,λy hy=> ?_,λy hy=> ?_⟩
   .rcases List.mem_append.1 hy with hy|hy
    .exact g2 y hy
    .simp only [List.mem_cons,List.not_mem_nil,or_false]at hy;subst hy;exact⟨⟨h1,h2⟩,h3,h4⟩
   .rcases List.mem_append.1 hy with hy|hy
    .exact g3 y hy
    .simp only [List.mem_cons,List.not_mem_nil,or_false]at hy;subst hy
     exact⟨by unfold cC;dsimp only;omega,by unfold cC;dsimp only;omega,hxv.2.2⟩)
  (by
   rintro _ ⟨u,rfl,g1,g2,g3⟩;refine⟨.inl u,?_,u,rfl,g1,g2,g3⟩;simp only [kU]
   rw [if_neg (by omega)]) 0 (Nat.zero_le _) ([],0) ⟨[],rfl,Nat.le_refl _,λx hx=>by simp at hx,λx hx=>by simp at hx⟩
 rw [q1];simp only [zbS,Sum.elim_inl];rw [MB (mS _),iU];simp only [zbS]
 have hall:u.all (inM n c)=true:=by
  rw [List.all_eq_true];intro x hx;unfold inM;rw [decide_eq_true_eq]
  have:=u2 x hx
  omega
 have e:ofV 1 n c u=if(sumR (RG 1) u).2=0 then(nr n c (sumR (RG 1) u).1,0)else(Qx,(sumR (RG 1) u).2):=by
  unfold ofV;rw [if_pos (by decide),if_pos ⟨sizeF_iff.2 (by omega),sizeF_iff.2 (by omega)⟩,if_pos (by omega),if_pos hall]
 rw [e];obtain⟨s1,s2,s3,s4⟩:=vF (r:=1) (l:=u);by_cases h0:(sumR (RG 1) u).2=0
 .rw [if_pos h0,if_neg (by simp)];exact⟨_,_,rfl,Ug (by omega) (by omega) (by omega) s1 (OQ hall) λx hx=>(s3 x hx).1⟩
 .rw [if_neg h0,if_pos h0,cY (by omega) (by omega),qg,OM (by omega)];refine⟨_,[],rfl,?_⟩
  have:=Ug (n:=n) (c:=c) (l:= []) (by omega) (by omega) (by simp) List.Pairwise.nil (by simp) (by simp)
  refine⟨this.hn,this.hc,this.len,this.r,this.p,this.v,rfl,rfl,?_,rfl,rfl,.inr rfl,.inl rfl,.inl rfl⟩;show List.replicate (n+1).toNat (0:Int)=_;rw [show(n+1).toNat=n.toNat+1 by omega,so];rfl
end
section
open Go Sm
def bM(x:E3):E3:=(x.2.1,x.1,x.2.2)
theorem oX(x:E3):bM (bM x)=x:=rfl
theorem JO{x y:E3}(h:bM x=bM y):x=y:=by rw [<-oX x,h,oX]
theorem mem_flip{l:List E3}{x:E3}:x∈l.map bM↔bM x∈l:=by
 constructor
 .intro h;obtain⟨y,hy,rfl⟩:=List.mem_map.1 h;exact hy
 .exact λh=>List.mem_map.2 ⟨_,h,rfl⟩
def leE(a b:E3):Bool:= !bel b a
theorem zG{a b:E3}:leE a b=true↔¬(b.1<a.1∨b.1=a.1/\b.2.1<a.2.1):=by
 unfold leE;rw [<-bel_iff];cases bel b a<;>simp
def eD(l:List E3):List E3:=(l.map bM).mergeSort leE
theorem oY(l:List E3):(eD l).Perm (l.map bM):=List.mergeSort_perm _ _
theorem turn_mem{l:List E3}{x:E3}:x∈eD l↔bM x∈l:=by rw [(oY l).mem_iff,mem_flip]
theorem JP(l:List E3):(eD l).length=l.length:=by rw [(oY l).length_eq,List.length_map]
theorem nK{l:List E3}(h:dF l):l.Nodup:=h.imp λ{a b} hab he=>by
 subst he
 have:=bel_iff.1 hab
 omega
theorem pQ{l:List E3}(h:dF l):dF (eD l):=by
 have h1:(eD l).Pairwise λa b=>leE a b=true:=List.pairwise_mergeSort (λa b c hab hbc=>by rw [zG]at*;omega) (λa b=>by
  rw [Bool.or_eq_true,zG,zG];omega) _
 have h2:(eD l).Nodup:=(oY l).nodup_iff.2 (List.pairwise_map.2 ((nK h).imp λ{a b} hab he=>hab (JO he)));rw [dF,List.pairwise_iff_getElem];intro i j hi hj hij;have p1:=List.pairwise_iff_getElem.1 h1 i j hi hj hij;have p2:=List.pairwise_iff_getElem.1 h2 i j hi hj hij;rw [zG]at p1;rw [bel_iff];by_cases hk:(eD l)[i].1=(eD l)[j].1/\(eD l)[i].2.1=(eD l)[j].2.1
 .have m1:=turn_mem.1 (List.getElem_mem hi);have m2:=turn_mem.1 (List.getElem_mem hj);exact absurd (JO (Qz h m1 m2 hk.2 hk.1)) p2
 .omega
theorem QA{l l':List E3}(h:dF l)(h':dF l')(hm:∀x,x∈l↔x∈l'):l=l':=
 List.Perm.eq_of_pairwise (le:=λa b=>bel a b=true) (λa b _ _ h1 h2=>by rw [bel_iff]at h1 h2;omega) h h' ((List.perm_ext_iff_of_nodup (nK h) (nK h')).2 hm)
theorem MD{T:List E3}(h:dF T){p:Nat}(hp:p<T.length):T.countP (λy=>bel y T[p])=p:=by
 have hpw:=List.pairwise_iff_getElem.1 h;have e:T=T.take p++T[p]::T.drop (p+1):=by rw [List.getElem_cons_drop,List.take_append_drop]
 have c:∀x,T.countP (λy=>bel y x)=(T.take p).countP (λy=>bel y x)+(T[p]::T.drop (p+1)).countP (λy=>bel y x):=λx=>by rw [<-List.countP_append,<-e]
 rw [c,List.countP_eq_length.2,List.countP_eq_zero.2]
 .rw [List.length_take];omega
 .intro a ha;rcases List.mem_cons.1 ha with rfl|ha
  .rw [bel_iff];omega
  .obtain⟨j,hj,rfl⟩:=List.mem_iff_getElem.1 ha;rw [List.getElem_drop];rw [List.length_drop]at hj
   have:=bel_iff.1 (hpw p (p+1+j) hp (by omega) (by omega))
   rw [bel_iff];omega
 .intro a ha;obtain⟨j,hj,rfl⟩:=List.mem_take_iff_getElem.1 ha;exact hpw j p (by omega) hp (by omega)
def sS(u:List E3)(k:Nat):Nat:=u.countP λx=>decide (x.2.1=(k:Int))
theorem XO(u:List E3)(k:Nat):sS u k<=u.length:=List.countP_le_length
theorem Uj(u:List E3)(e:E3)(k:Nat):sS (u++ [e]) k=sS u k+if e.2.1=(k:Int)then 1 else 0:=by
 unfold sS;rw [List.countP_append];congr 1;by_cases h:e.2.1=(k:Int)<;>simp [h]
theorem Ez{a:Int}:∀u:List E3,u.countP (λy=>decide (y.2.1<a∨y.2.1=a))=u.countP (λy=>decide (y.2.1<a))+u.countP (λy=>decide (y.2.1=a))
 | []=>rfl
 |x::u=>by
  have ih:=Ez (a:=a) u;simp only [List.countP_cons,ih];by_cases h1:x.2.1<a
  .have h2:¬x.2.1=a:=by omega
   simp [h1,h2];omega
  .by_cases h2:x.2.1=a
   .simp [h2];omega
   .simp [h1,h2]
theorem Bk{l u w:List E3}{e:E3}(hl:l=u++e::w)(h:dF l){k:Nat}(hk:e.2.1=(k:Int)):(eD l)[aH (l.map bM) k+sS u k]? =some (bM e):=by
 have he:e∈l:=by rw [hl];simp
 obtain⟨p,hp,hpe⟩:=List.mem_iff_getElem.1 (turn_mem.2 (show bM (bM e)∈l from he));have hi:=MD (pQ h) hp;rw [hpe,(oY l).countP_eq,List.countP_map]at hi;have hc:aH (l.map bM) k=l.countP λy=>decide (y.2.1<(k:Int)):=by unfold aH;rw [List.countP_map];rfl
 rw [hl,dF,List.pairwise_append]at h;obtain⟨h1,h2,h3⟩:=h;obtain⟨h4,h5⟩:=List.pairwise_cons.1 h2
 have c1:u.countP ((λy=>bel y (bM e))∘ bM)=u.countP (λy=>decide (y.2.1<(k:Int)∨y.2.1=(k:Int))):=List.countP_congr λy hy=>by
  have:=bel_iff.1 (h3 y hy e List.mem_cons_self)
  show bel (bM y) (bM e)=true↔_;rw [bel_iff,decide_eq_true_eq];show y.2.1<e.2.1∨y.2.1=e.2.1/\y.1<e.1↔_;rw [hk];omega
 have c2:(e::w).countP ((λy=>bel y (bM e))∘ bM)=(e::w).countP (λy=>decide (y.2.1<(k:Int))):=List.countP_congr λy hy=>by
  show bel (bM y) (bM e)=true↔_;rw [bel_iff,decide_eq_true_eq];show y.2.1<e.2.1∨y.2.1=e.2.1/\y.1<e.1↔_;rw [hk];rcases List.mem_cons.1 hy with rfl|hy
  .omega
  .have:=bel_iff.1 (h4 y hy)
   omega
 have:aH (l.map bM) k+sS u k=p:=by
  rw [<-hi,hc,hl,List.countP_append,List.countP_append,c1,c2,Ez];unfold sS;omega
 rw [this,List.getElem?_eq_getElem hp,hpe]
theorem JQ{l u w:List E3}{e:E3}(hl:l=u++e::w)(h:dF l){k:Nat}(hk:e.2.1=(k:Int))(g:E3->Int):((eD l).map λx=>if bM x∈u then g x else 0).set (aH (l.map bM) k+sS u k) (g (bM e))=(eD l).map λx=>if bM x∈u++ [e]then g x else 0:=by
 have hp:=Bk hl h hk;have hnd:=nK (pQ h);refine List.ext_getElem? λj=> ?_;rw [List.getElem?_set];by_cases hj:aH (l.map bM) k+sS u k=j
 .rw [if_pos hj];rw [hj]at hp;have hlt:=(List.getElem?_eq_some_iff.1 hp).1;rw [if_pos (by rw [hj,List.length_map];exact hlt),List.getElem?_map,hp];simp [oX]
 .rw [if_neg hj,List.getElem?_map,List.getElem?_map]
  cases hx:(eD l)[j]? with
  |none=>rfl
  |some x=>
   have hne:bM x≠e:=by
    intro he;obtain⟨a1,a2⟩:=List.getElem?_eq_some_iff.1 hx;obtain⟨b1,b2⟩:=List.getElem?_eq_some_iff.1 hp;refine hj ?_;have hxe:x=bM e:=by rw [<-he,oX]
    have hpw:=List.pairwise_iff_getElem.1 hnd;rcases Nat.lt_trichotomy (aH (l.map bM) k+sS u k) j with hlt|heq|hlt
    .exact absurd (b2.trans (hxe.symm.trans a2.symm)) (hpw _ _ b1 a1 hlt)
    .exact heq
    .exact absurd (a2.trans (hxe.trans b2.symm)) (hpw _ _ a1 b1 hlt)
   simp [hne]
theorem JR{k:Nat}(hk:k<=4096){l:List E3}(hl:l.length<=65536)(hr:∀x∈l,0<=x.1):aK nD (1,ee k (λi=>((ns l i:Nat):Int)))=some (.inl (ee k λi=>((aH l i:Nat):Int))):=by
 have h0:aH l 0=ns l 0:=by
  unfold aH ns;refine List.countP_congr λx hx=> ?_
  have:=hr x hx
  simp;omega
 refine jC k (λj=>(((j+1:Nat):Int),ee k (λi=>if i<=j then((aH l i:Nat):Int)else((ns l i:Nat):Int)))) ?_ (λj hj=> ?_) ?_
 .rw [Prod.mk.injEq];refine⟨rfl,eg λi hi=> ?_⟩;by_cases h:i<=0
  .rw [if_pos h,show i=0 by omega,h0]
  .rw [if_neg h]
 .have e1:atL (ee k (λi=>if i<=j then((aH l i:Nat):Int)else((ns l i:Nat):Int))) ((j+1:Nat):Int)=some ((ns l (j+1):Nat):Int):=cA (by rw [dw _ (by omega),if_neg (by omega)]);have e2:atL (ee k (λi=>if i<=j then((aH l i:Nat):Int)else((ns l i:Nat):Int))) (j:Int)=some ((aH l j:Nat):Int):=cA (by rw [dw _ (by omega),if_pos (by omega)]);have w1:IntKind.i64.wrap (((j+1:Nat):Int) - 1)=(j:Int):=by rw [cY (by omega) (by omega)];omega
  have w2:IntKind.i64.wrap (((j+1:Nat):Int)+1)=((j+1+1:Nat):Int):=by rw [cY (by omega) (by omega)];omega
  have c1:=OO l (j+1);have c2:=ml l j;have w3:IntKind.i64.wrap (((ns l (j+1):Nat):Int)+((aH l j:Nat):Int))=((ns l (j+1):Nat):Int)+((aH l j:Nat):Int):=cY (by omega) (by omega);simp only [nD,e1,e2,w1,w2,w3,zbS,Int.toNat_natCast,dY];rw [if_pos (by omega),rg _ _ (by omega)];refine congrArg (λz=>some (Sum.inl ((((j+1+1:Nat):Int),z)))) (eg λi hi=> ?_)
  have:=Eu l j
  by_cases h:i=j+1
  .rw [if_pos h,if_pos (by omega),h,this];omega
  .rw [if_neg h];by_cases h2:i<=j
   .rw [if_pos h2,if_pos (by omega)]
   .rw [if_neg h2,if_neg (by omega)]
 .simp only [nD,dY];rw [if_neg (by omega)];refine congrArg (λz=>some (Sum.inr (Sum.inl z))) (eg λi hi=> ?_);rw [if_pos hi]
section
variable {m : Mx} {n c : Int} {l : List E3}
theorem ME(h:Is m n c l):aK (nB m) (0,ee c.toNat λ_=>0)=some (.inl (ee c.toNat λi=>((ns (l.map bM) i:Nat):Int))):=by
 have hc:=h.hc;have hlen:=h.len;refine jC l.length (λj=>((j:Int),ee c.toNat (λi=>((ns ((l.take j).map bM) i:Nat):Int)))) rfl (λj hj=> ?_) ?_
 .have ej:=fE h.o4 (show m.2.2.2.1.l[j]? =some l[j].2.1 by rw [h.e4,List.getElem?_map,List.getElem?_eq_getElem hj];rfl);have hx:=h.p _ (List.getElem_mem hj);obtain⟨row,hrow⟩:=Int.eq_ofNat_of_zero_le hx.2.1;have hlen2:((l.take j).map bM).length<=65536:=by simp;omega
  have hw:IntKind.i64.wrap (l[j].2.1+1)=((row+1:Nat):Int):=by rw [cY (by omega) (by omega)];omega
  have hat:atL (ee c.toNat λi=>((ns ((l.take j).map bM) i:Nat):Int)) ((row+1:Nat):Int)=some ((ns ((l.take j).map bM) (row+1):Nat):Int):=cA (dw _ (by omega));have hcc:=OO ((l.take j).map bM) (row+1);have hw2:IntKind.i64.wrap (((ns ((l.take j).map bM) (row+1):Nat):Int)+1)=((ns ((l.take j).map bM) (row+1):Nat):Int)+1:=cY (by omega) (by omega);simp only [nB,ej,zbS,hw,hat,hw2,Int.toNat_natCast,ci hj (by omega)];rw [if_pos (by rw [h.e4,List.length_map];omega),rg _ _ (by omega),List.take_succ_eq_append_getElem hj,List.map_append];simp only [List.map_cons,List.map_nil];refine congrArg (λz=>some (Sum.inl ((((j+1:Nat):Int),z)))) (eg λi hi=> ?_);rw [Uf];show _=((ns ((l.take j).map bM) i+if l[j].2.1+1=(i:Int)then 1 else 0:Nat):Int);rw [hrow];by_cases h:i=row+1
  .rw [if_pos h,if_pos (by omega),h];omega
  .rw [if_neg h,if_neg (by omega)];omega
 .simp only [nB];rw [if_neg (by rw [h.e4,List.length_map];omega),List.take_length]
def vH(l u:List E3)(g:E3->Int):List Int:=(eD l).map λx=>if bM x∈u then g x else 0
def atV(c:Int)(l u:List E3):List Int:=ee c.toNat λk=>((aH (l.map bM) k+sS u k:Nat):Int)
theorem Uk(h:Is m n c l){q:List Int×List Int×List Int}{i:Int}{u R w:List E3}(hl:l=u++R++w)(hR:∀x∈R,x.1=i){s t:Sl Int}(hs:s.l=R.map (·.2.1))(ht:t.l=R.map (·.2.2))(os:okS 1 s)(ot:okS 1 t):
  aK (nF (i,q) (s,t)) (0,vH l u (·.2.1),vH l u (·.2.2),atV c l u)=some (.inl (vH l (u++R) (·.2.1),vH l (u++R) (·.2.2),atV c l (u++R))):=by
 have hc:=h.hc;have hlen:=h.len;have hRl:R.length<=65536:=by have:=congrArg List.length hl;simp at this;omega
 refine jC R.length (λj=>((j:Int),vH l (u++R.take j) (·.2.1),vH l (u++R.take j) (·.2.2),atV c l (u++R.take j))) (by simp) (λj hj=> ?_) ?_
 .have g:=List.getElem?_eq_getElem hj;have a1:=fE os (show s.l[j]? =some R[j].2.1 by rw [hs,List.getElem?_map,g];rfl);have a2:=fE ot (show t.l[j]? =some R[j].2.2 by rw [ht,List.getElem?_map,g];rfl)
  have hl2:l=(u++R.take j)++R[j]::(R.drop (j+1)++w):=by
   rw [hl];have hsp:R=R.take j++R[j]::R.drop (j+1):=by rw [List.getElem_cons_drop,List.take_append_drop]
   have:R++w=R.take j++R[j]::(R.drop (j+1)++w):=by
    rw [<-List.cons_append,<-List.append_assoc,<-hsp]
   rw [List.append_assoc,this,List.append_assoc]
  have hx:=h.p R[j] (by rw [hl];simp);obtain⟨k,hk⟩:=Int.eq_ofNat_of_zero_le hx.2.1;have hp:=Bk hl2 h.r hk;have e1:=JQ hl2 h.r hk (·.2.1);have e2:=JQ hl2 h.r hk (·.2.2);have hi:(bM R[j]).2.1=i:=hR _ (List.getElem_mem hj);have hu:u++R.take (j+1)=u++R.take j++ [R[j]]:=by rw [List.take_succ_eq_append_getElem hj,List.append_assoc]
  have c1:=ml (l.map bM) k;have c2:=XO (u++R.take j) k;have c3:(u++R.take j).length<=65536:=by have:=congrArg List.length hl2;simp at this ⊢;omega
  rw [List.length_map]at c1
  have b1:atL (atV c l (u++R.take j)) R[j].2.1=some ((aH (l.map bM) k+sS (u++R.take j) k:Nat):Int):=by
   rw [hk];exact cA (dw _ (by omega))
  have hgs:∀g:E3->Int,∃v,(vH l (u++R.take j) g)[aH (l.map bM) k+sS (u++R.take j) k]? =some v:=λg=>⟨_,by unfold vH;rw [List.getElem?_map,hp];rfl⟩;obtain⟨v1,hv1⟩:=hgs (·.2.1);obtain⟨v2,hv2⟩:=hgs (·.2.2);have b2:=cA hv1;have b3:=cA hv2;have w1:IntKind.i64.wrap (((aH (l.map bM) k+sS (u++R.take j) k:Nat):Int)+1)=((aH (l.map bM) k+sS (u++R.take j) k+1:Nat):Int):=by rw [cY (by omega) (by omega)];rfl
  simp only [nF];rw [if_pos (by rw [hs,List.length_map];omega)];simp only [a1,a2,b1,b2,b3,w1,zbS,ci hj (by omega),Int.toNat_natCast];refine congrArg some (congrArg Sum.inl ?_);simp only [Prod.mk.injEq,true_and];refine⟨?_,?_,?_⟩
  .rw [hu,<-hi];exact e1
  .rw [hu];exact e2
  .rw [hu,hk,Int.toNat_natCast];unfold atV;rw [rg _ _ (by omega)];refine eg λi2 hi2=> ?_;rw [Uj,hk];by_cases h:i2=k
   .subst h;simp;omega
   .rw [if_neg h,if_neg (by omega)];omega
 .simp only [nF];rw [if_neg (by rw [hs,List.length_map];omega),List.take_length]
theorem JS(l:List E3)(g:E3->Int):vH l l g=(eD l).map g:=by
 unfold vH;refine List.map_congr_left λx hx=> ?_;rw [if_pos (turn_mem.1 hx)]
theorem JT(l:List E3)(g:E3->Int):vH l [] g=List.replicate l.length 0:=by
 unfold vH;rw [<-JP l,List.eq_replicate_iff];exact⟨List.length_map ..,λb hb=>by obtain⟨x,_,rfl⟩:=List.mem_map.1 hb;simp⟩
theorem MF(h:Is m n c l):iY m=some (c,n,⟨true,1,ee c.toNat λi=>((aH (l.map bM) i:Nat):Int)⟩,⟨true,1,(eD l).map (·.2.1)⟩,⟨true,1,(eD l).map (·.2.2)⟩):=by
 have hc:=h.hc;have hn:=h.hn;have hlen:=h.len;have tk:(c+1).toNat=c.toNat+1:=by omega
 rw [JD,JM h];simp only [zbS];rw [h.e1,h.e2,h.e4,h.e5,cY (by omega) (by omega),qg,OM hc,List.length_map,List.length_map,qg,abF (by omega)];simp only [zbS,tk,Int.toNat_natCast];rw [so,ME h];simp only [zbS,Sum.elim_inl];rw [JR (by omega) (by rw [List.length_map];exact hlen) (λx hx=>(h.p _ (mem_flip.1 hx)).2.1)];simp only [zbS,Sum.elim_inl];rw [ik (by rw [dY];unfold cu;simp;omega),List.nil_append];simp only [zbS]
 have q:aK (nG m) (0,List.replicate l.length 0,List.replicate l.length 0,ee c.toNat λi=>((aH (l.map bM) i:Nat):Int))=some (.inl ((eD l).map (·.2.1),(eD l).map (·.2.2))):=by
  refine jC n.toNat (λi=>((i:Int),vH l (Bj l (i:Int)) (·.2.1),vH l (Bj l (i:Int)) (·.2.2),atV c l (Bj l (i:Int)))) ?_ (λi hi=> ?_) ?_
  .rw [show((0:Nat):Int)=0 from rfl,Qy λx hx=>(h.p x hx).1.1,JT,JT];refine congrArg (λz=>((0:Int),List.replicate l.length (0:Int),List.replicate l.length (0:Int),z)) (eg λi hi=> ?_);simp [sS]
  .obtain⟨s,t,e1,e2,e3,e4,e5⟩:=MC h (i:Int);simp only [nG];rw [h.e1,if_pos (by omega),e1];simp only [zbS]
   have hsplit:l=Bj l (i:Int)++jV l (i:Int)++(l.filter λx=> !decide (x.1<((i+1:Nat):Int))):=by
    rw [<-Ey h.r];exact(oQ (oS h.r) _).symm
   rw [Uk h hsplit (λx hx=>(mU hx).2) e2 e3 e4 e5];simp only [zbS,Sum.elim_inl];rw [ci hi (by omega),Ey h.r]
  .simp only [nG];rw [h.e1,if_neg (by omega),Uh λx hx=>by have:=(h.p x hx).1;omega,JS,JS]
 rw [q];simp only [zbS,Sum.elim_inl]
end
end
section
open Go Sm
section
variable {m : Mx}
end
end
section
open Go Sm
abbrev Cx:=Int×Int×Sl Int×Sl Int×Sl Int×Sl Int
def neC(T:List E3)(k:Nat):Bool:=decide (aH T k<aH T (k+1))
def iZ(T:List E3)(n:Nat):List Int:=((List.range n).filter (neC T)).map λ(k:Nat)=>(k:Int)
def EA(T:List E3)(n:Nat):List Int:=((List.range n).filter (neC T)).map λ(k:Nat)=>((aH T (k+1):Nat):Int)
def lP(T:List E3)(n:Nat):List Int:=0::EA T n
section
variable {T : List E3}
theorem pR(n:Nat):iZ T (n+1)=iZ T n++if neC T n=true then [(n:Int)]else []:=by
 unfold iZ;rw [List.range_succ,List.filter_append,List.map_append];by_cases h:neC T n=true<;>simp [h]
theorem MG(n:Nat):EA T (n+1)=EA T n++if neC T n=true then [((aH T (n+1):Nat):Int)]else []:=by
 unfold EA;rw [List.range_succ,List.filter_append,List.map_append];by_cases h:neC T n=true<;>simp [h]
theorem Ul(n:Nat):(EA T n).length=(iZ T n).length:=by unfold EA iZ;simp
theorem oZ(n:Nat):(lP T n).length=(iZ T n).length+1:=by unfold lP;rw [List.length_cons,Ul]
theorem nL(n:Nat):lP T (n+1)=lP T n++if neC T n=true then [((aH T (n+1):Nat):Int)]else []:=by
 unfold lP;rw [MG,List.cons_append]
theorem JV(n:Nat):(iZ T n).length<=n:=by
 unfold iZ;rw [List.length_map];exact Nat.le_trans (List.length_filter_le _ _) (by rw [List.length_range];exact Nat.le_refl _)
theorem Bl(T:List E3)(k:Nat):aH T (k+1)=aH T k+(jV T (k:Int)).length:=by
 unfold aH jV
 induction T with
 |nil=>rfl
 |cons x l ih=>
  rw [List.countP_cons,List.countP_cons,List.filter_cons,ih];by_cases h:x.1<(k:Int)
  .rw [if_pos (decide_eq_true (by omega)),if_pos (decide_eq_true h),if_neg (by simp;omega)];omega
  .by_cases h2:x.1=(k:Int)
   .rw [if_pos (decide_eq_true (by omega)),if_neg (by simpa using h),if_pos (decide_eq_true h2),List.length_cons];omega
   .rw [if_neg (by simp;omega),if_neg (by simpa using h),if_neg (by simpa using h2)];omega
theorem neC_iff{k:Nat}:neC T k=true↔jV T (k:Int)≠[]:=by
 unfold neC;rw [Bl,decide_eq_true_eq,<-List.length_pos_iff];omega
theorem IR(h0:∀x∈T,0<=x.1):aH T 0=0:=by
 unfold aH;rw [List.countP_eq_zero];intro x hx
 have:=h0 x hx
 simp;omega
theorem cols_mem{n:Nat}{x:Int}:x∈iZ T n↔∃j:Nat,x=(j:Int)/\j<n/\neC T j=true:=by
 unfold iZ;rw [List.mem_map];constructor
 .rintro⟨j,h1,h2⟩;rw [List.mem_filter,List.mem_range]at h1;exact⟨j,h2.symm,h1⟩
 .rintro⟨j,h1,h2⟩;exact⟨j,by rw [List.mem_filter,List.mem_range];exact h2,h1.symm⟩
theorem Um(n:Nat):(iZ T n).Pairwise (·<·):=by
 unfold iZ;rw [List.pairwise_map];exact(List.pairwise_lt_range.sublist List.filter_sublist).imp λh=>by omega
theorem ui(h0:∀x∈T,0<=x.1):∀n:Nat,(lP T n)[(iZ T n).length]? =some ((aH T n:Nat):Int)
 |0=>by rw [IR h0];rfl
 |n+1=>by
  rw [nL,pR];by_cases h:neC T n=true
  .rw [if_pos h,if_pos h,List.length_append,List.length_singleton,List.getElem?_append_right (by rw [oZ];exact Nat.le_refl _),oZ,Nat.sub_self];rfl
  .rw [if_neg h,if_neg h,List.append_nil,List.append_nil,ui h0 n]
   have:¬aH T n<aH T (n+1):=by simpa [neC]using h
   have h3:=Bl T n
   have:aH T (n+1)=aH T n:=by omega
   rw [this]
theorem Bm(h0:∀x∈T,0<=x.1):∀(n i j:Nat),(iZ T n)[i]? =some (j:Int)->(j<n/\neC T j=true)/\(lP T n)[i]? =some ((aH T j:Nat):Int)/\(lP T n)[i+1]? =some ((aH T (j+1):Nat):Int)
 |0,i,j,h=>by simp [iZ]at h
 |n+1,i,j,h=>by
  have hL:=oZ (T:=T) n;by_cases hn:neC T n=true
  .rw [pR,if_pos hn]at h;rw [nL,if_pos hn];by_cases hi:i<(iZ T n).length
   .rw [List.getElem?_append_left hi]at h;obtain⟨⟨h1,h2⟩,h3,h4⟩:=Bm h0 n i j h;exact⟨⟨by omega,h2⟩,by rw [List.getElem?_append_left (by omega),h3],by rw [List.getElem?_append_left (by omega),h4]⟩
   .have hi2:=(List.getElem?_eq_some_iff.1 h).1;rw [List.length_append,List.length_singleton]at hi2;obtain rfl:i=(iZ T n).length:=by omega
    rw [List.getElem?_append_right (Nat.le_refl _),Nat.sub_self]at h
    have:(n:Int)=(j:Int):=by simpa using h
    obtain rfl:n=j:=by omega
    refine⟨⟨by omega,hn⟩,?_,?_⟩
    .rw [List.getElem?_append_left (by omega),ui h0]
    .rw [List.getElem?_append_right (by omega),hL,Nat.sub_self];rfl
  .rw [pR,if_neg hn,List.append_nil]at h;rw [nL,if_neg hn,List.append_nil];obtain⟨⟨h1,h2⟩,h3⟩:=Bm h0 n i j h;exact⟨⟨by omega,h2⟩,h3⟩
end
structure IsC(c:Cx)(n k:Int)(T:List E3):Prop where
 hn:0<=n/\n<=4096
 hk:0<=k/\k<=4096
 len:T.length<=65536
 r:dF T
 p:∀x∈T,(0<=x.1/\x.1<k)/\0<=x.2.1/\x.2.1<n
 v:∀x∈T,cC x.2.2
 e1:c.1=n
 e2:c.2.1=k
 e3:c.2.2.1.l=iZ T k.toNat
 e4:c.2.2.2.1.l=lP T k.toNat
 e5:c.2.2.2.2.1.l=T.map (·.2.1)
 e6:c.2.2.2.2.2.l=T.map (·.2.2)
 o3:okS 1 c.2.2.1
 o4:okS 1 c.2.2.2.1
 o5:okS 1 c.2.2.2.2.1
 o6:okS 1 c.2.2.2.2.2
section
variable {c : Cx} {n k : Int} {T : List E3}
theorem IsC.h0(h:IsC c n k T):∀x∈T,0<=x.1:=λx hx=>(h.p x hx).1.1
theorem IsC.at_ge(h:IsC c n k T){i:Nat}{j:Int}(hi:c.2.2.1.l[i]? =some j):∃jn:Nat,j=(jn:Int)/\jn<k.toNat/\neC T jn=true/\c.2.2.2.1.l[i]? =some ((aH T jn:Nat):Int)/\c.2.2.2.1.l[i+1]? =some ((aH T (jn+1):Nat):Int):=by
 rw [h.e3]at hi;obtain⟨jn,rfl,h1,h2⟩:=cols_mem.1 (List.mem_of_getElem? hi);obtain⟨_,h3,h4⟩:=Bm h.h0 _ _ _ hi;rw [<-h.e4]at h3 h4;exact⟨jn,rfl,h1,h2,h3,h4⟩
theorem IsC.atLen(h:IsC c n k T):c.2.2.1.l.length<=4096:=by
 rw [h.e3]
 have:=JV (T:=T) k.toNat
 have:=h.hk
 omega
theorem IsC.stLen(h:IsC c n k T):c.2.2.2.1.l.length=c.2.2.1.l.length+1:=by rw [h.e4,h.e3,oZ]
theorem IsC.asc(h:IsC c n k T):c.2.2.1.l.Pairwise (·<·):=by rw [h.e3];exact Um _
theorem Un(hp:∀x∈T,x.1<k){j:Nat}(hj:k<=(j:Int)):aH T j=T.length:=by
 unfold aH;rw [List.countP_eq_length];intro x hx
 have:=hp x hx
 simp;omega
theorem IsC.last(h:IsC c n k T):c.2.2.2.1.l[c.2.2.1.l.length]? =some (T.length:Int):=by
 rw [h.e4,h.e3,ui h.h0,Un (λx hx=>(h.p x hx).1.2) (by have:=h.hk;omega)]
end
def tG(r:Int)(st ro:List Int)(i:Nat):Bool:=decide (0<=st.getD i 0)&&(decide (st.getD i 0<st.getD (i+1) 0)&&(decide (st.getD (i+1) 0<=ro.length)&& jN (-1) r (gg ro (st.getD i 0) (st.getD (i+1) 0))))
def rj(c:Cx):Bool:=eo c.1 &&(eo c.2.1 &&(decide (c.2.2.2.1.l.length=c.2.2.1.l.length+1)&&(decide (c.2.2.2.1.l.getD 0 0=0)&&(jN (-1) c.2.1 c.2.2.1.l &&(decide (c.2.2.2.2.1.l.length=c.2.2.2.2.2.l.length)&&(decide (c.2.2.2.2.1.l.length<=65536)&&(decide (c.2.2.2.1.l.getD c.2.2.1.l.length 0=c.2.2.2.2.1.l.length)&&(List.range c.2.2.1.l.length).all (tG c.1 c.2.2.2.1.l c.2.2.2.2.1.l))))))))
structure OkC(c:Cx):Prop where
 a:okS 1 c.2.2.1
 s:okS 1 c.2.2.2.1
 r:okS 1 c.2.2.2.2.1
 v:okS 1 c.2.2.2.2.2
 va:∀y∈c.2.2.2.2.2.l,cC y
 la:c.2.2.1.l.length<=4096
 ls:c.2.2.2.1.l.length<=9223372036854775806
 lr:c.2.2.2.2.1.l.length<=9223372036854775806
 lv:c.2.2.2.2.2.l.length<=9223372036854775807
section
variable {c : Cx}
theorem gr(h:rj c=true):(0<=c.1/\c.1<=4096)/\(0<=c.2.1/\c.2.1<=4096)/\c.2.2.2.1.l.length=c.2.2.1.l.length+1/\c.2.2.2.1.l.getD 0 0=0/\jN (-1) c.2.1 c.2.2.1.l=true/\c.2.2.2.2.1.l.length=c.2.2.2.2.2.l.length/\c.2.2.2.2.1.l.length<=65536/\c.2.2.2.1.l.getD c.2.2.1.l.length 0=c.2.2.2.2.1.l.length/\∀i,i<c.2.2.1.l.length->tG c.1 c.2.2.2.1.l c.2.2.2.2.1.l i=true:=by
 unfold rj at h;simp only [Bool.and_eq_true,decide_eq_true_eq,sizeF_iff,all_range]at h;exact h
end
end
section
open Go Sm
section
variable {m : Mx} {n c : Int} {l : List E3}
end
end
section
open Go Sm
section
variable {m : Mx} {n c : Int} {l : List E3}
end
end
section
open Go Sm
theorem JW(n:Int):ky n=some (eo n):=by
 rw [<-Bc,GI,yw]
theorem vI(s:Sl Int)(n:Int)(hok:okS 1 s)(hl:s.l.length<=9223372036854775807):jo s n=some (jN (-1) n s.l):=by
 rw [<-yz s n hok hl,Dw,vC];rfl
theorem rl{c:Cx}(h:rj c=true->False):some false=some (rj c):=by rw [Bool.eq_false_iff.2 h]
theorem colOk_iff{r:Int}{st ro:List Int}{i:Nat}:tG r st ro i=true↔0<=st.getD i 0/\st.getD i 0<st.getD (i+1) 0/\st.getD (i+1) 0<=(ro.length:Int)/\jN (-1) r (gg ro (st.getD i 0) (st.getD (i+1) 0))=true:=by
 unfold tG;simp only [Bool.and_eq_true,decide_eq_true_eq]
theorem QB{r k:Int}{a s t v:Sl Int}(hs:okS 1 s)(ht:okS 1 t)(hn:a.l.length<=4096)(hl:s.l.length=a.l.length+1)(h0:s.l.getD 0 0=0)(tl:t.l.length<=65536):∃q,aK (kV (r,k,a,s,t,v)) 0=some q/\(((List.range a.l.length).all (tG r s.l t.l)=true/\q= .inl ())∨((List.range a.l.length).all (tG r s.l t.l)=false/\q= .inr (.inl false))):=by
 refine cr (b:=kV (r,k,a,s,t,v)) a.l.length (λj z=>z=(j:Int)/\0<=s.l.getD j 0/\∀i,i<j->tG r s.l t.l i=true) _ ?_ ?_ 0 (Nat.zero_le _) 0 ⟨rfl,by omega,λi hi=>absurd hi (by omega)⟩
 .rintro j _ hj ⟨rfl,hp,ha⟩;have e1:=cg hs (j:=j) (by omega);have e2:=cg hs (j:=j+1) (by omega);rw [<-kW]at e1 e2;simp only [kV,e1,zbS,ci hj (by omega)];rw [if_pos (by omega),e2];simp only [zbS];have bad:¬tG r s.l t.l j=true->(List.range a.l.length).all (tG r s.l t.l)=false:=λh=>oM hj (Bool.eq_false_iff.2 h);by_cases c1:s.l.getD (j+1) 0<=s.l.getD j 0
  .rw [if_pos c1];exact .inr ⟨_,rfl,.inr ⟨bad λh=>by have:=colOk_iff.1 h;omega,rfl⟩⟩
  rw [if_neg c1];by_cases c2:s.l.getD (j+1) 0>((t.l.length:Nat):Int)
  .rw [if_pos c2];exact .inr ⟨_,rfl,.inr ⟨bad λh=>by have:=colOk_iff.1 h;omega,rfl⟩⟩
  rw [if_neg c2]
  have hc:lA 1 t (s.l.getD j 0) (s.l.getD (j+1) 0)=some ⟨t.nn,t.sz,gg t.l (s.l.getD j 0) (s.l.getD (j+1) 0)⟩:=by
   unfold lA
   have hz:t.sz=1∨s.l.getD j 0=0:=by
    rcases ht with h|h
    .rw [h]at c2;simp only [List.length_nil]at c2;omega
    .exact .inl h
   rw [if_pos ⟨hp,by omega,by omega,hz⟩];rfl
  rw [hc];simp only [zbS];have hcl:(gg t.l (s.l.getD j 0) (s.l.getD (j+1) 0)).length<=65536:=by rw [lk ⟨hp,by omega,by omega⟩];omega
  have hok:okS 1 (⟨t.nn,t.sz,gg t.l (s.l.getD j 0) (s.l.getD (j+1) 0)⟩:Sl Int):=by
   rcases ht with h|h
   .left;unfold gg;simp [h]
   .exact .inr h
  rw [vI _ r hok (show(gg t.l (s.l.getD j 0) (s.l.getD (j+1) 0)).length<=_ by omega)];simp only [zbS]
  cases hb:jN (-1) r (gg t.l (s.l.getD j 0) (s.l.getD (j+1) 0))with
  |true=>
   rw [if_neg (by simp)];refine .inl ⟨_,rfl,rfl,by omega,λi hi=> ?_⟩;by_cases e:i=j
   .rw [e];exact colOk_iff.2 ⟨hp,by omega,by omega,hb⟩
   .exact ha i (by omega)
  |false=>
   rw [if_pos (by simp)];exact .inr ⟨_,rfl,.inr ⟨bad λh=>(by have:=(colOk_iff.1 h).2.2.2;rw [hb]at this;cases this),rfl⟩⟩
 .rintro _ ⟨rfl,hp,ha⟩;exact⟨_,if_neg (show¬((a.l.length:Nat):Int)<((a.l.length:Nat):Int)by omega),.inl ⟨all_range.2 ha,rfl⟩⟩
theorem EB{c:Cx}(h1:eo c.1=true)(h2:eo c.2.1=true)(h3:c.2.2.2.1.l.length=c.2.2.1.l.length+1)(h4:c.2.2.2.1.l.getD 0 0=0)(h5:jN (-1) c.2.1 c.2.2.1.l=true)(h6:c.2.2.2.2.1.l.length=c.2.2.2.2.2.l.length)(h7:c.2.2.2.2.1.l.length<=65536)(h8:c.2.2.2.1.l.getD c.2.2.1.l.length 0=c.2.2.2.2.1.l.length):rj c=(List.range c.2.2.1.l.length).all (tG c.1 c.2.2.2.1.l c.2.2.2.2.1.l):=by
 unfold rj;rw [h1,h2,decide_eq_true h3,decide_eq_true h4,h5,decide_eq_true h6,decide_eq_true h7,decide_eq_true h8];rfl
theorem GN{c:Cx}(h:OkC c):fg c=some (rj c):=by
 obtain⟨r,k,a,s,t,v⟩:=c;obtain⟨o1,o2,o3,o4,vv,la,ls,lr,lv⟩:=h;simp only at o1 o2 o3 o4 vv la ls lr lv;rw [Dx];simp only [JW,zbS];by_cases z1:eo r=true
 rotate_left
 .rw [if_pos z1];exact rl λh=>z1 (sizeF_iff.2 (gr h).1)
 rw [if_neg (λh=>h z1)];by_cases z2:eo k=true
 rotate_left
 .rw [if_pos z2];exact rl λh=>z2 (sizeF_iff.2 (gr h).2.1)
 rw [if_neg (λh=>h z2),cY (n:=((a.l.length:Nat):Int)+1) (by omega) (by omega)];by_cases g1:s.l.length=a.l.length+1
 rotate_left
 .rw [if_pos (by omega)];exact rl λh=>g1 (gr h).2.2.1
 rw [if_neg (by omega)];have e0:=cg o2 (j:=0) (by omega);rw [<-kW]at e0;have e0':atS 1 s 0=some (s.l.getD 0 0):=e0;rw [e0'];simp only [zbS];by_cases g2:s.l.getD 0 0=0
 rotate_left
 .rw [if_pos g2];exact rl λh=>g2 (gr h).2.2.2.1
 rw [if_neg (λh=>h g2),vI _ _ o1 (by omega)];simp only [zbS];by_cases g3:jN (-1) k a.l=true
 rotate_left
 .rw [if_pos g3];exact rl λh=>g3 (gr h).2.2.2.2.1
 rw [if_neg (λh=>h g3)];by_cases g4:t.l.length=v.l.length
 rotate_left
 .rw [if_pos (by omega)];exact rl λh=>g4 (gr h).2.2.2.2.2.1
 rw [if_neg (by omega)];by_cases g5:t.l.length<=65536
 rotate_left
 .rw [if_pos (by omega)];exact rl λh=>g5 (gr h).2.2.2.2.2.2.1
 rw [if_neg (by omega)];have en:=cg o2 (j:=a.l.length) (by omega);rw [<-kW]at en;rw [en];simp only [zbS];by_cases g6:s.l.getD a.l.length 0=((t.l.length:Nat):Int)
 rotate_left
 .rw [if_pos g6];exact rl λh=>g6 (gr h).2.2.2.2.2.2.2.1
 rw [if_neg (λh=>h g6)];obtain⟨q,q1,q2⟩:=QB (r:=r) (k:=k) (v:=v) o2 o3 la g1 g2 g5;rw [q1,EB z1 z2 g1 g2 g3 g4 g5 g6];rcases q2 with⟨e,rfl⟩|⟨e,rfl⟩<;>simp only [e]<;>rfl
section
variable {c : Cx} {n k : Int} {T : List E3}
theorem IsC.ok(h:IsC c n k T):OkC c:=by
 have:=h.atLen
 have:=h.stLen
 have:=h.len
 refine⟨h.o3,h.o4,h.o5,h.o6,λy hy=> ?_,by omega,by omega,?_,?_⟩
 .rw [h.e6]at hy;obtain⟨x,hx,rfl⟩:=List.mem_map.1 hy;exact h.v x hx
 .rw [h.e5,List.length_map];omega
 .rw [h.e6,List.length_map];omega
theorem getD_some{l:List Int}{i:Nat}{x:Int}(h:l[i]? =some x):l.getD i 0=x:=by rw [List.getD_eq_getElem?_getD,h];rfl
theorem IsC.right(h:IsC c n k T):rj c=true:=by
 have hl:=h.last;have hlen:=h.len;rw [EB (sizeF_iff.2 (by rw [h.e1];exact h.hn)) (sizeF_iff.2 (by rw [h.e2];exact h.hk)) h.stLen (by rw [h.e4];rfl) ?_ (by rw [h.e5,h.e6,List.length_map,List.length_map]) (by rw [h.e5,List.length_map];exact hlen) (by rw [getD_some hl,h.e5,List.length_map])]
 .refine all_range.2 λi hi=>colOk_iff.2 ?_;obtain⟨jn,e1,h1,h2,h3,h4⟩:=h.at_ge (List.getElem?_eq_getElem hi);rw [getD_some h3,getD_some h4,h.e5,List.length_map];have h5:aH T jn<aH T (jn+1):=by simpa [neC]using h2
  have h6:=ml T (jn+1);refine⟨by omega,by omega,by omega,?_⟩;rw [oT];unfold gg;rw [Int.toNat_natCast,Int.toNat_natCast,(nJ h.r jn).2,<-rh,ascI_iff'];refine⟨XN h.r _,λx hx=> ?_⟩;obtain⟨y,hy,rfl⟩:=List.mem_map.1 hx
  have:=(h.p y (mU hy).1).2
  rw [h.e1];omega
 .rw [h.e2,ascI_iff'];refine⟨h.asc,λx hx=> ?_⟩;rw [h.e3]at hx;obtain⟨j,rfl,h1,_⟩:=cols_mem.1 hx;omega
theorem DB(h:IsC c n k T):fg c=some true:=by rw [GN h.ok,h.right]
end
end
section
open Go Sm
theorem Uo{s:Sl Int}{a b:Nat}(hs:okS 1 s)(hab:a<=b)(hb:b<=s.l.length):∃t:Sl Int,lA 1 s (a:Int) (b:Int)=some t/\t.l=(s.l.drop a).take (b - a)/\okS 1 t:=by
 have hz:s.sz=1∨(a:Int)=0:=by
  rcases hs with h|h
  .rw [h]at hb;simp at hb;right;omega
  .exact .inl h
 refine⟨⟨s.nn,s.sz,(s.l.drop a).take (b - a)⟩,?_,rfl,?_⟩
 .unfold lA;rw [if_pos ⟨by omega,by omega,by omega,hz⟩];simp
 .rcases hs with h|h
  .left;simp [h]
  .exact .inr h
def XP(n k:Int)(T:List E3):Cx:=(n,k,mo 1 (iZ T k.toNat),⟨true,1,lP T k.toNat⟩,⟨true,1,T.map (·.2.1)⟩,⟨true,1,T.map (·.2.2)⟩)
section
variable {m : Mx} {n k : Int} {l T : List E3} {c : Cx}
theorem XQ(hn:0<=n/\n<=4096)(hk:0<=k/\k<=4096)(hl:T.length<=65536)(h:dF T)(hp:∀x∈T,(0<=x.1/\x.1<k)/\0<=x.2.1/\x.2.1<n)(hv:∀x∈T,cC x.2.2):IsC (XP n k T) n k T:=
 ⟨hn,hk,hl,h,hp,hv,rfl,rfl,iU _ _,rfl,rfl,rfl,mS _,.inr rfl,.inr rfl,.inr rfl⟩
theorem Uq(l:List E3)(i:Nat):aH (l.map bM) i=aH (eD l) i:=by
 unfold aH;rw [(oY l).countP_eq]
theorem IsC.at_ro(h:IsC c n k T){i:Nat}(hi:i<T.length):atS 1 c.2.2.2.2.1 (i:Int)=some T[i].2.1:=fE h.o5 (by rw [h.e5,List.getElem?_map,List.getElem?_eq_getElem hi];rfl)
theorem IsC.at_va(h:IsC c n k T){i:Nat}(hi:i<T.length):atS 1 c.2.2.2.2.2 (i:Int)=some T[i].2.2:=fE h.o6 (by rw [h.e6,List.getElem?_map,List.getElem?_eq_getElem hi];rfl)
end
end
section
open Go Sm
section
variable {m : Mx} {n c : Int} {l : List E3}
end
end
section
open Go Sm
section
variable {m m' : Mx} {n c : Int} {l : List E3}
end
end
section
open Go Sm
section
variable {m : Mx} {n k : Int} {l T : List E3} {c : Cx}
end
end
section
open Go Sm
section
variable {m a : Mx} {n k : Int} {l T : List E3} {c q : Cx}
end
end
end KM
end Ev
end
end Go.Proofs.YtjjbpdldbdmoeaaGreatDoor
