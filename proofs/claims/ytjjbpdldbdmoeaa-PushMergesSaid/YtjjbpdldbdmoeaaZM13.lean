/- Texts of a claim, joined. -/
import Derived.Test.YtjjbpdldbdmoeaaZM12
set_option linter.unusedVariables false
set_option linter.unusedSimpArgs false
namespace Go.Proofs.Ytjjbpdldbdmoeaa
noncomputable section
namespace Ev
open Go
abbrev WdM:=Int×Int
abbrev S3M:=Int×WdM
theorem Io:FL=some true:=rfl
theorem Br(s:Sl S3M)(hok:okS 3 s)(hl:s.l.length<=9223372036854775807):aS s s=some true:=by
 unfold aS;rw [if_neg (by simp)]
 obtain⟨q,q1,q2⟩:=gm (b:=bA s s) s.l.length (λj a=>a=(j:Int)) (λq=>q= .inl ())
  (by
   rintro j _ hj rfl;simp only [bA,fR hok hj,zbS,ig hj (by omega)];rw [if_pos (by omega)]
   exact .inl ⟨_,if_pos ⟨trivial,trivial,trivial⟩,rfl⟩)
  (by
   rintro _ rfl
   exact⟨_,if_neg (by omega),rfl⟩) 0 (Nat.zero_le _) 0 rfl
 rw [q1,q2];rfl
def joM(A:WdM->WdM->WdM):Option WdM->Option WdM->Option WdM
 |none,b=>b
 |some a,none=>some a
 |some a,some b=>some (A a b)
def ci(p:Int):List S3M->Option WdM
 | []=>none
 |x::l=>if x.1=p then some x.2 else ci p l
def eO(l:List S3M):Prop:=l.Pairwise λa b=>a.1<b.1
theorem eh{p:Int}:∀{l:List S3M},(∀x∈l,x.1≠p)->ci p l=none
 | [],_=>rfl
 |x::l,h=>by
  unfold ci;rw [if_neg (h x List.mem_cons_self),eh λy hy=>h y (List.mem_cons_of_mem _ hy)]
theorem qg{p:Int}{w:WdM}:∀{l:List S3M},ci p l=some w->(p,w)∈l
 |x::l,h=>by
  unfold ci at h;by_cases e:x.1=p
  .rw [if_pos e]at h;obtain⟨x1,x2⟩:=x;simp only at e h;subst e;rw [Option.some.inj h];exact List.mem_cons_self
  .rw [if_neg e]at h;exact List.mem_cons_of_mem _ (qg h)
theorem qh{p:Int}{w:WdM}:∀{l:List S3M},eO l->(p,w)∈l->ci p l=some w
 |x::l,h,hm=>by
  have h2:=List.pairwise_cons.1 h;unfold ci;rcases List.mem_cons.1 hm with e|hm
  .rw [<-e,if_pos rfl]
  .have:=h2.1 _ hm
   rw [if_neg (by simp only at this;omega),qh h2.2 hm]
theorem Ai:∀{a b:List S3M},eO a->eO b->(∀p,ci p a=ci p b)->a=b
 | [],[],_,_,_=>rfl
 | [],y::b,_,_,h=>by
  have:=h y.1
  unfold ci at this;rw [if_pos rfl]at this;cases this
 |x::a,[],_,_,h=>by
  have:=h x.1
  unfold ci at this;rw [if_pos rfl]at this;cases this
 |x::a,y::b,ha,hb,h=>by
  have ha2:=List.pairwise_cons.1 ha;have hb2:=List.pairwise_cons.1 hb;have m1:(x.1,x.2)∈y::b:=qg (by rw [<-h];exact qh ha List.mem_cons_self);have m2:(y.1,y.2)∈x::a:=qg (by rw [h];exact qh hb List.mem_cons_self)
  have e:x=y:=by
   rcases List.mem_cons.1 m1 with e|e
   .exact e
   .rcases List.mem_cons.1 m2 with e'|e'
    .exact e'.symm
    .have:=hb2.1 _ e;have:=ha2.1 _ e';simp only at*;omega
  subst e;rw [Ai ha2.2 hb2.2 λp=> ?_];have hp:=h p;unfold ci at hp;by_cases e:x.1=p
  .rw [eh λz hz=>by have:=ha2.1 z hz;omega,eh λz hz=>by have:=hb2.1 z hz;omega]
  .rw [if_neg e,if_neg e]at hp;exact hp
def cj(A:WdM->WdM->WdM):Nat->List S3M->List S3M->List S3M
 |0,_,_=> []
 |_+1,[],[]=> []
 |n+1,x::a,[]=>x::cj A n a []
 |n+1,[],y::b=>y::cj A n [] b
 |n+1,x::a,y::b=>if x.1<y.1 then x::cj A n a (y::b)else if y.1<x.1 then y::cj A n (x::a) b else(x.1,A x.2 y.2)::cj A n a b
theorem fJ(A:WdM->WdM->WdM):∀(n:Nat) (a b:List S3M),a.length+b.length<=n->eO a->eO b->eO (cj A n a b)/\(∀p,ci p (cj A n a b)=joM A (ci p a) (ci p b))/\∀q,(∀x∈a,q<x.1)->(∀x∈b,q<x.1)->∀x∈cj A n a b,q<x.1
 |0,a,b,h,_,_=>by
  have ha:a= []:=List.eq_nil_of_length_eq_zero (by omega);have hb:b= []:=List.eq_nil_of_length_eq_zero (by omega);subst ha hb;exact⟨.nil,λp=>rfl,λq _ _ x hx=>by cases hx⟩
 |n+1,[],[],_,_,_=>⟨.nil,λp=>rfl,λq _ _ x hx=>by cases hx⟩
 |n+1,x::a,[],h,ha,hb=>by
  have ha2:=List.pairwise_cons.1 ha;obtain⟨s1,s2,s3⟩:=fJ A n a [] (by simp at h ⊢;omega) ha2.2 hb;refine⟨List.pairwise_cons.2 ⟨s3 x.1 ha2.1 (λz hz=>by cases hz),s1⟩,λp=> ?_,λq g1 g2 z hz=> ?_⟩
  .show(if x.1=p then some x.2 else ci p (cj A n a []))=joM A (if x.1=p then some x.2 else ci p a) none;by_cases e:x.1=p
   .rw [if_pos e,if_pos e];rfl
   .rw [if_neg e,if_neg e,s2];rfl
  .rcases List.mem_cons.1 hz with e|hz
   .rw [e];exact g1 x List.mem_cons_self
   .exact s3 q (λw hw=>g1 w (List.mem_cons_of_mem _ hw)) (λw hw=>by cases hw) z hz
 |n+1,[],y::b,h,ha,hb=>by
  have hb2:=List.pairwise_cons.1 hb;obtain⟨s1,s2,s3⟩:=fJ A n [] b (by simp at h ⊢;omega) ha hb2.2;refine⟨List.pairwise_cons.2 ⟨s3 y.1 (λz hz=>by cases hz) hb2.1,s1⟩,λp=> ?_,λq g1 g2 z hz=> ?_⟩
  .show(if y.1=p then some y.2 else ci p (cj A n [] b))=joM A none (if y.1=p then some y.2 else ci p b);by_cases e:y.1=p
   .rw [if_pos e,if_pos e];rfl
   .rw [if_neg e,if_neg e,s2];rfl
  .rcases List.mem_cons.1 hz with e|hz
   .rw [e];exact g2 y List.mem_cons_self
   .exact s3 q (λw hw=>by cases hw) (λw hw=>g2 w (List.mem_cons_of_mem _ hw)) z hz
 |n+1,x::a,y::b,h,ha,hb=>by
  have ha2:=List.pairwise_cons.1 ha;have hb2:=List.pairwise_cons.1 hb;simp only [List.length_cons]at h;unfold cj
  have gx:∀p,ci p (x::a)=if x.1=p then some x.2 else ci p a:=λp=>rfl
  have gy:∀p,ci p (y::b)=if y.1=p then some y.2 else ci p b:=λp=>rfl
  have nx:∀p,p<=x.1->ci p a=none:=λp hp=>eh λz hz=>by have:=ha2.1 z hz;omega
  have ny:∀p,p<=y.1->ci p b=none:=λp hp=>eh λz hz=>by have:=hb2.1 z hz;omega
  by_cases c1:x.1<y.1
  .rw [if_pos c1];obtain⟨s1,s2,s3⟩:=fJ A n a (y::b) (by simp;omega) ha2.2 hb
   have lb:∀z∈y::b,x.1<z.1:=λz hz=>by
    rcases List.mem_cons.1 hz with e|hz
    .rw [e];exact c1
    .have:=hb2.1 z hz;omega
   refine⟨List.pairwise_cons.2 ⟨s3 x.1 ha2.1 lb,s1⟩,λp=> ?_,λq g1 g2 z hz=> ?_⟩
   .show(if x.1=p then some x.2 else ci p (cj A n a (y::b)))=_;rw [gx];by_cases e:x.1=p
    .rw [if_pos e,if_pos e,gy,if_neg (by omega),ny p (by omega)];rfl
    .rw [if_neg e,if_neg e,s2]
   .rcases List.mem_cons.1 hz with e|hz
    .rw [e];exact g1 x List.mem_cons_self
    .exact s3 q (λw hw=>g1 w (List.mem_cons_of_mem _ hw)) g2 z hz
  .rw [if_neg c1];by_cases c2:y.1<x.1
   .rw [if_pos c2];obtain⟨s1,s2,s3⟩:=fJ A n (x::a) b (by simp;omega) ha hb2.2
    have la:∀z∈x::a,y.1<z.1:=λz hz=>by
     rcases List.mem_cons.1 hz with e|hz
     .rw [e];exact c2
     .have:=ha2.1 z hz;omega
    refine⟨List.pairwise_cons.2 ⟨s3 y.1 la hb2.1,s1⟩,λp=> ?_,λq g1 g2 z hz=> ?_⟩
    .show(if y.1=p then some y.2 else ci p (cj A n (x::a) b))=_;rw [gy];by_cases e:y.1=p
     .rw [if_pos e,if_pos e,gx,if_neg (by omega),nx p (by omega)];rfl
     .rw [if_neg e,if_neg e,s2]
    .rcases List.mem_cons.1 hz with e|hz
     .rw [e];exact g2 y List.mem_cons_self
     .exact s3 q g1 (λw hw=>g2 w (List.mem_cons_of_mem _ hw)) z hz
   .rw [if_neg c2];have he:x.1=y.1:=by omega
    obtain⟨s1,s2,s3⟩:=fJ A n a b (by omega) ha2.2 hb2.2;refine⟨List.pairwise_cons.2 ⟨s3 x.1 ha2.1 (λz hz=>by have:=hb2.1 z hz;omega),s1⟩,λp=> ?_,λq g1 g2 z hz=> ?_⟩
    .show(if x.1=p then some (A x.2 y.2)else ci p (cj A n a b))=_;rw [gx,gy];by_cases e:x.1=p
     .rw [if_pos e,if_pos e,if_pos (by omega)];rfl
     .rw [if_neg e,if_neg e,if_neg (by omega),s2]
    .rcases List.mem_cons.1 hz with e|hz
     .rw [e];exact g1 x List.mem_cons_self
     .exact s3 q (λw hw=>g1 w (List.mem_cons_of_mem _ hw)) (λw hw=>g2 w (List.mem_cons_of_mem _ hw)) z hz
theorem lV(p:Int):∀(L M:List S3M),ci p (L++M)=match ci p L with|some w=>some w|none=>ci p M
 | [],M=>rfl
 |x::L,M=>by
  show(if x.1=p then some x.2 else ci p (L++M))=match(if x.1=p then some x.2 else ci p L)with|some w=>some w|none=>ci p M
  by_cases e:x.1=p
  .rw [if_pos e,if_pos e]
  .rw [if_neg e,if_neg e,lV p L M]
theorem wL{α:Type}{P:List α->Prop}(h0:P [])(h1:∀d x,P d->P (d++ [x]))(l:List α):P l:=by
 have key:∀r:List α,P r.reverse:=λr=>by
  induction r with
  |nil=>exact h0
  |cons x r ih=>rw [List.reverse_cons];exact h1 _ _ ih
 have:=key l.reverse
 rwa [List.reverse_reverse]at this
def iV(A:WdM->WdM->WdM)(p:Int)(acc:Option WdM)(e:Hp.Evt):Option WdM:=if e.2.1=p then joM A acc (some e.2.2)else acc
def iW(A:WdM->WdM->WdM)(p:Int)(S:List Hp.Evt):Option WdM:=S.foldl (iV A p) none
theorem Bs{A:WdM->WdM->WdM}{L:List S3M}{s:S3M}(h:∀x∈L,x.1<s.1):Hp.putL A L s=L++ [s]:=by
 unfold Hp.putL;rw [if_neg];rintro⟨h1,h2⟩
 have hl:L.length - 1<L.length:=by
  have:=List.length_pos_iff.2 h1;omega
 rw [Hp.at_lt hl]at h2
 have:=h _ (List.getElem_mem hl)
 omega
theorem yu{A:WdM->WdM->WdM}{L:List S3M}{p:Int}{a b:WdM}:Hp.putL A (L++ [(p,a)]) (p,b)=L++ [(p,A a b)]:=by
 unfold Hp.putL;have hl:(L++ [(p,a)]).length - 1=L.length:=by simp
 have hat:Hp.at_ (L++ [(p,a)]) L.length=(p,a):=by rw [Hp.at_lt (by simp)];simp
 rw [hl,hat,if_pos ⟨by simp,rfl⟩];simp
theorem wM(A:WdM->WdM->WdM)(S:List Hp.Evt):S.Pairwise (λa b=>a.2.1<=b.2.1)->eO (Hp.outOf A S)/\(∀x∈Hp.outOf A S,∃e∈S,e.2.1=x.1)/\∀p,ci p (Hp.outOf A S)=iW A p S:=by
 refine wL (P:=λS=>S.Pairwise (λa b=>a.2.1<=b.2.1)->eO (Hp.outOf A S)/\(∀x∈Hp.outOf A S,∃e∈S,e.2.1=x.1)/\∀p,ci p (Hp.outOf A S)=iW A p S) ?_ ?_ S
 .exact λ_=>⟨.nil,λx hx=>(by cases hx),λp=>rfl⟩
 .intro d x ih hS;have hp:=List.pairwise_append.1 hS;obtain⟨s1,s2,s3⟩:=ih hp.1;have hle:∀e∈d,e.2.1<=x.2.1:=λe he=>hp.2.2 e he x (by simp);rw [Hp.outOf_snoc];have hf:∀p,iW A p (d++ [x])=iV A p (iW A p d) x:=λp=>by unfold iW;rw [List.foldl_append];rfl
  generalize Hp.outOf A d=L at s1 s2 s3
  have hL:∀y∈L,y.1<=x.2.1:=λy hy=>by
   obtain⟨e,he,h1⟩:=s2 y hy
   have:=hle e he;omega
  obtain⟨x1,q,v⟩:=x;simp only at hL hle
  have new:(∀y∈L,y.1<q)->eO (Hp.putL A L (q,v))/\(∀y∈Hp.putL A L (q,v),∃e∈d++ [(x1,q,v)],e.2.1=y.1)/\∀p,ci p (Hp.putL A L (q,v))=iW A p (d++ [(x1,q,v)]):=λhlt=>by
   rw [Bs (s:=(q,v)) hlt];refine⟨List.pairwise_append.2 ⟨s1,by simp,λa ha b hb=> ?_⟩,λy hy=> ?_,λp=> ?_⟩
   .rw [List.mem_singleton.1 hb];exact hlt a ha
   .rcases List.mem_append.1 hy with hy|hy
    .obtain⟨e,he,h1⟩:=s2 y hy;exact⟨e,List.mem_append_left _ he,h1⟩
    .rw [List.mem_singleton.1 hy];exact⟨(x1,q,v),by simp,rfl⟩
   .rw [hf,lV,<-s3]
    show _=if q=p then joM A (ci p L) (some v)else ci p L
    by_cases e:q=p
    .rw [if_pos e,eh λy hy=>by have:=hlt y hy;omega];show(if q=p then some v else none)=some v;rw [if_pos e]
    .rw [if_neg e]
     have:ci p [((q,v):S3M)]=none:=by show(if q=p then some v else none)=none;rw [if_neg e]
     rw [this];cases ci p L<;>rfl
  rcases List.eq_nil_or_concat L with hn|⟨L',z,hz⟩
  rotate_left
  rw [List.concat_eq_append]at hz
  rotate_left
  .exact new (by rw [hn];intro y hy;cases hy)
  .by_cases hq:z.1=q
   .obtain⟨z1,z2⟩:=z;simp only at hq;subst hq;subst hz;show eO (Hp.putL A (L'++ [(z1,z2)]) (z1,v))/\(∀y∈Hp.putL A (L'++ [(z1,z2)]) (z1,v),∃e∈d++ [(x1,z1,v)],e.2.1=y.1)/\∀p,ci p (Hp.putL A (L'++ [(z1,z2)]) (z1,v))=iW A p (d++ [(x1,z1,v)]);rw [yu];have hs:=List.pairwise_append.1 s1;refine⟨List.pairwise_append.2 ⟨hs.1,by simp,λa ha b hb=> ?_⟩,λy hy=> ?_,λp=> ?_⟩
    .rw [List.mem_singleton.1 hb];exact hs.2.2 a ha (z1,z2) (by simp)
    .rcases List.mem_append.1 hy with hy|hy
     .obtain⟨e,he,h1⟩:=s2 y (List.mem_append_left _ hy);exact⟨e,List.mem_append_left _ he,h1⟩
     .rw [List.mem_singleton.1 hy];exact⟨(x1,z1,v),by simp,rfl⟩
    .rw [hf,<-s3]
     show _=if z1=p then joM A (ci p (L'++ [(z1,z2)])) (some v)else ci p (L'++ [(z1,z2)])
     rw [lV,lV];by_cases e:z1=p
     .rw [if_pos e,eh (p:=p) (l:=L') λy hy=>by have:=hs.2.2 y hy (z1,z2) (by simp);simp only at this;omega];show(if z1=p then some (A z2 v)else none)=joM A (if z1=p then some z2 else none) (some v);rw [if_pos e,if_pos e];rfl
     .rw [if_neg e];have g:∀w:WdM,ci p [((z1,w):S3M)]=none:=λw=>by show(if z1=p then some w else none)=none;rw [if_neg e]
      rw [g,g]
   .refine new λy hy=> ?_;have h1:=hL y hy;have h2:=hL z (by rw [hz];simp);rw [hz]at hy s1;rcases List.mem_append.1 hy with hy|hy
    .have:=(List.pairwise_append.1 s1).2.2 y hy z (by simp);omega
    .rw [List.mem_singleton.1 hy];omega
theorem oY(A:WdM->WdM->WdM)(p:Int):∀(S:List Hp.Evt) (acc:Option WdM),S.foldl (iV A p) acc=(S.filter λe=>decide (e.2.1=p)).foldl (iV A p) acc
 | [],_=>rfl
 |e::S,acc=>by
  by_cases h:e.2.1=p
  .rw [List.filter_cons_of_pos (by simpa using h)];exact oY A p S _
  .rw [List.filter_cons_of_neg (by simpa using h)]
   have:iV A p acc e=acc:=by unfold iV;rw [if_neg h]
   show S.foldl (iV A p) (iV A p acc e)=_;rw [this];exact oY A p S _
theorem Aj:∀{ls:List (List S3M)} {i:Nat} {e:Hp.Evt},e∈Sm.Mg.idx i ls->(i:Int)<=e.1
 |l::ls,i,e,h=>by
  rcases List.mem_append.1 h with h|h
  .obtain⟨s,_,rfl⟩:=List.mem_map.1 h;exact Int.le_refl _
  .have:=Aj (ls:=ls) (i:=i+1) h;omega
theorem qi:∀{ls:List (List S3M)} {i:Nat},(∀l∈ls,eO l)->(Sm.Mg.idx i ls).Pairwise λa b=>a.2.1=b.2.1->a.1<b.1
 | [],i,_=> .nil
 |l::ls,i,h=>by
  refine List.pairwise_append.2 ⟨List.pairwise_map.2 ((h l List.mem_cons_self).imp λ{a b} hab he=>by simp only at he;omega),qi λm hm=>h m (List.mem_cons_of_mem _ hm),λa ha b hb _=> ?_⟩;obtain⟨s,_,rfl⟩:=List.mem_map.1 ha
  have:=Aj (i:=i+1) hb
  simp only;omega
theorem Ip(A:WdM->WdM->WdM)(p:Int){ls:List (List S3M)}(h:∀l∈ls,eO l):iW A p (Hp.sortE (Sm.Mg.idx 0 ls))=iW A p (Sm.Mg.idx 0 ls):=by
 unfold iW;rw [oY,oY A p (Sm.Mg.idx 0 ls)];congr 1;refine Hp.uniq (R:=λa b=>Hp.le (Hp.kl a) (Hp.kl b)) _ _ ((Hp.sortE_perm _).filter _) (List.Pairwise.sublist List.filter_sublist (Hp.sortE_sorted _)) ?_ λa ha b hb h1 h2=> ?_
 .refine List.Pairwise.imp_of_mem (λ{a b} ha hb hab=> ?_) (List.Pairwise.sublist List.filter_sublist (qi (i:=0) h));have e1:=of_decide_eq_true (List.mem_filter.1 ha).2;have e2:=of_decide_eq_true (List.mem_filter.1 hb).2
  have:=hab (by omega)
  rw [Hp.le_iff];unfold Hp.kl;simp only;omega
 .have e1:=of_decide_eq_true (List.mem_filter.1 ha).2;have e2:=of_decide_eq_true (List.mem_filter.1 hb).2;have m1:=(Hp.sortE_perm _).mem_iff.1 (List.mem_filter.1 ha).1;have m2:=(Hp.sortE_perm _).mem_iff.1 (List.mem_filter.1 hb).1;rw [Hp.le_iff]at h1 h2;unfold Hp.kl at h1 h2;simp only at h1 h2;obtain⟨i,hi,rfl⟩:=List.mem_iff_getElem.1 m1;obtain⟨j,hj,rfl⟩:=List.mem_iff_getElem.1 m2;have hpw:=List.pairwise_iff_getElem.1 (qi (i:=0) h);rcases Nat.lt_trichotomy i j with c|c|c
  .have:=hpw i j hi hj c (by omega);omega
  .subst c;rfl
  .have:=hpw j i hj hi c (by omega);omega
theorem wN:∀(ls:List (List S3M)) (i:Nat) (b:List S3M),Sm.Mg.idx i (ls++ [b])=Sm.Mg.idx i ls++b.map λs=>(((i+ls.length:Nat):Int),s)
 | [],i,b=>by
  show b.map _++ []= []++b.map _;rw [List.append_nil,List.nil_append];rfl
 |l::ls,i,b=>by
  show l.map _++Sm.Mg.idx (i+1) (ls++ [b])=(l.map _++Sm.Mg.idx (i+1) ls)++_;rw [wN ls (i+1) b,List.append_assoc];congr 3;funext s;simp only [List.length_cons];congr 2;omega
theorem NM(A:WdM->WdM->WdM)(p k:Int):∀{b:List S3M} {acc:Option WdM},eO b->(b.map λs=>((k,s):Hp.Evt)).foldl (iV A p) acc=joM A acc (ci p b)
 | [],acc,_=>by cases acc<;>rfl
 |x::b,acc,h=>by
  have h2:=List.pairwise_cons.1 h;show(b.map _).foldl (iV A p) (iV A p acc (k,x))=_;rw [NM A p k h2.2];show joM A (if x.1=p then joM A acc (some x.2)else acc) (ci p b)=joM A acc (if x.1=p then some x.2 else ci p b);by_cases e:x.1=p
  .rw [if_pos e,if_pos e,eh λy hy=>by have:=h2.1 y hy;omega];cases acc<;>rfl
  .rw [if_neg e,if_neg e]
theorem Bt(r:Int){ls:List (List S3M)}{b:List S3M}(h:∀l∈ls,eO l)(hb:eO b){n:Nat}(hn:(Sm.Mg.outM r ls).length+b.length<=n):Sm.Mg.outM r (ls++ [b])=cj (KM.bG r) n (Sm.Mg.outM r ls) b/\eO (Sm.Mg.outM r ls):=by
 have srt:∀ls:List (List S3M),(Hp.sortE (Sm.Mg.idx 0 ls)).Pairwise λa b=>a.2.1<=b.2.1:=λls=>(Hp.sortE_sorted _).imp λ{a b} hab=>by
  rw [Hp.le_iff]at hab;unfold Hp.kl at hab;simp only at hab;omega
 have h':∀l∈ls++ [b],eO l:=λl hl=>by
  rcases List.mem_append.1 hl with hl|hl
  .exact h l hl
  .rw [List.mem_singleton.1 hl];exact hb
 obtain⟨s1,_,s3⟩:=wM (KM.bG r) _ (srt ls);obtain⟨t1,_,t3⟩:=wM (KM.bG r) _ (srt (ls++ [b]));obtain⟨u1,u2,_⟩:=fJ (KM.bG r) n (Sm.Mg.outM r ls) b hn s1 hb;refine⟨Ai t1 u1 λp=> ?_,s1⟩;rw [u2];show ci p (Hp.outOf (KM.bG r) (Hp.sortE (Sm.Mg.idx 0 (ls++ [b]))))=joM _ (ci p (Hp.outOf (KM.bG r) (Hp.sortE (Sm.Mg.idx 0 ls)))) _;rw [t3,s3,Ip _ p h',Ip _ p h,wN];unfold iW;rw [List.foldl_append,NM _ p _ hb]
theorem wO(r:Int)(ls:List (List S3M)):(Sm.Mg.outM r ls).length<=Sm.Mg.totL ls:=by
 have h1:∀(A:WdM->WdM->WdM) (S:List Hp.Evt),(Hp.outOf A S).length<=S.length:=λA S=>by
  refine wL (P:=λS=>(Hp.outOf A S).length<=S.length) (Nat.le_refl _) (λd x ih=> ?_) S;rw [Hp.outOf_snoc]
  have:=(Hp.putL_len A (Hp.outOf A d) x.2).1
  rw [List.length_append,List.length_singleton];omega
 have h2:∀(ls:List (List S3M)) (i:Nat),(Sm.Mg.idx i ls).length=Sm.Mg.totL ls:=λls=>by
  induction ls with
  |nil=>intro i;rfl
  |cons l ls ih=>
   intro i;show(l.map _++Sm.Mg.idx (i+1) ls).length=_;rw [List.length_append,ih,List.length_map];unfold Sm.Mg.totL;simp
 have:=h1 (KM.bG r) (Hp.sortE (Sm.Mg.idx 0 ls))
 rw [(Hp.sortE_perm _).length_eq,h2]at this;exact this
theorem GG(r:Int){s t:Sl S3M}(hs:okS 3 s)(ht:okS 3 t)(hl:s.l.length+t.l.length<=100000):cR r s t=some (cj (KM.bG r) (s.l.length+t.l.length) s.l t.l):=by
 have eadd:∀a b,bL r a b=some (KM.bG r a b):=λa b=>KM.wE r a b;obtain⟨N,hN⟩:∃N,N=s.l.length+t.l.length:=⟨_,rfl⟩;rw [<-hN];obtain⟨W,hW⟩:∃W,W=cj (KM.bG r) N s.l t.l:=⟨_,rfl⟩;rw [<-hW]
 have hfuel:∀(n:Nat) (a b:List S3M),(cj (KM.bG r) n a b).length<=n:=λn=>by
  induction n with
  |zero=>intro a b;exact Nat.le_refl _
  |succ n ih=>
   intro a b
   cases a with
   |nil=>cases b with
    |nil=>exact Nat.zero_le _
    |cons y b=>show(cj _ n [] b).length+1<=_;have:=ih [] b;omega
   |cons x a=>cases b with
    |nil=>show(cj _ n a []).length+1<=_;have:=ih a [];omega
    |cons y b=>
     unfold cj;split
     .show(cj _ n a (y::b)).length+1<=_;have:=ih a (y::b);omega
     .split
      .show(cj _ n (x::a) b).length+1<=_;have:=ih (x::a) b;omega
      .show(cj _ n a b).length+1<=_;have:=ih a b;omega
 have hWl:W.length<=N:=by rw [hW];exact hfuel _ _ _
 obtain⟨q,q1,q2⟩:=gm (b:=bq r s t) W.length (λj st=>∃(out:List S3M) (i k:Nat),st=(out,(i:Int),(k:Int))/\out.length=j/\i<=s.l.length/\k<=t.l.length/\j<=i+k/\out++cj (KM.bG r) (N - j) (s.l.drop i) (t.l.drop k)=W) (λq=>q= .inl W)
  (by
   rintro j _ hj ⟨out,i,k,rfl,h1,h2,h3,h4,h5⟩;have hb:∀z:S3M,app out [z]=some (out++ [z]):=λz=>Fl (by simp;unfold cQ;omega);by_cases hi:i<s.l.length
   .have ei:=fR hs hi;have di:=List.drop_eq_getElem_cons hi;obtain⟨f,hf⟩:∃f,N - j=f+1:=⟨N - j - 1,by omega⟩;have hf2:N - (j+1)=f:=by omega
    have wi:=ig hi (show s.l.length<=9223372036854775807 by omega);rw [di,hf]at h5;generalize hx:s.l[i]=x at ei h5;obtain⟨x1,x2,x3⟩:=x;by_cases hk:k<t.l.length
    .have ek:=fR ht hk;have dk:=List.drop_eq_getElem_cons hk;have wk:=ig hk (show t.l.length<=9223372036854775807 by omega);rw [dk]at h5;generalize hy:t.l[k]=y at ek h5;obtain⟨y1,y2,y3⟩:=y;simp only [bq,ei,ek,hb,eadd,zbS,wi,wk];rw [if_pos (by omega),if_neg (by omega)];unfold cj at h5;simp only at h5;by_cases c1:x1<y1
     .rw [if_pos c1];rw [if_pos c1,List.append_cons]at h5;exact .inl ⟨_,rfl,_,i+1,k,rfl,by simp [h1],by omega,h3,by omega,by rw [hf2,dk,hy];exact h5⟩
     .rw [if_neg c1,if_neg (by omega)];rw [if_neg c1]at h5;by_cases c2:y1<x1
      .rw [if_pos c2];rw [if_pos c2,List.append_cons]at h5;refine .inl ⟨_,rfl,_,i,k+1,rfl,by simp [h1],h2,by omega,by omega,?_⟩;rw [hf2,di,hx];exact h5
      .rw [if_neg c2];rw [if_neg c2,List.append_cons]at h5;exact .inl ⟨_,rfl,_,i+1,k+1,rfl,by simp [h1],by omega,by omega,by omega,by rw [hf2];exact h5⟩
    .have hk2:t.l.drop k= []:=List.drop_eq_nil_of_le (by omega);rw [hk2]at h5;simp only [bq,ei,hb,zbS,wi];rw [if_pos (by omega),if_pos (by omega)];unfold cj at h5;rw [List.append_cons]at h5;exact .inl ⟨_,rfl,_,i+1,k,rfl,by simp [h1],by omega,h3,by omega,by rw [hf2,hk2];exact h5⟩
   .have hi2:s.l.drop i= []:=List.drop_eq_nil_of_le (by omega);rw [hi2]at h5;by_cases hk:k<t.l.length
    .have ek:=fR ht hk;have dk:=List.drop_eq_getElem_cons hk;obtain⟨f,hf⟩:∃f,N - j=f+1:=⟨N - j - 1,by omega⟩;have hf2:N - (j+1)=f:=by omega
     have wk:=ig hk (show t.l.length<=9223372036854775807 by omega);rw [dk,hf]at h5;generalize t.l[k]=y at ek h5;obtain⟨y1,y2,y3⟩:=y;simp only [bq,ek,hb,zbS,wk];rw [if_neg (by omega),if_pos (by omega),if_neg (by omega),if_pos (by omega)];unfold cj at h5;rw [List.append_cons]at h5;exact .inl ⟨_,rfl,_,i,k+1,rfl,by simp [h1],h2,by omega,by omega,by rw [hf2,hi2];exact h5⟩
    .have hk2:t.l.drop k= []:=List.drop_eq_nil_of_le (by omega);rw [hk2]at h5
     have:cj (KM.bG r) (N - j) [] []= []:=by cases N - j<;>rfl
     rw [this,List.append_nil]at h5
     rw [h5]at h1;omega)
  (by
   rintro _ ⟨out,i,k,rfl,h1,h2,h3,h4,h5⟩
   have hrest:cj (KM.bG r) (N - W.length) (s.l.drop i) (t.l.drop k)= []:=by
    have:=congrArg List.length h5
    rw [List.length_append,h1]at this;exact List.eq_nil_of_length_eq_zero (by omega)
   rw [hrest,List.append_nil]at h5
   have hi:¬i<s.l.length:=λhi=>by
    rw [List.drop_eq_getElem_cons hi]at hrest;obtain⟨f,hf⟩:∃f,N - W.length=f+1:=⟨N - W.length - 1,by omega⟩;rw [hf]at hrest
    cases hd:t.l.drop k with
    |nil=>rw [hd]at hrest;simp [cj]at hrest
    |cons y b=>rw [hd]at hrest;unfold cj at hrest;split at hrest;cases hrest;split at hrest<;>cases hrest
   have hk:¬k<t.l.length:=λhk=>by
    rw [List.drop_eq_nil_of_le (show s.l.length<=i by omega),List.drop_eq_getElem_cons hk]at hrest;obtain⟨f,hf⟩:∃f,N - W.length=f+1:=⟨N - W.length - 1,by omega⟩;rw [hf]at hrest;simp [cj]at hrest
   refine⟨.inl out,?_,by rw [h5]⟩;simp only [bq]
   rw [if_neg (by omega),if_neg (by omega)]) 0 (Nat.zero_le _) ([],0,0) ⟨[],0,0,rfl,rfl,Nat.zero_le _,Nat.zero_le _,Nat.le_refl _,by rw [hW];rfl⟩
 unfold cR;rw [q1,q2];rfl
theorem ris_adj{l:List S3M}:eO l↔∀j (h:j+1<l.length),l[j].1<l[j+1].1:=by
 constructor
 .intro h j hj;exact List.pairwise_iff_getElem.1 h j (j+1) (by omega) hj (by omega)
 .intro h;refine List.pairwise_iff_getElem.2 λi j hi hj hij=> ?_
  induction j with
  |zero=>omega
  |succ j ih=>
   have h1:=h j hj;by_cases e:i=j
   .subst e;exact h1
   .have:=ih (by omega) (by omega);omega
abbrev RMi:=Unit ⊕(Int ⊕(Unit ⊕(Sl S3M×Int)))
theorem yw{M:List (Sl S3M)}{i:Nat}(hi:i<M.length)(hs:okS 3 M[i])(hl:M[i].l.length<=100000):∃q:RMi,cD (aF (mo 1 M) (i:Int)) 1=some q/\((eO M[i].l/\q= .inl ())∨(¬eO M[i].l/\q= .inr (.inr (.inr (⟨false,0,[]⟩,6))))):=by
 have e0:atS 1 (mo 1 M) (i:Int)=some M[i]:=by
  have:=fR (s:=mo 1 M) (w:=1) (wB M) (j:=i) (by rw [np];exact hi)
  rw [this];congr 1;simp only [np]
 generalize M[i]=s at hs hl e0;by_cases h1:1<=s.l.length
 .refine gm (b:=aF (mo 1 M) (i:Int)) s.l.length (λj st=>st=(j:Int)/\1<=j/\∀k (h:k+1<s.l.length),k+1<j->s.l[k].1<s.l[k+1].1) _ ?_ ?_ 1 h1 1 ⟨rfl,Nat.le_refl _,λk h hk=>by omega⟩
  .rintro j _ hj ⟨rfl,j1,hI⟩;have ej:=fR hs hj;have ep:=fR hs (j:=j - 1) (by omega);have w1:IntKind.i64.wrap ((j:Int) - 1)=((j - 1:Nat):Int):=by rw [yQ (by omega) (by omega)];omega
   have w2:=ig hj (show s.l.length<=9223372036854775807 by omega);simp only [aF,e0,zbS,ej,w1,ep,w2];rw [if_pos (by omega)];by_cases c:s.l[j].1<=s.l[j - 1].1
   .rw [if_pos c];refine .inr ⟨_,rfl,.inr ⟨λhr=> ?_,rfl⟩⟩
    have:=ris_adj.1 hr (j - 1) (by omega)
    simp only [show j - 1+1=j by omega]at this;omega
   .rw [if_neg c];refine .inl ⟨_,rfl,rfl,by omega,λk h hk=> ?_⟩;by_cases e:k+1=j
    .subst e;simp only [Nat.add_sub_cancel]at c;omega
    .exact hI k h (by omega)
  .rintro _ ⟨rfl,j1,hI⟩;simp only [aF,e0,zbS];rw [if_neg (by omega)];exact⟨_,rfl,.inl ⟨ris_adj.2 λk h=>hI k h h,rfl⟩⟩
 .obtain⟨q,q1,q2⟩:=gm (b:=aF (mo 1 M) (i:Int)) 1 (λj st=>st=1) (λq=>(eO s.l/\q= .inl ())∨(¬eO s.l/\q= .inr (.inr (.inr (⟨false,0,[]⟩,6))))) (λj a hj ha=>by
   subst ha;simp only [aF,e0,zbS];rw [if_neg (by omega)]
   exact .inr ⟨_,rfl,.inl ⟨ris_adj.2 λk h=>by omega,rfl⟩⟩) (λa ha=>by
   subst ha;simp only [aF,e0,zbS];rw [if_neg (by omega)]
   exact⟨_,rfl,.inl ⟨ris_adj.2 λk h=>by omega,rfl⟩⟩) 1 (Nat.le_refl _) 1 rfl
  exact⟨q,q1,q2⟩
theorem yx{M:List (Sl S3M)}(hM:∀s∈M,okS 3 s/\s.l.length<=30)(hl:M.length<=8):∃q:Unit ⊕(Sl S3M×Int),cD (bW (mo 1 M)) 0=some q/\(((∀s∈M,eO s.l)/\q= .inl ())∨((¬∀s∈M,eO s.l)/\q= .inr (⟨false,0,[]⟩,6))):=by
 refine gm (b:=bW (mo 1 M)) M.length (λj st=>st=(j:Int)/\∀k (h:k<M.length),k<j->eO M[k].l) _ ?_ ?_ 0 (Nat.zero_le _) 0 ⟨rfl,λk h hk=>by omega⟩
 .rintro j _ hj ⟨rfl,hI⟩;obtain⟨q,q1,q2⟩:=yw hj (hM _ (List.getElem_mem hj)).1 (by have:=(hM _ (List.getElem_mem hj)).2;omega);simp only [bW,np,q1,zbS,ig hj (show M.length<=9223372036854775807 by omega)];rw [if_pos (by omega)];rcases q2 with⟨h1,rfl⟩|⟨h1,rfl⟩
  .refine .inl ⟨_,rfl,rfl,λk h hk=> ?_⟩;by_cases e:k=j
   .subst e;exact h1
   .exact hI k h (by omega)
  .exact .inr ⟨_,rfl,.inr ⟨λh=>h1 (h _ (List.getElem_mem hj)),rfl⟩⟩
 .rintro _ ⟨rfl,hI⟩;simp only [bW,np];rw [if_neg (by omega)];refine⟨_,rfl,.inl ⟨λs hs=> ?_,rfl⟩⟩;obtain⟨k,hk,rfl⟩:=List.mem_iff_getElem.1 hs;exact hI k hk hk
theorem yz{M:List (Sl S3M)}(hM:∀s∈M,okS 3 s/\s.l.length<=30):Sm.Mg.totL (M.map λs=>s.l)<=30*M.length:=by
 induction M with
 |nil=>exact Nat.le_refl _
 |cons s M ih=>
  have h1:=(hM s List.mem_cons_self).2;have h2:=ih λz hz=>hM z (List.mem_cons_of_mem _ hz);unfold Sm.Mg.totL at h2 ⊢;simp only [List.map_cons,List.sum_cons,List.length_cons];omega
theorem yA(r:Int){M:List (Sl S3M)}(hM:∀s∈M,okS 3 s/\s.l.length<=30)(hl:M.length<=8)(hR:∀s∈M,eO s.l):cD (bB r (mo 1 M)) ([],0)=some (.inl (Sm.Mg.outM r (M.map λs=>s.l))):=by
 obtain⟨q,q1,q2⟩:=gm (b:=bB r (mo 1 M)) M.length (λj st=>st=(Sm.Mg.outM r ((M.take j).map λs=>s.l),(j:Int))) (λq=>q= .inl (Sm.Mg.outM r (M.map λs=>s.l)))
  (by
   rintro j _ hj rfl
   have e0:atS 1 (mo 1 M) (j:Int)=some M[j]:=by
    have:=fR (s:=mo 1 M) (w:=1) (wB M) (j:=j) (by rw [np];exact hj)
    rw [this];congr 1;simp only [np]
   have hj2:=hM _ (List.getElem_mem hj);have ht:=yz (M:=M.take j) λs hs=>hM s (List.mem_of_mem_take hs);have hlen:=wO r ((M.take j).map λs=>s.l);have htk:(M.take j).length<=j:=by simp;omega
   have hb:=GG r (s:=mo 3 (Sm.Mg.outM r ((M.take j).map λs=>s.l))) (t:=M[j]) (wB _) hj2.1 (by rw [np];omega)
   have hsn:=Bt r (ls:=(M.take j).map λs=>s.l) (b:=M[j].l) (λl hl=>by
    obtain⟨s,hs,rfl⟩:=List.mem_map.1 hl
    exact hR s (List.mem_of_mem_take hs)) (hR _ (List.getElem_mem hj)) (Nat.le_refl _)
   rw [np,<-hsn.1]at hb;simp only [bB,np,e0,hb,zbS,ig hj (show M.length<=9223372036854775807 by omega)];rw [if_pos (by omega)];refine .inl ⟨_,rfl,?_⟩
   rw [List.take_succ_eq_append_getElem hj,List.map_append];rfl)
  (by
   rintro _ rfl;refine⟨.inl (Sm.Mg.outM r (M.map λs=>s.l)),?_,rfl⟩;simp only [bB,np]
   rw [if_neg (by omega),List.take_length]) 0 (Nat.zero_le _) ([],0) rfl
 rw [q1,q2]
theorem KA(r:Int){M:List (Sl S3M)}(hM:∀s∈M,okS 3 s/\s.l.length<=30)(hl:M.length<=8):∃p:Sl S3M×Int,ct r (mo 1 M)=some p/\bV r (mo 1 M)=some p/\okS 3 p.1/\p.1.l.length<=100000:=by
 have ok:Sm.Mg.okM (mo 1 M)=true:=by
  have o:∀s∈M,Sm.Mg.okI s=true:=λs hs=>by
   unfold Sm.Mg.okI;rcases(hM s hs).1 with h|h
   .rw [h];simp
   .rw [h];simp
  have ht:=yz hM;unfold Sm.Mg.okM;rw [np];simp only [Bool.and_eq_true,decide_eq_true_eq,Bool.or_eq_true,List.all_eq_true,List.isEmpty_iff];refine⟨⟨⟨by omega,Nat.le_trans ht (by omega)⟩,?_⟩,o⟩
  cases M with
  |nil=>exact .inr rfl
  |cons s M=>exact .inl rfl
 have hrA:(M.map λs=>s.l).all Sm.Mg.risB=true↔∀s∈M,eO s.l:=by
  rw [List.all_eq_true];constructor
  .intro h s hs;exact(Sm.Mg.risB_iff _).1 (h _ (List.mem_map_of_mem hs))
  .intro h l hl;obtain⟨s,hs,rfl⟩:=List.mem_map.1 hl;exact(Sm.Mg.risB_iff _).2 (h s hs)
 have hp:ct r (mo 1 M)=Sm.Mg.fn (r,mo 1 M):=rfl
 have hIs:eG r=some (KM.gU r):=by
  unfold eG KM.gU;by_cases a:r >= 1
  .rw [if_pos a,decide_eq_true (show 1<=r from a)];by_cases b:r<=5
   .rw [if_pos b,decide_eq_true b];rfl
   .rw [if_neg b,decide_eq_false b];rfl
  .rw [if_neg a,decide_eq_false (show¬1<=r from a)];rfl
 rw [hp];unfold Sm.Mg.fn bV;rw [if_pos ok,hIs,np];simp only [zbS]
 cases hr:KM.gU r with
 |false=>
  rw [if_pos rfl,if_neg (by simp)];exact⟨_,rfl,rfl,.inl rfl,by simp⟩
 |true=>
  rw [if_neg (by simp),if_pos rfl];obtain⟨q,q1,q2⟩:=yx hM hl;rw [q1];rcases q2 with⟨h1,rfl⟩|⟨h1,rfl⟩
  .rw [hrA.2 h1,if_neg (by simp)];have h3:=yA r hM hl h1;have ht:=yz hM;have hlen:=wO r (M.map λs=>s.l);simp only [zbS,Sum.elim_inl,h3];refine⟨(mo 3 (Sm.Mg.outM r (M.map λs=>s.l)),0),?_,rfl,wB _,by rw [np];omega⟩;cases Sm.Mg.outM r (M.map λs=>s.l)<;>rfl
  .have hf:(M.map λs=>s.l).all Sm.Mg.risB=false:=by
    rw [Bool.eq_false_iff];exact λh=>h1 (hrA.1 h)
   rw [hf,if_pos rfl];exact⟨_,rfl,rfl,.inl rfl,by simp⟩
def fj(s:Sl S3M):Sl S3M:=if(s.l.length:Int)>30 then⟨s.nn,s.sz,s.l.take 30⟩else s
theorem Ee{s:Sl S3M}(h:okS 3 s):okS 3 (fj s)/\(fj s).l.length<=30:=by
 unfold fj;split
 .refine⟨?_,by simp;omega⟩;rcases h with h|h
  .exact .inl (by simp [h])
  .exact .inr h
 .exact⟨h,by omega⟩
theorem sL{s:Sl (Sl S3M)}(hs:okS 1 s)(hl:s.l.length<=8)(he:∀x∈s.l,okS 3 x):cD (aN s) ([],0)=some (.inl (s.l.map fj)):=by
 obtain⟨q,q1,q2⟩:=gm (b:=aN s) s.l.length (λj st=>st=((s.l.take j).map fj,(j:Int))) (λq=>q= .inl (s.l.map fj))
  (by
   rintro j _ hj rfl;have ej:=fR hs hj;have hb:∀z:Sl S3M,app ((s.l.take j).map fj) [z]=some ((s.l.take j).map fj++ [z]):=λz=>Fl (by simp;unfold cQ;omega);have hx:=he _ (List.getElem_mem hj);have htk:(s.l.take (j+1)).map fj=(s.l.take j).map fj++ [fj s.l[j]]:=by rw [List.take_succ_eq_append_getElem hj,List.map_append];rfl
   rw [htk];generalize s.l[j]=x at ej hx;simp only [aN,ej,zbS,ig hj (show s.l.length<=9223372036854775807 by omega),hb];rw [if_pos (by omega)];unfold fj;by_cases c:(x.l.length:Int)>30
   .have hc:nr 3 x 0 30=some ⟨x.nn,x.sz,x.l.take 30⟩:=by
     unfold nr;rw [if_pos ⟨by omega,by omega,by omega,.inr rfl⟩];rfl
    rw [if_pos c,if_pos c,hc];exact .inl ⟨_,rfl,rfl⟩
   .rw [if_neg c,if_neg c]
    exact .inl ⟨_,rfl,rfl⟩)
  (by
   rintro _ rfl;refine⟨.inl (s.l.map fj),?_,rfl⟩;simp only [aN]
   rw [if_neg (by omega),List.take_length]) 0 (Nat.zero_le _) ([],0) rfl
 rw [q1,q2]
theorem iE(r:Int)(hr:inK .i64 r)(s:Sl (Sl S3M))(hs:SlW 1 (λx:Sl S3M=>SlW 3 (λx:S3M=>inK .i64 x.1/\inK .i64 x.2.1/\inK .u64 x.2.2) x) s):bM r s=some true:=by
 have ho:okS 1 s:=hs.ok;have he:∀x∈s.l,okS 3 x:=λx hx=>(hs.2.2.2 x hx).ok
 have key:∀M:List (Sl S3M),(∀x∈M,∃y,okS 3 y/\x=fj y)->M.length<=8->∃p:Sl S3M×Int,ct r (mo 1 M)=some p/\bV r (mo 1 M)=some p/\aS p.1 p.1=some true:=λM h1 h2=>by
  obtain⟨p,p1,p2,p3,p4⟩:=KA r (M:=M) (λx hx=>by
   obtain⟨y,hy,rfl⟩:=h1 x hx
   exact Ee hy) h2
  exact⟨p,p1,p2,Br _ p3 (by omega)⟩
 unfold bM;by_cases c:(s.l.length:Int)>8
 .rw [if_pos c]
  have hc:nr 1 s 0 8=some ⟨s.nn,s.sz,s.l.take 8⟩:=by
   unfold nr;rw [if_pos ⟨by omega,by omega,by omega,.inr rfl⟩];rfl
  have ho2:okS 1 (⟨s.nn,s.sz,s.l.take 8⟩:Sl (Sl S3M)):=by
   rcases ho with h|h
   .exact .inl (by simp [h])
   .exact .inr h
  have hf:=sL ho2 (by simp;omega) λx hx=>he x (List.mem_of_mem_take hx)
  obtain⟨p,p1,p2,p3⟩:=key ((s.l.take 8).map fj) (λx hx=>by
   obtain⟨y,hy,rfl⟩:=List.mem_map.1 hx
   exact⟨y,he y (List.mem_of_mem_take hy),rfl⟩) (by simp;omega)
  have hf':cD (bE ⟨s.nn,s.sz,s.l.take 8⟩) ([],0)=some (.inl ((s.l.take 8).map fj)):=hf;simp only [hc,zbS,hf',Sum.elim_inl,p1,p2,Io,p3,if_true]
 .rw [if_neg c];have hf:=sL ho (by omega) he
  obtain⟨p,p1,p2,p3⟩:=key (s.l.map fj) (λx hx=>by
   obtain⟨y,hy,rfl⟩:=List.mem_map.1 hx
   exact⟨y,he y hy,rfl⟩) (by simp;omega)
  simp only [zbS,hf,Sum.elim_inl,p1,p2,Io,p3,if_true]
end Ev
end
end Go.Proofs.Ytjjbpdldbdmoeaa
