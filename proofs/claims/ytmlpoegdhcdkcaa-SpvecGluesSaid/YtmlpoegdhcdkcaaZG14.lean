/- Texts of a claim, joined. -/
import Derived.Test.YtmlpoegdhcdkcaaZG13
set_option linter.unusedVariables false
set_option linter.unusedSimpArgs false
namespace Go.Proofs.Ytmlpoegdhcdkcaa
noncomputable section
namespace Ev
open Go
theorem LW:FL=some true:=rfl
theorem Dv{α:Type}{l:List α}{j:Nat}(h:j<l.length):atL l (j:Int)=some l[j]:=by
 unfold atL;rw [if_pos (by omega),Int.toNat_natCast,List.getElem?_eq_getElem h]
def dC(k:Int)(l:List It):List It:=l.map λx=>(k+x.1,x.2)
theorem Dw{α:Type}{A:List α}{z x:α}{m:Nat}:(A++List.replicate (m+1) z).set A.length x=(A++ [x])++List.replicate m z:=by
 rw [List.set_append_right _ _ (Nat.le_refl _),Nat.sub_self,List.replicate_succ];simp
theorem qH{s:Sl It}(hok:okS 2 s)(hl:s.l.length<=5000)(d:Int):dN s d=some (s.l.map λx=>(IntKind.i64.wrap (x.1+d),x.2)):=by
 unfold dN;rw [show tU ((s.l.length:Nat):Int)=some ()by unfold tU cz;rw [if_pos ⟨by omega,by omega⟩]];simp only [zbS,Int.toNat_natCast]
 obtain⟨q,q1,rfl⟩:=gv (b:=cV s d) s.l.length (λj a=>a=((s.l.take j).map (λx=>(IntKind.i64.wrap (x.1+d),x.2))++List.replicate (s.l.length - j) ((0,0):Int×Int),(j:Int))) (λq=>q= .inl (s.l.map λx=>(IntKind.i64.wrap (x.1+d),x.2)))
  (by
   rintro j _ hj rfl;have a1:=gh hok hj;have hm:s.l.length - j=(s.l.length - (j+1))+1:=by omega
   have hA:((s.l.take j).map (λx=>(IntKind.i64.wrap (x.1+d),x.2))).length=j:=by rw [List.length_map,List.length_take];omega
   have a2:atL ((s.l.take j).map (λx=>(IntKind.i64.wrap (x.1+d),x.2))++List.replicate (s.l.length - j) ((0,0):Int×Int)) (j:Int)=some (0,0):=by
    have hlt:j<((s.l.take j).map (λx=>(IntKind.i64.wrap (x.1+d),x.2))++List.replicate (s.l.length - j) ((0,0):Int×Int)).length:=by rw [List.length_append,hA,List.length_replicate];omega
    rw [Dv hlt,List.getElem_append_right (by omega)];simp
   refine .inl ⟨_,?_,rfl⟩;simp only [cV];rw [if_pos (by omega),a1];simp only [zbS];rw [a2];simp only [zbS,Int.toNat_natCast];rw [iQ hj (by omega),hm,List.take_succ_eq_append_getElem hj,List.map_append];refine congrArg some (congrArg Sum.inl (Prod.ext ?_ rfl))
   have:=Dw (A:=(s.l.take j).map (λx=>(IntKind.i64.wrap (x.1+d),x.2))) (z:=((0,0):Int×Int)) (x:=(IntKind.i64.wrap (s.l[j].1+d),s.l[j].2)) (m:=s.l.length - (j+1))
   rw [hA]at this
   exact this)
  (by
   rintro _ rfl;refine⟨_,if_neg (show¬((s.l.length:Nat):Int)<((s.l.length:Nat):Int)by omega),?_⟩
   simp) 0 (Nat.zero_le _) (List.replicate s.l.length ((0,0):Int×Int),0) (by simp)
 rw [q1];rfl
theorem qI(v:Int×Sl It)(hok:okS 2 v.2)(hl:v.2.l.length<=9223372036854775807):bE v=some (aF v):=by
 have e:=gA v hok hl;obtain⟨n,s⟩:=v;unfold bE aF;simp only [e,zbS];split<;>rfl
theorem Dx(n:Int)(s:Sl It)(l:List It)(hok:okS 2 s)(hn:0<=n/\n<=4096)(hs:s.l.length<=4096)(hl:l.length<=4096)(hx:∀x∈s.l,0<=x.1/\x.1<=4096):cB (cq n s) (0,l)=some (.inl (l++dC n s.l)):=by
 obtain⟨q,h1,rfl⟩:=gv (b:=cq n s) s.l.length (λj a=>a=((j:Int),l++dC n (s.l.take j))) (λq=>q= .inl (l++dC n s.l))
  (by
   rintro j _ hj rfl
   have hw:IntKind.i64.wrap (n+s.l[j].1)=n+s.l[j].1:=by
    have:=hx _ (List.getElem_mem hj)
    exact wrap64 (by omega) (by omega)
   have ha:app (l++dC n (s.l.take j)) [(n+s.l[j].1,s.l[j].2)]=some (l++dC n (s.l.take j)++ [(n+s.l[j].1,s.l[j].2)]):=wo (by simp [dC];unfold cz;omega);simp only [cq,gh hok hj,zbS,hw,ha];rw [if_pos (by omega),iQ hj (by omega)];refine .inl ⟨_,rfl,?_⟩;rw [List.take_succ_eq_append_getElem hj];unfold dC
   rw [List.map_append,List.append_assoc];rfl)
  (by
   rintro _ rfl;refine⟨.inl (l++dC n s.l),?_,rfl⟩;simp only [cq,List.take_length]
   rw [if_neg (by omega)]) 0 (Nat.zero_le _) (0,l) (by simp [dC])
 exact h1
theorem py(s:Sl It)(hok:okS 2 s)(hl:s.l.length<=9223372036854775807):ci s s=some true:=by
 unfold ci;rw [if_neg (by simp)]
 obtain⟨q,h1,h2⟩:=gv (b:=bQ s s) s.l.length (λj a=>a=(j:Int)) (λq=>q= .inl ())
  (by
   rintro j _ hj rfl;simp only [bQ,gh hok hj,zbS,iQ hj (by omega)];rw [if_pos (by omega)]
   exact .inl ⟨_,if_pos (by simp),rfl⟩)
  (by
   rintro _ rfl
   exact⟨_,if_neg (by omega),rfl⟩) 0 (Nat.zero_le _) 0 rfl
 subst h2;rw [h1];rfl
theorem qJ(v:Int×Sl It)(hok:okS 2 v.2)(hl:v.2.l.length<=9223372036854775807):dP v v=some true:=by
 obtain⟨n,s⟩:=v;unfold dP;simp only [if_true,py s hok hl,zbS]
def go:List (Int×Sl It)->Int->List It->Option (Int×List It)
 | [],N,L=>some (N,L)
 |v::vs,N,L=>if N+(aF v).1>4096 then none else go vs (N+(aF v).1) (L++dC N (aF v).2.l)
def FV:Option (Int×List It)->(Int×List It)⊕((Int×Sl It)×Int)
 |some (N,L)=> .inl (N,L)
 |none=> .inr ((0,⟨false,0,[]⟩),5)
theorem qK(v:Int×Sl It):(0<=(aF v).1/\(aF v).1<=4096)/\∀x∈(aF v).2.l,0<=x.1/\x.1<=4096:=by
 have h:=oo v;simp only [dn,qE,Bool.and_eq_true,decide_eq_true_eq]at h;refine⟨h.1,λx hx=> ?_⟩
 have:=zj h.2 x hx
 omega
theorem nI(v:Int×Sl It):(aF v).2.l.length<=v.2.l.length:=by
 unfold aF;split
 .exact Nat.le_refl _
 .exact Nat.zero_le _
section
variable {M : List (Int × Sl It)}
theorem Ip(hM:∀v∈M,okS 2 v.2/\v.2.l.length<=60)(hl:M.length<=8):cB (co (mo 2 M)) (0,0,[])=some (FV (go M 0 [])):=by
 obtain⟨q,q1,q2⟩:=gv (b:=co (mo 2 M)) M.length (λj st=>∃(N:Int) (L:List It),st=((j:Int),N,L)/\(0<=N/\N<=4096)/\L.length<=60*j/\go (M.drop j) N L=go M 0 []) (λq=>q=FV (go M 0 []))
  (by
   rintro j _ hj ⟨N,L,rfl,hN,hL,hG⟩
   have e0:atS 2 (mo 2 M) (j:Int)=some M[j]:=by
    have:=gh (s:=mo 2 M) (w:=2) (Au M) (j:=j) (by rw [wm];exact hj)
    rw [this];congr 1;simp only [wm]
   have hv:=hM _ (List.getElem_mem hj);rw [List.drop_eq_getElem_cons hj]at hG;generalize M[j]=v at e0 hv hG;have e1:=qI v hv.1 (by omega);have hb:=qK v;have ht:=nI v;have hok:=xq hv.1;have e2:=qH (s:=(aF v).2) hok (by omega) N
   have e3:((aF v).2.l.map λx=>(IntKind.i64.wrap (x.1+N),x.2))=dC N (aF v).2.l:=by
    refine List.map_congr_left λx hx=> ?_
    have:=hb.2 x hx
    rw [wrap64 (by omega) (by omega),Int.add_comm]
   rw [e3]at e2;have e4:(dC N (aF v).2.l).length=(aF v).2.l.length:=List.length_map _;have hG2:(if N+(aF v).1>4096 then none else go (M.drop (j+1)) (N+(aF v).1) (L++dC N (aF v).2.l))=go M 0 []:=hG;generalize dC N (aF v).2.l=G at e2 e4 hG2;obtain⟨v1,v2⟩:=v;generalize hs:aF (v1,v2)=w at e1 e2 e4 hb ht hok hG2;obtain⟨w1,w2⟩:=w;simp only at e2 e4 hb ht hok hG2 hv;have ww:IntKind.i64.wrap (N+w1)=N+w1:=wrap64 (by omega) (by omega);have wj:=iQ hj (show M.length<=9223372036854775807 by omega);have ap:∀X:List It,X.length<=60->app L X=some (L++X):=λX hX=>wo (by unfold cz;omega);have ap2:∀X:List It,X.length<=6000->app X ([]:List It)=some (X++ []):=λX hX=>wo (by simp;unfold cz;omega);simp only [co,wm,e0,e1,e2,zbS,ww,wj];rw [if_pos (by omega)];by_cases c:N+w1>4096
   .rw [if_pos c]at hG2;refine .inr ⟨.inr ((0,⟨false,0,[]⟩),5),?_,by rw [<-hG2];rfl⟩
    cases G with
    |nil=>cases L with
     |nil=>simp only;rw [if_pos c]
     |cons a L=>simp only;rw [ap2 _ (by omega)];simp only [zbS];rw [if_pos c]
    |cons g G=>simp only;rw [ap _ (by omega)];simp only [zbS];rw [if_pos c]
   .rw [if_neg c]at hG2;refine .inl ⟨(((j+1:Nat):Int),N+w1,L++G),?_,N+w1,L++G,rfl,by omega,by rw [List.length_append];omega,hG2⟩
    cases G with
    |nil=>cases L with
     |nil=>simp only;rw [if_neg c];rfl
     |cons a L=>simp only;rw [ap2 _ (by omega)];simp only [zbS];rw [if_neg c]
    |cons g G=>simp only;rw [ap _ (by omega)];simp only [zbS];rw [if_neg c])
  (by
   rintro _ ⟨N,L,rfl,hN,hL,hG⟩;rw [List.drop_length]at hG;refine⟨.inl (N,L),?_,by rw [<-hG];rfl⟩;simp only [co,wm]
   rw [if_neg (by omega)]) 0 (Nat.zero_le _) (0,0,[]) ⟨0,[],rfl,by omega,Nat.zero_le _,rfl⟩
 rw [q1,q2]
theorem Iq(hM:∀v∈M,okS 2 v.2/\v.2.l.length<=60)(hl:M.length<=8):cB (cr (mo 2 M)) (0,0,[])=some (FV (go M 0 [])):=by
 obtain⟨q,q1,q2⟩:=gv (b:=cr (mo 2 M)) M.length (λj st=>∃(N:Int) (L:List It),st=((j:Int),N,L)/\(0<=N/\N<=4096)/\L.length<=60*j/\go (M.drop j) N L=go M 0 []) (λq=>q=FV (go M 0 []))
  (by
   rintro j _ hj ⟨N,L,rfl,hN,hL,hG⟩
   have e0:atS 2 (mo 2 M) (j:Int)=some M[j]:=by
    have:=gh (s:=mo 2 M) (w:=2) (Au M) (j:=j) (by rw [wm];exact hj)
    rw [this];congr 1;simp only [wm]
   have hv:=hM _ (List.getElem_mem hj);rw [List.drop_eq_getElem_cons hj]at hG;generalize M[j]=v at e0 hv hG;have e1:=sV v hv.1 (by omega);have hb:=qK v;have ht:=nI v;have hok:=xq hv.1;have e2:=Dx N (aF v).2 L hok hN (by omega) (by omega) hb.2;have e4:(dC N (aF v).2.l).length=(aF v).2.l.length:=List.length_map _;have hG2:(if N+(aF v).1>4096 then none else go (M.drop (j+1)) (N+(aF v).1) (L++dC N (aF v).2.l))=go M 0 []:=hG;generalize dC N (aF v).2.l=G at e2 e4 hG2;obtain⟨v1,v2⟩:=v;generalize hs:aF (v1,v2)=w at e1 e2 e4 hb ht hok hG2;obtain⟨w1,w2⟩:=w;simp only at e2 e4 hb ht hok hG2 hv;have ww:IntKind.i64.wrap (N+w1)=N+w1:=wrap64 (by omega) (by omega);have wj:=iQ hj (show M.length<=9223372036854775807 by omega);simp only [cr,wm,e0,e1,e2,zbS,ww,wj,Sum.elim_inl];rw [if_pos (by omega)];by_cases c:N+w1>4096
   .rw [if_pos c]at hG2;rw [if_pos c];exact .inr ⟨_,rfl,by rw [<-hG2];rfl⟩
   .rw [if_neg c]at hG2;rw [if_neg c]
    exact .inl ⟨_,rfl,N+w1,L++G,rfl,by omega,by rw [List.length_append];omega,hG2⟩)
  (by
   rintro _ ⟨N,L,rfl,hN,hL,hG⟩;rw [List.drop_length]at hG;refine⟨.inl (N,L),?_,by rw [<-hG];rfl⟩;simp only [cr,wm]
   rw [if_neg (by omega)]) 0 (Nat.zero_le _) (0,0,[]) ⟨0,[],rfl,by omega,Nat.zero_le _,rfl⟩
 rw [q1,q2]
theorem tE:∀(M:List (Int×Sl It)) (N:Int) (L:List It),(∀v∈M,v.2.l.length<=60)->∀p,go M N L=some p->p.2.length<=L.length+60*M.length
 | [],N,L,_,p,h=>by
  obtain rfl:=Option.some.inj h;simp
 |v::M,N,L,hM,p,h=>by
  unfold go at h;split at h
  .cases h
  .have h1:=tE M _ _ (λw hw=>hM w (List.mem_cons_of_mem _ hw)) p h;have h2:=hM v List.mem_cons_self;have h3:=nI v;have h4:(dC N (aF v).2.l).length=(aF v).2.l.length:=List.length_map _;rw [List.length_append]at h1;simp only [List.length_cons];omega
theorem LX(hM:∀v∈M,okS 2 v.2/\v.2.l.length<=60)(hl:M.length<=8):∃p:(Int×Sl It)×Int,eN (mo 2 M)=some p/\eP (mo 2 M)=some p/\dP p.1 p.1=some true:=by
 have h1:=Ip hM hl;have h2:=Iq hM hl;unfold eN eP;rw [h1,h2]
 cases hg:go M 0 []with
 |none=>exact⟨((0,⟨false,0,[]⟩),5),rfl,rfl,qJ _ (.inl rfl) (by simp)⟩
 |some p=>
  obtain⟨N,L⟩:=p
  have:=tE M 0 [] (λv hv=>(hM v hv).2) _ hg
  exact⟨((N,mo 2 L),0),rfl,rfl,qJ _ (Au _) (by simp only [wm];simp at this;omega)⟩
end
def oq(v:Int×Sl It):Int×Sl It:=if(v.2.l.length:Int)>60 then(v.1,⟨v.2.nn,v.2.sz,v.2.l.take 60⟩)else v
theorem Dy{v:Int×Sl It}(h:okS 2 v.2):okS 2 (oq v).2/\(oq v).2.l.length<=60:=by
 unfold oq;split
 .refine⟨?_,by simp;omega⟩;rcases h with h|h
  .exact .inl (by simp [h])
  .exact .inr h
 .exact⟨h,by omega⟩
theorem Ce{s:Sl (Int×Sl It)}(hs:okS 2 s)(he:∀x∈s.l,okS 2 x.2)(hl:s.l.length<=9223372036854775807):∃M,cB (aQ s) ([],0)=some (.inl M)/\M.length<=8/\∀x∈M,∃y,okS 2 y.2/\x=oq y:=by
 obtain⟨q,q1,M,rfl,q2⟩:=gv (b:=aQ s) (min s.l.length 8) (λj st=>∃M,st=(M,(j:Int))/\M.length<=j/\∀x∈M,∃y,okS 2 y.2/\x=oq y) (λq=>∃M,q= .inl M/\M.length<=8/\∀x∈M,∃y,okS 2 y.2/\x=oq y)
  (by
   rintro j _ hj ⟨M,rfl,h1,h2⟩;have hj1:j<s.l.length:=by omega
   have ej:=gh hs hj1;have hx:=he _ (List.getElem_mem hj1);generalize s.l[j]=x at ej hx;obtain⟨x1,x2⟩:=x;have hb:∀z:Int×Sl It,app M [z]=some (M++ [z]):=λz=>wo (by simp;unfold cz;omega)
   have key:aQ s (M,(j:Int))=some (.inl (M++ [oq (x1,x2)],((j+1:Nat):Int))):=by
    simp only [aQ,ej,zbS,iQ hj1 hl,hb];rw [if_pos (by omega),if_pos (by omega)];unfold oq;by_cases c:(x2.l.length:Int)>60
    .have hc:xX 2 x2 0 60=some ⟨x2.nn,x2.sz,x2.l.take 60⟩:=by
      unfold xX;rw [if_pos ⟨by omega,by omega,by omega,.inr rfl⟩];rfl
     rw [if_pos c,if_pos c,hc];rfl
    .rw [if_neg c,if_neg c]
   refine .inl ⟨_,key,_,rfl,by rw [List.length_append,List.length_singleton];omega,λz hz=> ?_⟩;rcases List.mem_append.1 hz with hz|hz
   .exact h2 z hz
   .exact⟨_,hx,List.mem_singleton.1 hz⟩)
  (by
   rintro _ ⟨M,rfl,h1,h2⟩;refine⟨.inl M,?_,M,rfl,by omega,h2⟩;simp only [aQ];by_cases c:((min s.l.length 8:Nat):Int)<(s.l.length:Int)
   .rw [if_pos c,if_neg (by omega)]
   .rw [if_neg c]) 0 (Nat.zero_le _) ([],0) ⟨[],rfl,Nat.le_refl _,λx hx=>by cases hx⟩
 exact⟨M,q1,q2⟩
theorem jf(s:Sl (Int×Sl It))(hs:SlW 2 (λv:Int×Sl It=>inK .i64 v.1/\SlW 2 (λx:It=>inK .i64 x.1/\inK .i64 x.2) v.2) s):cU s=some true:=by
 obtain⟨M,h1,h2,h3⟩:=Ce hs.ok (λx hx=>(hs.2.2.2 x hx).2.ok) hs.2.2.1
 obtain⟨p,p1,p2,p3⟩:=LX (M:=M) (λv hv=>by
  obtain⟨y,hy,rfl⟩:=h3 v hv
  exact Dy hy) h2
 obtain⟨⟨p4,p5⟩,p6⟩:=p;simp only at p3;unfold cU;simp only [h1,zbS,Sum.elim_inl,p1,p2,LW,p3,if_true]
end Ev
end
end Go.Proofs.Ytmlpoegdhcdkcaa
