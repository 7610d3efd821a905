/- Texts of a claim, joined. -/
import Derived.Test.YthkgcllekhnecaaZS13
import Derived.Test.YthkgcllekhnecaaZS9
import Derived.Test.YthkgcllekhnecaaZS12
set_option linter.unusedVariables false
set_option linter.unusedSimpArgs false
namespace Go.Proofs.Ythkgcllekhnecaa
noncomputable section
namespace Ev
open Go Sm
theorem jQ(a b:E3):ee a b=some (bel a b):=by
 rw [vS]
 have hb:bel a b=(decide (a.1<b.1)||(decide (a.1=b.1)&& decide (a.2.1<b.2.1))):=by
  unfold bel klt key;rw [Bool.decide_or,Bool.decide_and]
 rw [hb];by_cases h1:a.1<b.1
 ·rw [if_pos h1,decide_eq_true h1];rfl
 ·rw [if_neg h1,decide_eq_false h1];by_cases h2:a.1=b.1
  ·rw [if_pos h2,decide_eq_true h2];rfl
  ·rw [if_neg h2,decide_eq_false h2];rfl
def dz{α:Type}(l:List α)(k:Nat)(y:α):List α:=l.take k++y::l.drop k
theorem Kn{α:Type}{l:List α}{k:Nat}(y:α):(dz l k y).length=l.length+1:=by unfold dz;simp;omega
theorem mK{α:Type}{l:List α}{k:Nat}(hk:k≤l.length)(y:α):(dz l k y)[k]? =some y:=by
 unfold dz;rw [List.getElem?_append_right (by rw [List.length_take];omega),List.length_take,Nat.min_eq_left hk,Nat.sub_self];rfl
theorem kp{α:Type}{l:List α}{k:Nat}(hk:k≤l.length)(y x:α):(dz l k y).set k x=dz l k x:=by
 unfold dz;rw [List.set_append_right _ _ (by rw [List.length_take];omega),List.length_take,Nat.min_eq_left hk,Nat.sub_self];rfl
theorem mL{α:Type}(l:List α)(y:α):dz l l.length y=l++ [y]:=by unfold dz;simp
theorem mM{α:Type}{l:List α}{k:Nat}(hk:k+1≤l.length)(y:α):(dz l (k+1) y)[k]? =some l[k]∧dz l (k+1) l[k]=dz l k l[k]:=by
 unfold dz;constructor
 ·rw [List.getElem?_append_left (by simp;omega),List.getElem?_take,if_pos (by omega),List.getElem?_eq_getElem]
 ·rw [List.take_succ_eq_append_getElem (by omega),List.append_assoc,List.drop_eq_getElem_cons (i:=k) (by omega)];rfl
theorem Ko{α:Type}{l:List α}{k:Nat}{y x:α}(h:x∈dz l k y):x=y∨x∈l:=by
 unfold dz at h;rcases List.mem_append.1 h with h|h
 ·exact .inr (List.mem_of_mem_take h)
 ·rcases List.mem_cons.1 h with h|h
  ·exact .inl h
  ·exact .inr (List.mem_of_mem_drop h)
theorem zy{b:Int×List E3×List (Int×Int)→Option ((Int×List E3×List (Int×Int))⊕((List E3×List (Int×Int))⊕ Empty))}{a:Nat}(hb:b=dh (a:Int)∨b=dj (a:Int)){l:List E3}{s:List (Int×Int)}(hl:s.length=l.length)(hn:l.length≤100000)(ha:a≤l.length)(y:E3)(z:Int×Int):
  ∃y' z',aM b ((l.length:Int),l++ [y],s++ [z])=some (.inl (dz l a y',dz s a z')):=by
 have step:∀(k:Nat) y z,a<k+1→k+1≤l.length→∃y' z',b (((k+1:Nat):Int),dz l (k+1) y,dz s (k+1) z)=some (.inl ((k:Int),dz l k y',dz s k z')):=fun k y z h1 hk=>by
  have hks:k+1≤s.length:=by omega
  have e1:=ci (mM hk y).1;have e2:=ci (mK hk y);have e3:=ci (mM hks z).1;have e4:=ci (mK hks z);have hw:IntKind.i64.wrap (((k+1:Nat):Int) - 1)=(k:Int):=by rw [wrap64 (by omega) (by omega)];omega
  have t1:((k+1:Nat):Int).toNat=k+1:=Int.toNat_natCast _;refine⟨l[k],s[k],?_⟩;rw [←(mM hk y).2,←(mM hks z).2,←kp hk y l[k],←kp hks z s[k]];rcases hb with rfl|rfl
  ·simp only [dh,hw,e1,e2,e3,e4,zbS,t1];rw [if_pos (by omega)]
  ·simp only [dj,hw,e1,e2,e3,e4,zbS,t1];rw [if_pos (by omega)]
 have stop:∀y z,b ((a:Int),dz l a y,dz s a z)=some (.inr (.inl (dz l a y,dz s a z))):=fun y z=>by
  rcases hb with rfl|rfl
  ·simp only [dh];rw [if_neg (by omega)]
  ·simp only [dj];rw [if_neg (by omega)]
 obtain⟨q,q1,y',z',q2⟩:=gN (b:=b) (l.length - a) (fun j st=>∃y z,st=(((l.length - j:Nat):Int),dz l (l.length - j) y,dz s (l.length - j) z)) (fun q=>∃y z,q= .inl (dz l a y,dz s a z))
  (by
   rintro j _ hj ⟨y,z,rfl⟩;obtain⟨k,hk⟩:∃k,l.length - j=k+1:=⟨l.length - j - 1,by omega⟩;rw [hk];obtain⟨y',z',e⟩:=step k y z (by omega) (by omega)
   exact .inl ⟨_,e,y',z',by rw [show l.length - (j+1)=k by omega]⟩)
  (by
   rintro _ ⟨y,z,rfl⟩;rw [show l.length - (l.length - a)=a by omega]
   exact⟨_,stop y z,y,z,rfl⟩) 0 (Nat.zero_le _) ((l.length:Int),l++ [y],s++ [z]) ⟨y,z,by rw [Nat.sub_zero,mL,←hl,mL,hl]⟩
 exact⟨y',z',by rw [q1,q2]⟩
def kz(p:Ky×V):E3:=(p.1.1,p.1.2,0)
def pos(S:List (Ky×V))(e:E3):Nat:=(S.takeWhile fun p=>klt p.1 (key e)).length
theorem Kp(S:List (Ky×V))(e:E3):pos S e≤S.length:=(List.takeWhile_sublist _).length_le
theorem wj{p:Ky×V}{S:List (Ky×V)}{e:E3}(hp:klt p.1 (key e)=true):pos (p::S) e=pos S e+1:=by unfold pos;simp [List.takeWhile_cons,hp]
theorem wk{p:Ky×V}{S:List (Ky×V)}{e:E3}(hp:¬klt p.1 (key e)=true):pos (p::S) e=0:=by unfold pos;simp [List.takeWhile_cons,hp]
theorem Kq:∀{S:List (Ky×V)} {e:E3} {j:Nat} (hj:j<S.length),j<pos S e→klt S[j].1 (key e)=true
 | [],e,j,hj,h=>by simp at hj
 |p::S,e,j,hj,h=>by
  by_cases hp:klt p.1 (key e)=true
  ·rw [wj hp]at h
   cases j with
   |zero=>exact hp
   |succ j=>exact Kq (S:=S) (e:=e) (j:=j) (by simpa using hj) (by omega)
  ·rw [wk hp]at h;omega
theorem Hk:∀{S:List (Ky×V)} {e:E3} {j:Nat} (hj:j<S.length),j=pos S e→klt S[j].1 (key e)=false
 | [],e,j,hj,h=>by simp at hj
 |p::S,e,j,hj,h=>by
  by_cases hp:klt p.1 (key e)=true
  ·rw [wj hp]at h;subst h;exact Hk (S:=S) (e:=e) (j:=pos S e) (by simpa using hj) rfl
  ·rw [wk hp]at h;subst h;simpa using hp
theorem Kr{S:List (Ky×V)}{e:E3}(h:pos S e<S.length):klt (S[pos S e]'h).1 (key e)=false:=Hk h rfl
theorem BW(R:Rg)(e:E3):∀(S:List (Ky×V)),ins R S e=if h:pos S e<S.length then(if klt (key e) (S[pos S e]'h).1=true then dz S (pos S e) (key e,R.o e.2.2)else S.set (pos S e) ((S[pos S e]'h).1,R.ad (S[pos S e]'h).2 (R.o e.2.2)))else S++ [(key e,R.o e.2.2)]
 | []=>by simp [ins,pos]
 |p::S=>by
  have ih:=BW R e S;unfold ins;by_cases hp:klt p.1 (key e)=true
  ·have hpos:pos (p::S) e=pos S e+1:=by unfold pos;simp [List.takeWhile_cons,hp]
   rw [if_pos hp,ih];simp only [hpos,List.length_cons,Nat.add_lt_add_iff_right,List.getElem_cons_succ];split
   ·split
    ·unfold dz;simp
    ·simp
   ·simp
  ·have hpos:pos (p::S) e=0:=by unfold pos;simp [List.takeWhile_cons,hp]
   rw [if_neg hp];simp only [hpos,List.length_cons,Nat.zero_lt_succ,dif_pos,List.getElem_cons_zero];split
   ·unfold dz;simp
   ·simp
theorem DO{α β:Type}(f:α→β)(l:List α)(k:Nat)(y:α):(dz l k y).map f=dz (l.map f) k (f y):=by unfold dz;simp
theorem BX(R:Rg)(l:List E3):(eJ R l).length≤l.length:=by
 have key:∀(S:List (Ky×V)) e,(ins R S e).length≤S.length+1:=by
  intro S e;rw [BW];split
  ·split
   ·rw [Kn];omega
   ·simp
  ·simp
 have:∀(l:List E3) (S:List (Ky×V)),(l.foldl (ins R) S).length≤S.length+l.length:=by
  intro l
  induction l with
  |nil=>intro S;simp
  |cons e l ih=>intro S;have h1:=ih (ins R S e);have h2:=key S e;simp only [List.foldl_cons,List.length_cons];omega
 simpa [eJ]using this l []
theorem Po{r:Int}{S:List (Ky×V)}{e:E3}(h:∀p∈S,lI p.2.2):∀p∈ins (RG r) S e,lI p.2.2:=by
 intro p hp;rw [BW]at hp;split at hp
 ·rename_i hl;split at hp
  ·rcases Ko hp with rfl|hp
   ·exact Fk _
   ·exact h p hp
  ·rcases List.mem_or_eq_of_mem_set hp with hp|rfl
   ·exact h p hp
   ·exact Fl (h _ (List.getElem_mem hl)) (Fk _)
 ·rcases List.mem_append.1 hp with hp|hp
  ·exact h p hp
  ·simp at hp;subst hp;exact Fk _
theorem Pp(r:Int)(l:List E3):∀p∈eJ (RG r) l,lI p.2.2:=by
 have:∀(l:List E3) (S:List (Ky×V)),(∀p∈S,lI p.2.2)→∀p∈l.foldl (ins (RG r)) S,lI p.2.2:=by
  intro l
  induction l with
  |nil=>intro S h;exact h
  |cons e l ih=>intro S h;exact ih _ (Po h)
 exact this l [] (by simp)
theorem MU{x:Sl E3}{S:List (Ky×V)}{w:List (Int×Int)}{i:Nat}(hs:okS 3 x)(hi:i<x.l.length)(hn:S.length≤100000):aM (de x (S.map kz,w,(i:Int))) 0=some (.inl ((pos S x.l[i]:Nat):Int)):=by
 have ei:=bS hs hi;have hb:∀j (hj:j<S.length),bel (kz S[j]) x.l[i]=klt S[j].1 (key x.l[i]):=fun j hj=>rfl;refine go (pos S x.l[i]) (fun j=>(j:Int)) rfl (fun j hj=> ?_) ?_
 ·have hjl:j<S.length:=Nat.lt_of_lt_of_le hj (Kp _ _);have ej:atL (S.map kz) (j:Int)=some (kz S[j]):=ci (by simp [hjl]);simp only [de,ej,ei,zbS,jQ,hb j hjl,Kq hjl hj,if_true,List.length_map,cd hjl (by omega)];rw [if_pos (by omega)]
 ·by_cases hl:pos S x.l[i]<S.length
  ·have ej:atL (S.map kz) ((pos S x.l[i]:Nat):Int)=some (kz S[pos S x.l[i]]):=ci (by simp [hl]);simp only [de,ej,ei,zbS,jQ,hb _ hl,Kr hl,List.length_map];rw [if_pos (by omega),if_neg (by simp)]
  ·simp only [de,List.length_map];rw [if_neg (by omega)]
theorem BY{r:Int}{x:Sl E3}(hs:okS 3 x)(hn:x.l.length≤65536):aM (eO r x) ([],[],0)=some (.inl ((eJ (RG r) x.l).map kz,(eJ (RG r) x.l).map (·.2))):=by
 refine go x.l.length (fun j=>((eJ (RG r) (x.l.take j)).map kz,(eJ (RG r) (x.l.take j)).map (·.2),(j:Int))) (by simp [eJ]) (fun j hj=> ?_) ?_
 ·have hlen:=BX (RG r) (x.l.take j);have hlj:(x.l.take j).length≤65536:=by simp;omega
  rw [List.take_succ_eq_append_getElem hj,Iw];generalize eJ (RG r) (x.l.take j)=S at hlen ⊢;have hf:=MU (S:=S) (w:=S.map (·.2)) hs hj (by omega);have ej:=bS hs hj;have hp:=Kp S x.l[j];have hat:= @Kr S x.l[j];have hi:=BW (RG r) x.l[j] S;generalize hA:pos S x.l[j]=a at hf hp hat hi;generalize x.l[j]=e at ej hf hat hi;have ap1:app (S.map kz) [((0:Int),(0:Int),(0:Int))]=some (S.map kz++ [(0,0,0)]):=dn (by simp;unfold bi;omega);have ap2:app (S.map (·.2)) [((0:Int),(0:Int))]=some (S.map (·.2)++ [(0,0)]):=dn (by simp;unfold bi;omega);have hw1:IntKind.i64.wrap ((((S.map kz++ [((0:Int),(0:Int),(0:Int))]).length:Nat):Int) - 1)=((S.map kz).length:Int):=by simp only [List.length_append,List.length_map,List.length_cons,List.length_nil];rw [wrap64 (by omega) (by omega)];omega
  have ta:((a:Nat):Int).toNat=a:=Int.toNat_natCast _;have hl2:(S.map (·.2)).length=(S.map kz).length:=by simp
  have hak:a≤(S.map kz).length:=by simpa using hp
  have has:a≤(S.map (·.2)).length:=by simpa using hp
  obtain⟨y2,z2,sh2⟩:=zy (b:=dh (a:Int)) (.inl rfl) hl2 (by simp;omega) hak (0,0,0) (0,0);obtain⟨y3,z3,sh3⟩:=zy (b:=dj (a:Int)) (.inr rfl) hl2 (by simp;omega) hak (0,0,0) (0,0);have i2:=ci (mK hak y2);have j2:=ci (mK has z2);have i3:=ci (mK hak y3);have j3:=ci (mK has z3);have hne:∀{α:Type} (l:List α) k y,neL (dz l k y)=some ():=fun l k y=>LA (by unfold dz;simp);simp only [eO,hf,zbS,Sum.elim_inl,ej,FB,List.length_map];rw [if_pos (by omega)];by_cases hl:a<S.length
  ·rw [if_pos (by omega)];have e1:atL (S.map kz) (a:Int)=some (kz S[a]):=ci (by simp [hl]);have e2:atL (S.map (·.2)) (a:Int)=some S[a].2:=ci (by simp [hl]);have hk:bel e (kz S[a])=klt (key e) S[a].1:=rfl;simp only [e1,e2,zbS,jQ,hk,DN,ap1,ap2,hw1,sh2,Sum.elim_inl,i2,j2,ta,kp hak,kp has,hne,cd hj (by omega)];rw [dif_pos hl]at hi;by_cases hc:klt (key e) S[a].1=true
   ·rw [if_pos hc]at hi;rw [if_neg (by simp [hc]),hi,DO,DO];rfl
   ·rw [if_neg hc]at hi;rw [if_pos (by simpa using hc),hi,List.map_set,List.map_set]
    have:(S.map kz).set a (kz (S[a].1,(RG r).ad S[a].2 ((RG r).o e.2.2)))=S.map kz:=by
     have hk2:kz (S[a].1,(RG r).ad S[a].2 ((RG r).o e.2.2))=(S.map kz)[a]'(by simpa using hl):=by simp [kz]
     rw [hk2,List.set_getElem_self]
    rw [this]
  ·rw [if_neg (by omega)];rw [dif_neg hl]at hi;have hae:a=S.length:=by omega
   simp only [zbS,ap1,ap2,hw1,sh3,Sum.elim_inl,i3,j3,ta,kp hak,kp has,hne,cd hj (by omega)];rw [hi,hae]
   have q1:dz (S.map kz) S.length (e.1,e.2.1,(0:Int))=S.map kz++ [(e.1,e.2.1,0)]:=by
    have:=mL (S.map kz) (e.1,e.2.1,(0:Int));rwa [List.length_map]at this
   have q2:dz (S.map (·.2)) S.length (ofW e.2.2)=S.map (·.2)++ [ofW e.2.2]:=by
    have:=mL (S.map (·.2)) (ofW e.2.2);rwa [List.length_map]at this
   rw [q1,q2];simp [kz,key]
 ·simp only [eO,List.take_length];rw [if_neg (by omega)]
theorem ua{r:Int}{x:Sl E3}(hs:okS 3 x)(hn:x.l.length≤65536)(hr:fw r=true):dP r x=some (mo 3 (fV (RG r) x.l).1,(fV (RG r) x.l).2):=by
 rw [rF,wi,hr];simp only [zbS,not_true_eq_false,if_false];rw [BY hs hn];simp only [zbS,Sum.elim_inl];have hlen:=BX (RG r) x.l;have hlo:=Pp r x.l;unfold fV;generalize eJ (RG r) x.l=S at hlen hlo ⊢
 obtain⟨q,q1,q2⟩:=gN (b:=eP (S.map kz,S.map (·.2))) S.length (fun j st=>st=((S.take j).map (toE (RG r))++(S.drop j).map kz,(j:Int))∧∀p∈S.take j,(cg p.2).2=true) (fun q=>(S.all (fun p=>(cg p.2).2)=true∧q= .inl (S.map (toE (RG r))))∨(S.all (fun p=>(cg p.2).2)=false∧q= .inr (.inl ([],12))))
  (by
   rintro j _ hj ⟨rfl,ha⟩;have e2:atL (S.map (·.2)) (j:Int)=some S[j].2:=ci (by simp [hj]);have hln:((S.take j).map (toE (RG r))++(S.drop j).map kz).length=S.length:=by simp;omega
   have e1:atL ((S.take j).map (toE (RG r))++(S.drop j).map kz) (j:Int)=some (kz S[j]):=ci (by
    rw [List.getElem?_append_right (by simp;omega)]
    simp [List.getElem?_drop,show min j S.length=j by omega,hj])
   have hN:du S[j].2=some (cg S[j].2):=wh (hlo _ (List.getElem_mem hj));simp only [eP,hln,e2,zbS,hN,e1,cd hj (by omega),Int.toNat_natCast];rw [if_pos (by omega)];by_cases hc:(cg S[j].2).2=true
   ·rw [if_neg (by simpa using hc)];refine .inl ⟨_,rfl,?_,?_⟩
    ·rw [Prod.mk.injEq];refine⟨?_,rfl⟩;rw [List.take_succ_eq_append_getElem hj,List.set_append_right _ _ (by simp;omega)];simp only [List.length_map,List.length_take,show min j S.length=j by omega,Nat.sub_self,List.map_append,List.map_cons,List.map_nil];rw [List.drop_eq_getElem_cons hj,List.map_cons,List.set_cons_zero,List.append_assoc];simp [toE,kz]
    ·intro p hp;rw [List.take_succ_eq_append_getElem hj]at hp;rcases List.mem_append.1 hp with hp|hp
     ·exact ha p hp
     ·simp at hp;subst hp;exact hc
   ·rw [if_pos (by simpa using hc)];refine .inr ⟨_,rfl,.inr ⟨?_,rfl⟩⟩;rw [Bool.eq_false_iff];intro hh
    exact hc (List.all_eq_true.1 hh _ (List.getElem_mem hj)))
  (by
   rintro _ ⟨rfl,ha⟩;simp only [eP,List.take_length,List.drop_length,List.map_nil,List.append_nil,List.length_map];rw [List.take_length]at ha;rw [if_neg (by omega)]
   exact⟨_,rfl,.inl ⟨List.all_eq_true.2 ha,rfl⟩⟩) 0 (Nat.zero_le _) (S.map kz,0) ⟨by simp,by simp⟩
 rw [q1];rcases q2 with⟨h,rfl⟩|⟨h,rfl⟩
 ·rw [if_pos h];rfl
 ·rw [if_neg (by rw [h];simp)];rfl
end Ev
end
noncomputable section
namespace Ev
open Go Sm
def okN(n:Int)(l:List P2):Bool:=l.all fun y=>decide (0≤y.1∧y.1<n)
def ofL(r n:Int)(l:List P2):(Int×List P2)×Int:=
 if fw r=true then if dK n=true∧okN n l=true then(if(fV (RG r) (l.map Sm.It.tri)).2=0 then((n,Sm.It.outI (RG r) l),0)else((0,[]),(fV (RG r) (l.map Sm.It.tri)).2))else((0,[]),3)else((0,[]),8)
theorem Ks(n:Int):Sm.It.szB n=dK n:=by
 unfold Sm.It.szB dK;by_cases h:n ≥ 0
 ·rw [if_pos h,decide_eq_true (show 0≤n from h)];rfl
 ·rw [if_neg h,decide_eq_false (show¬0≤n from h)];rfl
theorem Pq(n:Int)(l:List P2):l.any (Sm.It.badI n)= !okN n l:=by
 unfold okN;rw [List.not_all_eq_any_not];congr 1;funext y;unfold Sm.It.badI;rw [Bool.eq_iff_iff];simp only [decide_eq_true_eq,Bool.not_eq_true',decide_eq_false_iff_not];omega
theorem MV(r:Int)(l:List E3):(fV (RG r) l).2=0∨fV (RG r) l=([],12):=by
 unfold fV;split
 ·exact .inl rfl
 ·exact .inr rfl
theorem FC{r:Int}{l:List P2}(h:¬(fV (RG r) (l.map Sm.It.tri)).2=0):Sm.It.outI (RG r) l= []:=by
 have:=(MV r (l.map Sm.It.tri)).resolve_left h
 unfold Sm.It.outI;rw [this];rfl
theorem FD(a:Int×Int):eX (cg a).1:=by
 unfold cg;split
 ·exact Do _
 ·unfold eX;omega
theorem DP{r n:Int}{l:List P2}(h:okN n l=true):asc (-1) n (Sm.It.outI (RG r) l)=true∧(∀y∈Sm.It.outI (RG r) l,eX y.2)∧(Sm.It.outI (RG r) l).length≤l.length:=by
 unfold Sm.It.outI fV
 have hk:∀p∈eJ (RG r) (l.map Sm.It.tri),∃y∈l,p.1=(0,y.1):=fun p hp=>by
  obtain⟨e,he,hk⟩:=GW (((mF (RG r) (l.map Sm.It.tri)).2 p.1 p.2).1 hp);obtain⟨y,hy,rfl⟩:=List.mem_map.1 he;exact⟨y,hy,hk.symm⟩
 have hlen:=BX (RG r) (l.map Sm.It.tri);rw [List.length_map]at hlen;have hp:=(mF (RG r) (l.map Sm.It.tri)).1;generalize eJ (RG r) (l.map Sm.It.tri)=S at hk hlen hp;by_cases hc:S.all (fun p=>((RG r).na p.2).2)=true
 ·rw [if_pos hc];simp only [List.map_map,List.length_map];refine⟨Bh ?_ ?_,?_,hlen⟩
  ·rw [List.pairwise_map];refine hp.imp_of_mem fun{a b} ha hb hab=> ?_;obtain⟨y,_,e1⟩:=hk a ha;obtain⟨z,_,e2⟩:=hk b hb;show a.1.2<b.1.2;unfold klt at hab;rw [e1,e2]at hab;rw [e1,e2];simpa using hab
  ·intro y hy;obtain⟨p,hp,rfl⟩:=List.mem_map.1 hy;obtain⟨z,hz,e1⟩:=hk p hp;have h3:=List.all_eq_true.1 h z hz;simp only [decide_eq_true_eq]at h3;show -1<p.1.2∧p.1.2<n;rw [e1];exact⟨by show -1<z.1;omega,h3.2⟩
  ·intro y hy;obtain⟨p,hp,rfl⟩:=List.mem_map.1 hy;exact FD _
 ·rw [if_neg hc];exact⟨rfl,by simp,by simp⟩
theorem zA(r n:Int)(l:List P2)(nn:Bool)(sz:Nat):cB ((ofL r n l).1.1,⟨nn,sz,(ofL r n l).1.2⟩)=true∧(∀y∈(ofL r n l).1.2,eX y.2):=by
 unfold ofL;split
 ·split
  ·rename_i h;split
   ·obtain⟨h1,h2,h3⟩:=DP (r:=r) h.2;refine⟨?_,h2⟩;show(dK n && asc (-1) n (Sm.It.outI (RG r) l))=true;rw [h.1,h1];rfl
   ·exact⟨rfl,by simp⟩
  ·exact⟨rfl,by simp⟩
 ·exact⟨rfl,by simp⟩
theorem MW(r n:Int)(l:List P2):(ofL r n l).1.1=n∨(ofL r n l).1.1=0:=by
 unfold ofL;split
 ·split
  ·split
   ·exact .inl rfl
   ·exact .inr rfl
  ·exact .inr rfl
 ·exact .inr rfl
theorem Hl{n:Int}(h:eX n):Sm.It.inB n=true:=by
 unfold eX at h;unfold Sm.It.inB;rw [decide_eq_true h.1,decide_eq_true h.2];rfl
theorem wl{r n:Int}{s:Sl P2}(hs:okS 2 s)(hn:s.nn=true∨s.l= [])(hl:s.l.length≤90000)(hw:∀y∈s.l,eX y.1∧eX y.2):∃t:Sl P2,kd r n s=some (((ofL r n s.l).1.1,t),(ofL r n s.l).2)∧t.l=(ofL r n s.l).1.2∧okS 2 t∧(t.nn=true∨t.l= []):=by
 have hok:Sm.It.okB s=true:=by
  unfold Sm.It.okB;rw [decide_eq_true hl,List.all_eq_true.2 (fun y hy=>by rw [Hl (hw y hy).1,Hl (hw y hy).2];rfl)];simp only [Bool.true_and,Bool.and_eq_true,Bool.or_eq_true,decide_eq_true_eq,List.isEmpty_iff];exact⟨hs.elim .inr .inl,hn⟩
 have hI:∀l:List P2,okS 2 (Sm.It.slI l)∧(Sm.It.slI l).l=l∧((Sm.It.slI l).nn=true∨(Sm.It.slI l).l= []):=fun l=>by
  unfold Sm.It.slI;split
  ·rename_i h;subst h;exact⟨.inl rfl,rfl,.inr rfl⟩
  ·exact⟨.inr rfl,rfl,.inl rfl⟩
 show∃t:Sl P2,Sm.It.fn (r,n,s)=_∧_;unfold Sm.It.fn ofL;simp only;by_cases h1:fw r=true
 ·rw [if_pos h1,if_pos hok,if_pos h1,Ks,Pq];by_cases h2:dK n=true∧okN n s.l=true
  ·rw [if_pos ⟨h2.1,by rw [h2.2];rfl⟩,if_pos h2];by_cases h3:(fV (RG r) (s.l.map Sm.It.tri)).2=0
   ·rw [if_pos h3];refine⟨Sm.It.slI (Sm.It.outI (RG r) s.l),?_,(hI _).2.1,(hI _).1,(hI _).2.2⟩;show some (((if(fV (RG r) (s.l.map Sm.It.tri)).2=0 then n else 0),Sm.It.slI (Sm.It.outI (RG r) s.l)),(fV (RG r) (s.l.map Sm.It.tri)).2)=_;rw [if_pos h3,h3]
   ·rw [if_neg h3];refine⟨Sm.It.slI (Sm.It.outI (RG r) s.l),?_,by rw [FC h3];rfl,(hI _).1,(hI _).2.2⟩;show some (((if(fV (RG r) (s.l.map Sm.It.tri)).2=0 then n else 0),Sm.It.slI (Sm.It.outI (RG r) s.l)),(fV (RG r) (s.l.map Sm.It.tri)).2)=_;rw [if_neg h3]
  ·rw [if_neg (fun h=>h2 ⟨h.1,by simpa using h.2⟩),if_neg h2];exact⟨_,rfl,rfl,.inl rfl,.inr rfl⟩
 ·rw [if_neg h1,if_neg h1];exact⟨_,rfl,rfl,.inl rfl,.inr rfl⟩
theorem Oc{n:Int}{l:List P2}{j:Nat}(hj:j<l.length)(h:l[j].1<0∨l[j].1 ≥ n):okN n l=false:=by
 rw [Bool.eq_false_iff];intro ha
 have:=List.all_eq_true.1 ha _ (List.getElem_mem hj)
 simp only [decide_eq_true_eq]at this;omega
theorem yR{n:Int}{s:Sl P2}(hs:okS 2 s)(hl:s.l.length≤65536):aM (gV n s) ([],0,0,[])=some (if okN n s.l=true then .inl (s.l.map Sm.It.tri,0,[])else .inr (.inl (3,0,[]))):=by
 obtain⟨q,q1,q2⟩:=gN (b:=gV n s) s.l.length (fun j st=>st=((s.l.take j).map Sm.It.tri,(j:Int),0,[])∧∀y∈s.l.take j,0≤y.1∧y.1<n) (fun q=>q=if okN n s.l=true then .inl (s.l.map Sm.It.tri,0,[])else .inr (.inl (3,0,[])))
  (by
   rintro j _ hj ⟨rfl,ha⟩;have ej:=bS hs hj;have hlen:((s.l.take j).map Sm.It.tri).length≤65536:=by rw [List.length_map,List.length_take];omega
   simp only [gV,ej,zbS,cd hj (by omega)];rw [if_pos (by omega)];by_cases c1:s.l[j].1<0
   ·rw [if_pos c1];exact .inr ⟨_,rfl,by rw [Oc hj (.inl c1)];rfl⟩
   by_cases c2:s.l[j].1 ≥ n
   ·rw [if_neg c1,if_pos c2];exact .inr ⟨_,rfl,by rw [Oc hj (.inr c2)];rfl⟩
   rw [if_neg c1,if_neg c2,dn (by simp only [List.length_cons,List.length_nil];unfold bi;omega)];refine .inl ⟨_,rfl,?_,fun y hy=> ?_⟩
   ·rw [List.take_succ_eq_append_getElem hj,List.map_append];rfl
   ·rw [List.take_succ_eq_append_getElem hj]at hy;rcases List.mem_append.1 hy with hy|hy
    ·exact ha y hy
    ·obtain rfl:=List.mem_singleton.1 hy;omega)
  (by
   rintro _ ⟨rfl,ha⟩;rw [List.take_length]at ha;simp only [gV];rw [if_neg (by omega),show okN n s.l=true from List.all_eq_true.2 fun y hy=>by simpa using ha y hy,List.take_length]
   exact⟨_,rfl,rfl⟩) 0 (Nat.zero_le _) ([],0,0,[]) ⟨rfl,by simp⟩
 rw [q1,q2]
theorem wm{n e:Int}{l:List E3}(hl:l.length≤65536):aM (gW (mo 3 l,e)) (0,n,[])=some (.inl (n,l.map fun x=>(x.2.1,x.2.2))):=by
 have H:=ko (l:=l) (n:=n) (g:=fun x=>some (x.2.1,x.2.2)) (b:=gW (mo 3 l,e)) (fun j hj acc hacc=> ?_) (fun acc=> ?_)
 ·rw [H,BQ]
 ·have ej:atS 3 (mo 3 l) (j:Int)=some l[j]:=Re (List.getElem?_eq_getElem hj);simp only [gW,ld,ej,zbS,cd hj (by omega)];rw [if_pos (by omega),dn (by simp only [List.length_cons,List.length_nil];unfold bi;omega)];rfl
 ·simp only [gW,ld];rw [if_neg (by omega)]
theorem wo{r n:Int}{s:Sl P2}(hs:okS 2 s)(hl:s.l.length≤65536):iO r n s=some (((ofL r n s.l).1.1,mo 2 (ofL r n s.l).1.2),(ofL r n s.l).2):=by
 rw [DH,wi];unfold ofL
 cases hr:fw r with
 |false=>rfl
 |true=>
  simp only [zbS,not_true_eq_false,if_false,if_true];by_cases h1:dK n=true
  ·obtain⟨g1,g2⟩:=sizeF_iff.1 h1;rw [if_neg (by omega),if_neg (by omega),yR hs hl];by_cases h2:okN n s.l=true
   ·rw [if_pos h2,if_pos (show dK n=true∧okN n s.l=true from⟨h1,h2⟩)];simp only [zbS,Sum.elim_inl];rw [ua (jt _) (by rw [ld,List.length_map];exact hl) hr];simp only [ld,zbS];by_cases h3:(fV (RG r) (s.l.map Sm.It.tri)).2=0
    ·rw [if_neg (fun h=>h h3),if_pos h3]
     have hlen:(fV (RG r) (s.l.map Sm.It.tri)).1.length≤65536:=by
      have:=(DP (r:=r) h2).2.2
      unfold Sm.It.outI at this;rw [List.length_map]at this;omega
     rw [wm hlen];rfl
    ·rw [if_pos h3,if_neg h3];rfl
   ·rw [if_neg h2,if_neg (show¬(dK n=true∧okN n s.l=true)from fun h=>h2 h.2)];rfl
  ·rw [if_neg (show¬(dK n=true∧okN n s.l=true)from fun h=>h1 h.1)]
   have:¬(0≤n∧n≤4096):=fun h=>h1 (sizeF_iff.2 h)
   by_cases h3:n<0
   ·rw [if_pos h3];rfl
   ·rw [if_neg h3,if_pos (by omega)];rfl
def Hm(n:Nat)(x:Int):List P2:=(List.range n).map fun(i:Nat)=>((i:Int),x)
theorem BZ{n:Int}(h:dK n=true)(x:Int):fx n x=some (n,⟨true,2,Hm n.toNat x⟩):=by
 obtain⟨g1,g2⟩:=sizeF_iff.1 h;obtain⟨k,rfl⟩:=Int.eq_ofNat_of_zero_le g1;rw [nG,kJ,h];simp only [zbS,not_true_eq_false,if_false];rw [wX,Ki (by omega)];simp only [zbS,Int.toNat_natCast];have H:=zx (l:=List.range k) (z:=((0,0):P2)) (g:=fun(i:Nat)=>((i:Int),x)) (b:=gJ (k:Int) x) (fun j hj acc hacc=> ?_) (fun acc=> ?_)
 ·rw [List.length_range]at H;rw [H];rfl
 ·rw [List.length_range]at hj;simp only [gJ,Cs hacc,zbS,cd hj (by omega),Int.toNat_natCast,List.getElem_range];rw [if_pos (by omega)]
 ·simp only [gJ,List.length_range];rw [if_neg (by omega)]
theorem Ca{n:Int}(h:dK n=true)(x:Int):fy n x=some (n,mo 2 (Hm n.toNat x)):=by
 obtain⟨g1,g2⟩:=sizeF_iff.1 h;obtain⟨k,rfl⟩:=Int.eq_ofNat_of_zero_le g1;rw [nH,if_neg (by omega),if_neg (by omega)];have H:=ko (l:=List.range k) (n:=(k:Int)) (g:=fun(i:Nat)=>some ((i:Int),x)) (b:=gK (k:Int) x) (fun j hj acc hacc=> ?_) (fun acc=> ?_)
 ·rw [H,BQ];rfl
 ·rw [List.length_range]at hj;simp only [gK,cd hj (by omega),List.getElem_range];rw [if_pos (by omega),dn (by simp only [List.length_cons,List.length_nil];unfold bi;omega)];rfl
 ·simp only [gK,List.length_range];rw [if_neg (by omega)]
theorem IS(n x:Int):∃v w:Vec,fx n x=some v∧fy n x=some w∧aZ v w=some true:=by
 cases h:dK n with
 |true=>
  refine⟨_,_,BZ h x,Ca h x,?_⟩;obtain⟨g1,g2⟩:=sizeF_iff.1 h;exact gx (by show(Hm n.toNat x).length≤_;unfold Hm;rw [List.length_map,List.length_range];omega) (.inr rfl) (jt _) rfl (ld _ _).symm
 |false=>
  refine⟨MF,MF,?_,?_,gx (by simp [MF,Rd]) (.inl rfl) (.inl rfl) rfl rfl⟩
  ·rw [nG,kJ,h];rfl
  ·have:¬(0≤n∧n≤4096):=fun hh=>by rw [sizeF_iff.2 hh]at h;cases h
   rw [nH];by_cases h3:n<0
   ·rw [if_pos h3];rfl
   ·rw [if_neg h3,if_pos (by omega)];rfl
end Ev
end
noncomputable section
namespace Ev
namespace K
open Go Go.RowKit
def jn(E:Env)(k:FuncId):List TD→Option (Kind×List TD):=fun vs=>match cpR E 60 k vs with
 |some (.own,rs)=>some (.fresh,rs)
 |r=>r
theorem IT{P:Program}{k:FuncId}{vs rs:List TD}(h:dr P k vs .own rs):dr P k vs .fresh rs:=fun w F ys a b c=>(h w F ys a b c).mono fun e w' ⟨y,h1,h2,h3,h4⟩=>by
 have e0:(fun b=>b<w.heap.size∧(Kind.own≠ .any∨F b))=(fun b=>b<w.heap.size∧(Kind.fresh≠ .any∨F b)):=by funext b;simp
 rw [e0]at h2;exact⟨y,h1,h2,fun h=>by simp at h,h4⟩
theorem cO{E:Env}(hE:E.Ok){k:FuncId}(he:Enters E.P k):∀vs kind rs,jn E k vs=some (kind,rs)→dr E.P k vs kind rs∧Enters E.P k:=fun vs kind rs h=>by
 refine⟨?_,he⟩;unfold jn at h;split at h
 ·rename_i rs' hc;cases h;exact IT ((wL hc).pure hE)
 ·exact(wL h).pure hE
theorem kq{E:Env}{k:FuncId}{vs:List TD}{kind:Kind}{rs:List TD}(r:RunsP E 60 k vs (kind,rs)):jn E k vs=some (match kind with| .own=> .fresh|q=>q,rs):=by
 unfold jn;rw [jR r];cases kind<;>rfl
@[reducible] def Ri:OutK→OutK
 | .data fr ts=> .data fr ts
 | .own e=> .data true [(false,.S e)]
 | .mown e=> .data true [(false,.S e)]
 | .gown e=> .data true [(false,.S e)]
def Wh:(o:OutK)→o.val→(Ri o).val
 | .data _ _,x=>x
 | .own e,l=>(⟨true,e.size,l⟩:Sl e.val)
 | .mown e,l=>mo e.size l
 | .gown _,s=>s
def ep(en:aF):aF:=⟨en.k,en.ins,Ri en.out,fun a=>(en.f a).map (Wh en.out),1⟩
theorem cP{E E2:Env}{en:aF}(ok:af E en)(hd:en.d≤60)(hax:E2.ax en.k=some (jn E en.k)):af E2 (ep en):=fun m a out h=>by
 obtain⟨k,ins,o,f,d⟩:=en;obtain⟨x,h1,rfl⟩:=Option.map_eq_some_iff.1 h;have r:=ok (60 - d) a x h1;rw [show 60 - d+d=60 by dsimp only at hd;omega]at r
 cases o with
 |data fr ts=>
  cases fr with
  |true=>
   have r:RunsP E 60 k (bp ins a) (.fresh,bp ts x):=r;exact gf hax (kq r)
  |false=>
   have r:Ep E 60 k (bp ins a) (bp ts x):=r;obtain⟨fr,hf⟩:=r;refine⟨fr,gf hax ((kq hf).trans ?_)⟩;cases fr<;>rfl
 |own e=>
  have r:RunsP E 60 k (bp ins a) (.own,[.one (.s true e.size (x.map e.row))]):=r;exact gf hax (kq r)
 |mown e=>
  have r:RunsP E 60 k (bp ins a) (PZ e.size e.row x):=r
  cases x with
  |nil=>exact gf hax (kq r)
  |cons y l=>exact gf hax (kq r)
 |gown e=>
  have r:RunsP E 60 k (bp ins a) (bif x.nn then .own else .fresh,[.one (.s x.nn x.sz (x.l.map e.row))]):=r;obtain⟨nn,sz,l⟩:=x;cases nn<;>exact gf hax (kq r)
end K
end Ev
end
noncomputable section
namespace Ev
namespace K
open Go Go.RowKit
set_option maxRecDepth 100000
set_option maxHeartbeats 1000000
def ax2:Ax:=(aJ (aJ (aJ (aJ (aJ (aJ (aJ (aJ (aJ (aJ (aJ (aJ (aJ (aJ (aJ (aJ (aJ (aJ (fun _=>none) 10 zv) 11 (jn E1 11)) 14 (jn E1 14)) 15 (jn E1 15)) 16 (jn E1 16)) 17 (jn E1 17)) 18 (jn E1 18)) 19 (jn E1 19)) 20 (jn E1 20)) 21 (jn E1 21)) 22 (jn E1 22)) 23 (jn E1 23)) 24 (jn E1 24)) 25 (jn E1 25)) 26 (jn E1 26)) 27 (jn E1 27)) 28 (jn E1 28)) 29 (jn E1 29))
theorem Rj:Ev.Enters Try.prog 11:=⟨_,_,Try.func11,by kernel_rfl,by unfold Try.f11;rfl⟩
theorem Rk:Ev.Enters Try.prog 14:=⟨_,_,Try.func14,by kernel_rfl,by unfold Try.f14;rfl⟩
theorem Rm:Ev.Enters Try.prog 15:=⟨_,_,Try.func15,by kernel_rfl,by unfold Try.f15;rfl⟩
theorem Rn:Ev.Enters Try.prog 16:=⟨_,_,Try.func16,by kernel_rfl,by unfold Try.f16;rfl⟩
theorem Ro:Ev.Enters Try.prog 17:=⟨_,_,Try.func17,by kernel_rfl,by unfold Try.f17;rfl⟩
theorem Rp:Ev.Enters Try.prog 18:=⟨_,_,Try.func18,by kernel_rfl,by unfold Try.f18;rfl⟩
theorem Rq:Ev.Enters Try.prog 19:=⟨_,_,Try.func19,by kernel_rfl,by unfold Try.f19;rfl⟩
theorem Rr:Ev.Enters Try.prog 20:=⟨_,_,Try.func20,by kernel_rfl,by unfold Try.f20;rfl⟩
theorem Rs:Ev.Enters Try.prog 21:=⟨_,_,Try.func21,by kernel_rfl,by unfold Try.f21;rfl⟩
theorem Rt:Ev.Enters Try.prog 22:=⟨_,_,Try.func22,by kernel_rfl,by unfold Try.f22;rfl⟩
theorem Ru:Ev.Enters Try.prog 23:=⟨_,_,Try.func23,by kernel_rfl,by unfold Try.f23;rfl⟩
theorem Rv:Ev.Enters Try.prog 24:=⟨_,_,Try.func24,by kernel_rfl,by unfold Try.f24;rfl⟩
theorem Rw:Ev.Enters Try.prog 25:=⟨_,_,Try.func25,by kernel_rfl,by unfold Try.f25;rfl⟩
theorem Rx:Ev.Enters Try.prog 26:=⟨_,_,Try.func26,by kernel_rfl,by unfold Try.f26;rfl⟩
theorem Ry:Ev.Enters Try.prog 27:=⟨_,_,Try.func27,by kernel_rfl,by unfold Try.f27;rfl⟩
theorem Rz:Ev.Enters Try.prog 28:=⟨_,_,Try.func28,by kernel_rfl,by unfold Try.f28;rfl⟩
theorem RA:Ev.Enters Try.prog 29:=⟨_,_,Try.func29,by kernel_rfl,by unfold Try.f29;rfl⟩
theorem Pr:Cf Try.prog ax2:=(ak (ak (ak (ak (ak (ak (ak (ak (ak (ak (ak (ak (ak (ak (ak (ak (ak (ak (rO _) (Hg Kl)) (cO aO Rj)) (cO aO Rk)) (cO aO Rm)) (cO aO Rn)) (cO aO Ro)) (cO aO Rp)) (cO aO Rq)) (cO aO Rr)) (cO aO Rs)) (cO aO Rt)) (cO aO Ru)) (cO aO Rv)) (cO aO Rw)) (cO aO Rx)) (cO aO Ry)) (cO aO Rz)) (cO aO RA))
def E2:Env:=wJ Try.prog ax2
theorem Od:E2.Ok:=qk CR CS Pr
theorem Ps:JB E2 TT:=bA
theorem MX:JC E2.P EQS:=aV
theorem wq:af E2 (ep iq):=cP nC (by decide) (by kernel_rfl)
theorem yS:af E2 (ep lX):=cP BA (by decide) (by kernel_rfl)
theorem yU:af E2 (ep jw):=cP pQ (by decide) (by kernel_rfl)
theorem yV:af E2 (ep jz):=cP pT (by decide) (by kernel_rfl)
theorem ub:af E2 (ep dU):=cP iR (by decide) (by kernel_rfl)
theorem uc:af E2 (ep gI):=cP mb (by decide) (by kernel_rfl)
theorem yW:af E2 (ep jv):=cP pz (by decide) (by kernel_rfl)
theorem yX:af E2 (ep lY):=cP BB (by decide) (by kernel_rfl)
theorem wt:af E2 (ep kK):=cP yj (by decide) (by kernel_rfl)
theorem wu:af E2 (ep kM):=cP yB (by decide) (by kernel_rfl)
theorem oy:af E2 (ep gr):=cP pR (by decide) (by kernel_rfl)
theorem rJ:af E2 (ep iP):=cP tR (by decide) (by kernel_rfl)
theorem rK:af E2 (ep iQ):=cP tU (by decide) (by kernel_rfl)
theorem ud:af E2 (ep jL):=cP vH (by decide) (by kernel_rfl)
theorem ue:af E2 (ep jM):=cP vN (by decide) (by kernel_rfl)
theorem wv:af E2 (ep io):=cP nB (by decide) (by kernel_rfl)
theorem ww:af E2 (ep kP):=cP yD (by decide) (by kernel_rfl)
theorem Kt:af E2 rq:=fun m a out h=>by
 obtain rfl:=Option.some.inj h;exact gf (F:=zv) rfl rfl
def qa:bQ:= []
def jC:KG:=⟨TT,EQS,[rq,ep iq,ep lX,ep jw,ep jz,ep dU,ep gI,ep jv,ep lY,ep kK,ep kM,ep gr,ep iP,ep iQ,ep jL,ep jM,ep io,ep kP],[]⟩
def dM:aE [yD1,yD5,(false,.I .i64)]→Option (OutK.val (.data true [(false,.B)])):=ce jC qa fi4 4 0 [yD1,yD5,(false,.I .i64)] (.data true [(false,.B)])
def jD:aF:=⟨4,[yD1,yD5,(false,.I .i64)],.data true [(false,.B)],dM,2⟩
theorem nf:GOk jC E2 1:=gok Od Ps MX ⟨⟨by decide,Kt⟩,⟨⟨by decide,wq⟩,⟨⟨by decide,yS⟩,⟨⟨by decide,yU⟩,⟨⟨by decide,yV⟩,⟨⟨by decide,ub⟩,⟨⟨by decide,uc⟩,⟨⟨by decide,yW⟩,⟨⟨by decide,yX⟩,⟨⟨by decide,wt⟩,⟨⟨by decide,wu⟩,⟨⟨by decide,oy⟩,⟨⟨by decide,rJ⟩,⟨⟨by decide,rK⟩,⟨⟨by decide,ud⟩,⟨⟨by decide,ue⟩,⟨⟨by decide,wv⟩,⟨⟨by decide,ww⟩,trivial⟩⟩⟩⟩⟩⟩⟩⟩⟩⟩⟩⟩⟩⟩⟩⟩⟩⟩ trivial
theorem Wi:E2.fn 4=some fi4:=aR Try.func4 (by unfold Try.f4;rfl)
theorem oz:af E2 jD:=aD nf (by kernel_rfl) Wi (by kernel_rfl) rfl
end K
end Ev
end
noncomputable section
namespace Ev
open Go Go.RowKit
def dM(x:Int×(Sl (Int×Int)))(y:Int×Int)(z:Int):Option (Bool):=K.dM (x,y,z)
end Ev
end
noncomputable section
namespace Ev
open Go Go.RowKit
set_option maxRecDepth 100000
set_option maxHeartbeats 1000000
theorem oA(x:Int×Sl (Int×Int))(y:Int×Int)(z:Int):dM x y z=((iE x).map fun x=>x).bind fun(out:Int×Sl (Int×Int))=>((gq out y.fst).map fun x=>x).bind fun(out_1:Int×Bool)=>((gu out y.fst).map fun x=>x).bind fun(out_2:Int×Bool)=>FL10.bind fun(out_3:Bool)=>if out_3=true then((dq out).map fun x=>x).bind fun(out_4:Bool)=>((eo out).map fun x=>x).bind fun(out_5:Bool)=>if decide (out_4=true)=decide (out_5=true)then if out_1.fst=out_2.fst then if decide (out_1.snd=true)=decide (out_2.snd=true)then((iz out y.fst z).map fun x=>x).bind fun(out_6:Int×Sl (Int×Int))=>((iF out y.fst z).map fun x=>x).bind fun(out_7:Int×Sl (Int×Int))=>((aZ out_6 out_7).map fun x=>x).bind fun(out_8:Bool)=>if out_8=true then((iM out y.fst).map fun x=>x).bind fun(out_9:Int×Sl (Int×Int))=>((gv out y.fst).map fun x=>x).bind fun(out_10:Int×Sl (Int×Int))=>((aZ out_9 out_10).map fun x=>x).bind fun(out_11:Bool)=>if out_11=true then((eM out).map fun x=>(mo 1 x)).bind fun(out_12:Sl Int)=>((eN out).map fun x=>(mo 1 x)).bind fun(out_13:Sl Int)=>((cD out_12 out_13).map fun x=>x).bind fun(out_14:Bool)=>if out_14=true then((fI out).map fun x=>x).bind fun(out_15:Int×Sl (Int×Int))=>((fJ out).map fun x=>x).bind fun(out_16:Int×Sl (Int×Int))=>((aZ out_15 out_16).map fun x=>x).bind fun(out_17:Bool)=>if out_17=true then((cT out y.fst y.snd).map fun x=>x).bind fun(out_18:Int×Sl (Int×Int))=>((gw out y.fst y.snd).map fun x=>x).bind fun(out:Int×Sl (Int×Int))=>((aZ out_18 out).map fun x=>x).bind fun(out:Bool)=>some (decide (out=true))else some false else some false else some false else some false else some false else some false else some false else some false:=by kernel_rfl
end Ev
end
noncomputable section
namespace Ev
open Go Sm
def qb:List Vec→Int×List P2→(Int×List P2)×Int
 | [],st=>(st,0)
 |v::r,st=>if st.1+(aj v).1>4096 then((0,[]),5)else qb r (st.1+(aj v).1,st.2++upL st.1 (aj v).2.l)
def Pv(x:(Int×List P2)×Int):(Int×Sl P2)×Int:=((x.1.1,mo 2 x.1.2),x.2)
def Vok(v:Vec):Prop:=okS 2 v.2∧v.2.l.length≤9223372036854775806
theorem Ku(v:Vec):((aj v).2.l.length:Int)≤(aj v).1:=by
 have h:=bq v;have h1:=fH h;rcases Bi (cj h)with h2|h2
 ·rw [h2];simpa using h1.1
 ·omega
theorem RE{v:Vec}{N:Int}(h0:0≤N)(h1:N≤4096):∀y∈(aj v).2.l,-9223372036854775808≤y.1+N∧y.1+N≤9223372036854775807:=fun y hy=>by
 have h2:=gH (cj (bq v)) y hy;have h3:=fH (bq v);omega
theorem uf{s:Sl Vec}(hs:okS 2 s)(hl:s.l.length≤100000)(hv:∀v∈s.l,Vok v):∀(k j:Nat) (N:Int) (L:List P2),s.l.length=j+k→0≤N→N≤4096→(L.length:Int)≤N→∃r,aM (L2.spvec_Glue_b1 s) ((j:Int),N,L)=some r∧Sum.elim (fun(x:Int×List P2)=>((x.1,mo 2 x.2),(0:Int))) (fun u=>u) r=Pv (qb (s.l.drop j) (N,L)):=by
 intro k
 induction k with
 |zero=>
  intro j N L hj h0 h1 hL;refine⟨.inl (N,L),je ?_,?_⟩
  ·simp only [L2.spvec_Glue_b1];rw [if_neg (by omega)]
  ·rw [List.drop_eq_nil_of_le (by omega)];rfl
 |succ k ih=>
  intro j N L hj h0 h1 hL;have hlt:j<s.l.length:=by omega
  have ej:=bS hs hlt;obtain⟨v1,v2⟩:=hv _ (List.getElem_mem hlt);rw [List.drop_eq_getElem_cons hlt];generalize s.l[j]=v at ej v1 v2;have e1:L2.spvec_sure (v.1,v.2)=some (aj v):=ct v1 v2;have e2:L2.spvec_moved (aj v).2 N=some (upL N (aj v).2.l):=DK (cW v1) (by have:=cC v;omega) (RE h0 h1);have hn:=fH (bq v);have hf:=Ku v;have hw:IntKind.i64.wrap (N+(aj v).1)=N+(aj v).1:=by rw [wrap64 (by omega) (by omega)]
  have key:L2.spvec_Glue_b1 s ((j:Int),N,L)=if N+(aj v).1>4096 then some (.inr (.inr ((0,⟨false,0,[]⟩),5)))else some (.inl (((j+1:Nat):Int),N+(aj v).1,L++upL N (aj v).2.l)):=by
   obtain⟨vn,vs⟩:=v;simp only at e1;generalize aj (vn,vs)=w at e1 e2 hn hf hw;obtain⟨wn,ws⟩:=w;have hul:(upL N ws.l).length=ws.l.length:=ur _ _;simp only [L2.spvec_Glue_b1,ej,zbS,e1,e2,cd hlt (by omega),hw];rw [if_pos (by omega)];simp only at hf hn;generalize upL N ws.l=U at hul
   cases U with
   |nil=>
    cases L with
    |nil=>rfl
    |cons y t=>
     dsimp only;rw [show app (y::t) ([]:List P2)=some (y::t++ [])from dn (by simp only [List.length_nil];unfold bi;omega)];rfl
   |cons y t=>
    dsimp only;rw [show app L (y::t)=some (L++y::t)from dn (by unfold bi;omega)];rfl
  unfold qb;by_cases hc:N+(aj v).1>4096
  ·rw [if_pos hc]at key;rw [if_pos hc];exact⟨_,je key,rfl⟩
  ·rw [if_neg hc]at key;rw [if_neg hc];obtain⟨r,r1,r2⟩:=ih (j+1) (N+(aj v).1) (L++upL N (aj v).2.l) (by omega) (by omega) (by omega) (by rw [List.length_append,ur];omega);exact⟨r,(kZ key).trans r1,r2⟩
theorem Cb{s:Sl Vec}(hs:okS 2 s)(hl:s.l.length≤100000)(hv:∀v∈s.l,Vok v):spvec_Glue s=some (Pv (qb s.l (0,[]))):=by
 obtain⟨r,r1,r2⟩:=uf hs hl hv s.l.length 0 0 [] (by omega) (by omega) (by omega) (by simp);show L2.spvec_Glue s=_;unfold L2.spvec_Glue;rw [show aM (L2.spvec_Glue_b1 s) (0,0,([]:List P2))=some r from r1,zbS];rw [List.drop_zero]at r2;rw [←r2];cases r<;>rfl
theorem jE{x y:Vec}(h1:x.1=y.1)(h2:x.2.l=y.2.l):cB x=cB y:=by unfold cB;rw [h1,h2]
theorem FE{x y:Vec}(h1:x.1=y.1)(h2:x.2.l=y.2.l):(aj x).1=(aj y).1∧(aj x).2.l=(aj y).2.l:=by
 unfold aj;rw [jE h1 h2];split
 ·exact⟨h1,h2⟩
 ·exact⟨rfl,rfl⟩
theorem oB{x y:Vec}(h1:x.2.l.length≤9223372036854775806)(hx:okS 2 x.2)(hy:okS 2 y.2)(e1:x.1=y.1)(e2:x.2.l=y.2.l):cq x y=some true:=by
 rw [BV h1 (by rw [←e2];exact h1) hx hy,decide_eq_true (FE e1 e2)]
structure Sv(v:Vec):Prop where
 r:cB v=true
 ok:okS 2 v.2
 nn:v.2.nn=true∨v.2.l= []
 small:v.1≤60
 v64:∀y∈v.2.l,eX y.2
theorem RF{α:Type}{w:Nat}(l:List α):(mo w l).nn=true∨(mo w l).l= []:=by
 cases l with
 |nil=>exact .inr rfl
 |cons a l=>exact .inl rfl
theorem qc{n:Int}(hn:0≤n∧n≤255){s:Sl P2}(hs:okS 2 s)(hl:s.l.length≤9223372036854775807)(hw:∀y∈s.l,eX y.2):∃v,fB n s=some v∧Sv v:=by
 have hz:ng (IntKind.i64.wrap n) 60=some (n % 60):=by
  unfold ng;rw [if_pos (by decide),wrap64 (by omega) (by omega),Int.tmod_eq_emod_of_nonneg hn.1]
 rw [yL,hz];simp only [zbS];have hz0:0≤n % 60∧n % 60<60:=by omega
 generalize n % 60=z at hz0
 obtain⟨q,q1,acc,rfl,a1,a2⟩:=gN (b:=gL s z) s.l.length (fun j st=>j≤60∧∃acc:List P2,st=(acc,(j:Int))∧acc.length≤j∧∀y∈acc,eX y.2) (fun q=>∃acc:List P2,q= .inl acc∧acc.length≤60∧∀y∈acc,eX y.2)
  (by
   rintro j _ hj ⟨h60,acc,rfl,a1,a2⟩;have ej:=bS hs hj;simp only [gL,ej,zbS,cd hj (by omega)];rw [if_pos (by omega)];by_cases c1:(j:Int)<60
   ·rw [if_pos c1];by_cases c2:z>0
    ·rw [if_pos c2];by_cases c3:s.l[j].1 ≥ 0
     ·rw [if_pos c3,show ng s.l[j].1 z=some (s.l[j].1.tmod z)by unfold ng;rw [if_pos (by omega)]];simp only [zbS];rw [dn (by simp only [List.length_cons,List.length_nil];unfold bi;omega)];refine .inl ⟨_,rfl,by omega,_,rfl,by simp;omega,fun y hy=> ?_⟩;rcases List.mem_append.1 hy with hy|hy
      ·exact a2 y hy
      ·obtain rfl:=List.mem_singleton.1 hy;exact hw s.l[j] (List.getElem_mem hj)
     ·rw [if_neg c3];exact .inl ⟨_,rfl,by omega,acc,rfl,by omega,a2⟩
    ·rw [if_neg c2];exact .inr ⟨_,rfl,acc,rfl,by omega,a2⟩
   ·rw [if_neg c1];exact .inr ⟨_,rfl,acc,rfl,by omega,a2⟩)
  (by
   rintro _ ⟨h60,acc,rfl,a1,a2⟩;simp only [gL];rw [if_neg (by omega)]
   exact⟨_,rfl,acc,rfl,by omega,a2⟩) 0 (Nat.zero_le _) ([],0) ⟨by omega,[],rfl,by simp,by simp⟩
 rw [q1];simp only [zbS,Sum.elim_inl];rw [wo (jt _) (by rw [ld];omega)];simp only [ld,zbS];refine⟨_,rfl,?_⟩;have hr:=zA 1 z acc true 2;refine⟨?_,jt _,RF _,?_,?_⟩
 ·exact(jE (x:=((ofL 1 z acc).1.1,mo 2 (ofL 1 z acc).1.2)) (y:=((ofL 1 z acc).1.1,⟨true,2,(ofL 1 z acc).1.2⟩)) rfl (ld _ _)).trans hr.1
 ·show(ofL 1 z acc).1.1≤60;rcases MW 1 z acc with h|h<;>omega
 ·intro y hy;have hy:y∈(mo 2 (ofL 1 z acc).1.2).l:=hy;rw [ld]at hy;exact hr.2 y hy
theorem Kv{x:Int}(h:eX x):IntKind.i64.wrap (IntKind.u64.wrap x)=x:=by
 rw [pw,IntKind.wrap_i64];unfold eX at h;omega
theorem wx{x:Int}(h:eX x):cg (ofW x)=(x,true):=by
 unfold cg
 have:IntKind.i64.wrap (ofW x).2=x:=Kv h
 rw [this,if_pos rfl]
theorem IU{r n:Int}{l:List P2}(hr:fw r=true)(hn:dK n=true)(ha:asc (-1) n l=true)(hw:∀y∈l,eX y.2):ofL r n l=((n,l),0):=by
 have hm:=gH ha
 have hk:eJ (RG r) (l.map Sm.It.tri)=(l.map Sm.It.tri).map fun e=>(key e,ofW e.2.2):=Dj (RG r) _ (by
  rw [List.pairwise_map];refine(cA ha).imp fun{a b} h=> ?_;unfold klt key Sm.It.tri;simp only [decide_eq_true_eq]
  exact .inr ⟨trivial,h⟩)
 have hs:fV (RG r) (l.map Sm.It.tri)=(l.map Sm.It.tri,0):=by
  unfold fV;rw [hk,if_pos]
  ·congr 1;rw [List.map_map,List.map_map];refine List.map_congr_left fun y hy=> ?_;show((0:Int),y.1,(cg (ofW y.2)).1)=_;rw [wx (hw y hy)];rfl
  ·rw [List.all_eq_true];intro p hp;obtain⟨e,he,rfl⟩:=List.mem_map.1 hp;obtain⟨y,hy,rfl⟩:=List.mem_map.1 he;show(cg (ofW y.2)).2=true;rw [wx (hw y hy)]
 unfold ofL;rw [if_pos hr,if_pos ⟨hn,List.all_eq_true.2 fun y hy=>by have:=hm y hy;simp;omega⟩,hs,if_pos rfl];unfold Sm.It.outI;rw [hs,List.map_map];congr 2
 conv=>rhs;rw [←List.map_id l]
 exact List.map_congr_left fun y hy=>rfl
end Ev
end
end Go.Proofs.Ythkgcllekhnecaa
