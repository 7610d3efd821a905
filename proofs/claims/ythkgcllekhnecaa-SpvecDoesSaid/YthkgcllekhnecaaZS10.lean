/- Texts of a claim, joined. -/
import Derived.Test.YthkgcllekhnecaaZS9
import Derived.KernelRfl
import Derived.Test.YthkgcllekhnecaaZS5
import Derived.Shelf.SlSortCmp.WholeK
import Derived.Laws.AppendOwnNone
import Derived.Test.YthkgcllekhnecaaProg
import Derived.Maps.RangeWalk
import Derived.Maps.Ext
import Derived.WideKeyArr
import Derived.Shelf.SlSortCmp.NoneTotal
set_option linter.unusedVariables false
set_option linter.unusedSimpArgs false
namespace Go.Proofs.Ythkgcllekhnecaa
noncomputable section
namespace Sm
abbrev V:=Int×Int
structure Rg where
 o:Int→V
 ad:V→V→V
 na:V→Int×Bool
abbrev Ky:=Int×Int
def key(e:Int×Int×Int):Ky:=(e.1,e.2.1)
def klt(a b:Ky):Bool:=decide (a.1<b.1∨a.1=b.1∧a.2<b.2)
theorem pq(a:Ky):klt a a=false:=by simp [klt]
theorem zr{a b c:Ky}(h1:klt a b=true)(h2:klt b c=true):klt a c=true:=by simp [klt]at*;omega
theorem AP{a b:Ky}(h1:klt a b=false)(h2:klt b a=false):a=b:=by
 simp [klt]at*;refine Prod.ext ?_ ?_<;>omega
theorem JP{a b:Ky}(h:klt a b=true):a≠b:=by rintro rfl;rw [pq]at h;cases h
theorem JQ{a b:Ky}(h:klt a b=true):klt b a=false:=by simp [klt]at*;omega
def toE(R:Rg)(p:Ky×V):Int×Int×Int:=(p.1.1,p.1.2,(R.na p.2).1)
def upd(R:Rg)(f:Ky→Option V)(e:Int×Int×Int):Ky→Option V:=fun k=>if k=key e then some (match f (key e)with|some s=>R.ad s (R.o e.2.2)|none=>R.o e.2.2)else f k
def fm(R:Rg)(l:List (Int×Int×Int)):Ky→Option V:=l.foldl (upd R) (fun _=>none)
theorem Mu(R:Rg)(l:List (Int×Int×Int))(e:Int×Int×Int):fm R (l++ [e])=upd R (fm R l) e:=by simp [fm]
def ins(R:Rg):List (Ky×V)→(Int×Int×Int)→List (Ky×V)
 | [],e=> [(key e,R.o e.2.2)]
 |p::S,e=>if klt p.1 (key e)=true then p::ins R S e else if klt (key e) p.1=true then(key e,R.o e.2.2)::p::S else(p.1,R.ad p.2 (R.o e.2.2))::S
def eJ(R:Rg)(l:List (Int×Int×Int)):List (Ky×V):=l.foldl (ins R) []
theorem Iw(R:Rg)(l:List (Int×Int×Int))(e:Int×Int×Int):eJ R (l++ [e])=ins R (eJ R l) e:=by simp [eJ]
def Rep(S:List (Ky×V))(f:Ky→Option V):Prop:=S.Pairwise (fun p q=>klt p.1 q.1=true)∧∀k z,(k,z)∈S↔f k=some z
theorem Rep.nil:Rep [] (fun _=>none):=⟨List.Pairwise.nil,by simp⟩
theorem GV(R:Rg)(e:Int×Int×Int):∀(S:List (Ky×V)) (q:Ky×V),q∈ins R S e→q.1=key e∨q∈S
 | [],q,h=>by simp [ins]at h;subst h;exact .inl rfl
 |p::S,q,h=>by
  unfold ins at h;split at h
  ·rcases List.mem_cons.1 h with rfl|h
   ·exact .inr (by simp)
   ·rcases GV R e S q h with h|h
    ·exact .inl h
    ·exact .inr (by simp [h])
  ·split at h
   ·rcases List.mem_cons.1 h with rfl|h
    ·exact .inl rfl
    ·exact .inr h
   ·rename_i h1 h2;rcases List.mem_cons.1 h with rfl|h
    ·exact .inl (AP (by simpa using h1) (by simpa using h2))
    ·exact .inr (by simp [h])
theorem uW(R:Rg)(e:Int×Int×Int):∀(S:List (Ky×V)),S.Pairwise (fun p q=>klt p.1 q.1=true)→(ins R S e).Pairwise (fun p q=>klt p.1 q.1=true)
 | [],_=>by simp [ins]
 |p::S,h=>by
  obtain⟨h1,h2⟩:=List.pairwise_cons.1 h;unfold ins;split
  ·rename_i hp;refine List.pairwise_cons.2 ⟨fun q hq=> ?_,uW R e S h2⟩;rcases GV R e S q hq with h|h
   ·rw [h];exact hp
   ·exact h1 q h
  ·split
   ·rename_i hp;refine List.pairwise_cons.2 ⟨fun q hq=> ?_,h⟩;rcases List.mem_cons.1 hq with rfl|hq
    ·exact hp
    ·exact zr hp (h1 q hq)
   ·exact List.pairwise_cons.2 ⟨h1,h2⟩
theorem Pc(R:Rg)(e:Int×Int×Int):∀(S:List (Ky×V)) (f:Ky→Option V),Rep S f→Rep (ins R S e) (upd R f e)
 |S,f,h=>⟨uW R e S h.1,by
  intro k z
  have hmem:∀(S:List (Ky×V)),S.Pairwise (fun p q=>klt p.1 q.1=true)→((k,z)∈ins R S e↔if k=key e then(∃s,(k,s)∈S∧z=R.ad s (R.o e.2.2))∨((∀s,(k,s)∉ S)∧z=R.o e.2.2)else(k,z)∈S):=by
   intro S
   induction S with
   |nil=>intro _;simp [ins,key]
   |cons p S ih=>
    intro hs;obtain⟨h1,h2⟩:=List.pairwise_cons.1 hs;unfold ins;split
    ·rename_i hp;rw [List.mem_cons,ih h2];by_cases hk:k=key e
     ·have hne:∀s,(k,s)≠p:=fun s hs=>JP hp (by rw [←hs];exact hk);simp [hk];rw [←hk];simp [hne]
     ·simp [hk]
    ·split
     ·rename_i hp0 hp
      have hno:∀s,(key e,s)∉ p::S:=by
       intro s hs;rcases List.mem_cons.1 hs with rfl|hs
       ·rw [pq]at hp;cases hp
       ·have:=zr hp (h1 _ hs)
        rw [pq]at this;cases this
      by_cases hk:k=key e
      ·subst hk;rw [List.mem_cons];simp only [if_true];constructor
       ·rintro(h|h)
        ·exact .inr ⟨hno,by cases h;rfl⟩
        ·exact absurd h (hno _)
       ·rintro(⟨s,h,_⟩|⟨_,rfl⟩)
        ·exact absurd h (hno _)
        ·exact .inl rfl
      ·rw [List.mem_cons,if_neg hk];constructor
       ·rintro(h|h)
        ·cases h;exact absurd rfl hk
        ·exact h
       ·exact .inr
     ·rename_i hp0 hp;have he:p.1=key e:=AP (by simpa using hp0) (by simpa using hp)
      have hno:∀s,(key e,s)∉ S:=by
       intro s hs
       have:=h1 _ hs
       rw [he,pq]at this;cases this
      by_cases hk:k=key e
      ·subst hk;simp only [if_true];rw [List.mem_cons];constructor
       ·rintro(h|h)
        ·exact .inl ⟨p.2,by rw [←he];simp,by have:=congrArg Prod.snd h;exact this⟩
        ·exact absurd h (hno _)
       ·rintro(⟨s,h,rfl⟩|⟨h,_⟩)
        ·rcases List.mem_cons.1 h with h|h
         ·left
          rw [←h]
         ·exact absurd h (hno _)
        ·exact absurd (show(key e,p.2)∈p::S by rw [←he];simp) (h _)
      ·rw [List.mem_cons,if_neg hk,List.mem_cons];constructor
       ·rintro(h|h)
        ·exact absurd (by rw [←he];exact congrArg Prod.fst h) hk
        ·exact .inr h
       ·rintro(h|h)
        ·exact absurd (by rw [←he,←h]) hk
        ·exact .inr h
  rw [hmem S h.1];unfold upd;by_cases hk:k=key e
  ·subst hk;simp only [if_true]
   cases hf:f (key e)with
   |none=>
    have hno:∀s,(key e,s)∉ S:=fun s hs=>by rw [h.2,hf]at hs;cases hs
    simp [hno,eq_comm]
   |some s=>
    have hs:=(h.2 (key e) s).2 hf;simp only [zsI];constructor
    ·rintro(⟨s',h',rfl⟩|⟨h',_⟩)
     ·rw [h.2,hf]at h';cases h';rfl
     ·exact absurd hs (h' _)
    ·rintro rfl;exact .inl ⟨s,hs,rfl⟩
  ·simp [hk,h.2]⟩
theorem mF(R:Rg)(l:List (Int×Int×Int)):Rep (eJ R l) (fm R l):=by
 have:∀(l:List (Int×Int×Int)) (S:List (Ky×V)) (f:Ky→Option V),Rep S f→Rep (l.foldl (ins R) S) (l.foldl (upd R) f):=by
  intro l
  induction l with
  |nil=>intro S f h;exact h
  |cons e l ih=>intro S f h;exact ih _ _ (Pc R e S f h)
 exact this l [] _ Rep.nil
theorem Rep.nodup{S:List (Ky×V)}{f:Ky→Option V}(h:Rep S f):S.Nodup:=h.1.imp fun{a b} h e=>by rw [e,pq]at h;cases h
theorem Rep.perm{S T:List (Ky×V)}{f:Ky→Option V}(h:Rep S f)(hT:(T.map (·.1)).Nodup)(h1:∀p∈T,f p.1=some p.2)(h2:∀k z,f k=some z→(k,z)∈T):T.Perm S:=by
 have hTn:T.Nodup:=by
  have:=List.pairwise_map.1 hT
  exact this.imp fun{a b} h e=>h (by rw [e])
 refine(List.perm_ext_iff_of_nodup hTn h.nodup).2 fun p=>⟨fun hp=>(h.2 p.1 p.2).2 (h1 p hp),fun hp=>h2 p.1 p.2 ((h.2 p.1 p.2).1 hp)⟩
theorem Di(R:Rg)(e:Int×Int×Int):∀(S:List (Ky×V)),(∀p∈S,klt p.1 (key e)=true)→ins R S e=S++ [(key e,R.o e.2.2)]
 | [],_=>rfl
 |p::S,h=>by
  unfold ins;rw [if_pos (h p (by simp)),Di R e S (fun q hq=>h q (by simp [hq]))];rfl
theorem Dj(R:Rg):∀(l:List (Int×Int×Int)),l.Pairwise (fun a b=>klt (key a) (key b)=true)→eJ R l=l.map (fun e=>(key e,R.o e.2.2)):=by
 intro l
 have:∀(m l:List (Int×Int×Int)),(l++m).Pairwise (fun a b=>klt (key a) (key b)=true)→m.foldl (ins R) (l.map (fun e=>(key e,R.o e.2.2)))=(l++m).map (fun e=>(key e,R.o e.2.2)):=by
  intro m
  induction m with
  |nil=>intro l _;simp
  |cons e m ih=>
   intro l h;rw [List.foldl_cons,Di]
   ·have:=ih (l++ [e]) (by simpa using h)
    simpa using this
   ·intro p hp;obtain⟨a,ha,rfl⟩:=List.mem_map.1 hp;exact(List.pairwise_append.1 h).2.2 a ha e (by simp)
 intro h
 have:=this l [] h
 simpa [eJ]using this
theorem GW{R:Rg}:∀{l:List (Int×Int×Int)} {k:Ky} {z:V},fm R l k=some z→∃e∈l,key e=k:=by
 intro l
 have:∀(l:List (Int×Int×Int)) (f:Ky→Option V) (k:Ky) (z:V),l.foldl (upd R) f k=some z→(∃e∈l,key e=k)∨∃z,f k=some z:=by
  intro l
  induction l with
  |nil=>intro f k z h;exact .inr ⟨z,h⟩
  |cons e l ih=>
   intro f k z h;rcases ih _ _ _ h with⟨e',h1,h2⟩|⟨z',h2⟩
   ·exact .inl ⟨e',by simp [h1],h2⟩
   ·unfold upd at h2;split at h2
    ·rename_i hk;exact .inl ⟨e,by simp,hk.symm⟩
    ·exact .inr ⟨z',h2⟩
 intro k z h;rcases this l _ k z h with h|⟨z,h⟩
 ·exact h
 ·cases h
def fV(R:Rg)(l:List (Int×Int×Int)):List (Int×Int×Int)×Int:=if(eJ R l).all (fun p=>(R.na p.2).2)=true then((eJ R l).map (toE R),0)else([],12)
theorem Ix{R:Rg}{l:List (Int×Int×Int)}{k:Ky}{z:V}(hk:fm R l k=some z)(hz:(R.na z).2=false):fV R l=([],12):=by
 have hm:=((mF R l).2 k z).2 hk
 have:¬(eJ R l).all (fun p=>(R.na p.2).2)=true:=by
  intro ha
  have:=List.all_eq_true.1 ha _ hm
  rw [hz]at this;cases this
 simp only [fV,if_neg this]
theorem Iy(R:Rg)(l l':List (Int×Int×Int))(T:List (Ky×V))(hT:T.Perm (eJ R l))(hp:l'.Perm (T.map (toE R)))(hs:l'.Pairwise (fun a b=>klt (key b) (key a)=false)):l'=(eJ R l).map (toE R):=by
 have hp2:l'.Perm ((eJ R l).map (toE R)):=hp.trans (hT.map (toE R));have hc:=(mF R l).1
 have hs2:((eJ R l).map (toE R)).Pairwise (fun a b=>klt (key b) (key a)=false):=by
  rw [List.pairwise_map];exact hc.imp fun{a b} h=>JQ h
 have hn:((eJ R l).map (toE R)).Pairwise (fun a b=>key a≠key b):=by
  rw [List.pairwise_map];exact hc.imp fun{a b} h=>JP h
 refine hp2.eq_of_pairwise (le:=fun a b=>klt (key b) (key a)=false) (fun a b ha hb h1 h2=> ?_) hs hs2;have hk:key a=key b:=AP h2 h1;have ha':=hp2.mem_iff.1 ha;have hb':=hb;obtain⟨i,hi,rfl⟩:=List.mem_iff_getElem.1 ha';obtain⟨j,hj,rfl⟩:=List.mem_iff_getElem.1 hb';have hpw:=List.pairwise_iff_getElem.1 hn;rcases Nat.lt_trichotomy i j with h|h|h
 ·exact absurd hk (hpw i j hi hj h)
 ·subst h;rfl
 ·exact absurd hk.symm (hpw j i hj hi h)
theorem JR{R:Rg}{l:List (Int×Int×Int)}(ha:∀k z,fm R l k=some z→(R.na z).2=true):fV R l=((eJ R l).map (toE R),0):=by
 have:(eJ R l).all (fun p=>(R.na p.2).2)=true:=List.all_eq_true.2 fun p hp=>ha p.1 p.2 (((mF R l).2 p.1 p.2).1 hp)
 simp only [fV,if_pos this]
end Sm
end
noncomputable section
open Go.RowKit Go.Sort
namespace Sm
open Ev
@[go_sem] abbrev WV (p:V):Value:= .agg #[.int .i64 p.1,.int .u64 p.2]
abbrev Ed:=Int×Int×Int
def AQ(n:Int):Prop:= -9223372036854775808≤n∧n≤9223372036854775807
def Iz(x y:Int):Int:=if x<y then -1 else if y<x then 1 else 0
def orI(x y:Int):Int:=if x=0 then y else x
def el(l:List Ed)(i:Nat):Ed:=l.getD i (0,0,0)
theorem Fc{l:List Ed}{i:Nat}(h:i<l.length):el l i∈l:=by
 simp [el,List.getD_eq_getElem?_getD,h]
theorem AR(l:List Ed)(i:Nat)(h:i<l.length):(l.toArray)[i]! =el l i:=by
 simp [el,List.getD_eq_getElem?_getD,h]
theorem GX{l:List Ed}{j:Nat}(h:j<l.length):l.take (j+1)=l.take j++ [el l j]:=by
 rw [List.take_succ_eq_append_getElem h];simp [el,List.getD_eq_getElem?_getD,h]
theorem GY(g i:Nat):((⟨g,0,none⟩:Addr).add i)=⟨g,i,none⟩:=by unfold Addr.add;split<;>simp_all
theorem pr(a:Addr)(k:Nat):a.add (k+1)=⟨a.block,(a.add k).off+1,none⟩:=by
 unfold Addr.add;by_cases h:k=0
 ·subst h;simp
 ·simp [h];omega
def PT:T→Option Value
 | .v x=>if x.oneCell' then some x else none
 | .s _ _ _=>none
def PTs:List T→Option (List Value)
 | []=>some []
 |t::r=>(PT t).bind fun x=>(PTs r).map (x::·)
def PD:TD→Option Value
 | .one t=>PT t
 | .agg ts=>(PTs ts).map fun l=> .agg l.toArray
theorem JS{t:T}{x:Value}(h:PT t=some x)(w:World)(F:Nat→Prop):RepT w F t x∧∀y,RepT w F t y→y=x:=by
 cases t with
 |s=>simp [PT]at h
 |v z=>
  simp only [PT]at h;split at h
  ·rename_i hz;cases h;exact⟨.v _ hz,fun y hy=>by cases hy;rfl⟩
  ·simp at h
theorem GZ:∀{ts:List T} {l:List Value},PTs ts=some l→∀(w:World) (F:Nat→Prop),RepTs w F ts l∧∀ys,RepTs w F ts ys→ys=l
 | [],l,h,w,F=>by
  simp [PTs]at h;subst h;exact⟨⟨rfl,by simp⟩,fun ys hy=>by have:=hy.1;simpa using this.symm⟩
 |t::r,l,h,w,F=>by
  simp only [PTs,zbE,Option.map_eq_some_iff]at h;obtain⟨x,hx,l',hl,rfl⟩:=h;obtain⟨h1,h2⟩:=JS hx w F;obtain⟨h3,h4⟩:=GZ hl w F;refine⟨⟨by simp [h3.1],fun i t' hi=> ?_⟩,fun ys hy=> ?_⟩
  ·cases i with
   |zero=>simp at hi;subst hi;exact⟨x,rfl,h1⟩
   |succ i=>obtain⟨y,e1,e2⟩:=h3.2 i t' (by simpa using hi);exact⟨y,by simpa using e1,e2⟩
  ·obtain⟨hl,hy⟩:=hy
   cases ys with
   |nil=>simp at hl
   |cons y ys=>
    obtain⟨y',e1,e2⟩:=hy 0 t rfl;simp at e1;subst e1
    rw [h2 _ e2,h4 ys ⟨by simpa using hl,fun i t' hi=>by
     obtain⟨z,f1,f2⟩:=hy (i+1) t' (by simpa using hi)
     exact⟨z,by simpa using f1,f2⟩⟩]
theorem JT{t:TD}{x:Value}(h:PD t=some x)(w:World)(F:Nat→Prop):RepTD w F t x∧∀y,RepTD w F t y→y=x:=by
 cases t with
 |one t=>
  obtain⟨h1,h2⟩:=JS h w F;exact⟨.one _ _ h1,fun y hy=>by cases hy with|one _ _ hy=>exact h2 _ hy⟩
 |agg ts=>
  simp only [PD,Option.map_eq_some_iff]at h;obtain⟨l,hl,rfl⟩:=h;obtain⟨h1,h2⟩:=GZ hl w F;exact⟨.agg _ _ h1,fun y hy=>by cases hy with|agg _ ys hy=>rw [h2 _ hy]⟩
def PDs:List TD→Option (List Value)
 | []=>some []
 |t::r=>(PD t).bind fun x=>(PDs r).map (x::·)
theorem uk:∀{ts:List TD} {l:List Value},PDs ts=some l→∀(w:World) (F:Nat→Prop),jJ w F ts l∧∀ys,jJ w F ts ys→ys=l
 | [],l,h,w,F=>by
  simp [PDs]at h;subst h;exact⟨⟨rfl,by simp⟩,fun ys hy=>by have:=hy.1;simpa using this.symm⟩
 |t::r,l,h,w,F=>by
  simp only [PDs,zbE,Option.map_eq_some_iff]at h;obtain⟨x,hx,l',hl,rfl⟩:=h;obtain⟨h1,h2⟩:=JT hx w F;obtain⟨h3,h4⟩:=uk hl w F;refine⟨⟨by simp [h3.1],fun i t' hi=> ?_⟩,fun ys hy=> ?_⟩
  ·cases i with
   |zero=>simp at hi;subst hi;exact⟨x,rfl,h1⟩
   |succ i=>obtain⟨y,e1,e2⟩:=h3.2 i t' (by simpa using hi);exact⟨y,by simpa using e1,e2⟩
  ·obtain⟨hl,hy⟩:=hy
   cases ys with
   |nil=>simp at hl
   |cons y ys=>
    obtain⟨y',e1,e2⟩:=hy 0 t rfl;simp at e1;subst e1
    rw [h2 _ e2,h4 ys ⟨by simpa using hl,fun i t' hi=>by
     obtain⟨z,f1,f2⟩:=hy (i+1) t' (by simpa using hi)
     exact⟨z,by simpa using f1,f2⟩⟩]
def PR:List TD→Option Value
 | [r]=>PD r
 |rs=>(PDs rs).map fun l=> .tuple l.toArray
theorem JU{rs:List TD}{x:Value}(h:PR rs=some x)(w:World)(F:Nat→Prop){y:Value}(hy:qY w F rs y):y=x:=by
 match rs,h,hy with
 | [],h,⟨ys,e,hy⟩=>
  simp [PR,PDs]at h;subst h;rw [e,(uk (ts:= []) (l:= []) rfl w F).2 _ hy]
 | [r],h,hy=>exact(JT h w F).2 _ hy
 |r::r'::rs,h,⟨ys,e,hy⟩=>
  simp only [PR,Option.map_eq_some_iff]at h;obtain⟨l,hl,rfl⟩:=h;rw [e,(uk hl w F).2 _ hy]
theorem gR{P:Program}{k:FuncId}{vs:List TD}{kind:Kind}{rs:List TD}(h:dr P k vs kind rs){ys:List Value}{y:Value}(h1:PDs vs=some ys)(h2:PR rs=some y)(w:World)(hL:LD w.heap.size w):Calls P k ys.toArray w fun e w'=>e= .returned y∧Below w.heap.size w w':=by
 refine(h w (fun _=>False) ys hL (fun _ h=>h.elim) (uk h1 w _).1).mono fun e w' ⟨y',e1,e2,_,e3⟩=>⟨?_,e3⟩;rw [e1,JU h2 w' _ e2]
end Sm
end
noncomputable section
open Go.Shelf Go.RowKit Go.Lib Go.Sort
namespace Sm
namespace It
abbrev Ed:=Int×Int
def el(l:List Ed)(i:Nat):Ed:=l.getD i (0,0)
theorem Fc{l:List Ed}{i:Nat}(h:i<l.length):el l i∈l:=by
 simp [el,List.getD_eq_getElem?_getD,h]
theorem AR(l:List Ed)(i:Nat)(h:i<l.length):(l.toArray)[i]! =el l i:=by
 simp [el,List.getD_eq_getElem?_getD,h]
theorem GX{l:List Ed}{j:Nat}(h:j<l.length):l.take (j+1)=l.take j++ [el l j]:=by
 rw [List.take_succ_eq_append_getElem h];simp [el,List.getD_eq_getElem?_getD,h]
def key(e:Ed):Int:=e.1
def klt(a b:Int):Bool:=decide (a<b)
def Fd(a b:Ed):Int:=Iz a.1 b.1
theorem Mv(a b:Ed):Fd a b<0↔klt (key a) (key b)=true:=by
 unfold Fd Iz klt key;simp only [decide_eq_true_eq];split<;>(try split)<;>omega
def IA:Go.Shelf.Ren:=⟨fun|6=>41|15=>61|14=>60|28=>80|29=>81|20=>72|21=>73|22=>74|23=>75|24=>76|25=>77|26=>78|27=>79|46=>86|47=>87|48=>88|49=>89|50=>90|57=>92|n=>n,fun|22=>23|24=>30|25=>69|3=>3|39=>85|0=>0|53=>102|55=>60|4=>4|46=>96|45=>95|50=>76|5=>5|9=>9|66=>104|70=>108|76=>111|77=>112|n=>n,fun|n=>n⟩
theorem NZ:Go.Proofs.SlLaysF0.n6 Try.prog IA:=
 {
  mixed:=by kernel_rfl,
  f6:=⟨Try.f41.name,by decide,Try.func41.trans (congrArg some (by kernel_rfl))⟩,
  f14:=⟨Try.f60.name,by decide,Try.func60.trans (congrArg some (by kernel_rfl))⟩,
  f15:=Try.func61.trans (congrArg some (by kernel_rfl)),
  f20:=⟨Try.f72.name,by decide,Try.func72.trans (congrArg some (by kernel_rfl))⟩,
  f21:=⟨Try.f73.name,by decide,Try.func73.trans (congrArg some (by kernel_rfl))⟩,
  f22:=⟨Try.f74.name,by decide,Try.func74.trans (congrArg some (by kernel_rfl))⟩,
  f23:=⟨Try.f75.name,by decide,Try.func75.trans (congrArg some (by kernel_rfl))⟩,
  f24:=⟨Try.f76.name,by decide,Try.func76.trans (congrArg some (by kernel_rfl))⟩,
  f25:=⟨Try.f77.name,by decide,Try.func77.trans (congrArg some (by kernel_rfl))⟩,
  f26:=⟨Try.f78.name,by decide,Try.func78.trans (congrArg some (by kernel_rfl))⟩,
  f27:=⟨Try.f79.name,by decide,Try.func79.trans (congrArg some (by kernel_rfl))⟩,
  f28:=Try.func80.trans (congrArg some (by kernel_rfl)),
  f29:=Try.func81.trans (congrArg some (by kernel_rfl)),
  f46:=⟨Try.f86.name,by decide,Try.func86.trans (congrArg some (by kernel_rfl))⟩,
  f47:=Try.func87.trans (congrArg some (by kernel_rfl)),
  f48:=Try.func88.trans (congrArg some (by kernel_rfl)),
  f49:=⟨Try.f89.name,by decide,Try.func89.trans (congrArg some (by kernel_rfl))⟩,
  f50:=⟨Try.f90.name,by decide,Try.func90.trans (congrArg some (by kernel_rfl))⟩,
  f57:=⟨Try.f92.name,by decide,Try.func92.trans (congrArg some (by kernel_rfl))⟩,
  t0:=Try.underlying0,
  a0:=Try.isAgg0,
  z0:=Try.sizeOf0,
  v0:=Try.zeroValue0,
  t3:=Try.underlying3,
  a3:=Try.isAgg3,
  z3:=Try.sizeOf3,
  v3:=Try.zeroValue3,
  t4:=Try.underlying4,
  a4:=Try.isAgg4,
  z4:=Try.sizeOf4,
  v4:=Try.zeroValue4,
  t5:=Try.underlying5,
  a5:=Try.isAgg5,
  z5:=Try.sizeOf5,
  v5:=Try.zeroValue5,
  t9:=Try.underlying9,
  a9:=Try.isAgg9,
  z9:=Try.sizeOf9,
  v9:=Try.zeroValue9,
  t22:=Try.underlying23,
  a22:=Try.isAgg23,
  z22:=Try.sizeOf23,
  v22:=Try.zeroValue23,
  t25:=Try.underlying69,
  a25:=Try.isAgg69,
  z25:=Try.sizeOf69,
  v25:=Try.zeroValue69,
  t39:=Try.underlying85,
  a39:=Try.isAgg85,
  z39:=Try.sizeOf85,
  v39:=Try.zeroValue85,
  t45:=Try.underlying95,
  a45:=Try.isAgg95,
  z45:=Try.sizeOf95,
  v45:=Try.zeroValue95,
  t46:=Try.underlying96,
  a46:=Try.isAgg96,
  z46:=Try.sizeOf96,
  v46:=Try.zeroValue96,
  t50:=Try.underlying76,
  a50:=Try.isAgg76,
  z50:=Try.sizeOf76,
  v50:=Try.zeroValue76,
  t53:=Try.underlying102,
  a53:=Try.isAgg102,
  z53:=Try.sizeOf102,
  v53:=Try.zeroValue102,
  t55:=Try.underlying60,
  a55:=Try.isAgg60,
  z55:=Try.sizeOf60,
  v55:=Try.zeroValue60,
  t66:=Try.underlying104,
  a66:=Try.isAgg104,
  z66:=Try.sizeOf104,
  v66:=Try.zeroValue104,
  t70:=Try.underlying108,
  a70:=Try.isAgg108,
  z70:=Try.sizeOf108,
  v70:=Try.zeroValue108,
  t76:=Try.underlying111,
  a76:=Try.isAgg111,
  z76:=Try.sizeOf111,
  v76:=Try.zeroValue111,
  t77:=Try.underlying112,
  a77:=Try.isAgg112,
  z77:=Try.sizeOf112,
  v77:=Try.zeroValue112}
@[go_sem] abbrev EV (e:Ed):Value:= .agg #[.int .i64 e.1,.int .i64 e.2]
def enc(e:Ed):List Value:= [.int .i64 e.1,.int .i64 e.2]
def RdE(w:World)(a:Option Addr)(l:List Ed):Prop:=∀i,i<l.length→∃b,a=some b∧b.block<w.heap.size∧w.cell? (b.add (i*2))=some (.int .i64 (el l i).1)∧w.cell? ⟨b.block,(b.add (i*2)).off+1,none⟩=some (.int .i64 (el l i).2)
theorem RdE.below{w w':World}{a:Option Addr}{l:List Ed}(h:RdE w a l)(hb:Below w.heap.size w w'):RdE w' a l:=by
 intro i hi;obtain⟨b,e,hl,h0,h1⟩:=h i hi;exact⟨b,e,Nat.lt_of_lt_of_le hl hb.size,(hb.cell (by rw [qQ];exact hl)).trans h0,(hb.cell (p:=⟨b.block,_,none⟩) hl).trans h1⟩
theorem Fe(x:Int)(w:World):Calls Try.prog 62 #[.int .i64 x] w fun e w'=>e= .returned (.bool false)∧w'=w:=by
 go_enter Try.func62,Try.ntmps62
 go_wp2
 go_ret
 exact⟨by simp,rfl⟩
set_option maxRecDepth 100000 in
theorem ya(x y:Int)(w:World):Calls Try.prog 43 #[.int .i64 x,.int .i64 y] w fun e w'=>e= .returned (.int .i64 (Iz x y))∧w'=w:=by
 go_enter Try.func43,Try.ntmps43
 go_wp2_with (go_at_call 62;refine(Fe _ _).mono ?_;rintro e w1 ⟨rfl,rfl⟩)
 all_goals go_ret
 ·refine⟨by unfold Iz;rw [if_pos (by assumption)];rfl,rfl⟩
 ·refine⟨by unfold Iz;rw [if_neg (by omega),if_pos (by assumption)];rfl,rfl⟩
 ·refine⟨by unfold Iz;rw [if_neg (by omega),if_neg (by omega)];rfl,rfl⟩
theorem QH(w:World)(a b:Obj):∃q os',((w.alloc a).alloc b)=grow (w.drewN q) os':=⟨0,#[a]++ #[b],by
 rw [alloc_eq_grow _ b,alloc_eq_grow _ a];show grow (grow w #[a]) #[b]=_
 rw [JH];rfl⟩
theorem IB(a b:Ed)(w:World):Calls Try.prog 42 #[EV a,EV b] w fun e w'=>e= .returned (.int .i64 (Fd a b))∧∃q os',w'=grow (w.drewN q) os':=by
 go_enter Try.func42,Try.ntmps42
 go_wp2_with (go_at_call 43;refine(ya _ _ _).mono ?_;rintro e w1 ⟨rfl,rfl⟩)
 go_ret
 exact⟨rfl,QH _ _ _⟩
def ab(l:List Ed):List Value:=l.flatMap enc
theorem eb(e:Ed)(l:List Ed):ab (e::l)=enc e++ab l:=rfl
theorem dt(l m:List Ed):ab (l++m)=ab l++ab m:=by simp [ab]
theorem aQ(l:List Ed):(ab l).length=l.length*2:=by
 induction l with
 |nil=>rfl
 |cons e l ih=>rw [eb,List.length_append,ih];simp [enc];omega
theorem jX:∀(l:List Ed) (i k:Nat),i<l.length→k<2→(ab l)[i*2+k]? =(enc (el l i))[k]?
 | [],i,k,h,_=>by simp at h
 |e::l,0,k,h,hk=>by
  rw [eb,List.getElem?_append_left (by simp [enc];omega)];simp [el]
 |e::l,i+1,k,h,hk=>by
  rw [eb,List.getElem?_append_right (by simp [enc];omega)]
  have:(i+1)*2+k - (enc e).length=i*2+k:=by simp [enc];omega
  rw [this,jX l i k (by simpa using h) hk];simp [el]
theorem kH(l:List Ed):∀u∈ab l,u.oneCell'=true:=by
 intro u hu;obtain⟨e,_,he⟩:=List.mem_flatMap.1 hu;simp [enc]at he;rcases he with rfl|rfl<;>rfl
theorem mG{w:World}{g:Nat}{l:List Ed}(hg:g<w.heap.size)(hc:∀i,i<l.length→∀k,k<2→w.cell? ⟨g,i*2+k,none⟩=(enc (el l i))[k]?):RdE w (some ⟨g,0,none⟩) l:=by
 intro i hi;have e:(⟨g,0,none⟩:Addr).add (i*2)=⟨g,i*2,none⟩:=GY _ _;refine⟨⟨g,0,none⟩,rfl,hg,?_,?_⟩
 ·rw [e];simpa [enc]using hc i hi 0 (by omega)
 ·rw [e];simpa [enc]using hc i hi 1 (by omega)
theorem row_rdE{w:World}{base n:Nat}{v:Value}{l:List Ed}(h:w.ownsRow base 30 2 v n (ab l)):n=l.length∧∃a c,v= .slice a n c∧n≤c∧RdE w a l∧(a=none→c=0∧n=0):=by
 have hn:n=l.length:=by have:=h.1;rw [aQ]at this;omega
 refine⟨hn,?_⟩;rcases h.2 with⟨rfl,h0⟩|⟨g,cap,cur,rfl,hb,hg,hcap,_⟩
 ·obtain rfl:n=0:=h0;exact⟨none,0,rfl,by omega,fun i hi=>by omega,fun _=>⟨rfl,rfl⟩⟩
 ·refine⟨some ⟨g,0,none⟩,cap,rfl,hcap,?_,by simp⟩;refine mG (Array.getElem?_eq_some_iff.1 hg).1 (fun i hi k hk=> ?_);rw [h.cellAt (i*2+k) (by omega),jX l i k hi hk]
theorem Ha(l:List Ed)(i k:Nat)(h:i<l.length)(hk:k<2):some (flatK enc 2 l.toArray)[i*2+k]! =(enc (el l i))[k]? :=by
 rw [get_flatK _ _ _ _ (by simp;omega),show(i*2+k)/ 2=i by omega,show(i*2+k)% 2=k by omega,AR l i h]
 have:k<(enc (el l i)).length:=by simp [enc];omega
 rw [getElem!_pos (enc (el l i)) k this,List.getElem?_eq_getElem this]
theorem tv{w:World}{g n:Nat}{os:Array Obj}(F:Array Value):w.grownBy (grow (putRow id (Sort.ahead w n) g 0 F) os) (some g):=by
 refine⟨rfl,rfl,rfl,by simp,fun k hk hne=> ?_⟩;rw [heap_grow_old _ _ (by simpa using hk)]
 have:g≠k:=fun e=>hne (by rw [e])
 simp [putRow,mapBlock,Sort.ahead,Array.getElem?_modify,this]
def bl(a b:Ed):Bool:=klt (key a) (key b)
theorem Hb:ltOf Fd=bl:=by
 funext a b;unfold ltOf bl
 have:=Mv a b
 cases h:klt (key a) (key b)<;>rw [h]at this<;>simp at this ⊢<;>exact this
theorem Pd:SWO bl where
 irrefl x:=by simp [bl,klt]
 trans x y z h1 h2:=by simp [bl,klt]at*;omega
 ntrans x y z h1 h2:=by simp [bl,klt]at*;omega
theorem Dk{l:List Ed}(h:SortedIn bl 0 l.length l.toArray):l.Pairwise (fun a b=>bl b a=false):=by
 rw [List.pairwise_iff_getElem];intro i j hi hj hij
 have:=h i j (by omega) hij hj
 rw [AR l i hi,AR l j hj]at this;simpa [el,List.getD_eq_getElem?_getD,hi,hj]using this
set_option maxHeartbeats 1000000 in
theorem IC(g c:Nat)(l:List Ed)(w:World)(hg:g<w.heap.size)(hc:∀i,i<l.length→∀k,k<2→w.cell? ⟨g,i*2+k,none⟩=(enc (el l i))[k]?)(hf:∀j,w.frozen? ⟨g,j,none⟩=false)(hl:l.length<4611686018427387904):
  Calls Try.prog 41 #[.slice (some ⟨g,0,none⟩) l.length c,.func (.func 42) #[] #[]] w fun e w'=>e= .returned (.tuple #[])∧∃l':List Ed,l'.Perm l∧l'.Pairwise (fun a b=>bl b a=false)∧RdE w' (some ⟨g,0,none⟩) l'∧w.grownBy w' (some g):=by
 have eg:∀args w,(callFunc 42 args).run Try.prog w= .ok (.enter 42 args) w:=enters_of Try.func42 (by kernel_rfl) rfl;have hcmp:CmpLays Try.prog 42 #[] enc 2 Fd g 0 l.toArray.size w:=fun m os dk _ x y=>IB x y _
 have hH:HoldsK enc 2 w g 0 l.toArray:=by
  intro j hj;have hj':j<l.length*2:=by simpa using hj
  refine⟨?_,hf _⟩
  have:=hc (j / 2) (by omega) (j % 2) (by omega)
  rw [Nat.zero_add,show j=j / 2*2+j % 2 by omega,this,←Ha l _ _ (by omega) (by omega)];rfl
 have hO:SWO (ltOf Fd):=by rw [Hb];exact Pd
 have hcon:=AnyQ.slices_SortFunc NZ 2 Try.isAgg30 Try.sizeOf30 enc (fun _=>rfl) (fun x v hv=>by simp [enc]at hv;rcases hv with rfl|rfl<;>rfl) Fd hO 42 #[] g 0 c l.toArray w eg hcmp hH hg (by simpa using hl);refine hcon.mono ?_;rintro e w' ⟨rfl,d',n,os,hp,hs,rfl⟩;obtain⟨l',rfl⟩:∃l':List Ed,d'=l'.toArray:=⟨d'.toList,by simp⟩;have hsz:l'.length=l.length:=by simpa using hp.1
 refine⟨rfl,l',?_,?_,?_,?_⟩
 ·have:=hp.2.2
  rw [show l.toArray.size=l'.toArray.size by simpa using hsz.symm]at this;rw [Array.extract_size]at this;have h2:=hp.2.2;rw [show l.toArray.size=l'.toArray.size by simpa using hsz.symm]at h2;rw [Array.extract_size]at h2;refine h2.trans ?_;rw [show l'.toArray.size=l.toArray.size by simpa using hsz,Array.extract_size]
 ·rw [Hb]at hs;exact Dk (by rw [hsz];simpa using hs)
 ·refine mG ?_ (fun i hi k hk=> ?_)
  ·simp [sortWorldK,putRowK];omega
  ·have hH2:=holds_putRow id (Sort.ahead w n) g 0 _ (flatK enc 2 l'.toArray) (show Holds id (Sort.ahead w n) g 0 (flatK enc 2 l.toArray)from hH) (by simp [hsz]) (i*2+k) (by simp;omega);rw [Nat.zero_add]at hH2;unfold sortWorldK;rw [cell?_grow _ _ _ (by simpa [putRowK]using hg)];exact hH2.1.trans (Ha l' i k hi hk)
 ·exact tv _
theorem Hc:(Try.prog.info? 30).map (fun i=>(i.zero,i.size,i.bytes))=some (some (.agg #[.int .i64 0,.int .i64 0]),2,16):=by kernel_rfl
theorem jr{P:Program}{e:TypeId}{z:Value}{s b:Nat}(h:(P.info? e).map (fun i=>(i.zero,i.size,i.bytes))=some (some z,s,b)):∃i,P.info? e=some i∧i.zero=some z∧i.size=s∧i.bytes=b:=by
 obtain⟨i,hi,he⟩:=Option.map_eq_some_iff.1 h;simp at he;exact⟨i,hi,he.1,he.2.1,he.2.2⟩
theorem JV{w:World}{b:Addr}{M:List Ed}(hr:RdE w (some b) M):∀j u,(ab M)[j]? =some u→w.cell? (b.add j)=some u:=by
 intro j u hj;have hj':j<M.length*2:=by have:=(List.getElem?_eq_some_iff.1 hj).1;rwa [aQ]at this
 have hc:=jX M (j / 2) (j % 2) (by omega) (by omega);rw [show j / 2*2+j % 2=j by omega,hj]at hc;obtain⟨b',hb',_,h0,h1⟩:=hr (j / 2) (by omega);cases hb';have h3:j % 2=0∨j % 2=1:=by omega
 rcases h3 with h3|h3
 ·rw [h3]at hc;simp [enc]at hc;rw [hc,show j=j / 2*2 by omega];rw [show(j / 2*2)/ 2=j / 2 by omega];exact h0
 ·rw [h3]at hc;simp [enc]at hc;rw [hc]
  have e:b.add j=⟨b.block,(b.add (j / 2*2)).off+1,none⟩:=by
   rw [show j=j / 2*2+1 by omega,pr];rw [show(j / 2*2+1)/ 2=j / 2 by omega]
  rw [e];exact h1
theorem fW{w:World}{ops:Array Oper}{rest:List Oper}{o:Oper}{a:Act}{Q:Exit→Act→World→Prop}(hgd:o.guard=none)(s x:Operand)
  (ho:o.op= .call {callee:= .builtin .append,args:=#[s,x],argTypes:=#[23,23]}) (base:Nat) (v:Value) (n:Nat) (L:List Ed) (hs:a.eval s=v) (hown:w.ownsRow base 30 2 v n (ab L))
  (ad:Option Addr) (m c:Nat) (M:List Ed) (hx:a.eval x= .slice ad m c) (hm:m=M.length) (hr:RdE w ad M) (hz:ad=none→c=0∧m=0) (hnm:n+m≤100000) (hbase:base≤w.heap.size)
  (h:∀v' w',w'.ownsRow base 30 2 v' (n+m) (ab (L++M))→w.grownBy w' v.ownBlock→(v'.ownBlock=v.ownBlock∨v'.ownBlock=some w.heap.size)→wpList Try.prog ops Q rest (a.put o.dst v') w'):wpList Try.prog ops Q (o::rest) a w:=by
 obtain⟨i0,hi0,hz0,hz1,hz2⟩:=jr Hc;subst hm
 match ad,hr,hz,hx with
 |none,hr,hz,hx=>
  obtain⟨rfl,h0⟩:=hz rfl;obtain rfl:M= []:=List.eq_nil_of_length_eq_zero h0;refine wpList_append_own_none hgd s x 23 ho base 30 i0 2 Try.underlying23 hi0 v n _ hs hown hx (h v w ?_ ⟨rfl,rfl,rfl,Nat.le_refl _,fun _ _ _=>rfl⟩ (.inl rfl));simpa using hown
 |some b,hr,hz,hx=>
  have hnews:=JV hr
  exact wpList_append_own_at w hgd s x 23 ho base 30 i0 (.agg #[.int .i64 0,.int .i64 0]) 2 16 Try.underlying23 hi0 hz0 hz1 hz2 rfl (by decide) v n (ab L) hs hown b M.length c (ab M) hx (aQ M) hnews (kH M) (by unfold maxLen;omega) (by omega) hbase
   fun v' w' hown' hg _ hat=>h v' w' (by rw [dt];exact hown') hg hat
theorem jY{W w':World}{base:Nat}{v:Value}(hg:W.grownBy w' v.ownBlock)(hv:∀k,v.ownBlock=some k→base≤k)(hb:base≤W.heap.size):Below base W w':=
 ⟨hg.os,hg.tape,hg.output,hg.size,fun k hk=>hg.block k (by omega) (fun e=>by have:=hv k e.symm;omega)⟩
def Out(base:Nat)(w:World)(a:Option Addr)(c:Nat)(l:List Ed):Prop:=RdE w a l∧(a=none→c=0∧l.length=0)∧l.length≤c∧∀b,a=some b→base≤b.block
theorem Mw(base:Nat)(w:World):Out base w none 0 []:=⟨fun i hi=>by simp at hi,fun _=>⟨rfl,rfl⟩,by simp,by simp⟩
theorem eY{w:World}{base base' n:Nat}{e:TypeId}{v:Value}{s:Nat}{xs:List Value}(h:w.ownsRow base e s v n xs)(hb:base'≤base):w.ownsRow base' e s v n xs:=by
 refine⟨h.1,?_⟩;rcases h.2 with h2|⟨g,cap,cur,h1,h2,h3⟩
 ·exact .inl h2
 ·exact .inr ⟨g,cap,cur,h1,Nat.le_trans hb h2,h3⟩
theorem Mx(W:World)(x y:Int):RdE (W.alloc (.cells #[.int .i64 x,.int .i64 y] 30)) (some ⟨W.heap.size,0,none⟩) [(x,y)]:=by
 have h:CellsAt (W.alloc (.cells #[.int .i64 x,.int .i64 y] 30)) W.heap.size 30 #[.int .i64 x,.int .i64 y]:=World.alloc_heap_new W _;refine mG h.lt (fun i hi k hk=> ?_);obtain rfl:i=0:=by simpa using hi
 rw [h.cell];have h3:k=0∨k=1:=by omega
 rcases h3 with rfl|rfl<;>rfl
end It
end Sm
end
noncomputable section
open Go.RowKit Go.Sort
namespace Sm
namespace It
def NAt(w:World)(g:Nat)(n:Int):Prop:=w.cell? ⟨g,0,none⟩=some (.int .i64 n)∧g<w.heap.size
theorem NAt.below{w w':World}{g:Nat}{n:Int}(h:NAt w g n)(hb:Below w.heap.size w w'):NAt w' g n:=
 ⟨(hb.cell (p:=⟨g,0,none⟩) h.2).trans h.1,Nat.lt_of_lt_of_le h.2 hb.size⟩
def badI(n:Int)(e:Ed):Bool:=decide (e.1<0∨n≤e.1)
theorem QI{l:List Ed}{p:Ed→Bool}{i:Nat}(h:i<l.length)(hp:p (el l i)=true):l.any p=true:=List.any_eq_true.2 ⟨_,Fc h,hp⟩
theorem QJ{l:List Ed}{p:Ed→Bool}(h:∀i,i<l.length→p (el l i)=false):l.any p=false:=by
 rw [Bool.eq_false_iff];intro ha;obtain⟨e,he,hp⟩:=List.any_eq_true.1 ha;obtain⟨i,hi,rfl⟩:=List.mem_iff_getElem.1 he
 have:=h i hi
 simp [el,List.getD_eq_getElem?_getD,hi]at this;rw [this]at hp;cases hp
theorem My(n:Int)(e:Ed)(g:Nat)(w:World)(hg:NAt w g n):Calls Try.prog 37 #[EV e,.pointer (some ⟨g,0,none⟩)] w fun e' w'=>e'= .returned (.bool (badI n e))∧Below w.heap.size w w':=by
 obtain⟨c0,hl⟩:=hg;have kg:=Has.of hl;unfold badI;by_cases h:e.1<0
 ·go_enter Try.func37,Try.ntmps37
  go_wp2
  go_ret
  exact⟨by simp [h],(by repeat (first|with_reducible refine blg ?_ _ _|with_reducible refine bla ?_ _|with_reducible exact Below.refl _ _))⟩
 ·go_enter Try.func37,Try.ntmps37
  go_wp2
  go_ret
  exact⟨by simp;omega,(by repeat (first|with_reducible refine blg ?_ _ _|with_reducible refine bla ?_ _|with_reducible exact Below.refl _ _))⟩
set_option maxRecDepth 100000 in
set_option maxHeartbeats 1000000 in
theorem QK(a:Option Addr)(l:List Ed)(c:Nat)(n0:Int)(g:Nat)(w:World)(hr:RdE w a l)(hl:l.length<9223372036854775807)(hg:NAt w g n0):Calls Try.prog 55 #[.slice a l.length c,.func (.func 37) #[] #[.pointer (some ⟨g,0,none⟩)]] w fun e w'=>∃k,e= .returned (.int .i64 k)∧decide (0≤k)=l.any (badI n0)∧Below w.heap.size w w':=by
 obtain⟨n,hn⟩:∃n,n=l.length:=⟨_,rfl⟩;rw [←hn]at hl ⊢;have HN:=Lib.hid hn;clear hn
 go_enter Try.func55,Try.ntmps55
 go_wp2
 go_loopw [8] (fun y wr=>∃j:Nat,y= .int .i64 (j:Int)∧j≤n∧(∀i,i<j→(badI n0) (el l i)=false)∧Below w.heap.size w wr) (fun y _=>n - (intOf y).toNat)
 case atStart=>exact⟨0,rfl,by omega,by omega,Below.refl _ _⟩
 case round=>
  obtain⟨j,rfl,hj,hall,hB⟩:=hrel;by_cases hlt:(j:Int)<(n:Int)
  ·obtain⟨b,rfl,hbl,c0,c1⟩:=hr.below hB j (by rw [←HN.out];omega);have j0:(0:Int)≤(j:Int):=by omega
   have kb:=Has.of hbl;have HC:=Lib.hid (fun W (h:Below wr.heap.size wr W)=>My n0 (el l j) g W ((hg.below hB).below h));cases hb:(badI n0) (el l j)
   all_goals simp only [hb]at HC
   all_goals go_wp2_with fail
   all_goals refine(HC.out _ (Below.refl _ _)).mono ?_
   all_goals rintro x w1 ⟨rfl,hb1⟩
   all_goals go_wp2_with fail
   ·refine⟨?_,by simp [intOf];omega⟩;refine⟨j+1,by simp,by omega,fun i hi=> ?_,hB.trans (hb1.mono hB.size)⟩;by_cases e:i=j
    ·subst e;exact hb
    ·exact hall i (by omega)
   ·go_ret
    refine⟨j,rfl,?_,hB.trans (hb1.mono hB.size)⟩;rw [QI (by rw [←HN.out];omega) hb];simp
  ·go_wp2_with fail
   go_ret
   refine⟨-1,rfl,?_,hB⟩;rw [QJ (fun i hi=>hall i (by rw [←HN.out]at hi;omega))];rfl
set_option maxRecDepth 100000 in
theorem Oa(a:Option Addr)(l:List Ed)(c:Nat)(n0:Int)(g:Nat)(w:World)(hr:RdE w a l)(hl:l.length<9223372036854775807)(hg:NAt w g n0):Calls Try.prog 36 #[.slice a l.length c,.func (.func 37) #[] #[.pointer (some ⟨g,0,none⟩)]] w fun e w'=>e= .returned (.bool (l.any (badI n0)))∧Below w.heap.size w w':=by
 go_enter Try.func36,Try.ntmps36
 go_wp2_with fail
 refine(QK a l c n0 g w hr hl hg).mono ?_;rintro x w1 ⟨k,rfl,hk,hb1⟩
 go_wp2_with fail
 go_ret
 exact⟨by rw [←hk];rfl,hb1⟩
end It
end Sm
end
noncomputable section
open Go.RowKit Go.Sort Go.WideMaps
namespace Sm
namespace It
def kl(k:Int×Int):Lit:= .int .i64 k.2
abbrev KV(k:Int×Int):Value:= .int .i64 k.2
def In2(k:Int×Int):Prop:=k.1=0∧AQ k.2
theorem Pe{x:Int}(h:AQ x):(Lit.int .i64 x).wf=true:=by
 obtain⟨h1,h2⟩:=h;simp [Lit.wf,IntKind.min,IntKind.max,IntKind.signed,IntKind.bits];omega
theorem Mz{x:Int}(h:(Lit.int .i64 x).wf=true):AQ x:=by
 simp [Lit.wf,IntKind.min,IntKind.max,IntKind.signed,IntKind.bits]at h;exact⟨by omega,by omega⟩
theorem keyedK:Maps.Keyed Try.prog 3:=Maps.int_keyed Try.underlying3
theorem Ff(k:Int×Int)(h:In2 k):keyOf Try.prog 3 (KV k)=some (kl k):=by
 unfold keyOf mapKey;simp [Try.underlying3,Pe h.2,kl]
theorem uX{v:Value}{l:Lit}(h:keyOf Try.prog 3 v=some l):∃k,v=KV k∧In2 k∧l=kl k:=by
 unfold keyOf mapKey at h;simp only [Try.underlying3]at h
 cases v with
 |int q n=>
  by_cases hq:q=IntKind.i64∧(Lit.int IntKind.i64 n).wf=true
  ·obtain⟨rfl,hw⟩:=hq;simp [hw]at h;exact⟨(0,n),rfl,⟨rfl,Mz hw⟩,h.symm⟩
  ·simp [hq]at h
 |_=>simp at h
theorem JW{a b:Int×Int}(ha:In2 a)(hb:In2 b)(h:kl a=kl b):a=b:=by
 have h2:a.2=b.2:=by simpa [kl]using h
 exact Prod.ext (by rw [ha.1,hb.1]) h2
abbrev KW:=(Int×Int)→Option V
def RW(v:Value):Option (DataW Unit×List MemPlace):=
 match v with
 | .agg cs=>match cs.toList with
  | [.int .i64 h,.int .u64 l]=>some (.agg [.lit (.int .i64 h),.lit (.int .u64 l)],[])
  |_=>none
 |_=>none
def dW(z:V):DataW Unit:= .agg [.lit (.int .i64 z.1),.lit (.int .u64 z.2)]
theorem QL(z:V):RW (WV z)=some (dW z,[]):=rfl
theorem Fg{v:Value}{y:DataW Unit×List MemPlace}(h:RW v=some y):∃c:Int×Int,v= .agg #[.int .i64 c.1,.int .u64 c.2]∧y=(.agg [.lit (.int .i64 c.1),.lit (.int .u64 c.2)],[]):=by
 unfold RW at h;split at h
 ·rename_i cs;obtain⟨cs⟩:=cs;split at h
  ·rename_i h2;cases h;simp at h2;subst h2;exact⟨(_,_),rfl,rfl⟩
  ·cases h
 ·cases h
theorem uY{v:Value}{ps:List MemPlace}{z:V}(h:RW v=some (dW z,ps)):v=WV z:=by
 obtain⟨c,rfl,hc⟩:=Fg h;simp [dW]at hc;simp [hc.1.1,hc.1.2]
def FitF(D:DataW Unit)(f:KW):Prop:=∀k,In2 k→(Maps.has D (kl k)=(f k).isSome)∧(∀z,f k=some z→∀zd,D.atKey (kl k) zd=dW z)
def MapF(w:World)(b n:Nat)(f:KW):Prop:=∃D,w.ownsMap Try.prog 3 RW b n D∧FitF D f
def tw(f:KW)(k:Int×Int)(z:V):KW:=fun k'=>if k'=k then some z else f k'
theorem MapF.lt{w:World}{b n:Nat}{f:KW}(h:MapF w b n f):b<w.heap.size:=by obtain⟨D,h,_⟩:=h;exact h.lt
theorem MapF.kept{w w':World}{b n:Nat}{f:KW}{row:Option Nat}(h:MapF w b n f)(hg:w.grownBy w' row)(hne:some b≠row):MapF w' b n f:=by
 obtain⟨D,h,hF⟩:=h;exact⟨D,h.kept hg hne,hF⟩
theorem MapF.new(w:World):MapF (w.alloc (.map #[] 0)) w.heap.size 0 (fun _=>none):=
 ⟨_,World.ownsMap_made w _ _ _,fun k hk=>⟨rfl,fun z hz=>by cases hz⟩⟩
theorem AS{k:Int×Int}(h:In2 k):WideAt.IsKeyLit (kl k):=keyedK.key (Ff k h)
theorem FitF.put{D:DataW Unit}{f:KW}(hm:Maps.IsMap D)(h:FitF D f){k:Int×Int}(hk:In2 k)(z:V):FitF (D.put (kl k) (dW z)) (tw f k z):=by
 intro k' hk';by_cases e:k'=k
 ·subst e;refine⟨by rw [Maps.has_put_same hm (AS hk)];simp [tw],fun z' hz' zd=> ?_⟩;simp [tw]at hz';rw [Maps.atKey_put_same hm (AS hk),hz']
 ·have hne:kl k'≠kl k:=fun h=>e (JW hk' hk h);refine⟨by rw [Maps.has_put_other hne];simp [tw,e,(h k' hk').1],fun z' hz' zd=> ?_⟩;simp [tw,e]at hz';rw [Maps.atKey_put_other hne,(h k' hk').2 z' hz']
section
variable (w : World) {ops : Array Oper} {rest : List Oper} {o : Oper} {a : Act} {Q : Exit → Act → World → Prop}
theorem uZ(hg:o.guard=none)(m x:Operand)(hop:o.op=Op.lookup 59 m x true)(b n:Nat)(f:KW)(k:Int×Int)
  (hm:a.eval m= .map (some b)) (hown:MapF w b n f) (hx:a.eval x=KV k) (hk:In2 k)
  (h0:f k=none→wpList Try.prog ops Q rest (a.put o.dst (.tuple #[.agg #[.int .i64 0,.int .u64 0],.bool false])) w)
  (h1:∀z,f k=some z→wpList Try.prog ops Q rest (a.put o.dst (.tuple #[WV z,.bool true])) w):
  wpList Try.prog ops Q (o::rest) a w:=by
 obtain⟨D,hown,hF⟩:=hown;refine wpList_lookup_own_ok w hg m x _ hop 3 62 keyedK Try.underlying59 RW (z:=WV (0,0)) ?_ (dW (0,0)) [] (QL (0,0)) b n D hm hown (KV k) (kl k) hx (Ff k hk) ?_
 ·exact Try.zeroValue62 w
 ·intro v ps hv
  cases hf:f k with
  |none=>
   have:=(hF k hk).1
   rw [hf]at this;have ha:=Maps.atKey_of_not_has (D:=D) (k:=kl k) (by simpa using this) (dW (0,0));rw [ha]at hv;rw [uY hv,this];exact h0 hf
  |some z=>
   have:=(hF k hk).1
   rw [hf]at this;rw [(hF k hk).2 z hf]at hv;rw [uY hv,this];exact h1 z hf
theorem lP(hg:o.guard=none)(m x v:Operand)(hop:o.op=Op.mapUpdate 59 m x v)(b n:Nat)(f:KW)(k:Int×Int)(z:V)(hn:n<maxLen)
  (hm:a.eval m= .map (some b)) (hown:MapF w b n f) (hx:a.eval x=KV k) (hv:a.eval v=WV z) (hk:In2 k)
  (hK:∀w',MapF w' b (n+1) (tw f k z)→w.grownBy w' (some b)→wpList Try.prog ops Q rest (a.put o.dst undef) w'):
  wpList Try.prog ops Q (o::rest) a w:=by
 obtain⟨D,hown,hF⟩:=hown;refine wpList_mapUpdate_in w hg m x v _ hop 3 62 keyedK Try.underlying59 RW b n D hm hown hn (KV k) (WV z) (kl k) hx hv (Ff k hk) (dW z) [] (QL z) ?_;intro w' hown' ht;exact hK w' ⟨_,hown',hF.put hown.isMap hk z⟩ ht.grown
def RangF(w:World)(b r n:Nat)(f:KW)(done:List ((Int×Int)×V)):Prop:=
 ∃D left cnt,w.ranges Try.prog 3 RW b r n D left cnt∧FitF D f∧(∀k,In2 k→(left (kl k)=true↔(f k).isSome=true∧k ∉ done.map (·.1)))∧(done.map (·.1)).Nodup∧(∀p∈done,In2 p.1∧f p.1=some p.2)∧done.length+cnt≤n
theorem RangF.kept{w w':World}{b r n:Nat}{f:KW}{done:List ((Int×Int)×V)}{row:Option Nat}(h:RangF w b r n f done)(hg:w.grownBy w' row)(hb:some b≠row)(hr:some r≠row):RangF w' b r n f done:=by
 obtain⟨D,left,cnt,h,h2⟩:=h;exact⟨D,left,cnt,h.kept hg hb hr,h2⟩
theorem RangF.left{w w':World}{b r n:Nat}{f:KW}{done:List ((Int×Int)×V)}{row:Option Nat}(h:RangF w b r n f done)(hg:w.grownBy w' row)(hb:some b≠row)(hr:some r≠row):w'.rangeLeft b r=w.rangeLeft b r:=by
 obtain⟨D,left,cnt,h,h2⟩:=h;rw [(h.kept hg hb hr).left_eq,h.left_eq]
theorem RangF.facts{w:World}{b r n:Nat}{f:KW}{done:List ((Int×Int)×V)}(h:RangF w b r n f done):(done.map (·.1)).Nodup∧(∀p∈done,In2 p.1∧f p.1=some p.2)∧done.length≤n:=by
 obtain⟨D,left,cnt,h,_,_,h2,h3,h4⟩:=h;exact⟨h2,h3,by omega⟩
theorem RangF.lt{w:World}{b r n:Nat}{f:KW}{done:List ((Int×Int)×V)}(h:RangF w b r n f done):r<w.heap.size∧b<w.heap.size:=by
 obtain⟨D,left,cnt,h,h2⟩:=h;exact⟨h.lt,h.owns.lt⟩
theorem yb(hg:o.guard=none)(m:Operand)(hop:o.op=Op.range 59 m)(b n:Nat)(f:KW)(hm:a.eval m= .map (some b))(hown:MapF w b n f)
  (hK:∀w',RangF w' b w.heap.size n f []→w.grownBy w' none→w'.heap.size=w.heap.size+1→wpList Try.prog ops Q rest (a.put o.dst (.pointer (some ⟨w.heap.size,0,none⟩))) w'):
  wpList Try.prog ops Q (o::rest) a w:=by
 obtain⟨D,hown,hF⟩:=hown;refine wpList_range_own w hg m _ hop 3 62 keyedK Try.underlying59 RW b n D hm hown ?_;intro w' hr hgr hs;refine hK w' ⟨D,_,_,hr,hF,fun k hk=> ?_,by simp,by simp,by simpa using hown.size_le⟩ hgr hs;rw [(hF k hk).1];simp
theorem AT(hg:o.guard=none)(it:Operand)(hop:o.op=Op.next it false)(b r n:Nat)(f:KW)(done:List ((Int×Int)×V))(hit:a.eval it= .pointer (some ⟨r,0,none⟩))(h:RangF w b r n f done)
  (hDone:(∀k,In2 k→∀z,f k=some z→(k,z)∈done)→wpList Try.prog ops Q rest (a.put o.dst (.tuple #[.bool false])) w)
  (hMore:∀(k:Int×Int) (z:V) (w':World),RangF w' b r n f (done++ [(k,z)])→w'.rangeLeft b r<w.rangeLeft b r→w.grownBy w' (some r)→w'.heap.size=w.heap.size→(Instr.entry (.pointer (some ⟨r,0,none⟩))).run Try.prog w'= .ok (.tuple #[KV k,WV z]) w'→wpList Try.prog ops Q rest (a.put o.dst (.tuple #[.bool true,KV k,WV z])) w'):
  wpList Try.prog ops Q (o::rest) a w:=by
 obtain⟨D,left,cnt,hr,hF,hl,hnd,hdn,hcn⟩:=h;refine wpList_next_ranges w hg it hop 3 keyedK RW (fun n:Int=>(.int .i64 n:Value)) (fun c:Int×Int=> .agg #[.int .i64 c.1,.int .u64 c.2]) (fun key l hkey=>by obtain⟨k,e,_⟩:=uX hkey;exact⟨k.2,e⟩) (fun v y hv=>by obtain⟨c,e,_⟩:=Fg hv;exact⟨c,e⟩) b r n D left cnt hit hr ?_ ?_
 ·intro _ hno;refine hDone fun k hk z hz=> ?_;have h1:=hl k hk;rw [hno]at h1
  have h2:k∈done.map (·.1):=Decidable.byContradiction fun hn=>by
   have:=h1.2 ⟨by rw [hz];rfl,hn⟩
   cases this
  obtain⟨p,hp,rfl⟩:=List.mem_map.1 h2;have h3:=(hdn p hp).2;rw [hz]at h3;cases h3;exact hp
 ·intro k0 c l y w' cnt' hkey hlk hy hat hrg hlt hgr hsz hen;obtain⟨k,e1,hk,rfl⟩:=uX hkey;obtain rfl:k0=k.2:=by simpa using e1
  have hk1:=(hl k hk).1 hlk;obtain⟨z,hz⟩:=Option.isSome_iff_exists.1 hk1.1;have h4:=(hF k hk).2 z hz (dW z);rw [hat]at h4;obtain⟨c',e2,e3⟩:=Fg hy;have e4:(.agg #[.int .i64 c.1,.int .u64 c.2]:Value)=WV z:=uY (ps:=y.2) (by rw [hy,←h4]);rw [e4]at hen ⊢;refine hMore k z w' ⟨D,_,cnt',hrg,hF,fun k' hk'=> ?_,?_,?_,by simp;omega⟩ (by rw [hrg.left_eq,hr.left_eq];exact hlt) hgr hsz hen
  ·by_cases e:k'=k
   ·subst e;rw [WideAt.sameKey_self (AS hk)];simp
   ·rw [Maps.sameKey_ne (fun h=>e (JW hk' hk h))]
    have:=hl k' hk'
    simp [e]at this ⊢;exact this
  ·rw [List.map_append,List.nodup_append];refine⟨hnd,by simp,?_⟩;intro x hx y hy e;simp at hy;subst hy;subst e;exact hk1.2 hx
  ·intro p hp;rcases List.mem_append.1 hp with hp|hp
   ·exact hdn p hp
   ·simp at hp;subst hp;exact⟨hk,hz⟩
end
theorem MapF.alloc{w:World}{b n:Nat}{f:KW}(h:MapF w b n f)(o:Obj):MapF (w.alloc o) b n f:=h.kept (World.grownBy_alloc w o none) (by simp)
theorem JY{R:Rg}{f:KW}{e:Sm.Ed}(h:f (Sm.key e)=none):upd R f e=tw f (Sm.key e) (R.o e.2.2):=by
 funext k;simp [upd,tw,h]
theorem JZ{R:Rg}{f:KW}{e:Sm.Ed}{s:V}(h:f (Sm.key e)=some s):upd R f e=tw f (Sm.key e) (R.ad s (R.o e.2.2)):=by
 funext k;simp [upd,tw,h]
end It
end Sm
end
noncomputable section
open Go.RowKit Go.Sort
namespace Sm
namespace It
def tri(x:Ed):Int×Int×Int:=(0,x.1,x.2)
def toI(R:Rg)(p:(Int×Int)×V):Ed:=(p.1.2,(R.na p.2).1)
def outI(R:Rg)(l:List Ed):List Ed:=(fV R (l.map tri)).1.map fun x=>(x.2.1,x.2.2)
theorem mH{w:World}{base n:Nat}{e:TypeId}{s:Nat}{v:Value}{xs:List Value}(h:w.ownsRow base e s v n xs):∃a cap,v= .slice a n cap∧(a=none∨∃g,a=some ⟨g,0,none⟩):=by
 rcases h.2 with⟨rfl,rfl⟩|⟨g,cap,cur,rfl,_⟩
 ·exact⟨none,0,rfl,.inl rfl⟩
 ·exact⟨_,cap,rfl,.inr ⟨g,rfl⟩⟩
theorem AU{w:World}{base n:Nat}{e:TypeId}{s:Nat}{v:Value}{xs:List Value}(h:w.ownsRow base e s v n xs)(hn:0<n):∃g cap,v= .slice (some ⟨g,0,none⟩) n cap∧base≤g∧g<w.heap.size:=by
 rcases h.2 with⟨_,h0⟩|⟨g,cap,cur,rfl,hb,hg,_⟩
 ·omega
 ·exact⟨g,cap,rfl,hb,(Array.getElem?_eq_some_iff.1 hg).1⟩
theorem MA(base n:Nat)(a:Option Addr)(c:Nat)(L:List Ed)(w:World)(h:w.ownsRow base 30 2 (.slice a n c) n (ab L))(hn:n=L.length)(hl:n<4611686018427387904):
  Calls Try.prog 41 #[.slice a n c,.func (.func 42) #[] #[]] w fun e w'=>e= .returned (.tuple #[])∧∃l':List Ed,l'.Perm L∧l'.Pairwise (fun a b=>bl b a=false)∧RdE w' a l'∧w.grownBy w' (Value.slice a n c).ownBlock:=by
 rcases h.2 with⟨e,h0⟩|⟨g,c1,cur,e,hb,hg,_⟩
 ·cases e;obtain rfl:L= []:=List.eq_nil_of_length_eq_zero (by omega);refine(AnyF.slices_SortFunc_none {NZ with} none 0 _ w).mono ?_;rintro x w' ⟨rfl,rfl⟩;exact⟨rfl,[],.refl _,List.Pairwise.nil,fun i hi=>by simp at hi,⟨rfl,rfl,rfl,Nat.le_refl _,fun _ _ _=>rfl⟩⟩
 ·cases e;subst hn;exact IC g c L w (h.lt g rfl).2 (fun i hi k hk=>by rw [h.cellAt (i*2+k) (by omega),jX _ i k hi hk]) (fun j=>h.frozenAt j) hl
theorem RdE.grown{w w':World}{a:Option Addr}{l:List Ed}{k:Nat}(h:RdE w a l)(hg:w.grownBy w' (some k))(hk:∀b,a=some b→b.block≠k):RdE w' a l:=by
 intro i hi;obtain⟨b,e,hl,h0,h1⟩:=h i hi;have hne:some b.block≠some k:=fun h=>hk b e (Option.some.inj h);exact⟨b,e,Nat.lt_of_lt_of_le hl hg.size,hg.cell h0 (by rw [qQ];exact hne),hg.cell h1 hne⟩
theorem Fh(R:Rg)(L:List (Int×Int×Int))(l':List Ed)(T:List ((Int×Int)×V))(hT:T.Perm (eJ R L))(h0:∀p∈T,p.1.1=0)(hp:l'.Perm (T.map (toI R)))(hs:l'.Pairwise (fun a b=>bl b a=false)):l'=(eJ R L).map (toI R):=by
 have e1:(T.map (toI R)).map tri=T.map (toE R):=by
  rw [List.map_map];refine List.map_congr_left fun p hp=> ?_;show((0:Int),p.1.2,(R.na p.2).1)=(p.1.1,p.1.2,(R.na p.2).1);rw [h0 p hp]
 have h:=Iy R L (l'.map tri) T hT (by rw [←e1];exact hp.map tri) (by
  rw [List.pairwise_map];refine hs.imp fun{a b} h=> ?_;have h1:decide (b.1<a.1)=false:=h;unfold Sm.klt Sm.key tri;simp only [decide_eq_false_iff_not]at h1 ⊢
  omega)
 have e2:(l'.map tri).map (fun x=>(x.2.1,x.2.2))=l':=by rw [List.map_map];exact List.map_id'' (fun x=>rfl) l'
 rw [←e2,h,List.map_map];rfl
theorem Ka(V:World):(Instr.makeMap 59 none).run Try.prog V= .ok (.map (some V.heap.size)) (V.alloc (.map #[] 0)):=by
 simp [Instr.makeMap,run_underlying Try.underlying59,Go.asInt,asIntOf,Result.andThen]
set_option maxRecDepth 100000 in
set_option maxHeartbeats 4000000 in
theorem Pf(r n0:Int)(R:Rg)(a:Option Addr)(l:List Ed)(c:Nat)(w:World)
  (hIs:∀W,Below w.heap.size w W→Calls Try.prog 34 #[.int .i64 r] W fun e w'=>e= .returned (.bool true)∧Below W.heap.size W w')
  (hSz:∀W,Below w.heap.size w W→Calls Try.prog 35 #[.int .i64 n0] W fun e w'=>e= .returned (.bool true)∧Below W.heap.size W w')
  (hOf:∀x,AQ x→∀W,Below w.heap.size w W→Calls Try.prog 39 #[.int .i64 x] W fun e w'=>e= .returned (WV (R.o x))∧Below W.heap.size W w')
  (hAdd:∀x y W,Below w.heap.size w W→Calls Try.prog 38 #[.int .i64 r,WV x,WV y] W fun e w'=>e= .returned (WV (R.ad x y))∧Below W.heap.size W w')
  (hNar:∀x W,Below w.heap.size w W→Calls Try.prog 40 #[.int .i64 r,WV x] W fun e w'=>e= .returned (.tuple #[.int .i64 (R.na x).1,.bool (R.na x).2])∧Below W.heap.size W w')
  (hr:RdE w a l) (hI:∀e∈l,AQ e.1∧AQ e.2) (hb:l.any (badI n0)=false) (hl:l.length≤90000):
  Calls Try.prog 8 #[.int .i64 r,.int .i64 n0,.slice a l.length c] w fun e w'=>∃n' a' c',e= .returned (.tuple #[.agg #[.int .i64 n',.slice a' (outI R l).length c'],.int .i64 (fV R (l.map tri)).2])∧n'=(if(fV R (l.map tri)).2=0 then n0 else 0)∧Out w.heap.size w' a' c' (outI R l)∧Below w.heap.size w w'∧(outI R l= []→a'=none):=by
 obtain⟨n,hn⟩:∃n,n=l.length:=⟨_,rfl⟩;rw [←hn]at hl ⊢;have HN:=Lib.hid hn;clear hn;generalize hcr:fV R (l.map tri)=RS;have HCR:=Lib.hid hcr;clear hcr;generalize hno:(if RS.2=0 then n0 else 0)=NO;have HNO:=Lib.hid hno;clear hno;generalize hco:outI R l=OI;have HCO:=Lib.hid hco;clear hco;have HIs:=Lib.hid hIs;have HSz:=Lib.hid hSz;have HOf:=Lib.hid hOf;have HAdd:=Lib.hid hAdd;have HNar:=Lib.hid hNar;clear hIs hSz hOf hAdd hNar
 go_enter Try.func8,Try.ntmps8
 go_wp2_with fail
 have hb0:=bl2 w (.cells #[.int .i64 n0] 3) (.cells #[.int .i64 0,.slice none 0 0] 25);refine(HIs.out _ hb0).mono ?_;rintro x w1 ⟨rfl,hb1⟩
 have hN1:CellsAt w1 w.heap.size 3 #[.int .i64 n0]:=by
  have h1:CellsAt (w.alloc (.cells #[.int .i64 n0] 3)) w.heap.size 3 #[.int .i64 n0]:=World.alloc_heap_new w _;exact(h1.below (bl1 _ (.cells #[.int .i64 0,.slice none 0 0] 25))).below hb1
 have hR1:CellsAt w1 (w.heap.size+1) 25 #[.int .i64 0,.slice none 0 0]:=by
  have h1:CellsAt ((w.alloc (.cells #[.int .i64 n0] 3)).alloc (.cells #[.int .i64 0,.slice none 0 0] 25)) (w.alloc (.cells #[.int .i64 n0] 3)).heap.size 25 #[.int .i64 0,.slice none 0 0]:=World.alloc_heap_new _ _;rw [World.size_alloc]at h1;exact h1.below hb1
 have hbw1:Below w.heap.size w w1:=hb0.trans (hb1.mono hb0.size);have hG0:w.heap.size≤w.heap.size:=Nat.le_refl _;have hRB0:w.heap.size≤w.heap.size+1:=by omega
 clear hb0 hb1 HIs;generalize hRB:w.heap.size+1=RB at hR1 hRB0 ⊢;generalize hNB:w.heap.size=NB at hN1 ⊢;have c0:w1.cell? ⟨NB,0,none⟩=some (.int .i64 n0):=hN1.cell 0;have kN:=Has.of hN1.lt
 go_wp2_with fail
 refine(HSz.out _ hbw1).mono ?_;rintro x w2 ⟨rfl,hb2⟩;have hN2:=hN1.below hb2;have hR2:=hR1.below hb2;have hbw2:Below w.heap.size w w2:=hbw1.trans (hb2.mono hbw1.size);have hr2:=hr.below hbw2;clear hN1 hR1 hbw1 hb2 c0 kN HSz;have HC:=Lib.hid (Oa a l c n0 NB w2 hr2 (by rw [←HN.out];omega) ⟨hN2.cell 0,hN2.lt⟩);rw [←HN.out,hb]at HC
 go_wp2_with fail
 refine HC.out.mono ?_;rintro x w3 ⟨rfl,hb3⟩;have hN3:=hN2.below hb3;have hR3:=hR2.below hb3;have hbw3:Below w.heap.size w w3:=hbw2.trans (hb3.mono hbw2.size);clear hN2 hR2 hbw2 hb3 hr2 HC;have hmk:=Ka w3;have hM0:=MapF.new w3
 go_wp2_with fail
 obtain⟨B,hB⟩:∃B,B=w3.heap.size:=⟨_,rfl⟩;have hb1:=bl1 w3 (.map #[] 0);have hN4:=hN3.below hb1;have hR4:=hR3.below hb1;have hRBB:RB<B:=by rw [hB];exact hR3.lt
 have hNBB:NB<B:=by rw [hB];exact hN3.lt
 rw [←hB]at hM0 ⊢;generalize w3.alloc (.map #[] 0)=W1 at hM0 hb1 hN4 hR4 ⊢;have hVB:w.heap.size≤B:=by rw [hB];exact hbw3.size
 have hbw1:Below w.heap.size w W1:=hbw3.trans (hb1.mono hbw3.size);clear hmk hB hb1 hbw3 hN3 hR3
 go_loopw [34] (fun y wr=>∃j:Nat,y= .int .i64 (j:Int)∧j≤n∧MapF wr B j (fm R ((l.take j).map tri))∧CellsAt wr NB 3 #[.int .i64 n0]∧CellsAt wr RB 25 #[.int .i64 0,.slice none 0 0]∧Below w.heap.size w wr) (fun y _=>n - (intOf y).toNat)
 case atStart=>exact⟨0,rfl,by omega,hM0,hN4,hR4,hbw1⟩
 case round=>
  clear hM0 hbw1 hN4 hR4;obtain⟨j,rfl,hj,hM,hN,hRc,hBw⟩:=hrel;by_cases hlt:(j:Int)<(n:Int)
  ·obtain⟨b,rfl,hbl,c0,c1⟩:=(hr.below hBw) j (by rw [←HN.out];omega);have j0:(0:Int)≤(j:Int):=by omega
   have kb:=Has.of hbl;have hIe:=hI _ (Fc (show j<l.length by rw [←HN.out];omega));have HT2:=Lib.hid (GX (l:=l) (j:=j) (by rw [←HN.out];omega));have HT:=Mu R ((l.take j).map tri) (tri (el l j));rw [show(l.take j).map tri++ [tri (el l j)]=(l.take (j+1)).map tri by rw [HT2.out,List.map_append];rfl]at HT;obtain⟨ej,hej⟩:∃ej,ej=el l j:=⟨_,rfl⟩;rw [←hej]at c0 c1 hIe HT;have hk:In2 (0,ej.1):=⟨rfl,hIe.1⟩;have hw1:=hIe.2;clear hej hIe HT2;generalize fm R ((l.take j).map tri)=f at hM HT
   go_wp2_with (at_lookup;refine uZ _ rfl _ _ rfl B j f (0,ej.1) rfl (hM.alloc _) rfl hk ?_ ?_)
   ·intro hf;rw [JY (e:=tri ej) hf]at HT;have HT':=Lib.hid HT;clear HT
    go_wp2_with fail
    refine hZ 6 (by kernel_rfl) (by kernel_rfl) ?_;simp only [List.take_succ_cons,List.take_zero,List.drop_succ_cons,List.drop_zero]
    repeat (go_big_quiet_step (first|(go_at_call 39;exact Calls.regrown_of (HOf.out _ hw1 _ (hBw.trans (Below.mono (show Below wr.heap.size wr _ from(by repeat (first|with_reducible refine blg ?_ _ _|with_reducible refine bla ?_ _|with_reducible exact Below.refl _ _))) hBw.size))))))
    refine wpQuiet_nil ?_;rintro _ ⟨⟨d2,o2⟩,rfl⟩
    go_wp2_with (at_mapUpdate;refine lP _ rfl _ _ _ rfl B j f (0,ej.1) (R.o ej.2) (by unfold maxLen;omega) rfl (((hM.alloc _).alloc _).kept (bV (below_regrown _ _ _) none) (by simp)) rfl rfl hk ?_;intro w' hM' hg')
    refine⟨?_,by simp [intOf];omega⟩;have hbU:Below wr.heap.size wr (grow (redrawn ((wr.alloc (.cells #[.int .i64 ej.1,.int .i64 ej.2] 30)).alloc (.cells #[.int .i64 0,.int .u64 0] 62)) d2) o2):=(by repeat (first|with_reducible refine blg ?_ _ _|with_reducible refine bla ?_ _|with_reducible exact Below.refl _ _));have hN5:=hN.below hbU;have hR5:=hRc.below hbU;refine⟨j+1,by simp,by omega,by rw [HT'.out];exact hM',hN5.grown hg' (by simp;omega),hR5.grown hg' (by simp;omega),?_⟩;exact(hBw.trans (hbU.mono hBw.size)).trans (gD hg' (hBw.trans (hbU.mono hBw.size)).size hVB)
   ·intro z1 z2 hf;rw [JZ (e:=tri ej) hf]at HT;have HT':=Lib.hid HT;clear HT
    go_wp2_with fail
    refine hZ 9 (by kernel_rfl) (by kernel_rfl) ?_;simp only [List.take_succ_cons,List.take_zero,List.drop_succ_cons,List.drop_zero]
    repeat (go_big_quiet_step (first|(go_at_call 39;exact Calls.regrown_of (HOf.out _ hw1 _ (hBw.trans (Below.mono (show Below wr.heap.size wr _ from(by repeat (first|with_reducible refine blg ?_ _ _|with_reducible refine bla ?_ _|with_reducible exact Below.refl _ _))) hBw.size))))|(go_at_call 38;exact Calls.regrown_of (HAdd.out (z1,z2) _ _ (hBw.trans (Below.mono (show Below wr.heap.size wr _ from(by repeat (first|with_reducible refine blg ?_ _ _|with_reducible refine bla ?_ _|with_reducible exact Below.refl _ _))) hBw.size))))))
    refine wpQuiet_nil ?_;rintro _ ⟨⟨d2,o2⟩,rfl⟩
    go_wp2_with (at_mapUpdate;refine lP _ rfl _ _ _ rfl B j f (0,ej.1) (R.ad (z1,z2) (R.o ej.2)) (by unfold maxLen;omega) rfl (((hM.alloc _).alloc _).kept (bV (below_regrown _ _ _) none) (by simp)) rfl rfl hk ?_;intro w' hM' hg')
    refine⟨?_,by simp [intOf];omega⟩;have hbU:Below wr.heap.size wr (grow (redrawn ((wr.alloc (.cells #[.int .i64 ej.1,.int .i64 ej.2] 30)).alloc (.cells #[.int .i64 z1,.int .u64 z2] 62)) d2) o2):=(by repeat (first|with_reducible refine blg ?_ _ _|with_reducible refine bla ?_ _|with_reducible exact Below.refl _ _));have hN5:=hN.below hbU;have hR5:=hRc.below hbU;refine⟨j+1,by simp,by omega,by rw [HT'.out];exact hM',hN5.grown hg' (by simp;omega),hR5.grown hg' (by simp;omega),?_⟩;exact(hBw.trans (hbU.mono hBw.size)).trans (gD hg' (hBw.trans (hbU.mono hBw.size)).size hVB)
  ·obtain rfl:j=n:=by omega
   have hle:=hBw.size;rw [List.take_of_length_le (by rw [←HN.out];exact Nat.le_refl _)]at hM;clear hlt hj;have c0:wr.cell? ⟨NB,0,none⟩=some (.int .i64 n0):=hN.cell 0;have kN:=Has.of hN.lt
   go_wp2_with (at_range;refine yb _ rfl _ rfl B j (fm R (l.map tri)) rfl (hM.alloc _) ?_;intro V3 hR3 hg3 hs3)
   have hBl:=hM.lt;have hG3:CellsAt V3 wr.heap.size 25 #[.int .i64 n0,.slice none 0 0]:=(show CellsAt (wr.alloc (.cells #[.int .i64 n0,.slice none 0 0] 25)) wr.heap.size 25 #[.int .i64 n0,.slice none 0 0]from World.alloc_heap_new wr _).grown hg3 (by simp);have hR3':CellsAt V3 RB 25 #[.int .i64 0,.slice none 0 0]:=(hRc.below (bl1 wr _)).grown hg3 (by simp);have hB3:Below w.heap.size w V3:=(hBw.trans ((bl1 wr _).mono hle)).trans ((pc hg3).mono (Nat.le_trans hle (bl1 wr _).size));rw [World.size_alloc]at hR3 hs3 ⊢;have hGB:B<wr.heap.size:=hBl;have hGw:w.heap.size≤wr.heap.size:=hle;clear hM hRc hBw hg3 hN hle hBl c0 kN;generalize wr.heap.size=G at hR3 hs3 hG3 hGB hGw ⊢;obtain⟨ri,hri⟩:∃ri,ri=G+1:=⟨_,rfl⟩;rw [←hri]at hR3 hs3 ⊢;obtain⟨BS,hBS⟩:∃BS,BS=V3.heap.size:=⟨_,rfl⟩;have hriB:ri<BS:=by omega
   have hriG:G<ri:=by omega
   clear hri
   go_frame
   go_loopw [7] (fun y wr=>∃done v,y= .int .i64 0∧RangF wr B ri j (fm R (l.map tri)) done∧CellsAt wr G 25 #[.int .i64 n0,v]∧CellsAt wr RB 25 #[.int .i64 0,.slice none 0 0]∧wr.ownsRow BS 30 2 v done.length (ab (done.map (toI R)))∧(∀p∈done,(R.na p.2).2=true)∧Below w.heap.size w wr∧BS≤wr.heap.size∧(done= []→v= .slice none 0 0)) (fun _ wr=>wr.rangeLeft B ri)
   case atStart=>exact⟨[],.slice none 0 0,rfl,hR3,hG3,hR3',World.ownsRow_nil _ _ _ _,by simp,hB3,by omega,fun _=>rfl⟩
   case round=>
    clear hR3 hG3 hR3' hB3 hs3;obtain⟨done,v,rfl,hR,hG,hRc,hown,hnb,hBw,hbs,hnil⟩:=hrel;obtain⟨a6,c6,rfl,ha6⟩:=mH hown;have hRl:=hR.lt
    go_wp2_with (at_next;refine AT _ rfl _ rfl B ri j (fm R (l.map tri)) done rfl hR ?_ ?_)
    ·intro hall
     have hkI:∀k z,fm R (l.map tri) k=some z→In2 k:=by
      intro k z hkz;obtain⟨e,he,rfl⟩:=GW hkz;obtain⟨e',he',rfl⟩:=List.mem_map.1 he;exact⟨rfl,(hI e' he').1⟩
     have hT:done.Perm (eJ R (l.map tri)):=(mF R (l.map tri)).perm hR.facts.1 (fun p hp=>(hR.facts.2.1 p hp).2) (fun k z hkz=>hall k.1 k.2 (hkI k z hkz) z.1 z.2 hkz);have hR0:fV R (l.map tri)=((eJ R (l.map tri)).map (toE R),0):=JR (fun k z hkz=>hnb (k,z) (hall k.1 k.2 (hkI k z hkz) z.1 z.2 hkz))
     have hO0:(eJ R (l.map tri)).map (toI R)=OI:=by
      rw [←HCO.out];unfold outI;rw [hR0,List.map_map];rfl
     have hRS:RS.2=0:=by rw [←HCR.out,hR0]
     have h00:∀p∈done,p.1.1=0:=fun p hp=>(hR.facts.2.1 p hp).1.1;have hdl:done.length≤j:=hR.facts.2.2;have HSO:=Lib.hid (MA BS done.length a6 c6 (done.map (toI R)) wr hown (by simp) (by omega));have hGne:(Value.slice a6 done.length c6).ownBlock≠some G:=fun e=>by have:=(hown.lt G e).1;omega
     have hRne:(Value.slice a6 done.length c6).ownBlock≠some RB:=fun e=>by have:=(hown.lt RB e).1;omega
     have hrbo:∀q,(Value.slice a6 done.length c6).ownBlock=some q→RB<q:=fun q hq=>by have:=(hown.lt q hq).1;omega
     have HRBO:=Lib.hid hrbo;have hn0:done.length=0→a6=none:=fun h=>by have h9:=hnil (List.eq_nil_of_length_eq_zero h);injection h9
     have HN0:=Lib.hid hn0;have hB0:∀q,(Value.slice a6 done.length c6).ownBlock=some q→w.heap.size≤q:=fun q hq=>by have:=(hown.lt q hq).1;omega
     have hcap:done.length≤c6∧(a6=none→c6=0∧done.length=0):=by
      obtain⟨_,a',c',e,h1,_,h2⟩:=row_rdE hown;cases e;exact⟨h1,h2⟩
     have hlm:(done.map (toI R)).length=done.length:=List.length_map ..;clear hR hall hown hR0 hkI hn0 hrbo;generalize done.length=m at*;have g1:wr.cell? ⟨G,1,none⟩=some (.slice a6 m c6):=hG.cell 1;have kG:=Has.of hG.lt
     go_wp2_with fail
     refine HSO.out.mono ?_;rintro x w1 ⟨rfl,l',hp,hs,hrd,hg⟩;have hl':=Fh R (l.map tri) l' done hT h00 hp hs;rw [hO0]at hl';subst hl';have hlen:m=l'.length:=(hp.length_eq.trans hlm).symm;have hG1:=hG.grown hg hGne.symm;have hR1:=hRc.grown hg hRne.symm;have hB1:Below w.heap.size w w1:=hBw.trans ((jY hg hB0 hBw.size).mono (Nat.le_refl _));clear hG hRc hBw g1 kG hp hs hT hO0 HSO;have g0:w1.cell? ⟨G,0,none⟩=some (.int .i64 n0):=hG1.cell 0;have g1:w1.cell? ⟨G,1,none⟩=some (.slice a6 m c6):=hG1.cell 1;have kG:=Has.of hG1.lt;have r0:w1.cell? ⟨RB,0,none⟩=some (.int .i64 0):=hR1.cell 0;have r1:w1.cell? ⟨RB,1,none⟩=some (.slice none 0 0):=hR1.cell 1;have f0:=hR1.frozen 0;have f1:=hR1.frozen 1;have kR:=Has.of hR1.lt;have HRS:=Lib.hid hRS;have HLEN:=Lib.hid hlen;have HCAP:=Lib.hid hcap;clear hRS hlen hcap
     go_wp2_with fail
     refine bodyPost_ret (v:= .tuple #[.agg #[.int .i64 n0,.slice a6 m c6],.int .i64 0]) ?_ rfl ⟨n0,a6,c6,?_,?_,?_,?_,?_⟩
     ·have hCF:CellsAt ((w1.setCell ⟨RB,0,none⟩ (.int .i64 n0)).setCell ⟨RB,1,none⟩ (.slice a6 m c6)) RB 25 #[.int .i64 n0,.slice a6 m c6]:=by simpa using (hR1.set 0 (.int .i64 n0)).set 1 (.slice a6 m c6)
      have k0:=hCF.cell 0;have k1:=hCF.cell 1;simp at k0 k1;simp [results,Try.results8,go_sem,k0,k1]
     ·rw [HRS.out,←HLEN.out]
     ·rw [←HNO.out,if_pos HRS.out]
     ·have ho:∀b,a6=some b→RB<b.block:=by
       rintro b rfl;rcases ha6 with h|⟨g,h⟩
       ·cases h
       ·cases h;exact HRBO.out g rfl
      refine⟨(hrd.grown (ai w1 RB 0 _) (fun b hb=>Nat.ne_of_gt (ho b hb))).grown (ai _ RB 1 _) (fun b hb=>Nat.ne_of_gt (ho b hb)),fun h=>⟨(HCAP.out.2 h).1,by rw [←HLEN.out];exact(HCAP.out.2 h).2⟩,by rw [←HLEN.out];exact HCAP.out.1,fun b hb=>Nat.le_trans hRB0 (Nat.le_of_lt (ho b hb))⟩
     ·exact bls (bls hB1 hRB0 _) hRB0 _
     ·intro h;exact HN0.out (by rw [HLEN.out,h];rfl)
    ·intro k1 k2 z1 z2 w' hR' hlt hg hs hen;have hown':=hown.kept hg (.inr (fun e=>by have:=(hown.lt _ e).1;omega));have hG':=hG.grown hg (by simp;omega);have hRc':=hRc.grown hg (by simp;omega);have hB':Below w.heap.size w w':=hBw.trans ((gD hg hBw.size (by omega)).mono (Nat.le_refl _));clear hown hR hG hRc;have hwl:w'.heap.size=wr.heap.size:=hs
     go_wp2_with fail
     obtain⟨U,hU⟩:∃U,U=w'.alloc (.cells #[.int .i64 z1,.int .u64 z2] 62):=⟨_,rfl⟩;rw [←hU];have hbU:Below w'.heap.size w' U:=by rw [hU];exact bl1 _ _
     clear hU hen;refine(HNar.out (z1,z2) U (hB'.trans (hbU.mono hB'.size))).mono ?_;rintro x w1 ⟨rfl,hb1⟩;have hbW:Below w'.heap.size w' w1:=hbU.trans (hb1.mono hbU.size);have hRW:=hR'.kept (bV hbW none) (by simp) (by simp);have hownW:=hown'.kept (bV hbW none) (Classical.em _);have hGW:=hG'.below hbW;have hRcW:=hRc'.below hbW;have hBW:Below w.heap.size w w1:=hB'.trans (hbW.mono hB'.size);have hlW:=hR'.left (bV hbW none) (by simp) (by simp);have hfz:=hR'.facts;have hsW:=hbW.size;clear hbU hb1 hown' hG' hRc';cases hz:(R.na (z1,z2)).2
     ·have hR0:=Ix (R:=R) (l:=l.map tri) (hfz.2.1 ((k1,k2),(z1,z2)) (by simp)).2 hz;have hO0:OI= []:=by rw [←HCO.out];unfold outI;rw [hR0];rfl
      rw [HCR.out]at hR0;have HR0:=Lib.hid hR0;have HO0:=Lib.hid hO0;clear hR0 hO0;have r0:w1.cell? ⟨RB,0,none⟩=some (.int .i64 0):=hRcW.cell 0;have r1:w1.cell? ⟨RB,1,none⟩=some (.slice none 0 0):=hRcW.cell 1;have f0:=hRcW.frozen 0;have f1:=hRcW.frozen 1;have kR:=Has.of hRcW.lt
      go_wp2_with fail
      refine bodyPost_ret (v:= .tuple #[.agg #[.int .i64 0,.slice none 0 0],.int .i64 12]) ?_ rfl ⟨0,none,0,?_,?_,?_,?_,fun _=>rfl⟩
      ·have hCF:CellsAt ((w1.setCell ⟨RB,0,none⟩ (.int .i64 0)).setCell ⟨RB,1,none⟩ (.slice none 0 0)) RB 25 #[.int .i64 0,.slice none 0 0]:=by simpa using (hRcW.set 0 (.int .i64 0)).set 1 (.slice none 0 0)
       have k0:=hCF.cell 0;have k1:=hCF.cell 1;simp at k0 k1;simp [results,Try.results8,go_sem,k0,k1]
      ·rw [HR0.out,HO0.out];rfl
      ·rw [←HNO.out,HR0.out];rfl
      ·rw [HO0.out];exact Mw _ _
      ·exact bls (bls hBW hRB0 _) hRB0 _
     ·have hdl:done.length+1≤j:=by have:=hfz.2.2;simpa using this
      have g1:w1.cell? ⟨G,1,none⟩=some (.slice a6 done.length c6):=hGW.cell 1;have kG:=Has.of hGW.lt;have hGA:=hGW.below (bl1 w1 (.cells #[.int .i64 k2,.int .i64 (R.na (z1,z2)).1] 30));have hRcA:=hRcW.below (bl1 w1 (.cells #[.int .i64 k2,.int .i64 (R.na (z1,z2)).1] 30));have hga:=World.grownBy_alloc w1 (.cells #[.int .i64 k2,.int .i64 (R.na (z1,z2)).1] 30) none;have hRA:=hRW.kept hga (by simp) (by simp);have hlA:=hRW.left hga (by simp) (by simp);have hBA:Below w.heap.size w (w1.alloc (.cells #[.int .i64 k2,.int .i64 (R.na (z1,z2)).1] 30)):=bla hBW _;have hownA:=hownW.alloc (.cells #[.int .i64 k2,.int .i64 (R.na (z1,z2)).1] 30);have hbsA:BS≤(w1.alloc (.cells #[.int .i64 k2,.int .i64 (R.na (z1,z2)).1] 30)).heap.size:=by simp;omega
      clear hownW
      go_wp2_with (refine fW rfl _ _ rfl BS _ done.length (done.map (toI R)) rfl hownA _ 1 1 [(k2,(R.na (z1,z2)).1)] rfl rfl (Mx _ _ _) (by simp) (by omega) hbsA ?_;intro v' w2 hown2 hg2 hat2;obtain⟨g',c',rfl,hgb,hgl⟩:=AU hown2 (by omega);have hG3:=hGA.grown hg2 (fun e=>by have:=(hownA.lt G e.symm).1;omega);have hR3:=hRcA.grown hg2 (fun e=>by have:=(hownA.lt RB e.symm).1;omega);have t1:=hG3.cell 1;have tf:=hG3.frozen 1;have kG3:=Has.of hG3.lt)
      have hgb':Below w.heap.size w w2:=hBA.trans (jY hg2 (fun q hq=>Nat.le_trans (by omega) (hownA.lt q hq).1) hBA.size);have hs2:=hg2.size;have hRne:(Value.slice a6 done.length c6).ownBlock≠some B:=fun e=>by have:=(hownA.lt B e).1;omega
      have hRne2:(Value.slice a6 done.length c6).ownBlock≠some ri:=fun e=>by have:=(hownA.lt ri e).1;omega
      have hR2:=hRA.kept hg2 (Ne.symm hRne) (Ne.symm hRne2);have hl2:=hRA.left hg2 (Ne.symm hRne) (Ne.symm hRne2);have hg4:=ai w2 G 1 (.slice (some ⟨g',0,none⟩) (done.length+1) c');have hRl2:=hR2.lt;refine⟨⟨done++ [((k1,k2),(z1,z2))],.slice (some ⟨g',0,none⟩) (done.length+1) c',rfl,hR2.kept hg4 (by simp;omega) (by simp;omega),by simpa using hG3.set 1 (.slice (some ⟨g',0,none⟩) (done.length+1) c'),eF hR3 (by omega) _ _,?_,?_,bls hgb' hGw _,by simp;omega,by simp⟩,?_⟩
      ·have h9:=hown2.kept hg4 (.inr (by simp [Value.ownBlock];omega));simpa [toI]using h9
      ·intro p hp;rcases List.mem_append.1 hp with hp|hp
       ·exact hnb p hp
       ·simp at hp;subst hp;exact hz
      ·rw [hR2.left hg4 (by simp;omega) (by simp;omega),hl2,hlA,hlW];exact hlt
end It
end Sm
end
noncomputable section
namespace Ev
open Go Go.RowKit
def kI(x:Int):Option (Int×Int):=K.kI x
def eK(x:Int×Int)(y:Int×Int):Option (Int):=K.eK (x,y)
def fG(x:Int×Int)(y:Int×Int):Option (Int×Int):=K.fG (x,y)
def fv(x:Bool):Option (Int×Int):=K.fv x
def jZ(x:Int×Int)(y:Int×Int):Option (Int×Int):=K.jZ (x,y)
def lQ(x:Int)(y:Int×Int)(z:Int×Int):Option (Int×Int):=K.lQ (x,y,z)
def gS(x:Int×Int):Option (Int×Bool):=K.gS x
def gT(x:Int)(y:Int×Int):Option (Int×Bool):=K.gT (x,y)
def pu(x:Int):Option (Bool):=K.pu x
def ec(x:Int):Option (Bool):=K.ec x
def dq(x:Int×(Sl (Int×Int))):Option (Bool):=K.dq x
def spvec_sure(x:Int×(Sl (Int×Int))):Option (Int×(Sl (Int×Int))):=K.spvec_sure x
def co(x:Int×(Sl (Int×Int)))(y:Int):Option (Int×Bool):=K.co (x,y)
end Ev
end
noncomputable section
namespace Ev
open Go Go.RowKit
set_option maxRecDepth 100000
set_option maxHeartbeats 1000000
theorem Fi(x:Int):kI x=(Er IntKind.i64 x 63).bind fun(z:Int)=>some (z,IntKind.u64.wrap x):=by kernel_rfl
theorem tz(x:Int×Int)(y:Int×Int):eK x y=if x.fst=y.fst∧x.snd=y.snd then some 0
else if x.fst<y.fst then some (-1)else if x.fst=y.fst then if x.snd<y.snd then some (-1)else some 1 else some 1:=by kernel_rfl
theorem vc(x:Int×Int)(y:Int×Int):fG x y=(eK y x).bind fun(out:Int)=>if out<0 then some y else some x:=by kernel_rfl
theorem yc(x:Bool):fv x=if x=true then(kI 1).bind fun(out:Int×Int)=>some out else some (0,0):=by kernel_rfl
def lR(x:Int×Int)(y:Int×Int):Int→Int→Option (Int×Int):=fun(d d_1:Int)=>some (IntKind.i64.wrap (d+d_1),IntKind.u64.wrap (x.snd+y.snd))
theorem Dl(x:Int×Int)(y:Int×Int):jZ x y=if IntKind.u64.wrap (x.snd+y.snd)<x.snd then lR x y (IntKind.i64.wrap (x.fst+y.fst)) 1
else lR x y x.fst y.fst:=by kernel_rfl
theorem Dm(x:Int)(y:Int×Int)(z:Int×Int):lQ x y z=(if x=1 then some (Sum.inl true)else if x=3 then some (Sum.inl true)else some (Sum.inl (decide (x=4)))).bind fun(y_1:Bool ⊕ Empty)=>Sum.elim (fun(val:Bool)=>if val=true then(fG y z).bind fun(out:Int×Int)=>some out else if x=2 then if¬(y.fst=0∧y.snd=0)then(fv true).bind fun(out:Int×Int)=>some out else(fv (decide ¬(z.fst=0∧z.snd=0))).bind fun(out:Int×Int)=>some out else if x=5 then(jZ y z).bind fun(out:Int×Int)=>some out else some (0,0)) (fun(val:Empty)=>nE val) y_1:=by kernel_rfl
theorem vd(x:Int×Int):gS x=(kI (IntKind.i64.wrap x.snd)).bind fun(out:Int×Int)=>if¬(x.fst=out.fst∧x.snd=out.snd)then some (0,false)else some (IntKind.i64.wrap x.snd,true):=by kernel_rfl
theorem ve(x:Int)(y:Int×Int):gT x y=(gS y).bind fun(out:Int×Bool)=>some (out.fst,decide (out.snd=true)):=by kernel_rfl
theorem Fj(x:Int):pu x=if x ≥ 1 then some (decide (x≤5))else some false:=by kernel_rfl
theorem nk(x:Int):ec x=if x ≥ 0 then some (decide (x≤4096))else some false:=by kernel_rfl
def fX(x:Int×Sl (Int×Int)):Int×Int→Option (Int×Int ⊕ PUnit ⊕ Bool ⊕ Empty):=fun(x_1:Int×Int)=>if x_1.snd<(↑x.snd.l.length:Int)then(atS 2 x.snd x_1.snd).bind fun(y:Int×Int)=>if y.fst≤x_1.fst then some (Sum.inr (Sum.inr (Sum.inl false)))else if y.fst ≥ x.fst then some (Sum.inr (Sum.inr (Sum.inl false)))else some (Sum.inl (y.fst,IntKind.i64.wrap (x_1.snd+1)))else some (Sum.inr (Sum.inl ()))
theorem vh(x:Int×Sl (Int×Int)):dq x=(ec x.fst).bind fun(out:Bool)=>if¬out=true then some false else(aM (fX x) (-1,0)).bind fun(y:PUnit ⊕ Bool ⊕ Empty)=>Sum.elim (fun(val:PUnit)=>some true) (fun(val:Bool ⊕ Empty)=>Sum.elim (fun(val:Bool)=>some val) (fun(val:Empty)=>nE val) val) y:=by kernel_rfl
theorem yd(x:Int×Sl (Int×Int)):spvec_sure x=(dq x).bind fun(out:Bool)=>if out=true then some x else some (0,{nn:=false,sz:=0,l:= []}):=by kernel_rfl
def dO(x:Int×Sl (Int×Int))(y:Int):Int×Int→Option (Int×Int ⊕ Int ⊕ Empty):=fun(x_1:Int×Int)=>if x_1.fst<x_1.snd then(Er IntKind.u64 (IntKind.u64.wrap (IntKind.i64.wrap (x_1.fst+x_1.snd))) 1).bind fun(z:Int)=>(atS 2 x.snd (IntKind.i64.wrap z)).bind fun(y_1:Int×Int)=>if¬y_1.fst ≥ y then some (Sum.inl (IntKind.i64.wrap (IntKind.i64.wrap z+1),x_1.snd))else some (Sum.inl (x_1.fst,IntKind.i64.wrap z))else some (Sum.inr (Sum.inl x_1.fst))
theorem ye(x:Int×Sl (Int×Int))(y:Int):co x y=(aM (dO x y) (0,(↑x.snd.l.length:Int))).bind fun(y_1:Int ⊕ Empty)=>Sum.elim (fun(val:Int)=>if val<(↑x.snd.l.length:Int)then(atS 2 x.snd val).bind fun(y_2:Int×Int)=>some (val,decide (y_2.fst=y))else some (val,false)) (fun(val:Empty)=>nE val) y_1:=by kernel_rfl
end Ev
end
noncomputable section
namespace Ev
open Go
def eX(n:Int):Prop:= -9223372036854775808≤n∧n≤9223372036854775807
def lI(n:Int):Prop:=0≤n∧n≤18446744073709551615
theorem js{n:Int}(h:inK .i64 n):eX n:=by simpa [inK,eX,Lit.wf,IntKind.min,IntKind.max,IntKind.signed,IntKind.bits]using h
theorem pw(n:Int):IntKind.u64.wrap n=n % 18446744073709551616:=by
 simp [IntKind.wrap,IntKind.signed,IntKind.bits]
theorem Dn(n:Int):lI (IntKind.u64.wrap n):=by rw [pw];unfold lI;omega
theorem Pg{n:Int}(h:lI n):IntKind.u64.wrap (IntKind.i64.wrap n)=n:=by rw [pw,IntKind.wrap_i64];unfold lI at h;omega
theorem Do(n:Int):eX (IntKind.i64.wrap n):=by rw [IntKind.wrap_i64];unfold eX;omega
def ofW(n:Int):Int×Int:=(if n<0 then -1 else 0,IntKind.u64.wrap n)
theorem Fk(n:Int):lI (ofW n).2:=Dn n
def Dp(a b:Int×Int):Bool:=decide (a.1<b.1)||(decide (a.1=b.1)&& decide (a.2<b.2))
def rd(a b:Int×Int):Int×Int:=if Dp b a=true then b else a
def re(b:Bool):Int×Int:=if b=true then(0,1)else(0,0)
def ID(a b:Int×Int):Int×Int:=if IntKind.u64.wrap (a.2+b.2)<a.2 then(IntKind.i64.wrap (IntKind.i64.wrap (a.1+b.1)+1),IntKind.u64.wrap (a.2+b.2))else(IntKind.i64.wrap (a.1+b.1),IntKind.u64.wrap (a.2+b.2))
def gG(r:Int)(a b:Int×Int):Int×Int:=
 if r=1∨r=3∨r=4 then rd a b else if r=2 then re (!(decide (a.1=0∧a.2=0)&& decide (b.1=0∧b.2=0)))else if r=5 then ID a b else(0,0)
def cg(a:Int×Int):Int×Bool:=if a=ofW (IntKind.i64.wrap a.2)then(IntKind.i64.wrap a.2,true)else(0,false)
def fw(r:Int):Bool:=decide (1≤r)&& decide (r≤5)
theorem Fl{r:Int}{a b:Int×Int}(ha:lI a.2)(hb:lI b.2):lI (gG r a b).2:=by
 have h0:lI 0:=by unfold lI;omega
 have h1:lI 1:=by unfold lI;omega
 unfold gG rd re ID;split
 ·split<;>assumption
 ·split
  ·split<;>assumption
  ·split
   ·split<;>exact Dn _
   ·exact h0
theorem rg{n:Int}(h:eX n):kI n=some (ofW n):=by
 rw [Fi];unfold Er ofW Nu;rw [if_pos (by omega)];have e:(2:Int)^(min (63:Int).toNat IntKind.i64.bits)=9223372036854775808:=by decide
 rw [e];unfold eX at h
 have:n.fdiv 9223372036854775808=if n<0 then -1 else 0:=by
  rw [Int.fdiv_eq_ediv_of_nonneg _ (by omega)];split<;>omega
 rw [this];rfl
theorem tA(a b:Int×Int):∃c,eK a b=some c∧(c<0↔Dp a b=true):=by
 obtain⟨a1,a2⟩:=a;obtain⟨b1,b2⟩:=b;rw [tz];unfold Dp;simp only;by_cases h1:a1=b1∧a2=b2
 ·rw [if_pos h1];exact⟨0,rfl,by simp;omega⟩
 rw [if_neg h1];by_cases h2:a1<b1
 ·rw [if_pos h2];exact⟨-1,rfl,by simp [h2]⟩
 rw [if_neg h2];by_cases h3:a1=b1
 ·rw [if_pos h3];by_cases h4:a2<b2
  ·rw [if_pos h4];exact⟨-1,rfl,by simp [h3,h4]⟩
  ·rw [if_neg h4];exact⟨1,rfl,by simp [h3];omega⟩
 ·rw [if_neg h3];exact⟨1,rfl,by simp [h3];omega⟩
theorem yf(a b:Int×Int):fG a b=some (rd a b):=by
 obtain⟨c,h1,h2⟩:=tA b a;rw [vc,h1];unfold rd;simp only [zbS];by_cases hc:c<0
 ·rw [if_pos hc,if_pos (h2.1 hc)]
 ·rw [if_neg hc,if_neg (fun h=>hc (h2.2 h))]
theorem AV(b:Bool):fv b=some (re b):=by
 rw [yc];unfold re;cases b
 ·rfl
 ·simp only [if_true,rg (show eX 1 by unfold eX;omega),zbS];rfl
theorem Fm(a b:Int×Int):jZ a b=some (ID a b):=by
 rw [Dl];unfold ID lR;split
 ·rfl
 ·obtain⟨a1,a2⟩:=a;obtain⟨b1,b2⟩:=b;rfl
theorem Fo(r:Int)(a b:Int×Int):lQ r a b=some (gG r a b):=by
 rw [Dm];unfold gG;simp only [yf,AV,Fm,zbS];by_cases h1:r=1
 ·simp [h1]
 by_cases h3:r=3
 ·simp [h3]
 by_cases h4:r=4
 ·simp [h4]
 simp only [if_neg h1,if_neg h3,if_neg (show¬(r=1∨r=3∨r=4)by omega),decide_eq_false h4,zbS,Sum.elim_inl,Bool.false_eq_true,if_false];by_cases h2:r=2
 ·simp only [if_pos h2];by_cases ha:a.1=0∧a.2=0
  ·by_cases hb:b.1=0∧b.2=0
   ·simp [ha,hb]
   ·simp [ha,hb]
  ·simp [ha]
 ·simp only [if_neg h2];split<;>rfl
theorem yg(r:Int)(a:Int×Int):gT r a=some (cg a):=by
 rw [ve,vd];obtain⟨a1,a2⟩:=a;unfold cg;simp only [rg (Do a2),zbS];by_cases h:(a1,a2)=ofW (IntKind.i64.wrap a2)
 ·have h':a1=(ofW (IntKind.i64.wrap a2)).1∧a2=(ofW (IntKind.i64.wrap a2)).2:=⟨congrArg Prod.fst h,congrArg Prod.snd h⟩;rw [if_pos h,if_neg (fun hh=>hh h')];rfl
 ·have h':¬(a1=(ofW (IntKind.i64.wrap a2)).1∧a2=(ofW (IntKind.i64.wrap a2)).2):=fun hh=>h (Prod.ext hh.1 hh.2);rw [if_neg h,if_pos h'];rfl
theorem IE(r:Int):pu r=some (fw r):=by
 rw [Fj];unfold fw;by_cases h1:r ≥ 1
 ·rw [if_pos h1,decide_eq_true (show 1≤r from h1)];simp
 ·rw [if_neg h1,decide_eq_false (show¬1≤r from h1)];rfl
end Ev
end
noncomputable section
namespace Ev
namespace K
open Go Go.RowKit
set_option maxRecDepth 100000
set_option maxHeartbeats 1000000
def Kb:Ax:=(fun _=>none)
theorem IF:Cf Try.prog Kb:=(rO _)
def Kc:Ax:=(aJ (aJ (aJ (aJ (aJ (aJ (aJ (aJ (aJ (aJ (aJ (aJ (aJ (aJ (aJ (aJ (aJ (aJ (aJ (aJ Kb 36 aX) 37 aX) 41 aX) 42 aX) 55 aX) 60 aX) 67 aX) 68 aX) 72 aX) 73 aX) 74 aX) 75 aX) 76 aX) 77 aX) 78 aX) 79 aX) 86 aX) 89 aX) 90 aX) 92 aX)
theorem IG:Cf Try.prog Kc:=(ak (ak (ak (ak (ak (ak (ak (ak (ak (ak (ak (ak (ak (ak (ak (ak (ak (ak (ak (ak IF fun vs kind rs h=>by simp [aX]at h) fun vs kind rs h=>by simp [aX]at h) fun vs kind rs h=>by simp [aX]at h) fun vs kind rs h=>by simp [aX]at h) fun vs kind rs h=>by simp [aX]at h) fun vs kind rs h=>by simp [aX]at h) fun vs kind rs h=>by simp [aX]at h) fun vs kind rs h=>by simp [aX]at h) fun vs kind rs h=>by simp [aX]at h) fun vs kind rs h=>by simp [aX]at h) fun vs kind rs h=>by simp [aX]at h) fun vs kind rs h=>by simp [aX]at h) fun vs kind rs h=>by simp [aX]at h) fun vs kind rs h=>by simp [aX]at h) fun vs kind rs h=>by simp [aX]at h) fun vs kind rs h=>by simp [aX]at h) fun vs kind rs h=>by simp [aX]at h) fun vs kind rs h=>by simp [aX]at h) fun vs kind rs h=>by simp [aX]at h) fun vs kind rs h=>by simp [aX]at h)
def E1B:Env:=wJ Try.prog Kc
theorem cY:E1B.Ok:=qk CR CS IG
theorem gn:JB E1B TT:=⟨tz1,⟨tz2,⟨tz3,⟨tz4,⟨tz5,⟨tz6,⟨tz7,⟨tz8,⟨SO,⟨SP,⟨SQ,⟨SR,⟨SS,⟨ST,⟨SU,⟨SV,⟨SW,⟨SX,⟨SY,⟨SZ,⟨Ta,⟨Tb,⟨Tc,⟨Td,⟨Te,⟨Tf,⟨Tg,⟨Ti,⟨Tj,⟨Tk,⟨Tl,⟨Tm,⟨Tn,⟨To,⟨Tp,⟨Tq,⟨Tr,⟨Ts,⟨Tt,⟨Tu,⟨Tv,⟨Tw,⟨Tx,⟨Tz,⟨TA,⟨TB,⟨TC,⟨TE,⟨TF,⟨TG,⟨TH,⟨TJ,⟨TK,⟨TL,⟨TM,⟨TN,⟨TO,⟨TP,⟨TQ,⟨TR,⟨TS,⟨TU,⟨TV,⟨TW,⟨TX,⟨TY,⟨TZ,⟨Ua,⟨Ub,⟨Uc,⟨Ud,⟨Ue,⟨Uf,⟨Ug,⟨Uh,⟨Ui,⟨Uj,⟨Uk,⟨Ul,⟨Um,⟨Un,⟨Uo,⟨Uq,⟨Ur,⟨Us,⟨Ut,⟨Ov,⟨Ow,⟨Ox,⟨Oy,⟨Oz,⟨OA,⟨OC,⟨OD,⟨OE,⟨OF,⟨OG,⟨OH,⟨OJ,⟨OK,⟨OL,⟨OM,⟨ON,⟨OO,⟨OP,⟨OQ,⟨OR,⟨OS,⟨OT,⟨OU,⟨OV,⟨OW,trivial⟩⟩⟩⟩⟩⟩⟩⟩⟩⟩⟩⟩⟩⟩⟩⟩⟩⟩⟩⟩⟩⟩⟩⟩⟩⟩⟩⟩⟩⟩⟩⟩⟩⟩⟩⟩⟩⟩⟩⟩⟩⟩⟩⟩⟩⟩⟩⟩⟩⟩⟩⟩⟩⟩⟩⟩⟩⟩⟩⟩⟩⟩⟩⟩⟩⟩⟩⟩⟩⟩⟩⟩⟩⟩⟩⟩⟩⟩⟩⟩⟩⟩⟩⟩⟩⟩⟩⟩⟩⟩⟩⟩⟩⟩⟩⟩⟩⟩⟩⟩⟩⟩⟩⟩⟩⟩⟩⟩⟩⟩⟩⟩
theorem eL:JC E1B.P EQS:=⟨Ih Ii Ij,⟨Ih Ik Il,trivial⟩⟩
theorem QM:E1B.fn 17=some Qu:=aR Try.func17 rfl
theorem QN:E1B.fn 34=some UM:=aR Try.func34 rfl
theorem QO:E1B.fn 35=some Qv:=aR Try.func35 rfl
theorem QP:E1B.fn 38=some UN:=aR Try.func38 rfl
theorem QQ:E1B.fn 39=some UO:=aR Try.func39 rfl
theorem QR:E1B.fn 40=some UP:=aR Try.func40 rfl
theorem QS:E1B.fn 47=some Qw:=aR Try.func47 rfl
theorem QU:E1B.fn 48=some Qx:=aR Try.func48 rfl
theorem QV:E1B.fn 56=some UW:=aR Try.func56 rfl
theorem QW:E1B.fn 57=some UX:=aR Try.func57 rfl
theorem QX:E1B.fn 58=some UY:=aR Try.func58 rfl
theorem QY:E1B.fn 59=some UZ:=aR Try.func59 rfl
theorem QZ:E1B.fn 67=some Qy:=aR Try.func67 rfl
theorem Ra:E1B.fn 68=some Qz:=aR Try.func68 rfl
theorem Rb:E1B.fn 71=some Vh:=aR Try.func71 rfl
end K
end Ev
end
noncomputable section
namespace Ev
namespace K
open Go Go.RowKit
set_option maxRecDepth 100000
set_option maxHeartbeats 1000000
theorem AW:GOk AB E1B 0:=gok cY gn eL trivial trivial
theorem lS:af E1B sf:=aD AW (by kernel_rfl) QQ (by kernel_rfl) rfl
theorem px:GOk mA E1B 0:=gok cY gn eL trivial trivial
theorem rh:af E1B mB:=aD px (by kernel_rfl) Rb (by kernel_rfl) rfl
theorem rj:GOk nN E1B 1:=gok cY gn eL ⟨⟨by decide,rh⟩,trivial⟩ trivial
theorem tB:af E1B nO:=aD rj (by kernel_rfl) QV (by kernel_rfl) rfl
theorem tC:GOk qN E1B 1:=gok cY gn eL ⟨⟨by decide,lS⟩,trivial⟩ trivial
theorem vi:af E1B qO:=aD tC (by kernel_rfl) QW (by kernel_rfl) rfl
theorem yh:GOk xK E1B 0:=gok cY gn eL trivial trivial
theorem AX:af E1B xL:=aD yh (by kernel_rfl) QX (by kernel_rfl) rfl
theorem yi:GOk xM E1B 2:=gok cY gn eL ⟨⟨by decide,tB⟩,⟨⟨by decide,vi⟩,⟨⟨by decide,AX⟩,trivial⟩⟩⟩ trivial
theorem AY:af E1B GK:=aD yi (by kernel_rfl) QP (by kernel_rfl) rfl
theorem rk:GOk nP E1B 1:=gok cY gn eL ⟨⟨by decide,lS⟩,trivial⟩ trivial
theorem tD:af E1B nQ:=aD rk (by kernel_rfl) QY (by kernel_rfl) rfl
theorem rl:GOk nR E1B 2:=gok cY gn eL ⟨⟨by decide,tD⟩,trivial⟩ trivial
theorem tE:af E1B zh:=aD rl (by kernel_rfl) QR (by kernel_rfl) rfl
theorem AZ:GOk AC E1B 0:=gok cY gn eL trivial trivial
theorem Dq:af E1B JF:=aD AZ (by kernel_rfl) QN (by kernel_rfl) rfl
theorem tF:GOk lu E1B 0:=gok cY gn eL trivial trivial
theorem lT:af E1B iw:=aD tF (by kernel_rfl) QO (by kernel_rfl) rfl
theorem rm:GOk jU E1B 1:=gok cY gn eL ⟨⟨by decide,lT⟩,trivial⟩ trivial
theorem tG:af E1B dU:=aD rm (by kernel_rfl) QM (by kernel_rfl) rfl
theorem tH:GOk lv E1B 2:=gok cY gn eL ⟨⟨by decide,tG⟩,trivial⟩ trivial
theorem vj:af E1B dH:=aD tH (by kernel_rfl) QS (by kernel_rfl) rfl
theorem tI:GOk lw E1B 0:=gok cY gn eL trivial ⟨⟨QZ,rfl⟩,⟨⟨Ra,rfl⟩,trivial⟩⟩
theorem vk:af E1B iy:=aD tI (by kernel_rfl) QU (by kernel_rfl) rfl
end K
end Ev
end
end Go.Proofs.Ythkgcllekhnecaa
