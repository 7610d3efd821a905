/- Texts of a claim, joined. -/
import Derived.Test.YtoamaaicfjkmhaaZT9
import Derived.Shelf.SlSortCmp.WholeK
import Derived.Laws.AppendOwnNone
import Derived.Maps.RangeWalk
import Derived.Maps.Ext
import Derived.WideKeyArr
set_option linter.unusedVariables false
set_option linter.unusedSimpArgs false
namespace Go.Proofs.Ytoamaaicfjkmhaa
noncomputable section
namespace Sm
abbrev V:=Int×Int
structure Rg where
 o:Int->V
 ad:V->V->V
 na:V->Int×Bool
abbrev Ky:=Int×Int
def key(e:Int×Int×Int):Ky:=(e.1,e.2.1)
def klt(a b:Ky):Bool:=decide (a.1<b.1∨a.1=b.1/\a.2<b.2)
theorem nH(a:Ky):klt a a=false:=by simp [klt]
theorem pu{a b c:Ky}(h1:klt a b=true)(h2:klt b c=true):klt a c=true:=by simp [klt]at*;omega
theorem xL{a b:Ky}(h1:klt a b=false)(h2:klt b a=false):a=b:=by
 simp [klt]at*;refine Prod.ext ?_ ?_<;>omega
theorem Bd{a b:Ky}(h:klt a b=true):a≠b:=by rintro rfl;rw [nH]at h;cases h
theorem zp{a b:Ky}(h:klt a b=true):klt b a=false:=by simp [klt]at*;omega
def toE(R:Rg)(p:Ky×V):Int×Int×Int:=(p.1.1,p.1.2,(R.na p.2).1)
def upd(R:Rg)(f:Ky->Option V)(e:Int×Int×Int):Ky->Option V:=λk=>if k=key e then some (match f (key e)with|some s=>R.ad s (R.o e.2.2)|none=>R.o e.2.2)else f k
def fm(R:Rg)(l:List (Int×Int×Int)):Ky->Option V:=l.foldl (upd R) (λ_=>none)
theorem JG(R:Rg)(l:List (Int×Int×Int))(e:Int×Int×Int):fm R (l++ [e])=upd R (fm R l) e:=by simp [fm]
def ins(R:Rg):List (Ky×V)->(Int×Int×Int)->List (Ky×V)
 | [],e=> [(key e,R.o e.2.2)]
 |p::S,e=>if klt p.1 (key e)=true then p::ins R S e else if klt (key e) p.1=true then(key e,R.o e.2.2)::p::S else(p.1,R.ad p.2 (R.o e.2.2))::S
def eR(R:Rg)(l:List (Int×Int×Int)):List (Ky×V):=l.foldl (ins R) []
theorem Eu(R:Rg)(l:List (Int×Int×Int))(e:Int×Int×Int):eR R (l++ [e])=ins R (eR R l) e:=by simp [eR]
def Rep(S:List (Ky×V))(f:Ky->Option V):Prop:=S.Pairwise (λp q=>klt p.1 q.1=true)/\∀k z,(k,z)∈S↔f k=some z
theorem Rep.nil:Rep [] (λ_=>none):=⟨List.Pairwise.nil,by simp⟩
theorem Di(R:Rg)(e:Int×Int×Int):∀(S:List (Ky×V)) (q:Ky×V),q∈ins R S e->q.1=key e∨q∈S
 | [],q,h=>by simp [ins]at h;subst h;exact .inl rfl
 |p::S,q,h=>by
  unfold ins at h;split at h
  .rcases List.mem_cons.1 h with rfl|h
   .exact .inr (by simp)
   .rcases Di R e S q h with h|h
    .exact .inl h
    .exact .inr (by simp [h])
  .split at h
   .rcases List.mem_cons.1 h with rfl|h
    .exact .inl rfl
    .exact .inr h
   .rename_i h1 h2;rcases List.mem_cons.1 h with rfl|h
    .exact .inl (xL (by simpa using h1) (by simpa using h2))
    .exact .inr (by simp [h])
theorem sj(R:Rg)(e:Int×Int×Int):∀(S:List (Ky×V)),S.Pairwise (λp q=>klt p.1 q.1=true)->(ins R S e).Pairwise (λp q=>klt p.1 q.1=true)
 | [],_=>by simp [ins]
 |p::S,h=>by
  obtain⟨h1,h2⟩:=List.pairwise_cons.1 h;unfold ins;split
  .rename_i hp;refine List.pairwise_cons.2 ⟨λq hq=> ?_,sj R e S h2⟩;rcases Di R e S q hq with h|h
   .rw [h];exact hp
   .exact h1 q h
  .split
   .rename_i hp;refine List.pairwise_cons.2 ⟨λq hq=> ?_,h⟩;rcases List.mem_cons.1 hq with rfl|hq
    .exact hp
    .exact pu hp (h1 q hq)
   .exact List.pairwise_cons.2 ⟨h1,h2⟩
theorem Nf(R:Rg)(e:Int×Int×Int):∀(S:List (Ky×V)) (f:Ky->Option V),Rep S f->Rep (ins R S e) (upd R f e)
 |S,f,h=>⟨sj R e S h.1,by
  intro k z
  have hmem:∀(S:List (Ky×V)),S.Pairwise (λp q=>klt p.1 q.1=true)->((k,z)∈ins R S e↔if k=key e then(∃s,(k,s)∈S/\z=R.ad s (R.o e.2.2))∨((∀s,(k,s)∉ S)/\z=R.o e.2.2)else(k,z)∈S):=by
   intro S
   induction S with
   |nil=>intro _;simp [ins,key]
   |cons p S ih=>
    intro hs;obtain⟨h1,h2⟩:=List.pairwise_cons.1 hs;unfold ins;split
    .rename_i hp;rw [List.mem_cons,ih h2];by_cases hk:k=key e
     .have hne:∀s,(k,s)≠p:=λs hs=>Bd hp (by rw [<-hs];exact hk);simp [hk];rw [<-hk];simp [hne]
     .simp [hk]
    .split
     .rename_i hp0 hp
      have hno:∀s,(key e,s)∉ p::S:=by
       intro s hs;rcases List.mem_cons.1 hs with rfl|hs
       .rw [nH]at hp;cases hp
       .have:=pu hp (h1 _ hs)
        rw [nH]at this;cases this
      by_cases hk:k=key e
      .subst hk;rw [List.mem_cons];simp only [if_true];constructor
       .rintro(h|h)
        .exact .inr ⟨hno,by cases h;rfl⟩
        .exact absurd h (hno _)
       .rintro(⟨s,h,_⟩|⟨_,rfl⟩)
        .exact absurd h (hno _)
        .exact .inl rfl
      .rw [List.mem_cons,if_neg hk];constructor
       .rintro(h|h)
        .cases h;exact absurd rfl hk
        .exact h
       .exact .inr
     .rename_i hp0 hp;have he:p.1=key e:=xL (by simpa using hp0) (by simpa using hp)
      have hno:∀s,(key e,s)∉ S:=by
       intro s hs
       have:=h1 _ hs
       rw [he,nH]at this;cases this
      by_cases hk:k=key e
      .subst hk;simp only [if_true];rw [List.mem_cons];constructor
       .rintro(h|h)
        .exact .inl ⟨p.2,by rw [<-he];simp,by have:=congrArg Prod.snd h;exact this⟩
        .exact absurd h (hno _)
       .rintro(⟨s,h,rfl⟩|⟨h,_⟩)
        .rcases List.mem_cons.1 h with h|h
         .left
          rw [<-h]
         .exact absurd h (hno _)
        .exact absurd (show(key e,p.2)∈p::S by rw [<-he];simp) (h _)
      .rw [List.mem_cons,if_neg hk,List.mem_cons];constructor
       .rintro(h|h)
        .exact absurd (by rw [<-he];exact congrArg Prod.fst h) hk
        .exact .inr h
       .rintro(h|h)
        .exact absurd (by rw [<-he,<-h]) hk
        .exact .inr h
  rw [hmem S h.1];unfold upd;by_cases hk:k=key e
  .subst hk;simp only [if_true]
   cases hf:f (key e)with
   |none=>
    have hno:∀s,(key e,s)∉ S:=λs hs=>by rw [h.2,hf]at hs;cases hs
    simp [hno,eq_comm]
   |some s=>
    have hs:=(h.2 (key e) s).2 hf;simp only [zsI];constructor
    .rintro(⟨s',h',rfl⟩|⟨h',_⟩)
     .rw [h.2,hf]at h';cases h';rfl
     .exact absurd hs (h' _)
    .rintro rfl;exact .inl ⟨s,hs,rfl⟩
  .simp [hk,h.2]⟩
theorem eZ(R:Rg)(l:List (Int×Int×Int)):Rep (eR R l) (fm R l):=by
 have:∀(l:List (Int×Int×Int)) (S:List (Ky×V)) (f:Ky->Option V),Rep S f->Rep (l.foldl (ins R) S) (l.foldl (upd R) f):=by
  intro l
  induction l with
  |nil=>intro S f h;exact h
  |cons e l ih=>intro S f h;exact ih _ _ (Nf R e S f h)
 exact this l [] _ Rep.nil
theorem Rep.nodup{S:List (Ky×V)}{f:Ky->Option V}(h:Rep S f):S.Nodup:=h.1.imp λ{a b} h e=>by rw [e,nH]at h;cases h
theorem Rep.perm{S T:List (Ky×V)}{f:Ky->Option V}(h:Rep S f)(hT:(T.map (·.1)).Nodup)(h1:∀p∈T,f p.1=some p.2)(h2:∀k z,f k=some z->(k,z)∈T):T.Perm S:=by
 have hTn:T.Nodup:=by
  have:=List.pairwise_map.1 hT
  exact this.imp λ{a b} h e=>h (by rw [e])
 refine(List.perm_ext_iff_of_nodup hTn h.nodup).2 λp=>⟨λhp=>(h.2 p.1 p.2).2 (h1 p hp),λhp=>h2 p.1 p.2 ((h.2 p.1 p.2).1 hp)⟩
theorem Rep.uniq{S T:List (Ky×V)}{f:Ky->Option V}(h:Rep S f)(h':Rep T f):S=T:=by
 have hp:S.Perm T:=(List.perm_ext_iff_of_nodup h.nodup h'.nodup).2 λp=>by rw [show p=(p.1,p.2)from rfl,h.2,h'.2]
 refine hp.eq_of_pairwise (le:=λp q=>klt p.1 q.1=true) (λa b _ _ h1 h2=> ?_) h.1 h'.1;rw [zp h1]at h2;cases h2
theorem zq(R:Rg)(e:Int×Int×Int):∀(S:List (Ky×V)),(∀p∈S,klt p.1 (key e)=true)->ins R S e=S++ [(key e,R.o e.2.2)]
 | [],_=>rfl
 |p::S,h=>by
  unfold ins;rw [if_pos (h p (by simp)),zq R e S (λq hq=>h q (by simp [hq]))];rfl
theorem zr(R:Rg):∀(l:List (Int×Int×Int)),l.Pairwise (λa b=>klt (key a) (key b)=true)->eR R l=l.map (λe=>(key e,R.o e.2.2)):=by
 intro l
 have:∀(m l:List (Int×Int×Int)),(l++m).Pairwise (λa b=>klt (key a) (key b)=true)->m.foldl (ins R) (l.map (λe=>(key e,R.o e.2.2)))=(l++m).map (λe=>(key e,R.o e.2.2)):=by
  intro m
  induction m with
  |nil=>intro l _;simp
  |cons e m ih=>
   intro l h;rw [List.foldl_cons,zq]
   .have:=ih (l++ [e]) (by simpa using h)
    simpa using this
   .intro p hp;obtain⟨a,ha,rfl⟩:=List.mem_map.1 hp;exact(List.pairwise_append.1 h).2.2 a ha e (by simp)
 intro h
 have:=this l [] h
 simpa [eR]using this
theorem xM{R:Rg}:∀{l:List (Int×Int×Int)} {k:Ky} {z:V},fm R l k=some z->∃e∈l,key e=k:=by
 intro l
 have:∀(l:List (Int×Int×Int)) (f:Ky->Option V) (k:Ky) (z:V),l.foldl (upd R) f k=some z->(∃e∈l,key e=k)∨∃z,f k=some z:=by
  intro l
  induction l with
  |nil=>intro f k z h;exact .inr ⟨z,h⟩
  |cons e l ih=>
   intro f k z h;rcases ih _ _ _ h with⟨e',h1,h2⟩|⟨z',h2⟩
   .exact .inl ⟨e',by simp [h1],h2⟩
   .unfold upd at h2;split at h2
    .rename_i hk;exact .inl ⟨e,by simp,hk.symm⟩
    .exact .inr ⟨z',h2⟩
 intro k z h;rcases this l _ k z h with h|⟨z,h⟩
 .exact h
 .cases h
def bJ(R:Rg)(l:List (Int×Int×Int)):List (Int×Int×Int)×Int:=if(eR R l).all (λp=>(R.na p.2).2)=true then((eR R l).map (toE R),0)else([],12)
theorem Ew{R:Rg}{l:List (Int×Int×Int)}{k:Ky}{z:V}(hk:fm R l k=some z)(hz:(R.na z).2=false):bJ R l=([],12):=by
 have hm:=((eZ R l).2 k z).2 hk
 have:¬(eR R l).all (λp=>(R.na p.2).2)=true:=by
  intro ha
  have:=List.all_eq_true.1 ha _ hm
  rw [hz]at this;cases this
 simp only [bJ,if_neg this]
theorem Ey(R:Rg)(l l':List (Int×Int×Int))(T:List (Ky×V))(hT:T.Perm (eR R l))(hp:l'.Perm (T.map (toE R)))(hs:l'.Pairwise (λa b=>klt (key b) (key a)=false)):l'=(eR R l).map (toE R):=by
 have hp2:l'.Perm ((eR R l).map (toE R)):=hp.trans (hT.map (toE R));have hc:=(eZ R l).1
 have hs2:((eR R l).map (toE R)).Pairwise (λa b=>klt (key b) (key a)=false):=by
  rw [List.pairwise_map];exact hc.imp λ{a b} h=>zp h
 have hn:((eR R l).map (toE R)).Pairwise (λa b=>key a≠key b):=by
  rw [List.pairwise_map];exact hc.imp λ{a b} h=>Bd h
 refine hp2.eq_of_pairwise (le:=λa b=>klt (key b) (key a)=false) (λa b ha hb h1 h2=> ?_) hs hs2;have hk:key a=key b:=xL h2 h1;have ha':=hp2.mem_iff.1 ha;have hb':=hb;obtain⟨i,hi,rfl⟩:=List.mem_iff_getElem.1 ha';obtain⟨j,hj,rfl⟩:=List.mem_iff_getElem.1 hb';have hpw:=List.pairwise_iff_getElem.1 hn;rcases Nat.lt_trichotomy i j with h|h|h
 .exact absurd hk (hpw i j hi hj h)
 .subst h;rfl
 .exact absurd hk.symm (hpw j i hj hi h)
theorem Gp{R:Rg}{l:List (Int×Int×Int)}(ha:∀k z,fm R l k=some z->(R.na z).2=true):bJ R l=((eR R l).map (toE R),0):=by
 have:(eR R l).all (λp=>(R.na p.2).2)=true:=List.all_eq_true.2 λp hp=>ha p.1 p.2 (((eZ R l).2 p.1 p.2).1 hp)
 simp only [bJ,if_pos this]
end Sm
end
noncomputable section
open Go.RowKit Go.Sort
namespace Sm
open Ev
@[go_sem] abbrev WV (p:V):Value:= .agg #[.int .i64 p.1,.int .u64 p.2]
abbrev Ed:=Int×Int×Int
def pw(n:Int):Prop:= -9223372036854775808<=n/\n<=9223372036854775807
def px(x y:Int):Int:=if x<y then -1 else if y<x then 1 else 0
def orI(x y:Int):Int:=if x=0 then y else x
def el(l:List Ed)(i:Nat):Ed:=l.getD i (0,0,0)
theorem Ng{l:List Ed}{i:Nat}(h:i<l.length):el l i∈l:=by
 simp [el,List.getD_eq_getElem?_getD,h]
theorem Bf(l:List Ed)(i:Nat)(h:i<l.length):(l.toArray)[i]! =el l i:=by
 simp [el,List.getD_eq_getElem?_getD,h]
theorem JH{l:List Ed}{j:Nat}(h:j<l.length):l.take (j+1)=l.take j++ [el l j]:=by
 rw [List.take_succ_eq_append_getElem h];simp [el,List.getD_eq_getElem?_getD,h]
theorem Ox(g i:Nat):((⟨g,0,none⟩:Addr).add i)=⟨g,i,none⟩:=by unfold Addr.add;split<;>simp_all
theorem fc(a:Addr)(k:Nat):a.add (k+1)=⟨a.block,(a.add k).off+1,none⟩:=by
 unfold Addr.add;by_cases h:k=0
 .subst h;simp
 .simp [h];omega
def PT:T->Option Value
 | .v x=>if x.oneCell' then some x else none
 | .s _ _ _=>none
def PTs:List T->Option (List Value)
 | []=>some []
 |t::r=>(PT t).bind λx=>(PTs r).map (x::·)
def PD:TD->Option Value
 | .one t=>PT t
 | .agg ts=>(PTs ts).map λl=> .agg l.toArray
theorem Gq{t:T}{x:Value}(h:PT t=some x)(w:World)(F:Nat->Prop):RepT w F t x/\∀y,RepT w F t y->y=x:=by
 cases t with
 |s=>simp [PT]at h
 |v z=>
  simp only [PT]at h;split at h
  .rename_i hz;cases h;exact⟨.v _ hz,λy hy=>by cases hy;rfl⟩
  .simp at h
theorem Dj:∀{ts:List T} {l:List Value},PTs ts=some l->∀(w:World) (F:Nat->Prop),RepTs w F ts l/\∀ys,RepTs w F ts ys->ys=l
 | [],l,h,w,F=>by
  simp [PTs]at h;subst h;exact⟨⟨rfl,by simp⟩,λys hy=>by have:=hy.1;simpa using this.symm⟩
 |t::r,l,h,w,F=>by
  simp only [PTs,zbE,Option.map_eq_some_iff]at h;obtain⟨x,hx,l',hl,rfl⟩:=h;obtain⟨h1,h2⟩:=Gq hx w F;obtain⟨h3,h4⟩:=Dj hl w F;refine⟨⟨by simp [h3.1],λi t' hi=> ?_⟩,λys hy=> ?_⟩
  .cases i with
   |zero=>simp at hi;subst hi;exact⟨x,rfl,h1⟩
   |succ i=>obtain⟨y,e1,e2⟩:=h3.2 i t' (by simpa using hi);exact⟨y,by simpa using e1,e2⟩
  .obtain⟨hl,hy⟩:=hy
   cases ys with
   |nil=>simp at hl
   |cons y ys=>
    obtain⟨y',e1,e2⟩:=hy 0 t rfl;simp at e1;subst e1
    rw [h2 _ e2,h4 ys ⟨by simpa using hl,λi t' hi=>by
     obtain⟨z,f1,f2⟩:=hy (i+1) t' (by simpa using hi)
     exact⟨z,by simpa using f1,f2⟩⟩]
theorem Gs{t:TD}{x:Value}(h:PD t=some x)(w:World)(F:Nat->Prop):RepTD w F t x/\∀y,RepTD w F t y->y=x:=by
 cases t with
 |one t=>
  obtain⟨h1,h2⟩:=Gq h w F;exact⟨.one _ _ h1,λy hy=>by cases hy with|one _ _ hy=>exact h2 _ hy⟩
 |agg ts=>
  simp only [PD,Option.map_eq_some_iff]at h;obtain⟨l,hl,rfl⟩:=h;obtain⟨h1,h2⟩:=Dj hl w F;exact⟨.agg _ _ h1,λy hy=>by cases hy with|agg _ ys hy=>rw [h2 _ hy]⟩
def PDs:List TD->Option (List Value)
 | []=>some []
 |t::r=>(PD t).bind λx=>(PDs r).map (x::·)
theorem rE:∀{ts:List TD} {l:List Value},PDs ts=some l->∀(w:World) (F:Nat->Prop),iu w F ts l/\∀ys,iu w F ts ys->ys=l
 | [],l,h,w,F=>by
  simp [PDs]at h;subst h;exact⟨⟨rfl,by simp⟩,λys hy=>by have:=hy.1;simpa using this.symm⟩
 |t::r,l,h,w,F=>by
  simp only [PDs,zbE,Option.map_eq_some_iff]at h;obtain⟨x,hx,l',hl,rfl⟩:=h;obtain⟨h1,h2⟩:=Gs hx w F;obtain⟨h3,h4⟩:=rE hl w F;refine⟨⟨by simp [h3.1],λi t' hi=> ?_⟩,λys hy=> ?_⟩
  .cases i with
   |zero=>simp at hi;subst hi;exact⟨x,rfl,h1⟩
   |succ i=>obtain⟨y,e1,e2⟩:=h3.2 i t' (by simpa using hi);exact⟨y,by simpa using e1,e2⟩
  .obtain⟨hl,hy⟩:=hy
   cases ys with
   |nil=>simp at hl
   |cons y ys=>
    obtain⟨y',e1,e2⟩:=hy 0 t rfl;simp at e1;subst e1
    rw [h2 _ e2,h4 ys ⟨by simpa using hl,λi t' hi=>by
     obtain⟨z,f1,f2⟩:=hy (i+1) t' (by simpa using hi)
     exact⟨z,by simpa using f1,f2⟩⟩]
def PR:List TD->Option Value
 | [r]=>PD r
 |rs=>(PDs rs).map λl=> .tuple l.toArray
theorem Gt{rs:List TD}{x:Value}(h:PR rs=some x)(w:World)(F:Nat->Prop){y:Value}(hy:jJ w F rs y):y=x:=by
 match rs,h,hy with
 | [],h,⟨ys,e,hy⟩=>
  simp [PR,PDs]at h;subst h;rw [e,(rE (ts:= []) (l:= []) rfl w F).2 _ hy]
 | [r],h,hy=>exact(Gs h w F).2 _ hy
 |r::r'::rs,h,⟨ys,e,hy⟩=>
  simp only [PR,Option.map_eq_some_iff]at h;obtain⟨l,hl,rfl⟩:=h;rw [e,(rE hl w F).2 _ hy]
theorem ig{P:Program}{k:FuncId}{vs:List TD}{kind:Kind}{rs:List TD}(h:dY P k vs kind rs){ys:List Value}{y:Value}(h1:PDs vs=some ys)(h2:PR rs=some y)(w:World)(hL:LD w.heap.size w):Calls P k ys.toArray w λe w'=>e= .returned y/\Below w.heap.size w w':=by
 refine(h w (λ_=>False) ys hL (λ_ h=>h.elim) (rE h1 w _).1).mono λe w' ⟨y',e1,e2,_,e3⟩=>⟨?_,e3⟩;rw [e1,Gt h2 w' _ e2]
end Sm
end
noncomputable section
open Go.Shelf Go.RowKit Go.Lib Go.Sort
namespace Sm
namespace Eg
def Ez:Go.Shelf.Ren:=⟨λ|6=>69|15=>87|14=>86|28=>103|29=>104|20=>95|21=>96|22=>97|23=>98|24=>99|25=>100|26=>101|27=>102|46=>107|47=>108|48=>109|49=>110|50=>111|57=>112|n=>n,λ|22=>36|24=>48|25=>70|3=>3|39=>112|0=>0|53=>77|55=>102|4=>4|46=>140|45=>139|50=>144|5=>5|9=>9|66=>148|70=>152|76=>154|77=>155|n=>n,λ|n=>n⟩
theorem Oy:Go.Proofs.SlLaysF0.n6 Try.prog Ez:=
 {
  mixed:=by kernel_rfl,
  f6:=⟨Try.f69.name,by decide,Try.func69.trans (congrArg some (by kernel_rfl))⟩,
  f14:=⟨Try.f86.name,by decide,Try.func86.trans (congrArg some (by kernel_rfl))⟩,
  f15:=Try.func87.trans (congrArg some (by kernel_rfl)),
  f20:=⟨Try.f95.name,by decide,Try.func95.trans (congrArg some (by kernel_rfl))⟩,
  f21:=⟨Try.f96.name,by decide,Try.func96.trans (congrArg some (by kernel_rfl))⟩,
  f22:=⟨Try.f97.name,by decide,Try.func97.trans (congrArg some (by kernel_rfl))⟩,
  f23:=⟨Try.f98.name,by decide,Try.func98.trans (congrArg some (by kernel_rfl))⟩,
  f24:=⟨Try.f99.name,by decide,Try.func99.trans (congrArg some (by kernel_rfl))⟩,
  f25:=⟨Try.f100.name,by decide,Try.func100.trans (congrArg some (by kernel_rfl))⟩,
  f26:=⟨Try.f101.name,by decide,Try.func101.trans (congrArg some (by kernel_rfl))⟩,
  f27:=⟨Try.f102.name,by decide,Try.func102.trans (congrArg some (by kernel_rfl))⟩,
  f28:=Try.func103.trans (congrArg some (by kernel_rfl)),
  f29:=Try.func104.trans (congrArg some (by kernel_rfl)),
  f46:=⟨Try.f107.name,by decide,Try.func107.trans (congrArg some (by kernel_rfl))⟩,
  f47:=Try.func108.trans (congrArg some (by kernel_rfl)),
  f48:=Try.func109.trans (congrArg some (by kernel_rfl)),
  f49:=⟨Try.f110.name,by decide,Try.func110.trans (congrArg some (by kernel_rfl))⟩,
  f50:=⟨Try.f111.name,by decide,Try.func111.trans (congrArg some (by kernel_rfl))⟩,
  f57:=⟨Try.f112.name,by decide,Try.func112.trans (congrArg some (by kernel_rfl))⟩,
  t0:=Try.underlying0,
  a0:=Try.isAgg0,
  z0:=Try.sizeOf0,
  v0:=Try.zeroValue0,
  t3:=Try.underlying3,
  a3:=Try.isAgg3,
  z3:=Try.sizeOf3,
  v3:=Try.zeroValue3,
  t4:=Try.underlying4,
  a4:=Try.isAgg4,
  z4:=Try.sizeOf4,
  v4:=Try.zeroValue4,
  t5:=Try.underlying5,
  a5:=Try.isAgg5,
  z5:=Try.sizeOf5,
  v5:=Try.zeroValue5,
  t9:=Try.underlying9,
  a9:=Try.isAgg9,
  z9:=Try.sizeOf9,
  v9:=Try.zeroValue9,
  t22:=Try.underlying36,
  a22:=Try.isAgg36,
  z22:=Try.sizeOf36,
  v22:=Try.zeroValue36,
  t25:=Try.underlying70,
  a25:=Try.isAgg70,
  z25:=Try.sizeOf70,
  v25:=Try.zeroValue70,
  t39:=Try.underlying112,
  a39:=Try.isAgg112,
  z39:=Try.sizeOf112,
  v39:=Try.zeroValue112,
  t45:=Try.underlying139,
  a45:=Try.isAgg139,
  z45:=Try.sizeOf139,
  v45:=Try.zeroValue139,
  t46:=Try.underlying140,
  a46:=Try.isAgg140,
  z46:=Try.sizeOf140,
  v46:=Try.zeroValue140,
  t50:=Try.underlying144,
  a50:=Try.isAgg144,
  z50:=Try.sizeOf144,
  v50:=Try.zeroValue144,
  t53:=Try.underlying77,
  a53:=Try.isAgg77,
  z53:=Try.sizeOf77,
  v53:=Try.zeroValue77,
  t55:=Try.underlying102,
  a55:=Try.isAgg102,
  z55:=Try.sizeOf102,
  v55:=Try.zeroValue102,
  t66:=Try.underlying148,
  a66:=Try.isAgg148,
  z66:=Try.sizeOf148,
  v66:=Try.zeroValue148,
  t70:=Try.underlying152,
  a70:=Try.isAgg152,
  z70:=Try.sizeOf152,
  v70:=Try.zeroValue152,
  t76:=Try.underlying154,
  a76:=Try.isAgg154,
  z76:=Try.sizeOf154,
  v76:=Try.zeroValue154,
  t77:=Try.underlying155,
  a77:=Try.isAgg155,
  z77:=Try.sizeOf155,
  v77:=Try.zeroValue155}
@[go_sem] abbrev EV (e:Ed):Value:= .agg #[.int .i64 e.1,.int .i64 e.2.1,.int .i64 e.2.2]
def enc(e:Ed):List Value:= [.int .i64 e.1,.int .i64 e.2.1,.int .i64 e.2.2]
def RdE(w:World)(a:Option Addr)(l:List Ed):Prop:=∀i,i<l.length->∃b,a=some b/\b.block<w.heap.size/\w.cell? (b.add (i*3))=some (.int .i64 (el l i).1)/\w.cell? ⟨b.block,(b.add (i*3)).off+1,none⟩=some (.int .i64 (el l i).2.1)/\w.cell? ⟨b.block,(b.add (i*3)).off+2,none⟩=some (.int .i64 (el l i).2.2)
theorem RdE.below{w w':World}{a:Option Addr}{l:List Ed}(h:RdE w a l)(hb:Below w.heap.size w w'):RdE w' a l:=by
 intro i hi;obtain⟨b,e,hl,h0,h1,h2⟩:=h i hi;exact⟨b,e,Nat.lt_of_lt_of_le hl hb.size,(hb.cell (by rw [rR];exact hl)).trans h0,(hb.cell (p:=⟨b.block,_,none⟩) hl).trans h1,(hb.cell (p:=⟨b.block,_,none⟩) hl).trans h2⟩
def Bg(a b:Ed):Int:=orI (px a.1 b.1) (px a.2.1 b.2.1)
theorem JI(a b:Ed):Bg a b<0↔klt (key a) (key b)=true:=by
 unfold Bg orI px klt key;simp only [decide_eq_true_eq];split<;>split<;>(try split)<;>omega
theorem Bh(x:Int)(w:World):Calls Try.prog 81 #[.int .i64 x] w λe w'=>e= .returned (.bool false)/\w'=w:=by
 go_enter Try.func81,Try.ntmps81
 go_wp2
 go_ret
 exact⟨by simp,rfl⟩
set_option maxRecDepth 100000 in
theorem vc(x y:Int)(w:World):Calls Try.prog 64 #[.int .i64 x,.int .i64 y] w λe w'=>e= .returned (.int .i64 (px x y))/\w'=w:=by
 go_enter Try.func64,Try.ntmps64
 go_wp2_with (go_at_call 81;refine(Bh _ _).mono ?_;rintro e w1 ⟨rfl,rfl⟩)
 all_goals go_ret
 .refine⟨by unfold px;rw [if_pos (by assumption)];rfl,rfl⟩
 .refine⟨by unfold px;rw [if_neg (by omega),if_pos (by assumption)];rfl,rfl⟩
 .refine⟨by unfold px;rw [if_neg (by omega),if_neg (by omega)];rfl,rfl⟩
set_option maxRecDepth 100000 in
theorem Bi(x y:Int)(w:World)(g:Nat)(h:w.heap[g]? =some (.cells #[.int .i64 x,.int .i64 y] 3 (0,0))):
  Calls Try.prog 63 #[.slice (some ⟨g,0,none⟩) 2 2] w λe w'=>e= .returned (.int .i64 (orI x y))/\w'=w:=by
 have c0:w.cell? ⟨g,0,none⟩=some (.int .i64 x):=by simp [World.cell?,h]
 have c1:w.cell? ⟨g,1,none⟩=some (.int .i64 y):=by simp [World.cell?,h]
 have kg:Has w g:=(Array.getElem?_eq_some_iff.1 h).1
 go_enter Try.func63,Try.ntmps63
 by_cases hx:x=0
 .subst hx;by_cases hy:y=0
  .subst hy
   go_wp2
   refine wp_loop_rounds 3 ?_;rw [rounds_succ];go_wp2;rw [rounds_succ];go_wp2;rw [rounds_succ];go_wp2
   go_ret
   exact⟨by simp [orI],rfl⟩
  .go_wp2
   refine wp_loop_rounds 2 ?_;rw [rounds_succ];go_wp2;rw [rounds_succ];go_wp2
   go_ret
   exact⟨by simp [orI],rfl⟩
 .go_wp2
  refine wp_loop_rounds 1 ?_;rw [rounds_succ];go_wp2
  go_ret
  exact⟨by simp [orI,hx],rfl⟩
theorem Bj(x y:Int)(V:World)(g:Nat)(hg:g=V.heap.size):
  Calls Try.prog 63 #[.slice (some ⟨g,0,none⟩) 2 2] (V.alloc (.cells #[.int .i64 x,.int .i64 y] 3 (0,0))) λe w'=>e= .returned (.int .i64 (orI x y))/\w'=(V.alloc (.cells #[.int .i64 x,.int .i64 y] 3 (0,0))):=by
 subst hg;exact Bi x y _ _ (World.alloc_heap_new V _)
theorem Oz(w:World)(n:Nat)(a b c:Obj):∃q os',(((w.alloc a).alloc b).drewN n).alloc c=grow (w.drewN q) os':=⟨n,#[a]++(#[b]++ #[c]),by
 rw [alloc_eq_grow _ c,alloc_eq_grow _ b,alloc_eq_grow _ a];show grow (grow (grow (w.drewN n) #[a]) #[b]) #[c]=_
 rw [Go.Sort.grow_grow,Go.Sort.grow_grow]⟩
attribute [local irreducible] px orI in
set_option maxRecDepth 100000 in
theorem EA(a b:Ed)(w:World):Calls Try.prog 38 #[EV a,EV b] w λe w'=>e= .returned (.int .i64 (Bg a b))/\∃q os',w'=grow (w.drewN q) os':=by
 go_enter Try.func38,Try.ntmps38
 go_wp2_with fail
 refine go (C:=λw'=>∃n,w'=World.drewN _ n) 10 (by kernel_rfl) (by kernel_rfl) ⟨1,rfl⟩ ?_;simp only [List.take_succ_cons,List.take_zero,List.drop_succ_cons,List.drop_zero]
 repeat (go_big_quiet_step (first|(go_at_call 64;exact(vc _ _ _).mono λ_ _ ⟨he,hw⟩=>⟨he,_,hw⟩)))
 refine wpQuiet_nil ?_;rintro _ ⟨n,rfl⟩
 go_wp2_with fail
 refine(Bj (px a.1 b.1) (px a.2.1 b.2.1) _ _ (by simp [go_sem])).mono ?_;rintro e w1 ⟨rfl,rfl⟩
 go_wp2
 go_ret
 exact⟨rfl,Oz _ _ _ _ _⟩
def cellsE(l:List Ed):List Value:=l.flatMap enc
theorem jK(e:Ed)(l:List Ed):cellsE (e::l)=enc e++cellsE l:=rfl
theorem Bk(l m:List Ed):cellsE (l++m)=cellsE l++cellsE m:=by simp [cellsE]
theorem cellsE_len(l:List Ed):(cellsE l).length=l.length*3:=by
 induction l with
 |nil=>rfl
 |cons e l ih=>rw [jK,List.length_append,ih];simp [enc];omega
theorem cellsE_at:∀(l:List Ed) (i k:Nat),i<l.length->k<3->(cellsE l)[i*3+k]? =(enc (el l i))[k]?
 | [],i,k,h,_=>by simp at h
 |e::l,0,k,h,hk=>by
  rw [jK,List.getElem?_append_left (by simp [enc];omega)];simp [el]
 |e::l,i+1,k,h,hk=>by
  rw [jK,List.getElem?_append_right (by simp [enc];omega)]
  have:(i+1)*3+k - (enc e).length=i*3+k:=by simp [enc];omega
  rw [this,cellsE_at l i k (by simpa using h) hk];simp [el]
theorem Bl(l:List Ed):∀u∈cellsE l,u.oneCell'=true:=by
 intro u hu;obtain⟨e,_,he⟩:=List.mem_flatMap.1 hu;simp [enc]at he;rcases he with rfl|rfl|rfl<;>rfl
theorem rdE_cells{w:World}{g:Nat}{l:List Ed}(hg:g<w.heap.size)(hc:∀i,i<l.length->∀k,k<3->w.cell? ⟨g,i*3+k,none⟩=(enc (el l i))[k]?):RdE w (some ⟨g,0,none⟩) l:=by
 intro i hi;have e:(⟨g,0,none⟩:Addr).add (i*3)=⟨g,i*3,none⟩:=Ox _ _;refine⟨⟨g,0,none⟩,rfl,hg,?_,?_,?_⟩
 .rw [e];simpa [enc]using hc i hi 0 (by omega)
 .rw [e];simpa [enc]using hc i hi 1 (by omega)
 .rw [e];simpa [enc]using hc i hi 2 (by omega)
theorem row_rdE{w:World}{base n:Nat}{v:Value}{l:List Ed}(h:w.ownsRow base 48 3 v n (cellsE l)):n=l.length/\∃a c,v= .slice a n c/\n<=c/\RdE w a l/\(a=none->c=0/\n=0):=by
 have hn:n=l.length:=by have:=h.1;rw [cellsE_len]at this;omega
 refine⟨hn,?_⟩;rcases h.2 with⟨rfl,h0⟩|⟨g,cap,cur,rfl,hb,hg,hcap,_⟩
 .obtain rfl:n=0:=h0;exact⟨none,0,rfl,by omega,λi hi=>by omega,λ_=>⟨rfl,rfl⟩⟩
 .refine⟨some ⟨g,0,none⟩,cap,rfl,hcap,?_,by simp⟩;refine rdE_cells (Array.getElem?_eq_some_iff.1 hg).1 (λi hi k hk=> ?_);rw [h.cellAt (i*3+k) (by omega),cellsE_at l i k hi hk]
theorem Dk(l:List Ed)(i k:Nat)(h:i<l.length)(hk:k<3):some (flatK enc 3 l.toArray)[i*3+k]! =(enc (el l i))[k]? :=by
 rw [get_flatK _ _ _ _ (by simp;omega),show(i*3+k)/ 3=i by omega,show(i*3+k)% 3=k by omega,Bf l i h]
 have:k<(enc (el l i)).length:=by simp [enc];omega
 rw [getElem!_pos (enc (el l i)) k this,List.getElem?_eq_getElem this]
theorem qO{w:World}{g n:Nat}{os:Array Obj}(F:Array Value):w.grownBy (grow (putRow id (Sort.ahead w n) g 0 F) os) (some g):=by
 refine⟨rfl,rfl,rfl,by simp,λk hk hne=> ?_⟩;rw [heap_grow_old _ _ (by simpa using hk)]
 have:g≠k:=λe=>hne (by rw [e])
 simp [putRow,mapBlock,Sort.ahead,Array.getElem?_modify,this]
def bl(a b:Ed):Bool:=klt (key a) (key b)
theorem Dl:ltOf Bg=bl:=by
 funext a b;unfold ltOf bl
 have:=JI a b
 cases h:klt (key a) (key b)<;>rw [h]at this<;>simp at this ⊢<;>exact this
theorem Nh:SWO bl where
 irrefl x:=by simp [bl,klt]
 trans x y z h1 h2:=by simp [bl,klt]at*;omega
 ntrans x y z h1 h2:=by simp [bl,klt]at*;omega
theorem zt{l:List Ed}(h:SortedIn bl 0 l.length l.toArray):l.Pairwise (λa b=>bl b a=false):=by
 rw [List.pairwise_iff_getElem];intro i j hi hj hij
 have:=h i j (by omega) hij hj
 rw [Bf l i hi,Bf l j hj]at this;simpa [el,List.getD_eq_getElem?_getD,hi,hj]using this
set_option maxHeartbeats 1000000 in
theorem EC(g c:Nat)(l:List Ed)(w:World)(hg:g<w.heap.size)(hc:∀i,i<l.length->∀k,k<3->w.cell? ⟨g,i*3+k,none⟩=(enc (el l i))[k]?)(hf:∀j,w.frozen? ⟨g,j,none⟩=false)(hl:l.length<4611686018427387904):
  Calls Try.prog 69 #[.slice (some ⟨g,0,none⟩) l.length c,.func (.func 38) #[] #[]] w λe w'=>e= .returned (.tuple #[])/\∃l':List Ed,l'.Perm l/\l'.Pairwise (λa b=>bl b a=false)/\RdE w' (some ⟨g,0,none⟩) l'/\w.grownBy w' (some g):=by
 have eg:∀args w,(callFunc 38 args).run Try.prog w= .ok (.enter 38 args) w:=enters_of Try.func38 (by kernel_rfl) rfl;have hcmp:CmpLays Try.prog 38 #[] enc 3 Bg g 0 l.toArray.size w:=λm os dk _ x y=>EA x y _
 have hH:HoldsK enc 3 w g 0 l.toArray:=by
  intro j hj;have hj':j<l.length*3:=by simpa using hj
  refine⟨?_,hf _⟩
  have:=hc (j / 3) (by omega) (j % 3) (by omega)
  rw [Nat.zero_add,show j=j / 3*3+j % 3 by omega,this,<-Dk l _ _ (by omega) (by omega)];rfl
 have hO:SWO (ltOf Bg):=by rw [Dl];exact Nh
 have hcon:=AnyQ.slices_SortFunc Oy 3 Try.isAgg48 Try.sizeOf48 enc (λ_=>rfl) (λx v hv=>by simp [enc]at hv;rcases hv with rfl|rfl|rfl<;>rfl) Bg hO 38 #[] g 0 c l.toArray w eg hcmp hH hg (by simpa using hl);refine hcon.mono ?_;rintro e w' ⟨rfl,d',n,os,hp,hs,rfl⟩;obtain⟨l',rfl⟩:∃l':List Ed,d'=l'.toArray:=⟨d'.toList,by simp⟩;have hsz:l'.length=l.length:=by simpa using hp.1
 refine⟨rfl,l',?_,?_,?_,?_⟩
 .have:=hp.2.2
  rw [show l.toArray.size=l'.toArray.size by simpa using hsz.symm]at this;rw [Array.extract_size]at this;have h2:=hp.2.2;rw [show l.toArray.size=l'.toArray.size by simpa using hsz.symm]at h2;rw [Array.extract_size]at h2;refine h2.trans ?_;rw [show l'.toArray.size=l.toArray.size by simpa using hsz,Array.extract_size]
 .rw [Dl]at hs;exact zt (by rw [hsz];simpa using hs)
 .refine rdE_cells ?_ (λi hi k hk=> ?_)
  .simp [sortWorldK,putRowK];omega
  .have hH2:=holds_putRow id (Sort.ahead w n) g 0 _ (flatK enc 3 l'.toArray) (show Holds id (Sort.ahead w n) g 0 (flatK enc 3 l.toArray)from hH) (by simp [hsz]) (i*3+k) (by simp;omega);rw [Nat.zero_add]at hH2;unfold sortWorldK;rw [cell?_grow _ _ _ (by simpa [putRowK]using hg)];exact hH2.1.trans (Dk l' i k hi hk)
 .exact qO _
theorem Lo:(Try.prog.info? 48).map (λi=>(i.zero,i.size,i.bytes))=some (some (.agg #[.int .i64 0,.int .i64 0,.int .i64 0]),3,24):=by kernel_rfl
theorem qp{P:Program}{e:TypeId}{z:Value}{s b:Nat}(h:(P.info? e).map (λi=>(i.zero,i.size,i.bytes))=some (some z,s,b)):∃i,P.info? e=some i/\i.zero=some z/\i.size=s/\i.bytes=b:=by
 obtain⟨i,hi,he⟩:=Option.map_eq_some_iff.1 h;simp at he;exact⟨i,hi,he.1,he.2.1,he.2.2⟩
theorem Gu{w:World}{b:Addr}{M:List Ed}(hr:RdE w (some b) M):∀j u,(cellsE M)[j]? =some u->w.cell? (b.add j)=some u:=by
 intro j u hj;have hj':j<M.length*3:=by have:=(List.getElem?_eq_some_iff.1 hj).1;rwa [cellsE_len]at this
 have hc:=cellsE_at M (j / 3) (j % 3) (by omega) (by omega);rw [show j / 3*3+j % 3=j by omega,hj]at hc;obtain⟨b',hb',_,h0,h1,h2⟩:=hr (j / 3) (by omega);cases hb';have h3:j % 3=0∨j % 3=1∨j % 3=2:=by omega
 rcases h3 with h3|h3|h3
 .rw [h3]at hc;simp [enc]at hc;rw [hc,show j=j / 3*3 by omega];rw [show(j / 3*3)/ 3=j / 3 by omega];exact h0
 .rw [h3]at hc;simp [enc]at hc;rw [hc]
  have e:b.add j=⟨b.block,(b.add (j / 3*3)).off+1,none⟩:=by
   rw [show j=j / 3*3+1 by omega,fc];rw [show(j / 3*3+1)/ 3=j / 3 by omega]
  rw [e];exact h1
 .rw [h3]at hc;simp [enc]at hc;rw [hc]
  have e:b.add j=⟨b.block,(b.add (j / 3*3)).off+2,none⟩:=by
   rw [show j=j / 3*3+1+1 by omega,fc,fc];rw [show(j / 3*3+1+1)/ 3=j / 3 by omega]
  rw [e];exact h2
theorem ij{w:World}{ops:Array Oper}{rest:List Oper}{o:Oper}{a:Act}{Q:Exit->Act->World->Prop}(hgd:o.guard=none)(s x:Operand)
  (ho:o.op= .call {callee:= .builtin .append,args:=#[s,x],argTypes:=#[36,36]}) (base:Nat) (v:Value) (n:Nat) (L:List Ed) (hs:a.eval s=v) (hown:w.ownsRow base 48 3 v n (cellsE L))
  (ad:Option Addr) (m c:Nat) (M:List Ed) (hx:a.eval x= .slice ad m c) (hm:m=M.length) (hr:RdE w ad M) (hz:ad=none->c=0/\m=0) (hnm:n+m<=100000) (hbase:base<=w.heap.size)
  (h:∀v' w',w'.ownsRow base 48 3 v' (n+m) (cellsE (L++M))->w.grownBy w' v.ownBlock->(v'.ownBlock=v.ownBlock∨v'.ownBlock=some w.heap.size)->wpList Try.prog ops Q rest (a.put o.dst v') w'):wpList Try.prog ops Q (o::rest) a w:=by
 obtain⟨i0,hi0,hz0,hz1,hz2⟩:=qp Lo;subst hm
 match ad,hr,hz,hx with
 |none,hr,hz,hx=>
  obtain⟨rfl,h0⟩:=hz rfl;obtain rfl:M= []:=List.eq_nil_of_length_eq_zero h0;refine wpList_append_own_none hgd s x 36 ho base 48 i0 3 Try.underlying36 hi0 v n _ hs hown hx (h v w ?_ ⟨rfl,rfl,rfl,Nat.le_refl _,λ_ _ _=>rfl⟩ (.inl rfl));simpa using hown
 |some b,hr,hz,hx=>
  have hnews:=Gu hr
  exact wpList_append_own_at w hgd s x 36 ho base 48 i0 (.agg #[.int .i64 0,.int .i64 0,.int .i64 0]) 3 24 Try.underlying36 hi0 hz0 hz1 hz2 rfl (by decide) v n (cellsE L) hs hown b M.length c (cellsE M) hx (cellsE_len M) hnews (Bl M) (by unfold maxLen;omega) (by omega) hbase
   λv' w' hown' hg _ hat=>h v' w' (by rw [Bk];exact hown') hg hat
theorem wa{W w':World}{base:Nat}{v:Value}(hg:W.grownBy w' v.ownBlock)(hv:∀k,v.ownBlock=some k->base<=k)(hb:base<=W.heap.size):Below base W w':=
 ⟨hg.os,hg.tape,hg.output,hg.size,λk hk=>hg.block k (by omega) (λe=>by have:=hv k e.symm;omega)⟩
def Out(base:Nat)(w:World)(a:Option Addr)(c:Nat)(l:List Ed):Prop:=RdE w a l/\(a=none->c=0/\l.length=0)/\l.length<=c/\∀b,a=some b->base<=b.block
theorem JJ(base:Nat)(w:World):Out base w none 0 []:=⟨λi hi=>by simp at hi,λ_=>⟨rfl,rfl⟩,by simp,by simp⟩
theorem Gv{w:World}{base n k s:Nat}{e:TypeId}{v:Value}{xs:List Value}(h:w.ownsRow base e s v n xs)(hk:v.ownBlock=some k):∃cap,v= .slice (some ⟨k,0,none⟩) n cap:=by
 rcases h.2 with⟨rfl,_⟩|⟨g,cap,cur,rfl,_⟩
 .cases hk
 .cases hk;exact⟨cap,rfl⟩
theorem nI{w:World}{base base' n:Nat}{e:TypeId}{v:Value}{s:Nat}{xs:List Value}(h:w.ownsRow base e s v n xs)(hb:base'<=base):w.ownsRow base' e s v n xs:=by
 refine⟨h.1,?_⟩;rcases h.2 with h2|⟨g,cap,cur,h1,h2,h3⟩
 .exact .inl h2
 .exact .inr ⟨g,cap,cur,h1,Nat.le_trans hb h2,h3⟩
theorem JK(W:World)(x y z:Int):RdE (W.alloc (.cells #[.int .i64 x,.int .i64 y,.int .i64 z] 48)) (some ⟨W.heap.size,0,none⟩) [(x,y,z)]:=by
 have h:CellsAt (W.alloc (.cells #[.int .i64 x,.int .i64 y,.int .i64 z] 48)) W.heap.size 48 #[.int .i64 x,.int .i64 y,.int .i64 z]:=World.alloc_heap_new W _;refine rdE_cells h.lt (λi hi k hk=> ?_);obtain rfl:i=0:=by simpa using hi
 rw [h.cell];have h3:k=0∨k=1∨k=2:=by omega
 rcases h3 with rfl|rfl|rfl<;>rfl
end Eg
end Sm
end
noncomputable section
open Go.RowKit Go.Sort Go.WideMaps
namespace Sm
def kl(k:Int×Int):Lit:= .string (keyBytes [.int .i64 k.1,.int .i64 k.2])
abbrev KV(k:Int×Int):Value:= .agg #[.int .i64 k.1,.int .i64 k.2]
def In2(k:Int×Int):Prop:=pw k.1/\pw k.2
theorem Gw{x:Int}(h:pw x):(Lit.int .i64 x).wf=true:=by
 obtain⟨h1,h2⟩:=h;simp [Lit.wf,IntKind.min,IntKind.max,IntKind.signed,IntKind.bits];omega
theorem Dn{x:Int}(h:(Lit.int .i64 x).wf=true):pw x:=by
 simp [Lit.wf,IntKind.min,IntKind.max,IntKind.signed,IntKind.bits]at h;exact⟨by omega,by omega⟩
theorem arrK:ArrKey Try.prog 22 3 2:=⟨Try.underlying22,by kernel_rfl,by kernel_rfl,by kernel_rfl⟩
theorem keyedK:Maps.Keyed Try.prog 22:=Maps.Keyed.of_law arrK.law
theorem py:∃m,Try.prog.types.size=m+1:=by
 have:0<Try.prog.types.size:=of_decide_eq_true (by kernel_rfl)
 exact⟨Try.prog.types.size - 1,by omega⟩
theorem Gx(x y:Int)(hx:pw x)(hy:pw y):Try.prog.keyLits (Try.prog.types.size+1) 22 [.int .i64 x,.int .i64 y]=some [.int .i64 x,.int .i64 y]:=by
 obtain⟨m,hm⟩:=py;rw [hm];have c1:Try.prog.cellsOf 3=1:=by kernel_rfl
 simp [Program.keyLits,Try.underlying22,Try.underlying3,arrK.size,c1,List.range_succ,Gw hx,Gw hy]
theorem sk(k:Int×Int)(h:In2 k):keyOf Try.prog 22 (KV k)=some (kl k):=by
 have h1:Try.prog.keyType 22=true:=arrK.keyType py;have h2:(KV k).formed Try.prog 22=true:=by simp [Value.formed,Try.underlying22,arrK.size]
 unfold keyOf;simp only [Try.underlying22,h1,h2,Value.cells,Gx k.1 k.2 h.1 h.2,Bool.and_self,if_true,Option.map_some];rfl
theorem sm{v:Value}{l:Lit}(h:keyOf Try.prog 22 v=some l):∃k,v=KV k/\In2 k/\l=kl k:=by
 have h0:=h;unfold keyOf at h;simp only [Try.underlying22]at h;split at h
 .rename_i hf;simp only [Bool.and_eq_true]at hf;obtain⟨ls,hls,rfl⟩:=Option.map_eq_some_iff.1 h
  cases v with
  |agg cs=>
   have hsz:cs.size=2:=by
    have:=hf.2
    simpa [Value.formed,Try.underlying22,arrK.size]using this
   obtain⟨m,hm⟩:=py;rw [hm]at hls
   obtain⟨a,b,rfl⟩:∃a b,cs=#[a,b]:=by
    obtain⟨l⟩:=cs;rcases l with _|⟨a,_|⟨b,_|⟨d,l⟩⟩⟩
    .simp at hsz
    .simp at hsz
    .exact⟨a,b,rfl⟩
    .simp at hsz
   have c1:Try.prog.cellsOf 3=1:=by kernel_rfl
   simp [Program.keyLits,Try.underlying22,Try.underlying3,arrK.size,c1,List.range_succ,Value.cells]at hls
   cases a with
   |int q n=>
    by_cases hq:q=IntKind.i64/\(Lit.int IntKind.i64 n).wf=true
    .obtain⟨rfl,hw⟩:=hq
     cases b with
     |int q2 n2=>
      by_cases hq2:q2=IntKind.i64/\(Lit.int IntKind.i64 n2).wf=true
      .obtain⟨rfl,hw2⟩:=hq2;simp [hw,hw2]at hls;subst hls;exact⟨(n,n2),rfl,⟨Dn hw,Dn hw2⟩,rfl⟩
      .simp [hw,hq2]at hls
     |_=>simp [hw]at hls
    .simp [hq]at hls
   |_=>simp at hls
  |_=>simp [Value.formed,Try.underlying22]at hf
 .cases h
theorem Gy{a b:Int×Int}(ha:In2 a)(hb:In2 b)(h:kl a=kl b):a=b:=by
 have h1:=sk a ha;have h2:=sk b hb;rw [h]at h1
 have:=keyedK.inj h1 h2
 simp at this;exact Prod.ext this.1 this.2
abbrev KW:=(Int×Int)->Option V
def RW(v:Value):Option (DataW Unit×List MemPlace):=
 match v with
 | .agg cs=>match cs.toList with
  | [.int .i64 h,.int .u64 l]=>some (.agg [.lit (.int .i64 h),.lit (.int .u64 l)],[])
  |_=>none
 |_=>none
def dW(z:V):DataW Unit:= .agg [.lit (.int .i64 z.1),.lit (.int .u64 z.2)]
theorem OA(z:V):RW (WV z)=some (dW z,[]):=rfl
theorem Bm{v:Value}{y:DataW Unit×List MemPlace}(h:RW v=some y):∃c:Int×Int,v= .agg #[.int .i64 c.1,.int .u64 c.2]/\y=(.agg [.lit (.int .i64 c.1),.lit (.int .u64 c.2)],[]):=by
 unfold RW at h;split at h
 .rename_i cs;obtain⟨cs⟩:=cs;split at h
  .rename_i h2;cases h;simp at h2;subst h2;exact⟨(_,_),rfl,rfl⟩
  .cases h
 .cases h
theorem sn{v:Value}{ps:List MemPlace}{z:V}(h:RW v=some (dW z,ps)):v=WV z:=by
 obtain⟨c,rfl,hc⟩:=Bm h;simp [dW]at hc;simp [hc.1.1,hc.1.2]
def FitF(D:DataW Unit)(f:KW):Prop:=∀k,In2 k->(Maps.has D (kl k)=(f k).isSome)/\(∀z,f k=some z->∀zd,D.atKey (kl k) zd=dW z)
def MapF(w:World)(b n:Nat)(f:KW):Prop:=∃D,w.ownsMap Try.prog 22 RW b n D/\FitF D f
def qP(f:KW)(k:Int×Int)(z:V):KW:=λk'=>if k'=k then some z else f k'
theorem MapF.lt{w:World}{b n:Nat}{f:KW}(h:MapF w b n f):b<w.heap.size:=by obtain⟨D,h,_⟩:=h;exact h.lt
theorem MapF.kept{w w':World}{b n:Nat}{f:KW}{row:Option Nat}(h:MapF w b n f)(hg:w.grownBy w' row)(hne:some b≠row):MapF w' b n f:=by
 obtain⟨D,h,hF⟩:=h;exact⟨D,h.kept hg hne,hF⟩
theorem MapF.new(w:World):MapF (w.alloc (.map #[] 0)) w.heap.size 0 (λ_=>none):=
 ⟨_,World.ownsMap_made w _ _ _,λk hk=>⟨rfl,λz hz=>by cases hz⟩⟩
theorem xN{k:Int×Int}(h:In2 k):WideAt.IsKeyLit (kl k):=keyedK.key (sk k h)
theorem FitF.put{D:DataW Unit}{f:KW}(hm:Maps.IsMap D)(h:FitF D f){k:Int×Int}(hk:In2 k)(z:V):FitF (D.put (kl k) (dW z)) (qP f k z):=by
 intro k' hk';by_cases e:k'=k
 .subst e;refine⟨by rw [Maps.has_put_same hm (xN hk)];simp [qP],λz' hz' zd=> ?_⟩;simp [qP]at hz';rw [Maps.atKey_put_same hm (xN hk),hz']
 .have hne:kl k'≠kl k:=λh=>e (Gy hk' hk h);refine⟨by rw [Maps.has_put_other hne];simp [qP,e,(h k' hk').1],λz' hz' zd=> ?_⟩;simp [qP,e]at hz';rw [Maps.atKey_put_other hne,(h k' hk').2 z' hz']
section
variable (w : World) {ops : Array Oper} {rest : List Oper} {o : Oper} {a : Act} {Q : Exit → Act → World → Prop}
theorem so(hg:o.guard=none)(m x:Operand)(hop:o.op=Op.lookup 101 m x true)(b n:Nat)(f:KW)(k:Int×Int)
  (hm:a.eval m= .map (some b)) (hown:MapF w b n f) (hx:a.eval x=KV k) (hk:In2 k)
  (h0:f k=none->wpList Try.prog ops Q rest (a.put o.dst (.tuple #[.agg #[.int .i64 0,.int .u64 0],.bool false])) w)
  (h1:∀z,f k=some z->wpList Try.prog ops Q rest (a.put o.dst (.tuple #[WV z,.bool true])) w):
  wpList Try.prog ops Q (o::rest) a w:=by
 obtain⟨D,hown,hF⟩:=hown;refine wpList_lookup_own_ok w hg m x _ hop 22 104 keyedK Try.underlying101 RW (z:=WV (0,0)) ?_ (dW (0,0)) [] (OA (0,0)) b n D hm hown (KV k) (kl k) hx (sk k hk) ?_
 .exact Try.zeroValue104 w
 .intro v ps hv
  cases hf:f k with
  |none=>
   have:=(hF k hk).1
   rw [hf]at this;have ha:=Maps.atKey_of_not_has (D:=D) (k:=kl k) (by simpa using this) (dW (0,0));rw [ha]at hv;rw [sn hv,this];exact h0 hf
  |some z=>
   have:=(hF k hk).1
   rw [hf]at this;rw [(hF k hk).2 z hf]at hv;rw [sn hv,this];exact h1 z hf
theorem jL(hg:o.guard=none)(m x v:Operand)(hop:o.op=Op.mapUpdate 101 m x v)(b n:Nat)(f:KW)(k:Int×Int)(z:V)(hn:n<maxLen)
  (hm:a.eval m= .map (some b)) (hown:MapF w b n f) (hx:a.eval x=KV k) (hv:a.eval v=WV z) (hk:In2 k)
  (hK:∀w',MapF w' b (n+1) (qP f k z)->w.grownBy w' (some b)->wpList Try.prog ops Q rest (a.put o.dst undef) w'):
  wpList Try.prog ops Q (o::rest) a w:=by
 obtain⟨D,hown,hF⟩:=hown;refine wpList_mapUpdate_in w hg m x v _ hop 22 104 keyedK Try.underlying101 RW b n D hm hown hn (KV k) (WV z) (kl k) hx hv (sk k hk) (dW z) [] (OA z) ?_;intro w' hown' ht;exact hK w' ⟨_,hown',hF.put hown.isMap hk z⟩ ht.grown
theorem zu(hg:o.guard=none)(m:Operand)(hop:o.op=Op.call {callee:=Callee.builtin Builtin.len,args:=#[m],argTypes:=#[101]})(b n:Nat)(f:KW)(hm:a.eval m= .map (some b))(hown:MapF w b n f)
  (hK:∀k:Nat,k<=n->wpList Try.prog ops Q rest (a.put o.dst (.int .i64 k)) w):wpList Try.prog ops Q (o::rest) a w:=by
 obtain⟨D,hown,hF⟩:=hown;exact wpList_len_own w hg m _ hop 22 104 Try.underlying101 RW b n D hm hown (hK _ hown.size_le)
def RangF(w:World)(b r n:Nat)(f:KW)(done:List ((Int×Int)×V)):Prop:=
 ∃D left cnt,w.ranges Try.prog 22 RW b r n D left cnt/\FitF D f/\(∀k,In2 k->(left (kl k)=true↔(f k).isSome=true/\k ∉ done.map (·.1)))/\(done.map (·.1)).Nodup/\(∀p∈done,In2 p.1/\f p.1=some p.2)/\done.length+cnt<=n
theorem RangF.kept{w w':World}{b r n:Nat}{f:KW}{done:List ((Int×Int)×V)}{row:Option Nat}(h:RangF w b r n f done)(hg:w.grownBy w' row)(hb:some b≠row)(hr:some r≠row):RangF w' b r n f done:=by
 obtain⟨D,left,cnt,h,h2⟩:=h;exact⟨D,left,cnt,h.kept hg hb hr,h2⟩
theorem RangF.left{w w':World}{b r n:Nat}{f:KW}{done:List ((Int×Int)×V)}{row:Option Nat}(h:RangF w b r n f done)(hg:w.grownBy w' row)(hb:some b≠row)(hr:some r≠row):w'.rangeLeft b r=w.rangeLeft b r:=by
 obtain⟨D,left,cnt,h,h2⟩:=h;rw [(h.kept hg hb hr).left_eq,h.left_eq]
theorem RangF.facts{w:World}{b r n:Nat}{f:KW}{done:List ((Int×Int)×V)}(h:RangF w b r n f done):(done.map (·.1)).Nodup/\(∀p∈done,In2 p.1/\f p.1=some p.2)/\done.length<=n:=by
 obtain⟨D,left,cnt,h,_,_,h2,h3,h4⟩:=h;exact⟨h2,h3,by omega⟩
theorem RangF.lt{w:World}{b r n:Nat}{f:KW}{done:List ((Int×Int)×V)}(h:RangF w b r n f done):r<w.heap.size/\b<w.heap.size:=by
 obtain⟨D,left,cnt,h,h2⟩:=h;exact⟨h.lt,h.owns.lt⟩
theorem vd(hg:o.guard=none)(m:Operand)(hop:o.op=Op.range 101 m)(b n:Nat)(f:KW)(hm:a.eval m= .map (some b))(hown:MapF w b n f)
  (hK:∀w',RangF w' b w.heap.size n f []->w.grownBy w' none->w'.heap.size=w.heap.size+1->wpList Try.prog ops Q rest (a.put o.dst (.pointer (some ⟨w.heap.size,0,none⟩))) w'):
  wpList Try.prog ops Q (o::rest) a w:=by
 obtain⟨D,hown,hF⟩:=hown;refine wpList_range_own w hg m _ hop 22 104 keyedK Try.underlying101 RW b n D hm hown ?_;intro w' hr hgr hs;refine hK w' ⟨D,_,_,hr,hF,λk hk=> ?_,by simp,by simp,by simpa using hown.size_le⟩ hgr hs;rw [(hF k hk).1];simp
theorem xO(hg:o.guard=none)(it:Operand)(hop:o.op=Op.next it false)(b r n:Nat)(f:KW)(done:List ((Int×Int)×V))(hit:a.eval it= .pointer (some ⟨r,0,none⟩))(h:RangF w b r n f done)
  (hDone:(∀k,In2 k->∀z,f k=some z->(k,z)∈done)->wpList Try.prog ops Q rest (a.put o.dst (.tuple #[.bool false])) w)
  (hMore:∀(k:Int×Int) (z:V) (w':World),RangF w' b r n f (done++ [(k,z)])->w'.rangeLeft b r<w.rangeLeft b r->w.grownBy w' (some r)->w'.heap.size=w.heap.size->(Instr.entry (.pointer (some ⟨r,0,none⟩))).run Try.prog w'= .ok (.tuple #[KV k,WV z]) w'->wpList Try.prog ops Q rest (a.put o.dst (.tuple #[.bool true,KV k,WV z])) w'):
  wpList Try.prog ops Q (o::rest) a w:=by
 obtain⟨D,left,cnt,hr,hF,hl,hnd,hdn,hcn⟩:=h;refine wpList_next_ranges w hg it hop 22 keyedK RW KV (λc:Int×Int=> .agg #[.int .i64 c.1,.int .u64 c.2]) (λkey l hkey=>by obtain⟨k,e,_⟩:=sm hkey;exact⟨k,e⟩) (λv y hv=>by obtain⟨c,e,_⟩:=Bm hv;exact⟨c,e⟩) b r n D left cnt hit hr ?_ ?_
 .intro _ hno;refine hDone λk hk z hz=> ?_;have h1:=hl k hk;rw [hno]at h1
  have h2:k∈done.map (·.1):=Decidable.byContradiction λhn=>by
   have:=h1.2 ⟨by rw [hz];rfl,hn⟩
   cases this
  obtain⟨p,hp,rfl⟩:=List.mem_map.1 h2;have h3:=(hdn p hp).2;rw [hz]at h3;cases h3;exact hp
 .intro k c l y w' cnt' hkey hlk hy hat hrg hlt hgr hsz hen;obtain⟨k',e1,hk,rfl⟩:=sm hkey;obtain rfl:k=k':=by simp at e1;exact Prod.ext e1.1 e1.2
  have hk1:=(hl k hk).1 hlk;obtain⟨z,hz⟩:=Option.isSome_iff_exists.1 hk1.1;have h4:=(hF k hk).2 z hz (dW z);rw [hat]at h4;obtain⟨c',e2,e3⟩:=Bm hy;have e4:(.agg #[.int .i64 c.1,.int .u64 c.2]:Value)=WV z:=sn (ps:=y.2) (by rw [hy,<-h4]);rw [e4]at hen ⊢;refine hMore k z w' ⟨D,_,cnt',hrg,hF,λk' hk'=> ?_,?_,?_,by simp;omega⟩ (by rw [hrg.left_eq,hr.left_eq];exact hlt) hgr hsz hen
  .by_cases e:k'=k
   .subst e;rw [WideAt.sameKey_self (xN hk)];simp
   .rw [Maps.sameKey_ne (λh=>e (Gy hk' hk h))]
    have:=hl k' hk'
    simp [e]at this ⊢;exact this
  .rw [List.map_append,List.nodup_append];refine⟨hnd,by simp,?_⟩;intro x hx y hy e;simp at hy;subst hy;subst e;exact hk1.2 hx
  .intro p hp;rcases List.mem_append.1 hp with hp|hp
   .exact hdn p hp
   .simp at hp;subst hp;exact⟨hk,hz⟩
end
theorem MapF.alloc{w:World}{b n:Nat}{f:KW}(h:MapF w b n f)(o:Obj):MapF (w.alloc o) b n f:=h.kept (World.grownBy_alloc w o none) (by simp)
theorem Gz{R:Rg}{f:KW}{e:Ed}(h:f (key e)=none):upd R f e=qP f (key e) (R.o e.2.2):=by
 funext k;simp [upd,qP,h]
theorem GA{R:Rg}{f:KW}{e:Ed}{s:V}(h:f (key e)=some s):upd R f e=qP f (key e) (R.ad s (R.o e.2.2)):=by
 funext k;simp [upd,qP,h]
end Sm
end
noncomputable section
open Go.RowKit Go.Sort
namespace Sm
namespace Eg
def InE(e:Ed):Prop:=pw e.1/\pw e.2.1/\pw e.2.2
theorem GC(V:World)(n:Nat):(Instr.makeMap 101 (some (.int .i64 n))).run Try.prog V= .ok (.map (some V.heap.size)) (V.alloc (.map #[] 0)):=by
 simp [Instr.makeMap,run_underlying Try.underlying101,Go.asInt,asIntOf,Result.andThen]
set_option maxRecDepth 100000 in
set_option maxHeartbeats 4000000 in
theorem Ni(r:Int)(R:Rg)(a:Option Addr)(l:List Ed)(c:Nat)(w:World)(hIs:∀W,Below w.heap.size w W->Calls Try.prog 65 #[.int .i64 r] W λe w'=>e= .returned (.bool true)/\Below W.heap.size W w')(hO:∀W,Below w.heap.size w W->Calls Try.prog 18 #[.slice a l.length c] W λe w'=>e= .returned (.bool false)/\Below W.heap.size W w')
  (hOf:∀x,pw x->∀W,Below w.heap.size w W->Calls Try.prog 67 #[.int .i64 x] W λe w'=>e= .returned (WV (R.o x))/\Below W.heap.size W w')
  (hAdd:∀x y W,Below w.heap.size w W->Calls Try.prog 66 #[.int .i64 r,WV x,WV y] W λe w'=>e= .returned (WV (R.ad x y))/\Below W.heap.size W w')
  (hNar:∀x W,Below w.heap.size w W->Calls Try.prog 68 #[.int .i64 r,WV x] W λe w'=>e= .returned (.tuple #[.int .i64 (R.na x).1,.bool (R.na x).2])/\Below W.heap.size W w')
  (hr:RdE w a l) (hI:∀e∈l,InE e) (hl:l.length<=90000):
  Calls Try.prog 39 #[.int .i64 r,.slice a l.length c] w λe w'=>∃a' c',e= .returned (.tuple #[.slice a' (bJ R l).1.length c',.int .i64 (bJ R l).2])/\Out w.heap.size w' a' c' (bJ R l).1/\Below w.heap.size w w'/\((bJ R l).2≠0->a'=none):=by
 obtain⟨n,hn⟩:∃n,n=l.length:=⟨_,rfl⟩;rw [<-hn]at hl hO ⊢;have HN:=Lib.hid hn;clear hn;generalize hcr:bJ R l=RS;have HCR:=Lib.hid hcr;clear hcr;have HOf:=Lib.hid hOf;have HAdd:=Lib.hid hAdd;have HNar:=Lib.hid hNar;clear hOf hAdd hNar;have HORD:=Lib.hid hO;clear hO;have HI:=Lib.hid hIs;clear hIs
 go_enter Try.func39,Try.ntmps39
 go_wp2_with fail
 refine(HI.out w (Below.refl _ _)).mono ?_;rintro x w1 ⟨rfl,hb1⟩
 go_wp2_with fail
 refine(HORD.out w1 hb1).mono ?_;rintro x V ⟨rfl,hb2⟩;have hbw:=hb1.trans (hb2.mono hb1.size);clear hb1 hb2 HORD HI;have hmk:=GC V n;have hM0:=MapF.new V
 go_wp2_with fail
 obtain⟨B,hB⟩:∃B,B=V.heap.size:=⟨_,rfl⟩;have hb1:=bl1 V (.map #[] 0);rw [<-hB]at hM0 ⊢;generalize V.alloc (.map #[] 0)=W1 at hM0 hb1 ⊢;have hVB:w.heap.size<=B:=by rw [hB];exact hbw.size
 have hbw1:Below w.heap.size w W1:=hbw.trans (hb1.mono hbw.size);clear hmk hB hb1 hbw
 go_loopw [29] (λy wr=>∃j:Nat,y= .int .i64 (j:Int)/\j<=n/\MapF wr B j (fm R (l.take j))/\Below w.heap.size w wr) (λy _=>n - (intOf y).toNat)
 case atStart=>exact⟨0,rfl,by omega,hM0,hbw1⟩
 case round=>
  clear hM0 hbw1;obtain⟨j,rfl,hj,hM,hBw⟩:=hrel;by_cases hlt:(j:Int)<(n:Int)
  .obtain⟨b,rfl,hbl,c0,c1,c2⟩:=(hr.below hBw) j (by rw [<-HN.out];omega);have j0:(0:Int)<=(j:Int):=by omega
   have kb:=Has.of hbl;have hIe:=hI _ (Ng (show j<l.length by rw [<-HN.out];omega));have hk:In2 (key (el l j)):=⟨hIe.1,hIe.2.1⟩;have hw1:=hIe.2.2;have HT:=Lib.hid (JG R (l.take j) (el l j));have HT2:=Lib.hid (JH (l:=l) (j:=j) (by rw [<-HN.out];omega));generalize hf:fm R (l.take j)=f at hM HT;clear hf;obtain⟨ej,hej⟩:∃ej,ej=el l j:=⟨_,rfl⟩;rw [<-hej]at c0 c1 c2 hk hw1 HT HT2;clear hej hIe
   go_wp2_with (at_lookup;refine so _ rfl _ _ rfl B j f (key ej) rfl ((hM.alloc _).alloc _) rfl hk ?_ ?_)
   .intro hf;rw [Gz hf]at HT
    go_wp2_with fail
    refine aA 5 (by kernel_rfl) (by kernel_rfl) ?_;simp only [List.take_succ_cons,List.take_zero,List.drop_succ_cons,List.drop_zero]
    repeat (go_big_quiet_step (first|(go_at_call 67;exact Calls.regrown_of (HOf.out _ hw1 _ (hBw.trans (Below.mono (show Below wr.heap.size wr _ from(by repeat (first|with_reducible refine blg ?_ _ _|with_reducible refine bla ?_ _|with_reducible exact Below.refl _ _))) hBw.size))))))
    refine wpQuiet_nil ?_;rintro _ ⟨⟨d2,o2⟩,rfl⟩
    go_wp2_with (at_mapUpdate;refine jL _ rfl _ _ _ rfl B j f (key ej) (R.o ej.2.2) (by unfold maxLen;omega) rfl ((((hM.alloc _).alloc _).alloc _).kept (ab (below_regrown _ _ _) none) (by simp)) rfl rfl hk ?_;intro w' hM' hg')
    refine⟨?_,by simp [intOf];omega⟩;refine⟨j+1,by simp,by omega,by rw [HT2.out,HT.out];exact hM',?_⟩;have hbU:Below wr.heap.size wr (grow (redrawn (((wr.alloc (.cells #[.int .i64 ej.1,.int .i64 ej.2.1,.int .i64 ej.2.2] 48)).alloc (.cells #[.int .i64 ej.1,.int .i64 ej.2.1] 22)).alloc (.cells #[.int .i64 0,.int .u64 0] 104)) d2) o2):=(by repeat (first|with_reducible refine blg ?_ _ _|with_reducible refine bla ?_ _|with_reducible exact Below.refl _ _));exact(hBw.trans (hbU.mono hBw.size)).trans (aF hg' (hBw.trans (hbU.mono hBw.size)).size hVB)
   .intro z1 z2 hf;rw [GA hf]at HT
    go_wp2_with fail
    refine aA 8 (by kernel_rfl) (by kernel_rfl) ?_;simp only [List.take_succ_cons,List.take_zero,List.drop_succ_cons,List.drop_zero]
    repeat (go_big_quiet_step (first|(go_at_call 67;exact Calls.regrown_of (HOf.out _ hw1 _ (hBw.trans (Below.mono (show Below wr.heap.size wr _ from(by repeat (first|with_reducible refine blg ?_ _ _|with_reducible refine bla ?_ _|with_reducible exact Below.refl _ _))) hBw.size))))|(go_at_call 66;exact Calls.regrown_of (HAdd.out (z1,z2) _ _ (hBw.trans (Below.mono (show Below wr.heap.size wr _ from(by repeat (first|with_reducible refine blg ?_ _ _|with_reducible refine bla ?_ _|with_reducible exact Below.refl _ _))) hBw.size))))))
    refine wpQuiet_nil ?_;rintro _ ⟨⟨d2,o2⟩,rfl⟩
    go_wp2_with (at_mapUpdate;refine jL _ rfl _ _ _ rfl B j f (key ej) (R.ad (z1,z2) (R.o ej.2.2)) (by unfold maxLen;omega) rfl ((((hM.alloc _).alloc _).alloc _).kept (ab (below_regrown _ _ _) none) (by simp)) rfl rfl hk ?_;intro w' hM' hg')
    refine⟨?_,by simp [intOf];omega⟩;refine⟨j+1,by simp,by omega,by rw [HT2.out,HT.out];exact hM',?_⟩;have hbU:Below wr.heap.size wr (grow (redrawn (((wr.alloc (.cells #[.int .i64 ej.1,.int .i64 ej.2.1,.int .i64 ej.2.2] 48)).alloc (.cells #[.int .i64 ej.1,.int .i64 ej.2.1] 22)).alloc (.cells #[.int .i64 z1,.int .u64 z2] 104)) d2) o2):=(by repeat (first|with_reducible refine blg ?_ _ _|with_reducible refine bla ?_ _|with_reducible exact Below.refl _ _));exact(hBw.trans (hbU.mono hBw.size)).trans (aF hg' (hBw.trans (hbU.mono hBw.size)).size hVB)
  .obtain rfl:j=n:=by omega
   have hle:=hBw.size;rw [List.take_of_length_le (by rw [<-HN.out];exact Nat.le_refl _)]at hM;clear hlt hj;obtain⟨i0,hi0,hz0,hz1,hz2⟩:=qp Lo
   go_wp2_with (first
    |(at_len;refine zu _ rfl _ rfl B j (fm R l) rfl hM ?_;intro m hm;obtain⟨V2,hmk,hown,hgn⟩:=run_makeSlice_owned (P:=Try.prog) (w:=wr) wr.heap.size 36 48 i0 (.agg #[.int .i64 0,.int .i64 0,.int .i64 0]) 3 Try.underlying36 hi0 hz0 hz1 .i64 .i64 m (by omega) (by rw [hz2];omega) (by unfold maxLen;omega) (Nat.le_refl _);have hM2:=hM.kept hgn (by simp))
    |(at_range;refine vd _ rfl _ rfl B j (fm R l) rfl hM2 ?_;intro V3 hR3 hg3 hs3))
   have hBl:=hM.lt;have hB2:Below w.heap.size w V2:=hBw.trans ((eG hgn).mono hle);obtain⟨g0,hg0⟩:∃g0,g0=wr.heap.size:=⟨_,rfl⟩;rw [<-hg0]at hown hBl ⊢;have hg0V:g0<V2.heap.size:=(hown.lt g0 rfl).2;have hwg:w.heap.size<=g0:=by rw [hg0];exact hle
   clear hmk hM hgn hg0 hBw hle;have hown3:=hown.kept hg3 (.inr (by simp [Value.ownBlock]));have hB3:Below w.heap.size w V3:=hB2.trans ((eG hg3).mono hB2.size);obtain⟨ri,hri⟩:∃ri,ri=V2.heap.size:=⟨_,rfl⟩;rw [<-hri]at hR3 hg0V ⊢;have hwr:w.heap.size<=ri:=by rw [hri];exact hB2.size
   clear hM2 hown hg3 hs3 hri hB2
   go_frame
   go_loopw [12] (λv wr=>∃done,RangF wr B ri j (fm R l) done/\wr.ownsRow w.heap.size 48 3 v done.length (cellsE (done.map (toE R)))/\(∃k,v.ownBlock=some k/\k≠ri/\k≠B)/\(∀p∈done,(R.na p.2).2=true)/\Below w.heap.size w wr) (λ_ wr=>wr.rangeLeft B ri)
   case atStart=>exact⟨[],hR3,nI hown3 hwg,⟨g0,rfl,by omega,by omega⟩,by simp,hB3⟩
   case round=>
    clear hR3 hown3 hB3;obtain⟨done,hR,hown,⟨kb,hkb,hk1,hk2⟩,hnb,hBw⟩:=hrel;have hRl:=hR.lt;obtain⟨cap,rfl⟩:=Gv hown hkb;clear hkb
    go_wp2_with (at_next;refine xO _ rfl _ rfl B ri j (fm R l) done rfl hR ?_ ?_)
    .intro hall;have hT:done.Perm (eR R l):=(eZ R l).perm hR.facts.1 (λp hp=>(hR.facts.2.1 p hp).2) (λk z hkz=>hall k.1 k.2 (by obtain⟨e,he,rfl⟩:=xM hkz;exact⟨(hI e he).1,(hI e he).2.1⟩) z.1 z.2 hkz);have hR0:bJ R l=((eR R l).map (toE R),0):=Gp (λk z hkz=>hnb (k,z) (hall k.1 k.2 (by obtain⟨e,he,rfl⟩:=xM hkz;exact⟨(hI e he).1,(hI e he).2.1⟩) z.1 z.2 hkz));rw [HCR.out]at hR0;have hdl:done.length<=j:=hR.facts.2.2;have hkl:=hown.lt kb rfl
     have hcap0:done.length<=cap:=by
      rcases hown.2 with⟨h,_⟩|⟨g,cap1,cur,h,_,_,h5,_⟩
      .cases h
      .cases h;exact h5
     have HSO:=EC kb cap (done.map (toE R)) wr hkl.2 (λi hi k hk=>by rw [hown.cellAt (i*3+k) (by simp at hi;omega),cellsE_at _ i k hi hk]) (λj=>hown.frozenAt j) (by simp;omega);rw [List.length_map]at HSO;clear hR hall
     go_wp2_with fail
     refine HSO.mono ?_;rintro x w1 ⟨rfl,l',hp,hs,hrd,hg⟩
     go_wp2
     go_ret2
     have hl':=Ey R l l' done hT hp hs;have hlen:done.length=l'.length:=by have:=hp.length_eq;simpa using this.symm
     rw [hlen]at hcap0;refine⟨some ⟨kb,0,none⟩,cap,?_,by rw [hR0,<-hl'];exact⟨hrd,by simp,hcap0,λb hb=>by cases hb;exact hkl.1⟩,hBw.trans ((aF hg hBw.size hkl.1).mono (Nat.le_refl _)),λh=>absurd (by rw [hR0]) h⟩;rw [hR0,hlen,hl'];rfl
    .intro k1 k2 z1 z2 w' hR' hlt hg hs hen;have hown':=hown.kept hg (.inr (by simp [Value.ownBlock];exact hk1));have hB':Below w.heap.size w w':=hBw.trans ((aF hg hBw.size hwr).mono (Nat.le_refl _));clear hown hR;have hwl:w'.heap.size=wr.heap.size:=hs
     go_wp2_with fail
     obtain⟨U,hU⟩:∃U,U=(w'.alloc (.cells #[.int .i64 k1,.int .i64 k2] 22)).alloc (.cells #[.int .i64 z1,.int .u64 z2] 104):=⟨_,rfl⟩;rw [<-hU]
     have hCU:CellsAt U wr.heap.size 22 #[.int .i64 k1,.int .i64 k2]:=by
      have h1:CellsAt (w'.alloc (.cells #[.int .i64 k1,.int .i64 k2] 22)) w'.heap.size 22 #[.int .i64 k1,.int .i64 k2]:=World.alloc_heap_new w' _;rw [hU,<-hwl];exact h1.below (bl1 _ _)
     have hbU:Below w'.heap.size w' U:=by rw [hU];exact bl2 _ _ _
     have hU1:wr.heap.size<U.heap.size:=by rw [hU];simp;omega
     clear hU hen;refine(HNar.out (z1,z2) U (hB'.trans (hbU.mono hB'.size))).mono ?_;rintro x w1 ⟨rfl,hb1⟩;have hC1:=hCU.below hb1;have c0:w1.cell? ⟨wr.heap.size,0,none⟩=some (.int .i64 k1):=hC1.cell 0;have c1:w1.cell? ⟨wr.heap.size,1,none⟩=some (.int .i64 k2):=hC1.cell 1;have kg:=Has.of hC1.lt;have hbW:Below w'.heap.size w' w1:=hbU.trans (hb1.mono hbU.size);have hRW:=hR'.kept (ab hbW none) (by simp) (by simp);have hownW:=hown'.kept (ab hbW none) (.inr (by simp [Value.ownBlock]));have hBW:Below w.heap.size w w1:=hB'.trans (hbW.mono hB'.size);have hlW:=hR'.left (ab hbW none) (by simp) (by simp);have hfz:=hR'.facts;clear hbU hb1 hCU hC1 hown';cases hz:(R.na (z1,z2)).2
     .have hR0:=Ew (R:=R) (l:=l) (hfz.2.1 ((k1,k2),(z1,z2)) (by simp)).2 hz;rw [HCR.out]at hR0
      go_wp2_with fail
      go_ret2
      refine⟨none,0,by rw [hR0];rfl,?_,hBW,λ_=>rfl⟩;rw [hR0];exact JJ _ _
     .have hdl:done.length+1<=j:=by have:=hfz.2.2;simpa using this
      go_wp2_with (refine ij rfl _ _ rfl w.heap.size _ done.length (done.map (toE R)) rfl (hownW.alloc _) _ 1 1 [(k1,k2,(R.na (z1,z2)).1)] rfl rfl (JK _ _ _ _) (by simp) (by omega) (by have:=hBW.size;simp;omega) ?_;intro v' w2 hown2 hg2 hat2)
      have hg2':(w1.alloc (.cells #[.int .i64 k1,.int .i64 k2,.int .i64 ((R.na (z1,z2)).1)] 48)).grownBy w2 (some kb):=hg2;have hat2':v'.ownBlock=some kb∨v'.ownBlock=some (w1.alloc (.cells #[.int .i64 k1,.int .i64 k2,.int .i64 ((R.na (z1,z2)).1)] 48)).heap.size:=hat2;have hga:=World.grownBy_alloc w1 (.cells #[.int .i64 k1,.int .i64 k2,.int .i64 ((R.na (z1,z2)).1)] 48) none;have hkbl:=(hownW.lt kb rfl).1;have hRA:=hRW.kept hga (by simp) (by simp);have hlA:=hRW.left hga (by simp) (by simp);have hB1s:=hRW.lt;refine⟨⟨done++ [((k1,k2),(z1,z2))],hRA.kept hg2' (by simp;exact Ne.symm hk2) (by simp;exact Ne.symm hk1),?_,?_,?_,?_⟩,?_⟩
      .simpa [toE]using hown2
      .rcases hat2' with e|e
       .exact⟨kb,e,hk1,hk2⟩
       .exact⟨_,e,by simp;omega,by simp;omega⟩
      .intro p hp;rcases List.mem_append.1 hp with hp|hp
       .exact hnb p hp
       .simp at hp;subst hp;exact hz
      .exact(bla hBW _).trans (wa (v:= .slice (some ⟨kb,0,none⟩) done.length cap) hg2' (λk hk=>by cases hk;exact hkbl) (by have:=hBW.size;simp;omega))
      .rw [hRA.left hg2' (by simp;exact Ne.symm hk2) (by simp;exact Ne.symm hk1),hlA,hlW];exact hlt
end Eg
end Sm
end
noncomputable section
namespace Ev
open Go Go.RowKit
def iZ(x:Int):Option (Int×Int):=K.iZ x
def dK(x:Int×Int)(y:Int×Int):Option (Int):=K.dK (x,y)
def eH(x:Int×Int)(y:Int×Int):Option (Int×Int):=K.eH (x,y)
def eA(x:Bool):Option (Int×Int):=K.eA x
def iH(x:Int×Int)(y:Int×Int):Option (Int×Int):=K.iH (x,y)
def jM(x:Int)(y:Int×Int)(z:Int×Int):Option (Int×Int):=K.jM (x,y,z)
def fY(x:Int×Int):Option (Int×Bool):=K.fY x
def fZ(x:Int)(y:Int×Int):Option (Int×Bool):=K.fZ (x,y)
def nJ(x:Int):Option (Bool):=K.nJ x
def fH(x:Sl (Int)):Option (Int):=K.fH x
def cZ(x:Int):Option (Bool):=K.cZ x
def bU(x:Int)(y:Int):Option (Int):=K.bU (x,y)
def dL(x:Int×Int×Int)(y:Int×Int×Int):Option (Int):=K.dL (x,y)
def cr(x:Sl (Int×Int×Int)):Option (Bool):=K.cr x
end Ev
end
noncomputable section
namespace Ev
open Go Go.RowKit
set_option maxRecDepth 100000
set_option maxHeartbeats 1000000
theorem Bn(x:Int):iZ x=(yx IntKind.i64 x 63).bind λ(z:Int)=>some (z,IntKind.u64.wrap x):=by kernel_rfl
theorem qQ(x:Int×Int)(y:Int×Int):dK x y=if x.fst=y.fst/\x.snd=y.snd then some 0
else if x.fst<y.fst then some (-1)else if x.fst=y.fst then if x.snd<y.snd then some (-1)else some 1 else some 1:=by kernel_rfl
theorem sq(x:Int×Int)(y:Int×Int):eH x y=(dK y x).bind λ(out:Int)=>if out<0 then some y else some x:=by kernel_rfl
theorem ve(x:Bool):eA x=if x=true then(iZ 1).bind λ(out:Int×Int)=>some out else some (0,0):=by kernel_rfl
def jN(x:Int×Int)(y:Int×Int):Int->Int->Option (Int×Int):=λ(d d_1:Int)=>some (IntKind.i64.wrap (d+d_1),IntKind.u64.wrap (x.snd+y.snd))
theorem zv(x:Int×Int)(y:Int×Int):iH x y=if IntKind.u64.wrap (x.snd+y.snd)<x.snd then jN x y (IntKind.i64.wrap (x.fst+y.fst)) 1
else jN x y x.fst y.fst:=by kernel_rfl
theorem zw(x:Int)(y:Int×Int)(z:Int×Int):jM x y z=(if x=1 then some (Sum.inl true)else if x=3 then some (Sum.inl true)else some (Sum.inl (decide (x=4)))).bind λ(y_1:Bool ⊕ Empty)=>Sum.elim (λ(val:Bool)=>if val=true then(eH y z).bind λ(out:Int×Int)=>some out else if x=2 then if¬(y.fst=0/\y.snd=0)then(eA true).bind λ(out:Int×Int)=>some out else(eA (decide ¬(z.fst=0/\z.snd=0))).bind λ(out:Int×Int)=>some out else if x=5 then(iH y z).bind λ(out:Int×Int)=>some out else some (0,0)) (λ(val:Empty)=>nE val) y_1:=by kernel_rfl
theorem sr(x:Int×Int):fY x=(iZ (IntKind.i64.wrap x.snd)).bind λ(out:Int×Int)=>if¬(x.fst=out.fst/\x.snd=out.snd)then some (0,false)else some (IntKind.i64.wrap x.snd,true):=by kernel_rfl
theorem ss(x:Int)(y:Int×Int):fZ x y=(fY y).bind λ(out:Int×Bool)=>some (out.fst,decide (out.snd=true)):=by kernel_rfl
theorem Bp(x:Int):nJ x=if x >= 1 then some (decide (x<=5))else some false:=by kernel_rfl
def bj(x:Sl Int):Int->Option (Int ⊕ PUnit ⊕ Int ⊕ Empty):=λ(x_1:Int)=>if x_1<(↑x.l.length:Int)then(atS 1 x x_1).bind λ(y:Int)=>if y≠0 then some (Sum.inr (Sum.inr (Sum.inl y)))else some (Sum.inl (IntKind.i64.wrap (x_1+1)))else some (Sum.inr (Sum.inl ()))
theorem vh(x:Sl Int):fH x=(bu (bj x) 0).bind λ(y:PUnit ⊕ Int ⊕ Empty)=>Sum.elim (λ(val:PUnit)=>some 0) (λ(val:Int ⊕ Empty)=>Sum.elim (λ(val:Int)=>some val) (λ(val:Empty)=>nE val) val) y:=by kernel_rfl
theorem iI(x:Int):cZ x=some (decide (x≠x)):=by kernel_rfl
theorem mI(x:Int)(y:Int):bU x y=(cZ x).bind λ(out:Bool)=>(cZ y).bind λ(out_1:Bool)=>if out=true then if out_1=true then some 0 else some (-1)else if out_1=true then some 1 else if x<y then some (-1)else if x>y then some 1 else some 0:=by kernel_rfl
theorem qR(x:Int×Int×Int)(y:Int×Int×Int):dL x y=(bU x.fst y.fst).bind λ(out:Int)=>(bU x.snd.fst y.snd.fst).bind λ(out_1:Int)=>(fH {nn:=true,sz:=1,l:= [out,out_1]}).bind λ(out:Int)=>some out:=by kernel_rfl
def fe(x:Sl (Int×Int×Int)):Int->Option (Int ⊕ PUnit ⊕ Bool ⊕ Empty):=λ(x_1:Int)=>if x_1<(↑x.l.length:Int)then(atS 3 x (IntKind.i64.wrap (x_1 - 1))).bind λ(y:Int×Int×Int)=>(atS 3 x x_1).bind λ(y_1:Int×Int×Int)=>(dL y y_1).bind λ(out:Int)=>if out >= 0 then some (Sum.inr (Sum.inr (Sum.inl false)))else some (Sum.inl (IntKind.i64.wrap (x_1+1)))else some (Sum.inr (Sum.inl ()))
theorem su(x:Sl (Int×Int×Int)):cr x=(bu (fe x) 1).bind λ(y:PUnit ⊕ Bool ⊕ Empty)=>Sum.elim (λ(val:PUnit)=>some true) (λ(val:Bool ⊕ Empty)=>Sum.elim (λ(val:Bool)=>some val) (λ(val:Empty)=>nE val) val) y:=by kernel_rfl
end Ev
end
noncomputable section
namespace Ev
open Go
def ga(n:Int):Prop:= -9223372036854775808<=n/\n<=9223372036854775807
theorem xP{n:Int}(h:inK .i64 n):ga n:=by simpa [inK,ga,Lit.wf,IntKind.min,IntKind.max,IntKind.signed,IntKind.bits]using h
theorem wrap_u64(n:Int):IntKind.u64.wrap n=n % 18446744073709551616:=by
 simp [IntKind.wrap,IntKind.signed,IntKind.bits]
theorem zx(n:Int):ga (IntKind.i64.wrap n):=by rw [IntKind.wrap_i64];unfold ga;omega
def ofW(n:Int):Int×Int:=(if n<0 then -1 else 0,IntKind.u64.wrap n)
def dm(a b:Int×Int):Bool:=decide (a.1<b.1)||(decide (a.1=b.1)&& decide (a.2<b.2))
def iv(a b:Int×Int):Int×Int:=if dm b a=true then b else a
def Bq(b:Bool):Int×Int:=if b=true then(0,1)else(0,0)
def Nj(a b:Int×Int):Int×Int:=if IntKind.u64.wrap (a.2+b.2)<a.2 then(IntKind.i64.wrap (IntKind.i64.wrap (a.1+b.1)+1),IntKind.u64.wrap (a.2+b.2))else(IntKind.i64.wrap (a.1+b.1),IntKind.u64.wrap (a.2+b.2))
def ld(r:Int)(a b:Int×Int):Int×Int:=
 if r=1∨r=3∨r=4 then iv a b else if r=2 then Bq (!(decide (a.1=0/\a.2=0)&& decide (b.1=0/\b.2=0)))else if r=5 then Nj a b else(0,0)
def dn(a:Int×Int):Int×Bool:=if a=ofW (IntKind.i64.wrap a.2)then(IntKind.i64.wrap a.2,true)else(0,false)
def jO(r:Int):Bool:=decide (1<=r)&& decide (r<=5)
theorem pz{n:Int}(h:ga n):iZ n=some (ofW n):=by
 rw [Bn];unfold yx ofW KA;rw [if_pos (by omega)];have e:(2:Int)^(min (63:Int).toNat IntKind.i64.bits)=9223372036854775808:=by decide
 rw [e];unfold ga at h
 have:n.fdiv 9223372036854775808=if n<0 then -1 else 0:=by
  rw [Int.fdiv_eq_ediv_of_nonneg _ (by omega)];split<;>omega
 rw [this];rfl
theorem qS(a b:Int×Int):∃c,dK a b=some c/\(c<0↔dm a b=true):=by
 obtain⟨a1,a2⟩:=a;obtain⟨b1,b2⟩:=b;rw [qQ];unfold dm;simp only;by_cases h1:a1=b1/\a2=b2
 .rw [if_pos h1];exact⟨0,rfl,by simp;omega⟩
 rw [if_neg h1];by_cases h2:a1<b1
 .rw [if_pos h2];exact⟨-1,rfl,by simp [h2]⟩
 rw [if_neg h2];by_cases h3:a1=b1
 .rw [if_pos h3];by_cases h4:a2<b2
  .rw [if_pos h4];exact⟨-1,rfl,by simp [h3,h4]⟩
  .rw [if_neg h4];exact⟨1,rfl,by simp [h3];omega⟩
 .rw [if_neg h3];exact⟨1,rfl,by simp [h3];omega⟩
theorem vi(a b:Int×Int):eH a b=some (iv a b):=by
 obtain⟨c,h1,h2⟩:=qS b a;rw [sq,h1];unfold iv;simp only [zbS];by_cases hc:c<0
 .rw [if_pos hc,if_pos (h2.1 hc)]
 .rw [if_neg hc,if_neg (λh=>hc (h2.2 h))]
theorem xQ(b:Bool):eA b=some (Bq b):=by
 rw [ve];unfold Bq;cases b
 .rfl
 .simp only [if_true,pz (show ga 1 by unfold ga;omega),zbS];rfl
theorem Br(a b:Int×Int):iH a b=some (Nj a b):=by
 rw [zv];unfold Nj jN;split
 .rfl
 .obtain⟨a1,a2⟩:=a;obtain⟨b1,b2⟩:=b;rfl
theorem Bs(r:Int)(a b:Int×Int):jM r a b=some (ld r a b):=by
 rw [zw];unfold ld;simp only [vi,xQ,Br,zbS];by_cases h1:r=1
 .simp [h1]
 by_cases h3:r=3
 .simp [h3]
 by_cases h4:r=4
 .simp [h4]
 simp only [if_neg h1,if_neg h3,if_neg (show¬(r=1∨r=3∨r=4)by omega),decide_eq_false h4,zbS,Sum.elim_inl,Bool.false_eq_true,if_false];by_cases h2:r=2
 .simp only [if_pos h2];by_cases ha:a.1=0/\a.2=0
  .by_cases hb:b.1=0/\b.2=0
   .simp [ha,hb]
   .simp [ha,hb]
  .simp [ha]
 .simp only [if_neg h2];split<;>rfl
theorem vj(r:Int)(a:Int×Int):fZ r a=some (dn a):=by
 rw [ss,sr];obtain⟨a1,a2⟩:=a;unfold dn;simp only [pz (zx a2),zbS];by_cases h:(a1,a2)=ofW (IntKind.i64.wrap a2)
 .have h':a1=(ofW (IntKind.i64.wrap a2)).1/\a2=(ofW (IntKind.i64.wrap a2)).2:=⟨congrArg Prod.fst h,congrArg Prod.snd h⟩;rw [if_pos h,if_neg (λhh=>hh h')];rfl
 .have h':¬(a1=(ofW (IntKind.i64.wrap a2)).1/\a2=(ofW (IntKind.i64.wrap a2)).2):=λhh=>h (Prod.ext hh.1 hh.2);rw [if_neg h,if_pos h'];rfl
theorem ED(r:Int):nJ r=some (jO r):=by
 rw [Bp];unfold jO;by_cases h1:r >= 1
 .rw [if_pos h1,decide_eq_true (show 1<=r from h1)];simp
 .rw [if_neg h1,decide_eq_false (show¬1<=r from h1)];rfl
end Ev
end
noncomputable section
namespace Ev
open Go Sm
def fg:List (Int×Int×Int)->Bool
 | []=>true
 |a::r=>match r with
  | []=>true
  |b::_=>klt (key a) (key b)&& fg r
theorem sv(a b:Int×Int×Int)(r:List (Int×Int×Int)):fg (a::b::r)=(klt (key a) (key b)&& fg (b::r)):=rfl
theorem EE:∀(l:List (Int×Int×Int)) (j:Nat),0<j->(hj:j<l.length)->fg (l.drop (j - 1))=(klt (key l[j - 1]) (key l[j])&& fg (l.drop j)):=by
 intro l j h0 hj
 have e1:l.drop (j - 1)=l[j - 1]::l.drop j:=by
  rw [List.drop_eq_getElem_cons (by omega)];congr 2;omega
 rw [e1,List.drop_eq_getElem_cons hj,sv]
theorem vk(x y:Int):bU x y=some (px x y):=by
 rw [mI,iI,iI];unfold px;simp only [zbS,ne_eq,not_true_eq_false,decide_false,Bool.false_eq_true,if_false];by_cases h1:x<y
 .rw [if_pos h1,if_pos h1]
 .rw [if_neg h1,if_neg h1];by_cases h2:y<x
  .rw [if_pos h2,if_pos (show x>y from h2)]
  .rw [if_neg h2,if_neg (show¬x>y from h2)]
theorem GD(x y:Int):fH ⟨true,1,[x,y]⟩=some (Sm.orI x y):=by
 rw [vh];unfold Sm.orI;have s0:atS 1 (⟨true,1,[x,y]⟩:Sl Int) 0=some x:=rfl;have s1:atS 1 (⟨true,1,[x,y]⟩:Sl Int) 1=some y:=rfl;have w0:IntKind.i64.wrap (0+1)=1:=by decide
 have w1:IntKind.i64.wrap (1+1)=2:=by decide
 by_cases hx:x=0
 .have h0:bj ⟨true,1,[x,y]⟩ 0=some (.inl 1):=by
   unfold bj;simp only [s0,zbS,List.length_cons,List.length_nil];rw [if_pos (by decide),if_neg (λh=>h hx),w0]
  rw [if_pos hx,mY h0];by_cases hy:y=0
  .have h1:bj ⟨true,1,[x,y]⟩ 1=some (.inl 2):=by
    unfold bj;simp only [s1,zbS,List.length_cons,List.length_nil];rw [if_pos (by decide),if_neg (λh=>h hy),w1]
   have h2:bj ⟨true,1,[x,y]⟩ 2=some (.inr (.inl ())):=by
    unfold bj;simp only [List.length_cons,List.length_nil];rw [if_neg (by decide)]
   rw [mY h1,fN h2,hy];rfl
  .have h1:bj ⟨true,1,[x,y]⟩ 1=some (.inr (.inr (.inl y))):=by
    unfold bj;simp only [s1,zbS,List.length_cons,List.length_nil];rw [if_pos (by decide),if_pos (λh=>hy h)]
   rw [fN h1];rfl
 .have h0:bj ⟨true,1,[x,y]⟩ 0=some (.inr (.inr (.inl x))):=by
   unfold bj;simp only [s0,zbS,List.length_cons,List.length_nil];rw [if_pos (by decide),if_pos (λh=>hx h)]
  rw [if_neg hx,fN h0];rfl
theorem GE(a b:Int×Int×Int):∃c:Int,dL a b=some c/\(c<0↔klt (key a) (key b)=true):=by
 rw [qR];simp only [vk,zbS,GD];refine⟨_,rfl,?_⟩;unfold Sm.orI px klt key;simp only [decide_eq_true_eq];split<;>split<;>(try split)<;>omega
theorem GF{x:Sl (Int×Int×Int)}(hn:x.l.length<=9223372036854775807){b:Int->Option (Int ⊕ PUnit ⊕ Bool ⊕ Empty)}(h1:∀j:Nat,0<j->(hj:j<x.l.length)->b j=some (if klt (key x.l[j - 1]) (key x.l[j])=true then .inl ((j+1:Nat):Int)else .inr (.inr (.inl false))))(h2:∀j:Nat,x.l.length<=j->b j=some (.inr (.inl ()))):
  (fg x.l=true/\bu b 1=some (.inl ()))∨(fg x.l=false/\bu b 1=some (.inr (.inl false))):=by
 by_cases hl:x.l.length<=1
 .refine .inl ⟨?_,fN (h2 1 hl)⟩
  match x.l,hl with
  | [],_=>rfl
  | [a],_=>rfl
  |a::b::r,hl=>simp at hl
 obtain⟨r,e1,e2⟩:=oI (b:=b) x.l.length (λj a=>0<j/\a=(j:Int)/\fg x.l=fg (x.l.drop (j - 1))) (λr=>(fg x.l=true/\r= .inl ())∨(fg x.l=false/\r= .inr (.inl false)))
  (by
   rintro j _ hj ⟨h0,rfl,hr⟩;rw [h1 j h0 hj];rw [EE _ j h0 hj]at hr
   cases hk:klt (key x.l[j - 1]) (key x.l[j])with
   |true=>rw [hk]at hr;exact .inl ⟨_,rfl,by omega,rfl,by rw [hr];simp⟩
   |false=>rw [hk]at hr;exact .inr ⟨_,rfl,.inr ⟨by rw [hr];rfl,rfl⟩⟩)
  (by
   rintro _ ⟨h0,rfl,hr⟩;refine⟨_,h2 _ (Nat.le_refl _),.inl ⟨?_,rfl⟩⟩;rw [hr,List.drop_eq_getElem_cons (by omega),show x.l.length - 1+1=x.l.length by omega,List.drop_length]
   rfl)
  1 (by omega) ((1:Nat):Int) ⟨by omega,rfl,by simp⟩
 rcases e2 with⟨g1,rfl⟩|⟨g1,rfl⟩
 .exact .inl ⟨g1,e1⟩
 .exact .inr ⟨g1,e1⟩
theorem iw{x:Sl (Int×Int×Int)}(hs:x.l= []∨x.sz=3)(hn:x.l.length<=9223372036854775807):cr x=some (fg x.l):=by
 rw [su]
 have H:=GF (b:=fe x) hn (λj h0 hj=>by
  unfold fe;rw [if_pos (by omega),show IntKind.i64.wrap ((j:Int) - 1)=((j - 1:Nat):Int)by rw [dC (by omega) (by omega)];omega,iA hs (by omega),iA hs hj];obtain⟨c,e1,e2⟩:=GE x.l[j - 1] x.l[j];simp only [zbS,e1,jg hj hn];by_cases hc:c >= 0
  .rw [if_pos hc,if_neg (λh=>by have:=e2.2 h;omega)]
  .rw [if_neg hc,if_pos (e2.1 (by omega))]) (λj hj=>by
  unfold fe
  rw [if_neg (by omega)])
 rcases H with⟨h1,h2⟩|⟨h1,h2⟩
 .rw [h2,h1];rfl
 .rw [h2,h1];rfl
end Ev
end
noncomputable section
namespace Ev
namespace K
open Go Go.RowKit
set_option maxRecDepth 100000
set_option maxHeartbeats 1000000
def GG:Ax:=(λ_=>none)
theorem EF:Ao Try.prog GG:=(wE _)
def GH:Ax:=(az (az (az (az (az (az (az (az (az (az (az (az (az (az (az (az (az (az (az (az (az (az (az (az (az (az (az (az (az (az (az (az (az (az (az GG 24 au) 32 au) 35 au) 44 au) 51 au) 52 au) 54 au) 55 au) 57 au) 59 au) 61 au) 62 au) 69 au) 76 au) 78 au) 79 au) 86 au) 88 au) 89 au) 91 au) 93 au) 95 au) 96 au) 97 au) 98 au) 99 au) 100 au) 101 au) 102 au) 105 au) 106 au) 107 au) 110 au) 111 au) 112 au)
theorem EG:Ao Try.prog GH:=(ai (ai (ai (ai (ai (ai (ai (ai (ai (ai (ai (ai (ai (ai (ai (ai (ai (ai (ai (ai (ai (ai (ai (ai (ai (ai (ai (ai (ai (ai (ai (ai (ai (ai (ai EF λvs kind rs h=>by simp [au]at h) λvs kind rs h=>by simp [au]at h) λvs kind rs h=>by simp [au]at h) λvs kind rs h=>by simp [au]at h) λvs kind rs h=>by simp [au]at h) λvs kind rs h=>by simp [au]at h) λvs kind rs h=>by simp [au]at h) λvs kind rs h=>by simp [au]at h) λvs kind rs h=>by simp [au]at h) λvs kind rs h=>by simp [au]at h) λvs kind rs h=>by simp [au]at h) λvs kind rs h=>by simp [au]at h) λvs kind rs h=>by simp [au]at h) λvs kind rs h=>by simp [au]at h) λvs kind rs h=>by simp [au]at h) λvs kind rs h=>by simp [au]at h) λvs kind rs h=>by simp [au]at h) λvs kind rs h=>by simp [au]at h) λvs kind rs h=>by simp [au]at h) λvs kind rs h=>by simp [au]at h) λvs kind rs h=>by simp [au]at h) λvs kind rs h=>by simp [au]at h) λvs kind rs h=>by simp [au]at h) λvs kind rs h=>by simp [au]at h) λvs kind rs h=>by simp [au]at h) λvs kind rs h=>by simp [au]at h) λvs kind rs h=>by simp [au]at h) λvs kind rs h=>by simp [au]at h) λvs kind rs h=>by simp [au]at h) λvs kind rs h=>by simp [au]at h) λvs kind rs h=>by simp [au]at h) λvs kind rs h=>by simp [au]at h) λvs kind rs h=>by simp [au]at h) λvs kind rs h=>by simp [au]at h) λvs kind rs h=>by simp [au]at h)
def E1B:Env:=An Try.prog GH
theorem cJ:E1B.Ok:=tO CS CT EG
theorem fh:Ju E1B TT:=⟨tz1,⟨tz2,⟨tz3,⟨tz4,⟨tz5,⟨tz6,⟨tz7,⟨tz8,⟨QP,⟨QQ,⟨QR,⟨QS,⟨QU,⟨QV,⟨QW,⟨QX,⟨QY,⟨QZ,⟨Ra,⟨Rb,⟨Rc,⟨Rd,⟨Re,⟨Rf,⟨Rh,⟨Ri,⟨Rj,⟨Rk,⟨Rm,⟨Rn,⟨Ro,⟨Rp,⟨Rq,⟨Rr,⟨Rs,⟨Rt,⟨Ru,⟨Rv,⟨Rw,⟨Rx,⟨Ry,⟨Rz,⟨RA,⟨RE,⟨RF,⟨RH,⟨RI,⟨RJ,⟨RK,⟨RL,⟨RM,⟨RN,⟨RO,⟨RP,⟨RQ,⟨RT,⟨RU,⟨RV,⟨RY,⟨RZ,⟨Sa,⟨Sb,⟨Sd,⟨Se,⟨Sf,⟨Sg,⟨Si,⟨Sj,⟨Sk,⟨Sn,⟨So,⟨Sp,⟨Sq,⟨Sr,⟨Ss,⟨Su,⟨Sv,⟨Sw,⟨Sx,⟨Sy,⟨Sz,⟨SA,⟨SB,⟨SC,⟨SD,⟨SE,⟨SF,⟨LL,⟨LM,⟨LN,⟨LP,⟨LQ,⟨LR,⟨LS,⟨LT,⟨LU,⟨LV,⟨LW,⟨LY,⟨LZ,⟨Ma,⟨Mb,⟨Mc,⟨Md,⟨Me,⟨Mf,⟨Mg,⟨Mh,⟨Mi,⟨Mj,⟨Mk,⟨Ml,⟨Mm,⟨Mn,⟨Mo,⟨Mp,⟨Mq,⟨Mr,⟨Ms,⟨Mt,⟨Mu,⟨Mv,⟨Mw,⟨My,⟨Mz,⟨MA,⟨MC,⟨MD,⟨ME,⟨MF,⟨MG,⟨MH,⟨MI,⟨MJ,⟨MK,⟨ML,⟨MM,⟨MN,⟨MO,⟨MP,⟨MQ,⟨MR,⟨MS,⟨MT,⟨MU,⟨MV,⟨MW,⟨MX,⟨MY,trivial⟩⟩⟩⟩⟩⟩⟩⟩⟩⟩⟩⟩⟩⟩⟩⟩⟩⟩⟩⟩⟩⟩⟩⟩⟩⟩⟩⟩⟩⟩⟩⟩⟩⟩⟩⟩⟩⟩⟩⟩⟩⟩⟩⟩⟩⟩⟩⟩⟩⟩⟩⟩⟩⟩⟩⟩⟩⟩⟩⟩⟩⟩⟩⟩⟩⟩⟩⟩⟩⟩⟩⟩⟩⟩⟩⟩⟩⟩⟩⟩⟩⟩⟩⟩⟩⟩⟩⟩⟩⟩⟩⟩⟩⟩⟩⟩⟩⟩⟩⟩⟩⟩⟩⟩⟩⟩⟩⟩⟩⟩⟩⟩⟩⟩⟩⟩⟩⟩⟩⟩⟩⟩⟩⟩⟩⟩⟩⟩⟩⟩⟩⟩⟩⟩⟩⟩⟩⟩⟩⟩⟩⟩⟩⟩⟩⟩⟩⟩⟩
theorem dp:Jv E1B.P EQS:=⟨Eb Ee Ef,⟨Ec Eh Ei,⟨Ec Ej Ek,⟨Eb AX AY,trivial⟩⟩⟩⟩
theorem OC:E1B.fn 18=some Oe:=bk Try.func18 rfl
theorem OD:E1B.fn 38=some Of:=bk Try.func38 rfl
theorem OE:E1B.fn 63=some Og:=bk Try.func63 rfl
theorem OF:E1B.fn 64=some Oh:=bk Try.func64 rfl
theorem OG:E1B.fn 65=some Tc:=bk Try.func65 rfl
theorem OH:E1B.fn 66=some Td:=bk Try.func66 rfl
theorem OI:E1B.fn 67=some Te:=bk Try.func67 rfl
theorem OJ:E1B.fn 68=some Tf:=bk Try.func68 rfl
theorem OK:E1B.fn 81=some Oi:=bk Try.func81 rfl
theorem OL:E1B.fn 82=some Tj:=bk Try.func82 rfl
theorem OM:E1B.fn 83=some Tk:=bk Try.func83 rfl
theorem ON:E1B.fn 84=some Tl:=bk Try.func84 rfl
theorem OO:E1B.fn 85=some Tm:=bk Try.func85 rfl
theorem OP:E1B.fn 94=some Tn:=bk Try.func94 rfl
end K
end Ev
end
noncomputable section
namespace Ev
namespace K
open Go Go.RowKit
set_option maxRecDepth 100000
set_option maxHeartbeats 1000000
theorem xR:GOk xx E1B 0:=gok cJ fh dp trivial trivial
theorem jP:ay E1B qj:=aS xR (by kernel_rfl) OI (by kernel_rfl) rfl
theorem nK:GOk kS E1B 0:=gok cJ fh dp trivial trivial
theorem pA:ay E1B kZ:=aS nK (by kernel_rfl) OP (by kernel_rfl) rfl
theorem pB:GOk mn E1B 1:=gok cJ fh dp ⟨⟨by decide,pA⟩,trivial⟩ trivial
theorem qT:ay E1B mq:=aS pB (by kernel_rfl) OL (by kernel_rfl) rfl
theorem qU:GOk oZ E1B 1:=gok cJ fh dp ⟨⟨by decide,jP⟩,trivial⟩ trivial
theorem sx:ay E1B pc:=aS qU (by kernel_rfl) OM (by kernel_rfl) rfl
theorem vl:GOk uM E1B 0:=gok cJ fh dp trivial trivial
theorem xS:ay E1B uN:=aS vl (by kernel_rfl) ON (by kernel_rfl) rfl
theorem vm:GOk uO E1B 2:=gok cJ fh dp ⟨⟨by decide,qT⟩,⟨⟨by decide,sx⟩,⟨⟨by decide,xS⟩,trivial⟩⟩⟩ trivial
theorem xU:ay E1B CW:=aS vm (by kernel_rfl) OH (by kernel_rfl) rfl
theorem pD:GOk mr E1B 1:=gok cJ fh dp ⟨⟨by decide,jP⟩,trivial⟩ trivial
theorem qV:ay E1B mt:=aS pD (by kernel_rfl) OO (by kernel_rfl) rfl
theorem pE:GOk mu E1B 2:=gok cJ fh dp ⟨⟨by decide,qV⟩,trivial⟩ trivial
theorem qW:ay E1B vR:=aS pE (by kernel_rfl) OJ (by kernel_rfl) rfl
theorem xV:GOk xy E1B 0:=gok cJ fh dp trivial trivial
theorem zy:ay E1B Ge:=aS xV (by kernel_rfl) OG (by kernel_rfl) rfl
theorem qX:GOk js E1B 0:=gok cJ fh dp trivial trivial
theorem sy:ay E1B jt:=aS qX (by kernel_rfl) OE (by kernel_rfl) rfl
theorem mJ:GOk gu E1B 0:=gok cJ fh dp trivial trivial
theorem nL:ay E1B gv:=aS mJ (by kernel_rfl) OK (by kernel_rfl) rfl
theorem jQ:GOk fF E1B 1:=gok cJ fh dp ⟨⟨by decide,nL⟩,trivial⟩ trivial
theorem lF:ay E1B fG:=aS jQ (by kernel_rfl) OF (by kernel_rfl) rfl
theorem nM:GOk hZ E1B 2:=gok cJ fh dp ⟨⟨by decide,sy⟩,⟨⟨by decide,lF⟩,trivial⟩⟩ trivial
theorem pF:ay E1B ia:=aS nM (by kernel_rfl) OD (by kernel_rfl) rfl
theorem pG:GOk iE E1B 3:=gok cJ fh dp ⟨⟨by decide,pF⟩,trivial⟩ trivial
theorem qY:ay E1B fW:=aS pG (by kernel_rfl) OC (by kernel_rfl) rfl
end K
end Ev
end
end Go.Proofs.Ytoamaaicfjkmhaa
