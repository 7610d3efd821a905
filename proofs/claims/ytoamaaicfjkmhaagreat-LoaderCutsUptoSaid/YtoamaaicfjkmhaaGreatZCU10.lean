/- Texts of a claim, joined. -/
import Derived.Test.YtoamaaicfjkmhaaGreatZCU9
import Derived.Laws.OwnMore
import Derived.Maps.AppendAt
import Derived.RangeFuncBox
import Derived.Defers
import Derived.Recover
import Derived.Shelf.SlSortCmp.WholeK
import Derived.Laws.AppendOwnNone
import Derived.Maps.RangeWalk
import Derived.Maps.Ext
import Derived.WideKeyArr
set_option linter.unusedVariables false
set_option linter.unusedSimpArgs false
namespace Go.Proofs.YtoamaaicfjkmhaaGreat
noncomputable section
open Go.RowKit Go.Sort
def CellsAt(W:World)(B:Nat)(t:TypeId)(cs:Array Value):Prop:=W.heap[B]? =some (.cells cs t (0,0))
theorem CellsAt.lt{W:World}{B:Nat}{t:TypeId}{cs:Array Value}(h:CellsAt W B t cs):B<W.heap.size:=(Array.getElem?_eq_some_iff.1 h).1
theorem CellsAt.cell{W:World}{B:Nat}{t:TypeId}{cs:Array Value}(h:CellsAt W B t cs)(i:Nat):W.cell? ⟨B,i,none⟩=cs[i]? :=by
 simp [World.cell?,show W.heap[B]? =_ from h]
theorem CellsAt.frozen{W:World}{B:Nat}{t:TypeId}{cs:Array Value}(h:CellsAt W B t cs)(i:Nat):W.frozen? ⟨B,i,none⟩=false:=by simp [World.frozen?,show W.heap[B]? =_ from h]
theorem CellsAt.set{W:World}{B:Nat}{t:TypeId}{cs:Array Value}(h:CellsAt W B t cs)(i:Nat)(v:Value):CellsAt (W.setCell ⟨B,i,none⟩ v) B t (cs.setIfInBounds i v):=by
 obtain⟨hlt,hk⟩:=Array.getElem?_eq_some_iff.1 h;show(W.heap.modify B _)[B]? =_;rw [Array.getElem?_eq_getElem (by rw [Array.size_modify];exact hlt),Array.getElem_modify_self,hk];rfl
theorem CellsAt.kept{W W':World}{B:Nat}{t:TypeId}{cs:Array Value}(h:CellsAt W B t cs)(hb:W'.heap[B]? =W.heap[B]?):CellsAt W' B t cs:=hb.trans h
theorem CellsAt.below{W W':World}{B:Nat}{t:TypeId}{cs:Array Value}(h:CellsAt W B t cs)(hb:Below W.heap.size W W'):CellsAt W' B t cs:=h.kept (hb.block B h.lt)
theorem CellsAt.grown{W W':World}{B:Nat}{t:TypeId}{cs:Array Value}{row:Option Nat}(h:CellsAt W B t cs)(hg:W.grownBy W' row)(hne:some B≠row):CellsAt W' B t cs:=h.kept (hg.block B h.lt hne)
theorem ah{W:World}{B B':Nat}{t:TypeId}{cs:Array Value}(h:CellsAt W B t cs)(hne:B≠B')(v:Value)(i:Nat):CellsAt (W.setCell ⟨B',i,none⟩ v) B t cs:=
 (Below.heap_setCell W ⟨B',i,none⟩ v B hne).trans h
def Rd8(w:World)(a:Option Addr)(n:Nat)(f:Nat->Int):Prop:=∀i,i<n->∃b,a=some b/\b.block<w.heap.size/\w.cell? (b.add i)=some (.int .u8 (f i))/\0<=f i/\f i<=255
@[go_sem] theorem rZ (b:Addr) (k:Nat):(b.add k).block=b.block:=by unfold Addr.add;split<;>rfl
theorem ab{w w':World}(h:Below w.heap.size w w')(row:Option Nat):w.grownBy w' row:=⟨h.os,h.tape,h.output,h.size,λk hk _=>h.block k hk⟩
theorem Rd8.grown{W W':World}{a:Option Addr}{n:Nat}{f:Nat->Int}{row:Option Nat}(h:Rd8 W a n f)(hg:W.grownBy W' row)(hne:∀b,a=some b->some b.block≠row):Rd8 W' a n f:=by
 intro i hi;obtain⟨b,hb,h1,h2,h3⟩:=h i hi;refine⟨b,hb,Nat.lt_of_lt_of_le h1 hg.size,?_,h3⟩;rw [<-h2]
 have:=hg.block b.block h1 (hne b hb)
 unfold World.cell?;rw [rZ,this]
theorem Rd8.cut{W:World}{a:Option Addr}{n p k:Nat}{f:Nat->Int}(h:Rd8 W a n f)(hp:p+k<=n):Rd8 W (Option.map (λx=>x.add p) a) k (λi=>f (p+i)):=by
 intro i hi;obtain⟨b,rfl,h1,h2,h3⟩:=h (p+i) (by omega);refine⟨b.add p,rfl,by rw [rZ];exact h1,?_,h3⟩;rw [<-h2];congr 1;unfold Addr.add;by_cases h4:p=0<;>by_cases h5:i=0<;>simp [h4,h5];omega
theorem DV{W:World}{base k:Nat}{e:TypeId}{v:Value}{xs:List Value}{f:Nat->Int}(h:W.ownsRow base e 1 v k xs)(hx:∀i,i<k->xs[i]? =some (.int .u8 (f i)))(hf:∀i,i<k->0<=f i/\f i<=255):
  ∃a c,v= .slice a k c/\k<=c/\Rd8 W a k f/\(∀b,a=some b->base<=b.block/\b.block<W.heap.size)/\(a=none->c=0/\k=0):=by
 obtain⟨hl,⟨rfl,h0⟩|⟨g,cap,cur,rfl,h1,h2,h3,h4,h5,h6⟩⟩:=h
 .subst h0;refine⟨none,0,rfl,Nat.le_refl _,?_,?_,?_⟩
  .intro i hi;exact absurd hi (Nat.not_lt_zero _)
  .intro b hb;cases hb
  .intro _;exact⟨rfl,rfl⟩
 .refine⟨_,cap,rfl,h3,?_,?_,?_⟩
  .intro i hi;refine⟨_,rfl,(Array.getElem?_eq_some_iff.1 h2).1,?_,hf i hi⟩
   have:=World.ownsRow.cellAt ⟨hl,.inr ⟨g,cap,cur,rfl,h1,h2,h3,h4,h5,h6⟩⟩ i (by omega)
   have e:((⟨g,0,none⟩:Addr).add i)=⟨g,i,none⟩:=by unfold Addr.add;split<;>simp_all
   rw [e,this,hx i hi]
  .intro b hb;cases hb;exact⟨h1,(Array.getElem?_eq_some_iff.1 h2).1⟩
  .intro hh;cases hh
theorem af(W:World)(b i:Nat)(v:Value):W.grownBy (W.setCell ⟨b,i,none⟩ v) (some b):=
 ⟨rfl,rfl,rfl,(KeepsWalks.setCell W _ v).size,λk _ hk=>Below.heap_setCell _ _ _ k (λe=>hk (by rw [e]))⟩
theorem ae{A B C:World}{r:Option Nat}(h:A.grownBy B r)(k:B.grownBy C r):A.grownBy C r:=
 ⟨k.os.trans h.os,k.tape.trans h.tape,k.output.trans h.output,Nat.le_trans h.size k.size,λi hi hr=>(k.block i (Nat.lt_of_lt_of_le hi h.size) hr).trans (h.block i hi hr)⟩
theorem jm{A B:World}{r:Option Nat}(h:A.grownBy B none):A.grownBy B r:=⟨h.os,h.tape,h.output,h.size,λi hi _=>h.block i hi (by simp)⟩
theorem aw{A B:World}{n r:Nat}(h:A.grownBy B (some r))(hn:n<=A.heap.size)(hr:n<=r):Below n A B:=⟨h.os,h.tape,h.output,h.size,λk hk=>h.block k (by omega) (by simp;omega)⟩
theorem cC{A B:World}(h:A.grownBy B none):Below A.heap.size A B:=⟨h.os,h.tape,h.output,h.size,λk hk=>h.block k hk (by simp)⟩
end
noncomputable section
namespace Sm
abbrev V:=Int×Int
structure Rg where
 o:Int->V
 ad:V->V->V
 na:V->Int×Bool
abbrev Ky:=Int×Int
def key(e:Int×Int×Int):Ky:=(e.1,e.2.1)
def klt(a b:Ky):Bool:=decide (a.1<b.1∨a.1=b.1/\a.2<b.2)
theorem oe(a:Ky):klt a a=false:=by simp [klt]
theorem wB{a b c:Ky}(h1:klt a b=true)(h2:klt b c=true):klt a c=true:=by simp [klt]at*;omega
theorem yb{a b:Ky}(h1:klt a b=false)(h2:klt b a=false):a=b:=by
 simp [klt]at*;refine Prod.ext ?_ ?_<;>omega
theorem Hb{a b:Ky}(h:klt a b=true):a≠b:=by rintro rfl;rw [oe]at h;cases h
theorem Hc{a b:Ky}(h:klt a b=true):klt b a=false:=by simp [klt]at*;omega
def toE(R:Rg)(p:Ky×V):Int×Int×Int:=(p.1.1,p.1.2,(R.na p.2).1)
def upd(R:Rg)(f:Ky->Option V)(e:Int×Int×Int):Ky->Option V:=λk=>if k=key e then some (match f (key e)with|some s=>R.ad s (R.o e.2.2)|none=>R.o e.2.2)else f k
def fm(R:Rg)(l:List (Int×Int×Int)):Ky->Option V:=l.foldl (upd R) (λ_=>none)
theorem Ku(R:Rg)(l:List (Int×Int×Int))(e:Int×Int×Int):fm R (l++ [e])=upd R (fm R l) e:=by simp [fm]
def ins(R:Rg):List (Ky×V)->(Int×Int×Int)->List (Ky×V)
 | [],e=> [(key e,R.o e.2.2)]
 |p::S,e=>if klt p.1 (key e)=true then p::ins R S e else if klt (key e) p.1=true then(key e,R.o e.2.2)::p::S else(p.1,R.ad p.2 (R.o e.2.2))::S
def fG(R:Rg)(l:List (Int×Int×Int)):List (Ky×V):=l.foldl (ins R) []
theorem wD(R:Rg)(l:List (Int×Int×Int))(e:Int×Int×Int):fG R (l++ [e])=ins R (fG R l) e:=by simp [fG]
def Rep(S:List (Ky×V))(f:Ky->Option V):Prop:=S.Pairwise (λp q=>klt p.1 q.1=true)/\∀k z,(k,z)∈S↔f k=some z
theorem Rep.nil:Rep [] (λ_=>none):=⟨List.Pairwise.nil,by simp⟩
theorem DW(R:Rg)(e:Int×Int×Int):∀(S:List (Ky×V)) (q:Ky×V),q∈ins R S e->q.1=key e∨q∈S
 | [],q,h=>by simp [ins]at h;subst h;exact .inl rfl
 |p::S,q,h=>by
  unfold ins at h;split at h
  .rcases List.mem_cons.1 h with rfl|h
   .exact .inr (by simp)
   .rcases DW R e S q h with h|h
    .exact .inl h
    .exact .inr (by simp [h])
  .split at h
   .rcases List.mem_cons.1 h with rfl|h
    .exact .inl rfl
    .exact .inr h
   .rename_i h1 h2;rcases List.mem_cons.1 h with rfl|h
    .exact .inl (yb (by simpa using h1) (by simpa using h2))
    .exact .inr (by simp [h])
theorem sH(R:Rg)(e:Int×Int×Int):∀(S:List (Ky×V)),S.Pairwise (λp q=>klt p.1 q.1=true)->(ins R S e).Pairwise (λp q=>klt p.1 q.1=true)
 | [],_=>by simp [ins]
 |p::S,h=>by
  obtain⟨h1,h2⟩:=List.pairwise_cons.1 h;unfold ins;split
  .rename_i hp;refine List.pairwise_cons.2 ⟨λq hq=> ?_,sH R e S h2⟩;rcases DW R e S q hq with h|h
   .rw [h];exact hp
   .exact h1 q h
  .split
   .rename_i hp;refine List.pairwise_cons.2 ⟨λq hq=> ?_,h⟩;rcases List.mem_cons.1 hq with rfl|hq
    .exact hp
    .exact wB hp (h1 q hq)
   .exact List.pairwise_cons.2 ⟨h1,h2⟩
theorem Ol(R:Rg)(e:Int×Int×Int):∀(S:List (Ky×V)) (f:Ky->Option V),Rep S f->Rep (ins R S e) (upd R f e)
 |S,f,h=>⟨sH R e S h.1,by
  intro k z
  have hmem:∀(S:List (Ky×V)),S.Pairwise (λp q=>klt p.1 q.1=true)->((k,z)∈ins R S e↔if k=key e then(∃s,(k,s)∈S/\z=R.ad s (R.o e.2.2))∨((∀s,(k,s)∉ S)/\z=R.o e.2.2)else(k,z)∈S):=by
   intro S
   induction S with
   |nil=>intro _;simp [ins,key]
   |cons p S ih=>
    intro hs;obtain⟨h1,h2⟩:=List.pairwise_cons.1 hs;unfold ins;split
    .rename_i hp;rw [List.mem_cons,ih h2];by_cases hk:k=key e
     .have hne:∀s,(k,s)≠p:=λs hs=>Hb hp (by rw [<-hs];exact hk);simp [hk];rw [<-hk];simp [hne]
     .simp [hk]
    .split
     .rename_i hp0 hp
      have hno:∀s,(key e,s)∉ p::S:=by
       intro s hs;rcases List.mem_cons.1 hs with rfl|hs
       .rw [oe]at hp;cases hp
       .have:=wB hp (h1 _ hs)
        rw [oe]at this;cases this
      by_cases hk:k=key e
      .subst hk;rw [List.mem_cons];simp only [if_true];constructor
       .rintro(h|h)
        .exact .inr ⟨hno,by cases h;rfl⟩
        .exact absurd h (hno _)
       .rintro(⟨s,h,_⟩|⟨_,rfl⟩)
        .exact absurd h (hno _)
        .exact .inl rfl
      .rw [List.mem_cons,if_neg hk];constructor
       .rintro(h|h)
        .cases h;exact absurd rfl hk
        .exact h
       .exact .inr
     .rename_i hp0 hp;have he:p.1=key e:=yb (by simpa using hp0) (by simpa using hp)
      have hno:∀s,(key e,s)∉ S:=by
       intro s hs
       have:=h1 _ hs
       rw [he,oe]at this;cases this
      by_cases hk:k=key e
      .subst hk;simp only [if_true];rw [List.mem_cons];constructor
       .rintro(h|h)
        .exact .inl ⟨p.2,by rw [<-he];simp,by have:=congrArg Prod.snd h;exact this⟩
        .exact absurd h (hno _)
       .rintro(⟨s,h,rfl⟩|⟨h,_⟩)
        .rcases List.mem_cons.1 h with h|h
         .left
          rw [<-h]
         .exact absurd h (hno _)
        .exact absurd (show(key e,p.2)∈p::S by rw [<-he];simp) (h _)
      .rw [List.mem_cons,if_neg hk,List.mem_cons];constructor
       .rintro(h|h)
        .exact absurd (by rw [<-he];exact congrArg Prod.fst h) hk
        .exact .inr h
       .rintro(h|h)
        .exact absurd (by rw [<-he,<-h]) hk
        .exact .inr h
  rw [hmem S h.1];unfold upd;by_cases hk:k=key e
  .subst hk;simp only [if_true]
   cases hf:f (key e)with
   |none=>
    have hno:∀s,(key e,s)∉ S:=λs hs=>by rw [h.2,hf]at hs;cases hs
    simp [hno,eq_comm]
   |some s=>
    have hs:=(h.2 (key e) s).2 hf;simp only [zsI];constructor
    .rintro(⟨s',h',rfl⟩|⟨h',_⟩)
     .rw [h.2,hf]at h';cases h';rfl
     .exact absurd hs (h' _)
    .rintro rfl;exact .inl ⟨s,hs,rfl⟩
  .simp [hk,h.2]⟩
theorem lA(R:Rg)(l:List (Int×Int×Int)):Rep (fG R l) (fm R l):=by
 have:∀(l:List (Int×Int×Int)) (S:List (Ky×V)) (f:Ky->Option V),Rep S f->Rep (l.foldl (ins R) S) (l.foldl (upd R) f):=by
  intro l
  induction l with
  |nil=>intro S f h;exact h
  |cons e l ih=>intro S f h;exact ih _ _ (Ol R e S f h)
 exact this l [] _ Rep.nil
theorem Rep.nodup{S:List (Ky×V)}{f:Ky->Option V}(h:Rep S f):S.Nodup:=h.1.imp λ{a b} h e=>by rw [e,oe]at h;cases h
theorem Rep.perm{S T:List (Ky×V)}{f:Ky->Option V}(h:Rep S f)(hT:(T.map (·.1)).Nodup)(h1:∀p∈T,f p.1=some p.2)(h2:∀k z,f k=some z->(k,z)∈T):T.Perm S:=by
 have hTn:T.Nodup:=by
  have:=List.pairwise_map.1 hT
  exact this.imp λ{a b} h e=>h (by rw [e])
 refine(List.perm_ext_iff_of_nodup hTn h.nodup).2 λp=>⟨λhp=>(h.2 p.1 p.2).2 (h1 p hp),λhp=>h2 p.1 p.2 ((h.2 p.1 p.2).1 hp)⟩
theorem yc{R:Rg}:∀{l:List (Int×Int×Int)} {k:Ky} {z:V},fm R l k=some z->∃e∈l,key e=k:=by
 intro l
 have:∀(l:List (Int×Int×Int)) (f:Ky->Option V) (k:Ky) (z:V),l.foldl (upd R) f k=some z->(∃e∈l,key e=k)∨∃z,f k=some z:=by
  intro l
  induction l with
  |nil=>intro f k z h;exact .inr ⟨z,h⟩
  |cons e l ih=>
   intro f k z h;rcases ih _ _ _ h with⟨e',h1,h2⟩|⟨z',h2⟩
   .exact .inl ⟨e',by simp [h1],h2⟩
   .unfold upd at h2;split at h2
    .rename_i hk;exact .inl ⟨e,by simp,hk.symm⟩
    .exact .inr ⟨z',h2⟩
 intro k z h;rcases this l _ k z h with h|⟨z,h⟩
 .exact h
 .cases h
def dQ(R:Rg)(l:List (Int×Int×Int)):List (Int×Int×Int)×Int:=if(fG R l).all (λp=>(R.na p.2).2)=true then((fG R l).map (toE R),0)else([],12)
theorem Fq{R:Rg}{l:List (Int×Int×Int)}{k:Ky}{z:V}(hk:fm R l k=some z)(hz:(R.na z).2=false):dQ R l=([],12):=by
 have hm:=((lA R l).2 k z).2 hk
 have:¬(fG R l).all (λp=>(R.na p.2).2)=true:=by
  intro ha
  have:=List.all_eq_true.1 ha _ hm
  rw [hz]at this;cases this
 simp only [dQ,if_neg this]
theorem Fr(R:Rg)(l l':List (Int×Int×Int))(T:List (Ky×V))(hT:T.Perm (fG R l))(hp:l'.Perm (T.map (toE R)))(hs:l'.Pairwise (λa b=>klt (key b) (key a)=false)):l'=(fG R l).map (toE R):=by
 have hp2:l'.Perm ((fG R l).map (toE R)):=hp.trans (hT.map (toE R));have hc:=(lA R l).1
 have hs2:((fG R l).map (toE R)).Pairwise (λa b=>klt (key b) (key a)=false):=by
  rw [List.pairwise_map];exact hc.imp λ{a b} h=>Hc h
 have hn:((fG R l).map (toE R)).Pairwise (λa b=>key a≠key b):=by
  rw [List.pairwise_map];exact hc.imp λ{a b} h=>Hb h
 refine hp2.eq_of_pairwise (le:=λa b=>klt (key b) (key a)=false) (λa b ha hb h1 h2=> ?_) hs hs2;have hk:key a=key b:=yb h2 h1;have ha':=hp2.mem_iff.1 ha;have hb':=hb;obtain⟨i,hi,rfl⟩:=List.mem_iff_getElem.1 ha';obtain⟨j,hj,rfl⟩:=List.mem_iff_getElem.1 hb';have hpw:=List.pairwise_iff_getElem.1 hn;rcases Nat.lt_trichotomy i j with h|h|h
 .exact absurd hk (hpw i j hi hj h)
 .subst h;rfl
 .exact absurd hk.symm (hpw j i hj hi h)
theorem Hd{R:Rg}{l:List (Int×Int×Int)}(ha:∀k z,fm R l k=some z->(R.na z).2=true):dQ R l=((fG R l).map (toE R),0):=by
 have:(fG R l).all (λp=>(R.na p.2).2)=true:=List.all_eq_true.2 λp hp=>ha p.1 p.2 (((lA R l).2 p.1 p.2).1 hp)
 simp only [dQ,if_pos this]
end Sm
end
noncomputable section
open Go.RowKit Go.Sort
namespace Sm
open Ev
@[go_sem] abbrev WV (p:V):Value:= .agg #[.int .i64 p.1,.int .u64 p.2]
abbrev Ed:=Int×Int×Int
def pK(n:Int):Prop:= -9223372036854775808<=n/\n<=9223372036854775807
def pL(x y:Int):Int:=if x<y then -1 else if y<x then 1 else 0
def orI(x y:Int):Int:=if x=0 then y else x
def el(l:List Ed)(i:Nat):Ed:=l.getD i (0,0,0)
theorem Om{l:List Ed}{i:Nat}(h:i<l.length):el l i∈l:=by
 simp [el,List.getD_eq_getElem?_getD,h]
theorem Cb(l:List Ed)(i:Nat)(h:i<l.length):(l.toArray)[i]! =el l i:=by
 simp [el,List.getD_eq_getElem?_getD,h]
theorem Kv{l:List Ed}{j:Nat}(h:j<l.length):l.take (j+1)=l.take j++ [el l j]:=by
 rw [List.take_succ_eq_append_getElem h];simp [el,List.getD_eq_getElem?_getD,h]
theorem Qa(g i:Nat):((⟨g,0,none⟩:Addr).add i)=⟨g,i,none⟩:=by unfold Addr.add;split<;>simp_all
theorem fk(a:Addr)(k:Nat):a.add (k+1)=⟨a.block,(a.add k).off+1,none⟩:=by
 unfold Addr.add;by_cases h:k=0
 .subst h;simp
 .simp [h];omega
def PT:T->Option Value
 | .v x=>if x.oneCell' then some x else none
 | .s _ _ _=>none
def PTs:List T->Option (List Value)
 | []=>some []
 |t::r=>(PT t).bind λx=>(PTs r).map (x::·)
def PD:TD->Option Value
 | .one t=>PT t
 | .agg ts=>(PTs ts).map λl=> .agg l.toArray
theorem He{t:T}{x:Value}(h:PT t=some x)(w:World)(F:Nat->Prop):RepT w F t x/\∀y,RepT w F t y->y=x:=by
 cases t with
 |s=>simp [PT]at h
 |v z=>
  simp only [PT]at h;split at h
  .rename_i hz;cases h;exact⟨.v _ hz,λy hy=>by cases hy;rfl⟩
  .simp at h
theorem DX:∀{ts:List T} {l:List Value},PTs ts=some l->∀(w:World) (F:Nat->Prop),RepTs w F ts l/\∀ys,RepTs w F ts ys->ys=l
 | [],l,h,w,F=>by
  simp [PTs]at h;subst h;exact⟨⟨rfl,by simp⟩,λys hy=>by have:=hy.1;simpa using this.symm⟩
 |t::r,l,h,w,F=>by
  simp only [PTs,zbE,Option.map_eq_some_iff]at h;obtain⟨x,hx,l',hl,rfl⟩:=h;obtain⟨h1,h2⟩:=He hx w F;obtain⟨h3,h4⟩:=DX hl w F;refine⟨⟨by simp [h3.1],λi t' hi=> ?_⟩,λys hy=> ?_⟩
  .cases i with
   |zero=>simp at hi;subst hi;exact⟨x,rfl,h1⟩
   |succ i=>obtain⟨y,e1,e2⟩:=h3.2 i t' (by simpa using hi);exact⟨y,by simpa using e1,e2⟩
  .obtain⟨hl,hy⟩:=hy
   cases ys with
   |nil=>simp at hl
   |cons y ys=>
    obtain⟨y',e1,e2⟩:=hy 0 t rfl;simp at e1;subst e1
    rw [h2 _ e2,h4 ys ⟨by simpa using hl,λi t' hi=>by
     obtain⟨z,f1,f2⟩:=hy (i+1) t' (by simpa using hi)
     exact⟨z,by simpa using f1,f2⟩⟩]
theorem Hg{t:TD}{x:Value}(h:PD t=some x)(w:World)(F:Nat->Prop):RepTD w F t x/\∀y,RepTD w F t y->y=x:=by
 cases t with
 |one t=>
  obtain⟨h1,h2⟩:=He h w F;exact⟨.one _ _ h1,λy hy=>by cases hy with|one _ _ hy=>exact h2 _ hy⟩
 |agg ts=>
  simp only [PD,Option.map_eq_some_iff]at h;obtain⟨l,hl,rfl⟩:=h;obtain⟨h1,h2⟩:=DX hl w F;exact⟨.agg _ _ h1,λy hy=>by cases hy with|agg _ ys hy=>rw [h2 _ hy]⟩
def PDs:List TD->Option (List Value)
 | []=>some []
 |t::r=>(PD t).bind λx=>(PDs r).map (x::·)
theorem sa:∀{ts:List TD} {l:List Value},PDs ts=some l->∀(w:World) (F:Nat->Prop),fH w F ts l/\∀ys,fH w F ts ys->ys=l
 | [],l,h,w,F=>by
  simp [PDs]at h;subst h;exact⟨⟨rfl,by simp⟩,λys hy=>by have:=hy.1;simpa using this.symm⟩
 |t::r,l,h,w,F=>by
  simp only [PDs,zbE,Option.map_eq_some_iff]at h;obtain⟨x,hx,l',hl,rfl⟩:=h;obtain⟨h1,h2⟩:=Hg hx w F;obtain⟨h3,h4⟩:=sa hl w F;refine⟨⟨by simp [h3.1],λi t' hi=> ?_⟩,λys hy=> ?_⟩
  .cases i with
   |zero=>simp at hi;subst hi;exact⟨x,rfl,h1⟩
   |succ i=>obtain⟨y,e1,e2⟩:=h3.2 i t' (by simpa using hi);exact⟨y,by simpa using e1,e2⟩
  .obtain⟨hl,hy⟩:=hy
   cases ys with
   |nil=>simp at hl
   |cons y ys=>
    obtain⟨y',e1,e2⟩:=hy 0 t rfl;simp at e1;subst e1
    rw [h2 _ e2,h4 ys ⟨by simpa using hl,λi t' hi=>by
     obtain⟨z,f1,f2⟩:=hy (i+1) t' (by simpa using hi)
     exact⟨z,by simpa using f1,f2⟩⟩]
def PR:List TD->Option Value
 | [r]=>PD r
 |rs=>(PDs rs).map λl=> .tuple l.toArray
theorem Hh{rs:List TD}{x:Value}(h:PR rs=some x)(w:World)(F:Nat->Prop){y:Value}(hy:jT w F rs y):y=x:=by
 match rs,h,hy with
 | [],h,⟨ys,e,hy⟩=>
  simp [PR,PDs]at h;subst h;rw [e,(sa (ts:= []) (l:= []) rfl w F).2 _ hy]
 | [r],h,hy=>exact(Hg h w F).2 _ hy
 |r::r'::rs,h,⟨ys,e,hy⟩=>
  simp only [PR,Option.map_eq_some_iff]at h;obtain⟨l,hl,rfl⟩:=h;rw [e,(sa hl w F).2 _ hy]
theorem ik{P:Program}{k:FuncId}{vs:List TD}{kind:Kind}{rs:List TD}(h:dP P k vs kind rs){ys:List Value}{y:Value}(h1:PDs vs=some ys)(h2:PR rs=some y)(w:World)(hL:LD w.heap.size w):Calls P k ys.toArray w λe w'=>e= .returned y/\Below w.heap.size w w':=by
 refine(h w (λ_=>False) ys hL (λ_ h=>h.elim) (sa h1 w _).1).mono λe w' ⟨y',e1,e2,_,e3⟩=>⟨?_,e3⟩;rw [e1,Hh h2 w' _ e2]
end Sm
end
noncomputable section
open Go.Shelf Go.RowKit Go.Lib Go.Sort
namespace Sm
namespace Eg
def Fs:Go.Shelf.Ren:=⟨λ|6=>113|15=>122|14=>121|28=>132|29=>133|20=>124|21=>125|22=>126|23=>127|24=>128|25=>129|26=>130|27=>131|46=>134|47=>135|48=>136|49=>137|50=>138|57=>139|n=>n,λ|22=>22|24=>52|25=>87|3=>3|39=>123|0=>0|53=>59|55=>91|4=>4|46=>151|45=>150|50=>155|5=>5|9=>9|66=>159|70=>163|76=>165|77=>166|n=>n,λ|n=>n⟩
theorem Qb:Go.Proofs.SlLaysF0.n6 Tryz.prog Fs:=
 {
  mixed:=by kernel_rfl,
  f6:=⟨Tryz.f113.name,by decide,Tryz.func113.trans (congrArg some (by kernel_rfl))⟩,
  f14:=⟨Tryz.f121.name,by decide,Tryz.func121.trans (congrArg some (by kernel_rfl))⟩,
  f15:=Tryz.func122.trans (congrArg some (by kernel_rfl)),
  f20:=⟨Tryz.f124.name,by decide,Tryz.func124.trans (congrArg some (by kernel_rfl))⟩,
  f21:=⟨Tryz.f125.name,by decide,Tryz.func125.trans (congrArg some (by kernel_rfl))⟩,
  f22:=⟨Tryz.f126.name,by decide,Tryz.func126.trans (congrArg some (by kernel_rfl))⟩,
  f23:=⟨Tryz.f127.name,by decide,Tryz.func127.trans (congrArg some (by kernel_rfl))⟩,
  f24:=⟨Tryz.f128.name,by decide,Tryz.func128.trans (congrArg some (by kernel_rfl))⟩,
  f25:=⟨Tryz.f129.name,by decide,Tryz.func129.trans (congrArg some (by kernel_rfl))⟩,
  f26:=⟨Tryz.f130.name,by decide,Tryz.func130.trans (congrArg some (by kernel_rfl))⟩,
  f27:=⟨Tryz.f131.name,by decide,Tryz.func131.trans (congrArg some (by kernel_rfl))⟩,
  f28:=Tryz.func132.trans (congrArg some (by kernel_rfl)),
  f29:=Tryz.func133.trans (congrArg some (by kernel_rfl)),
  f46:=⟨Tryz.f134.name,by decide,Tryz.func134.trans (congrArg some (by kernel_rfl))⟩,
  f47:=Tryz.func135.trans (congrArg some (by kernel_rfl)),
  f48:=Tryz.func136.trans (congrArg some (by kernel_rfl)),
  f49:=⟨Tryz.f137.name,by decide,Tryz.func137.trans (congrArg some (by kernel_rfl))⟩,
  f50:=⟨Tryz.f138.name,by decide,Tryz.func138.trans (congrArg some (by kernel_rfl))⟩,
  f57:=⟨Tryz.f139.name,by decide,Tryz.func139.trans (congrArg some (by kernel_rfl))⟩,
  t0:=Tryz.underlying0,
  a0:=Tryz.isAgg0,
  z0:=Tryz.sizeOf0,
  v0:=Tryz.zeroValue0,
  t3:=Tryz.underlying3,
  a3:=Tryz.isAgg3,
  z3:=Tryz.sizeOf3,
  v3:=Tryz.zeroValue3,
  t4:=Tryz.underlying4,
  a4:=Tryz.isAgg4,
  z4:=Tryz.sizeOf4,
  v4:=Tryz.zeroValue4,
  t5:=Tryz.underlying5,
  a5:=Tryz.isAgg5,
  z5:=Tryz.sizeOf5,
  v5:=Tryz.zeroValue5,
  t9:=Tryz.underlying9,
  a9:=Tryz.isAgg9,
  z9:=Tryz.sizeOf9,
  v9:=Tryz.zeroValue9,
  t22:=Tryz.underlying22,
  a22:=Tryz.isAgg22,
  z22:=Tryz.sizeOf22,
  v22:=Tryz.zeroValue22,
  t25:=Tryz.underlying87,
  a25:=Tryz.isAgg87,
  z25:=Tryz.sizeOf87,
  v25:=Tryz.zeroValue87,
  t39:=Tryz.underlying123,
  a39:=Tryz.isAgg123,
  z39:=Tryz.sizeOf123,
  v39:=Tryz.zeroValue123,
  t45:=Tryz.underlying150,
  a45:=Tryz.isAgg150,
  z45:=Tryz.sizeOf150,
  v45:=Tryz.zeroValue150,
  t46:=Tryz.underlying151,
  a46:=Tryz.isAgg151,
  z46:=Tryz.sizeOf151,
  v46:=Tryz.zeroValue151,
  t50:=Tryz.underlying155,
  a50:=Tryz.isAgg155,
  z50:=Tryz.sizeOf155,
  v50:=Tryz.zeroValue155,
  t53:=Tryz.underlying59,
  a53:=Tryz.isAgg59,
  z53:=Tryz.sizeOf59,
  v53:=Tryz.zeroValue59,
  t55:=Tryz.underlying91,
  a55:=Tryz.isAgg91,
  z55:=Tryz.sizeOf91,
  v55:=Tryz.zeroValue91,
  t66:=Tryz.underlying159,
  a66:=Tryz.isAgg159,
  z66:=Tryz.sizeOf159,
  v66:=Tryz.zeroValue159,
  t70:=Tryz.underlying163,
  a70:=Tryz.isAgg163,
  z70:=Tryz.sizeOf163,
  v70:=Tryz.zeroValue163,
  t76:=Tryz.underlying165,
  a76:=Tryz.isAgg165,
  z76:=Tryz.sizeOf165,
  v76:=Tryz.zeroValue165,
  t77:=Tryz.underlying166,
  a77:=Tryz.isAgg166,
  z77:=Tryz.sizeOf166,
  v77:=Tryz.zeroValue166}
@[go_sem] abbrev EV (e:Ed):Value:= .agg #[.int .i64 e.1,.int .i64 e.2.1,.int .i64 e.2.2]
def enc(e:Ed):List Value:= [.int .i64 e.1,.int .i64 e.2.1,.int .i64 e.2.2]
def RdE(w:World)(a:Option Addr)(l:List Ed):Prop:=∀i,i<l.length->∃b,a=some b/\b.block<w.heap.size/\w.cell? (b.add (i*3))=some (.int .i64 (el l i).1)/\w.cell? ⟨b.block,(b.add (i*3)).off+1,none⟩=some (.int .i64 (el l i).2.1)/\w.cell? ⟨b.block,(b.add (i*3)).off+2,none⟩=some (.int .i64 (el l i).2.2)
theorem RdE.below{w w':World}{a:Option Addr}{l:List Ed}(h:RdE w a l)(hb:Below w.heap.size w w'):RdE w' a l:=by
 intro i hi;obtain⟨b,e,hl,h0,h1,h2⟩:=h i hi;exact⟨b,e,Nat.lt_of_lt_of_le hl hb.size,(hb.cell (by rw [rZ];exact hl)).trans h0,(hb.cell (p:=⟨b.block,_,none⟩) hl).trans h1,(hb.cell (p:=⟨b.block,_,none⟩) hl).trans h2⟩
def Cc(a b:Ed):Int:=orI (pL a.1 b.1) (pL a.2.1 b.2.1)
theorem Kw(a b:Ed):Cc a b<0↔klt (key a) (key b)=true:=by
 unfold Cc orI pL klt key;simp only [decide_eq_true_eq];split<;>split<;>(try split)<;>omega
theorem Cd(x:Int)(w:World):Calls Tryz.prog 102 #[.int .i64 x] w λe w'=>e= .returned (.bool false)/\w'=w:=by
 go_enter Tryz.func102,Tryz.ntmps102
 go_wp2
 go_ret
 exact⟨by simp,rfl⟩
set_option maxRecDepth 100000 in
theorem vu(x y:Int)(w:World):Calls Tryz.prog 87 #[.int .i64 x,.int .i64 y] w λe w'=>e= .returned (.int .i64 (pL x y))/\w'=w:=by
 go_enter Tryz.func87,Tryz.ntmps87
 go_wp2_with (go_at_call 102;refine(Cd _ _).mono ?_;rintro e w1 ⟨rfl,rfl⟩)
 all_goals go_ret
 .refine⟨by unfold pL;rw [if_pos (by assumption)];rfl,rfl⟩
 .refine⟨by unfold pL;rw [if_neg (by omega),if_pos (by assumption)];rfl,rfl⟩
 .refine⟨by unfold pL;rw [if_neg (by omega),if_neg (by omega)];rfl,rfl⟩
set_option maxRecDepth 100000 in
theorem Ce(x y:Int)(w:World)(g:Nat)(h:w.heap[g]? =some (.cells #[.int .i64 x,.int .i64 y] 3 (0,0))):
  Calls Tryz.prog 86 #[.slice (some ⟨g,0,none⟩) 2 2] w λe w'=>e= .returned (.int .i64 (orI x y))/\w'=w:=by
 have c0:w.cell? ⟨g,0,none⟩=some (.int .i64 x):=by simp [World.cell?,h]
 have c1:w.cell? ⟨g,1,none⟩=some (.int .i64 y):=by simp [World.cell?,h]
 have kg:Has w g:=(Array.getElem?_eq_some_iff.1 h).1
 go_enter Tryz.func86,Tryz.ntmps86
 by_cases hx:x=0
 .subst hx;by_cases hy:y=0
  .subst hy
   go_wp2
   refine wp_loop_rounds 3 ?_;rw [rounds_succ];go_wp2;rw [rounds_succ];go_wp2;rw [rounds_succ];go_wp2
   go_ret
   exact⟨by simp [orI],rfl⟩
  .go_wp2
   refine wp_loop_rounds 2 ?_;rw [rounds_succ];go_wp2;rw [rounds_succ];go_wp2
   go_ret
   exact⟨by simp [orI],rfl⟩
 .go_wp2
  refine wp_loop_rounds 1 ?_;rw [rounds_succ];go_wp2
  go_ret
  exact⟨by simp [orI,hx],rfl⟩
theorem Cf(x y:Int)(V:World)(g:Nat)(hg:g=V.heap.size):
  Calls Tryz.prog 86 #[.slice (some ⟨g,0,none⟩) 2 2] (V.alloc (.cells #[.int .i64 x,.int .i64 y] 3 (0,0))) λe w'=>e= .returned (.int .i64 (orI x y))/\w'=(V.alloc (.cells #[.int .i64 x,.int .i64 y] 3 (0,0))):=by
 subst hg;exact Ce x y _ _ (World.alloc_heap_new V _)
theorem Qc(w:World)(n:Nat)(a b c:Obj):∃q os',(((w.alloc a).alloc b).drewN n).alloc c=grow (w.drewN q) os':=⟨n,#[a]++(#[b]++ #[c]),by
 rw [alloc_eq_grow _ c,alloc_eq_grow _ b,alloc_eq_grow _ a];show grow (grow (grow (w.drewN n) #[a]) #[b]) #[c]=_
 rw [Go.Sort.grow_grow,Go.Sort.grow_grow]⟩
attribute [local irreducible] pL orI in
set_option maxRecDepth 100000 in
theorem Fu(a b:Ed)(w:World):Calls Tryz.prog 56 #[EV a,EV b] w λe w'=>e= .returned (.int .i64 (Cc a b))/\∃q os',w'=grow (w.drewN q) os':=by
 go_enter Tryz.func56,Tryz.ntmps56
 go_wp2_with fail
 refine gl (C:=λw'=>∃n,w'=World.drewN _ n) 10 (by kernel_rfl) (by kernel_rfl) ⟨1,rfl⟩ ?_;simp only [List.take_succ_cons,List.take_zero,List.drop_succ_cons,List.drop_zero]
 repeat (go_big_quiet_step (first|(go_at_call 87;exact(vu _ _ _).mono λ_ _ ⟨he,hw⟩=>⟨he,_,hw⟩)))
 refine wpQuiet_nil ?_;rintro _ ⟨n,rfl⟩
 go_wp2_with fail
 refine(Cf (pL a.1 b.1) (pL a.2.1 b.2.1) _ _ (by simp [go_sem])).mono ?_;rintro e w1 ⟨rfl,rfl⟩
 go_wp2
 go_ret
 exact⟨rfl,Qc _ _ _ _ _⟩
def cellsE(l:List Ed):List Value:=l.flatMap enc
theorem jU(e:Ed)(l:List Ed):cellsE (e::l)=enc e++cellsE l:=rfl
theorem Cg(l m:List Ed):cellsE (l++m)=cellsE l++cellsE m:=by simp [cellsE]
theorem cellsE_len(l:List Ed):(cellsE l).length=l.length*3:=by
 induction l with
 |nil=>rfl
 |cons e l ih=>rw [jU,List.length_append,ih];simp [enc];omega
theorem cellsE_at:∀(l:List Ed) (i k:Nat),i<l.length->k<3->(cellsE l)[i*3+k]? =(enc (el l i))[k]?
 | [],i,k,h,_=>by simp at h
 |e::l,0,k,h,hk=>by
  rw [jU,List.getElem?_append_left (by simp [enc];omega)];simp [el]
 |e::l,i+1,k,h,hk=>by
  rw [jU,List.getElem?_append_right (by simp [enc];omega)]
  have:(i+1)*3+k - (enc e).length=i*3+k:=by simp [enc];omega
  rw [this,cellsE_at l i k (by simpa using h) hk];simp [el]
theorem Ch(l:List Ed):∀u∈cellsE l,u.oneCell'=true:=by
 intro u hu;obtain⟨e,_,he⟩:=List.mem_flatMap.1 hu;simp [enc]at he;rcases he with rfl|rfl|rfl<;>rfl
theorem rdE_cells{w:World}{g:Nat}{l:List Ed}(hg:g<w.heap.size)(hc:∀i,i<l.length->∀k,k<3->w.cell? ⟨g,i*3+k,none⟩=(enc (el l i))[k]?):RdE w (some ⟨g,0,none⟩) l:=by
 intro i hi;have e:(⟨g,0,none⟩:Addr).add (i*3)=⟨g,i*3,none⟩:=Qa _ _;refine⟨⟨g,0,none⟩,rfl,hg,?_,?_,?_⟩
 .rw [e];simpa [enc]using hc i hi 0 (by omega)
 .rw [e];simpa [enc]using hc i hi 1 (by omega)
 .rw [e];simpa [enc]using hc i hi 2 (by omega)
theorem row_rdE{w:World}{base n:Nat}{v:Value}{l:List Ed}(h:w.ownsRow base 52 3 v n (cellsE l)):n=l.length/\∃a c,v= .slice a n c/\n<=c/\RdE w a l/\(a=none->c=0/\n=0):=by
 have hn:n=l.length:=by have:=h.1;rw [cellsE_len]at this;omega
 refine⟨hn,?_⟩;rcases h.2 with⟨rfl,h0⟩|⟨g,cap,cur,rfl,hb,hg,hcap,_⟩
 .obtain rfl:n=0:=h0;exact⟨none,0,rfl,by omega,λi hi=>by omega,λ_=>⟨rfl,rfl⟩⟩
 .refine⟨some ⟨g,0,none⟩,cap,rfl,hcap,?_,by simp⟩;refine rdE_cells (Array.getElem?_eq_some_iff.1 hg).1 (λi hi k hk=> ?_);rw [h.cellAt (i*3+k) (by omega),cellsE_at l i k hi hk]
theorem DY(l:List Ed)(i k:Nat)(h:i<l.length)(hk:k<3):some (flatK enc 3 l.toArray)[i*3+k]! =(enc (el l i))[k]? :=by
 rw [get_flatK _ _ _ _ (by simp;omega),show(i*3+k)/ 3=i by omega,show(i*3+k)% 3=k by omega,Cb l i h]
 have:k<(enc (el l i)).length:=by simp [enc];omega
 rw [getElem!_pos (enc (el l i)) k this,List.getElem?_eq_getElem this]
theorem ro{w:World}{g n:Nat}{os:Array Obj}(F:Array Value):w.grownBy (grow (putRow id (Sort.ahead w n) g 0 F) os) (some g):=by
 refine⟨rfl,rfl,rfl,by simp,λk hk hne=> ?_⟩;rw [heap_grow_old _ _ (by simpa using hk)]
 have:g≠k:=λe=>hne (by rw [e])
 simp [putRow,mapBlock,Sort.ahead,Array.getElem?_modify,this]
def bl(a b:Ed):Bool:=klt (key a) (key b)
theorem DZ:ltOf Cc=bl:=by
 funext a b;unfold ltOf bl
 have:=Kw a b
 cases h:klt (key a) (key b)<;>rw [h]at this<;>simp at this ⊢<;>exact this
theorem On:SWO bl where
 irrefl x:=by simp [bl,klt]
 trans x y z h1 h2:=by simp [bl,klt]at*;omega
 ntrans x y z h1 h2:=by simp [bl,klt]at*;omega
theorem zO{l:List Ed}(h:SortedIn bl 0 l.length l.toArray):l.Pairwise (λa b=>bl b a=false):=by
 rw [List.pairwise_iff_getElem];intro i j hi hj hij
 have:=h i j (by omega) hij hj
 rw [Cb l i hi,Cb l j hj]at this;simpa [el,List.getD_eq_getElem?_getD,hi,hj]using this
set_option maxHeartbeats 1000000 in
theorem Fv(g c:Nat)(l:List Ed)(w:World)(hg:g<w.heap.size)(hc:∀i,i<l.length->∀k,k<3->w.cell? ⟨g,i*3+k,none⟩=(enc (el l i))[k]?)(hf:∀j,w.frozen? ⟨g,j,none⟩=false)(hl:l.length<4611686018427387904):
  Calls Tryz.prog 113 #[.slice (some ⟨g,0,none⟩) l.length c,.func (.func 56) #[] #[]] w λe w'=>e= .returned (.tuple #[])/\∃l':List Ed,l'.Perm l/\l'.Pairwise (λa b=>bl b a=false)/\RdE w' (some ⟨g,0,none⟩) l'/\w.grownBy w' (some g):=by
 have eg:∀args w,(callFunc 56 args).run Tryz.prog w= .ok (.enter 56 args) w:=enters_of Tryz.func56 (by kernel_rfl) rfl;have hcmp:CmpLays Tryz.prog 56 #[] enc 3 Cc g 0 l.toArray.size w:=λm os dk _ x y=>Fu x y _
 have hH:HoldsK enc 3 w g 0 l.toArray:=by
  intro j hj;have hj':j<l.length*3:=by simpa using hj
  refine⟨?_,hf _⟩
  have:=hc (j / 3) (by omega) (j % 3) (by omega)
  rw [Nat.zero_add,show j=j / 3*3+j % 3 by omega,this,<-DY l _ _ (by omega) (by omega)];rfl
 have hO:SWO (ltOf Cc):=by rw [DZ];exact On
 have hcon:=AnyQ.slices_SortFunc Qb 3 Tryz.isAgg52 Tryz.sizeOf52 enc (λ_=>rfl) (λx v hv=>by simp [enc]at hv;rcases hv with rfl|rfl|rfl<;>rfl) Cc hO 56 #[] g 0 c l.toArray w eg hcmp hH hg (by simpa using hl);refine hcon.mono ?_;rintro e w' ⟨rfl,d',n,os,hp,hs,rfl⟩;obtain⟨l',rfl⟩:∃l':List Ed,d'=l'.toArray:=⟨d'.toList,by simp⟩;have hsz:l'.length=l.length:=by simpa using hp.1
 refine⟨rfl,l',?_,?_,?_,?_⟩
 .have:=hp.2.2
  rw [show l.toArray.size=l'.toArray.size by simpa using hsz.symm]at this;rw [Array.extract_size]at this;have h2:=hp.2.2;rw [show l.toArray.size=l'.toArray.size by simpa using hsz.symm]at h2;rw [Array.extract_size]at h2;refine h2.trans ?_;rw [show l'.toArray.size=l.toArray.size by simpa using hsz,Array.extract_size]
 .rw [DZ]at hs;exact zO (by rw [hsz];simpa using hs)
 .refine rdE_cells ?_ (λi hi k hk=> ?_)
  .simp [sortWorldK,putRowK];omega
  .have hH2:=holds_putRow id (Sort.ahead w n) g 0 _ (flatK enc 3 l'.toArray) (show Holds id (Sort.ahead w n) g 0 (flatK enc 3 l.toArray)from hH) (by simp [hsz]) (i*3+k) (by simp;omega);rw [Nat.zero_add]at hH2;unfold sortWorldK;rw [cell?_grow _ _ _ (by simpa [putRowK]using hg)];exact hH2.1.trans (DY l' i k hi hk)
 .exact ro _
theorem Me:(Tryz.prog.info? 52).map (λi=>(i.zero,i.size,i.bytes))=some (some (.agg #[.int .i64 0,.int .i64 0,.int .i64 0]),3,24):=by kernel_rfl
theorem qM{P:Program}{e:TypeId}{z:Value}{s b:Nat}(h:(P.info? e).map (λi=>(i.zero,i.size,i.bytes))=some (some z,s,b)):∃i,P.info? e=some i/\i.zero=some z/\i.size=s/\i.bytes=b:=by
 obtain⟨i,hi,he⟩:=Option.map_eq_some_iff.1 h;simp at he;exact⟨i,hi,he.1,he.2.1,he.2.2⟩
theorem Hi{w:World}{b:Addr}{M:List Ed}(hr:RdE w (some b) M):∀j u,(cellsE M)[j]? =some u->w.cell? (b.add j)=some u:=by
 intro j u hj;have hj':j<M.length*3:=by have:=(List.getElem?_eq_some_iff.1 hj).1;rwa [cellsE_len]at this
 have hc:=cellsE_at M (j / 3) (j % 3) (by omega) (by omega);rw [show j / 3*3+j % 3=j by omega,hj]at hc;obtain⟨b',hb',_,h0,h1,h2⟩:=hr (j / 3) (by omega);cases hb';have h3:j % 3=0∨j % 3=1∨j % 3=2:=by omega
 rcases h3 with h3|h3|h3
 .rw [h3]at hc;simp [enc]at hc;rw [hc,show j=j / 3*3 by omega];rw [show(j / 3*3)/ 3=j / 3 by omega];exact h0
 .rw [h3]at hc;simp [enc]at hc;rw [hc]
  have e:b.add j=⟨b.block,(b.add (j / 3*3)).off+1,none⟩:=by
   rw [show j=j / 3*3+1 by omega,fk];rw [show(j / 3*3+1)/ 3=j / 3 by omega]
  rw [e];exact h1
 .rw [h3]at hc;simp [enc]at hc;rw [hc]
  have e:b.add j=⟨b.block,(b.add (j / 3*3)).off+2,none⟩:=by
   rw [show j=j / 3*3+1+1 by omega,fk,fk];rw [show(j / 3*3+1+1)/ 3=j / 3 by omega]
  rw [e];exact h2
theorem il{w:World}{ops:Array Oper}{rest:List Oper}{o:Oper}{a:Act}{Q:Exit->Act->World->Prop}(hgd:o.guard=none)(s x:Operand)
  (ho:o.op= .call {callee:= .builtin .append,args:=#[s,x],argTypes:=#[22,22]}) (base:Nat) (v:Value) (n:Nat) (L:List Ed) (hs:a.eval s=v) (hown:w.ownsRow base 52 3 v n (cellsE L))
  (ad:Option Addr) (m c:Nat) (M:List Ed) (hx:a.eval x= .slice ad m c) (hm:m=M.length) (hr:RdE w ad M) (hz:ad=none->c=0/\m=0) (hnm:n+m<=100000) (hbase:base<=w.heap.size)
  (h:∀v' w',w'.ownsRow base 52 3 v' (n+m) (cellsE (L++M))->w.grownBy w' v.ownBlock->(v'.ownBlock=v.ownBlock∨v'.ownBlock=some w.heap.size)->wpList Tryz.prog ops Q rest (a.put o.dst v') w'):wpList Tryz.prog ops Q (o::rest) a w:=by
 obtain⟨i0,hi0,hz0,hz1,hz2⟩:=qM Me;subst hm
 match ad,hr,hz,hx with
 |none,hr,hz,hx=>
  obtain⟨rfl,h0⟩:=hz rfl;obtain rfl:M= []:=List.eq_nil_of_length_eq_zero h0;refine wpList_append_own_none hgd s x 22 ho base 52 i0 3 Tryz.underlying22 hi0 v n _ hs hown hx (h v w ?_ ⟨rfl,rfl,rfl,Nat.le_refl _,λ_ _ _=>rfl⟩ (.inl rfl));simpa using hown
 |some b,hr,hz,hx=>
  have hnews:=Hi hr
  exact wpList_append_own_at w hgd s x 22 ho base 52 i0 (.agg #[.int .i64 0,.int .i64 0,.int .i64 0]) 3 24 Tryz.underlying22 hi0 hz0 hz1 hz2 rfl (by decide) v n (cellsE L) hs hown b M.length c (cellsE M) hx (cellsE_len M) hnews (Ch M) (by unfold maxLen;omega) (by omega) hbase
   λv' w' hown' hg _ hat=>h v' w' (by rw [Cg];exact hown') hg hat
theorem wE{W w':World}{base:Nat}{v:Value}(hg:W.grownBy w' v.ownBlock)(hv:∀k,v.ownBlock=some k->base<=k)(hb:base<=W.heap.size):Below base W w':=
 ⟨hg.os,hg.tape,hg.output,hg.size,λk hk=>hg.block k (by omega) (λe=>by have:=hv k e.symm;omega)⟩
def Out(base:Nat)(w:World)(a:Option Addr)(c:Nat)(l:List Ed):Prop:=RdE w a l/\(a=none->c=0/\l.length=0)/\l.length<=c/\∀b,a=some b->base<=b.block
theorem Kx(base:Nat)(w:World):Out base w none 0 []:=⟨λi hi=>by simp at hi,λ_=>⟨rfl,rfl⟩,by simp,by simp⟩
theorem Hj{w:World}{base n k s:Nat}{e:TypeId}{v:Value}{xs:List Value}(h:w.ownsRow base e s v n xs)(hk:v.ownBlock=some k):∃cap,v= .slice (some ⟨k,0,none⟩) n cap:=by
 rcases h.2 with⟨rfl,_⟩|⟨g,cap,cur,rfl,_⟩
 .cases hk
 .cases hk;exact⟨cap,rfl⟩
theorem zP{w:World}{base base' n:Nat}{e:TypeId}{v:Value}{s:Nat}{xs:List Value}(h:w.ownsRow base e s v n xs)(hb:base'<=base):w.ownsRow base' e s v n xs:=by
 refine⟨h.1,?_⟩;rcases h.2 with h2|⟨g,cap,cur,h1,h2,h3⟩
 .exact .inl h2
 .exact .inr ⟨g,cap,cur,h1,Nat.le_trans hb h2,h3⟩
theorem Kz(W:World)(x y z:Int):RdE (W.alloc (.cells #[.int .i64 x,.int .i64 y,.int .i64 z] 52)) (some ⟨W.heap.size,0,none⟩) [(x,y,z)]:=by
 have h:CellsAt (W.alloc (.cells #[.int .i64 x,.int .i64 y,.int .i64 z] 52)) W.heap.size 52 #[.int .i64 x,.int .i64 y,.int .i64 z]:=World.alloc_heap_new W _;refine rdE_cells h.lt (λi hi k hk=> ?_);obtain rfl:i=0:=by simpa using hi
 rw [h.cell];have h3:k=0∨k=1∨k=2:=by omega
 rcases h3 with rfl|rfl|rfl<;>rfl
end Eg
end Sm
end
noncomputable section
open Go.RowKit Go.Sort Go.WideMaps
namespace Sm
def kl(k:Int×Int):Lit:= .string (keyBytes [.int .i64 k.1,.int .i64 k.2])
abbrev KV(k:Int×Int):Value:= .agg #[.int .i64 k.1,.int .i64 k.2]
def In2(k:Int×Int):Prop:=pK k.1/\pK k.2
theorem Hk{x:Int}(h:pK x):(Lit.int .i64 x).wf=true:=by
 obtain⟨h1,h2⟩:=h;simp [Lit.wf,IntKind.min,IntKind.max,IntKind.signed,IntKind.bits];omega
theorem Ea{x:Int}(h:(Lit.int .i64 x).wf=true):pK x:=by
 simp [Lit.wf,IntKind.min,IntKind.max,IntKind.signed,IntKind.bits]at h;exact⟨by omega,by omega⟩
theorem arrK:ArrKey Tryz.prog 40 3 2:=⟨Tryz.underlying40,by kernel_rfl,by kernel_rfl,by kernel_rfl⟩
theorem keyedK:Maps.Keyed Tryz.prog 40:=Maps.Keyed.of_law arrK.law
theorem pM:∃m,Tryz.prog.types.size=m+1:=by
 have:0<Tryz.prog.types.size:=of_decide_eq_true (by kernel_rfl)
 exact⟨Tryz.prog.types.size - 1,by omega⟩
theorem Hl(x y:Int)(hx:pK x)(hy:pK y):Tryz.prog.keyLits (Tryz.prog.types.size+1) 40 [.int .i64 x,.int .i64 y]=some [.int .i64 x,.int .i64 y]:=by
 obtain⟨m,hm⟩:=pM;rw [hm];have c1:Tryz.prog.cellsOf 3=1:=by kernel_rfl
 simp [Program.keyLits,Tryz.underlying40,Tryz.underlying3,arrK.size,c1,List.range_succ,Hk hx,Hk hy]
theorem sI(k:Int×Int)(h:In2 k):keyOf Tryz.prog 40 (KV k)=some (kl k):=by
 have h1:Tryz.prog.keyType 40=true:=arrK.keyType pM;have h2:(KV k).formed Tryz.prog 40=true:=by simp [Value.formed,Tryz.underlying40,arrK.size]
 unfold keyOf;simp only [Tryz.underlying40,h1,h2,Value.cells,Hl k.1 k.2 h.1 h.2,Bool.and_self,if_true,Option.map_some];rfl
theorem sJ{v:Value}{l:Lit}(h:keyOf Tryz.prog 40 v=some l):∃k,v=KV k/\In2 k/\l=kl k:=by
 have h0:=h;unfold keyOf at h;simp only [Tryz.underlying40]at h;split at h
 .rename_i hf;simp only [Bool.and_eq_true]at hf;obtain⟨ls,hls,rfl⟩:=Option.map_eq_some_iff.1 h
  cases v with
  |agg cs=>
   have hsz:cs.size=2:=by
    have:=hf.2
    simpa [Value.formed,Tryz.underlying40,arrK.size]using this
   obtain⟨m,hm⟩:=pM;rw [hm]at hls
   obtain⟨a,b,rfl⟩:∃a b,cs=#[a,b]:=by
    obtain⟨l⟩:=cs;rcases l with _|⟨a,_|⟨b,_|⟨d,l⟩⟩⟩
    .simp at hsz
    .simp at hsz
    .exact⟨a,b,rfl⟩
    .simp at hsz
   have c1:Tryz.prog.cellsOf 3=1:=by kernel_rfl
   simp [Program.keyLits,Tryz.underlying40,Tryz.underlying3,arrK.size,c1,List.range_succ,Value.cells]at hls
   cases a with
   |int q n=>
    by_cases hq:q=IntKind.i64/\(Lit.int IntKind.i64 n).wf=true
    .obtain⟨rfl,hw⟩:=hq
     cases b with
     |int q2 n2=>
      by_cases hq2:q2=IntKind.i64/\(Lit.int IntKind.i64 n2).wf=true
      .obtain⟨rfl,hw2⟩:=hq2;simp [hw,hw2]at hls;subst hls;exact⟨(n,n2),rfl,⟨Ea hw,Ea hw2⟩,rfl⟩
      .simp [hw,hq2]at hls
     |_=>simp [hw]at hls
    .simp [hq]at hls
   |_=>simp at hls
  |_=>simp [Value.formed,Tryz.underlying40]at hf
 .cases h
theorem Hm{a b:Int×Int}(ha:In2 a)(hb:In2 b)(h:kl a=kl b):a=b:=by
 have h1:=sI a ha;have h2:=sI b hb;rw [h]at h1
 have:=keyedK.inj h1 h2
 simp at this;exact Prod.ext this.1 this.2
abbrev KW:=(Int×Int)->Option V
def RW(v:Value):Option (DataW Unit×List MemPlace):=
 match v with
 | .agg cs=>match cs.toList with
  | [.int .i64 h,.int .u64 l]=>some (.agg [.lit (.int .i64 h),.lit (.int .u64 l)],[])
  |_=>none
 |_=>none
def dW(z:V):DataW Unit:= .agg [.lit (.int .i64 z.1),.lit (.int .u64 z.2)]
theorem Qd(z:V):RW (WV z)=some (dW z,[]):=rfl
theorem Ci{v:Value}{y:DataW Unit×List MemPlace}(h:RW v=some y):∃c:Int×Int,v= .agg #[.int .i64 c.1,.int .u64 c.2]/\y=(.agg [.lit (.int .i64 c.1),.lit (.int .u64 c.2)],[]):=by
 unfold RW at h;split at h
 .rename_i cs;obtain⟨cs⟩:=cs;split at h
  .rename_i h2;cases h;simp at h2;subst h2;exact⟨(_,_),rfl,rfl⟩
  .cases h
 .cases h
theorem sK{v:Value}{ps:List MemPlace}{z:V}(h:RW v=some (dW z,ps)):v=WV z:=by
 obtain⟨c,rfl,hc⟩:=Ci h;simp [dW]at hc;simp [hc.1.1,hc.1.2]
def FitF(D:DataW Unit)(f:KW):Prop:=∀k,In2 k->(Maps.has D (kl k)=(f k).isSome)/\(∀z,f k=some z->∀zd,D.atKey (kl k) zd=dW z)
def MapF(w:World)(b n:Nat)(f:KW):Prop:=∃D,w.ownsMap Tryz.prog 40 RW b n D/\FitF D f
def rp(f:KW)(k:Int×Int)(z:V):KW:=λk'=>if k'=k then some z else f k'
theorem MapF.lt{w:World}{b n:Nat}{f:KW}(h:MapF w b n f):b<w.heap.size:=by obtain⟨D,h,_⟩:=h;exact h.lt
theorem MapF.kept{w w':World}{b n:Nat}{f:KW}{row:Option Nat}(h:MapF w b n f)(hg:w.grownBy w' row)(hne:some b≠row):MapF w' b n f:=by
 obtain⟨D,h,hF⟩:=h;exact⟨D,h.kept hg hne,hF⟩
theorem MapF.new(w:World):MapF (w.alloc (.map #[] 0)) w.heap.size 0 (λ_=>none):=
 ⟨_,World.ownsMap_made w _ _ _,λk hk=>⟨rfl,λz hz=>by cases hz⟩⟩
theorem yd{k:Int×Int}(h:In2 k):WideAt.IsKeyLit (kl k):=keyedK.key (sI k h)
theorem FitF.put{D:DataW Unit}{f:KW}(hm:Maps.IsMap D)(h:FitF D f){k:Int×Int}(hk:In2 k)(z:V):FitF (D.put (kl k) (dW z)) (rp f k z):=by
 intro k' hk';by_cases e:k'=k
 .subst e;refine⟨by rw [Maps.has_put_same hm (yd hk)];simp [rp],λz' hz' zd=> ?_⟩;simp [rp]at hz';rw [Maps.atKey_put_same hm (yd hk),hz']
 .have hne:kl k'≠kl k:=λh=>e (Hm hk' hk h);refine⟨by rw [Maps.has_put_other hne];simp [rp,e,(h k' hk').1],λz' hz' zd=> ?_⟩;simp [rp,e]at hz';rw [Maps.atKey_put_other hne,(h k' hk').2 z' hz']
section
variable (w : World) {ops : Array Oper} {rest : List Oper} {o : Oper} {a : Act} {Q : Exit → Act → World → Prop}
theorem sL(hg:o.guard=none)(m x:Operand)(hop:o.op=Op.lookup 143 m x true)(b n:Nat)(f:KW)(k:Int×Int)
  (hm:a.eval m= .map (some b)) (hown:MapF w b n f) (hx:a.eval x=KV k) (hk:In2 k)
  (h0:f k=none->wpList Tryz.prog ops Q rest (a.put o.dst (.tuple #[.agg #[.int .i64 0,.int .u64 0],.bool false])) w)
  (h1:∀z,f k=some z->wpList Tryz.prog ops Q rest (a.put o.dst (.tuple #[WV z,.bool true])) w):
  wpList Tryz.prog ops Q (o::rest) a w:=by
 obtain⟨D,hown,hF⟩:=hown;refine wpList_lookup_own_ok w hg m x _ hop 40 115 keyedK Tryz.underlying143 RW (z:=WV (0,0)) ?_ (dW (0,0)) [] (Qd (0,0)) b n D hm hown (KV k) (kl k) hx (sI k hk) ?_
 .exact Tryz.zeroValue115 w
 .intro v ps hv
  cases hf:f k with
  |none=>
   have:=(hF k hk).1
   rw [hf]at this;have ha:=Maps.atKey_of_not_has (D:=D) (k:=kl k) (by simpa using this) (dW (0,0));rw [ha]at hv;rw [sK hv,this];exact h0 hf
  |some z=>
   have:=(hF k hk).1
   rw [hf]at this;rw [(hF k hk).2 z hf]at hv;rw [sK hv,this];exact h1 z hf
theorem jV(hg:o.guard=none)(m x v:Operand)(hop:o.op=Op.mapUpdate 143 m x v)(b n:Nat)(f:KW)(k:Int×Int)(z:V)(hn:n<maxLen)
  (hm:a.eval m= .map (some b)) (hown:MapF w b n f) (hx:a.eval x=KV k) (hv:a.eval v=WV z) (hk:In2 k)
  (hK:∀w',MapF w' b (n+1) (rp f k z)->w.grownBy w' (some b)->wpList Tryz.prog ops Q rest (a.put o.dst undef) w'):
  wpList Tryz.prog ops Q (o::rest) a w:=by
 obtain⟨D,hown,hF⟩:=hown;refine wpList_mapUpdate_in w hg m x v _ hop 40 115 keyedK Tryz.underlying143 RW b n D hm hown hn (KV k) (WV z) (kl k) hx hv (sI k hk) (dW z) [] (Qd z) ?_;intro w' hown' ht;exact hK w' ⟨_,hown',hF.put hown.isMap hk z⟩ ht.grown
theorem zQ(hg:o.guard=none)(m:Operand)(hop:o.op=Op.call {callee:=Callee.builtin Builtin.len,args:=#[m],argTypes:=#[143]})(b n:Nat)(f:KW)(hm:a.eval m= .map (some b))(hown:MapF w b n f)
  (hK:∀k:Nat,k<=n->wpList Tryz.prog ops Q rest (a.put o.dst (.int .i64 k)) w):wpList Tryz.prog ops Q (o::rest) a w:=by
 obtain⟨D,hown,hF⟩:=hown;exact wpList_len_own w hg m _ hop 40 115 Tryz.underlying143 RW b n D hm hown (hK _ hown.size_le)
def RangF(w:World)(b r n:Nat)(f:KW)(done:List ((Int×Int)×V)):Prop:=
 ∃D left cnt,w.ranges Tryz.prog 40 RW b r n D left cnt/\FitF D f/\(∀k,In2 k->(left (kl k)=true↔(f k).isSome=true/\k ∉ done.map (·.1)))/\(done.map (·.1)).Nodup/\(∀p∈done,In2 p.1/\f p.1=some p.2)/\done.length+cnt<=n
theorem RangF.kept{w w':World}{b r n:Nat}{f:KW}{done:List ((Int×Int)×V)}{row:Option Nat}(h:RangF w b r n f done)(hg:w.grownBy w' row)(hb:some b≠row)(hr:some r≠row):RangF w' b r n f done:=by
 obtain⟨D,left,cnt,h,h2⟩:=h;exact⟨D,left,cnt,h.kept hg hb hr,h2⟩
theorem RangF.left{w w':World}{b r n:Nat}{f:KW}{done:List ((Int×Int)×V)}{row:Option Nat}(h:RangF w b r n f done)(hg:w.grownBy w' row)(hb:some b≠row)(hr:some r≠row):w'.rangeLeft b r=w.rangeLeft b r:=by
 obtain⟨D,left,cnt,h,h2⟩:=h;rw [(h.kept hg hb hr).left_eq,h.left_eq]
theorem RangF.facts{w:World}{b r n:Nat}{f:KW}{done:List ((Int×Int)×V)}(h:RangF w b r n f done):(done.map (·.1)).Nodup/\(∀p∈done,In2 p.1/\f p.1=some p.2)/\done.length<=n:=by
 obtain⟨D,left,cnt,h,_,_,h2,h3,h4⟩:=h;exact⟨h2,h3,by omega⟩
theorem RangF.lt{w:World}{b r n:Nat}{f:KW}{done:List ((Int×Int)×V)}(h:RangF w b r n f done):r<w.heap.size/\b<w.heap.size:=by
 obtain⟨D,left,cnt,h,h2⟩:=h;exact⟨h.lt,h.owns.lt⟩
theorem vw(hg:o.guard=none)(m:Operand)(hop:o.op=Op.range 143 m)(b n:Nat)(f:KW)(hm:a.eval m= .map (some b))(hown:MapF w b n f)
  (hK:∀w',RangF w' b w.heap.size n f []->w.grownBy w' none->w'.heap.size=w.heap.size+1->wpList Tryz.prog ops Q rest (a.put o.dst (.pointer (some ⟨w.heap.size,0,none⟩))) w'):
  wpList Tryz.prog ops Q (o::rest) a w:=by
 obtain⟨D,hown,hF⟩:=hown;refine wpList_range_own w hg m _ hop 40 115 keyedK Tryz.underlying143 RW b n D hm hown ?_;intro w' hr hgr hs;refine hK w' ⟨D,_,_,hr,hF,λk hk=> ?_,by simp,by simp,by simpa using hown.size_le⟩ hgr hs;rw [(hF k hk).1];simp
theorem ye(hg:o.guard=none)(it:Operand)(hop:o.op=Op.next it false)(b r n:Nat)(f:KW)(done:List ((Int×Int)×V))(hit:a.eval it= .pointer (some ⟨r,0,none⟩))(h:RangF w b r n f done)
  (hDone:(∀k,In2 k->∀z,f k=some z->(k,z)∈done)->wpList Tryz.prog ops Q rest (a.put o.dst (.tuple #[.bool false])) w)
  (hMore:∀(k:Int×Int) (z:V) (w':World),RangF w' b r n f (done++ [(k,z)])->w'.rangeLeft b r<w.rangeLeft b r->w.grownBy w' (some r)->w'.heap.size=w.heap.size->(Instr.entry (.pointer (some ⟨r,0,none⟩))).run Tryz.prog w'= .ok (.tuple #[KV k,WV z]) w'->wpList Tryz.prog ops Q rest (a.put o.dst (.tuple #[.bool true,KV k,WV z])) w'):
  wpList Tryz.prog ops Q (o::rest) a w:=by
 obtain⟨D,left,cnt,hr,hF,hl,hnd,hdn,hcn⟩:=h;refine wpList_next_ranges w hg it hop 40 keyedK RW KV (λc:Int×Int=> .agg #[.int .i64 c.1,.int .u64 c.2]) (λkey l hkey=>by obtain⟨k,e,_⟩:=sJ hkey;exact⟨k,e⟩) (λv y hv=>by obtain⟨c,e,_⟩:=Ci hv;exact⟨c,e⟩) b r n D left cnt hit hr ?_ ?_
 .intro _ hno;refine hDone λk hk z hz=> ?_;have h1:=hl k hk;rw [hno]at h1
  have h2:k∈done.map (·.1):=Decidable.byContradiction λhn=>by
   have:=h1.2 ⟨by rw [hz];rfl,hn⟩
   cases this
  obtain⟨p,hp,rfl⟩:=List.mem_map.1 h2;have h3:=(hdn p hp).2;rw [hz]at h3;cases h3;exact hp
 .intro k c l y w' cnt' hkey hlk hy hat hrg hlt hgr hsz hen;obtain⟨k',e1,hk,rfl⟩:=sJ hkey;obtain rfl:k=k':=by simp at e1;exact Prod.ext e1.1 e1.2
  have hk1:=(hl k hk).1 hlk;obtain⟨z,hz⟩:=Option.isSome_iff_exists.1 hk1.1;have h4:=(hF k hk).2 z hz (dW z);rw [hat]at h4;obtain⟨c',e2,e3⟩:=Ci hy;have e4:(.agg #[.int .i64 c.1,.int .u64 c.2]:Value)=WV z:=sK (ps:=y.2) (by rw [hy,<-h4]);rw [e4]at hen ⊢;refine hMore k z w' ⟨D,_,cnt',hrg,hF,λk' hk'=> ?_,?_,?_,by simp;omega⟩ (by rw [hrg.left_eq,hr.left_eq];exact hlt) hgr hsz hen
  .by_cases e:k'=k
   .subst e;rw [WideAt.sameKey_self (yd hk)];simp
   .rw [Maps.sameKey_ne (λh=>e (Hm hk' hk h))]
    have:=hl k' hk'
    simp [e]at this ⊢;exact this
  .rw [List.map_append,List.nodup_append];refine⟨hnd,by simp,?_⟩;intro x hx y hy e;simp at hy;subst hy;subst e;exact hk1.2 hx
  .intro p hp;rcases List.mem_append.1 hp with hp|hp
   .exact hdn p hp
   .simp at hp;subst hp;exact⟨hk,hz⟩
end
theorem MapF.alloc{w:World}{b n:Nat}{f:KW}(h:MapF w b n f)(o:Obj):MapF (w.alloc o) b n f:=h.kept (World.grownBy_alloc w o none) (by simp)
theorem Hn{R:Rg}{f:KW}{e:Ed}(h:f (key e)=none):upd R f e=rp f (key e) (R.o e.2.2):=by
 funext k;simp [upd,rp,h]
theorem Ho{R:Rg}{f:KW}{e:Ed}{s:V}(h:f (key e)=some s):upd R f e=rp f (key e) (R.ad s (R.o e.2.2)):=by
 funext k;simp [upd,rp,h]
end Sm
end
noncomputable section
open Go.RowKit Go.Sort
namespace Sm
namespace Eg
def InE(e:Ed):Prop:=pK e.1/\pK e.2.1/\pK e.2.2
theorem Hp(V:World)(n:Nat):(Instr.makeMap 143 (some (.int .i64 n))).run Tryz.prog V= .ok (.map (some V.heap.size)) (V.alloc (.map #[] 0)):=by
 simp [Instr.makeMap,run_underlying Tryz.underlying143,Go.asInt,asIntOf,Result.andThen]
set_option maxRecDepth 100000 in
set_option maxHeartbeats 4000000 in
theorem Oo(r:Int)(R:Rg)(a:Option Addr)(l:List Ed)(c:Nat)(w:World)(hIs:∀W,Below w.heap.size w W->Calls Tryz.prog 108 #[.int .i64 r] W λe w'=>e= .returned (.bool true)/\Below W.heap.size W w')(hO:∀W,Below w.heap.size w W->Calls Tryz.prog 26 #[.slice a l.length c] W λe w'=>e= .returned (.bool false)/\Below W.heap.size W w')
  (hOf:∀x,pK x->∀W,Below w.heap.size w W->Calls Tryz.prog 111 #[.int .i64 x] W λe w'=>e= .returned (WV (R.o x))/\Below W.heap.size W w')
  (hAdd:∀x y W,Below w.heap.size w W->Calls Tryz.prog 110 #[.int .i64 r,WV x,WV y] W λe w'=>e= .returned (WV (R.ad x y))/\Below W.heap.size W w')
  (hNar:∀x W,Below w.heap.size w W->Calls Tryz.prog 112 #[.int .i64 r,WV x] W λe w'=>e= .returned (.tuple #[.int .i64 (R.na x).1,.bool (R.na x).2])/\Below W.heap.size W w')
  (hr:RdE w a l) (hI:∀e∈l,InE e) (hl:l.length<=90000):
  Calls Tryz.prog 96 #[.int .i64 r,.slice a l.length c] w λe w'=>∃a' c',e= .returned (.tuple #[.slice a' (dQ R l).1.length c',.int .i64 (dQ R l).2])/\Out w.heap.size w' a' c' (dQ R l).1/\Below w.heap.size w w'/\((dQ R l).2≠0->a'=none):=by
 obtain⟨n,hn⟩:∃n,n=l.length:=⟨_,rfl⟩;rw [<-hn]at hl hO ⊢;have HN:=Lib.hid hn;clear hn;generalize hcr:dQ R l=RS;have HCR:=Lib.hid hcr;clear hcr;have HOf:=Lib.hid hOf;have HAdd:=Lib.hid hAdd;have HNar:=Lib.hid hNar;clear hOf hAdd hNar;have HORD:=Lib.hid hO;clear hO;have HI:=Lib.hid hIs;clear hIs
 go_enter Tryz.func96,Tryz.ntmps96
 go_wp2_with fail
 refine(HI.out w (Below.refl _ _)).mono ?_;rintro x w1 ⟨rfl,hb1⟩
 go_wp2_with fail
 refine(HORD.out w1 hb1).mono ?_;rintro x V ⟨rfl,hb2⟩;have hbw:=hb1.trans (hb2.mono hb1.size);clear hb1 hb2 HORD HI;have hmk:=Hp V n;have hM0:=MapF.new V
 go_wp2_with fail
 obtain⟨B,hB⟩:∃B,B=V.heap.size:=⟨_,rfl⟩;have hb1:=bl1 V (.map #[] 0);rw [<-hB]at hM0 ⊢;generalize V.alloc (.map #[] 0)=W1 at hM0 hb1 ⊢;have hVB:w.heap.size<=B:=by rw [hB];exact hbw.size
 have hbw1:Below w.heap.size w W1:=hbw.trans (hb1.mono hbw.size);clear hmk hB hb1 hbw
 go_loopw [29] (λy wr=>∃j:Nat,y= .int .i64 (j:Int)/\j<=n/\MapF wr B j (fm R (l.take j))/\Below w.heap.size w wr) (λy _=>n - (intOf y).toNat)
 case atStart=>exact⟨0,rfl,by omega,hM0,hbw1⟩
 case round=>
  clear hM0 hbw1;obtain⟨j,rfl,hj,hM,hBw⟩:=hrel;by_cases hlt:(j:Int)<(n:Int)
  .obtain⟨b,rfl,hbl,c0,c1,c2⟩:=(hr.below hBw) j (by rw [<-HN.out];omega);have j0:(0:Int)<=(j:Int):=by omega
   have kb:=Has.of hbl;have hIe:=hI _ (Om (show j<l.length by rw [<-HN.out];omega));have hk:In2 (key (el l j)):=⟨hIe.1,hIe.2.1⟩;have hw1:=hIe.2.2;have HT:=Lib.hid (Ku R (l.take j) (el l j));have HT2:=Lib.hid (Kv (l:=l) (j:=j) (by rw [<-HN.out];omega));generalize hf:fm R (l.take j)=f at hM HT;clear hf;obtain⟨ej,hej⟩:∃ej,ej=el l j:=⟨_,rfl⟩;rw [<-hej]at c0 c1 c2 hk hw1 HT HT2;clear hej hIe
   go_wp2_with (at_lookup;refine sL _ rfl _ _ rfl B j f (key ej) rfl ((hM.alloc _).alloc _) rfl hk ?_ ?_)
   .intro hf;rw [Hn hf]at HT
    go_wp2_with fail
    refine av 5 (by kernel_rfl) (by kernel_rfl) ?_;simp only [List.take_succ_cons,List.take_zero,List.drop_succ_cons,List.drop_zero]
    repeat (go_big_quiet_step (first|(go_at_call 111;exact Calls.regrown_of (HOf.out _ hw1 _ (hBw.trans (Below.mono (show Below wr.heap.size wr _ from(by repeat (first|with_reducible refine blg ?_ _ _|with_reducible refine bla ?_ _|with_reducible exact Below.refl _ _))) hBw.size))))))
    refine wpQuiet_nil ?_;rintro _ ⟨⟨d2,o2⟩,rfl⟩
    go_wp2_with (at_mapUpdate;refine jV _ rfl _ _ _ rfl B j f (key ej) (R.o ej.2.2) (by unfold maxLen;omega) rfl ((((hM.alloc _).alloc _).alloc _).kept (ab (below_regrown _ _ _) none) (by simp)) rfl rfl hk ?_;intro w' hM' hg')
    refine⟨?_,by simp [intOf];omega⟩;refine⟨j+1,by simp,by omega,by rw [HT2.out,HT.out];exact hM',?_⟩;have hbU:Below wr.heap.size wr (grow (redrawn (((wr.alloc (.cells #[.int .i64 ej.1,.int .i64 ej.2.1,.int .i64 ej.2.2] 52)).alloc (.cells #[.int .i64 ej.1,.int .i64 ej.2.1] 40)).alloc (.cells #[.int .i64 0,.int .u64 0] 115)) d2) o2):=(by repeat (first|with_reducible refine blg ?_ _ _|with_reducible refine bla ?_ _|with_reducible exact Below.refl _ _));exact(hBw.trans (hbU.mono hBw.size)).trans (aw hg' (hBw.trans (hbU.mono hBw.size)).size hVB)
   .intro z1 z2 hf;rw [Ho hf]at HT
    go_wp2_with fail
    refine av 8 (by kernel_rfl) (by kernel_rfl) ?_;simp only [List.take_succ_cons,List.take_zero,List.drop_succ_cons,List.drop_zero]
    repeat (go_big_quiet_step (first|(go_at_call 111;exact Calls.regrown_of (HOf.out _ hw1 _ (hBw.trans (Below.mono (show Below wr.heap.size wr _ from(by repeat (first|with_reducible refine blg ?_ _ _|with_reducible refine bla ?_ _|with_reducible exact Below.refl _ _))) hBw.size))))|(go_at_call 110;exact Calls.regrown_of (HAdd.out (z1,z2) _ _ (hBw.trans (Below.mono (show Below wr.heap.size wr _ from(by repeat (first|with_reducible refine blg ?_ _ _|with_reducible refine bla ?_ _|with_reducible exact Below.refl _ _))) hBw.size))))))
    refine wpQuiet_nil ?_;rintro _ ⟨⟨d2,o2⟩,rfl⟩
    go_wp2_with (at_mapUpdate;refine jV _ rfl _ _ _ rfl B j f (key ej) (R.ad (z1,z2) (R.o ej.2.2)) (by unfold maxLen;omega) rfl ((((hM.alloc _).alloc _).alloc _).kept (ab (below_regrown _ _ _) none) (by simp)) rfl rfl hk ?_;intro w' hM' hg')
    refine⟨?_,by simp [intOf];omega⟩;refine⟨j+1,by simp,by omega,by rw [HT2.out,HT.out];exact hM',?_⟩;have hbU:Below wr.heap.size wr (grow (redrawn (((wr.alloc (.cells #[.int .i64 ej.1,.int .i64 ej.2.1,.int .i64 ej.2.2] 52)).alloc (.cells #[.int .i64 ej.1,.int .i64 ej.2.1] 40)).alloc (.cells #[.int .i64 z1,.int .u64 z2] 115)) d2) o2):=(by repeat (first|with_reducible refine blg ?_ _ _|with_reducible refine bla ?_ _|with_reducible exact Below.refl _ _));exact(hBw.trans (hbU.mono hBw.size)).trans (aw hg' (hBw.trans (hbU.mono hBw.size)).size hVB)
  .obtain rfl:j=n:=by omega
   have hle:=hBw.size;rw [List.take_of_length_le (by rw [<-HN.out];exact Nat.le_refl _)]at hM;clear hlt hj;obtain⟨i0,hi0,hz0,hz1,hz2⟩:=qM Me
   go_wp2_with (first
    |(at_len;refine zQ _ rfl _ rfl B j (fm R l) rfl hM ?_;intro m hm;obtain⟨V2,hmk,hown,hgn⟩:=run_makeSlice_owned (P:=Tryz.prog) (w:=wr) wr.heap.size 22 52 i0 (.agg #[.int .i64 0,.int .i64 0,.int .i64 0]) 3 Tryz.underlying22 hi0 hz0 hz1 .i64 .i64 m (by omega) (by rw [hz2];omega) (by unfold maxLen;omega) (Nat.le_refl _);have hM2:=hM.kept hgn (by simp))
    |(at_range;refine vw _ rfl _ rfl B j (fm R l) rfl hM2 ?_;intro V3 hR3 hg3 hs3))
   have hBl:=hM.lt;have hB2:Below w.heap.size w V2:=hBw.trans ((cC hgn).mono hle);obtain⟨g0,hg0⟩:∃g0,g0=wr.heap.size:=⟨_,rfl⟩;rw [<-hg0]at hown hBl ⊢;have hg0V:g0<V2.heap.size:=(hown.lt g0 rfl).2;have hwg:w.heap.size<=g0:=by rw [hg0];exact hle
   clear hmk hM hgn hg0 hBw hle;have hown3:=hown.kept hg3 (.inr (by simp [Value.ownBlock]));have hB3:Below w.heap.size w V3:=hB2.trans ((cC hg3).mono hB2.size);obtain⟨ri,hri⟩:∃ri,ri=V2.heap.size:=⟨_,rfl⟩;rw [<-hri]at hR3 hg0V ⊢;have hwr:w.heap.size<=ri:=by rw [hri];exact hB2.size
   clear hM2 hown hg3 hs3 hri hB2
   go_frame
   go_loopw [12] (λv wr=>∃done,RangF wr B ri j (fm R l) done/\wr.ownsRow w.heap.size 52 3 v done.length (cellsE (done.map (toE R)))/\(∃k,v.ownBlock=some k/\k≠ri/\k≠B)/\(∀p∈done,(R.na p.2).2=true)/\Below w.heap.size w wr) (λ_ wr=>wr.rangeLeft B ri)
   case atStart=>exact⟨[],hR3,zP hown3 hwg,⟨g0,rfl,by omega,by omega⟩,by simp,hB3⟩
   case round=>
    clear hR3 hown3 hB3;obtain⟨done,hR,hown,⟨kb,hkb,hk1,hk2⟩,hnb,hBw⟩:=hrel;have hRl:=hR.lt;obtain⟨cap,rfl⟩:=Hj hown hkb;clear hkb
    go_wp2_with (at_next;refine ye _ rfl _ rfl B ri j (fm R l) done rfl hR ?_ ?_)
    .intro hall;have hT:done.Perm (fG R l):=(lA R l).perm hR.facts.1 (λp hp=>(hR.facts.2.1 p hp).2) (λk z hkz=>hall k.1 k.2 (by obtain⟨e,he,rfl⟩:=yc hkz;exact⟨(hI e he).1,(hI e he).2.1⟩) z.1 z.2 hkz);have hR0:dQ R l=((fG R l).map (toE R),0):=Hd (λk z hkz=>hnb (k,z) (hall k.1 k.2 (by obtain⟨e,he,rfl⟩:=yc hkz;exact⟨(hI e he).1,(hI e he).2.1⟩) z.1 z.2 hkz));rw [HCR.out]at hR0;have hdl:done.length<=j:=hR.facts.2.2;have hkl:=hown.lt kb rfl
     have hcap0:done.length<=cap:=by
      rcases hown.2 with⟨h,_⟩|⟨g,cap1,cur,h,_,_,h5,_⟩
      .cases h
      .cases h;exact h5
     have HSO:=Fv kb cap (done.map (toE R)) wr hkl.2 (λi hi k hk=>by rw [hown.cellAt (i*3+k) (by simp at hi;omega),cellsE_at _ i k hi hk]) (λj=>hown.frozenAt j) (by simp;omega);rw [List.length_map]at HSO;clear hR hall
     go_wp2_with fail
     refine HSO.mono ?_;rintro x w1 ⟨rfl,l',hp,hs,hrd,hg⟩
     go_wp2
     go_ret2
     have hl':=Fr R l l' done hT hp hs;have hlen:done.length=l'.length:=by have:=hp.length_eq;simpa using this.symm
     rw [hlen]at hcap0;refine⟨some ⟨kb,0,none⟩,cap,?_,by rw [hR0,<-hl'];exact⟨hrd,by simp,hcap0,λb hb=>by cases hb;exact hkl.1⟩,hBw.trans ((aw hg hBw.size hkl.1).mono (Nat.le_refl _)),λh=>absurd (by rw [hR0]) h⟩;rw [hR0,hlen,hl'];rfl
    .intro k1 k2 z1 z2 w' hR' hlt hg hs hen;have hown':=hown.kept hg (.inr (by simp [Value.ownBlock];exact hk1));have hB':Below w.heap.size w w':=hBw.trans ((aw hg hBw.size hwr).mono (Nat.le_refl _));clear hown hR;have hwl:w'.heap.size=wr.heap.size:=hs
     go_wp2_with fail
     obtain⟨U,hU⟩:∃U,U=(w'.alloc (.cells #[.int .i64 k1,.int .i64 k2] 40)).alloc (.cells #[.int .i64 z1,.int .u64 z2] 115):=⟨_,rfl⟩;rw [<-hU]
     have hCU:CellsAt U wr.heap.size 40 #[.int .i64 k1,.int .i64 k2]:=by
      have h1:CellsAt (w'.alloc (.cells #[.int .i64 k1,.int .i64 k2] 40)) w'.heap.size 40 #[.int .i64 k1,.int .i64 k2]:=World.alloc_heap_new w' _;rw [hU,<-hwl];exact h1.below (bl1 _ _)
     have hbU:Below w'.heap.size w' U:=by rw [hU];exact bl2 _ _ _
     have hU1:wr.heap.size<U.heap.size:=by rw [hU];simp;omega
     clear hU hen;refine(HNar.out (z1,z2) U (hB'.trans (hbU.mono hB'.size))).mono ?_;rintro x w1 ⟨rfl,hb1⟩;have hC1:=hCU.below hb1;have c0:w1.cell? ⟨wr.heap.size,0,none⟩=some (.int .i64 k1):=hC1.cell 0;have c1:w1.cell? ⟨wr.heap.size,1,none⟩=some (.int .i64 k2):=hC1.cell 1;have kg:=Has.of hC1.lt;have hbW:Below w'.heap.size w' w1:=hbU.trans (hb1.mono hbU.size);have hRW:=hR'.kept (ab hbW none) (by simp) (by simp);have hownW:=hown'.kept (ab hbW none) (.inr (by simp [Value.ownBlock]));have hBW:Below w.heap.size w w1:=hB'.trans (hbW.mono hB'.size);have hlW:=hR'.left (ab hbW none) (by simp) (by simp);have hfz:=hR'.facts;clear hbU hb1 hCU hC1 hown';cases hz:(R.na (z1,z2)).2
     .have hR0:=Fq (R:=R) (l:=l) (hfz.2.1 ((k1,k2),(z1,z2)) (by simp)).2 hz;rw [HCR.out]at hR0
      go_wp2_with fail
      go_ret2
      refine⟨none,0,by rw [hR0];rfl,?_,hBW,λ_=>rfl⟩;rw [hR0];exact Kx _ _
     .have hdl:done.length+1<=j:=by have:=hfz.2.2;simpa using this
      go_wp2_with (refine il rfl _ _ rfl w.heap.size _ done.length (done.map (toE R)) rfl (hownW.alloc _) _ 1 1 [(k1,k2,(R.na (z1,z2)).1)] rfl rfl (Kz _ _ _ _) (by simp) (by omega) (by have:=hBW.size;simp;omega) ?_;intro v' w2 hown2 hg2 hat2)
      have hg2':(w1.alloc (.cells #[.int .i64 k1,.int .i64 k2,.int .i64 ((R.na (z1,z2)).1)] 52)).grownBy w2 (some kb):=hg2;have hat2':v'.ownBlock=some kb∨v'.ownBlock=some (w1.alloc (.cells #[.int .i64 k1,.int .i64 k2,.int .i64 ((R.na (z1,z2)).1)] 52)).heap.size:=hat2;have hga:=World.grownBy_alloc w1 (.cells #[.int .i64 k1,.int .i64 k2,.int .i64 ((R.na (z1,z2)).1)] 52) none;have hkbl:=(hownW.lt kb rfl).1;have hRA:=hRW.kept hga (by simp) (by simp);have hlA:=hRW.left hga (by simp) (by simp);have hB1s:=hRW.lt;refine⟨⟨done++ [((k1,k2),(z1,z2))],hRA.kept hg2' (by simp;exact Ne.symm hk2) (by simp;exact Ne.symm hk1),?_,?_,?_,?_⟩,?_⟩
      .simpa [toE]using hown2
      .rcases hat2' with e|e
       .exact⟨kb,e,hk1,hk2⟩
       .exact⟨_,e,by simp;omega,by simp;omega⟩
      .intro p hp;rcases List.mem_append.1 hp with hp|hp
       .exact hnb p hp
       .simp at hp;subst hp;exact hz
      .exact(bla hBW _).trans (wE (v:= .slice (some ⟨kb,0,none⟩) done.length cap) hg2' (λk hk=>by cases hk;exact hkbl) (by have:=hBW.size;simp;omega))
      .rw [hRA.left hg2' (by simp;exact Ne.symm hk2) (by simp;exact Ne.symm hk1),hlA,hlW];exact hlt
end Eg
end Sm
end
noncomputable section
namespace Ev
open Go Go.RowKit
def jo(x:Int):Option (Int×Int):=K.jo x
def ee(x:Int×Int)(y:Int×Int):Option (Int):=K.ee (x,y)
def eT(x:Int×Int)(y:Int×Int):Option (Int×Int):=K.eT (x,y)
def eR(x:Bool):Option (Int×Int):=K.eR x
def iP(x:Int×Int)(y:Int×Int):Option (Int×Int):=K.iP (x,y)
def jW(x:Int)(y:Int×Int)(z:Int×Int):Option (Int×Int):=K.jW (x,y,z)
def fW(x:Int×Int):Option (Int×Bool):=K.fW x
def fX(x:Int)(y:Int×Int):Option (Int×Bool):=K.fX (x,y)
def og(x:Int):Option (Bool):=K.og x
def fI(x:Sl (Int)):Option (Int):=K.fI x
def dD(x:Int):Option (Bool):=K.dD x
def cn(x:Int)(y:Int):Option (Int):=K.cn (x,y)
def eh(x:Int×Int×Int)(y:Int×Int×Int):Option (Int):=K.eh (x,y)
def dS(x:Sl (Int×Int×Int)):Option (Bool):=K.dS x
def cJ(x:Int×Int×Int)(y:Int×Int×Int):Option (Bool):=K.cJ (x,y)
def iQ(x:Int):Option (Bool):=K.iQ x
def iR(x:Int):Option (Int×Int):=K.iR x
def cO(x:Int×Int)(y:Int×Int):Option (Int):=K.cO (x,y)
def dT(x:Bool):Option (Int×Int):=K.dT x
def gC(x:Int×Int)(y:Int×Int):Option (Int×Int):=K.gC (x,y)
def gD(x:Int)(y:Int×Int)(z:Int×Int):Option (Int×Int):=K.gD (x,y,z)
def dn(x:Int×Int):Option (Int×Bool):=K.dn x
def dE(x:Int)(y:Sl (Int×Int×Int)):Option ((Sl (Int×Int×Int))×Int):=K.dE (x,y)
def dh(x:Int×(Sl (Int×Int×Int))):Option (Int×(Sl (Int×Int×Int))):=K.dh x
end Ev
end
noncomputable section
namespace Ev
open Go Go.RowKit
set_option maxRecDepth 100000
set_option maxHeartbeats 1000000
theorem Cj(x:Int):jo x=(Jr IntKind.i64 x 63).bind λ(z:Int)=>some (z,IntKind.u64.wrap x):=by kernel_rfl
theorem rq(x:Int×Int)(y:Int×Int):ee x y=if x.fst=y.fst/\x.snd=y.snd then some 0
else if x.fst<y.fst then some (-1)else if x.fst=y.fst then if x.snd<y.snd then some (-1)else some 1 else some 1:=by kernel_rfl
theorem sM(x:Int×Int)(y:Int×Int):eT x y=(ee y x).bind λ(out:Int)=>if out<0 then some y else some x:=by kernel_rfl
theorem vy(x:Bool):eR x=if x=true then(jo 1).bind λ(out:Int×Int)=>some out else some (0,0):=by kernel_rfl
def jX(x:Int×Int)(y:Int×Int):Int->Int->Option (Int×Int):=λ(d d_1:Int)=>some (IntKind.i64.wrap (d+d_1),IntKind.u64.wrap (x.snd+y.snd))
theorem zR(x:Int×Int)(y:Int×Int):iP x y=if IntKind.u64.wrap (x.snd+y.snd)<x.snd then jX x y (IntKind.i64.wrap (x.fst+y.fst)) 1
else jX x y x.fst y.fst:=by kernel_rfl
theorem zS(x:Int)(y:Int×Int)(z:Int×Int):jW x y z=(if x=1 then some (Sum.inl true)else if x=3 then some (Sum.inl true)else some (Sum.inl (decide (x=4)))).bind λ(y_1:Bool ⊕ Empty)=>Sum.elim (λ(val:Bool)=>if val=true then(eT y z).bind λ(out:Int×Int)=>some out else if x=2 then if¬(y.fst=0/\y.snd=0)then(eR true).bind λ(out:Int×Int)=>some out else(eR (decide ¬(z.fst=0/\z.snd=0))).bind λ(out:Int×Int)=>some out else if x=5 then(iP y z).bind λ(out:Int×Int)=>some out else some (0,0)) (λ(val:Empty)=>nE val) y_1:=by kernel_rfl
theorem sN(x:Int×Int):fW x=(jo (IntKind.i64.wrap x.snd)).bind λ(out:Int×Int)=>if¬(x.fst=out.fst/\x.snd=out.snd)then some (0,false)else some (IntKind.i64.wrap x.snd,true):=by kernel_rfl
theorem sO(x:Int)(y:Int×Int):fX x y=(fW y).bind λ(out:Int×Bool)=>some (out.fst,decide (out.snd=true)):=by kernel_rfl
theorem Ck(x:Int):og x=if x >= 1 then some (decide (x<=5))else some false:=by kernel_rfl
def bt(x:Sl Int):Int->Option (Int ⊕ PUnit ⊕ Int ⊕ Empty):=λ(x_1:Int)=>if x_1<(↑x.l.length:Int)then(atS 1 x x_1).bind λ(y:Int)=>if y≠0 then some (Sum.inr (Sum.inr (Sum.inl y)))else some (Sum.inl (IntKind.i64.wrap (x_1+1)))else some (Sum.inr (Sum.inl ()))
theorem vz(x:Sl Int):fI x=(bO (bt x) 0).bind λ(y:PUnit ⊕ Int ⊕ Empty)=>Sum.elim (λ(val:PUnit)=>some 0) (λ(val:Int ⊕ Empty)=>Sum.elim (λ(val:Int)=>some val) (λ(val:Empty)=>nE val) val) y:=by kernel_rfl
theorem iS(x:Int):dD x=some (decide (x≠x)):=by kernel_rfl
theorem mW(x:Int)(y:Int):cn x y=(dD x).bind λ(out:Bool)=>(dD y).bind λ(out_1:Bool)=>if out=true then if out_1=true then some 0 else some (-1)else if out_1=true then some 1 else if x<y then some (-1)else if x>y then some 1 else some 0:=by kernel_rfl
theorem rt(x:Int×Int×Int)(y:Int×Int×Int):eh x y=(cn x.fst y.fst).bind λ(out:Int)=>(cn x.snd.fst y.snd.fst).bind λ(out_1:Int)=>(fI {nn:=true,sz:=1,l:= [out,out_1]}).bind λ(out:Int)=>some out:=by kernel_rfl
def fp(x:Sl (Int×Int×Int)):Int->Option (Int ⊕ PUnit ⊕ Bool ⊕ Empty):=λ(x_1:Int)=>if x_1<(↑x.l.length:Int)then(atS 3 x (IntKind.i64.wrap (x_1 - 1))).bind λ(y:Int×Int×Int)=>(atS 3 x x_1).bind λ(y_1:Int×Int×Int)=>(eh y y_1).bind λ(out:Int)=>if out >= 0 then some (Sum.inr (Sum.inr (Sum.inl false)))else some (Sum.inl (IntKind.i64.wrap (x_1+1)))else some (Sum.inr (Sum.inl ()))
theorem sP(x:Sl (Int×Int×Int)):dS x=(bO (fp x) 1).bind λ(y:PUnit ⊕ Bool ⊕ Empty)=>Sum.elim (λ(val:PUnit)=>some true) (λ(val:Bool ⊕ Empty)=>Sum.elim (λ(val:Bool)=>some val) (λ(val:Empty)=>nE val) val) y:=by kernel_rfl
theorem jY(x:Int×Int×Int)(y:Int×Int×Int):cJ x y=if x.fst<y.fst then some true
else if x.fst=y.fst then some (decide (x.snd.fst<y.snd.fst))else some false:=by kernel_rfl
theorem zT(x:Int):iQ x=if x >= 1 then some (decide (x<=5))else some false:=by kernel_rfl
theorem zU(x:Int):iR x=if x<0 then some (-1,IntKind.u64.wrap x)else some (0,IntKind.u64.wrap x):=by kernel_rfl
theorem pN(x:Int×Int)(y:Int×Int):cO x y=if x.fst<y.fst then some (-1)
else if x.fst=y.fst then if x.snd<y.snd then some (-1)else if x.fst=y.fst/\x.snd=y.snd then some 0 else some 1 else if x.fst=y.fst/\x.snd=y.snd then some 0 else some 1:=by kernel_rfl
theorem sQ(x:Bool):dT x=if x=true then some (0,1)else some (0,0):=by kernel_rfl
def jp:Int->Int->Option (Int ⊕ Empty):=λ(d d_1:Int)=>some (Sum.inl (IntKind.i64.wrap (d+d_1)))
theorem yf(x:Int×Int)(y:Int×Int):gC x y=(if IntKind.u64.wrap (x.snd+y.snd)<x.snd then jp (IntKind.i64.wrap (x.fst+y.fst)) 1 else jp x.fst y.fst).bind λ(y_1:Int ⊕ Empty)=>Sum.elim (λ(val:Int)=>some (val,IntKind.u64.wrap (x.snd+y.snd))) (λ(val:Empty)=>nE val) y_1:=by kernel_rfl
theorem yg(x:Int)(y:Int×Int)(z:Int×Int):gD x y z=(if x=1 then some (Sum.inl true)else if x=3 then some (Sum.inl true)else some (Sum.inl (decide (x=4)))).bind λ(y_1:Bool ⊕ Empty)=>Sum.elim (λ(val:Bool)=>if val=true then(cO z y).bind λ(out:Int)=>if out<0 then some z else some y else if x=2 then if¬(y.fst=0/\y.snd=0)then(dT true).bind λ(out:Int×Int)=>some out else(dT (decide ¬(z.fst=0/\z.snd=0))).bind λ(out:Int×Int)=>some out else if x=5 then(gC y z).bind λ(out:Int×Int)=>some out else some (0,0)) (λ(val:Empty)=>nE val) y_1:=by kernel_rfl
theorem ru(x:Int×Int):dn x=if x.fst=0 then if IntKind.i64.wrap x.snd >= 0 then some (IntKind.i64.wrap x.snd,true)else if x.fst= -1 then if IntKind.i64.wrap x.snd<0 then some (IntKind.i64.wrap x.snd,true)else some (0,false)else some (0,false)
else if x.fst= -1 then if IntKind.i64.wrap x.snd<0 then some (IntKind.i64.wrap x.snd,true)else some (0,false)else some (0,false):=by kernel_rfl
def cT(y:Sl (Int×Int×Int))(x:List (Int×Int×Int)×List (Int×Int)×Int):Int->Option (Int ⊕ Int ⊕ Empty):=λ(x_1:Int)=>if x_1<(↑(List.length x.fst):Int)then(atL x.fst x_1).bind λ(x_2:Int×Int×Int)=>(atL x.fst x_1).bind λ(y_1:Int×Int×Int)=>(atS 3 y x.snd.snd).bind λ(y:Int×Int×Int)=>(cJ y_1 y).bind λ(out:Bool)=>if out=true then some (Sum.inl (IntKind.i64.wrap (x_1+1)))else some (Sum.inr (Sum.inl x_1))else some (Sum.inr (Sum.inl x_1))
def cU(val:Int):Int×List (Int×Int×Int)×List (Int×Int)->Option (Int×List (Int×Int×Int)×List (Int×Int)⊕ List (Int×Int×Int)×List (Int×Int)⊕ Empty):=λ(x:Int×List (Int×Int×Int)×List (Int×Int))=>if x.fst>val then(atL x.snd.fst (IntKind.i64.wrap (x.fst - 1))).bind λ(x_1:Int×Int×Int)=>(atL x.snd.fst (IntKind.i64.wrap (x.fst - 1))).bind λ(y:Int×Int×Int)=>(atL x.snd.fst x.fst).bind λ(x_2:Int×Int×Int)=>(atL x.snd.fst x.fst).bind λ(y_1:Int×Int×Int)=>(atL x.snd.snd (IntKind.i64.wrap (x.fst - 1))).bind λ(x_3:Int×Int)=>(atL x.snd.snd (IntKind.i64.wrap (x.fst - 1))).bind λ(y_2:Int×Int)=>(atL x.snd.snd x.fst).bind λ(x_4:Int×Int)=>(atL x.snd.snd x.fst).bind λ(y_3:Int×Int)=>some (Sum.inl (IntKind.i64.wrap (x.fst - 1),List.set x.snd.fst (Int.toNat x.fst) y,List.set x.snd.snd (Int.toNat x.fst) y_2))else some (Sum.inr (Sum.inl x.snd))
def cV(val:Int):Int×List (Int×Int×Int)×List (Int×Int)->Option (Int×List (Int×Int×Int)×List (Int×Int)⊕ List (Int×Int×Int)×List (Int×Int)⊕ Empty):=λ(x:Int×List (Int×Int×Int)×List (Int×Int))=>if x.fst>val then(atL x.snd.fst (IntKind.i64.wrap (x.fst - 1))).bind λ(x_1:Int×Int×Int)=>(atL x.snd.fst (IntKind.i64.wrap (x.fst - 1))).bind λ(y:Int×Int×Int)=>(atL x.snd.fst x.fst).bind λ(x_2:Int×Int×Int)=>(atL x.snd.fst x.fst).bind λ(y_1:Int×Int×Int)=>(atL x.snd.snd (IntKind.i64.wrap (x.fst - 1))).bind λ(x_3:Int×Int)=>(atL x.snd.snd (IntKind.i64.wrap (x.fst - 1))).bind λ(y_2:Int×Int)=>(atL x.snd.snd x.fst).bind λ(x_4:Int×Int)=>(atL x.snd.snd x.fst).bind λ(y_3:Int×Int)=>some (Sum.inl (IntKind.i64.wrap (x.fst - 1),List.set x.snd.fst (Int.toNat x.fst) y,List.set x.snd.snd (Int.toNat x.fst) y_2))else some (Sum.inr (Sum.inl x.snd))
def em(x:Int)(y:Sl (Int×Int×Int)):List (Int×Int×Int)×List (Int×Int)×Int->Option (List (Int×Int×Int)×List (Int×Int)×Int ⊕ List (Int×Int×Int)×List (Int×Int)⊕ Empty):=λ(x_1:List (Int×Int×Int)×List (Int×Int)×Int)=>if x_1.snd.snd<(↑y.l.length:Int)then(bO (cT y x_1) 0).bind λ(y_1:Int ⊕ Empty)=>Sum.elim (λ(val:Int)=>(atS 3 y x_1.snd.snd).bind λ(y_2:Int×Int×Int)=>(iR y_2.snd.snd).bind λ(out:Int×Int)=>if val<(↑(List.length x_1.fst):Int)then(atS 3 y x_1.snd.snd).bind λ(y_3:Int×Int×Int)=>(atL x_1.fst val).bind λ(x_2:Int×Int×Int)=>(atL x_1.fst val).bind λ(y_4:Int×Int×Int)=>(cJ y_3 y_4).bind λ(out_1:Bool)=>if¬out_1=true then if List.length x_1.snd.fst=0 then none else(atL x_1.snd.fst val).bind λ(x_3:Int×Int)=>(atL x_1.snd.fst val).bind λ(y:Int×Int)=>(gD x y out).bind λ(out:Int×Int)=>(atL x_1.snd.fst val).bind λ(x:Int×Int)=>(atL x_1.snd.fst val).bind λ(y:Int×Int)=>some (Sum.inl (x_1.fst,List.set x_1.snd.fst val.toNat out,IntKind.i64.wrap (x_1.snd.snd+1)))else(app x_1.fst [(0,0,0)]).bind λ(lm:List (Int×Int×Int))=>(app x_1.snd.fst [(0,0)]).bind λ(lm_1:List (Int×Int))=>(bO (cU val) (IntKind.i64.wrap ((↑lm.length:Int) - 1),lm,lm_1)).bind λ(y_5:List (Int×Int×Int)×List (Int×Int)⊕ Empty)=>Sum.elim (λ(val_1:List (Int×Int×Int)×List (Int×Int))=>(atS 3 y x_1.snd.snd).bind λ(y_6:Int×Int×Int)=>(atS 3 y x_1.snd.snd).bind λ(y:Int×Int×Int)=>(atL val_1.fst val).bind λ(x:Int×Int×Int)=>(atL val_1.fst val).bind λ(y_7:Int×Int×Int)=>(atL val_1.snd val).bind λ(x:Int×Int)=>(atL val_1.snd val).bind λ(y_8:Int×Int)=>(neL (List.set val_1.fst val.toNat (y_6.fst,y.snd.fst,0))).bind λ(x:PUnit)=>(neL (List.set val_1.snd val.toNat out)).bind λ(x:PUnit)=>some (Sum.inl (List.set val_1.fst val.toNat (y_6.fst,y.snd.fst,0),List.set val_1.snd val.toNat out,IntKind.i64.wrap (x_1.snd.snd+1)))) (λ(val:Empty)=>nE val) y_5 else(app x_1.fst [(0,0,0)]).bind λ(lm:List (Int×Int×Int))=>(app x_1.snd.fst [(0,0)]).bind λ(lm_1:List (Int×Int))=>(bO (cV val) (IntKind.i64.wrap ((↑lm.length:Int) - 1),lm,lm_1)).bind λ(y_3:List (Int×Int×Int)×List (Int×Int)⊕ Empty)=>Sum.elim (λ(val_1:List (Int×Int×Int)×List (Int×Int))=>(atS 3 y x_1.snd.snd).bind λ(y_4:Int×Int×Int)=>(atS 3 y x_1.snd.snd).bind λ(y:Int×Int×Int)=>(atL val_1.fst val).bind λ(x:Int×Int×Int)=>(atL val_1.fst val).bind λ(y_5:Int×Int×Int)=>(atL val_1.snd val).bind λ(x:Int×Int)=>(atL val_1.snd val).bind λ(y_6:Int×Int)=>(neL (List.set val_1.fst val.toNat (y_4.fst,y.snd.fst,0))).bind λ(x:PUnit)=>(neL (List.set val_1.snd val.toNat out)).bind λ(x:PUnit)=>some (Sum.inl (List.set val_1.fst val.toNat (y_4.fst,y.snd.fst,0),List.set val_1.snd val.toNat out,IntKind.i64.wrap (x_1.snd.snd+1)))) (λ(val:Empty)=>nE val) y_3) (λ(val:Empty)=>nE val) y_1 else some (Sum.inr (Sum.inl (x_1.fst,x_1.snd.fst)))
def eo(val:List (Int×Int×Int)×List (Int×Int)):List (Int×Int×Int)×Int->Option (List (Int×Int×Int)×Int ⊕ List (Int×Int×Int)⊕ List (Int×Int×Int)×Int ⊕ Empty):=λ(x:List (Int×Int×Int)×Int)=>if x.snd<(↑(List.length x.fst):Int)then(atL val.snd x.snd).bind λ(x_1:Int×Int)=>(atL val.snd x.snd).bind λ(y:Int×Int)=>(dn y).bind λ(out:Int×Bool)=>if¬out.snd=true then some (Sum.inr (Sum.inr (Sum.inl ([],12))))else(atL x.fst x.snd).bind λ(x_2:Int×Int×Int)=>(atL x.fst x.snd).bind λ(y:Int×Int×Int)=>some (Sum.inl (List.set x.fst (Int.toNat x.snd) (y.fst,y.snd.fst,out.fst),IntKind.i64.wrap (x.snd+1)))else some (Sum.inr (Sum.inl x.fst))
theorem pO(x:Int)(y:Sl (Int×Int×Int)):dE x y=(iQ x).bind λ(out:Bool)=>if¬out=true then some ({nn:=false,sz:=0,l:= []},8)else(bO (em x y) ([],[],0)).bind λ(y:List (Int×Int×Int)×List (Int×Int)⊕ Empty)=>Sum.elim (λ(val:List (Int×Int×Int)×List (Int×Int))=>(bO (eo val) (val.fst,0)).bind λ(y:List (Int×Int×Int)⊕ List (Int×Int×Int)×Int ⊕ Empty)=>Sum.elim (λ(val:List (Int×Int×Int))=>some (mo 3 val,0)) (λ(val:List (Int×Int×Int)×Int ⊕ Empty)=>Sum.elim (λ(val:List (Int×Int×Int)×Int)=>some (mo 3 val.fst,val.snd)) (λ(val:Empty)=>nE val) val) y) (λ(val:Empty)=>nE val) y:=by kernel_rfl
theorem sR(x:Int×Sl (Int×Int×Int)):dh x=(dE 1 x.snd).bind λ(out:Sl (Int×Int×Int)×Int)=>some (x.fst,out.fst):=by kernel_rfl
end Ev
end
noncomputable section
namespace Ev
open Go
def mX(n:Int):Prop:= -9223372036854775808<=n/\n<=9223372036854775807
def jN(n:Int):Prop:=0<=n/\n<=18446744073709551615
theorem yh{n:Int}(h:inK .i64 n):mX n:=by simpa [inK,mX,Lit.wf,IntKind.min,IntKind.max,IntKind.signed,IntKind.bits]using h
theorem wrap_u64(n:Int):IntKind.u64.wrap n=n % 18446744073709551616:=by
 simp [IntKind.wrap,IntKind.signed,IntKind.bits]
theorem zV(n:Int):jN (IntKind.u64.wrap n):=by rw [wrap_u64];unfold jN;omega
theorem Oq{n:Int}(h:jN n):IntKind.u64.wrap (IntKind.i64.wrap n)=n:=by rw [wrap_u64,IntKind.wrap_i64];unfold jN at h;omega
theorem zW(n:Int):mX (IntKind.i64.wrap n):=by rw [IntKind.wrap_i64];unfold mX;omega
def ofW(n:Int):Int×Int:=(if n<0 then -1 else 0,IntKind.u64.wrap n)
theorem Cl(n:Int):jN (ofW n).2:=zV n
def zX(a b:Int×Int):Bool:=decide (a.1<b.1)||(decide (a.1=b.1)&& decide (a.2<b.2))
def pP(a b:Int×Int):Int×Int:=if zX b a=true then b else a
def pQ(b:Bool):Int×Int:=if b=true then(0,1)else(0,0)
def Fw(a b:Int×Int):Int×Int:=if IntKind.u64.wrap (a.2+b.2)<a.2 then(IntKind.i64.wrap (IntKind.i64.wrap (a.1+b.1)+1),IntKind.u64.wrap (a.2+b.2))else(IntKind.i64.wrap (a.1+b.1),IntKind.u64.wrap (a.2+b.2))
def fS(r:Int)(a b:Int×Int):Int×Int:=
 if r=1∨r=3∨r=4 then pP a b else if r=2 then pQ (!(decide (a.1=0/\a.2=0)&& decide (b.1=0/\b.2=0)))else if r=5 then Fw a b else(0,0)
def cS(a:Int×Int):Int×Bool:=if a=ofW (IntKind.i64.wrap a.2)then(IntKind.i64.wrap a.2,true)else(0,false)
def iy(r:Int):Bool:=decide (1<=r)&& decide (r<=5)
theorem Cm{r:Int}{a b:Int×Int}(ha:jN a.2)(hb:jN b.2):jN (fS r a b).2:=by
 have h0:jN 0:=by unfold jN;omega
 have h1:jN 1:=by unfold jN;omega
 unfold fS pP pQ Fw;split
 .split<;>assumption
 .split
  .split<;>assumption
  .split
   .split<;>exact zV _
   .exact h0
theorem pR{n:Int}(h:mX n):jo n=some (ofW n):=by
 rw [Cj];unfold Jr ofW Pf;rw [if_pos (by omega)];have e:(2:Int)^(min (63:Int).toNat IntKind.i64.bits)=9223372036854775808:=by decide
 rw [e];unfold mX at h
 have:n.fdiv 9223372036854775808=if n<0 then -1 else 0:=by
  rw [Int.fdiv_eq_ediv_of_nonneg _ (by omega)];split<;>omega
 rw [this];rfl
theorem ry(a b:Int×Int):∃c,ee a b=some c/\(c<0↔zX a b=true):=by
 obtain⟨a1,a2⟩:=a;obtain⟨b1,b2⟩:=b;rw [rq];unfold zX;simp only;by_cases h1:a1=b1/\a2=b2
 .rw [if_pos h1];exact⟨0,rfl,by simp;omega⟩
 rw [if_neg h1];by_cases h2:a1<b1
 .rw [if_pos h2];exact⟨-1,rfl,by simp [h2]⟩
 rw [if_neg h2];by_cases h3:a1=b1
 .rw [if_pos h3];by_cases h4:a2<b2
  .rw [if_pos h4];exact⟨-1,rfl,by simp [h3,h4]⟩
  .rw [if_neg h4];exact⟨1,rfl,by simp [h3];omega⟩
 .rw [if_neg h3];exact⟨1,rfl,by simp [h3];omega⟩
theorem vA(a b:Int×Int):eT a b=some (pP a b):=by
 obtain⟨c,h1,h2⟩:=ry b a;rw [sM,h1];unfold pP;simp only [zbS];by_cases hc:c<0
 .rw [if_pos hc,if_pos (h2.1 hc)]
 .rw [if_neg hc,if_neg (λh=>hc (h2.2 h))]
theorem yi(b:Bool):eR b=some (pQ b):=by
 rw [vy];unfold pQ;cases b
 .rfl
 .simp only [if_true,pR (show mX 1 by unfold mX;omega),zbS];rfl
theorem Cn(a b:Int×Int):iP a b=some (Fw a b):=by
 rw [zR];unfold Fw jX;split
 .rfl
 .obtain⟨a1,a2⟩:=a;obtain⟨b1,b2⟩:=b;rfl
theorem Co(r:Int)(a b:Int×Int):jW r a b=some (fS r a b):=by
 rw [zS];unfold fS;simp only [vA,yi,Cn,zbS];by_cases h1:r=1
 .simp [h1]
 by_cases h3:r=3
 .simp [h3]
 by_cases h4:r=4
 .simp [h4]
 simp only [if_neg h1,if_neg h3,if_neg (show¬(r=1∨r=3∨r=4)by omega),decide_eq_false h4,zbS,Sum.elim_inl,Bool.false_eq_true,if_false];by_cases h2:r=2
 .simp only [if_pos h2];by_cases ha:a.1=0/\a.2=0
  .by_cases hb:b.1=0/\b.2=0
   .simp [ha,hb]
   .simp [ha,hb]
  .simp [ha]
 .simp only [if_neg h2];split<;>rfl
theorem vB(r:Int)(a:Int×Int):fX r a=some (cS a):=by
 rw [sO,sN];obtain⟨a1,a2⟩:=a;unfold cS;simp only [pR (zW a2),zbS];by_cases h:(a1,a2)=ofW (IntKind.i64.wrap a2)
 .have h':a1=(ofW (IntKind.i64.wrap a2)).1/\a2=(ofW (IntKind.i64.wrap a2)).2:=⟨congrArg Prod.fst h,congrArg Prod.snd h⟩;rw [if_pos h,if_neg (λhh=>hh h')];rfl
 .have h':¬(a1=(ofW (IntKind.i64.wrap a2)).1/\a2=(ofW (IntKind.i64.wrap a2)).2):=λhh=>h (Prod.ext hh.1 hh.2);rw [if_neg h,if_pos h'];rfl
theorem Fx(r:Int):og r=some (iy r):=by
 rw [Ck];unfold iy;by_cases h1:r >= 1
 .rw [if_pos h1,decide_eq_true (show 1<=r from h1)];simp
 .rw [if_neg h1,decide_eq_false (show¬1<=r from h1)];rfl
end Ev
end
end Go.Proofs.YtoamaaicfjkmhaaGreat
