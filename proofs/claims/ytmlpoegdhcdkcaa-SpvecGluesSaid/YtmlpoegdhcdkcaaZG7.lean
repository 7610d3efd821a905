/- Texts of a claim, joined. -/
import Derived.Test.YtmlpoegdhcdkcaaZG6
set_option linter.unusedVariables false
set_option linter.unusedSimpArgs false
namespace Go.Proofs.Ytmlpoegdhcdkcaa
noncomputable section
namespace Ev
namespace K
open Go Go.RowKit
section
variable {E : Env} {n : Nat} {F : KF} {ks : KS} {V : Vl} {f : Nat → D} {h : aj} {M tag nid : Nat} {op : Op} {G : KG} {D0 : Nat} {R : Type} {κ : KE → Option R} {r : R}
theorem rI{B:BK}{N:Nat}{d:KD}{cs:List KC}{d':D}(hk:kCs d=some cs)(hs:ScD N d)(hd:RD B V d d'):∃cs',eA d'=some cs'/\RCs B V cs cs'/\Scs N cs:=by
 cases d with
 |one c=>
  have:=Option.some.inj (show some [c]=some cs from hk)
  subst this;obtain⟨c',rfl,hc⟩:=hd;exact⟨[c'],rfl,.one hc,λx hx=>by rw [List.mem_singleton.1 hx];exact hs⟩
 |agg l=>
  have:=Option.some.inj (show some l=some cs from hk)
  subst this;obtain⟨c',rfl,hc⟩:=hd;exact⟨c',rfl,hc,hs⟩
 |tup ts=>simp [kCs]at hk
theorem eI{B:BK}{ag:Bool}{cs:List KC}{cs':List C}{d:KD}{N:Nat}(hk:kOf ag cs=some d)(hs:Scs N cs)(hr:RCs B V cs cs'):∃d',bJ ag cs'=some d'/\RD B V d d'/\ScD N d:=by
 unfold kOf at hk
 cases ag with
 |true=>
  have:=Option.some.inj (by simpa using hk)
  subst this;exact⟨.agg cs',rfl,⟨_,rfl,hr⟩,hs⟩
 |false=>
  cases cs with
  |nil=>simp at hk
  |cons c l=>cases l with
   |nil=>
    have:=Option.some.inj (by simpa using hk)
    subst this;obtain⟨y,rfl,hy⟩:=hr.one_inv;exact⟨.one y,rfl,⟨_,rfl,hy⟩,hs c (by simp)⟩
   |cons c2 l=>simp at hk
theorem Bh{e:Ty}{l:List e.val}{i:Nat}{y:e.val}:(l.map (bA e.row)).set i ((e.row y).map (pC true))=(l.set i y).map (bA e.row):=map_set (r:=bA e.row)
theorem GR(hG:GOk G E D0)(hr:Rel F ks V f h)(ht:ks.nx<=tag)(hn:ks.nx<=nid)(htM:tag<M){t:TypeId}{a:Operand}(hs:bw G F ks tag nid (.load t a) κ=some r):∃e,κ e=some r/\bI E n F ks V f h M tag nid (.load t a) e:=by
 simp only [bw]at hs;split at hs
 .rename_i z d hz hd;have hz':=wG hG hz;obtain⟨d',h1,h2,h3⟩:=aU hr hd
  cases d with
  |tup ts=>simp [fu]at hs
  |agg cs=>simp [fu]at hs
  |one c=>
   obtain⟨c',rfl,hc⟩:=h3
   cases c with
   |ptr p j=>
    simp only [fu]at hs;split at hs
    .rename_i cs hp;simp only [zbE]at hs;obtain⟨d2,⟨cs2,g1,g2⟩,g3⟩:=hs;obtain⟨g4,g5,sz,cs',g6,g7⟩:=hr.bl p _ hp;obtain⟨c2,g8,g9⟩:=g7.cut g1;obtain⟨d3,k1,k2,k3⟩:=eI g2 (fN g5 g1) g9;rw [show c'=_ from hc]at h1;exact⟨_,g3,aA ht hn htM (λk=>pG (L:= [[(V.id p,sz,[cs'])]]) 0 h1 hz' rfl rfl g8 k1 h k (fH g6)) k3 k2⟩
    .simp at hs
   |ip e fr x i y j=>
    simp only [fu,zbE]at hs;obtain⟨d2,⟨cs2,g1,g2⟩,g3⟩:=hs;obtain⟨fl,e1,e2,e3⟩:=hc;obtain⟨c2,g8,g9⟩:=(cC (B:=an F ks) (V:=V) e3 e y).cut g1;obtain⟨d3,k1,k2,k3⟩:=eI g2 (fN (dB ks.nx fr e y) g1) g9;rw [e1]at h1;exact⟨_,g3,aA ht hn htM (λk=>dE (L:= []) h1 hz' (cK e2) g8 k1 h k aD) k3 k2⟩
   |pe p i j=>
    simp only [fu]at hs;rw [hc.2]at h1;split at hs
    .rename_i e ne l hp;simp only [zbE]at hs;obtain⟨y,g0,d2,⟨cs2,g1,g2⟩,g3⟩:=hs;obtain⟨g4,g5,g6,_⟩:=hr.bl p _ hp;obtain⟨c2,g8,g9⟩:=(cC (B:=an F ks) (V:=V) (λ_=>rfl) e y).cut g1;obtain⟨d3,k1,k2,k3⟩:=eI g2 (fN (dB ks.nx true e y) g1) g9;exact⟨_,g3,aA ht hn htM (λk=>pG (L:= [[(V.id p,_,_)]]) 0 h1 hz' rfl (jY g0).2 g8 k1 h k (fH g6)) k3 k2⟩
    .rename_i e l hp;simp only [zbE]at hs;obtain⟨y,g0,d2,⟨cs2,g1,g2⟩,g3⟩:=hs;obtain⟨g4,g5,g6⟩:=hr.bl p _ hp;have g6:=g6 (wH g0);obtain⟨c2,g8,g9⟩:=(cC (B:=an F ks) (V:=V) (λ_=>rfl) e y).cut g1;obtain⟨d3,k1,k2,k3⟩:=eI g2 (fN (dB ks.nx true e y) g1) g9;exact⟨_,g3,aA ht hn htM (λk=>pG (L:= [[(V.id p,_,_)]]) 0 h1 hz' rfl (jY g0).2 g8 k1 h k (fH g6)) k3 k2⟩
    .simp at hs
   |_=>simp [fu]at hs
 .simp at hs
theorem ER(hG:GOk G E D0)(hr:Rel F ks V f h)(ht:ks.nx<=tag)(hn:ks.nx<=nid)(htM:tag<M){t:TypeId}{a x:Operand}(hs:bw G F ks tag nid (.store t a x) κ=some r):∃e,κ e=some r/\bI E n F ks V f h M tag nid (.store t a x) e:=by
 have hM:ks.nx<=M:=by omega
 simp only [bw]at hs;split at hs
 .rename_i z d v hz hd hx;have hz':=wG hG hz;obtain⟨d',h1,h2,h3⟩:=aU hr hd;obtain⟨v',x1,x2,x3⟩:=aU hr hx;unfold ra at hs;split at hs
  .simp at hs
  .rename_i cs hcs;obtain⟨cs',y1,y2,y3⟩:=rI hcs x2 x3;split at hs
   .rename_i hlen;have hlen':Nat.beq cs'.length z.1=true:=by rw [y2.len,hlen];exact Nat.beq_refl _
    split at hs
    .rename_i p j;obtain⟨c',rfl,hc⟩:=h3;rw [show c'=_ from hc]at h1;split at hs
     .rename_i es hp;simp only [zbE]at hs;obtain⟨es',g1,g2⟩:=hs;obtain⟨g4,g5,sz,es2,g6,g7⟩:=hr.bl p _ (ah hp (by simp));obtain⟨e3,k1,k2⟩:=g7.patch y2 g1;exact⟨_,g2,wE ht hn hM hp (by simp) trivial (uh g5 y3 g1) trivial (by intro z hz;simp at hz) (by intro z hz;simp [kUn]at hz) (λk=>(gr (L:= [[(V.id p,sz,[es2])]]) 0 h1 x1 y1 hz' hlen' rfl rfl k1 rfl).2 h k (fH g6)) ⟨[],rfl,rfl⟩ ⟨sz,e3,rfl,k2⟩⟩
     .simp at hs
    .rename_i p i j;obtain⟨c',rfl,hc⟩:=h3;rw [hc.2]at h1;split at hs
     .rename_i e ne l hp;split at hs
      .rename_i hfr;simp only [zbE]at hs;obtain⟨y,g0,es',g1,y',g2,g3⟩:=hs;obtain⟨g4,g5,g6,g7⟩:=hr.bl p _ (ah hp (by simp));obtain⟨e3,k1,k2⟩:=(cC (B:=an F ks) (V:=V) (λ_=>rfl) e y).patch y2 g1
       have hfr2:es'.all frC=true:=by
        have hk:∀c∈bU true e y,frC c=true:=fr_kcells e y;unfold Ev.patch at g1;split at g1
        .rw [<-Option.some.inj g1,List.all_append,List.all_append,hfr];rw [List.all_eq_true.2 λc hc=>hk c (List.mem_of_mem_take hc),List.all_eq_true.2 λc hc=>hk c (List.mem_of_mem_drop hc)];rfl
        .simp at g1
       have:=jW g2 hfr2 k2
       subst this;refine⟨_,g3,wE ht hn hM hp (by simp) trivial trivial ⟨_,_,_,rfl,by rw [List.length_set]⟩ (by intro z hz;simp at hz) (by intro z hz;simp [kUn]at hz) (λk=>(gr (L:= [[(V.id p,_,_)]]) 0 h1 x1 y1 hz' hlen' rfl (jY g0).2 k1 rfl).2 h k (fH g6)) ⟨[],rfl,rfl⟩ ⟨by rw [Bh],λhne=> ?_⟩⟩
       have:=g7 hne
       intro he;exact this (by have:=congrArg List.length he;rw [List.length_set]at this;exact List.length_eq_zero_iff.1 this)
      .simp at hs
     .rename_i e l hp;split at hs
      .rename_i hfr;simp only [zbE]at hs;obtain⟨y,g0,es',g1,y',g2,g3⟩:=hs;obtain⟨g4,g5,g6⟩:=hr.bl p _ (ah hp (by simp));have hne:=wH g0;have g6:=g6 hne;obtain⟨e3,k1,k2⟩:=(cC (B:=an F ks) (V:=V) (λ_=>rfl) e y).patch y2 g1
       have hfr2:es'.all frC=true:=by
        have hk:∀c∈bU true e y,frC c=true:=fr_kcells e y;unfold Ev.patch at g1;split at g1
        .rw [<-Option.some.inj g1,List.all_append,List.all_append,hfr];rw [List.all_eq_true.2 λc hc=>hk c (List.mem_of_mem_take hc),List.all_eq_true.2 λc hc=>hk c (List.mem_of_mem_drop hc)];rfl
        .simp at g1
       have:=jW g2 hfr2 k2
       subst this;exact⟨_,g3,wE ht hn hM hp (by simp) hne trivial ⟨_,_,rfl,by rw [List.length_set]⟩ (by intro z hz;simp at hz) (by intro z hz;simp [kUn]at hz) (λk=>(gr (L:= [[(V.id p,_,_)]]) 0 h1 x1 y1 hz' hlen' rfl (jY g0).2 k1 rfl).2 h k (fH g6)) ⟨[],rfl,rfl⟩ (by rw [Bh];rfl)⟩
      .simp at hs
     .simp at hs
    .simp at hs
   .simp at hs
 .simp at hs
where
 fr_kcells:∀(e:Ty) (y:e.val),∀c∈bU true e y,frC c=true
  | .I _,_=>λc hc=>by rw [List.mem_singleton.1 hc];rfl
  | .B,_=>λc hc=>by rw [List.mem_singleton.1 hc];rfl
  | .S _,_=>λc hc=>by rw [List.mem_singleton.1 hc];rfl
  | .U,_=>λc hc=>by simp [bU]at hc
  | .C a b,x=>λc hc=>by
   rcases List.mem_append.1 (show c∈bU true a x.1++bU true b x.2 from hc)with h|h
   .exact fr_kcells a x.1 c h
   .exact fr_kcells b x.2 c h
theorem Bi(hr:Rel F ks V f h)(ht:ks.nx<=tag)(hn:ks.nx<=nid)(htM:tag<M){x:Operand}{o:Op}(ho:o= .move x∨o= .assign x)(hs:(kO F ks x).bind (λd=>κ ⟨d,none,none⟩)=some r):∃e,κ e=some r/\bI E n F ks V f h M tag nid o e:=by
 simp only [zbE]at hs;obtain⟨d,hx,hk⟩:=hs;obtain⟨d',h1,h2,h3⟩:=aU hr hx;rcases ho with rfl|rfl
 .exact⟨_,hk,aA ht hn htM (λk=>Ej (L:= []) h1 h k aD) h2 h3⟩
 .exact⟨_,hk,aA ht hn htM (λk=>xQ (L:= []) h1 h k aD) h2 h3⟩
theorem ES(hG:GOk G E D0)(ht:ks.nx<=tag)(hn:ks.nx<=nid)(htM:tag<M)(hnM:nid<M){t:TypeId}(hs:bw G F ks tag nid (.alloc t) κ=some r):∃e,κ e=some r/\bI E n F ks V f h M tag nid (.alloc t) e:=by
 simp only [bw]at hs;split at hs
 .rename_i i hi;refine⟨_,hs,iV (by omega) ht hn (λ_=>⟨wB _ _,by simp⟩) hnM (by simp) λk=> .inl ⟨trivial,_,_,dF (L:= []) (hG.ti _ _ hi) rfl rfl h k aD,⟨_,rfl,?_⟩,_,_,rfl,jX _⟩⟩;show C.ptr k 0 0= .ptr _ 0 0;rw [Vl.set_id]
 .simp at hs
theorem IW(hG:GOk G E D0)(hr:Rel F ks V f h)(ht:ks.nx<=tag)(hn:ks.nx<=nid)(htM:tag<M)(hnM:nid<M){t:TypeId}{x:Operand}(hs:bw G F ks tag nid (.box t x) κ=some r):∃e,κ e=some r/\bI E n F ks V f h M tag nid (.box t x) e:=by
 simp only [bw]at hs;split at hs
 .rename_i i cs hi hcs;simp only [zbE]at hcs;obtain⟨d,hd,hcs⟩:=hcs;obtain⟨d',h1,h2,h3⟩:=aU hr hd;obtain⟨cs',y1,y2,y3⟩:=rI hcs h2 h3;refine⟨_,hs,iV (by omega) ht hn (λ_=>⟨y3,by simp⟩) hnM (by simp) λk=> .inl ⟨trivial,_,_,oK (L:= []) (hG.ti _ _ hi) h1 y1 rfl h k aD,⟨_,rfl,?_⟩,_,_,rfl,y2.mono y3 (wD hn (λp b hb=>by simp at hb) (λb hb=>by simp at hb;subst hb;simp)) (Vl.set_agree hn ht)⟩⟩;show C.ptr k 0 0= .ptr _ 0 0;rw [Vl.set_id]
 .simp at hs
theorem wI(hG:GOk G E D0)(hr:Rel F ks V f h)(ht:ks.nx<=tag)(hn:ks.nx<=nid)(htM:tag<M){t:TypeId}{x:Operand}{m:Nat}(hs:bw G F ks tag nid (.fieldAddr t x m) κ=some r):∃e,κ e=some r/\bI E n F ks V f h M tag nid (.fieldAddr t x m) e:=by
 simp only [bw]at hs;split at hs
 .rename_i off sz ag p j hf hx;obtain⟨d',h1,h2,c',rfl,hc⟩:=aU hr hx;split at hs
  .simp at hs
  .rename_i hz;rw [show c'=_ from hc]at h1;exact⟨_,hs,aA ht hn htM (λk=>ao (L:= []) h1 (pN hG hf) (by cases hb:Nat.beq sz 0 with|true=>exact absurd (Nat.eq_of_beq_eq_true hb) hz|false=>rfl) h k aD) h2 ⟨_,rfl,rfl⟩⟩
 .rename_i off sz ag p i j hf hx;obtain⟨d',h1,h2,c',rfl,hc⟩:=aU hr hx;split at hs
  .simp at hs
  .rename_i hz;rw [hc.2]at h1;exact⟨_,hs,aA ht hn htM (λk=>ao (L:= []) h1 (pN hG hf) (by cases hb:Nat.beq sz 0 with|true=>exact absurd (Nat.eq_of_beq_eq_true hb) hz|false=>rfl) h k aD) h2 ⟨_,rfl,hc.1,rfl⟩⟩
 .rename_i off sz ag e fr s i y j hf hx;obtain⟨d',h1,h2,c',rfl,fl,hc,hc2,hc3⟩:=aU hr hx;split at hs
  .simp at hs
  .rename_i hz;rw [hc]at h1;exact⟨_,hs,aA ht hn htM (λk=>gD (L:= []) h1 (pN hG hf) (by cases hb:Nat.beq sz 0 with|true=>exact absurd (Nat.eq_of_beq_eq_true hb) hz|false=>rfl) h k aD) h2 ⟨_,rfl,fl,rfl,hc2,hc3⟩⟩
 .simp at hs
theorem ET(hG:GOk G E D0)(hr:Rel F ks V f h)(ht:ks.nx<=tag)(hn:ks.nx<=nid)(htM:tag<M){t:TypeId}{x:Operand}{m:Nat}(hs:bw G F ks tag nid (.field t x m) κ=some r):∃e,κ e=some r/\bI E n F ks V f h M tag nid (.field t x m) e:=by
 simp only [bw]at hs;split at hs
 .rename_i off sz ag cs hf hx;simp only [zbE]at hs;obtain⟨d2,⟨cs2,g1,g2⟩,g3⟩:=hs;obtain⟨d',h1,h2,cs',rfl,hc⟩:=aU hr hx;obtain⟨c2,g8,g9⟩:=hc.cut g1;obtain⟨d3,k1,k2,k3⟩:=eI g2 (fN h2 g1) g9;exact⟨_,g3,aA ht hn htM (λk=>El (L:= []) h1 (pN hG hf) g8 k1 h k aD) k3 k2⟩
 .simp at hs
theorem Bj{B:BK}:∀{l:List (Bool×List KC)} {ds:List D} {i:Nat} {x:Bool×List KC},RTs B V l ds->l[i]? =some x->∃d,ds[i]? =some d/\RD1 B V (mkD x) d
 | [],ds,i,x,hr,hx=>by simp at hx
 |y::l,ds,0,x,⟨d,s,hd,h1,h2⟩,hx=>by simp at hx;subst hx hd;exact⟨d,rfl,h1⟩
 |y::l,ds,i+1,x,⟨d,s,hd,h1,h2⟩,hx=>by subst hd;simpa using Bj h2 (by simpa using hx)
theorem zT{B:BK}{k:KD}{d:D}(h:RD1 B V k d):RD B V k d:=by
 cases k with
 |one c=>exact h
 |agg cs=>exact h
 |tup ts=>exact h.elim
theorem zU(hr:Rel F ks V f h)(ht:ks.nx<=tag)(hn:ks.nx<=nid)(htM:tag<M){x:Operand}{i:Nat}(hs:bw G F ks tag nid (.extract x i) κ=some r):∃e,κ e=some r/\bI E n F ks V f h M tag nid (.extract x i) e:=by
 simp only [bw]at hs;split at hs
 .rename_i ds hx;simp only [zbE]at hs;obtain⟨d,g1,g2⟩:=hs;obtain⟨d',h1,h2,ds',rfl,hc⟩:=aU hr hx;obtain⟨d3,k1,k2⟩:=Bj hc g1;exact⟨_,g2,aA ht hn htM (λk=>xS (L:= []) h1 k1 h k aD) (pL (h2 _ (List.mem_of_getElem? g1))) (zT k2)⟩
 .simp at hs
theorem GS(hr:Rel F ks V f h)(ht:ks.nx<=tag)(hn:ks.nx<=nid)(htM:tag<M){o:UnOp}{t:TypeId}{x:Operand}(hs:bw G F ks tag nid (.unOp o t x) κ=some r):∃e,κ e=some r/\bI E n F ks V f h M tag nid (.unOp o t x) e:=by
 simp only [bw]at hs;split at hs
 .rename_i v hx;obtain⟨d',h1,h2,c',rfl,hc⟩:=aU hr hx;rw [show c'=_ from hc]at h1;exact⟨_,hs,aA ht hn htM (λk=>xR (L:= []) h1 h k aD) trivial ⟨_,rfl,rfl⟩⟩
 .rename_i tg P d hx;obtain⟨d',h1,h2,c',rfl,hc,hc2⟩:=aU hr hx;rw [hc]at h1;refine⟨_,hs,cL ht hn htM (λk=>xR (L:= []) h1 h k aD) ?_⟩;rw [hc2];by_cases hP:P<;>simp [hP]
 .rename_i v hx;obtain⟨d',h1,h2,c',rfl,hc⟩:=aU hr hx;rw [show c'=_ from hc]at h1;refine⟨_,hs,cL ht hn htM (λk=>xR (L:= []) h1 h k aD) ?_⟩;cases v<;>rfl
 .rename_i k v hx;obtain⟨d',h1,h2,c',rfl,hc⟩:=aU hr hx;rw [show c'=_ from hc]at h1;exact⟨_,hs,aA ht hn htM (λk=>Mg (L:= []) h1 h k aD) trivial ⟨_,rfl,rfl⟩⟩
 .rename_i k v hx;obtain⟨d',h1,h2,c',rfl,hc⟩:=aU hr hx;rw [show c'=_ from hc]at h1;exact⟨_,hs,aA ht hn htM (λk=>GJ (L:= []) h1 h k aD) trivial ⟨_,rfl,rfl⟩⟩
 .simp at hs
theorem EU{P:Program}{src dst:TypeId}{d1:TypeDesc}{k k2:IntKind}{a:Int}(h1:P.underlying src=some d1)(h2:P.underlying dst=some (.int k2)):ae P (Go.convert src dst (.int k a))=some (.int k2 (k2.wrap a)):=by
 unfold Go.convert;simp only [bF,mL h1,mL h2,zbS];cases d1<;>rfl
theorem zV(hG:GOk G E D0)(hr:Rel F ks V f h)(ht:ks.nx<=tag)(hn:ks.nx<=nid)(htM:tag<M){s t:TypeId}{x:Operand}(hs:bw G F ks tag nid (.convert s t x) κ=some r):∃e,κ e=some r/\bI E n F ks V f h M tag nid (.convert s t x) e:=by
 simp only [bw]at hs;split at hs
 .rename_i si di k a h1 h2 hx;split at hs
  .rename_i k1 k2 g1 g2;split at hs
   .obtain⟨d',e1,e2,c',rfl,hc⟩:=aU hr hx;rw [show c'=_ from hc]at e1;have u1:=hG.ok.1.1 _ _ (hG.ti _ _ h1);have u2:=hG.ok.1.1 _ _ (hG.ti _ _ h2);rw [g2]at u2;exact⟨_,hs,aA ht hn htM (λk=>IC (L:= []) e1 (EU u1 u2) rfl h k aD) trivial ⟨_,rfl,rfl⟩⟩
   .simp at hs
  .simp at hs
 .simp at hs
end
end K
end Ev
end
noncomputable section
namespace Ev
namespace K
open Go Go.RowKit
section
variable {E : Env} {n : Nat} {F : KF} {ks : KS} {V : Vl} {f : Nat → D} {h : aj} {M tag nid : Nat} {op : Op} {G : KG} {D0 : Nat} {R : Type} {κ : KE → Option R} {r : R}
theorem wJ{L:BL}{nt:Nat}{bop:BinOp}{ty sh e:TypeId}{x:Operand}{t:TI}{fr nn:Bool}{sz:Nat}{l:List (List T)}(hx:ov nt f x=some (.one (.p fr (.s nn sz l))))(ht:E.ti ty=some t)(he:aG t=some e):PS E n nt f L (.binOp .eql ty x (.const (.slice none 0 0)) sh) (bD (!nn))/\PS E n nt f L (.binOp .neq ty x (.const (.slice none 0 0)) sh) (bD nn):=by
 constructor<;>intro h nid hb
 all_goals
  rw [xL,aT,hx];show((E.ti ty).bind λt=>(aG t).bind λe=>_)=_;rw [ht];simp only [zbS,he];rfl
theorem EW{L:BL}{nt:Nat}{bop:BinOp}{ty sh e:TypeId}{x:Operand}{t:TI}{k i m:Nat}(hx:ov nt f x=some (.one (.own k i m)))(ht:E.ti ty=some t)(he:aG t=some e):PS E n nt f L (.binOp .eql ty x (.const (.slice none 0 0)) sh) (bD false)/\PS E n nt f L (.binOp .neq ty x (.const (.slice none 0 0)) sh) (bD true):=by
 constructor<;>intro h nid hb
 all_goals
  rw [xL,aT,hx];show((E.ti ty).bind λt=>(aG t).bind λe=>_)=_;rw [ht];simp only [zbS,he];rfl
theorem rJ{y:Operand}(h:rt y=true):y= .const (.slice none 0 0):=by
 unfold rt at h;split at h
 .rfl
 .simp at h
theorem uk{B:BK}:∀{kinds:List IntKind} {cs ds:List KC} {l:List (Int×Int)} {cs' ds':List C},ep kinds cs ds=some l->RCs B V cs cs'->RCs B V ds ds'->dH cs'=some ((kinds.zip l).map λz=>Value.int z.1 z.2.1)/\dH ds'=some ((kinds.zip l).map λz=>Value.int z.1 z.2.2)/\l.length=kinds.length
 | [],[],[],l,cs',ds',hz,hc,hd=>by
  have:=Option.some.inj (show some []=some l from hz)
  subst this;rw [show cs'= []from hc,show ds'= []from hd];exact⟨rfl,rfl,rfl⟩
 |k::ks,.n k1 x::r,.n k2 y::s,l,cs',ds',hz,⟨c,c2,e1,h1,h2⟩,⟨d,d2,e2,h3,h4⟩=>by
  simp only [ep]at hz;split at hz
  .rename_i hk;obtain⟨rfl,rfl⟩:=hk;rw [Option.map_eq_some_iff]at hz;obtain⟨l2,g1,rfl⟩:=hz;obtain⟨k1,k2,k3⟩:=uk g1 h2 h4;subst e1 e2;rw [show c=_ from h1,show d=_ from h3];refine⟨?_,?_,by simp [k3]⟩
   .show(do some ((<-kJ (iC _ x))::(<-dH c2)))=_;rw [k1];rfl
   .show(do some ((<-kJ (iC _ y))::(<-dH d2)))=_;rw [k2];rfl
  .simp at hz
 | [],c::_,_,_,_,_,hz,_,_=>by simp [ep]at hz
 | [],[],_::_,_,_,_,hz,_,_=>by simp [ep]at hz
 |_::_,[],_,_,_,_,hz,_,_=>by simp [ep]at hz
 |_::_,.n _ _::_,[],_,_,_,hz,_,_=>by simp [ep]at hz
 |_::_,.n _ _::_,.b _::_,_,_,_,hz,_,_=>by simp [ep]at hz
 |_::_,.n _ _::_,.p _ _ _::_,_,_,_,hz,_,_=>by simp [ep]at hz
 |_::_,.n _ _::_,.bv _::_,_,_,_,hz,_,_=>by simp [ep]at hz
 |_::_,.n _ _::_,.v _::_,_,_,_,hz,_,_=>by simp [ep]at hz
 |_::_,.n _ _::_,.nil::_,_,_,_,hz,_,_=>by simp [ep]at hz
 |_::_,.n _ _::_,.s _ _ _::_,_,_,_,hz,_,_=>by simp [ep]at hz
 |_::_,.n _ _::_,.o _ _::_,_,_,_,hz,_,_=>by simp [ep]at hz
 |_::_,.n _ _::_,.m _ _::_,_,_,_,hz,_,_=>by simp [ep]at hz
 |_::_,.n _ _::_,.ptr _ _::_,_,_,_,hz,_,_=>by simp [ep]at hz
 |_::_,.n _ _::_,.pe _ _ _::_,_,_,_,hz,_,_=>by simp [ep]at hz
 |_::_,.n _ _::_,.ip _ _ _ _ _ _::_,_,_,_,hz,_,_=>by simp [ep]at hz
 |_::_,.n _ _::_,.clo _ _::_,_,_,_,hz,_,_=>by simp [ep]at hz
 |_::_,.n _ _::_,.yld _::_,_,_,_,hz,_,_=>by simp [ep]at hz
 |_::_,.b _::_,_,_,_,_,hz,_,_=>by simp [ep]at hz
 |_::_,.p _ _ _::_,_,_,_,_,hz,_,_=>by simp [ep]at hz
 |_::_,.bv _::_,_,_,_,_,hz,_,_=>by simp [ep]at hz
 |_::_,.v _::_,_,_,_,_,hz,_,_=>by simp [ep]at hz
 |_::_,.nil::_,_,_,_,_,hz,_,_=>by simp [ep]at hz
 |_::_,.s _ _ _::_,_,_,_,_,hz,_,_=>by simp [ep]at hz
 |_::_,.o _ _::_,_,_,_,_,hz,_,_=>by simp [ep]at hz
 |_::_,.m _ _::_,_,_,_,_,hz,_,_=>by simp [ep]at hz
 |_::_,.ptr _ _::_,_,_,_,_,hz,_,_=>by simp [ep]at hz
 |_::_,.pe _ _ _::_,_,_,_,_,hz,_,_=>by simp [ep]at hz
 |_::_,.ip _ _ _ _ _ _::_,_,_,_,_,hz,_,_=>by simp [ep]at hz
 |_::_,.clo _ _::_,_,_,_,_,hz,_,_=>by simp [ep]at hz
 |_::_,.yld _::_,_,_,_,_,hz,_,_=>by simp [ep]at hz
theorem eL{P:Prop}{d:Decidable P}{b:Bool}(h:b=true↔P):b= @decide P d:=by
 by_cases hP:P
 .rw [h.2 hP,decide_eq_true hP]
 .cases b with
  |true=>exact absurd (h.1 rfl) hP
  |false=>rw [decide_eq_false hP]
theorem IX(ht:ks.nx<=tag)(hn:ks.nx<=nid)(htM:tag<M){bop:BinOp}{ty sh:TypeId}{x y:Operand}{k k':IntKind}{a b:Int}(hx:ov F.nt f x=some (.one (iC k a)))(hy:ov F.nt f y=some (.one (iC k' b)))(hs:IQ tag bop k k' a b κ=some r):∃e,κ e=some r/\bI E n F ks V f h M tag nid (.binOp bop ty x y sh) e:=by
 unfold IQ at hs;split at hs
 .simp only [zbE]at hs;obtain⟨z,h1,h2⟩:=hs;exact⟨_,h2,aA ht hn htM (λq=>fy (L:= []) hx hy (Mm h1) rfl h q aD) trivial ⟨_,rfl,rfl⟩⟩
 .simp only [zbE]at hs;obtain⟨z,h1,h2⟩:=hs;exact⟨_,h2,aA ht hn htM (λq=>fy (L:= []) hx hy (Ml h1) rfl h q aD) trivial ⟨_,rfl,rfl⟩⟩
 .split at hs
  .rename_i hk;subst hk;split at hs
   .exact⟨_,hs,aA ht hn htM (λq=>fy (L:= []) hx hy (HG _ _ _ _ _ _ _) rfl h q aD) trivial ⟨_,rfl,rfl⟩⟩
   .exact⟨_,hs,aA ht hn htM (λq=>fy (L:= []) hx hy (HH _ _ _ _ _ _ _) rfl h q aD) trivial ⟨_,rfl,rfl⟩⟩
   .exact⟨_,hs,aA ht hn htM (λq=>fy (L:= []) hx hy (LZ _ _ _ _ _ _ _) rfl h q aD) trivial ⟨_,rfl,rfl⟩⟩
   .exact⟨_,hs,aA ht hn htM (λq=>fy (L:= []) hx hy (Mo _ _ _ _ _ _ _) rfl h q aD) trivial ⟨_,rfl,rfl⟩⟩
   .exact⟨_,hs,aA ht hn htM (λq=>fy (L:= []) hx hy (MW _ _ _ _ _ _ _) rfl h q aD) trivial ⟨_,rfl,rfl⟩⟩
   .exact⟨_,hs,aA ht hn htM (λq=>fy (L:= []) hx hy (Mp _ _ _ _ _ _ _) rfl h q aD) trivial ⟨_,rfl,rfl⟩⟩
   .exact⟨_,hs,aA ht hn htM (λq=>fy (L:= []) hx hy (Et _ _ _ _ _ _ _) rfl h q aD) trivial ⟨_,rfl,rfl⟩⟩
   .simp only [zbE]at hs;obtain⟨z,h1,h2⟩:=hs;exact⟨_,h2,aA ht hn htM (λq=>fy (L:= []) hx hy (IH h1) rfl h q aD) trivial ⟨_,rfl,rfl⟩⟩
   .simp only [zbE]at hs;obtain⟨z,h1,h2⟩:=hs;exact⟨_,h2,aA ht hn htM (λq=>fy (L:= []) hx hy (II h1) rfl h q aD) trivial ⟨_,rfl,rfl⟩⟩
   .exact⟨_,hs,cL ht hn htM (λq=>fy (L:= []) hx hy (DS _ _ _ _ _ _ _) rfl h q aD) (eL (by simp))⟩
   .exact⟨_,hs,cL ht hn htM (λq=>fy (L:= []) hx hy (DT _ _ _ _ _ _ _) rfl h q aD) (eL (by simp))⟩
   .exact⟨_,hs,cL ht hn htM (λq=>fy (L:= []) hx hy (DO _ _ _ _ _ _ _) rfl h q aD) (eL (by simp))⟩
   .exact⟨_,hs,cL ht hn htM (λq=>fy (L:= []) hx hy (DP _ _ _ _ _ _ _) rfl h q aD) (eL (by simp))⟩
   .exact⟨_,hs,cL ht hn htM (λq=>fy (L:= []) hx hy (DQ _ _ _ _ _ _ _) rfl h q aD) (eL (by simp))⟩
   .exact⟨_,hs,cL ht hn htM (λq=>fy (L:= []) hx hy (DR _ _ _ _ _ _ _) rfl h q aD) (eL (by simp))⟩
   .simp at hs
  .simp at hs
theorem GT{P:Program}{t:TypeId}(hu:P.underlying t=some .bool)(x y:Operand)(a b:Bool):ae P (do eqGuard .eql t x y (.bool a) (.bool b);binOp .eql t (.bool a) (.bool b))=some (.bool (a==b))/\ae P (do eqGuard .neq t x y (.bool a) (.bool b);binOp .neq t (.bool a) (.bool b))=some (.bool (!(a==b))):=by
 have h0:∀d,ae P (Op.equalIn (d+1) t (.bool a) (.bool b))=some (a==b):=λd=>by
  simp only [Op.equalIn,bF,mL hu,zbS];rfl
 have h:ae P (Op.equalIn 10000 t (.bool a) (.bool b))=some (a==b):=h0 9999;constructor
 .have h1:ae P (eqGuard .eql t x y (.bool a) (.bool b))=some ():=rfl;rw [bF,h1];show ae P (binOp .eql t (.bool a) (.bool b))=_;have h2:binOp .eql t (.bool a) (.bool b)=(do pure (.bool (<-Op.equal t (.bool a) (.bool b)))):=rfl;rw [h2,bF];unfold Op.equal Op.maxDepth;rw [h];rfl
 .have h1:ae P (eqGuard .neq t x y (.bool a) (.bool b))=some ():=rfl;rw [bF,h1];show ae P (binOp .neq t (.bool a) (.bool b))=_;have h2:binOp .neq t (.bool a) (.bool b)=(do pure (.bool (!(<-Op.equal t (.bool a) (.bool b))))):=rfl;rw [h2,bF];unfold Op.equal Op.maxDepth;rw [h];rfl
theorem Cz(hG:GOk G E D0){t:TypeId}(h:wu G.ti t=true):E.P.underlying t=some .bool:=by
 unfold wu at h;split at h
 .rename_i i hi;have hu:=hG.ok.ti.und _ _ (hG.ti _ _ hi);split at h
  .rename_i hd;rw [hu,hd]
  .simp at h
 .simp at h
theorem yj{B:BK}{V:Vl}{c:KC}{c':C}{x:Bool}(h:AX c=some x)(hr:RC B V c c'):c'=bC x:=by
 cases c with
 |b v=>cases h;exact hr
 |p tag P d=>cases h;obtain⟨h1,h2⟩:=hr;rw [h1,h2]
 |bv v=>cases h;exact hr
 |_=>simp [AX]at h
theorem IY(hG:GOk G E D0)(hr:Rel F ks V f h)(ht:ks.nx<=tag)(hn:ks.nx<=nid)(htM:tag<M){bop:BinOp}{ty sh:TypeId}{x y:Operand}(hs:bw G F ks tag nid (.binOp bop ty x y sh) κ=some r):∃e,κ e=some r/\bI E n F ks V f h M tag nid (.binOp bop ty x y sh) e:=by
 simp only [bw]at hs;split at hs
 .rename_i a b hx hy;obtain⟨a',x1,x2,x3⟩:=aU hr hx;obtain⟨b',y1,y2,y3⟩:=aU hr hy;unfold Ge at hs;split at hs
  .obtain⟨c1,rfl,e1⟩:=x3;obtain⟨c2,rfl,e2⟩:=y3;rw [show c1=_ from e1]at x1;rw [show c2=_ from e2]at y1;exact IX ht hn htM x1 y1 hs
  .split at hs
   .rename_i z hn1 hel;obtain⟨te,e,zz⟩:=z;obtain⟨t,i2,g1,g2,_⟩:=cg hG hel
    have:=rJ hn1
    subst this;obtain⟨c1,rfl,fl,e1,e2⟩:=x3;rw [e1]at x1;simp only [zbE]at hs;obtain⟨c,k1,k2⟩:=hs;unfold nS at k1;split at k1
    .cases k1;exact⟨_,k2,cL ht hn htM (λq=>(wJ (bop:= .eql) (L:= []) x1 g1 g2).1 h q aD) (eL (by simp))⟩
    .cases k1;exact⟨_,k2,cL ht hn htM (λq=>(wJ (bop:= .eql) (L:= []) x1 g1 g2).2 h q aD) (eL (by simp))⟩
    .simp at k1
   .simp at hs
  .split at hs
   .rename_i z e1 ne l hn1 hel hB;obtain⟨te,e,zz⟩:=z;obtain⟨t,i2,g1,g2,_⟩:=cg hG hel
    have:=rJ hn1
    subst this;obtain⟨c1,rfl,e1⟩:=x3;rw [e1 _ _ _ hB]at x1;simp only [zbE]at hs;obtain⟨c,k1,k2⟩:=hs;unfold AW at k1;split at k1
    .cases k1;exact⟨_,k2,aA ht hn htM (λq=>(EW (bop:= .eql) (L:= []) x1 g1 g2).1 h q aD) trivial ⟨_,rfl,rfl⟩⟩
    .cases k1;exact⟨_,k2,aA ht hn htM (λq=>(EW (bop:= .eql) (L:= []) x1 g1 g2).2 h q aD) trivial ⟨_,rfl,rfl⟩⟩
    .simp at k1
   .simp at hs
  .split at hs
   .rename_i z hn1 hel;obtain⟨te,e,zz⟩:=z;obtain⟨t,i2,g1,g2,_⟩:=cg hG hel
    have:=rJ hn1
    subst this;obtain⟨c1,rfl,e1⟩:=x3;rw [show c1=_ from e1]at x1;simp only [zbE]at hs;obtain⟨c,k1,k2⟩:=hs;unfold AW at k1;split at k1
    .cases k1;exact⟨_,k2,aA ht hn htM (λq=>(wJ (bop:= .eql) (L:= []) x1 g1 g2).1 h q aD) trivial ⟨_,rfl,rfl⟩⟩
    .cases k1;exact⟨_,k2,aA ht hn htM (λq=>(wJ (bop:= .eql) (L:= []) x1 g1 g2).2 h q aD) trivial ⟨_,rfl,rfl⟩⟩
    .simp at k1
   .simp at hs
  .rename_i cs ds;split at hs
   .rename_i kinds hk;split at hs
    .rename_i l hz;obtain⟨cs',rfl,e1⟩:=x3;obtain⟨ds',rfl,e2⟩:=y3;obtain⟨p1,p2,p3⟩:=uk hz e1 e2;obtain⟨q1,q2⟩:=hG.eqs _ _ hk x y l p3
     have a1:plain (.agg cs')=some (.agg ((kinds.zip l).map λz=>Value.int z.1 z.2.1).toArray):=by
      show(dH cs').bind (λa=>some (Value.agg a.toArray))=_;rw [p1];rfl
     have a2:plain (.agg ds')=some (.agg ((kinds.zip l).map λz=>Value.int z.1 z.2.2).toArray):=by
      show(dH ds').bind (λa=>some (Value.agg a.toArray))=_;rw [p2];rfl
     simp only [zbE]at hs;obtain⟨c,k1,k2⟩:=hs;unfold nS at k1;split at k1
     .cases k1;exact⟨_,k2,cL ht hn htM (λq=>wg (L:= []) x1 y1 a1 a2 q1 rfl h q aD) rfl⟩
     .cases k1;refine⟨_,k2,cL ht hn htM (λq=>wg (L:= []) x1 y1 a1 a2 q2 rfl h q aD) (eL ?_)⟩
      have:= @decide_eq_true_iff (eqP l) (eqD l)
      by_cases hp:eqP l
      .simp [hp]
      .simp [hp]
     .simp at k1
    .simp at hs
   .simp at hs
  .split at hs
   .rename_i u v hT hu hv;have hb:=GT (Cz hG hT) x y u v;obtain⟨c1,rfl,e1⟩:=x3;obtain⟨c2,rfl,e2⟩:=y3;rw [yj hu e1]at x1;rw [yj hv e2]at y1;simp only [zbE]at hs;obtain⟨c,k1,k2⟩:=hs;unfold nS at k1;split at k1
    .cases k1;exact⟨_,k2,cL ht hn htM (λq=>Ek (L:= []) x1 y1 hb.1 rfl h q aD) (eL (by simp))⟩
    .cases k1;exact⟨_,k2,cL ht hn htM (λq=>Ek (L:= []) x1 y1 hb.2 rfl h q aD) (eL (by simp))⟩
    .simp at k1
   .simp at hs
  .simp at hs
 .simp at hs
end
end K
end Ev
end
noncomputable section
namespace Ev
namespace K
open Go Go.RowKit
section
variable {E : Env} {n : Nat} {F : KF} {ks : KS} {V : Vl} {f : Nat → D} {h : aj} {M tag nid : Nat} {op : Op} {G : KG} {D0 : Nat} {R : Type} {κ : KE → Option R} {r : R}
theorem rK{B:BK}{N:Nat}{pl:Nat->Option (Nat×Nat)}:∀{ps:List (Nat×KD)} {ps':List (Nat×D)} {cs cs2:List KC} {cs':List C},yf pl cs ps=some cs2->RCs B V cs cs'->Scs N cs->(∀x∈ps,ScD N x.2)->ps'.map (·.1)=ps.map (·.1)->RDl B V (ps.map (·.2)) (ps'.map (·.2))->∃cs3,fill pl cs' ps'=some cs3/\RCs B V cs2 cs3/\Scs N cs2
 | [],[],cs,cs2,cs',hk,hr,hs,hps,h1,h2=>by
  have:=Option.some.inj (show some cs=some cs2 from hk)
  subst this;exact⟨cs',rfl,hr,hs⟩
 | [],y::ps',cs,cs2,cs',hk,hr,hs,hps,h1,h2=>by simp at h1
 |x::ps,[],cs,cs2,cs',hk,hr,hs,hps,h1,h2=>by simp at h1
 |(i,d)::ps,(j,d')::ps',cs,cs2,cs',hk,hr,hs,hps,h1,h2=>by
  simp only [List.map_cons,List.cons.injEq]at h1;obtain⟨rfl,h1⟩:=h1;obtain⟨d2,s,h3,h4,h5⟩:=h2;simp only [List.map_cons,List.cons.injEq]at h3;obtain⟨rfl,rfl⟩:=h3;simp only [yf]at hk;split at hk
  .rename_i off size c hpl hc;split at hk
   .rename_i hlen;simp only [zbE]at hk;obtain⟨c2,g1,g2⟩:=hk;obtain⟨c',e1,e2,e3⟩:=rI hc (hps (j,d) (by simp)) h4;obtain⟨c3,k1,k2⟩:=hr.patch e2 g1;obtain⟨c4,k3,k4,k5⟩:=rK g2 k2 (uh hs e3 g1) (λx hx=>hps x (by simp [hx])) h1 h5;refine⟨c4,?_,k4,k5⟩;simp only [fill,zbB,hpl,zbS,e1];rw [if_pos (by rw [e2.len];exact hlen),k1];exact k3
   .simp at hk
  .simp at hk
theorem um{α:Type}{g g':α->Option (Nat×Nat)}(hg:∀a b,g a=some b->g' a=some b):∀{l:List α} {r:List (Nat×Nat)},kPlaces.seqP (l.map g)=some r->l.mapM g'=some r
 | [],r,hs=>by
  have:=Option.some.inj (show some []=some r from hs)
  subst this;rfl
 |a::l,r,hs=>by
  simp only [List.map_cons]at hs
  cases hga:g a with
  |none=>rw [hga]at hs;simp [kPlaces.seqP]at hs
  |some b=>
   rw [hga]at hs;simp only [kPlaces.seqP,Option.map_eq_some_iff]at hs;obtain⟨r2,h1,rfl⟩:=hs;rw [List.mapM_cons,hg a b hga,um hg h1];rfl
theorem yk(hG:GOk G E D0){t:TypeId}{i:TI}{pl:Nat->Option (Nat×Nat)}(hi:af G.ti t=some i)(hp:kPlaces G.ti t=some pl):iz E.ti i=some pl:=by
 unfold kPlaces at hp;rw [hi]at hp;simp only at hp;unfold iz;split at hp
 .rename_i fs hd;rw [Option.map_eq_some_iff]at hp;obtain⟨l,h1,h2⟩:=hp;rw [hd];simp only
  rw [um (g':=λf=>(E.ti f.type).map λi=>(f.offset,i.size)) (λa b hab=>by
   split at hab
   .rename_i q hq;rw [hG.ti _ _ hq];exact hab
   .simp at hab) h1]
  rw [Option.map_some,h2]
 .rename_i m e hd;rw [hd];simp only;split at hp
  .rename_i te hte;rw [hG.ti _ _ hte,Option.map_some];exact hp
  .simp at hp
 .simp at hp
theorem EX(hG:GOk G E D0)(hr:Rel F ks V f h)(ht:ks.nx<=tag)(hn:ks.nx<=nid)(htM:tag<M){t:TypeId}{parts:Array (Nat×Operand)}(hs:bw G F ks tag nid (.build t parts) κ=some r):∃e,κ e=some r/\bI E n F ks V f h M tag nid (.build t parts) e:=by
 simp only [bw]at hs;split at hs
 .rename_i i pl ps hi hpl hps;simp only [zbE]at hs;obtain⟨cs,g1,g2⟩:=hs;obtain⟨ps',e1,e2,e3,e4⟩:=nU hr hps;obtain⟨c3,k1,k2,k3⟩:=rK g1 (jX i.zero) (wB ks.nx i.zero) e2 e3 e4;exact⟨_,g2,aA ht hn htM (λk=>gu (L:= []) (hG.ti _ _ hi) e1 (yk hG hi hpl) k1 h k aD) k3 ⟨_,rfl,k2⟩⟩
 .simp at hs
theorem EY{te:TI}(hz:te.zero.length=te.size):∀len:Nat,ku te len=(List.replicate len (te.zero.map gm)).flatten:=by
 have hl:(fO te).length=te.size:=by unfold fO;rw [List.length_map,hz]
 intro len;unfold ku;refine List.ext_getElem? λi=> ?_
 induction len generalizing i with
 |zero=>simp
 |succ m ih=>
  have e2:(List.replicate (m+1) (te.zero.map gm)).flatten=(fO te)++(List.replicate m (te.zero.map gm)).flatten:=by rw [List.replicate_succ,List.flatten_cons];rfl
  rw [e2,List.getElem?_append,hl];by_cases hi:i<te.size
  .rw [if_pos hi,List.getElem?_map,List.getElem?_range (by rw [Nat.succ_mul];omega)];simp only [Option.map_some];rw [Nat.mod_eq_of_lt hi,List.getD_eq_getElem?_getD,List.getElem?_eq_getElem (by omega)]
   try rfl
  .rw [if_neg hi,<-ih (i - te.size),List.getElem?_map,List.getElem?_map];by_cases h2:i<(m+1)*te.size
   .have h3:i - te.size<m*te.size:=by rw [Nat.succ_mul]at h2;omega
    rw [List.getElem?_range h2,List.getElem?_range h3];simp only [Option.map_some]
    have:i % te.size=(i - te.size)% te.size:=by
     conv=>lhs;rw [show i=(i - te.size)+te.size by omega,Nat.add_mod_right]
    rw [this]
   .have h3:¬i - te.size<m*te.size:=by rw [Nat.succ_mul]at h2;omega
    rw [List.getElem?_eq_none (by simpa using h2),List.getElem?_eq_none (by simpa using h3)];try rfl
theorem Bk{B:BK}{k:List KC}{c:List C}(hr:RCs B V k c):∀m:Nat,RCs B V (List.replicate m k).flatten (List.replicate m c).flatten
 |0=>rfl
 |m+1=>by
  rw [List.replicate_succ,List.replicate_succ,List.flatten_cons,List.flatten_cons];exact hr.append (Bk hr m)
theorem IZ{N:Nat}{k:List KC}(hs:Scs N k)(m:Nat):Scs N (List.replicate m k).flatten:=λc hc=>by
 obtain⟨l,h1,h2⟩:=List.mem_flatten.1 hc;rw [(List.mem_replicate.1 h1).2]at h2;exact hs c h2
theorem yl{B:BK}{e:Ty}{z:Nat}{cs:List KC}{cs':List C}(hr:RCs B V cs cs'):∀(m i:Nat) {rs:List (List KC)} {l:List e.val},tZ z cs m i=some rs->jV e rs=some l->(List.range' i m).mapM (λi=>Ev.cut cs' (i*z) z)=some (l.map (bA e.row))
 |0,i,rs,l,h1,h2=>by
  have:=Option.some.inj (show some []=some rs from h1)
  subst this
  have:=Option.some.inj (show some []=some l from h2)
  subst this;rfl
 |m+1,i,rs,l,h1,h2=>by
  simp only [tZ,zbE]at h1;obtain⟨a,g1,l1,g2,g3⟩:=h1
  have:=Option.some.inj g3
  subst this;simp only [jV]at h2;split at h2
  .rename_i hfr;simp only [zbE]at h2;obtain⟨x,k1,l2,k2,k3⟩:=h2
   have:=Option.some.inj k3
   subst this;obtain⟨c2,e1,e2⟩:=hr.cut g1
   have:=jW k1 hfr e2
   subst this;rw [List.range'_succ,List.mapM_cons,e1,yl hr m (i+1) g2 k2];rfl
  .simp at h2
theorem uq{z:Nat}{cs:List KC}:∀(m i:Nat) {rs:List (List KC)},tZ z cs m i=some rs->rs.length=m
 |0,i,rs,h1=>by
  have:=Option.some.inj (show some []=some rs from h1)
  subst this;rfl
 |m+1,i,rs,h1=>by
  simp only [tZ,zbE]at h1;obtain⟨a,g1,l1,g2,g3⟩:=h1
  have:=Option.some.inj g3
  subst this;rw [List.length_cons,uq m (i+1) g2]
theorem oP{e:Ty}:∀{rs:List (List KC)} {l:List e.val},jV e rs=some l->l.length=rs.length
 | [],l,h2=>by
  have:=Option.some.inj (show some []=some l from h2)
  subst this;rfl
 |c::rs,l,h2=>by
  simp only [jV]at h2;split at h2
  .simp only [zbE]at h2;obtain⟨x,k1,l2,k2,k3⟩:=h2
   have:=Option.some.inj k3
   subst this;rw [List.length_cons,List.length_cons,oP k2]
  .simp at h2
theorem CA(hG:GOk G E D0)(hr:Rel F ks V f h)(ht:ks.nx<=tag)(hn:ks.nx<=nid)(htM:tag<M)(hnM:nid<M){t:TypeId}{len:Nat}{parts:Array (Nat×Operand)}(hs:bw G F ks tag nid (.buildSlice t len parts) κ=some r):∃e,κ e=some r/\bI E n F ks V f h M tag nid (.buildSlice t len parts) e:=by
 simp only [bw]at hs;split at hs
 .rename_i te e z ps hel hps;obtain⟨ti,i2,t1,t2,t3,t4,t5,t6,t7⟩:=cg hG hel;rw [t5]at hs;simp only at hs;split at hs
  .rename_i hz;obtain⟨hz1,hz2⟩:=hz;simp only [zbE]at hs;obtain⟨cs,g1,rs,g2,l,g3,g4⟩:=hs;obtain⟨ps',e1,e2,e3,e4⟩:=nU hr hps;obtain⟨c3,k1,k2,k3⟩:=rK g1 (Bk (jX i2.zero) len) (IZ (wB ks.nx i2.zero) len) e2 e3 e4;rw [<-EY (hG.ok.ti.zero _ _ t3).2.1]at k1;have k4:=yl k2 len 0 g2 g3;rw [<-List.range_eq_range']at k4;have h0:l.length=len:=(oP g3).trans (uq len 0 g2);refine⟨_,g4,iV (by omega) ht hn (λ_=>⟨trivial,by simp⟩) hnM (by simp) λk=> .inl ⟨trivial,_,_,mK (L:= []) t1 t2 t3 t4 e1 k1 k4 (Nat.ble_eq_true_of_le (by rw [Nat.mul_comm];omega)) h k aD,⟨_,rfl,?_⟩,?_,?_⟩⟩
   .intro e' ne l' hl';unfold Be blE blU at hl';simp only [fI (show KB.rows e (Nat.blt 0 len) l≠ .dead by simp),if_true,zsI,KB.rows.injEq]at hl';obtain⟨rfl,rfl,hl'⟩:=hl';rw [<-eq_of_heq hl',h0,Vl.set_id]
   .rw [hz1]
   .intro hb he;rw [he]at h0
    have:(0:Nat)<len:=by simpa using hb
    simp at h0;omega
  .simp at hs
 .simp at hs
theorem eX{e:Ty}{ne:Bool}{l:List e.val}{d:KD}{V:Vl}{k tag:Nat}{bo:Bool}{u:Option (Nat×KB)}:RC (Be F ks nid ⟨d,u,some (.rows e ne l)⟩) (V.set nid k tag bo) (.o e nid) (.own k 0 l.length):=by
 intro e' ne' l' hl';unfold Be blE at hl';simp only [fI (show KB.rows e ne l≠ .dead by simp),if_true,zsI,KB.rows.injEq]at hl';obtain⟨rfl,rfl,hl'⟩:=hl';rw [<-eq_of_heq hl',Vl.set_id]
theorem dv{e:Ty}{l:List e.val}{d:KD}{V:Vl}{k tag:Nat}{bo:Bool}{u:Option (Nat×KB)}:RC (Be F ks nid ⟨d,u,some (.mrows e l)⟩) (V.set nid k tag bo) (.m e nid) (moC l k):=by
 intro e' l' hl';unfold Be blE at hl';simp only [fI (show KB.mrows e l≠ .dead by simp),if_true,zsI,KB.mrows.injEq]at hl';obtain⟨rfl,hl'⟩:=hl';rw [<-eq_of_heq hl',Vl.set_id]
theorem wK(hG:GOk G E D0)(hr:Rel F ks V f h)(ht:ks.nx<=tag)(hn:ks.nx<=nid)(htM:tag<M)(hnM:nid<M){t:TypeId}{l c:Operand}(hs:bw G F ks tag nid (.makeSlice t l c) κ=some r):∃e,κ e=some r/\bI E n F ks V f h M tag nid (.makeSlice t l c) e:=by
 simp only [bw]at hs;split at hs
 .rename_i te e z ki i kj j hel hl hc;obtain⟨ti,i2,t1,t2,t3,t4,t5,t6,t7⟩:=cg hG hel;rw [t5]at hs;simp only at hs;split at hs
  .rename_i hz;obtain⟨hz1,hz2⟩:=hz;simp only [zbE]at hs;obtain⟨u0,g0,u,g1,x,g2,g3⟩:=hs;obtain⟨b1,b2⟩:=lu g1;have hcp:=zJ g0;obtain⟨dl,l1,l2,c1,rfl,lc⟩:=aU hr hl;obtain⟨dc,l3,l4,c2,rfl,lc2⟩:=aU hr hc;rw [show c1=_ from lc]at l1;rw [show c2=_ from lc2]at l3
   have hrow:fO i2=bA e.row x:=by
    have hf:(i2.zero.map kC).all frC=true:=List.all_eq_true.2 λc hc=>by
     obtain⟨v,_,rfl⟩:=List.mem_map.1 hc;unfold kC;split<;>rfl
    exact jW (B:=noB) (V:=V) g2 hf (jX i2.zero)
   refine⟨_,g3,iV (by omega) ht hn (λ_=>⟨trivial,by simp⟩) hnM (by simp) λk=> .inl ⟨trivial,_,_,Gq (L:= []) (r:=bA e.row) t1 t2 t3 l1 l3 b1 (by rcases hcp with hij|⟨hij,_⟩<;>omega) (by rcases hcp with hij|⟨_,hij⟩;rw [<-hij];exact b2;exact hij) hrow t4 h k aD,⟨_,rfl,eX⟩,?_,by simp⟩⟩;rw [hz1]
  .simp at hs
 .simp at hs
theorem lz(hr:Rel F ks V f h){o:Option Operand}{m:Nat}{i:Int}(hk:ry F ks o ((m:Nat):Int)=some i)(h0:0<=i):cN (ov F.nt f) o m=some i.toNat:=by
 cases o with
 |none=>
  have:=Option.some.inj (show some ((m:Nat):Int)=some i from hk)
  subst this;exact GG m
 |some x=>
  simp only [ry]at hk;split at hk
  .rename_i k j hx
   have:=Option.some.inj hk
   subst this;obtain⟨d,g1,g2,c,rfl,g3⟩:=aU hr hx;rw [show c=_ from g3]at g1;exact AO g1 h0 m
  .simp at hk
theorem EZ(hG:GOk G E D0)(hr:Rel F ks V f h)(ht:ks.nx<=tag)(hn:ks.nx<=nid)(htM:tag<M){t:TypeId}{x:Operand}{lo hi mx:Option Operand}(hs:bw G F ks tag nid (.slice t x lo hi mx) κ=some r):∃e,κ e=some r/\bI E n F ks V f h M tag nid (.slice t x lo hi mx) e:=by
 simp only [bw]at hs;split at hs
 .rename_i te e z e' fr s hnh hel hx;obtain⟨ti,i2,t1,t2,t3,t4,t5,t6,t7⟩:=cg hG hel;split at hs
  .rename_i i j m hi hj hm;obtain⟨hs,hcm⟩:=Cw hs;simp only [zbE]at hs;obtain⟨s',g1,g2⟩:=hs;obtain⟨d,l1,l2,c,rfl,fl,lc,lc2⟩:=aU hr hx;rw [lc]at l1;subst t4;obtain⟨⟨b1,b2,b3,b4⟩,_⟩:=iu g1
   have hmm:j<=m/\m<=(s.l.length:Int):=by
    cases mx with
    |none=>have:=Option.some.inj (show some ((s.l.length:Nat):Int)=some m from hm);omega
    |some z=>exact hcm rfl
   exact⟨_,g2,aA ht hn htM (λk=>xY (L:= []) (r:=e'.row) g1 l1 t1 t2 t3 (lz hr (m:=0) hi b1) (lz hr hj (by omega)) (lz hr hm (by omega)) hnh (by omega) (by omega) h k aD) trivial ⟨_,rfl,fl,rfl,lc2⟩⟩
  .simp at hs
 .simp at hs
theorem wL(hG:GOk G E D0)(hr:Rel F ks V f h)(ht:ks.nx<=tag)(hn:ks.nx<=nid)(htM:tag<M){t:TypeId}{x ix:Operand}(hs:bw G F ks tag nid (.indexAddr t x ix) κ=some r):∃e,κ e=some r/\bI E n F ks V f h M tag nid (.indexAddr t x ix) e:=by
 simp only [bw]at hs;split at hs
 .rename_i e fr s k i hx hi;obtain⟨d,l1,l2,c,rfl,fl,lc,lc2⟩:=aU hr hx;obtain⟨d2,l3,l4,c2,rfl,lc3⟩:=aU hr hi;rw [lc]at l1;rw [show c2=_ from lc3]at l3;split at hs
  .rename_i te e2 z hel;obtain⟨ti,i2,t1,t2,t3,t4,t5,t6,t7⟩:=cg hG hel;simp only [zbE]at hs;obtain⟨y,g1,g2⟩:=hs;obtain⟨b1,b2,b3⟩:=dR g1;subst b2;exact⟨_,g2,aA ht hn htM (λk=>gT (L:= []) (r:=e.row) l1 l3 b1 b3 t6 h k aD) trivial ⟨_,rfl,fl,rfl,b3,lc2⟩⟩
  .simp at hs
 .rename_i e p k i hx hi;obtain⟨d,l1,l2,c,rfl,lc⟩:=aU hr hx;obtain⟨d2,l3,l4,c2,rfl,lc3⟩:=aU hr hi;rw [show c2=_ from lc3]at l3;split at hs
  .rename_i te e2 z e' ne l hel hB;split at hs
   .rename_i hz;subst hz;obtain⟨ti,i2,t1,t2,t3,t4,t5,t6,t7⟩:=cg hG hel;simp only [zbE]at hs;obtain⟨y,g1,g2⟩:=hs;rw [lc _ _ _ hB]at l1;obtain⟨b1,b2⟩:=jA g1;obtain⟨b3,b4,b5,b6⟩:=hr.bl p _ hB;exact⟨_,g2,aA ht hn htM (λk=>En (L:= [[(V.id p,_,_)]]) (r:=bA _) 0 l1 l3 b1 b2 rfl t6 h k (fH b5)) l2 ⟨_,rfl,b1,rfl⟩⟩
   .simp at hs
  .simp at hs
 .rename_i e p k i hx hi;obtain⟨d,l1,l2,c,rfl,lc⟩:=aU hr hx;obtain⟨d2,l3,l4,c2,rfl,lc3⟩:=aU hr hi;rw [show c2=_ from lc3]at l3;split at hs
  .rename_i te e2 z e' l hel hB;split at hs
   .rename_i hz;subst hz;obtain⟨ti,i2,t1,t2,t3,t4,t5,t6,t7⟩:=cg hG hel;simp only [zbE]at hs;obtain⟨y,g1,g2⟩:=hs;rw [lc _ _ hB]at l1;have hne:=wH g1;obtain⟨b1,b2⟩:=jA g1;obtain⟨b3,b4,b5⟩:=hr.bl p _ hB;have b5:=b5 hne;rw [show moC l (V.id p)= .own (V.id p) 0 l.length by cases l with|nil=>exact absurd rfl hne|cons a l=>rfl]at l1;exact⟨_,g2,aA ht hn htM (λk=>En (L:= [[(V.id p,_,_)]]) (r:=bA _) 0 l1 l3 b1 b2 rfl t6 h k (fH b5)) l2 ⟨_,rfl,b1,rfl⟩⟩
   .simp at hs
  .simp at hs
 .rename_i p j k a hx hi;obtain⟨d,l1,l2,c,rfl,lc⟩:=aU hr hx;obtain⟨d2,l3,l4,c2,rfl,lc3⟩:=aU hr hi;rw [show c=_ from lc]at l1;rw [show c2=_ from lc3]at l3;split at hs
  .rename_i ti hti;split at hs
   .rename_i m e hd;split at hs
    .rename_i te hte;split at hs
     .rename_i hlt;exact⟨_,hs,aA ht hn htM (λk=>Mq (L:= []) (hG.ti _ _ hti) hd (hG.ti _ _ hte) rfl l1 l3 (zS hlt) h k aD) l2 ⟨_,rfl,rfl⟩⟩
     .simp at hs
    .simp at hs
   .simp at hs
  .simp at hs
 .rename_i e fr s i y j k a hx hi;obtain⟨d,l1,l2,c,rfl,fl,lc,lc2⟩:=aU hr hx;obtain⟨d2,l3,l4,c2,rfl,lc3⟩:=aU hr hi;rw [lc]at l1;rw [show c2=_ from lc3]at l3;split at hs
  .rename_i ti hti;split at hs
   .rename_i m e' hd;split at hs
    .rename_i te hte;split at hs
     .rename_i hlt;exact⟨_,hs,aA ht hn htM (λk=>q_ixAI (hG.ti _ _ hti) hd (hG.ti _ _ hte) l1 l3 hlt k) trivial ⟨_,rfl,fl,rfl,lc2⟩⟩
     .simp at hs
    .simp at hs
   .simp at hs
  .simp at hs
 .simp at hs
where
 q_ixAI {ty e:TypeId} {t te:TI} {m:Nat} {x ix:Operand} {fr fb:Bool} {kb:IntKind} {sz i j a:Nat} {l:List (List T)} (ht:E.ti ty=some t) (hd:t.desc= .array m e) (hte:E.ti e=some te) (hx:ov F.nt f x=some (.one (.iptr fr sz l i j))) (hi:ov F.nt f ix=some (.one (.p fb (.v (.int kb (a:Int)))))) (ha:a<m) (nid:Nat):stepG E (cpR E n) none nid (.indexAddr ty x ix) (aw (tab F.nt f)) h=some ⟨.one (.iptr fr sz l i (j+a*te.size)),[]⟩:=by
  rw [pF,aT,hx,aT,hi];refine Eq.trans (b:=xK E.ti ty h a (.one (.iptr fr sz l i j))) rfl ?_
  show((E.ti ty).bind λt=>match t.desc with
   | .array n e=>(E.ti e).bind λte=>if a<n then some (⟨.one (.iptr fr sz l i (j+a*te.size)),[]⟩:Eff)else none
   |_=>none)=_
  rw [ht];simp only [zbS,hd,hte];rw [if_pos ha]
theorem Fc(hG:GOk G E D0)(hr:Rel F ks V f h)(ht:ks.nx<=tag)(hn:ks.nx<=nid)(htM:tag<M){t:TypeId}{x ix:Operand}(hs:bw G F ks tag nid (.index t x ix) κ=some r):∃e,κ e=some r/\bI E n F ks V f h M tag nid (.index t x ix) e:=by
 simp only [bw]at hs;split at hs
 .rename_i ti cs k a hti hx hi;obtain⟨d,l1,l2,c,rfl,lc⟩:=aU hr hx;obtain⟨d2,l3,l4,c2,rfl,lc3⟩:=aU hr hi;rw [show c2=_ from lc3]at l3;split at hs
  .rename_i m e hd;split at hs
   .rename_i te hte;split at hs
    .rename_i hlt;simp only [zbE]at hs;obtain⟨d2,⟨cs2,g1,g2⟩,g3⟩:=hs;obtain⟨c2,g8,g9⟩:=lc.cut g1;obtain⟨d3,k1,k2,k3⟩:=eI g2 (fN l2 g1) g9;refine⟨_,g3,aA ht hn htM (λk=> ?_) k3 k2⟩
     show((E.ti t).bind λt'=>(av (aw (tab F.nt f)) ix).bind λdi=>(eD di).bind λi=>(av (aw (tab F.nt f)) x).bind λdx=>match dx with
      | .agg cs=>match t'.desc with
       | .array n e=>(E.ti e).bind λte=>if i<n then(Ev.cut cs (i*te.size) (if aL te.desc then te.size else 1)).bind λc=>(bJ (aL te.desc) c).bind λv=>some (⟨v,[]⟩:Eff)else none
       |_=>none
      |_=>none)=_
     rw [hG.ti _ _ hti,aT,aT,l3,l1];simp only [zbS];rw [show eD (.one (iC _ (Int.ofNat a)))=some a from rfl];simp only [zbS,hd,hG.ti _ _ hte];rw [if_pos hlt]
     have hc':Ev.cut c (a*te.size) (if aL te.desc then te.size else 1)=some c2:=by
      rw [<-g8];unfold wd;cases aL te.desc<;>rfl
     rw [hc'];simp only [zbS,k1]
    .simp at hs
   .simp at hs
  .simp at hs
 .simp at hs
theorem ur(hr:Rel F ks V f h):∀{l:List Operand} {ds:List KD} {ps:List Nat},gp F ks l=some ds->AY ds=some ps->wq F.nt f l=some (ps.map λp=> .ptr (V.id p) 0 0)/\∀p∈ps,p<ks.nx
 | [],ds,ps,h1,h2=>by
  have:=Option.some.inj (show some []=some ds from h1)
  subst this
  have:=Option.some.inj (show some []=some ps from h2)
  subst this;exact⟨rfl,by simp⟩
 |x::l,ds,ps,h1,h2=>by
  simp only [gp,zbE]at h1;obtain⟨d,g1,r,g2,g3⟩:=h1
  have:=Option.some.inj g3
  subst this;unfold AY at h2;split at h2
  .rename_i heq;simp at heq
  .rename_i p j r' heq;cases heq;split at h2
   .rename_i hj;subst hj;rw [Option.map_eq_some_iff]at h2;obtain⟨ps2,k1,rfl⟩:=h2;obtain⟨e1,e2⟩:=ur hr g2 k1;obtain⟨d',f1,f2,c,rfl,f3⟩:=aU hr g1;refine⟨?_,λq hq=>by rcases List.mem_cons.1 hq with rfl|hq;exact f2;exact e2 q hq⟩;unfold wq at e1 ⊢;rw [List.mapM_cons,e1,f1,show c=_ from f3];rfl
   .simp at h2
  .simp at h2
theorem ym(hr:Rel F ks V f h)(ht:ks.nx<=tag)(hn:ks.nx<=nid)(htM:tag<M){fn:Fn}{first cap:Array Operand}(hs:bw G F ks tag nid (.makeFunc fn first cap) κ=some r):∃e,κ e=some r/\bI E n F ks V f h M tag nid (.makeFunc fn first cap) e:=by
 simp only [bw]at hs;split at hs
 .rename_i k ps hf hcap;simp only [zbE]at hcap;obtain⟨ds,g1,g2⟩:=hcap;obtain⟨e1,e2⟩:=ur hr g1 g2;exact⟨_,hs,aA ht hn htM (λq=>GI (L:= []) (fs:= []) (by rw [hf];rfl) e1 h q aD) e2 ⟨_,rfl,rfl⟩⟩
 .simp at hs
end
end K
end Ev
end
noncomputable section
namespace Ev
namespace K
open Go Go.RowKit
section
variable {E : Env} {n : Nat} {F : KF} {ks : KS} {V : Vl} {f : Nat → D} {h : aj} {M tag nid : Nat} {op : Op} {G : KG} {D0 : Nat} {R : Type} {κ : KE → Option R} {r : R}
theorem Fd{l:List Operand}{d:KD}(hk:gp F ks l=some [d]):∃a,l= [a]/\kO F ks a=some d:=by
 cases l with
 |nil=>simp [gp]at hk
 |cons a l=>
  simp only [gp,zbE]at hk;obtain⟨x,h1,s,h2,h3⟩:=hk
  have:=Option.some.inj h3
  simp only [List.cons.injEq]at this;obtain⟨rfl,rfl⟩:=this
  cases l with
  |nil=>exact⟨a,rfl,h1⟩
  |cons b l=>
   simp only [gp,zbE]at h2;obtain⟨y,_,t,_,h4⟩:=h2;simp at h4
theorem wM{l:List Operand}{d e:KD}(hk:gp F ks l=some [d,e]):∃a b,l= [a,b]/\kO F ks a=some d/\kO F ks b=some e:=by
 cases l with
 |nil=>simp [gp]at hk
 |cons a l=>
  simp only [gp,zbE]at hk;obtain⟨x,h1,s,h2,h3⟩:=hk
  have:=Option.some.inj h3
  simp only [List.cons.injEq]at this;obtain⟨rfl,rfl⟩:=this;obtain⟨b,rfl,h4⟩:=Fd h2;exact⟨a,b,rfl,h1,h4⟩
theorem nV{fl:Bool}:∀{e:Ty} (y:e.val),e.plain=true->(e.row y).map (pC fl)=(e.row y).map (pC true)
 | .I _,_,_=>rfl
 | .B,_,_=>rfl
 | .S _,_,hp=>by simp [Ty.plain]at hp
 | .U,_,_=>rfl
 | .C a b,x,hp=>by
  simp only [Ty.plain,Bool.and_eq_true]at hp;show(a.row x.1++b.row x.2).map _=(a.row x.1++b.row x.2).map _;rw [List.map_append,List.map_append,nV x.1 hp.1,nV x.2 hp.2]
theorem rL(hr:Rel F ks V f h){e:Ty}{x:KC}{xs:List e.val}{ne:Bool}{c:C}(hk:wv F ks e x=some (xs,ne))(hc:RC (an F ks) V x c):gO h (.one c)=some (xs.map (bA e.row))/\(ne=true->xs≠[]):=by
 unfold wv at hk;split at hk
 .simp only [zsI,Prod.mk.injEq]at hk;obtain⟨rfl,rfl⟩:=hk;rw [show c=_ from hc];exact⟨rfl,by simp⟩
 .rename_i e' fr s;split at hk
  .rename_i hp;simp only [Option.map_eq_some_iff,Prod.mk.injEq]at hk;obtain⟨y,h1,rfl,rfl⟩:=hk;obtain⟨he,h2⟩:=aR h1;cases he;obtain⟨fl,h3,h4⟩:=hc;refine⟨?_,by simp⟩;rw [h3,<-h2];show some ((s.l.map e.row).map (·.map (pC fl)))=_;rw [List.map_map];congr 1;refine List.map_congr_left λy _=> ?_;show(e.row y).map (pC fl)=(e.row y).map (pC true);rw [Bool.or_eq_true]at hp;rcases hp with hp|hp
   .rw [h4 hp]
   .exact nV y hp
  .simp at hk
 .rename_i e' p;split at hk
  .rename_i e2 ne2 l hB;simp only [Option.map_eq_some_iff,Prod.mk.injEq]at hk;obtain⟨y,h1,rfl,rfl⟩:=hk;obtain⟨he,h2⟩:=aR h1;cases he;obtain⟨g1,g2,g3,g4⟩:=hr.bl p _ hB;rw [hc _ _ _ hB,<-h2];exact⟨gU (L:= [[(V.id p,_,_)]]) (r:=bA _) 0 rfl h (fH g3),g4⟩
  .simp at hk
 .rename_i e' p;split at hk
  .rename_i e2 l hB;simp only [Option.map_eq_some_iff,Prod.mk.injEq]at hk;obtain⟨y,h1,rfl,rfl⟩:=hk;obtain⟨he,h2⟩:=aR h1;cases he;obtain⟨g1,g2,g3⟩:=hr.bl p _ hB;rw [hc _ _ hB,<-h2];refine⟨?_,by simp⟩
   cases l with
   |nil=>rfl
   |cons a l=>exact gU (L:= [[(V.id p,_,_)]]) (r:=bA _) 0 rfl h (fH (g3 (by simp)))
  .simp at hk
 .simp at hk
theorem rM{d:KD}{b b0:KB}{p:Nat}(hM:ks.nx<=M)(hp:af ks.bl p=some b0)(h0:b0≠ .dead)(hb:ScB ks.nx b/\b≠ .dead)(hbt:b.there)(hd:ScD M d)(hnb:∀x,d≠ .one (.bv x))
  (hv:∀k,∃v x uo,(uo= [(V.id p,Blk.dead)]/\b0.there∨uo= []/\¬b0.there)/\stepG E (cpR E n) none k op (aw (tab F.nt f)) h=some ⟨v,uo++ [(k,x)]⟩/\RD (Be F ks nid ⟨d,some (p,.dead),some b⟩) (V.set nid k tag false) d v/\BlkIs (Be F ks nid ⟨d,some (p,.dead),some b⟩) (V.set nid k tag false) x b):bI E n F ks V f h M tag nid op ⟨d,some (p,.dead),some b⟩:=by
 refine⟨λp' b' hb'=>by simp at hb';obtain⟨rfl,rfl⟩:=hb';exact⟨b0,hp,h0,trivial,trivial⟩,λb' hb'=>by simp at hb';subst hb';exact hb,by rw [fY hnb];exact hd,false,λk=> ?_⟩;obtain⟨v,x,uo,h0,h1,h2,h3⟩:=hv k;refine⟨v,_,h1,by rw [fY hnb];exact h2,⟨uo,_,rfl,?_,.inl ⟨x,rfl,h3,hbt⟩⟩⟩;rcases h0 with⟨rfl,ht⟩|⟨rfl,ht⟩
 .exact .inl ⟨.dead,rfl,rfl,λb1 hb1=>by rw [hp]at hb1;cases hb1;exact ht⟩
 .exact .inr ⟨rfl,id,λb1 hb1=>by rw [hp]at hb1;cases hb1;exact ht⟩
theorem Bl{α:Type}{l m:List α}(h:app [] l=some m):m=l/\l.length<=cz:=by
 obtain⟨h1,h2⟩:=cJ h;exact⟨by simpa using h2,by simpa using h1⟩
theorem Ja{c:Call}{a x:Operand}{ty ty1 z e1:TypeId}{t1:TI}{fr:Bool}{bz n:Nat}{h:aj}{d:D}{xs:List (List C)}(ha:ov F.nt f a=some (.one (.p fr (.s false bz []))))(hx:ov F.nt f x=some d)(hxs:gO h d=some xs)(hne:∃y ys,xs=y::ys)(hb:xs.length<=cz)(hall:xs.all (·.length==z)=true)(hz:cG E.ti ty=some z)(ht1:E.ti ty1=some t1)(he1:aG t1=some e1)
  (hc:c.callee= .builtin .append) (hargs:c.args.toList= [a,x]) (hty:c.argTypes[0]? =some ty) (hty1:c.argTypes[1]? =some ty1) (nid:Nat):stepG E (cpR E n) none nid (.call c) (aw (tab F.nt f)) h=some ⟨.one (.own nid 0 xs.length),[(nid,.own z xs)]⟩:=by
 obtain⟨t,e,te,g1,g2,g3,g4⟩:=dS hz;have h1:aI (.call c)=none:=by unfold aI;simp only [hc]
 rw [gB,h1];unfold sem qY;simp only [hc,hty,g1,hargs,dq,zbB,zbS,List.mapM_cons,List.mapM_nil,ha,hx,Option.pure_def,g2,g3,hty1,ht1,he1,g4];unfold Ev.append;simp only [hxs,zbB,zbS];obtain⟨y,ys,rfl⟩:=hne;rw [if_neg (by simp),if_neg (by simp),if_pos hb,if_pos hall]
theorem Bm{c:Call}{a x:Operand}{ty ty1 z e1:TypeId}{t1:TI}{fr:Bool}{bz n:Nat}{h:aj}{d:D}(ha:ov F.nt f a=some (.one (.p fr (.s false bz []))))(hx:ov F.nt f x=some d)(hxs:gO h d=some [])(hz:cG E.ti ty=some z)(ht1:E.ti ty1=some t1)(he1:aG t1=some e1)
  (hc:c.callee= .builtin .append) (hargs:c.args.toList= [a,x]) (hty:c.argTypes[0]? =some ty) (hty1:c.argTypes[1]? =some ty1) (nid:Nat):stepG E (cpR E n) none nid (.call c) (aw (tab F.nt f)) h=some ⟨.one (.p fr (.s false bz [])),[]⟩:=by
 obtain⟨t,e,te,g1,g2,g3,g4⟩:=dS hz;have h1:aI (.call c)=none:=by unfold aI;simp only [hc]
 rw [gB,h1];unfold sem qY;simp only [hc,hty,g1,hargs,dq,zbB,zbS,List.mapM_cons,List.mapM_nil,ha,hx,Option.pure_def,g2,g3,hty1,ht1,he1,g4];unfold Ev.append;simp only [hxs,zbB,zbS];rw [if_neg (by simp),if_pos (show([]:List (List C)).length=0 from rfl)]
theorem Fe{e:Ty}{c:Call}{a x:Operand}{ty ty1 e1:TypeId}{t1:TI}{k n:Nat}{h:aj}{l xs lm:List e.val}{d:D}(ha:ov F.nt f a=some (.one (.own k 0 l.length)))(hx:ov F.nt f x=some d)(hxs:gO h d=some (xs.map (bA e.row)))(hb:aq h k=some (e.size,l.map (bA e.row)))(hlm:app l xs=some lm)(hz:cG E.ti ty=some e.size)(ht1:E.ti ty1=some t1)(he1:aG t1=some e1)
  (hc:c.callee= .builtin .append) (hargs:c.args.toList= [a,x]) (hty:c.argTypes[0]? =some ty) (hty1:c.argTypes[1]? =some ty1) (hz0:Nat.beq e.size 0=false) (nid:Nat):stepG E (cpR E n) none nid (.call c) (aw (tab F.nt f)) h=some ⟨.one (.own nid 0 lm.length),[(k,.dead)]++ [(nid,.own e.size (lm.map (bA e.row)))]⟩:=by
 obtain⟨t,e2,te,g1,g2,g3,g4⟩:=dS hz;obtain⟨hbd,rfl⟩:=cJ hlm;have h1:aI (.call c)=none:=by unfold aI;simp only [hc]
 rw [gB,h1];unfold sem qY;simp only [hc,hty,g1,hargs,dq,zbB,zbS,List.mapM_cons,List.mapM_nil,ha,hx,Option.pure_def,g2,g3,hty1,ht1,he1,g4];unfold Ev.append;simp only [hxs,zbB,zbS,hb];rw [if_pos ⟨trivial,by simp,by simpa using hbd,trivial,by simp [rH],Nat.ne_of_beq_eq_false hz0⟩];simp
theorem CB(hG:GOk G E D0)(hr:Rel F ks V f h)(ht:ks.nx<=tag)(hn:ks.nx<=nid)(htM:tag<M)(hnM:nid<M){c:Call}{a x:Operand}{ty ty1 te z:Nat}{e:Ty}{ka kx:KC}{z1:TypeId×Ty×Nat}(hc:c.callee= .builtin .append)(hargs:c.args.toList= [a,x])(hty:c.argTypes[0]? =some ty)(hel:G.elem ty=some (te,e,z))(hel1:(c.argTypes[1]?).bind G.elem=some z1)(hz:e.size=z)(hz0:z≠0)(ha:kO F ks a=some (.one ka))(hx:kO F ks x=some (.one kx))(hs:wx F ks nid e ka kx κ=some r):∃eff,κ eff=some r/\bI E n F ks V f h M tag nid (.call c) eff:=by
 have hM:ks.nx<=M:=by omega
 obtain⟨ti,i2,t1,t2,t3,t4,t5,t6,t7⟩:=cg hG hel;rw [zbE]at hel1;obtain⟨ty1,hty1,hel1⟩:=hel1;obtain⟨te1,e1,zz1⟩:=z1;obtain⟨ti1,i21,s1,s2,_⟩:=cg hG hel1;obtain⟨da,a1,a2,ca,rfl,a3⟩:=aU hr ha;obtain⟨dx,x1,x2,cx,rfl,x3⟩:=aU hr hx
 have hz0':Nat.beq z 0=false:=by cases hb:Nat.beq z 0 with|true=>exact absurd (Nat.eq_of_beq_eq_true hb) hz0|false=>rfl
 unfold wx at hs;split at hs
 .simp at hs
 .rename_i xs ne hxs;obtain⟨hel2,hne⟩:=rL hr hxs x3
  -- what is appended,in any heap that agrees
  have key0:∀{fr:Bool} {bz:Nat},ov F.nt f a=some (.one (.p fr (.s false bz [])))->∀(y:e.val) (ys:List e.val),xs=y::ys->xs.length<=cz->∀k,stepG E (cpR E n) none k (.call c) (aw (tab F.nt f)) h=some ⟨.one (.own k 0 xs.length),[(k,.own z (xs.map (bA e.row)))]⟩:=by
   intro fr bz ha y ys he hb k
   have:=Ja (n:=n) (h:=h) ha x1 hel2 ⟨bA e.row y,ys.map (bA e.row),by rw [he];rfl⟩ (by simpa using hb) (by simp [rH,hz]) t6 s1 s2 hc hargs hty hty1 k
   rw [List.length_map]at this;exact this
  split at hs
  ·-- to nothing
   simp only [zbE]at hs;obtain⟨lm,g1,g2⟩:=hs;obtain⟨rfl,hb⟩:=Bl g1;rw [show ca=_ from a3]at a1
   cases ne with
   |true=>
    have hx0:=hne rfl
    match lm,hx0 with
    |y::ys,_=>
     refine⟨_,g2,iV hM ht hn (λ_=>⟨trivial,by simp⟩) hnM (by simp) λk=> .inl ⟨trivial,_,_,key0 a1 y ys rfl hb k,⟨_,rfl,eX⟩,by rw [<-hz],by simp⟩⟩
   |false=>
    refine⟨_,g2,iV hM ht hn (λ_=>⟨trivial,by simp⟩) hnM (by simp) λk=> ?_⟩
    match lm with
    | []=>
     refine .inr ⟨by simp [KB.there],_,Bm (n:=n) a1 x1 hel2 t6 s1 s2 hc hargs hty hty1 k,⟨_,rfl,?_⟩⟩;exact dv (k:=k)
    |y::ys=>
     refine .inl ⟨by simp [KB.there],_,_,key0 a1 y ys rfl hb k,⟨_,rfl,?_⟩,by rw [<-hz];rfl⟩;exact dv (k:=k)
  ·-- to rows
   rename_i e' p;split at hs
   .rename_i e2 ne2 l hp;simp only [zbE]at hs;obtain⟨l2,g0,lm,g1,g2⟩:=hs;obtain⟨he,g0⟩:=aR g0;cases he;subst g0;have hB:=ah (F:=F) hp (by simp);obtain⟨b1,b2,b3,b4⟩:=hr.bl p _ hB;rw [a3 _ _ _ hB]at a1;subst hz;refine⟨_,g2,rM hM hp (by simp) ⟨trivial,by simp⟩ trivial hnM (by simp) λk=>⟨_,_,_,.inl ⟨rfl,trivial⟩,?_,⟨_,rfl,eX⟩,rfl,λhne2=> ?_⟩⟩
    .exact Fe (n:=n) (h:=h) a1 x1 hel2 b3 g1 t6 s1 s2 hc hargs hty hty1 hz0' k
    .obtain⟨_,rfl⟩:=cJ g1;rw [Bool.or_eq_true]at hne2;rcases hne2 with h1|h1
     .intro he;exact hne h1 (List.append_eq_nil_iff.1 he).2
     .intro he;exact b4 h1 (List.append_eq_nil_iff.1 he).1
   .simp at hs
  .rename_i e' p;split at hs
   .rename_i e2 l hp;simp only [zbE]at hs;obtain⟨l2,g0,lm,g1,g2⟩:=hs;obtain⟨he,g0⟩:=aR g0;cases he;subst g0;have hB:=ah (F:=F) hp (by simp);obtain⟨b1,b2,b3⟩:=hr.bl p _ hB;rw [a3 _ _ hB]at a1;subst hz
    match l,b3,a1,g1,hp,hB with
    | [],b3,a1,g1,hp,hB=>
     obtain⟨rfl,hb⟩:=Bl g1
     cases ne with
     |true=>
      have hx0:=hne rfl
      match lm,hx0 with
      |y::ys,_=>
       refine⟨_,g2,rM hM hp (by simp) ⟨trivial,by simp⟩ trivial hnM (by simp) λk=>⟨_,_,_,.inr ⟨rfl,by simp [KB.there]⟩,?_,⟨_,rfl,eX⟩,rfl,by simp⟩⟩;exact key0 a1 y ys rfl hb k
     |false=>
      match lm with
      | []=>
       refine⟨_,g2,?_⟩;refine⟨λp' b' hb'=>by simp at hb';obtain⟨rfl,rfl⟩:=hb';exact⟨_,hp,by simp,trivial,trivial⟩,λb' hb'=>by simp at hb';subst hb';exact⟨trivial,by simp⟩,hnM,false,λk=>⟨_,_,Bm (n:=n) a1 x1 hel2 t6 s1 s2 hc hargs hty hty1 k,⟨_,rfl,?_⟩,⟨[],[],rfl,.inr ⟨rfl,id,λb1 hb1=>by rw [hp]at hb1;cases hb1;simp [KB.there]⟩,.inr ⟨rfl,by simp [KB.there]⟩⟩⟩⟩;exact dv (k:=k)
      |y::ys=>
       refine⟨_,g2,rM hM hp (by simp) ⟨trivial,by simp⟩ (by simp [KB.there]) hnM (by simp) λk=>⟨.one (.own k 0 (y::ys).length),_,_,.inr ⟨rfl,by simp [KB.there]⟩,key0 a1 y ys rfl hb k,⟨_,rfl,dv (k:=k)⟩,rfl⟩⟩
    |q::l,b3,a1,g1,hp,hB=>
     have b3:=b3 (by simp);have hlm:lm≠[]:=by obtain⟨_,rfl⟩:=cJ g1;simp
     have hst:=Fe (n:=n) (h:=h) (l:=q::l) a1 x1 hel2 b3 g1 t6 s1 s2 hc hargs hty hty1 hz0'
     cases ne with
     |true=>
      refine⟨_,g2,rM hM hp (by simp) ⟨trivial,by simp⟩ trivial hnM (by simp) λk=>⟨_,_,_,.inl ⟨rfl,by simp [KB.there]⟩,?_,⟨_,rfl,eX⟩,rfl,λ_=>hlm⟩⟩;exact hst k
     |false=>
      have hmm:∀k,RC (Be F ks nid ⟨.one (.m e nid),some (p,.dead),some (.mrows e lm)⟩) (V.set nid k tag false) (.m e nid) (.own k 0 lm.length):=λk=>by
       have:=dv (F:=F) (ks:=ks) (nid:=nid) (V:=V) (k:=k) (tag:=tag) (bo:=false) (l:=lm) (d:= .one (.m e nid)) (u:=some (p,.dead))
       rw [show moC lm k= .own k 0 lm.length by cases lm with|nil=>exact absurd rfl hlm|cons a l=>rfl]at this;exact this
      exact⟨_,g2,rM hM hp (by simp) ⟨trivial,by simp⟩ hlm hnM (by simp) λk=>⟨.one (.own k 0 lm.length),_,_,.inl ⟨rfl,by simp [KB.there]⟩,hst k,⟨_,rfl,hmm k⟩,rfl⟩⟩
   .simp at hs
  .simp at hs
end
end K
end Ev
end
noncomputable section
namespace Ev
namespace K
open Go Go.RowKit
section
variable {E : Env} {n : Nat} {F : KF} {ks : KS} {V : Vl} {f : Nat → D} {h : aj} {M tag nid : Nat} {op : Op} {G : KG} {D0 : Nat} {R : Type} {κ : KE → Option R} {r : R}
theorem Ff(hr:Rel F ks V f h){x:KC}{i:Int}{c:C}(hk:IR F ks x=some i)(hc:RC (an F ks) V x c):∃m:Nat,sk (.one c)=some m/\i=(m:Int):=by
 unfold IR at hk;split at hk
 .cases hk;rw [show c=_ from hc];exact⟨0,rfl,rfl⟩
 .cases hk;obtain⟨fl,h1,h2⟩:=hc;rw [h1];exact⟨_,zI,rfl⟩
 .split at hk
  .rename_i e ne l hB;cases hk;rw [hc _ _ _ hB];exact⟨_,rfl,rfl⟩
  .simp at hk
 .split at hk
  .rename_i e l hB;cases hk;rw [hc _ _ hB];exact⟨_,IL,rfl⟩
  .simp at hk
 .simp at hk
theorem GU{e:Ty}{c:Call}{a x:Operand}{ty ty1 e1:TypeId}{t1:TI}{k n:Nat}{h:aj}{l xs lm:List e.val}{d:D}(ha:ov F.nt f a=some (.one (.own k 0 l.length)))(hx:ov F.nt f x=some d)(hxs:gO h d=some (xs.map (bA e.row)))(hb:aq h k=some (e.size,l.map (bA e.row)))(hlm:cpL l xs=some lm)(hz:cG E.ti ty=some e.size)(ht1:E.ti ty1=some t1)(he1:aG t1=some e1)
  (hc:c.callee= .builtin .copy) (hargs:c.args.toList= [a,x]) (hty:c.argTypes[0]? =some ty) (hty1:c.argTypes[1]? =some ty1) (hz0:e.size≠0) (nid:Nat):stepG E (cpR E n) none nid (.call c) (aw (tab F.nt f)) h=some ⟨iD .i64 ((xs.length:Nat):Int),[(k,.own e.size (lm.map (bA e.row)))]⟩:=by
 obtain⟨t,e2,te,g1,g2,g3,g4⟩:=dS hz;obtain⟨hbd,rfl⟩:=xP hlm;have h1:aI (.call c)=none:=by unfold aI;simp only [hc]
 rw [gB,h1];unfold sem qY;simp only [hc,hty,g1,hargs,dq,zbB,zbS,List.mapM_cons,List.mapM_nil,ha,hx,Option.pure_def,g2,g3,hty1,ht1,he1,g4];unfold pP;simp only [hxs,zbB,zbS,hb]
 have hpt:patch (l.map (bA e.row)) 0 (xs.map (bA e.row))=some ((xs++l.drop xs.length).map (bA e.row)):=by
  unfold patch;rw [if_pos (by simpa using hbd)];simp
 rw [hpt];simp only [zbS];rw [if_pos ⟨trivial,by simpa using hbd,by simp [rH],hz0⟩];simp [iD,mk]
theorem zW(hG:GOk G E D0)(hr:Rel F ks V f h)(ht:ks.nx<=tag)(hn:ks.nx<=nid)(htM:tag<M)(hnM:nid<M){c:Call}{b:Builtin}{args:List KD}(hc:c.callee= .builtin b)(hargs:gp F ks c.args.toList=some args)(hs:rx G F ks nid c b args κ=some r):∃eff,κ eff=some r/\bI E n F ks V f h M tag nid (.call c) eff:=by
 have hM:ks.nx<=M:=by omega
 unfold rx at hs;split at hs
 .simp at hs
 .rename_i ty hty;split at hs
  .rename_i x;obtain⟨a,ha,ha2⟩:=Fd hargs;obtain⟨d,d1,d2,cx,rfl,d3⟩:=aU hr ha2;split at hs
   .rename_i z hel;obtain⟨te,e,zz⟩:=z;obtain⟨ti,i2,t1,t2,t3,t4,t5,t6,t7⟩:=cg hG hel;simp only [zbE]at hs;obtain⟨i,g1,g2⟩:=hs;obtain⟨m,k1,rfl⟩:=Ff hr g1 d3;exact⟨_,g2,aA ht hn htM (λk=>Eo (L:= []) hc ha hty t1 t7 d1 k1 h k aD) trivial ⟨_,rfl,rfl⟩⟩
   .simp at hs
  .rename_i k1 x k2 y;obtain⟨a,a',ha,ha2,ha3⟩:=wM hargs;obtain⟨d,d1,d2,cx,rfl,d3⟩:=aU hr ha2;obtain⟨d',e1,e2,cy,rfl,e3⟩:=aU hr ha3;rw [show cx=_ from d3]at d1;rw [show cy=_ from e3]at e1;split at hs
   .rename_i ti hti;exact⟨_,hs,aA ht hn htM (λk=>(xZ (L:= []) d1 e1 (hG.ti _ _ hti) ha hty).1 hc h k aD) trivial ⟨_,rfl,rfl⟩⟩
   .simp at hs
  .rename_i k1 x k2 y;obtain⟨a,a',ha,ha2,ha3⟩:=wM hargs;obtain⟨d,d1,d2,cx,rfl,d3⟩:=aU hr ha2;obtain⟨d',e1,e2,cy,rfl,e3⟩:=aU hr ha3;rw [show cx=_ from d3]at d1;rw [show cy=_ from e3]at e1;split at hs
   .rename_i ti hti;exact⟨_,hs,aA ht hn htM (λk=>(xZ (L:= []) d1 e1 (hG.ti _ _ hti) ha hty).2 hc h k aD) trivial ⟨_,rfl,rfl⟩⟩
   .simp at hs
  .rename_i a x;obtain⟨oa,ox,ha,ha2,ha3⟩:=wM hargs;split at hs
   .rename_i te e z z1 hel hel1;split at hs
    .rename_i hz;exact CB (ty1:=0) hG hr ht hn htM hnM hc ha hty hel hel1 hz.1 hz.2 ha2 ha3 hs
    .simp at hs
   .simp at hs
  .rename_i e0 p x;obtain⟨oa,ox,ha,ha2,ha3⟩:=wM hargs;split at hs
   .rename_i te e z z1 e' ne l hel hel1 hp;split at hs
    .rename_i hz;obtain⟨rfl,hz0⟩:=hz;obtain⟨ti,i2,t1,t2,t3,t4,t5,t6,t7⟩:=cg hG hel;rw [zbE]at hel1;obtain⟨ty1,hty1,hel1⟩:=hel1;obtain⟨te1,e1,zz1⟩:=z1;obtain⟨ti1,i21,s1,s2,_⟩:=cg hG hel1;split at hs
     .rename_i xs ne2 hxs;simp only [zbE]at hs;obtain⟨l2,g0,lm,g1,g2⟩:=hs;obtain⟨he,g0⟩:=aR g0;cases he;subst g0;obtain⟨d,d1,d2,cx,rfl,d3⟩:=aU hr ha2;obtain⟨d',f1,f2,cy,rfl,f3⟩:=aU hr ha3;have hB:=ah (F:=F) hp (by simp);obtain⟨b1,b2,b3,b4⟩:=hr.bl p _ hB;rw [d3 _ _ _ hB]at d1;obtain⟨x1,x2⟩:=rL hr hxs f3;refine⟨_,g2,wE ht hn hM hp (by simp) trivial trivial ⟨_,_,_,rfl,(AK g1).symm⟩ trivial (by simp) (λk=>GU (n:=n) (h:=h) d1 f1 x1 b3 g1 t6 s1 s2 hc ha hty hty1 hz0 k) ⟨_,rfl,rfl⟩ ⟨rfl,λhne=> ?_⟩⟩
      have:=b4 hne
      intro he;have h2:=AK g1;rw [he]at h2;exact this (List.length_eq_zero_iff.1 h2.symm)
     .simp at hs
    .simp at hs
   .simp at hs
  .simp at hs
theorem RDl.append{B:BK}:∀{k1 k2:List KD} {c1 c2:List D},RDl B V k1 c1->RDl B V k2 c2->RDl B V (k1++k2) (c1++c2)
 | [],k2,c1,c2,h1,h2=>by rw [show c1= []from h1];exact h2
 |k::k1,k2,c1,c2,⟨c,s,e1,h1,h3⟩,h2=>⟨c,s++c2,by rw [e1];rfl,h1,h3.append h2⟩
theorem yn{B:BK}:∀ps:List Nat,RDl B V (ps.map λp=> .one (.ptr p 0)) (ps.map λp=> .one (.ptr (V.id p) 0 0))
 | []=>rfl
 |p::ps=>⟨_,_,rfl,⟨_,rfl,rfl⟩,yn ps⟩
theorem mV(hr:Rel F ks V f h){c:Call}{k:FuncId}{args:List KD}(hk:jD F ks c=some (k,args)):∃args',aW c (ov F.nt f)=some (k,args')/\(∀d∈args,ScD ks.nx d)/\RDl (an F ks) V args args':=by
 unfold jD at hk;split at hk
 .rename_i fo hcal;split at hk
  .rename_i k' first cap args0 hf ha;split at hk
   .rename_i hz;simp only [zsI,Prod.mk.injEq]at hk;obtain⟨rfl,rfl⟩:=hk;obtain⟨d,d1,d2,c1,rfl,d3⟩:=aU hr hf;obtain⟨zas,a1,a2,a3⟩:=rE hr ha;rw [show c1=_ from d3]at d1;refine⟨zas,?_,a2,a3⟩;unfold aW;rw [hcal];simp only [a1,d1,zbB,zbS];rw [if_pos hz]
   .simp at hk
  .rename_i k' ps args0 hf ha;simp only [zsI,Prod.mk.injEq]at hk;obtain⟨rfl,rfl⟩:=hk;obtain⟨d,d1,d2,c1,rfl,d3⟩:=aU hr hf;obtain⟨zas,a1,a2,a3⟩:=rE hr ha;rw [show c1=_ from d3]at d1;refine⟨zas++ps.map λp=> .one (.ptr (V.id p) 0 0),?_,?_,a3.append (yn ps)⟩
   .unfold aW;rw [hcal];simp only [a1,d1,zbB,zbS];simp
   .intro x hx;rcases List.mem_append.1 hx with hx|hx
    .exact a2 x hx
    .obtain⟨p,hp,rfl⟩:=List.mem_map.1 hx;exact d2 p hp
  .simp at hk
 .simp at hk
def Bn(kind:Kind)(rs:List TD)(vs:List (Bool×TD))(args:List D)(nid:Nat):Option Eff:=
 match kind with
 | .own=>match rs with
  | [.one (.s true sz l)]=>some {v:= .one (.own nid 0 l.length),upd:= [(nid,.own sz (l.map (·.map (pC true))))]}
  |_=>none
 | .fresh=>some {v:=eZ (rs.map (bu true))}
 | .any=>if args.any gb then none else some {v:=eZ (rs.map (bu (vs.all (·.1))))}
theorem iv{c:Call}{k:FuncId}{args:List D}{vs:List (Bool×TD)}{kind:Kind}{rs:List TD}{nid:Nat}{e:Eff}(hc:aI (.call c)=some c)(hr:aW c (ov F.nt f)=some (k,args))(hv:args.mapM (bn h)=some vs)(hk:cpR E n k (vs.map (·.2))=some (kind,rs))
  (he:Bn kind rs vs args nid=some e):stepG E (cpR E n) none nid (.call c) (aw (tab F.nt f)) h=some e:=by
 rw [gB,hc];show fx (cpR E n) nid c (aw (tab F.nt f)) h=_;unfold fx;rw [dq,hr];simp only [zbB,zbS,hv,hk];exact he
theorem wN{B:BK}{l:List (Bool×List KC)}{ds:List D}(hr:RTs B V l ds):RD B V (EJ l) (eZ ds):=by
 match l,hr with
 | [],hr=>rw [show ds= []from hr];exact⟨[],rfl,rfl⟩
 | [x],⟨d,s,e,h1,h2⟩=>rw [e,show s= []from h2];exact zT h1
 |x::y::l,⟨d,s,e,h1,d2,s2,e2,h3,h4⟩=>exact⟨ds,by rw [e,e2];rfl,d,s,e,h1,d2,s2,e2,h3,h4⟩
theorem zX{N:Nat}{l:List (Bool×List KC)}(hs:∀x∈l,Scs N x.2):ScD N (EJ l):=by
 match l,hs with
 | [],hs=>exact hs
 | [x],hs=>exact pL (hs x (by simp))
 |x::y::l,hs=>exact hs
theorem oQ{B:BK}{c:KC}{x:C}(hu:mN c=true)(hr:RC B V c x):fL x=false:=by
 cases c with
 |n k y=>rw [show x=_ from hr];rfl
 |b v=>rw [show x=_ from hr];rfl
 |p t P d=>rw [hr.1];rfl
 |bv y=>rw [show x=_ from hr];rfl
 |v y=>rw [show x=_ from hr];rfl
 |nil=>rw [show x=_ from hr];rfl
 |s e fr y=>obtain⟨fl,h1,_⟩:=hr;rw [h1];rfl
 |_=>simp [mN]at hu
theorem mW{B:BK}:∀{cs:List KC} {xs:List C},cs.all mN=true->RCs B V cs xs->xs.any fL=false
 | [],xs,_,h=>by rw [show xs= []from h];rfl
 |c::cs,xs,hu,⟨x,s,e,h1,h2⟩=>by
  simp only [List.all_cons,Bool.and_eq_true]at hu;rw [e,List.any_cons,oQ hu.1 h1,mW hu.2 h2];rfl
theorem kI{B:BK}:∀{ds:List KD} {xs:List D},ds.all mO=true->RDl B V ds xs->xs.any gb=false
 | [],xs,_,h=>by rw [show xs= []from h];rfl
 |d::ds,xs,hu,⟨x,s,e,h1,h2⟩=>by
  simp only [List.all_cons,Bool.and_eq_true]at hu;rw [e,List.any_cons,kI hu.2 h2]
  cases d with
  |one c=>obtain⟨c',rfl,hc⟩:=h1;rw [show gb (.one c')=fL c' from rfl,oQ hu.1 hc];rfl
  |agg cs=>obtain⟨c',rfl,hc⟩:=h1;rw [show gb (.agg c')=c'.any fL from rfl,mW hu.1 hc];rfl
  |tup ts=>simp [mO]at hu
theorem GV(hG:GOk G E D0)(hD:D0<=n)(hr:Rel F ks V f h)(ht:ks.nx<=tag)(hn:ks.nx<=nid)(htM:tag<M)(hnM:nid<M){c:Call}{k:FuncId}{args:List KD}{en:ct}(hc:aI (.call c)=some c)(hres:jD F ks c=some (k,args))(hen:G.fn k=some en)(hs:zM F ks nid en args κ=some r):∃eff,κ eff=some r/\bI E n F ks V f h M tag nid (.call c) eff:=by
 have hM:ks.nx<=M:=by omega
 obtain⟨args',r1,r2,r3⟩:=mV hr hres
 have hmem:en∈G.fns/\en.k=k:=by
  unfold KG.fn at hen;have h2:=List.find?_some (p:=λe:ct=>Nat.beq e.k k) hen;exact⟨List.mem_of_find?_eq_some hen,Nat.eq_of_beq_eq_true h2⟩
 obtain⟨hd,hok⟩:=hG.fns en hmem.1
 have key:∃a out,gW (an F ks) en.ins args=some a/\en.f a=some out/\κ (IS nid en.out out)=some r/\(∀ts,en.out= .data false ts->args.all mO=true)/\(∀e,en.out≠ .gown e):=by
  unfold zM at hs;split at hs
  .rename_i ts ho;split at hs
   .rename_i hu;simp only [zbE]at hs;obtain⟨a,g1,out,g2,g3⟩:=hs;exact⟨a,out,g1,g2,g3,λ_ _=>hu,λe h=>by rw [ho]at h;cases h⟩
   .simp at hs
  .simp at hs
  .rename_i ho ho2;simp only [zbE]at hs;obtain⟨a,g1,out,g2,g3⟩:=hs;exact⟨a,out,g1,g2,g3,λts h=>absurd h (ho ts),λe h=>absurd h (ho2 e)⟩
 obtain⟨a,out,g1,g2,g3,g4,g5⟩:=key;obtain⟨vs,v1,v2,v3⟩:=ly hr.bls g1 r3;have hrun:=hok (n - en.d) a out g2;rw [Nat.sub_add_cancel (by omega),hmem.2,<-v2]at hrun;refine⟨_,g3,?_⟩;obtain⟨ek,eins,eout,ef,ed⟩:=en;simp only at hrun g4 g5 ⊢
 cases eout with
 |data fr ts=>
  cases fr with
  |true=>exact aA ht hn htM (λq=>iv hc r1 v1 (hZ hrun) rfl) (zX (rG _ _ ts out)) (wN (mU (λ_=>rfl) ts out))
  |false=>
   obtain⟨fl,hrun⟩:=hrun;have hu:=kI (g4 ts rfl) r3
   cases fl with
   |true=>exact aA ht hn htM (λq=>iv hc r1 v1 (hZ hrun) rfl) (zX (rG _ _ ts out)) (wN (mU (λ_=>rfl) ts out))
   |false=>exact aA ht hn htM (λq=>iv hc r1 v1 (hZ hrun) (by unfold Bn;simp only [hu];rfl)) (zX (rG _ _ ts out)) (wN (mU (fl:=vs.all (·.1)) (λh=>by simp at h) ts out))
 |own e=>
  refine iV hM ht hn (λ_=>⟨trivial,by simp⟩) hnM (by simp) λq=> .inl ⟨trivial,_,_,iv hc r1 v1 (hZ hrun) rfl,⟨_,rfl,?_⟩,?_,by simp⟩
  .rw [List.length_map];exact eX
  .rw [List.map_map];rfl
 |gown e=>exact absurd rfl (g5 e)
 |mown e=>
  cases out with
  |nil=>exact iV hM ht hn (λ_=>⟨trivial,by simp⟩) hnM (by simp) λq=> .inr ⟨by simp [KB.there],_,iv hc r1 v1 (hZ hrun) rfl,⟨_,rfl,dv (k:=q)⟩⟩
  |cons y l=>
   refine iV hM ht hn (λ_=>⟨trivial,by simp⟩) hnM (by simp) λq=> .inl ⟨by simp [KB.there],_,_,iv hc r1 v1 (hZ hrun) rfl,⟨_,rfl,?_⟩,?_⟩
   .rw [List.length_map];exact dv (k:=q)
   .rw [List.map_map];rfl
theorem ut{c:Call}(hc:∀b,c.callee= .builtin b->False):aI (.call c)=some c:=by
 unfold aI;simp only
theorem rN(hG:GOk G E D0)(hD:D0<=n)(hr:Rel F ks V f h)(ht:ks.nx<=tag)(hn:ks.nx<=nid)(htM:tag<M)(hnM:nid<M)(hs:bw G F ks tag nid op κ=some r):∃eff,κ eff=some r/\bI E n F ks V f h M tag nid op eff:=by
 cases op with
 |move x=>exact Bi hr ht hn htM (.inl rfl) hs
 |assign x=>exact Bi hr ht hn htM (.inr rfl) hs
 |alloc t=>exact ES hG ht hn htM hnM hs
 |box t x=>exact IW hG hr ht hn htM hnM hs
 |build t parts=>exact EX hG hr ht hn htM hs
 |buildSlice t len parts=>exact CA hG hr ht hn htM hnM hs
 |load t a=>exact GR hG hr ht hn htM hs
 |store t a x=>exact ER hG hr ht hn htM hs
 |binOp o t x y s=>exact IY hG hr ht hn htM hs
 |unOp o t x=>exact GS hr ht hn htM hs
 |convert s t x=>exact zV hG hr ht hn htM hs
 |makeFunc fn a b=>exact ym hr ht hn htM hs
 |makeSlice t l c=>exact wK hG hr ht hn htM hnM hs
 |slice t x a b c=>exact EZ hG hr ht hn htM hs
 |fieldAddr t x m=>exact wI hG hr ht hn htM hs
 |field t x m=>exact ET hG hr ht hn htM hs
 |indexAddr t x i=>exact wL hG hr ht hn htM hs
 |index t x i=>exact Fc hG hr ht hn htM hs
 |extract x i=>exact zU hr ht hn htM hs
 |call c=>
  simp only [bw]at hs;split at hs
  .rename_i b hc;simp only [zbE]at hs;obtain⟨args,g1,g2⟩:=hs;exact zW hG hr ht hn htM hnM hc g1 g2
  .rename_i hc;split at hs
   .rename_i k args hres;split at hs
    .rename_i en hen;exact GV hG hD hr ht hn htM hnM (ut hc) hres hen hs
    .simp at hs
   .simp at hs
 |_=>simp [bw]at hs
end
end K
end Ev
end
noncomputable section
namespace Ev
namespace K
open Go Go.RowKit
structure Ext(F:KF)(ks:KS)(V:Vl)(ks':KS)(V':Vl):Prop where
 nx:ks.nx<=ks'.nx
 agree:Agree ks.nx V V'
 le:LeB ks.nx (an F ks) (an F ks')
 dom:∀p,p<ks.nx->af ks.bl p=none->af ks'.bl p=none
theorem Ext.refl(F:KF)(ks:KS)(V:Vl):Ext F ks V ks V:=⟨Nat.le_refl _,Agree.refl _ _,LeB.refl _ _,λp hp h=>h⟩
theorem Ext.trans{F:KF}{ks ks' ks'':KS}{V V' V'':Vl}(h:Ext F ks V ks' V')(h':Ext F ks' V' ks'' V''):Ext F ks V ks'' V'':=
 ⟨Nat.le_trans h.nx h'.nx,h.agree.trans h'.agree h.nx,h.le.trans h'.le h.nx,λp hp hl=>h'.dom p (Nat.lt_of_lt_of_le hp h.nx) (h.dom p hp hl)⟩
def HU:Blk->Option (Nat×List (List C))
 | .own sz es=>some (sz,es)
 |_=>none
structure My(h:aj)(u:List (Nat×Blk))(h':aj):Prop where
 out:∀q,(∀x∈u,x.1≠q)->aq h' q=aq h q
 in_:∀x∈u,aq h' x.1=HU x.2
section
variable {E : Env} {n : Nat} {F : KF} {ks : KS} {V : Vl} {f : Nat → D} {h : aj} {M tag nid : Nat} {op : Op} {G : KG} {D0 : Nat} {R : Type} {r : R}
theorem lA{B:BK}{k:Nat}{b:KB}(hb:RB B V h k b)(ht:b.there):∃z,aq h k=some z:=by
 cases b with
 |box cs=>obtain⟨sz,cs',h1,_⟩:=hb;exact⟨_,h1⟩
 |rows e ne l=>exact⟨_,hb.1⟩
 |mrows e l=>exact⟨_,hb ht⟩
 |dead=>exact ht.elim
theorem HV{B:BK}{k:Nat}{b:KB}{x:Blk}(hx:BlkIs B V x b)(hg:aq h k=HU x):RB B V h k b:=by
 cases b with
 |box cs=>obtain⟨sz,cs',rfl,h2⟩:=hx;exact⟨sz,cs',hg,h2⟩
 |rows e ne l=>obtain⟨rfl,h2⟩:=hx;exact⟨hg,h2⟩
 |mrows e l=>rw [show x=_ from hx]at hg;exact λ_=>hg
 |dead=>trivial
theorem rO{e:KE}{p:Nat}{b:KB}(hnew:∀b,e.new=some b->b≠ .dead)(hb:Be F ks nid e p=some b):(p=nid/\e.new=some b)∨(e.upd=some (p,b))∨((∀b',e.new=some b'->p≠nid)/\(∀q b',e.upd=some (q,b')->p≠q)/\an F ks p=some b):=by
 have h1:∀p b,an F {ks with bl:=blU e ks.bl} p=some b->(e.upd=some (p,b))∨((∀q b',e.upd=some (q,b')->p≠q)/\an F ks p=some b):=by
  intro p b hb;unfold blU at hb
  cases hu:e.upd with
  |none=>rw [hu]at hb;exact .inr ⟨λq b' h=>by simp at h,hb⟩
  |some x=>
   obtain⟨q,b'⟩:=x;rw [hu]at hb;simp only at hb;by_cases hd:b'= .dead
   .subst hd;rw [uj]at hb;split at hb
    .simp at hb
    .rename_i hpq;exact .inr ⟨λq' b2 h=>by simp at h;obtain⟨rfl,rfl⟩:=h;exact hpq,hb⟩
   .rw [fI hd]at hb;split at hb
    .rename_i hpq;subst hpq;cases hb;exact .inl rfl
    .rename_i hpq;exact .inr ⟨λq' b2 h=>by simp at h;obtain⟨rfl,rfl⟩:=h;exact hpq,hb⟩
 unfold Be blE at hb
 cases hn:e.new with
 |none=>
  rw [hn]at hb;rcases h1 p b hb with h|h
  .exact .inr (.inl h)
  .exact .inr (.inr ⟨λb' h=>by simp at h,h.1,h.2⟩)
 |some b0=>
  rw [hn]at hb;simp only [fI (hnew b0 hn)]at hb;split at hb
  .rename_i hp;cases hb;exact .inl ⟨hp,rfl⟩
  .rename_i hp;rcases h1 p b hb with h|h
   .exact .inr (.inl h)
   .exact .inr (.inr ⟨λb' h=>hp,h.1,h.2⟩)
def upO(dst:Option Tmp)(v:D)(f:Nat->D):Nat->D:=
 match dst with
 |some d=>up f d v
 |none=>f
theorem rP(hr:Rel F ks V f h){e:KE}{dst:Option Tmp}{k:Nat}{bo:Bool}{v:D}{u:List (Nat×Blk)}{h':aj}(ht:ks.nx<=tag)(hn:ks.nx<=nid)(htM:tag<M)(hnM:nid<M)(hdst:fX F dst=true)
  (hupd:∀p b,e.upd=some (p,b)->∃b0,af ks.bl p=some b0/\b0≠ .dead/\ScB ks.nx b/\b0.like b) (hnew:∀b,e.new=some b->ScB ks.nx b/\b≠ .dead) (hsc:ScD M (jc tag e.v))
  (hrd:RD (Be F ks nid e) (V.set nid k tag bo) (jc tag e.v) v) (hreal:EQ (Be F ks nid e) (V.set nid k tag bo) V ks k e u) (hk:(∃b,e.new=some b)->aq h k=none) (hh:My h u h'):
  Rel F {zN dst tag nid e ks with nx:=M} (V.set nid k tag bo) (upO dst v f) h'/\Ext F ks V {zN dst tag nid e ks with nx:=M} (V.set nid k tag bo):=by
 have hM:ks.nx<=M:=by omega
 have hle:LeB ks.nx (an F ks) (Be F ks nid e):=wD hn (λp b hb=>by obtain⟨b0,h1,h2,_,h4⟩:=hupd p b hb;exact⟨b0,h1,h2,h4⟩) (λb hb=>(hnew b hb).2);have hag:Agree ks.nx V (V.set nid k tag bo):=Vl.set_agree hn ht;obtain⟨uo,un,hu,huo,hun⟩:=hreal;have hblold:∀p b,an F ks p=some b->p<ks.nx/\ScB ks.nx b/\RB (an F ks) V h (V.id p) b:=hr.bl
 have hupdthere:∀p b,e.upd=some (p,b)->b.there->∃b0,an F ks p=some b0/\b0.there:=by
  intro p b hb hth;obtain⟨b0,g1,g2,_,_⟩:=hupd p b hb;rw [hb]at huo;rcases huo with⟨x,_,_,h3⟩|⟨_,h2,_⟩
  .exact⟨b0,ah g1 g2,h3 b0 g1⟩
  .exact absurd hth h2
 -- a block that is there is not the new one
 have hnk:(∃b,e.new=some b)->∀p b,an F ks p=some b->b.there->V.id p≠k:=by
  intro hex p b hb hth he;obtain⟨z,hz⟩:=lA (hblold p b hb).2.2 hth;rw [he,hk hex]at hz;simp at hz
 -- what is not turned
 have hkeep:∀p b,an F ks p=some b->(∀q b',e.upd=some (q,b')->p≠q)->b.there->aq h' (V.id p)=aq h (V.id p):=by
  intro p b hb hq hth;refine hh.out _ λx hx=> ?_;rw [hu,List.mem_append]at hx;rcases hx with hx|hx
  .cases he:e.upd with
   |none=>rw [he]at huo;rw [show uo= []from huo]at hx;simp at hx
   |some y=>
    obtain⟨q,b'⟩:=y;rw [he]at huo;rcases huo with⟨y,h1,h2,h3⟩|⟨h1,_⟩
    .rw [h1,List.mem_singleton]at hx;subst hx;intro heq;obtain⟨b0,g1,g2,_,_⟩:=hupd q b' he;exact hq q b' he (hr.inj p q b b0 hb (ah g1 g2) hth (h3 b0 g1) heq.symm)
    .rw [h1]at hx;simp at hx
  .cases he:e.new with
   |none=>rw [he]at hun;rw [show un= []from hun]at hx;simp at hx
   |some b'=>
    rw [he]at hun;rcases hun with⟨y,h1,_⟩|⟨h1,_⟩
    .rw [h1,List.mem_singleton]at hx;subst hx;exact λheq=>hnk ⟨b',he⟩ p b hb hth heq.symm
    .rw [h1]at hx;simp at hx
 have hidold:∀p,p<ks.nx->(V.set nid k tag bo).id p=V.id p:=λp hp=>(hag p hp).1;refine⟨⟨?_,?_,?_⟩,⟨hM,hag,hle,?_⟩⟩
 .intro i d hd
  have hold:eG F ks i=some d->(∀j,dst=some j->i≠j)->i<F.nt/\ScD M d/\RD (Be F ks nid e) (V.set nid k tag bo) d (upO dst v f i):=by
   intro h1 h2;obtain⟨g1,g2,g3⟩:=hr.sl i d h1;refine⟨g1,g2.mono hM,?_⟩;have g4:=g3.mono g2 hle hag
   cases dst with
   |none=>exact g4
   |some j=>
    show RD _ _ d (up f j v i);unfold up
    have:=h2 j rfl
    rw [show Nat.beq i j=false by cases hb:Nat.beq i j with|true=>exact absurd (Nat.eq_of_beq_eq_true hb) this|false=>rfl];exact g4
  cases dst with
  |none=>exact hold hd (λj hj=>by simp at hj)
  |some j=>
   have hd':aK ((j,jc tag e.v)::ks.sl) F.sl i=some d:=hd;unfold aK at hd';rw [ai]at hd';by_cases hij:i=j
   .subst hij;rw [if_pos rfl]at hd';cases hd';refine⟨by simpa [fX]using hdst,hsc,?_⟩;show RD _ _ _ (up f i v i);unfold up;rw [show Nat.beq i i=true from Nat.beq_refl i];exact hrd
   .rw [if_neg hij]at hd';exact hold hd' (λj' hj'=>by cases hj';exact hij)
 .intro p b hb;have hb':Be F ks nid e p=some b:=hb;rcases rO (λb hb=>(hnew b hb).2) hb' with⟨rfl,h1⟩|h1|⟨h1,h2,h3⟩
  .refine⟨hnM,((hnew b h1).1).mono hM,?_⟩;show RB (Be F ks p e) _ h' ((V.set p k tag bo).id p) b;rw [Vl.set_id];rw [h1]at hun;rcases hun with⟨x,g1,g2,g3⟩|⟨g1,g2⟩
   .exact HV g2 (hh.in_ (k,x) (by rw [hu,g1];simp))
   .cases b with
    |mrows e l=>exact λhl=>absurd hl g2
    |dead=>trivial
    |box cs=>exact absurd trivial g2
    |rows e ne l=>exact absurd trivial g2
  .obtain⟨b0,g1,g2,g3,g4⟩:=hupd p b h1;obtain⟨e1,e2,e3⟩:=hblold p b0 (ah g1 g2);refine⟨Nat.lt_of_lt_of_le e1 hM,g3.mono hM,?_⟩;show RB (Be F ks nid e) _ h' ((V.set nid k tag bo).id p) b;rw [hidold p e1];rw [h1]at huo;rcases huo with⟨x,k1,k2,k3⟩|⟨k1,k2,k3⟩
   .exact HV k2 (hh.in_ (V.id p,x) (by rw [hu,k1];simp))
   .cases b with
    |mrows e l=>exact λhl=>absurd hl k2
    |dead=>trivial
    |box cs=>exact absurd trivial k2
    |rows e ne l=>exact absurd trivial k2
  .obtain⟨e1,e2,e3⟩:=hblold p b h3;refine⟨Nat.lt_of_lt_of_le e1 hM,e2.mono hM,?_⟩;show RB (Be F ks nid e) _ h' ((V.set nid k tag bo).id p) b;rw [hidold p e1];have e4:=e3.mono e2 hle hag;by_cases hth:b.there
   .exact e4.heap (hkeep p b h3 h2 hth)
   .cases b with
    |mrows e l=>exact λhl=>absurd hl hth
    |dead=>trivial
    |box cs=>exact absurd trivial hth
    |rows e ne l=>exact absurd trivial hth
 .intro p q b b' hp hq tp tq hid
  have key:∀p b,Be F ks nid e p=some b->b.there->(p=nid/\(V.set nid k tag bo).id p=k/\∃b,e.new=some b)∨(p<ks.nx/\(V.set nid k tag bo).id p=V.id p/\∃b0,an F ks p=some b0/\b0.there):=by
   intro p b hb hth;rcases rO (λb hb=>(hnew b hb).2) hb with⟨rfl,h1⟩|h1|⟨h1,h2,h3⟩
   .exact .inl ⟨rfl,Vl.set_id,b,h1⟩
   .obtain⟨b0,g1,g2⟩:=hupdthere p b h1 hth;exact .inr ⟨(hblold p b0 g1).1,hidold p (hblold p b0 g1).1,b0,g1,g2⟩
   .exact .inr ⟨(hblold p b h3).1,hidold p (hblold p b h3).1,b,h3,hth⟩
  rcases key p b hp tp with⟨rfl,e1,hx1⟩|⟨l1,e1,b0,g1,g2⟩
  .rcases key q b' hq tq with⟨rfl,e2,hx2⟩|⟨l2,e2,b1,g3,g4⟩
   .rfl
   .rw [e1,e2]at hid;exact absurd hid.symm (hnk hx1 q b1 g3 g4)
  .rcases key q b' hq tq with⟨rfl,e2,hx2⟩|⟨l2,e2,b1,g3,g4⟩
   .rw [e1,e2]at hid;exact absurd hid (hnk hx2 p b0 g1 g2)
   .rw [e1,e2]at hid;exact hr.inj p q b0 b1 g1 g3 g2 g4 hid
 .intro p hp hl;show af (blE e nid ks.bl) p=none
  have h1:af (blU e ks.bl) p=none:=by
   unfold blU
   cases hu':e.upd with
   |none=>exact hl
   |some x=>
    obtain⟨q,b'⟩:=x;obtain⟨b0,g1,_⟩:=hupd q b' hu';simp only [ai];rw [if_neg (λhe=>by subst he;rw [g1]at hl;simp at hl)];exact hl
  unfold blE
  cases hn':e.new with
  |none=>exact h1
  |some b=>simp only [ai];rw [if_neg (by omega)];exact h1
end
end K
end Ev
end
end Go.Proofs.Ytmlpoegdhcdkcaa
