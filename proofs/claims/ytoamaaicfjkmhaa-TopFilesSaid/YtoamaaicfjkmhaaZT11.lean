/- Texts of a claim, joined. -/
import Derived.Test.YtoamaaicfjkmhaaZT10
import Derived.Laws.CopyOwn
import Derived.Lib.EndianBits
import Derived.Laws.BytesArg
import Derived.Lib.BufferRead
set_option linter.unusedVariables false
set_option linter.unusedSimpArgs false
namespace Go.Proofs.Ytoamaaicfjkmhaa
noncomputable section
open Go.RowKit Go.Sort
namespace Sm
namespace Eg
open Ev
abbrev ety:K.Ty:= .C (.I .i64) (.C (.I .i64) (.I .i64))
def RG(r:Int):Rg:=⟨ofW,ld r,dn⟩
def inB(n:Int):Bool:=decide (-9223372036854775808<=n)&& decide (n<=9223372036854775807)
theorem Bt{n:Int}(h:inB n=true):pw n:=by simpa [inB,pw]using h
def okB(x:Sl (Int×Int×Int)):Bool:=decide (x.l.length<=90000)&&(x.l.all λe=>inB e.1 &&(inB e.2.1 && inB e.2.2))&&(decide (x.sz=3)||x.l.isEmpty)&&(x.nn||x.l.isEmpty)
def fn(a:Int×Sl (Int×Int×Int)):Option (Sl (Int×Int×Int)×Int):=
 if jO a.1=true then if okB a.2=true then if fg a.2.l=true then some (⟨a.2.nn,3,a.2.l⟩,0)else
  let o:=bJ (RG a.1) a.2.l
  some (if o.2=0 then(⟨true,3,o.1⟩,0)else(⟨false,0,[]⟩,o.2))else none else some (⟨false,0,[]⟩,8)
theorem rd_of{w:World}{F:Nat->Prop}{x:Sl (Int×Int×Int)}{y:Value}(hx:okB x=true)(h:RepT w F (Sl.t ety.row x) y):∃a c,y= .slice a x.l.length c/\RdE w a x.l/\(a=none->c=0/\x.l.length=0)/\x.l.length<=c/\x.nn=a.isSome:=by
 obtain⟨nn,sz,l⟩:=x;simp only [okB,Bool.and_eq_true,Bool.or_eq_true,decide_eq_true_eq,List.isEmpty_iff]at hx;unfold Sl.t at h
 cases h with
 |s _ _ _ a c ys hn hc h0 hl hm hr=>
  rw [List.length_map]at hc ⊢;refine⟨a,c,rfl,?_,λha=>⟨h0 ha,by have:=h0 ha;omega⟩,hc,hn⟩;intro i hi
  have hsz:sz=3:=by
   rcases hx.1.2 with h|h
   .exact h
   .rw [h]at hi;simp at hi
  subst hsz;have hil:(l.map ety.row)[i]? =some (ety.row l[i]):=by simp [hi]
  have he:el l i=l[i]:=by simp [el,List.getD_eq_getElem?_getD,hi]
  rw [he]
  have g:∀j v,(ety.row l[i])[j]? =some (.v v)->∃b,a=some b/\b.block<w.heap.size/\w.cell? (b.add (i*3+j))=some v:=by
   intro j v hj;obtain⟨b,h1,h2,_,h3⟩:=hm i _ j _ hil hj;refine⟨b,h1,h2,?_⟩
   have:=hr i _ j _ hil hj
   rw [h3];generalize ys i j=y at this
   cases this with|v x hx=>rfl
  obtain⟨b,e0,h1,c0⟩:=g 0 (.int .i64 l[i].1) rfl;obtain⟨b1,e1,_,c1⟩:=g 1 (.int .i64 l[i].2.1) rfl;obtain⟨b2,e2,_,c2⟩:=g 2 (.int .i64 l[i].2.2) rfl;rw [e0]at e1 e2;cases e1;cases e2;refine⟨b,e0,h1,by simpa using c0,?_,?_⟩
  .rw [fc]at c1;exact c1
  .rw [fc,fc]at c2;exact c2
theorem rep_of{base:Nat}{w:World}{F:Nat->Prop}{a:Option Addr}{c:Nat}{l:List (Int×Int×Int)}(h:Out base w a c l)(hF:∀b,F b->b<base)(hne:l≠[]∨a≠none):RepT w F (Sl.t ety.row ⟨true,3,l⟩) (.slice a l.length c):=by
 obtain⟨h1,h2,h3,h4⟩:=h
 obtain⟨b0,rfl⟩:∃b0,a=some b0:=by
  cases a with
  |some b=>exact⟨b,rfl⟩
  |none=>exact absurd (List.eq_nil_of_length_eq_zero (h2 rfl).2) (hne.resolve_right (by simp))
 have key:=RepT.s (w:=w) (F:=F) true 3 (l.map ety.row) (some b0) c (λi j=>match j with
  |0=> .int .i64 (el l i).1
  |1=> .int .i64 (el l i).2.1
  |_=> .int .i64 (el l i).2.2) rfl (by simpa using h3) (by simp) (λi e hi=>by
   rw [List.getElem?_map,Option.map_eq_some_iff]at hi;obtain⟨x,_,rfl⟩:=hi
   rfl) ?_ ?_
 .rw [List.length_map]at key;exact key
 .intro i e j t hi hj;rw [List.getElem?_map,Option.map_eq_some_iff]at hi;obtain⟨x,hx,rfl⟩:=hi;have hil:i<l.length:=(List.getElem?_eq_some_iff.1 hx).1;obtain⟨b,e0,g1,c0,c1,c2⟩:=h1 i hil;cases e0;refine⟨b0,rfl,g1,λhf=>by have:=h4 b0 rfl;have:=hF _ hf;omega,?_⟩;have hj3:j<3:=(List.getElem?_eq_some_iff.1 hj).1;rcases(show j=0∨j=1∨j=2 by omega)with rfl|rfl|rfl
  .simpa using c0
  .rw [fc];exact c1
  .rw [fc,fc];exact c2
 .intro i e j t hi hj;rw [List.getElem?_map,Option.map_eq_some_iff]at hi;obtain⟨x,hx,rfl⟩:=hi;have hx2:el l i=x:=by simp [el,List.getD_eq_getElem?_getD,hx]
  have hj3:j<3:=(List.getElem?_eq_some_iff.1 hj).1;rcases(show j=0∨j=1∨j=2 by omega)with rfl|rfl|rfl
  .cases hj;simp only [hx2];exact .v _ rfl
  .cases hj;simp only [hx2];exact .v _ rfl
  .cases hj;simp only [hx2];exact .v _ rfl
theorem Nk(R:Rg)(e:Ed):∀S,ins R S e≠[]
 | []=>by simp [ins]
 |p::S=>by
  unfold ins;split
  .simp
  .split<;>simp
theorem Nl{R:Rg}{l:List Ed}(h:l≠[]):eR R l≠[]:=by
 obtain⟨m,e,rfl⟩:∃m e,l=m++ [e]:=⟨l.dropLast,l.getLast h,(List.dropLast_concat_getLast h).symm⟩;rw [Eu];exact Nk R e _
theorem Nm{R:Rg}{l:List Ed}(h:l≠[])(h0:(bJ R l).2=0):(bJ R l).1≠[]:=by
 unfold bJ at h0 ⊢;split at h0
 .rename_i hc;rw [if_pos hc];simpa using Nl h
 .simp at h0
theorem OQ{R:Rg}{l:List Ed}(h0:(bJ R l).2≠0):bJ R l=([],12):=by
 unfold bJ at h0 ⊢;split at h0
 .exact absurd rfl h0
 .rename_i hc;rw [if_neg hc]
set_option maxRecDepth 100000 in
theorem GI(x:Int)(hx:pw x)(W:World)(hL:LD W.heap.size W):Calls Try.prog 67 #[.int .i64 x] W λe w'=>e= .returned (WV (ofW x))/\Below W.heap.size W w':=by
 have h:=K.jP 0 x (ofW x) (pz hx);exact ig (RunsP.pure K.cJ h) rfl rfl W hL
set_option maxRecDepth 100000 in
theorem EH(r:Int)(x y:V)(W:World)(hL:LD W.heap.size W):Calls Try.prog 66 #[.int .i64 r,WV x,WV y] W λe w'=>e= .returned (WV (ld r x y))/\Below W.heap.size W w':=by
 have h:=K.xU 0 (r,x,y) (ld r x y) (Bs r x y);exact ig (RunsP.pure K.cJ h) rfl rfl W hL
set_option maxRecDepth 100000 in
theorem EI(r:Int)(x:V)(W:World)(hL:LD W.heap.size W):Calls Try.prog 68 #[.int .i64 r,WV x] W λe w'=>e= .returned (.tuple #[.int .i64 (dn x).1,.bool (dn x).2])/\Below W.heap.size W w':=by
 have h:=K.qW 0 (r,x) (dn x) (vj r x);exact ig (RunsP.pure K.cJ h) rfl rfl W hL
theorem LD.below{w W:World}(hL:LD w.heap.size w)(hb:Below w.heap.size w W):LD W.heap.size W:=(hL.keep (λ_ hs=>hb.block 0 hs) hb.size).up hb.size
theorem RepT.below{w W:World}{F F':Nat->Prop}{t:T}{y:Value}(h:RepT w F t y)(hb:Below w.heap.size w W)(hF:∀b,F' b->F b):RepT W F' t y:=h.mono hb.size λb hlt _ hn=>⟨hb.block b hlt,λhf=>hn (hF b hf)⟩
theorem EJ{w:World}{F:Nat->Prop}{x:Sl (Int×Int×Int)}{y:Value}(hr:RepT w F (Sl.t ety.row x) y)(hL:LD w.heap.size w){b:Bool}(hb:cr x=some b)(W:World)(hW:Below w.heap.size w W):Calls Try.prog 18 #[y] W λe w'=>e= .returned (.bool b)/\Below W.heap.size W w':=by
 have h:=RunsP.pure K.cJ (K.qY 0 x b hb);refine(h W (λ_=>False) [y] (LD.below hL hW) (λ_ h=>h.elim) ⟨rfl,λi t hi=> ?_⟩).mono λe w' ⟨y',e1,e2,_,e3⟩=>⟨?_,e3⟩
 .have h0:i=0:=by
   have h1:i<1:=(List.getElem?_eq_some_iff.1 hi).1;omega
  subst h0;cases hi;exact⟨y,rfl,.one _ _ (RepT.below hr hW λ_ h=>h.elim)⟩
 .rw [e1,Gt (x:= .bool b) rfl w' _ e2]
theorem JL(w:World):(binOp .eql 36 (.slice none 0 0) (.slice none 0 0)).run Try.prog w= .ok (.bool true) w:=by kernel_rfl
theorem JM(w:World)(b:Addr)(n c:Nat):(binOp .eql 36 (.slice (some b) n c) (.slice none 0 0)).run Try.prog w= .ok (.bool false) w:=by kernel_rfl
set_option maxRecDepth 100000 in
set_option maxHeartbeats 1000000 in
theorem sA(a:Option Addr)(l:List Ed)(c:Nat)(w:World)(hr:RdE w a l)(hz:a=none->c=0/\l.length=0)(hl:l.length<=90000):Calls Try.prog 27 #[.slice a l.length c] w λe w'=>∃v,e= .returned v/\w'.ownsRow w.heap.size 48 3 v l.length (cellsE l)/\Below w.heap.size w w'/\(a=none->v= .slice none 0 0)/\(a≠none->∃k,v.ownBlock=some k):=by
 by_cases ha:a=none
 .obtain⟨rfl,h0⟩:=hz ha;subst ha;obtain rfl:l= []:=List.eq_nil_of_length_eq_zero h0;have hq:=JL w
  go_enter Try.func27,Try.ntmps27
  go_wp2
  go_ret
  refine⟨_,rfl,World.ownsRow_nil _ _ _ _,(by repeat (first|with_reducible refine blg ?_ _ _|with_reducible refine bla ?_ _|with_reducible exact Below.refl _ _)),?_⟩
  first|exact⟨λ_=>rfl,λh=>absurd rfl h⟩|rfl|simp
 .obtain⟨b,rfl⟩:=Option.ne_none_iff_exists'.1 ha;obtain⟨n,hn⟩:∃n,n=l.length:=⟨_,rfl⟩;rw [<-hn]at hl hz ⊢;have HN:=Lib.hid hn;clear hn ha;have hq:=JM w b n c
  go_enter Try.func27,Try.ntmps27
  have h0:(w.alloc (.cells #[] 48)).ownsRow w.heap.size 48 3 (.slice (some ⟨w.heap.size,0,none⟩) 0 0) 0 (cellsE []):=by
   exact World.ownsRow_lit w #[] 0 (Nat.le_refl _) (by unfold maxLen;omega) rfl
  go_wp2_with (refine ij rfl _ _ rfl w.heap.size _ 0 [] rfl h0 (some b) n c l rfl HN.out (hr.below (bl1 _ _)) (by simp) (by omega) (by simp) ?_;intro v' w' hown hg hat)
  go_ret
  refine⟨_,rfl,by simpa using hown,(bl1 w _).trans (wa (v:= .slice (some ⟨w.heap.size,0,none⟩) 0 0) hg (λk hk=>by cases hk;exact Nat.le_refl _) (by simp)),?_⟩;have hk:=hat.elim (λh=>(⟨_,h⟩:∃k,v'.ownBlock=some k)) λh=>⟨_,h⟩
  first|exact⟨λh=>(by cases h),λ_=>hk⟩|exact hk|simpa using hk
set_option maxRecDepth 100000 in
theorem bad(r:Int)(a:Option Addr)(n c:Nat)(w:World)(hI:∀W,Below w.heap.size w W->Calls Try.prog 65 #[.int .i64 r] W λe w'=>e= .returned (.bool false)/\Below W.heap.size W w'):
  Calls Try.prog 39 #[.int .i64 r,.slice a n c] w λe w'=>e= .returned (.tuple #[.slice none 0 0,.int .i64 8])/\Below w.heap.size w w':=by
 have HI:=Lib.hid hI;clear hI
 go_enter Try.func39,Try.ntmps39
 go_wp2_with fail
 refine(HI.out w (Below.refl _ _)).mono ?_;rintro x w1 ⟨rfl,hb1⟩
 go_wp2
 go_ret2
 exact⟨rfl,hb1⟩
set_option maxRecDepth 100000 in
set_option maxHeartbeats 1000000 in
theorem Nn(r:Int)(a:Option Addr)(l:List Ed)(c:Nat)(w:World)(hIs:∀W,Below w.heap.size w W->Calls Try.prog 65 #[.int .i64 r] W λe w'=>e= .returned (.bool true)/\Below W.heap.size W w')
  (hO:∀W,Below w.heap.size w W->Calls Try.prog 18 #[.slice a l.length c] W λe w'=>e= .returned (.bool true)/\Below W.heap.size W w') (hr:RdE w a l) (hz:a=none->c=0/\l.length=0) (hl:l.length<=90000):
  Calls Try.prog 39 #[.int .i64 r,.slice a l.length c] w λe w'=>∃v,e= .returned (.tuple #[v,.int .i64 0])/\w'.ownsRow w.heap.size 48 3 v l.length (cellsE l)/\Below w.heap.size w w'/\(a=none->v= .slice none 0 0)/\(a≠none->∃k,v.ownBlock=some k):=by
 have HI:=Lib.hid hIs;have HO:=Lib.hid hO;clear hIs hO
 go_enter Try.func39,Try.ntmps39
 go_wp2_with fail
 refine(HI.out w (Below.refl _ _)).mono ?_;rintro x w1 ⟨rfl,hb1⟩
 go_wp2_with fail
 refine(HO.out w1 hb1).mono ?_;rintro x w2 ⟨rfl,hb2⟩;have hbw:=hb1.trans (hb2.mono hb1.size)
 go_wp2_with fail
 refine(sA a l c w2 (hr.below hbw) hz hl).mono ?_;rintro x w3 ⟨v,rfl,hown,hb3,hv1,hv2⟩
 go_wp2
 go_ret2
 exact⟨v,rfl,nI hown hbw.size,hbw.trans (hb3.mono hbw.size),hv1,hv2⟩
theorem zA(r:Int)(W:World)(hL:LD W.heap.size W):Calls Try.prog 65 #[.int .i64 r] W λe w'=>e= .returned (.bool (jO r))/\Below W.heap.size W w':=by
 have h:=K.zy 0 r (jO r) (ED r);exact ig (RunsP.pure K.cJ h) rfl rfl W hL
theorem nil_rep(w:World)(F:Nat->Prop):RepT w F (Sl.t ety.row ⟨false,0,[]⟩) (.slice none 0 0):=RepT.s (w:=w) (F:=F) false 0 [] none 0 (λ_ _=> .nilFunc) rfl (Nat.le_refl _) (λ_=>rfl) (λi e h=>by simp at h) (λi e j t h=>by simp at h) (λi e j t h=>by simp at h)
theorem two{w:World}{F:Nat->Prop}{t:T}{y:Value}{e:Int}(h:RepT w F t y):jJ w F [.one t,.one (iT .i64 e)] (.tuple #[y,.int .i64 e]):=by
 refine⟨[y,.int .i64 e],rfl,rfl,λi t' hi=> ?_⟩
 match i,hi with
 |0,hi=>cases hi;exact⟨y,rfl,.one _ _ h⟩
 |1,hi=>cases hi;exact⟨_,rfl,.one _ _ (.v _ rfl)⟩
 |i+2,hi=>simp at hi
abbrev ins:List K.TyD:= [(false,.I .i64),(false,.S ety)]
abbrev outs:List K.TyD:= [(false,.S ety),(false,.I .i64)]
theorem nil_rep0(w:World)(F:Nat->Prop):RepT w F (Sl.t ety.row ⟨false,3,[]⟩) (.slice none 0 0):=RepT.s (w:=w) (F:=F) false 3 [] none 0 (λ_ _=> .nilFunc) rfl (Nat.le_refl _) (λ_=>rfl) (λi e h=>by simp at h) (λi e j t h=>by simp at h) (λi e j t h=>by simp at h)
theorem pure_ok(a:K.aQ ins)(o:K.aQ outs)(h:fn a=some o):dY Try.prog 39 (K.bP ins a) .fresh (K.bP outs o):=by
 obtain⟨r,x⟩:=a;change Int at r;change Sl (Int×Int×Int)at x;unfold fn at h;split at h
 rotate_left
 .rename_i hring;simp only at hring;cases h;intro w F ys hL hF hr;obtain⟨hlen,hi⟩:=hr
  match ys,hlen with
  | [y0,y1],_=>
   obtain⟨y,e1,e2⟩:=hi 0 _ rfl;simp only [List.getElem?_cons_zero,zsI]at e1;subst e1
   have ey:y0= .int .i64 r:=by
    cases e2 with
    |one t y h=>cases h with|v x hx=>rfl
   subst ey;obtain⟨y,e1,e2⟩:=hi 1 _ rfl;simp only [List.getElem?_cons_succ,List.getElem?_cons_zero,zsI]at e1;subst e1
   have e3:RepT w F (Sl.t ety.row x) y1:=by cases e2 with|one t y h=>exact h
   obtain⟨ad,n,c,rfl⟩:∃a n c,y1= .slice a n c:=by
    unfold Sl.t at e3
    cases e3 with
    |s _ _ _ a c ys hn=>exact⟨_,_,_,rfl⟩
   have hf:jO r=false:=by simpa using hring
   refine(bad r ad n c w (λW hW=>by have:=zA r W (LD.below hL hW);rw [hf]at this;exact this)).mono λe w' ⟨he,hbl⟩=>⟨_,he,two (nil_rep _ _),λhk=>(by cases hk),hbl⟩
 rename_i hring;simp only at hring;split at h
 .rename_i hx;simp only at hx;simp only at h;obtain⟨b,hb0⟩:∃b,b=fg x.l:=⟨_,rfl⟩;rw [<-hb0]at h
  have hb:cr x=some b:=by
   have hx2:=hx;simp only [okB,Bool.and_eq_true,Bool.or_eq_true,decide_eq_true_eq,List.isEmpty_iff,List.all_eq_true]at hx2;rw [hb0];exact iw hx2.1.2.symm (by omega)
  intro w F ys hL hF hr;obtain⟨hlen,hi⟩:=hr
  match ys,hlen with
  | [y0,y1],_=>
   obtain⟨y,e1,e2⟩:=hi 0 _ rfl;simp only [List.getElem?_cons_zero,zsI]at e1;subst e1
   have ey:y0= .int .i64 r:=by
    cases e2 with
    |one t y h=>cases h with|v x hx=>rfl
   subst ey;obtain⟨y,e1,e2⟩:=hi 1 _ rfl;simp only [List.getElem?_cons_succ,List.getElem?_cons_zero,zsI]at e1;subst e1
   have e3:RepT w F (Sl.t ety.row x) y1:=by cases e2 with|one t y h=>exact h
   clear e2 hi;obtain⟨ad,c,rfl,h1,h2,h3,hnn⟩:=rd_of hx e3;have hx2:=hx;simp only [okB,Bool.and_eq_true,Bool.or_eq_true,decide_eq_true_eq,List.isEmpty_iff,List.all_eq_true]at hx2;have hO:=EJ e3 hL hb;have hI:∀W,Below w.heap.size w W->Calls Try.prog 65 #[.int .i64 r] W λe w'=>e= .returned (.bool true)/\Below W.heap.size W w':=λW hW=>by have:=zA r W (LD.below hL hW);rw [hring]at this;exact this
   cases b with
   |true=>
    rw [if_pos rfl]at h;cases h;refine(Nn r ad x.l c w hI hO h1 h2 hx2.1.1.1).mono λe w' ⟨v,he,hown,hbl,hv1,hv2⟩=>⟨_,he,?_,λhk=>(by cases hk),hbl⟩
    cases ad with
    |none=>
     rw [hv1 rfl];have hl0:x.l= []:=List.eq_nil_of_length_eq_zero (h2 rfl).2;rw [hnn,hl0];exact two (nil_rep0 _ _)
    |some b=>
     obtain⟨k,hk⟩:=hv2 (by simp);obtain⟨_,a',c',rfl,hle,hrd,hz'⟩:=row_rdE hown;rw [hnn];exact two (rep_of (base:=w.heap.size) ⟨hrd,hz',hle,λb hb=>(hown.lt b.block (by rw [hb];rfl)).1⟩ (λb hb=>hb.1) (.inr (by intro hn;rw [hn]at hk;cases hk)))
   |false=>
    rw [if_neg (by simp)]at h;have hw:=Ni r (RG r) ad x.l c w hI hO (λz hz W hW=>GI z hz W (LD.below hL hW)) (λp q W hW=>EH r p q W (LD.below hL hW)) (λp W hW=>EI r p W (LD.below hL hW)) h1 (λe he=>by have:=hx2.1.1.2 e he;exact⟨Bt this.1,Bt this.2.1,Bt this.2.2⟩) hx2.1.1.1;refine hw.mono λe w' ⟨a',c',he,ho,hbl,hnil⟩=>⟨_,he,?_,λhk=>(by cases hk),hbl⟩
    have hne:x.l≠[]:=by
     intro hn;rw [hn]at hb0;cases hb0
    by_cases h0:(bJ (RG r) x.l).2=0
    .simp only [if_pos h0]at h;cases h;rw [h0];exact two (rep_of ho (λb hb=>hb.1) (.inl (Nm hne h0)))
    .simp only [if_neg h0]at h;cases h;have he:=OQ h0;rw [he]at ho ⊢;obtain⟨g1,g2,g3⟩:=ho;obtain rfl:=hnil h0;obtain⟨rfl,_⟩:=g2 rfl;exact two (nil_rep _ _)
 .simp at h
theorem enters:Ev.Enters Try.prog 39:=⟨_,_,Try.func39,by kernel_rfl,by unfold Try.f39;rfl⟩
end Eg
end Sm
end
noncomputable section
open Go.RowKit Go.Sort
abbrev rdr(v:Value)(p e fa:Int):Array Value:=#[v,.int .i64 p,.int .i64 e,.int .i64 fa]
abbrev ja(e fa:Int):PanicEntry:={v:= .iface 135 (.agg #[.int .i64 e,.int .i64 fa]),recovered:=false}
theorem jb(R:Nat)(a:Option Addr)(n c p:Nat)(e fa:Int)(k:Int)(w:World)(hR:CellsAt w R 115 (rdr (.slice a n c) p e fa))(hk:0<=k)(hp:p<=n)(hn:n<=9223372036854775807)(hs:(n:Int) - p<k):
  Calls Try.prog 92 #[.pointer (some ⟨R,0,none⟩),.int .i64 k] w λx w'=>x= .panicked [ja 2 n]/\Below w.heap.size w w':=by
 have c0:w.cell? ⟨R,0,none⟩=some (.slice a n c):=hR.cell 0;have c1:w.cell? ⟨R,1,none⟩=some (.int .i64 p):=hR.cell 1;have kR:Has w R:=hR.lt
 go_enter Try.func92,Try.ntmps92
 go_wp2_with fail
 refine wp_region_quiet_below (by kernel_rfl) (by kernel_rfl) ?_
 repeat (go_big_quiet_step (fail))
 refine wpQuiet_nil ?_;rintro _ ⟨⟨d2,o2⟩,rfl⟩
 go_wp2_with fail
 exact⟨rfl,rfl,below_regrown _ _ _⟩
theorem rF(R:Nat)(a:Option Addr)(n c p k:Nat)(e fa:Int)(f:Nat->Int)(w:World)(hR:CellsAt w R 115 (rdr (.slice a n c) p e fa))(hb:Rd8 w a n f)(hne:∀b,a=some b->b.block≠R)(hc:n<=c)(hn:n<=9223372036854775807)(hp:p+k<=n):
  Calls Try.prog 92 #[.pointer (some ⟨R,0,none⟩),.int .i64 k] w λx w'=>∃a' c',x= .returned (.slice a' k c')/\k<=c'/\CellsAt w' R 115 (rdr (.slice a n c) (p+k:Nat) e fa)/\Rd8 w' a' k (λi=>f (p+i))/\w.grownBy w' (some R):=by
 have c0:w.cell? ⟨R,0,none⟩=some (.slice a n c):=hR.cell 0;have c1:w.cell? ⟨R,1,none⟩=some (.int .i64 p):=hR.cell 1;have f1:=hR.frozen 1;have kR:Has w R:=hR.lt
 go_enter Try.func92,Try.ntmps92
 go_wp2_with fail
 refine wp_region_quiet_below (by kernel_rfl) (by kernel_rfl) ?_
 repeat (go_big_quiet_step (fail))
 refine wpQuiet_nil ?_;rintro _ ⟨⟨d2,o2⟩,rfl⟩;have hU:Below w.heap.size w (grow (redrawn w d2) o2):=below_regrown w d2 o2;generalize grow (redrawn w d2) o2=U at hU ⊢;have hR1:=hR.below hU;have hb1:=hb.grown (ab hU none) (λ_ _=>by simp);have g1:w.grownBy U none:=ab hU none;have c0:U.cell? ⟨R,0,none⟩=some (.slice a n c):=hR1.cell 0;have c1:U.cell? ⟨R,1,none⟩=some (.int .i64 p):=hR1.cell 1;have f1:=hR1.frozen 1
 go_wp2_with fail
 have hR2:=hR1.set 1 (.int .i64 (p+k));have hV:=af U R 1 (.int .i64 (p+k));have hb2:=hb1.grown hV (λb hb=>by simpa using hne b hb);generalize U.setCell ⟨R,1,none⟩ (.int .i64 (p+k))=V at hR2 hV hb2 ⊢;have c0:V.cell? ⟨R,0,none⟩=some (.slice a n c):=hR2.cell 0;have c1:V.cell? ⟨R,1,none⟩=some (.int .i64 (p+k)):=hR2.cell 1;have kR:Has V R:=hR2.lt;have gV:w.grownBy V (some R):=ae (za g1) hV;clear hU hR1 hb1 g1 f1;have q1:((p:Int)+k) - k=p:=by omega
 have q2:(0:Int)<=p:=by omega
 have q3:(p:Int)<=p+k:=by omega
 have q4:(p:Int)+k<=c:=by omega
 refine wp_region_quiet_below (by kernel_rfl) (by kernel_rfl) ?_
 repeat (go_big_quiet_step (fail))
 refine wpQuiet_nil ?_;rintro _ ⟨⟨d3,o3⟩,rfl⟩
 go_wp2_with fail
 .obtain rfl:c=p:=by omega
  go_ret
  exact⟨_,_,rfl,by omega,by simpa using hR2.below (below_regrown V d3 o3),λi hi=>by omega,ae gV (ab (below_regrown V d3 o3) _)⟩
 .go_ret
  exact⟨_,_,rfl,by omega,by simpa using hR2.below (below_regrown V d3 o3),(hb2.cut hp).grown (ab (below_regrown V d3 o3) none) (λ_ _=>by simp),ae gV (ab (below_regrown V d3 o3) _)⟩
end
noncomputable section
open Go.RowKit Go.Sort
@[go_sem] theorem Tr (v:Value) (xT:TypeId) (w:World):(Instr.typeAssert (.iface 135 v) xT 135 true).run Try.prog w= .ok (.tuple #[v,.bool true]) w:=by kernel_rfl
theorem vn(B R:Nat)(v:Value)(p e fa e2 fa2:Int)(older:List PanicEntry)(w:World)(hB:CellsAt w B 82 #[.pointer (some ⟨R,0,none⟩)])(hR:CellsAt w R 115 (rdr v p e fa)):
  CallsD Try.prog 93 #[.pointer (some ⟨B,0,none⟩)] (.panicking (ja e2 fa2::older)) w λx u' w'=>
   x= .returned (.tuple #[])/\u'= .panicking ({ja e2 fa2 with recovered:=true}::older)/\CellsAt w' R 115 (rdr v p e2 fa2)/\w.grownBy w' (some R):=by
 have c0:w.cell? ⟨B,0,none⟩=some (.pointer (some ⟨R,0,none⟩)):=hB.cell 0;have c2:w.cell? ⟨R,2,none⟩=some (.int .i64 e):=hR.cell 2;have c3:w.cell? ⟨R,3,none⟩=some (.int .i64 fa):=hR.cell 3;have f2:=hR.frozen 2;have f3:=hR.frozen 3;have kB:Has w B:=hB.lt;have kR:Has w R:=hR.lt;refine callsD_of_wpS Try.func93 rfl λc₀ cs hu=> ?_;apply wpS_seq;apply wpS_region;simp [wpOpsS,go_sem,recoverD,hu,Try.ntmps93,Exit.thenS];refine wpS_of_wp ?_;generalize hQ:(λ(e:Exit) (a':Act) (w':World)=>bodyPostS _ _ _ _ _ e a' _ w')=Q;simp only [Array.replicate_succ,Array.replicate_zero,List.push_toArray,List.append_toArray,List.nil_append,List.cons_append,List.setIfInBounds_toArray,List.set_cons_zero,List.set_cons_succ]
 go_wp2_with fail
 subst hQ;have h1:=(hR.set 2 (.int .i64 e2)).set 3 (.int .i64 fa2);have h2:=ae (af w R 2 (.int .i64 e2)) (af _ R 3 (.int .i64 fa2));refine⟨rfl,_,rfl,_,by simp [results,Try.results93,go_sem],rfl,rfl,h1.below (bl1 _ _),ae h2 (ab (bl1 _ _) _)⟩
theorem zB(B:Nat)(w:World):
  CallsD Try.prog 93 #[.pointer (some ⟨B,0,none⟩)] .returning w λx u' w'=>x= .returned (.tuple #[])/\u'= .returning/\w'=w:=by
 refine callsD_of_wpS Try.func93 rfl λc₀ cs hu=> ?_;apply wpS_seq;apply wpS_region;simp [wpOpsS,go_sem,recoverD,hu,Try.ntmps93,Exit.thenS];refine wpS_of_wp ?_;generalize hQ:(λ(e:Exit) (a':Act) (w':World)=>bodyPostS _ _ _ _ _ e a' _ w')=Q;simp only [Array.replicate_succ,Array.replicate_zero,List.push_toArray,List.append_toArray,List.nil_append,List.cons_append,List.setIfInBounds_toArray,List.set_cons_zero,List.set_cons_succ]
 go_wp2_with fail
 subst hQ;cases c₀;simp only at hu;subst hu;exact⟨rfl,_,rfl,_,by simp [results,Try.results93,go_sem],rfl,rfl,rfl⟩
theorem sB(B R:Nat)(v:Value)(p e fa e2 fa2:Int)(older:List PanicEntry)(w:World)(hB:CellsAt w B 82 #[.pointer (some ⟨R,0,none⟩)])(hR:CellsAt w R 115 (rdr v p e fa)):
  CallsD Try.prog 106 #[.pointer (some ⟨B,0,none⟩)] (.panicking (ja e2 fa2::older)) w λx u' w'=>
   x= .returned (.tuple #[])/\u'= .panicking ({ja e2 fa2 with recovered:=true}::older)/\CellsAt w' R 115 (rdr v p e2 fa2)/\w.grownBy w' (some R):=by
 have c0:w.cell? ⟨B,0,none⟩=some (.pointer (some ⟨R,0,none⟩)):=hB.cell 0;have c2:w.cell? ⟨R,2,none⟩=some (.int .i64 e):=hR.cell 2;have c3:w.cell? ⟨R,3,none⟩=some (.int .i64 fa):=hR.cell 3;have f2:=hR.frozen 2;have f3:=hR.frozen 3;have kB:Has w B:=hB.lt;have kR:Has w R:=hR.lt;refine callsD_of_wpS Try.func106 rfl λc₀ cs hu=> ?_;apply wpS_seq;apply wpS_region;simp [wpOpsS,go_sem,recoverD,hu,Try.ntmps106,Exit.thenS];refine wpS_of_wp ?_;generalize hQ:(λ(e:Exit) (a':Act) (w':World)=>bodyPostS _ _ _ _ _ e a' _ w')=Q;simp only [Array.replicate_succ,Array.replicate_zero,List.push_toArray,List.append_toArray,List.nil_append,List.cons_append,List.setIfInBounds_toArray,List.set_cons_zero,List.set_cons_succ]
 go_wp2_with fail
 subst hQ;have h1:=(hR.set 2 (.int .i64 e2)).set 3 (.int .i64 fa2);have h2:=ae (af w R 2 (.int .i64 e2)) (af _ R 3 (.int .i64 fa2));refine⟨rfl,_,rfl,_,by simp [results,Try.results106,go_sem],rfl,rfl,h1.below (bl1 _ _),ae h2 (ab (bl1 _ _) _)⟩
theorem xW(B:Nat)(w:World):
  CallsD Try.prog 106 #[.pointer (some ⟨B,0,none⟩)] .returning w λx u' w'=>x= .returned (.tuple #[])/\u'= .returning/\w'=w:=by
 refine callsD_of_wpS Try.func106 rfl λc₀ cs hu=> ?_;apply wpS_seq;apply wpS_region;simp [wpOpsS,go_sem,recoverD,hu,Try.ntmps106,Exit.thenS];refine wpS_of_wp ?_;generalize hQ:(λ(e:Exit) (a':Act) (w':World)=>bodyPostS _ _ _ _ _ e a' _ w')=Q;simp only [Array.replicate_succ,Array.replicate_zero,List.push_toArray,List.append_toArray,List.nil_append,List.cons_append,List.setIfInBounds_toArray,List.set_cons_zero,List.set_cons_succ]
 go_wp2_with fail
 subst hQ;cases c₀;simp only at hu;subst hu;exact⟨rfl,_,rfl,_,by simp [results,Try.results106,go_sem],rfl,rfl,rfl⟩
theorem sC(B R:Nat)(v:Value)(p e fa e2 fa2:Int)(older:List PanicEntry)(w:World)(hB:CellsAt w B 82 #[.pointer (some ⟨R,0,none⟩)])(hR:CellsAt w R 115 (rdr v p e fa)):
  CallsD Try.prog 91 #[.pointer (some ⟨B,0,none⟩)] (.panicking (ja e2 fa2::older)) w λx u' w'=>
   x= .returned (.tuple #[])/\u'= .panicking ({ja e2 fa2 with recovered:=true}::older)/\CellsAt w' R 115 (rdr v p e2 fa2)/\w.grownBy w' (some R):=by
 have c0:w.cell? ⟨B,0,none⟩=some (.pointer (some ⟨R,0,none⟩)):=hB.cell 0;have c2:w.cell? ⟨R,2,none⟩=some (.int .i64 e):=hR.cell 2;have c3:w.cell? ⟨R,3,none⟩=some (.int .i64 fa):=hR.cell 3;have f2:=hR.frozen 2;have f3:=hR.frozen 3;have kB:Has w B:=hB.lt;have kR:Has w R:=hR.lt;refine callsD_of_wpS Try.func91 rfl λc₀ cs hu=> ?_;apply wpS_seq;apply wpS_region;simp [wpOpsS,go_sem,recoverD,hu,Try.ntmps91,Exit.thenS];refine wpS_of_wp ?_;generalize hQ:(λ(e:Exit) (a':Act) (w':World)=>bodyPostS _ _ _ _ _ e a' _ w')=Q;simp only [Array.replicate_succ,Array.replicate_zero,List.push_toArray,List.append_toArray,List.nil_append,List.cons_append,List.setIfInBounds_toArray,List.set_cons_zero,List.set_cons_succ]
 go_wp2_with fail
 subst hQ;have h1:=(hR.set 2 (.int .i64 e2)).set 3 (.int .i64 fa2);have h2:=ae (af w R 2 (.int .i64 e2)) (af _ R 3 (.int .i64 fa2));refine⟨rfl,_,rfl,_,by simp [results,Try.results91,go_sem],rfl,rfl,h1.below (bl1 _ _),ae h2 (ab (bl1 _ _) _)⟩
theorem xX(B:Nat)(w:World):
  CallsD Try.prog 91 #[.pointer (some ⟨B,0,none⟩)] .returning w λx u' w'=>x= .returned (.tuple #[])/\u'= .returning/\w'=w:=by
 refine callsD_of_wpS Try.func91 rfl λc₀ cs hu=> ?_;apply wpS_seq;apply wpS_region;simp [wpOpsS,go_sem,recoverD,hu,Try.ntmps91,Exit.thenS];refine wpS_of_wp ?_;generalize hQ:(λ(e:Exit) (a':Act) (w':World)=>bodyPostS _ _ _ _ _ e a' _ w')=Q;simp only [Array.replicate_succ,Array.replicate_zero,List.push_toArray,List.append_toArray,List.nil_append,List.cons_append,List.setIfInBounds_toArray,List.set_cons_zero,List.set_cons_succ]
 go_wp2_with fail
 subst hQ;cases c₀;simp only at hu;subst hu;exact⟨rfl,_,rfl,_,by simp [results,Try.results91,go_sem],rfl,rfl,rfl⟩
theorem vo(B R:Nat)(v:Value)(p e fa e2 fa2:Int)(older:List PanicEntry)(w:World)(hB:CellsAt w B 82 #[.pointer (some ⟨R,0,none⟩)])(hR:CellsAt w R 115 (rdr v p e fa)):
  CallsD Try.prog 105 #[.pointer (some ⟨B,0,none⟩)] (.panicking (ja e2 fa2::older)) w λx u' w'=>
   x= .returned (.tuple #[])/\u'= .panicking ({ja e2 fa2 with recovered:=true}::older)/\CellsAt w' R 115 (rdr v p e2 fa2)/\w.grownBy w' (some R):=by
 have c0:w.cell? ⟨B,0,none⟩=some (.pointer (some ⟨R,0,none⟩)):=hB.cell 0;have c2:w.cell? ⟨R,2,none⟩=some (.int .i64 e):=hR.cell 2;have c3:w.cell? ⟨R,3,none⟩=some (.int .i64 fa):=hR.cell 3;have f2:=hR.frozen 2;have f3:=hR.frozen 3;have kB:Has w B:=hB.lt;have kR:Has w R:=hR.lt;refine callsD_of_wpS Try.func105 rfl λc₀ cs hu=> ?_;apply wpS_seq;apply wpS_region;simp [wpOpsS,go_sem,recoverD,hu,Try.ntmps105,Exit.thenS];refine wpS_of_wp ?_;generalize hQ:(λ(e:Exit) (a':Act) (w':World)=>bodyPostS _ _ _ _ _ e a' _ w')=Q;simp only [Array.replicate_succ,Array.replicate_zero,List.push_toArray,List.append_toArray,List.nil_append,List.cons_append,List.setIfInBounds_toArray,List.set_cons_zero,List.set_cons_succ]
 go_wp2_with fail
 subst hQ;have h1:=(hR.set 2 (.int .i64 e2)).set 3 (.int .i64 fa2);have h2:=ae (af w R 2 (.int .i64 e2)) (af _ R 3 (.int .i64 fa2));refine⟨rfl,_,rfl,_,by simp [results,Try.results105,go_sem],rfl,rfl,h1.below (bl1 _ _),ae h2 (ab (bl1 _ _) _)⟩
theorem zC(B:Nat)(w:World):
  CallsD Try.prog 105 #[.pointer (some ⟨B,0,none⟩)] .returning w λx u' w'=>x= .returned (.tuple #[])/\u'= .returning/\w'=w:=by
 refine callsD_of_wpS Try.func105 rfl λc₀ cs hu=> ?_;apply wpS_seq;apply wpS_region;simp [wpOpsS,go_sem,recoverD,hu,Try.ntmps105,Exit.thenS];refine wpS_of_wp ?_;generalize hQ:(λ(e:Exit) (a':Act) (w':World)=>bodyPostS _ _ _ _ _ e a' _ w')=Q;simp only [Array.replicate_succ,Array.replicate_zero,List.push_toArray,List.append_toArray,List.nil_append,List.cons_append,List.setIfInBounds_toArray,List.set_cons_zero,List.set_cons_succ]
 go_wp2_with fail
 subst hQ;cases c₀;simp only at hu;subst hu;exact⟨rfl,_,rfl,_,by simp [results,Try.results105,go_sem],rfl,rfl,rfl⟩
end
noncomputable section
open Go.RowKit Go.Sort
theorem GJ:(Try.prog.info? 5).map (λi=>(i.zero,i.size,i.bytes))=some (some (.int .u8 0),1,1):=by kernel_rfl
theorem GK:(Try.prog.info? 5).map (·.size)=some 1:=by kernel_rfl
def co(f:Nat->Int)(k:Nat):List Value:=(List.range k).map λi=> .int .u8 (f i)
theorem gK(f:Nat->Int)(k:Nat):(co f k).length=k:=by simp [co]
theorem we(f:Nat->Int)(k j:Nat)(h:j<k):(co f k)[j]? =some (.int .u8 (f j)):=by simp [co,h]
theorem Bu(f:Nat->Int)(k:Nat):∀v∈co f k,v.oneCell'=true:=by
 intro v hv;obtain⟨i,_,rfl⟩:=List.mem_map.1 hv;rfl
theorem Bv{W:World}{g k:Nat}{t:TypeId}{f:Nat->Int}(h:CellsAt W g t (co f k).toArray)(hf:∀i,i<k->0<=f i/\f i<=255):Rd8 W (some ⟨g,0,none⟩) k f:=by
 intro i hi;refine⟨_,rfl,h.lt,?_,hf i hi⟩
 have:((⟨g,0,none⟩:Addr).add i)=⟨g,i,none⟩:=by unfold Addr.add;split<;>simp_all
 rw [this,h.cell i];simpa using we f k i hi
set_option maxRecDepth 100000 in
set_option maxHeartbeats 1000000 in
theorem wg(a:Option Addr)(k c:Nat)(f:Nat->Int)(w:World)(hr:Rd8 w a k f)(hk:k<=100000)(hc:k<=c):
  Calls Try.prog 71 #[.slice a k c] w λe w'=>∃g,e= .returned (.slice (some ⟨g,0,none⟩) k k)/\w.heap.size<=g/\CellsAt w' g 5 (co f k).toArray/\Below w.heap.size w w':=by
 obtain⟨i0,hi0,hz0,hz1,hz2⟩:=info_parts GJ;have hmk:=run_makeSlice (P:=Try.prog) w 24 5 i0 (.int .u8 0) Try.underlying24 hi0 hz0 .i64 .i64 (k:Int) (k:Int) (by omega) (by omega) (by rw [hz1];simp;omega) (by rw [hz2];omega) (by omega);simp only [Int.toNat_natCast,hz1,Nat.mul_one]at hmk;have hsz:(madeCells (Value.int .u8 0).cells k).size=k:=size_madeCells _ _;generalize madeCells (Value.int .u8 0).cells k=cur at hmk hsz;have hcur:CellsAt (w.alloc (.cells cur 5)) w.heap.size 5 cur:=World.alloc_heap_new w _;have hb1:Below w.heap.size w (w.alloc (.cells cur 5)):=bl1 _ _;have hr1:Rd8 (w.alloc (.cells cur 5)) a k f:=hr.grown (ab hb1 none) (λ_ _=>by simp);obtain⟨cs,hcs⟩:∃cs,cs=co f k:=⟨_,rfl⟩;have hl:cs.length=k:=by rw [hcs];exact gK f k
 have h1:∀v∈cs,v.oneCell'=true:=by rw [hcs];exact Bu f k
 have hsp:splice cur.toList 0 cs=cs:=by
  unfold splice;simp [hl,hsz]
 have hat:0<cs.length->∃ad,a=some ad/\∀j v,cs[j]? =some v->(w.alloc (.cells cur 5)).cell? (ad.add j)=some v:=by
  intro h0;obtain⟨b,hb,_⟩:=hr1 0 (by omega);refine⟨b,hb,λj v hj=> ?_⟩;have hj':j<k:=by have:=(List.getElem?_eq_some_iff.1 hj).1;omega
  obtain⟨b',hb',_,h2,_⟩:=hr1 j hj';rw [hb]at hb';cases hb';rw [hcs,we f k j hj']at hj;cases hj;exact h2
 have hg0:(w.alloc (.cells cur 5)).heap[w.heap.size]? =some (.cells cur.toList.toArray 5 (0,0)):=by unfold CellsAt at hcur;simpa using hcur
 have hn0:cs.length=Nat.min k k:=by rw [hl];exact(Nat.min_self k).symm
 have hf0:0+cs.length<=cur.toList.length:=by simp [hl,hsz]
 have HCS:=Lib.hid hcs;clear hcs hr hr1
 go_enter Try.func71,Try.ntmps71
 go_wp2_with (refine wpList_copy_splice rfl (.tmp 7) (.tmp 8) 24 24 rfl 5 Try.underlying24 GK _ _ _ _ _ _ rfl rfl w.heap.size 0 cur.toList 5 hg0 cs hn0 (λh0=>⟨rfl,hat h0⟩) hf0 h1 w.heap.size w hb1 (Nat.le_refl _) ?_;intro w2 HG2 hB2)
 go_ret
 exact⟨_,rfl,Nat.le_refl _,by have:=HG2.out;rw [hsp,HCS.out]at this;exact this,hB2⟩
end
noncomputable section
open Go.RowKit Go.Sort
def le(f:Nat->Int):Nat->Int
 |0=>0
 |n+1=>le f n+f n*2 ^(8*n)
theorem p8(n:Nat):(2:Int)^(8*(n+1))=2 ^(8*n)*256:=by
 rw [show 8*(n+1)=8*n+8 from rfl,Int.pow_add];rfl
theorem xY(n:Nat):(0:Int)<2 ^(8*n):=Int.pow_pos (by decide)
theorem qq(f:Nat->Int):∀(n:Nat),(∀i,i<n->0<=f i/\f i<=255)->0<=le f n/\le f n<2 ^(8*n):=by
 intro n
 induction n with
 |zero=>intro _;simp [le]
 |succ n ih=>
  intro h;have h1:=ih (λi hi=>h i (by omega));have h2:=h n (by omega);have h3:=xY n;have h4:0<=f n*2 ^(8*n):=Int.mul_nonneg h2.1 (by omega);have h5:f n*2 ^(8*n)<=255*2 ^(8*n):=Int.mul_le_mul_of_nonneg_right h2.2 (by omega);rw [p8];unfold le;omega
theorem Lp(n m:Nat)(h:n<=m):(2:Int)^(8*n)<=2 ^(8*m):=by
 induction m with
 |zero=>
  obtain rfl:n=0:=by omega
  exact Int.le_refl _
 |succ m ih=>
  by_cases e:n=m+1
  .rw [e];exact Int.le_refl _
  .have:=ih (by omega)
   have:=xY m
   rw [p8];omega
theorem GM(f:Nat->Int)(n J:Nat)(hj:n+1<=J)(h:∀i,i<n+1->0<=f i/\f i<=255)(k:IntKind)(hk:∀m:Int,0<=m->m<2 ^(8*J)->k.wrap m=m)(hb:8*J<=k.bits):
  bits .or k (le f n) (f n*2 ^(8*n))=le f (n+1):=by
 have h1:=qq f n (λi hi=>h i (by omega));have h2:=h n (by omega);have h3:=xY n;have h4:0<=f n*2 ^(8*n):=Int.mul_nonneg h2.1 (by omega);have h6:=qq f (n+1) h;have h7:=Lp (n+1) J hj;have h8:le f (n+1)=le f n+f n*2 ^(8*n):=rfl;rw [h8];exact bits_join_low k (8*J) hb hk (8*n) _ _ h1.1 h1.2 (by omega) h4 (Int.mul_emod_left _ _) (by omega)
def lw(f:Nat->Int)(n:Nat):Int:=wrap64 (le f n)
theorem GN(f:Nat->Int)(n:Nat)(hn:n<1)(h:∀i,i<n+1->0<=f i/\f i<=255):bits .or .u8 (le f n) (f n*2 ^(8*n)% 256)=le f (n+1):=by
 obtain rfl:n=0:=by omega
 have h0:=h 0 (by omega);rw [show f 0*2 ^(8*0)% 256=f 0*2 ^(8*0)by simp;omega];exact GM f 0 1 (by omega) h .u8 (λm h0 h1=>by simp [IntKind.wrap,IntKind.bits,IntKind.signed];omega) (by decide)
theorem EK(f:Nat->Int)(n:Nat)(hn:n<4)(h:∀i,i<n+1->0<=f i/\f i<=255):bits .or .u32 (le f n) (f n*2 ^(8*n)% 4294967296)=le f (n+1):=by
 have h6:=qq f (n+1) h;have h1:=qq f n (λi hi=>h i (by omega));have h2:=h n (by omega);have h4:0<=f n*2 ^(8*n):=Int.mul_nonneg h2.1 (by have:=xY n;omega);have h7:(2:Int)^(8*(n+1))<=4294967296:=Lp (n+1) 4 (by omega);have h8:le f (n+1)=le f n+f n*2 ^(8*n):=rfl;rw [Int.emod_eq_of_lt h4 (by omega)];exact GM f n 4 (by omega) h .u32 wraps_u32 (by decide)
theorem nO(x:Int):BitVec.ofInt 64 (wrap64 x)=BitVec.ofInt 64 x:=by
 apply BitVec.eq_of_toInt_eq;simp only [BitVec.toInt_ofInt,wrap64];simp [Int.bmod]
theorem EL(f:Nat->Int)(n:Nat)(hn:n<8)(h:∀i,i<n+1->0<=f i/\f i<=255):bits .or .i64 (lw f n) (wrap64 (f n*2 ^(8*n)))=lw f (n+1):=by
 have e:IntKind.u64.wrap ((BitVec.ofInt 64 (le f n)|||BitVec.ofInt 64 (f n*2 ^(8*n))).toNat:Int)=le f (n+1):=GM f n 8 (by omega) h .u64 wraps_u64 (by decide);show IntKind.i64.wrap ((BitVec.ofInt 64 (wrap64 (le f n))|||BitVec.ofInt 64 (wrap64 (f n*2 ^(8*n)))).toNat:Int)=wrap64 (le f (n+1));rw [nO,nO];generalize (BitVec.ofInt 64 (le f n)|||BitVec.ofInt 64 (f n*2 ^(8*n)))=b at e ⊢;have hb:=b.isLt;rw [IntKind.wrap_u64]at e;have e2:(b.toNat:Int)=le f (n+1):=by omega
 rw [e2];simp [IntKind.wrap,IntKind.bits,IntKind.signed,wrap64];split<;>omega
set_option maxRecDepth 100000 in
set_option maxHeartbeats 1000000 in
theorem zD(a:Option Addr)(c:Nat)(f:Nat->Int)(w:World)(hr:Rd8 w a 1 f):
  Calls Try.prog 80 #[.slice a 1 c] w λe w'=>e= .returned (.int .u8 (le f 1))/\Below w.heap.size w w':=by
 go_enter Try.func80,Try.ntmps80
 go_wp2_with fail
 go_loopw [3,8] (λv z wr=>∃i:Nat,z= .int .i64 i/\i<=1/\v= .int .u8 (le f i)/\wr=w) (λ_ z _=>1 - (intOf z).toNat)
 case atStart=>
  exact⟨0,rfl,by omega,by simp [le],rfl⟩
 case round=>
  obtain⟨i,rfl,hi,rfl,rfl⟩:=hrel;by_cases hlt:i<1
  .have e1:=GN f i hlt (λj hj=>by obtain⟨_,_,_,_,h⟩:=hr j (by omega);exact h);obtain⟨b,rfl,hb,cb,b0,b1⟩:=hr i hlt;have i0:(0:Int)<=(i:Int):=by omega
   have i4:(i:Int)<1:=by omega
   have E1:=Lib.hid e1;clear e1
   go_wp2_with fail
   refine⟨?_,by simp [intOf];omega⟩;exact⟨i+1,by simp,by omega,by rw [<-E1.out],trivial⟩
  .obtain rfl:i=1:=by omega
   go_wp2
   go_ret
   exact⟨rfl,Below.refl _ _⟩
set_option maxRecDepth 100000 in
set_option maxHeartbeats 1000000 in
theorem xZ(a:Option Addr)(c:Nat)(f:Nat->Int)(w:World)(hr:Rd8 w a 4 f):
  Calls Try.prog 90 #[.slice a 4 c] w λe w'=>e= .returned (.int .u32 (le f 4))/\Below w.heap.size w w':=by
 go_enter Try.func90,Try.ntmps90
 go_wp2_with fail
 go_loopw [3,8] (λv z wr=>∃i:Nat,z= .int .i64 i/\i<=4/\v= .int .u32 (le f i)/\wr=w) (λ_ z _=>4 - (intOf z).toNat)
 case atStart=>
  exact⟨0,rfl,by omega,by simp [le],rfl⟩
 case round=>
  obtain⟨i,rfl,hi,rfl,rfl⟩:=hrel;by_cases hlt:i<4
  .have e1:=EK f i hlt (λj hj=>by obtain⟨_,_,_,_,h⟩:=hr j (by omega);exact h);obtain⟨b,rfl,hb,cb,b0,b1⟩:=hr i hlt;have i0:(0:Int)<=(i:Int):=by omega
   have i4:(i:Int)<4:=by omega
   have E1:=Lib.hid e1;clear e1
   go_wp2_with fail
   refine⟨?_,by simp [intOf];omega⟩;exact⟨i+1,by simp,by omega,by rw [<-E1.out],trivial⟩
  .obtain rfl:i=4:=by omega
   go_wp2
   go_ret
   exact⟨rfl,Below.refl _ _⟩
set_option maxRecDepth 100000 in
set_option maxHeartbeats 1000000 in
theorem ya(a:Option Addr)(c:Nat)(f:Nat->Int)(w:World)(hr:Rd8 w a 8 f):
  Calls Try.prog 77 #[.slice a 8 c] w λe w'=>e= .returned (.int .i64 (lw f 8))/\Below w.heap.size w w':=by
 go_enter Try.func77,Try.ntmps77
 go_wp2_with fail
 go_loopw [3,8] (λv z wr=>∃i:Nat,z= .int .i64 i/\i<=8/\v= .int .i64 (lw f i)/\wr=w) (λ_ z _=>8 - (intOf z).toNat)
 case atStart=>
  exact⟨0,rfl,by omega,by simp [le,lw,wrap64],rfl⟩
 case round=>
  obtain⟨i,rfl,hi,rfl,rfl⟩:=hrel;by_cases hlt:i<8
  .have e1:=EL f i hlt (λj hj=>by obtain⟨_,_,_,_,h⟩:=hr j (by omega);exact h);obtain⟨b,rfl,hb,cb,b0,b1⟩:=hr i hlt;have i0:(0:Int)<=(i:Int):=by omega
   have i4:(i:Int)<8:=by omega
   have E1:=Lib.hid e1;clear e1
   go_wp2_with fail
   refine⟨?_,by simp [intOf];omega⟩;exact⟨i+1,by simp,by omega,by rw [<-E1.out],trivial⟩
  .obtain rfl:i=8:=by omega
   go_wp2
   go_ret
   exact⟨rfl,Below.refl _ _⟩
end
noncomputable section
open Go.RowKit Go.Sort
theorem EM(R:Nat)(v:Value)(p e fa n:Int)(w:World)(hR:CellsAt w R 115 (rdr v p e fa))(he:¬e=0):
  Calls Try.prog 79 #[.pointer (some ⟨R,0,none⟩),.int .i64 n,.func (.func 80) #[] #[]] w λx w'=>x= .returned (.int .u8 0)/\Below w.heap.size w w':=by
 have c2:w.cell? ⟨R,2,none⟩=some (.int .i64 e):=hR.cell 2;have kR:Has w R:=hR.lt;have hmf:∀(fn:Fn) (first cap:Array Value) (w:World),(Instr.makeFunc fn first cap).run Try.prog w= .ok (.func fn first cap) w:=λ_ _ _ _=>rfl
 go_enter_defers Try.func79,Try.ntmps79
 go_wp2_with fail
 exact⟨_,results_tmp rfl _ _ _,rfl,bl1 _ _⟩
theorem zE(R:Nat)(a:Option Addr)(m c p:Nat)(fa n:Int)(w:World)(hR:CellsAt w R 115 (rdr (.slice a m c) p 0 fa))(hn:0<=n)(hp:p<=m)(hm:m<=9223372036854775807)(hs:(m:Int) - p<n):
  Calls Try.prog 79 #[.pointer (some ⟨R,0,none⟩),.int .i64 n,.func (.func 80) #[] #[]] w λx w'=>x= .returned (.int .u8 0)/\CellsAt w' R 115 (rdr (.slice a m c) p 2 m)/\w.grownBy w' (some R):=by
 have c2:w.cell? ⟨R,2,none⟩=some (.int .i64 0):=hR.cell 2;have kR:Has w R:=hR.lt;have hmf:∀(fn:Fn) (first cap:Array Value) (w:World),(Instr.makeFunc fn first cap).run Try.prog w= .ok (.func fn first cap) w:=λ_ _ _ _=>rfl
 go_enter_defers Try.func79,Try.ntmps79
 go_wp2_with fail
 have hR1:=hR.below (bl1 w (.cells #[.pointer (some ⟨R,0,none⟩)] 82));refine(jb R a m c p 0 fa n _ hR1 hn hp hm hs).mono ?_;rintro x w2 ⟨rfl,hb2⟩;have hB:=CellsAt.below (show CellsAt (w.alloc (.cells #[.pointer (some ⟨R,0,none⟩)] 82)) w.heap.size 82 #[.pointer (some ⟨R,0,none⟩)]from World.alloc_heap_new w _) hb2;have hR2:=hR1.below hb2;have hb3:Below w.heap.size w w2:=(bl1 w _).trans (hb2.mono (by simp));refine leaves_cons (f:=93) (args:=#[.pointer (some ⟨w.heap.size,0,none⟩)]) (by simp) (by simp [go_sem]) ?_;refine(vn w.heap.size R _ _ _ _ 2 m [] w2 hB hR2).mono ?_;rintro x u' w3 ⟨rfl,rfl,hR3,hg3⟩;exact⟨_,results_tmp rfl _ _ _,rfl,hR3,ae (ab hb3 _) hg3⟩
theorem GO(R:Nat)(a:Option Addr)(m c p:Nat)(fa:Int)(f:Nat->Int)(w:World)(hR:CellsAt w R 115 (rdr (.slice a m c) p 0 fa))(hb:Rd8 w a m f)(hne:∀b,a=some b->b.block≠R)(hc:m<=c)(hm:m<=9223372036854775807)(hp:p+1<=m):
  Calls Try.prog 79 #[.pointer (some ⟨R,0,none⟩),.int .i64 1,.func (.func 80) #[] #[]] w λx w'=>x= .returned (.int .u8 (le (λi=>f (p+i)) 1))/\CellsAt w' R 115 (rdr (.slice a m c) (p+1:Nat) 0 fa)/\w.grownBy w' (some R):=by
 have c2:w.cell? ⟨R,2,none⟩=some (.int .i64 0):=hR.cell 2;have kR:Has w R:=hR.lt;have hmf:∀(fn:Fn) (first cap:Array Value) (w:World),(Instr.makeFunc fn first cap).run Try.prog w= .ok (.func fn first cap) w:=λ_ _ _ _=>rfl
 go_enter_defers Try.func79,Try.ntmps79
 go_wp2_with fail
 have hR1:=hR.below (bl1 w (.cells #[.pointer (some ⟨R,0,none⟩)] 82));have hb1:=hb.grown (ab (bl1 w (.cells #[.pointer (some ⟨R,0,none⟩)] 82)) none) (λ_ _=>by simp);refine(rF R a m c p 1 0 fa f _ hR1 hb1 hne hc hm hp).mono ?_;rintro x w2 ⟨a',c',rfl,hkc,hR3,hq,hg2⟩;have hg:=ae (ab (bl1 w (.cells #[.pointer (some ⟨R,0,none⟩)] 82)) (some R)) hg2
 go_wp2_with fail
 refine(zD a' c' _ w2 hq).mono ?_;rintro x w4 ⟨rfl,hb4⟩
 go_wp2_with fail
 refine leaves_cons (f:=93) (args:=#[.pointer (some ⟨w.heap.size,0,none⟩)]) (by simp) (by simp [go_sem]) ?_;refine(zB w.heap.size w4).mono ?_;rintro x u' w3 ⟨rfl,rfl,rfl⟩;exact⟨_,results_tmp rfl _ _ _,rfl,(hR3.below hb4),ae hg (ab hb4 _)⟩
theorem Bw(R:Nat)(v:Value)(p e fa n:Int)(w:World)(hR:CellsAt w R 115 (rdr v p e fa))(he:¬e=0):
  Calls Try.prog 89 #[.pointer (some ⟨R,0,none⟩),.int .i64 n,.func (.func 90) #[] #[]] w λx w'=>x= .returned (.int .u32 0)/\Below w.heap.size w w':=by
 have c2:w.cell? ⟨R,2,none⟩=some (.int .i64 e):=hR.cell 2;have kR:Has w R:=hR.lt;have hmf:∀(fn:Fn) (first cap:Array Value) (w:World),(Instr.makeFunc fn first cap).run Try.prog w= .ok (.func fn first cap) w:=λ_ _ _ _=>rfl
 go_enter_defers Try.func89,Try.ntmps89
 go_wp2_with fail
 exact⟨_,results_tmp rfl _ _ _,rfl,bl1 _ _⟩
theorem yb(R:Nat)(a:Option Addr)(m c p:Nat)(fa n:Int)(w:World)(hR:CellsAt w R 115 (rdr (.slice a m c) p 0 fa))(hn:0<=n)(hp:p<=m)(hm:m<=9223372036854775807)(hs:(m:Int) - p<n):
  Calls Try.prog 89 #[.pointer (some ⟨R,0,none⟩),.int .i64 n,.func (.func 90) #[] #[]] w λx w'=>x= .returned (.int .u32 0)/\CellsAt w' R 115 (rdr (.slice a m c) p 2 m)/\w.grownBy w' (some R):=by
 have c2:w.cell? ⟨R,2,none⟩=some (.int .i64 0):=hR.cell 2;have kR:Has w R:=hR.lt;have hmf:∀(fn:Fn) (first cap:Array Value) (w:World),(Instr.makeFunc fn first cap).run Try.prog w= .ok (.func fn first cap) w:=λ_ _ _ _=>rfl
 go_enter_defers Try.func89,Try.ntmps89
 go_wp2_with fail
 have hR1:=hR.below (bl1 w (.cells #[.pointer (some ⟨R,0,none⟩)] 82));refine(jb R a m c p 0 fa n _ hR1 hn hp hm hs).mono ?_;rintro x w2 ⟨rfl,hb2⟩;have hB:=CellsAt.below (show CellsAt (w.alloc (.cells #[.pointer (some ⟨R,0,none⟩)] 82)) w.heap.size 82 #[.pointer (some ⟨R,0,none⟩)]from World.alloc_heap_new w _) hb2;have hR2:=hR1.below hb2;have hb3:Below w.heap.size w w2:=(bl1 w _).trans (hb2.mono (by simp));refine leaves_cons (f:=106) (args:=#[.pointer (some ⟨w.heap.size,0,none⟩)]) (by simp) (by simp [go_sem]) ?_;refine(sB w.heap.size R _ _ _ _ 2 m [] w2 hB hR2).mono ?_;rintro x u' w3 ⟨rfl,rfl,hR3,hg3⟩;exact⟨_,results_tmp rfl _ _ _,rfl,hR3,ae (ab hb3 _) hg3⟩
theorem EN(R:Nat)(a:Option Addr)(m c p:Nat)(fa:Int)(f:Nat->Int)(w:World)(hR:CellsAt w R 115 (rdr (.slice a m c) p 0 fa))(hb:Rd8 w a m f)(hne:∀b,a=some b->b.block≠R)(hc:m<=c)(hm:m<=9223372036854775807)(hp:p+4<=m):
  Calls Try.prog 89 #[.pointer (some ⟨R,0,none⟩),.int .i64 4,.func (.func 90) #[] #[]] w λx w'=>x= .returned (.int .u32 (le (λi=>f (p+i)) 4))/\CellsAt w' R 115 (rdr (.slice a m c) (p+4:Nat) 0 fa)/\w.grownBy w' (some R):=by
 have c2:w.cell? ⟨R,2,none⟩=some (.int .i64 0):=hR.cell 2;have kR:Has w R:=hR.lt;have hmf:∀(fn:Fn) (first cap:Array Value) (w:World),(Instr.makeFunc fn first cap).run Try.prog w= .ok (.func fn first cap) w:=λ_ _ _ _=>rfl
 go_enter_defers Try.func89,Try.ntmps89
 go_wp2_with fail
 have hR1:=hR.below (bl1 w (.cells #[.pointer (some ⟨R,0,none⟩)] 82));have hb1:=hb.grown (ab (bl1 w (.cells #[.pointer (some ⟨R,0,none⟩)] 82)) none) (λ_ _=>by simp);refine(rF R a m c p 4 0 fa f _ hR1 hb1 hne hc hm hp).mono ?_;rintro x w2 ⟨a',c',rfl,hkc,hR3,hq,hg2⟩;have hg:=ae (ab (bl1 w (.cells #[.pointer (some ⟨R,0,none⟩)] 82)) (some R)) hg2
 go_wp2_with fail
 refine(xZ a' c' _ w2 hq).mono ?_;rintro x w4 ⟨rfl,hb4⟩
 go_wp2_with fail
 refine leaves_cons (f:=106) (args:=#[.pointer (some ⟨w.heap.size,0,none⟩)]) (by simp) (by simp [go_sem]) ?_;refine(xW w.heap.size w4).mono ?_;rintro x u' w3 ⟨rfl,rfl,rfl⟩;exact⟨_,results_tmp rfl _ _ _,rfl,(hR3.below hb4),ae hg (ab hb4 _)⟩
theorem Bx(R:Nat)(v:Value)(p e fa n:Int)(w:World)(hR:CellsAt w R 115 (rdr v p e fa))(he:¬e=0):
  Calls Try.prog 76 #[.pointer (some ⟨R,0,none⟩),.int .i64 n,.func (.func 77) #[] #[]] w λx w'=>x= .returned (.int .i64 0)/\Below w.heap.size w w':=by
 have c2:w.cell? ⟨R,2,none⟩=some (.int .i64 e):=hR.cell 2;have kR:Has w R:=hR.lt;have hmf:∀(fn:Fn) (first cap:Array Value) (w:World),(Instr.makeFunc fn first cap).run Try.prog w= .ok (.func fn first cap) w:=λ_ _ _ _=>rfl
 go_enter_defers Try.func76,Try.ntmps76
 go_wp2_with fail
 exact⟨_,results_tmp rfl _ _ _,rfl,bl1 _ _⟩
theorem yc(R:Nat)(a:Option Addr)(m c p:Nat)(fa n:Int)(w:World)(hR:CellsAt w R 115 (rdr (.slice a m c) p 0 fa))(hn:0<=n)(hp:p<=m)(hm:m<=9223372036854775807)(hs:(m:Int) - p<n):
  Calls Try.prog 76 #[.pointer (some ⟨R,0,none⟩),.int .i64 n,.func (.func 77) #[] #[]] w λx w'=>x= .returned (.int .i64 0)/\CellsAt w' R 115 (rdr (.slice a m c) p 2 m)/\w.grownBy w' (some R):=by
 have c2:w.cell? ⟨R,2,none⟩=some (.int .i64 0):=hR.cell 2;have kR:Has w R:=hR.lt;have hmf:∀(fn:Fn) (first cap:Array Value) (w:World),(Instr.makeFunc fn first cap).run Try.prog w= .ok (.func fn first cap) w:=λ_ _ _ _=>rfl
 go_enter_defers Try.func76,Try.ntmps76
 go_wp2_with fail
 have hR1:=hR.below (bl1 w (.cells #[.pointer (some ⟨R,0,none⟩)] 82));refine(jb R a m c p 0 fa n _ hR1 hn hp hm hs).mono ?_;rintro x w2 ⟨rfl,hb2⟩;have hB:=CellsAt.below (show CellsAt (w.alloc (.cells #[.pointer (some ⟨R,0,none⟩)] 82)) w.heap.size 82 #[.pointer (some ⟨R,0,none⟩)]from World.alloc_heap_new w _) hb2;have hR2:=hR1.below hb2;have hb3:Below w.heap.size w w2:=(bl1 w _).trans (hb2.mono (by simp));refine leaves_cons (f:=91) (args:=#[.pointer (some ⟨w.heap.size,0,none⟩)]) (by simp) (by simp [go_sem]) ?_;refine(sC w.heap.size R _ _ _ _ 2 m [] w2 hB hR2).mono ?_;rintro x u' w3 ⟨rfl,rfl,hR3,hg3⟩;exact⟨_,results_tmp rfl _ _ _,rfl,hR3,ae (ab hb3 _) hg3⟩
theorem EO(R:Nat)(a:Option Addr)(m c p:Nat)(fa:Int)(f:Nat->Int)(w:World)(hR:CellsAt w R 115 (rdr (.slice a m c) p 0 fa))(hb:Rd8 w a m f)(hne:∀b,a=some b->b.block≠R)(hc:m<=c)(hm:m<=9223372036854775807)(hp:p+8<=m):
  Calls Try.prog 76 #[.pointer (some ⟨R,0,none⟩),.int .i64 8,.func (.func 77) #[] #[]] w λx w'=>x= .returned (.int .i64 (lw (λi=>f (p+i)) 8))/\CellsAt w' R 115 (rdr (.slice a m c) (p+8:Nat) 0 fa)/\w.grownBy w' (some R):=by
 have c2:w.cell? ⟨R,2,none⟩=some (.int .i64 0):=hR.cell 2;have kR:Has w R:=hR.lt;have hmf:∀(fn:Fn) (first cap:Array Value) (w:World),(Instr.makeFunc fn first cap).run Try.prog w= .ok (.func fn first cap) w:=λ_ _ _ _=>rfl
 go_enter_defers Try.func76,Try.ntmps76
 go_wp2_with fail
 have hR1:=hR.below (bl1 w (.cells #[.pointer (some ⟨R,0,none⟩)] 82));have hb1:=hb.grown (ab (bl1 w (.cells #[.pointer (some ⟨R,0,none⟩)] 82)) none) (λ_ _=>by simp);refine(rF R a m c p 8 0 fa f _ hR1 hb1 hne hc hm hp).mono ?_;rintro x w2 ⟨a',c',rfl,hkc,hR3,hq,hg2⟩;have hg:=ae (ab (bl1 w (.cells #[.pointer (some ⟨R,0,none⟩)] 82)) (some R)) hg2
 go_wp2_with fail
 refine(ya a' c' _ w2 hq).mono ?_;rintro x w4 ⟨rfl,hb4⟩
 go_wp2_with fail
 refine leaves_cons (f:=91) (args:=#[.pointer (some ⟨w.heap.size,0,none⟩)]) (by simp) (by simp [go_sem]) ?_;refine(xX w.heap.size w4).mono ?_;rintro x u' w3 ⟨rfl,rfl,rfl⟩;exact⟨_,results_tmp rfl _ _ _,rfl,(hR3.below hb4),ae hg (ab hb4 _)⟩
theorem zF(R:Nat)(a:Option Addr)(m c p:Nat)(fa n:Int)(w:World)(hR:CellsAt w R 115 (rdr (.slice a m c) p 0 fa))(hn:0<=n)(hp:p<=m)(hm:m<=9223372036854775807)(hs:(m:Int) - p<n):
  Calls Try.prog 88 #[.pointer (some ⟨R,0,none⟩),.int .i64 n,.func (.func 71) #[] #[]] w λx w'=>x= .returned (.slice none 0 0)/\CellsAt w' R 115 (rdr (.slice a m c) p 2 m)/\w.grownBy w' (some R):=by
 have c2:w.cell? ⟨R,2,none⟩=some (.int .i64 0):=hR.cell 2;have kR:Has w R:=hR.lt;have hmf:∀(fn:Fn) (first cap:Array Value) (w:World),(Instr.makeFunc fn first cap).run Try.prog w= .ok (.func fn first cap) w:=λ_ _ _ _=>rfl
 go_enter_defers Try.func88,Try.ntmps88
 go_wp2_with fail
 have hR1:=hR.below (bl1 w (.cells #[.pointer (some ⟨R,0,none⟩)] 82));refine(jb R a m c p 0 fa n _ hR1 hn hp hm hs).mono ?_;rintro x w2 ⟨rfl,hb2⟩;have hB:=CellsAt.below (show CellsAt (w.alloc (.cells #[.pointer (some ⟨R,0,none⟩)] 82)) w.heap.size 82 #[.pointer (some ⟨R,0,none⟩)]from World.alloc_heap_new w _) hb2;have hR2:=hR1.below hb2;have hb3:Below w.heap.size w w2:=(bl1 w _).trans (hb2.mono (by simp));refine leaves_cons (f:=105) (args:=#[.pointer (some ⟨w.heap.size,0,none⟩)]) (by simp) (by simp [go_sem]) ?_;refine(vo w.heap.size R _ _ _ _ 2 m [] w2 hB hR2).mono ?_;rintro x u' w3 ⟨rfl,rfl,hR3,hg3⟩;exact⟨_,results_tmp rfl _ _ _,rfl,hR3,ae (ab hb3 _) hg3⟩
theorem GP(R:Nat)(a:Option Addr)(m c p k:Nat)(fa:Int)(f:Nat->Int)(w:World)(hR:CellsAt w R 115 (rdr (.slice a m c) p 0 fa))(hb:Rd8 w a m f)(hne:∀b,a=some b->b.block≠R)(hc:m<=c)(hm:m<=9223372036854775807)(hp:p+k<=m)(hk:k<=100000):
  Calls Try.prog 88 #[.pointer (some ⟨R,0,none⟩),.int .i64 (k:Nat),.func (.func 71) #[] #[]] w λx w'=>∃g,x= .returned (.slice (some ⟨g,0,none⟩) k k)/\w.heap.size<=g/\CellsAt w' g 5 (co (λi=>f (p+i)) k).toArray/\CellsAt w' R 115 (rdr (.slice a m c) (p+k:Nat) 0 fa)/\w.grownBy w' (some R):=by
 have c2:w.cell? ⟨R,2,none⟩=some (.int .i64 0):=hR.cell 2;have kR:Has w R:=hR.lt;have hmf:∀(fn:Fn) (first cap:Array Value) (w:World),(Instr.makeFunc fn first cap).run Try.prog w= .ok (.func fn first cap) w:=λ_ _ _ _=>rfl
 go_enter_defers Try.func88,Try.ntmps88
 go_wp2_with fail
 have hR1:=hR.below (bl1 w (.cells #[.pointer (some ⟨R,0,none⟩)] 82));have hb1:=hb.grown (ab (bl1 w (.cells #[.pointer (some ⟨R,0,none⟩)] 82)) none) (λ_ _=>by simp);refine(rF R a m c p k 0 fa f _ hR1 hb1 hne hc hm hp).mono ?_;rintro x w2 ⟨a',c',rfl,hkc,hR3,hq,hg2⟩;have hg:=ae (ab (bl1 w (.cells #[.pointer (some ⟨R,0,none⟩)] 82)) (some R)) hg2
 go_wp2_with fail
 refine(wg a' k c' _ w2 hq (by omega) hkc).mono ?_;rintro x w4 ⟨g,rfl,hg0,hgc,hb4⟩
 go_wp2_with fail
 refine leaves_cons (f:=105) (args:=#[.pointer (some ⟨w.heap.size,0,none⟩)]) (by simp) (by simp [go_sem]) ?_;refine(zC w.heap.size w4).mono ?_;rintro x u' w3 ⟨rfl,rfl,rfl⟩;exact⟨_,results_tmp rfl _ _ _,g,rfl,Nat.le_trans hg.size hg0,hgc,(hR3.below hb4),ae hg (ab hb4 _)⟩
end
noncomputable section
open Go.RowKit Go.Sort
def mK(e:Int)(m p:Nat)(n:Int):Bool:=decide (e=0/\0<=n/\n<=(m:Int) - p)
def nE(e:Int)(m p:Nat)(n:Int):Int:=if e=0 then(if n<0 then 3 else if(m:Int) - p<n then 2 else 0)else e
def nF(fa e:Int)(m p:Nat)(n:Int):Int:=if e=0 then(if n<0 then p else if(m:Int) - p<n then m else fa)else fa
def nP(e:Int)(m p:Nat)(n:Int):Nat:=if mK e m p n=true then p+n.toNat else p
theorem No{e:Int}{m p:Nat}{n:Int}(h:e=0)(h0:0<=n)(h1:n<=(m:Int) - p):mK e m p n=true:=decide_eq_true ⟨h,h0,h1⟩
theorem GQ{e:Int}{m p:Nat}{n:Int}(h:¬(e=0/\0<=n/\n<=(m:Int) - p)):mK e m p n=false:=decide_eq_false h
theorem Bz{e:Int}(fa:Int)(m p:Nat)(n:Int)(h:¬e=0):mK e m p n=false/\nE e m p n=e/\nF fa e m p n=fa/\nP e m p n=p:=by
 have g:=GQ (e:=e) (m:=m) (p:=p) (n:=n) (λhh=>h hh.1);exact⟨g,by unfold nE;rw [if_neg h],by unfold nF;rw [if_neg h],by unfold nP;rw [g];simp⟩
theorem iJ(fa:Int)(m p:Nat)(n:Int)(h0:0<=n)(h:(m:Int) - p<n):mK 0 m p n=false/\nE 0 m p n=2/\nF fa 0 m p n=m/\nP 0 m p n=p:=by
 have g:=GQ (e:=0) (m:=m) (p:=p) (n:=n) (λhh=>by omega);exact⟨g,by unfold nE;rw [if_pos rfl,if_neg (by omega),if_pos h],by unfold nF;rw [if_pos rfl,if_neg (by omega),if_pos h],by unfold nP;rw [g];simp⟩
theorem sD(fa:Int)(m p:Nat)(n:Int)(h0:0<=n)(h:n<=(m:Int) - p):mK 0 m p n=true/\nE 0 m p n=0/\nF fa 0 m p n=fa/\nP 0 m p n=p+n.toNat:=by
 have g:=No (e:=0) (m:=m) (p:=p) (n:=n) rfl h0 h;exact⟨g,by unfold nE;rw [if_pos rfl,if_neg (by omega),if_neg (by omega)],by unfold nF;rw [if_pos rfl,if_neg (by omega),if_neg (by omega)],by unfold nP;rw [g];simp⟩
theorem EP(R:Nat)(a:Option Addr)(m c p:Nat)(e fa:Int)(f:Nat->Int)(w:World)(hR:CellsAt w R 115 (rdr (.slice a m c) p e fa))(hb:Rd8 w a m f)(hne:∀b,a=some b->b.block≠R)(hc:m<=c)(hm:m<=100000)(hp:p<=m):
  Calls Try.prog 79 #[.pointer (some ⟨R,0,none⟩),.int .i64 1,.func (.func 80) #[] #[]] w λx w'=>x= .returned (.int .u8 (if mK e m p 1=true then le (λi=>f (p+i)) 1 else 0))/\CellsAt w' R 115 (rdr (.slice a m c) (nP e m p 1) (nE e m p 1) (nF fa e m p 1))/\w.grownBy w' (some R):=by
 by_cases he:e=0
 .subst he;by_cases hs:(m:Int) - p<1
  .obtain⟨s1,s2,s3,s4⟩:=iJ fa m p 1 (by decide) hs;rw [s1,s2,s3,s4];exact zE R a m c p fa 1 w hR (by decide) hp (by omega) hs
  .obtain⟨s1,s2,s3,s4⟩:=sD fa m p 1 (by decide) (by omega);rw [s1,s2,s3,s4];exact GO R a m c p fa f w hR hb hne hc (by omega) (by omega)
 .obtain⟨s1,s2,s3,s4⟩:=Bz fa m p 1 he;rw [s1,s2,s3,s4];exact(EM R _ _ e fa 1 w hR he).mono λx w' ⟨h1,h2⟩=>⟨h1,hR.below h2,ab h2 _⟩
theorem Do(R:Nat)(a:Option Addr)(m c p:Nat)(e fa:Int)(f:Nat->Int)(w:World)(hR:CellsAt w R 115 (rdr (.slice a m c) p e fa))(hb:Rd8 w a m f)(hne:∀b,a=some b->b.block≠R)(hc:m<=c)(hm:m<=100000)(hp:p<=m):
  Calls Try.prog 60 #[.pointer (some ⟨R,0,none⟩)] w λx w'=>x= .returned (.int .u8 (if mK e m p 1=true then le (λi=>f (p+i)) 1 else 0))/\CellsAt w' R 115 (rdr (.slice a m c) (nP e m p 1) (nE e m p 1) (nF fa e m p 1))/\w.grownBy w' (some R):=by
 have H:=Lib.hid (EP R a m c p e fa f w hR hb hne hc hm hp);clear hR hb hne;obtain⟨V,hV⟩:∃V,V=(if mK e m p 1=true then le (λi=>f (p+i)) 1 else 0):=⟨_,rfl⟩;rw [<-hV]at H ⊢;clear hV
 go_enter Try.func60,Try.ntmps60
 go_wp2_with fail
 refine H.out.mono ?_;rintro x w' ⟨rfl,h1,h2⟩
 go_wp2
 go_ret
 exact⟨rfl,h1,h2⟩
theorem BC(R:Nat)(a:Option Addr)(m c p:Nat)(e fa:Int)(f:Nat->Int)(w:World)(hR:CellsAt w R 115 (rdr (.slice a m c) p e fa))(hb:Rd8 w a m f)(hne:∀b,a=some b->b.block≠R)(hc:m<=c)(hm:m<=100000)(hp:p<=m):
  Calls Try.prog 89 #[.pointer (some ⟨R,0,none⟩),.int .i64 4,.func (.func 90) #[] #[]] w λx w'=>x= .returned (.int .u32 (if mK e m p 4=true then le (λi=>f (p+i)) 4 else 0))/\CellsAt w' R 115 (rdr (.slice a m c) (nP e m p 4) (nE e m p 4) (nF fa e m p 4))/\w.grownBy w' (some R):=by
 by_cases he:e=0
 .subst he;by_cases hs:(m:Int) - p<4
  .obtain⟨s1,s2,s3,s4⟩:=iJ fa m p 4 (by decide) hs;rw [s1,s2,s3,s4];exact yb R a m c p fa 4 w hR (by decide) hp (by omega) hs
  .obtain⟨s1,s2,s3,s4⟩:=sD fa m p 4 (by decide) (by omega);rw [s1,s2,s3,s4];exact EN R a m c p fa f w hR hb hne hc (by omega) (by omega)
 .obtain⟨s1,s2,s3,s4⟩:=Bz fa m p 4 he;rw [s1,s2,s3,s4];exact(Bw R _ _ e fa 4 w hR he).mono λx w' ⟨h1,h2⟩=>⟨h1,hR.below h2,ab h2 _⟩
theorem sE(R:Nat)(a:Option Addr)(m c p:Nat)(e fa:Int)(f:Nat->Int)(w:World)(hR:CellsAt w R 115 (rdr (.slice a m c) p e fa))(hb:Rd8 w a m f)(hne:∀b,a=some b->b.block≠R)(hc:m<=c)(hm:m<=100000)(hp:p<=m):
  Calls Try.prog 75 #[.pointer (some ⟨R,0,none⟩)] w λx w'=>x= .returned (.int .u32 (if mK e m p 4=true then le (λi=>f (p+i)) 4 else 0))/\CellsAt w' R 115 (rdr (.slice a m c) (nP e m p 4) (nE e m p 4) (nF fa e m p 4))/\w.grownBy w' (some R):=by
 have H:=Lib.hid (BC R a m c p e fa f w hR hb hne hc hm hp);clear hR hb hne;obtain⟨V,hV⟩:∃V,V=(if mK e m p 4=true then le (λi=>f (p+i)) 4 else 0):=⟨_,rfl⟩;rw [<-hV]at H ⊢;clear hV
 go_enter Try.func75,Try.ntmps75
 go_wp2_with fail
 refine H.out.mono ?_;rintro x w' ⟨rfl,h1,h2⟩
 go_wp2
 go_ret
 exact⟨rfl,h1,h2⟩
theorem BD(R:Nat)(a:Option Addr)(m c p:Nat)(e fa:Int)(f:Nat->Int)(w:World)(hR:CellsAt w R 115 (rdr (.slice a m c) p e fa))(hb:Rd8 w a m f)(hne:∀b,a=some b->b.block≠R)(hc:m<=c)(hm:m<=100000)(hp:p<=m):
  Calls Try.prog 76 #[.pointer (some ⟨R,0,none⟩),.int .i64 8,.func (.func 77) #[] #[]] w λx w'=>x= .returned (.int .i64 (if mK e m p 8=true then lw (λi=>f (p+i)) 8 else 0))/\CellsAt w' R 115 (rdr (.slice a m c) (nP e m p 8) (nE e m p 8) (nF fa e m p 8))/\w.grownBy w' (some R):=by
 by_cases he:e=0
 .subst he;by_cases hs:(m:Int) - p<8
  .obtain⟨s1,s2,s3,s4⟩:=iJ fa m p 8 (by decide) hs;rw [s1,s2,s3,s4];exact yc R a m c p fa 8 w hR (by decide) hp (by omega) hs
  .obtain⟨s1,s2,s3,s4⟩:=sD fa m p 8 (by decide) (by omega);rw [s1,s2,s3,s4];exact EO R a m c p fa f w hR hb hne hc (by omega) (by omega)
 .obtain⟨s1,s2,s3,s4⟩:=Bz fa m p 8 he;rw [s1,s2,s3,s4];exact(Bx R _ _ e fa 8 w hR he).mono λx w' ⟨h1,h2⟩=>⟨h1,hR.below h2,ab h2 _⟩
theorem GR(R:Nat)(a:Option Addr)(m c p:Nat)(e fa:Int)(f:Nat->Int)(w:World)(hR:CellsAt w R 115 (rdr (.slice a m c) p e fa))(hb:Rd8 w a m f)(hne:∀b,a=some b->b.block≠R)(hc:m<=c)(hm:m<=100000)(hp:p<=m):
  Calls Try.prog 53 #[.pointer (some ⟨R,0,none⟩)] w λx w'=>x= .returned (.int .i64 (if mK e m p 8=true then lw (λi=>f (p+i)) 8 else 0))/\CellsAt w' R 115 (rdr (.slice a m c) (nP e m p 8) (nE e m p 8) (nF fa e m p 8))/\w.grownBy w' (some R):=by
 have H:=Lib.hid (BD R a m c p e fa f w hR hb hne hc hm hp);clear hR hb hne;obtain⟨V,hV⟩:∃V,V=(if mK e m p 8=true then lw (λi=>f (p+i)) 8 else 0):=⟨_,rfl⟩;rw [<-hV]at H ⊢;clear hV
 go_enter Try.func53,Try.ntmps53
 go_wp2_with fail
 refine H.out.mono ?_;rintro x w' ⟨rfl,h1,h2⟩
 go_wp2
 go_ret
 exact⟨rfl,h1,h2⟩
theorem sF(w:World)(a:Option Addr)(f:Nat->Int):Rd8 w a 0 f:=λi hi=>absurd hi (Nat.not_lt_zero _)
end
noncomputable section
open Go.RowKit Go.Sort
theorem lf(R:Nat)(v:Value)(p:Nat)(e fa:Int)(w:World)(hR:CellsAt w R 115 (rdr v p e fa)):
  Calls Try.prog 48 #[.pointer (some ⟨R,0,none⟩)] w λx w'=>x= .returned (.int .i64 p)/\Below w.heap.size w w':=by
 have c1:w.cell? ⟨R,1,none⟩=some (.int .i64 p):=hR.cell 1
 go_enter Try.func48,Try.ntmps48
 go_wp2
 go_ret
 exact⟨rfl,Below.refl _ _⟩
theorem rG(R:Nat)(a:Option Addr)(m c p:Nat)(fa:Int)(w:World)(hR:CellsAt w R 115 (rdr (.slice a m c) p 0 fa))(b:Bool)(hbp:b=decide (p=m)):
  Calls Try.prog 47 #[.pointer (some ⟨R,0,none⟩)] w λx w'=>x= .returned (.bool b)/\Below w.heap.size w w':=by
 have c0:w.cell? ⟨R,0,none⟩=some (.slice a m c):=hR.cell 0;have c1:w.cell? ⟨R,1,none⟩=some (.int .i64 p):=hR.cell 1;have c2:w.cell? ⟨R,2,none⟩=some (.int .i64 0):=hR.cell 2;have kR:Has w R:=hR.lt;have b1:((p:Int)==(m:Int))=b:=by rw [hbp];by_cases h:p=m<;>simp [h]<;>omega
 clear hbp;have HB:=Lib.hid b1;clear b1
 go_enter Try.func47,Try.ntmps47
 go_wp2_with fail
 refine wp_region_quiet_below (by kernel_rfl) (by kernel_rfl) ?_
 repeat (go_big_quiet_step (fail))
 refine wpQuiet_nil ?_;rintro _ ⟨⟨d2,o2⟩,rfl⟩
 go_wp2_with fail
 go_ret
 exact⟨by rw [<-HB.out];rfl,(by repeat (first|with_reducible refine blg ?_ _ _|with_reducible refine bla ?_ _|with_reducible exact Below.refl _ _))⟩
theorem mL(R:Nat)(v:Value)(p:Nat)(e fa:Int)(w:World)(hR:CellsAt w R 115 (rdr v p e fa)):
  Calls Try.prog 73 #[.pointer (some ⟨R,0,none⟩)] w λx w'=>x= .returned (.agg #[.int .i64 e,.int .i64 fa])/\Below w.heap.size w w':=by
 have c2:w.cell? ⟨R,2,none⟩=some (.int .i64 e):=hR.cell 2;have c3:w.cell? ⟨R,3,none⟩=some (.int .i64 fa):=hR.cell 3;have kR:Has w R:=hR.lt
 go_enter Try.func73,Try.ntmps73
 go_wp2
 refine bodyPost_ret (v:= .agg #[.int .i64 e,.int .i64 fa]) ?_ rfl ⟨rfl,(by repeat (first|with_reducible refine blg ?_ _ _|with_reducible refine bla ?_ _|with_reducible exact Below.refl _ _))⟩;simp [results,Try.results73,go_sem]
theorem EQ(R:Nat)(v:Value)(p:Nat)(e fa e2 f2:Int)(w:World)(hR:CellsAt w R 115 (rdr v p e fa))(he:¬(e=0/\¬e2=0)):
  Calls Try.prog 72 #[.pointer (some ⟨R,0,none⟩),.int .i64 e2,.int .i64 f2] w λx w'=>x= .returned (.tuple #[])/\Below w.heap.size w w':=by
 by_cases h:e=0
 .obtain rfl:e2=0:=Classical.byContradiction λhh=>he ⟨h,hh⟩;subst h;clear he;have c2:w.cell? ⟨R,2,none⟩=some (.int .i64 0):=hR.cell 2
  go_enter Try.func72,Try.ntmps72
  go_wp2_with fail
  go_end0
  exact⟨rfl,(by repeat (first|with_reducible refine blg ?_ _ _|with_reducible refine bla ?_ _|with_reducible exact Below.refl _ _))⟩
 .have he:=h;clear h;have b1:(e==0)=false:=by simpa using he
  have c2:w.cell? ⟨R,2,none⟩=some (.int .i64 e):=hR.cell 2
  go_enter Try.func72,Try.ntmps72
  go_wp2_with fail
  go_end0
  exact⟨rfl,(by repeat (first|with_reducible refine blg ?_ _ _|with_reducible refine bla ?_ _|with_reducible exact Below.refl _ _))⟩
theorem GS(R:Nat)(v:Value)(p:Nat)(fa e2 f2:Int)(w:World)(hR:CellsAt w R 115 (rdr v p 0 fa))(he:¬e2=0):
  Calls Try.prog 72 #[.pointer (some ⟨R,0,none⟩),.int .i64 e2,.int .i64 f2] w λx w'=>x= .returned (.tuple #[])/\CellsAt w' R 115 (rdr v p e2 f2)/\w.grownBy w' (some R):=by
 have c2:w.cell? ⟨R,2,none⟩=some (.int .i64 0):=hR.cell 2;have b1:(e2 !=0)=true:=by simpa using he
 have c3:w.cell? ⟨R,3,none⟩=some (.int .i64 fa):=hR.cell 3;have f2':=hR.frozen 2;have f3':=hR.frozen 3;have kR:Has w R:=hR.lt
 go_enter Try.func72,Try.ntmps72
 go_wp2_with fail
 have h1:=(hR.set 2 (.int .i64 e2)).set 3 (.int .i64 f2);have h2:=ae (af w R 2 (.int .i64 e2)) (af _ R 3 (.int .i64 f2))
 go_end0
 exact⟨rfl,h1,h2⟩
end
noncomputable section
open Go.RowKit Go.Sort
abbrev ldr(R:Nat):Value:= .agg #[.pointer (some ⟨R,0,none⟩)]
abbrev gb(e fa:Int):PanicEntry:={v:= .iface 80 (.agg #[.int .i64 e,.int .i64 fa]),recovered:=false}
theorem eI{w w1:World}{a:Obj}(h:Below (w.alloc a).heap.size (w.alloc a) w1):Below w.heap.size w w1:=
 (bl1 w a).trans (h.mono (by simp))
theorem fI(R:Nat)(v:Value)(p:Nat)(fa e2 f2:Int)(w:World)(hR:CellsAt w R 115 (rdr v p 0 fa)):
  Calls Try.prog 46 #[ldr R,.bool false,.int .i64 e2,.int .i64 f2] w λx w'=>x= .returned (.tuple #[])/\Below w.heap.size w w':=by
 have H:=Lib.hid (λw (h:CellsAt w R 115 (rdr v p 0 fa))=>mL R v p 0 fa w h)
 go_enter Try.func46,Try.ntmps46
 go_wp2_with fail
 refine(H.out _ (hR.below (by repeat (first|with_reducible refine blg ?_ _ _|with_reducible refine bla ?_ _|with_reducible exact Below.refl _ _)))).mono ?_;rintro x w1 ⟨rfl,h1⟩
 go_wp2_with fail
 go_end0
 exact⟨rfl,(eI h1).alloc (eI h1).size _⟩
theorem gL(R:Nat)(v:Value)(p:Nat)(e fa e2 f2:Int)(b:Bool)(w:World)(hR:CellsAt w R 115 (rdr v p e fa))(he:¬e=0):
  Calls Try.prog 46 #[ldr R,.bool b,.int .i64 e2,.int .i64 f2] w λx w'=>x= .panicked [gb e fa]/\Below w.heap.size w w':=by
 have H:=Lib.hid (λw (h:CellsAt w R 115 (rdr v p e fa))=>mL R v p e fa w h);have G:=Lib.hid (λw (h:CellsAt w R 115 (rdr v p e fa))=>EQ R v p e fa e2 f2 w h (λh=>he h.1));have b1:(e !=0)=true:=by simpa using he
 go_enter Try.func46,Try.ntmps46
 cases b
 .go_wp2_with fail
  refine(H.out _ (hR.below (by repeat (first|with_reducible refine blg ?_ _ _|with_reducible refine bla ?_ _|with_reducible exact Below.refl _ _)))).mono ?_;rintro x w1 ⟨rfl,h1⟩
  go_wp2_with fail
  exact⟨rfl,rfl,(eI h1).alloc (eI h1).size _⟩
 .go_wp2_with fail
  have hR0:=hR.below (bl1 w (Obj.cells #[Value.pointer (some {block:=R,off:=0})] 85));refine(G.out _ hR0).mono ?_;rintro x w1 ⟨rfl,h0⟩;have c0:w1.cell? ⟨w.heap.size,0,none⟩=some (.pointer (some ⟨R,0,none⟩)):=(h0.cell (by simp)).trans (by simp [go_sem])
  go_wp2_with fail
  refine(H.out _ (hR0.below h0)).mono ?_;rintro x w2 ⟨rfl,h1⟩
  go_wp2_with fail
  exact⟨rfl,rfl,((eI h0).trans (h1.mono (eI h0).size)).alloc ((eI h0).trans (h1.mono (eI h0).size)).size _⟩
theorem gE(R:Nat)(v:Value)(p:Nat)(fa e2 f2:Int)(w:World)(hR:CellsAt w R 115 (rdr v p 0 fa))(he:¬e2=0):
  Calls Try.prog 46 #[ldr R,.bool true,.int .i64 e2,.int .i64 f2] w λx w'=>x= .panicked [gb e2 f2]/\w.grownBy w' (some R):=by
 have H:=Lib.hid (λw (h:CellsAt w R 115 (rdr v p e2 f2))=>mL R v p e2 f2 w h);have G:=Lib.hid (λw (h:CellsAt w R 115 (rdr v p 0 fa))=>GS R v p fa e2 f2 w h he);have b1:(e2 !=0)=true:=by simpa using he
 have kR:R<w.heap.size:=hR.lt
 go_enter Try.func46,Try.ntmps46
 go_wp2_with fail
 have hR0:=hR.below (bl1 w (Obj.cells #[Value.pointer (some {block:=R,off:=0})] 85));refine(G.out _ hR0).mono ?_;rintro x w1 ⟨rfl,h2,h0⟩;have h00:w.grownBy w1 (some R):=ae (ab (bl1 w (Obj.cells #[Value.pointer (some {block:=R,off:=0})] 85)) _) h0;have c0:w1.cell? ⟨w.heap.size,0,none⟩=some (.pointer (some ⟨R,0,none⟩)):=(World.cell?_of_block (h0.block w.heap.size (by simp) (by simp;omega))).trans (by simp [go_sem])
 go_wp2_with fail
 refine(H.out _ h2).mono ?_;rintro x w2 ⟨rfl,h1⟩
 go_wp2_with fail
 exact⟨rfl,rfl,ae h00 (ab (h1.alloc h1.size _) _)⟩
end
noncomputable section
open Go.RowKit Go.Sort
theorem fj{w w1:World}{v:Value}{t:TypeId}{R:Nat}(hR:R<w.heap.size)(h:(w.alloc (.cells #[v] t)).grownBy w1 (some R)):w1.cell? ⟨w.heap.size,0,none⟩=some v:=
 (World.cell?_of_block (h.block w.heap.size (by simp) (by simp;omega))).trans (by simp [go_sem])
theorem ER(R:Nat)(a:Option Addr)(m c p:Nat)(fa X most e2:Int)(f:Nat->Int)(w:World)(hR:CellsAt w R 115 (rdr (.slice a m c) p 0 fa))(hb:Rd8 w a m f)(hne:∀b,a=some b->b.block≠R)(hc:m<=c)(hm:m<=100000)(hp:p+4<=m)(hX:X=le (λi=>f (p+i)) 4)(hx0:0<=X)(hx1:X<=4294967295)(hmost:¬most<X):
  Calls Try.prog 50 #[ldr R,.int .i64 most,.int .i64 e2] w λx w'=>x= .returned (.int .i64 X)/\CellsAt w' R 115 (rdr (.slice a m c) (p+4:Nat) 0 fa)/\w.grownBy w' (some R):=by
 have U:Hid (∀w,CellsAt w R 115 (rdr (.slice a m c) p 0 fa)->Rd8 w a m f->Calls Try.prog 75 #[.pointer (some ⟨R,0,none⟩)] w λx w'=>x= .returned (.int .u32 X)/\CellsAt w' R 115 (rdr (.slice a m c) (p+4:Nat) 0 fa)/\w.grownBy w' (some R)):=by
  refine Lib.hid λw h1 h2=> ?_
  have:=sE R a m c p 0 fa f w h1 h2 hne hc hm (by omega)
  obtain⟨s1,s2,s3,s4⟩:=sD fa m p 4 (by decide) (by omega);rw [s1,s2,s3,s4]at this;rw [hX];simpa using this
 have T:=Lib.hid (λw (h:CellsAt w R 115 (rdr (.slice a m c) p 0 fa))=>lf R (.slice a m c) p 0 fa w h);have V:=Lib.hid (λw (h:CellsAt w R 115 (rdr (.slice a m c) (p+4:Nat) 0 fa))=>fI R (.slice a m c) (p+4) fa e2 p w h);have kR:R<w.heap.size:=hR.lt;have b1:decide (most<X)=false:=decide_eq_false hmost;have hR0:=hR.below (bl1 w (Obj.cells #[Value.pointer (some {block:=R,off:=0})] 85));have hb0:=hb.grown (ab (bl1 w (Obj.cells #[Value.pointer (some {block:=R,off:=0})] 85)) none) (λ_ _=>by simp);clear hX hb hne
 go_enter Try.func50,Try.ntmps50
 go_wp2_with fail
 refine(T.out _ hR0).mono ?_;rintro x w1 ⟨rfl,h1⟩;have c0:w1.cell? ⟨w.heap.size,0,none⟩=some (.pointer (some ⟨R,0,none⟩)):=fj kR (ab h1 _)
 go_wp2_with fail
 refine(U.out _ (hR0.below h1) (hb0.grown (ab h1 none) (λ_ _=>by simp))).mono ?_;rintro x w2 ⟨rfl,h2,h3⟩;have c0:w2.cell? ⟨w.heap.size,0,none⟩=some (.pointer (some ⟨R,0,none⟩)):=fj kR (ae (ab h1 _) h3);have g:w.grownBy w2 (some R):=ae (ab (bl1 _ _) _) (ae (ab h1 _) h3)
 go_wp2_with fail
 refine(V.out _ h2).mono ?_;rintro x w3 ⟨rfl,h4⟩
 go_wp2_with fail
 go_ret
 exact⟨rfl,h2.below h4,ae g (ab h4 _)⟩
theorem zG(R:Nat)(a:Option Addr)(m c p:Nat)(fa X most e2:Int)(f:Nat->Int)(w:World)(hR:CellsAt w R 115 (rdr (.slice a m c) p 0 fa))(hb:Rd8 w a m f)(hne:∀b,a=some b->b.block≠R)(hc:m<=c)(hm:m<=100000)(hp:p+4<=m)(hX:X=le (λi=>f (p+i)) 4)(hx0:0<=X)(hx1:X<=4294967295)(hmost:most<X)(he2:¬e2=0):
  Calls Try.prog 50 #[ldr R,.int .i64 most,.int .i64 e2] w λx w'=>x= .panicked [gb e2 p]/\w.grownBy w' (some R):=by
 have U:Hid (∀w,CellsAt w R 115 (rdr (.slice a m c) p 0 fa)->Rd8 w a m f->Calls Try.prog 75 #[.pointer (some ⟨R,0,none⟩)] w λx w'=>x= .returned (.int .u32 X)/\CellsAt w' R 115 (rdr (.slice a m c) (p+4:Nat) 0 fa)/\w.grownBy w' (some R)):=by
  refine Lib.hid λw h1 h2=> ?_
  have:=sE R a m c p 0 fa f w h1 h2 hne hc hm (by omega)
  obtain⟨s1,s2,s3,s4⟩:=sD fa m p 4 (by decide) (by omega);rw [s1,s2,s3,s4]at this;rw [hX];simpa using this
 have T:=Lib.hid (λw (h:CellsAt w R 115 (rdr (.slice a m c) p 0 fa))=>lf R (.slice a m c) p 0 fa w h);have V:=Lib.hid (λw (h:CellsAt w R 115 (rdr (.slice a m c) (p+4:Nat) 0 fa))=>gE R (.slice a m c) (p+4) fa e2 p w h he2);have kR:R<w.heap.size:=hR.lt;have b1:decide (most<X)=true:=decide_eq_true hmost;have hR0:=hR.below (bl1 w (Obj.cells #[Value.pointer (some {block:=R,off:=0})] 85));have hb0:=hb.grown (ab (bl1 w (Obj.cells #[Value.pointer (some {block:=R,off:=0})] 85)) none) (λ_ _=>by simp);clear hX hb hne
 go_enter Try.func50,Try.ntmps50
 go_wp2_with fail
 refine(T.out _ hR0).mono ?_;rintro x w1 ⟨rfl,h1⟩;have c0:w1.cell? ⟨w.heap.size,0,none⟩=some (.pointer (some ⟨R,0,none⟩)):=fj kR (ab h1 _)
 go_wp2_with fail
 refine(U.out _ (hR0.below h1) (hb0.grown (ab h1 none) (λ_ _=>by simp))).mono ?_;rintro x w2 ⟨rfl,h2,h3⟩;have c0:w2.cell? ⟨w.heap.size,0,none⟩=some (.pointer (some ⟨R,0,none⟩)):=fj kR (ae (ab h1 _) h3);have g:w.grownBy w2 (some R):=ae (ab (bl1 _ _) _) (ae (ab h1 _) h3)
 go_wp2_with fail
 refine(V.out _ h2).mono ?_;rintro x w3 ⟨rfl,h4⟩
 go_wp2_with fail
 exact⟨rfl,rfl,ae g h4⟩
theorem yd(R:Nat)(a:Option Addr)(m c p:Nat)(fa most e2:Int)(f:Nat->Int)(w:World)(hR:CellsAt w R 115 (rdr (.slice a m c) p 0 fa))(hb:Rd8 w a m f)(hne:∀b,a=some b->b.block≠R)(hc:m<=c)(hm:m<=100000)(hp:p<=m)(hs:¬p+4<=m):
  Calls Try.prog 50 #[ldr R,.int .i64 most,.int .i64 e2] w λx w'=>x= .panicked [gb 2 m]/\w.grownBy w' (some R):=by
 have U:Hid (∀w,CellsAt w R 115 (rdr (.slice a m c) p 0 fa)->Rd8 w a m f->Calls Try.prog 75 #[.pointer (some ⟨R,0,none⟩)] w λx w'=>x= .returned (.int .u32 0)/\CellsAt w' R 115 (rdr (.slice a m c) p 2 m)/\w.grownBy w' (some R)):=by
  refine Lib.hid λw h1 h2=> ?_
  have:=sE R a m c p 0 fa f w h1 h2 hne hc hm (by omega)
  obtain⟨s1,s2,s3,s4⟩:=iJ fa m p 4 (by decide) (by omega);rw [s1,s2,s3,s4]at this;simpa using this
 have T:=Lib.hid (λw (h:CellsAt w R 115 (rdr (.slice a m c) p 0 fa))=>lf R (.slice a m c) p 0 fa w h);have V:=Lib.hid (λw (h:CellsAt w R 115 (rdr (.slice a m c) p 2 m))=>gL R (.slice a m c) p 2 m e2 p (decide (most<0)) w h (by decide));have kR:R<w.heap.size:=hR.lt;obtain⟨B,hB⟩:∃B,B=decide (most<0):=⟨_,rfl⟩;rw [<-hB]at V;have hR0:=hR.below (bl1 w (Obj.cells #[Value.pointer (some {block:=R,off:=0})] 85));have hb0:=hb.grown (ab (bl1 w (Obj.cells #[Value.pointer (some {block:=R,off:=0})] 85)) none) (λ_ _=>by simp);clear hb hne
 go_enter Try.func50,Try.ntmps50
 go_wp2_with fail
 refine(T.out _ hR0).mono ?_;rintro x w1 ⟨rfl,h1⟩;have c0:w1.cell? ⟨w.heap.size,0,none⟩=some (.pointer (some ⟨R,0,none⟩)):=fj kR (ab h1 _)
 go_wp2_with fail
 refine(U.out _ (hR0.below h1) (hb0.grown (ab h1 none) (λ_ _=>by simp))).mono ?_;rintro x w2 ⟨rfl,h2,h3⟩;have c0:w2.cell? ⟨w.heap.size,0,none⟩=some (.pointer (some ⟨R,0,none⟩)):=fj kR (ae (ab h1 _) h3);have g:w.grownBy w2 (some R):=ae (ab (bl1 _ _) _) (ae (ab h1 _) h3)
 go_wp2_with fail
 rw [<-hB];refine(V.out _ h2).mono ?_;rintro x w3 ⟨rfl,h4⟩
 go_wp2_with fail
 exact⟨rfl,rfl,ae g (ab h4 _)⟩
end
noncomputable section
open Go.RowKit Go.Sort
def gy(f:Nat->Int)(p k:Nat):List Int:=(List.range k).map λi=>f (p+i)
theorem ES(f:Nat->Int)(p k:Nat):(gy f p k).length=k:=by simp [gy]
theorem sG(w:World)(g k c:Nat)(f:Nat->Int)(p:Nat)(h:CellsAt w g 5 (co (λi=>f (p+i)) k).toArray):
  (convert 24 9 (.slice (some ⟨g,0,none⟩) k c)).run Try.prog w= .ok (.string (strOfNums (gy f p k))) w:=
 run_convert_bytes_arg w 24 5 (by kernel_rfl) (by kernel_rfl) g 0 k c _ (ES f p k) (λi hi=>by
  have:=h.cell i
  simpa [co,gy,hi]using this) 9 (by kernel_rfl)
theorem GT(w:World):(convert 24 9 (.slice none 0 0)).run Try.prog w= .ok (.string ⟨#[]⟩) w:=
 Lib.run_convert_nil_bytes w _ _ 5 0 (by kernel_rfl) (by kernel_rfl) (by kernel_rfl)
theorem zH(R:Nat)(a:Option Addr)(m c p k:Nat)(fa:Int)(f:Nat->Int)(w:World)(hR:CellsAt w R 115 (rdr (.slice a m c) p 0 fa))(hb:Rd8 w a m f)(hne:∀b,a=some b->b.block≠R)(hc:m<=c)(hm:m<=9223372036854775807)(hp:p+k<=m)(hk:k<=100000):
  Calls Try.prog 74 #[.pointer (some ⟨R,0,none⟩),.int .i64 (k:Nat)] w λx w'=>∃g,x= .returned (.slice (some ⟨g,0,none⟩) k k)/\w.heap.size<=g/\CellsAt w' g 5 (co (λi=>f (p+i)) k).toArray/\CellsAt w' R 115 (rdr (.slice a m c) (p+k:Nat) 0 fa)/\w.grownBy w' (some R):=by
 have H:=Lib.hid (GP R a m c p k fa f w hR hb hne hc hm hp hk);clear hR hb hne
 go_enter Try.func74,Try.ntmps74
 go_wp2_with fail
 refine H.out.mono ?_;rintro x w' ⟨g,rfl,h1,h2⟩
 go_wp2_with fail
 go_ret
 exact⟨g,rfl,h1,h2⟩
theorem zI(R:Nat)(a:Option Addr)(m c p:Nat)(fa n:Int)(w:World)(hR:CellsAt w R 115 (rdr (.slice a m c) p 0 fa))(hn:0<=n)(hp:p<=m)(hm:m<=9223372036854775807)(hs:(m:Int) - p<n):
  Calls Try.prog 74 #[.pointer (some ⟨R,0,none⟩),.int .i64 n] w λx w'=>x= .returned (.slice none 0 0)/\CellsAt w' R 115 (rdr (.slice a m c) p 2 m)/\w.grownBy w' (some R):=by
 have H:=Lib.hid (zF R a m c p fa n w hR hn hp hm hs);clear hR
 go_enter Try.func74,Try.ntmps74
 go_wp2_with fail
 refine H.out.mono ?_;rintro x w' ⟨rfl,h1⟩
 go_wp2_with fail
 go_ret
 exact⟨rfl,h1⟩
theorem GU(R:Nat)(a:Option Addr)(m c p k:Nat)(fa:Int)(f:Nat->Int)(s:ByteArray)(w:World)(hR:CellsAt w R 115 (rdr (.slice a m c) p 0 fa))(hb:Rd8 w a m f)(hne:∀b,a=some b->b.block≠R)(hc:m<=c)(hm:m<=100000)(hp:p+k<=m)(hk:s.size=k)(hk2:k<=100000)(hs:strOfNums (gy f p k)=s):
  Calls Try.prog 49 #[ldr R,.string s] w λx w'=>x= .returned (.tuple #[])/\CellsAt w' R 115 (rdr (.slice a m c) (p+k:Nat) 0 fa)/\w.grownBy w' (some R):=by
 have U:=Lib.hid λw h1 h2=>zH R a m c p k fa f w h1 h2 hne hc (by omega) hp hk2;have V:=Lib.hid (λw (h:CellsAt w R 115 (rdr (.slice a m c) (p+k:Nat) 0 fa))=>fI R (.slice a m c) (p+k) fa 1 0 w h);have kR:R<w.heap.size:=hR.lt;have hR0:=hR.below (bl1 w (Obj.cells #[Value.pointer (some {block:=R,off:=0})] 85));have hb0:=hb.grown (ab (bl1 w (Obj.cells #[Value.pointer (some {block:=R,off:=0})] 85)) none) (λ_ _=>by simp);clear hb hne
 go_enter Try.func49,Try.ntmps49
 go_wp2_with fail
 refine(U.out _ hR0 hb0).mono ?_;rintro x w1 ⟨g,rfl,h0,h1,h2,h3⟩;have c0:w1.cell? ⟨w.heap.size,0,none⟩=some (.pointer (some ⟨R,0,none⟩)):=fj kR h3;have cv:=sG w1 g k k f p h1;rw [hs]at cv
 go_wp2_with fail
 refine(V.out _ h2).mono ?_;rintro x w2 ⟨rfl,h4⟩
 go_wp2_with fail
 go_end0
 exact⟨rfl,h2.below h4,ae (ab (bl1 _ _) _) (ae h3 (ab h4 _))⟩
theorem ET(R:Nat)(a:Option Addr)(m c p k:Nat)(fa:Int)(f:Nat->Int)(s:ByteArray)(w:World)(hR:CellsAt w R 115 (rdr (.slice a m c) p 0 fa))(hb:Rd8 w a m f)(hne:∀b,a=some b->b.block≠R)(hc:m<=c)(hm:m<=100000)(hp:p+k<=m)(hk:s.size=k)(hk2:k<=100000)(hs:¬strOfNums (gy f p k)=s):
  Calls Try.prog 49 #[ldr R,.string s] w λx w'=>x= .panicked [gb 1 0]/\w.grownBy w' (some R):=by
 have U:=Lib.hid λw h1 h2=>zH R a m c p k fa f w h1 h2 hne hc (by omega) hp hk2;have V:=Lib.hid (λw (h:CellsAt w R 115 (rdr (.slice a m c) (p+k:Nat) 0 fa))=>gE R (.slice a m c) (p+k) fa 1 0 w h (by decide));have kR:R<w.heap.size:=hR.lt;have hR0:=hR.below (bl1 w (Obj.cells #[Value.pointer (some {block:=R,off:=0})] 85));have hb0:=hb.grown (ab (bl1 w (Obj.cells #[Value.pointer (some {block:=R,off:=0})] 85)) none) (λ_ _=>by simp);clear hb hne
 go_enter Try.func49,Try.ntmps49
 go_wp2_with fail
 refine(U.out _ hR0 hb0).mono ?_;rintro x w1 ⟨g,rfl,h0,h1,h2,h3⟩;have c0:w1.cell? ⟨w.heap.size,0,none⟩=some (.pointer (some ⟨R,0,none⟩)):=fj kR h3;have cv:=sG w1 g k k f p h1;obtain⟨s2,hs2⟩:∃s2,s2=strOfNums (gy f p k):=⟨_,rfl⟩;rw [<-hs2]at cv hs;have b1:(s2.toList==s.toList)=false:=beq_false_of_ne λh=>hs (ByteArray.ext (Array.toList_inj.1 (by rwa [ByteArray.toList_eq,ByteArray.toList_eq]at h)));clear hs2 hs h1
 go_wp2_with fail
 refine(V.out _ h2).mono ?_;rintro x w2 ⟨rfl,h4⟩
 go_wp2_with fail
 exact⟨rfl,rfl,ae (ab (bl1 _ _) _) (ae h3 h4)⟩
theorem zJ(R:Nat)(a:Option Addr)(m c p k:Nat)(fa:Int)(f:Nat->Int)(s:ByteArray)(w:World)(hR:CellsAt w R 115 (rdr (.slice a m c) p 0 fa))(hb:Rd8 w a m f)(hne:∀b,a=some b->b.block≠R)(hc:m<=c)(hm:m<=100000)(hp:p<=m)(hq:¬p+k<=m)(hk:s.size=k)(hk2:k<=100000):
  Calls Try.prog 49 #[ldr R,.string s] w λx w'=>x= .panicked [gb 2 m]/\w.grownBy w' (some R):=by
 have U:=Lib.hid λw h1=>zI R a m c p fa k w h1 (by omega) hp (by omega) (by omega);have V:=Lib.hid (λw (h:CellsAt w R 115 (rdr (.slice a m c) p 2 m)) b=>gL R (.slice a m c) p 2 m 1 0 b w h (by decide));have kR:R<w.heap.size:=hR.lt;have hR0:=hR.below (bl1 w (Obj.cells #[Value.pointer (some {block:=R,off:=0})] 85));have hb0:=hb.grown (ab (bl1 w (Obj.cells #[Value.pointer (some {block:=R,off:=0})] 85)) none) (λ_ _=>by simp);clear hb hne
 go_enter Try.func49,Try.ntmps49
 go_wp2_with fail
 refine(U.out _ hR0).mono ?_;rintro x w1 ⟨rfl,h2,h3⟩;have c0:w1.cell? ⟨w.heap.size,0,none⟩=some (.pointer (some ⟨R,0,none⟩)):=fj kR h3;have cv:=GT w1;obtain⟨s2,hs2⟩:∃s2,s2=(⟨#[]⟩:ByteArray):=⟨_,rfl⟩;rw [<-hs2]at cv;clear hs2
 go_wp2_with fail
 refine(V.out _ h2 _).mono ?_;rintro x w2 ⟨rfl,h4⟩
 go_wp2_with fail
 exact⟨rfl,rfl,ae (ab (bl1 _ _) _) (ae h3 (ab h4 _))⟩
end
end Go.Proofs.Ytoamaaicfjkmhaa
