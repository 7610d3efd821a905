/- Texts of a claim, joined. -/
import Derived.Test.YtjjbpdldbdmoeaaZM10
import Derived.Deep.LoopGhost
import Derived.StillTailTactics
set_option linter.unusedVariables false
set_option linter.unusedSimpArgs false
namespace Go.Proofs.Ytjjbpdldbdmoeaa
noncomputable section
open Go.RowKit Go.Sort
namespace Sm
open Ev
@[go_sem] abbrev WV (p:V):Value:= .agg #[.int .i64 p.1,.int .u64 p.2]
def orI(x y:Int):Int:=if x=0 then y else x
theorem sI(g i:Nat):((⟨g,0,none⟩:Addr).add i)=⟨g,i,none⟩:=by unfold Addr.add;split<;>simp_all
theorem wn(a:Addr)(k:Nat):a.add (k+1)=⟨a.block,(a.add k).off+1,none⟩:=by
 unfold Addr.add;by_cases h:k=0
 .subst h;simp
 .simp [h];omega
def PT:T->Option Value
 | .v x=>if x.oneCell' then some x else none
 | .s _ _ _=>none
def PTs:List T->Option (List Value)
 | []=>some []
 |t::r=>(PT t).bind λx=>(PTs r).map (x::·)
def PD:TD->Option Value
 | .one t=>PT t
 | .agg ts=>(PTs ts).map λl=> .agg l.toArray
theorem DO{t:T}{x:Value}(h:PT t=some x)(w:World)(F:Nat->Prop):RepT w F t x/\∀y,RepT w F t y->y=x:=by
 cases t with
 |s=>simp [PT]at h
 |v z=>
  simp only [PT]at h;split at h
  .rename_i hz;cases h;exact⟨.v _ hz,λy hy=>by cases hy;rfl⟩
  .simp at h
theorem Aa:∀{ts:List T} {l:List Value},PTs ts=some l->∀(w:World) (F:Nat->Prop),RepTs w F ts l/\∀ys,RepTs w F ts ys->ys=l
 | [],l,h,w,F=>by
  simp [PTs]at h;subst h;exact⟨⟨rfl,by simp⟩,λys hy=>by have:=hy.1;simpa using this.symm⟩
 |t::r,l,h,w,F=>by
  simp only [PTs,zbE,Option.map_eq_some_iff]at h;obtain⟨x,hx,l',hl,rfl⟩:=h;obtain⟨h1,h2⟩:=DO hx w F;obtain⟨h3,h4⟩:=Aa hl w F;refine⟨⟨by simp [h3.1],λi t' hi=> ?_⟩,λys hy=> ?_⟩
  .cases i with
   |zero=>simp at hi;subst hi;exact⟨x,rfl,h1⟩
   |succ i=>obtain⟨y,e1,e2⟩:=h3.2 i t' (by simpa using hi);exact⟨y,by simpa using e1,e2⟩
  .obtain⟨hl,hy⟩:=hy
   cases ys with
   |nil=>simp at hl
   |cons y ys=>
    obtain⟨y',e1,e2⟩:=hy 0 t rfl;simp at e1;subst e1
    rw [h2 _ e2,h4 ys ⟨by simpa using hl,λi t' hi=>by
     obtain⟨z,f1,f2⟩:=hy (i+1) t' (by simpa using hi)
     exact⟨z,by simpa using f1,f2⟩⟩]
theorem DP{t:TD}{x:Value}(h:PD t=some x)(w:World)(F:Nat->Prop):RepTD w F t x/\∀y,RepTD w F t y->y=x:=by
 cases t with
 |one t=>
  obtain⟨h1,h2⟩:=DO h w F;exact⟨.one _ _ h1,λy hy=>by cases hy with|one _ _ hy=>exact h2 _ hy⟩
 |agg ts=>
  simp only [PD,Option.map_eq_some_iff]at h;obtain⟨l,hl,rfl⟩:=h;obtain⟨h1,h2⟩:=Aa hl w F;exact⟨.agg _ _ h1,λy hy=>by cases hy with|agg _ ys hy=>rw [h2 _ hy]⟩
def PDs:List TD->Option (List Value)
 | []=>some []
 |t::r=>(PD t).bind λx=>(PDs r).map (x::·)
theorem oV:∀{ts:List TD} {l:List Value},PDs ts=some l->∀(w:World) (F:Nat->Prop),gq w F ts l/\∀ys,gq w F ts ys->ys=l
 | [],l,h,w,F=>by
  simp [PDs]at h;subst h;exact⟨⟨rfl,by simp⟩,λys hy=>by have:=hy.1;simpa using this.symm⟩
 |t::r,l,h,w,F=>by
  simp only [PDs,zbE,Option.map_eq_some_iff]at h;obtain⟨x,hx,l',hl,rfl⟩:=h;obtain⟨h1,h2⟩:=DP hx w F;obtain⟨h3,h4⟩:=oV hl w F;refine⟨⟨by simp [h3.1],λi t' hi=> ?_⟩,λys hy=> ?_⟩
  .cases i with
   |zero=>simp at hi;subst hi;exact⟨x,rfl,h1⟩
   |succ i=>obtain⟨y,e1,e2⟩:=h3.2 i t' (by simpa using hi);exact⟨y,by simpa using e1,e2⟩
  .obtain⟨hl,hy⟩:=hy
   cases ys with
   |nil=>simp at hl
   |cons y ys=>
    obtain⟨y',e1,e2⟩:=hy 0 t rfl;simp at e1;subst e1
    rw [h2 _ e2,h4 ys ⟨by simpa using hl,λi t' hi=>by
     obtain⟨z,f1,f2⟩:=hy (i+1) t' (by simpa using hi)
     exact⟨z,by simpa using f1,f2⟩⟩]
def PR:List TD->Option Value
 | [r]=>PD r
 |rs=>(PDs rs).map λl=> .tuple l.toArray
theorem DQ{rs:List TD}{x:Value}(h:PR rs=some x)(w:World)(F:Nat->Prop){y:Value}(hy:mT w F rs y):y=x:=by
 match rs,h,hy with
 | [],h,⟨ys,e,hy⟩=>
  simp [PR,PDs]at h;subst h;rw [e,(oV (ts:= []) (l:= []) rfl w F).2 _ hy]
 | [r],h,hy=>exact(DP h w F).2 _ hy
 |r::r'::rs,h,⟨ys,e,hy⟩=>
  simp only [PR,Option.map_eq_some_iff]at h;obtain⟨l,hl,rfl⟩:=h;rw [e,(oV hl w F).2 _ hy]
theorem nS{P:Program}{k:FuncId}{vs:List TD}{kind:Kind}{rs:List TD}(h:cN P k vs kind rs){ys:List Value}{y:Value}(h1:PDs vs=some ys)(h2:PR rs=some y)(w:World)(hL:LD w.heap.size w):Calls P k ys.toArray w λe w'=>e= .returned y/\Below w.heap.size w w':=by
 refine(h w (λ_=>False) ys hL (λ_ h=>h.elim) (oV h1 w _).1).mono λe w' ⟨y',e1,e2,_,e3⟩=>⟨?_,e3⟩;rw [e1,DQ h2 w' _ e2]
end Sm
end
noncomputable section
open Go.RowKit Go.Lib Go.Sort
namespace Hp
theorem lL(w:World)(base:Nat)(e:TypeId)(s:Nat):w.ownsRow base e s (.slice none 0 0) 0 []:=⟨by simp,.inl ⟨rfl,rfl⟩⟩
theorem QH.nil(w:World)(base Q:Nat)(F:Nat->Prop)(hQ:¬F Q)(hC:CellsAt w Q 93 #[.slice none 0 0]):QH F w base Q []:=⟨hQ,none,0,hC,lL w base _ _,λg hg=>by cases hg⟩
theorem Good.app{w:World}{base:Nat}{hs:List Hd}{x:Hd}(h:Good w base hs)(hx:x.l≠[])(hr:RdS w base x.a x.l):Good w base (hs++ [x]):=λy hy=>by
 rcases List.mem_append.1 hy with hy|hy
 .exact h y hy
 .rw [List.mem_singleton.1 hy];exact⟨hx,hr⟩
theorem DR:Heap Hd.key ([]:List Hd).length (at_ ([]:List Hd)):=λk _ hk=>by simp at hk
theorem Kr(H:List Hd):tot (ne H)=tot H:=by
 induction H with
 |nil=>rfl
 |cons x H ih=>
  unfold ne tot at*;rw [List.filter_cons]
  cases hx:x.l with
  |nil=>simp [hx];exact ih
  |cons s t=>simp [hx];exact ih
theorem FB.ok{base:Nat}{w:World}(h:base<=w.heap.size):OkF (λk=>k<base) base w:=⟨λ_ h=>h,λk hk=>by omega⟩
theorem wo{F:Nat->Prop}{base Q:Nat}{hs:List Hd}{k:Int}{ad:Option Addr}{c m:Nat}{l:List Sm3}{w w0:World}(h:QH F w0 base Q hs)(hg:Good w0 base (hs++ [⟨k,ad,c,l⟩]))(hz:OkF F base w0)(hb:Below w0.heap.size w0 w)(hl:hs.length<100000)(hH:Heap Hd.key hs.length (at_ hs))(hm:l.length=m):
  Calls Try.prog 33 #[.iface 89 (.pointer (some ⟨Q,0,none⟩)),.iface 97 (.agg #[.int .i64 k,.slice ad m c])] w λe w'=>e= .returned (.tuple #[])/\∃ks,ks.Perm (hs++ [⟨k,ad,c,l⟩])/\Heap Hd.key ks.length (at_ ks)/\QH F w' base Q ks/\Kp F w0 w':=by
 subst hm;refine(qO F base Q hs ⟨k,ad,c,l⟩ w (h.below hb) (hg.below hz.le (hb.mono hz.le)) (hz.mono hb.size) hl hH).mono ?_;rintro e w' ⟨h1,ks,h2,h3,h4,h5⟩;exact⟨h1,ks,h2,h3,h4,(Kp.of_below hb).trans h5⟩
def Nr(ok:Bool)(A:Int×Int->Int×Int->Int×Int)(R:List Sm3->Bool)(H:List Hd)(w:World)(e:Ending)(w':World):Prop:=∃(v:Value) (code:Int) (res:List Sm3),e= .returned (.tuple #[v,.int .i64 code])/\w'.ownsRow w.heap.size 69 3 v res.length (cellsS res)/\(res= []->v= .slice none 0 0)/\Below w.heap.size w w'/\((ok=false/\code=8/\res= [])∨(ok=true/\(∃h∈H,R h.l=false)/\code=6/\res= [])∨(ok=true/\(∀h∈H,R h.l=true)/\code=0/\∃seq,Ext (ne H) seq/\res=outOf A seq))
set_option maxRecDepth 100000 in
set_option maxHeartbeats 2000000 in
theorem merge_walk(r:Int)(ok:Bool)(A:Int×Int->Int×Int->Int×Int)(a:Option Addr)(n c:Nat)(H:List Hd)(w:World)(hn:n=H.length)(hl:n<=90000)(hT:tot H<=90000)
  (hRow:∀i,i<n->∃b,a=some b/\b.block<w.heap.size/\w.cell? (b.add i)=some (.slice (at_ H i).a (at_ H i).l.length (at_ H i).c))
  (hk:∀i,i<n->(at_ H i).k=(i:Int)) (hRd:∀h∈H,RdS w w.heap.size h.a h.l) (hc:∀h∈H,h.l.length<=h.c)
  (hIs:∀W,Below w.heap.size w W->Calls Try.prog 22 #[.int .i64 r] W λe w'=>e= .returned (.bool ok)/\Below W.heap.size W w')
  (R:List Sm3->Bool) (hR:∀i,i<n->∀W,Below w.heap.size w W->Calls Try.prog 32 #[.slice (at_ H i).a (at_ H i).l.length (at_ H i).c] W λe w'=>e= .returned (.bool (R (at_ H i).l))/\Below W.heap.size W w')
  (hAdd:ok=true->∀x y W,Below w.heap.size w W->Calls Try.prog 27 #[.int .i64 r,PV x,PV y] W λe w'=>e= .returned (PV (A x y))/\Below W.heap.size W w'):
  Calls Try.prog 11 #[.int .i64 r,.slice a n c] w λe w'=>Nr ok A R H w e w':=by
 have HROW:=Lib.hid hRow;have HK:=Lib.hid hk;have HRD:=Lib.hid hRd;have HC:=Lib.hid hc;have HIS:=Lib.hid hIs;have HR:=Lib.hid hR;have HADD:=Lib.hid hAdd;have HN:=Lib.hid hn;have HT:=Lib.hid hT;have hnI:((n:Nat):Int)<=90000:=by omega
 clear hRow hk hRd hc hIs hR hAdd hn hT;have hGood:∀W,Below w.heap.size w W->∀ks:List Hd,(∀y∈ks,y∈H/\y.l≠[])->Good W w.heap.size ks:=λW hW ks hks y hy=>⟨(hks y hy).2,(HRD.out y (hks y hy).1).below (Nat.le_refl _) hW⟩;have HGOOD:=Lib.hid hGood;clear hGood
 go_enter Try.func11,Try.ntmps11
 go_wp2_with fail
 refine(HIS.out w (Below.refl _ _)).mono ?_;rintro e w1 ⟨rfl,hb1⟩
 cases ok with
 |false=>
  go_wp2
  go_ret2
  exact⟨_,8,[],rfl,lL _ _ _ _,λ_=>rfl,hb1,.inl ⟨rfl,rfl,rfl⟩⟩
 |true=>
  have hA:=HADD.out rfl;have HA:=Lib.hid hA;clear hA HADD HIS;have hQ0:CellsAt (w1.alloc (.cells #[.slice none 0 0] 93)) w1.heap.size 93 #[.slice none 0 0]:=World.alloc_heap_new w1 _;have hb2:Below w.heap.size w (w1.alloc (.cells #[.slice none 0 0] 93)):=bla hb1 _;have hQb:=hb1.size
  go_wp2
  generalize w1.alloc (.cells #[.slice none 0 0] 93)=W0 at hQ0 hb2 ⊢;generalize w1.heap.size=Q at hQ0 hQb ⊢;have hq0:QH (λk=>k<w.heap.size) W0 w.heap.size Q []:=QH.nil _ _ _ _ (by show¬Q<w.heap.size;omega) hQ0
  go_loopw [18] (λy wr=>∃(i:Nat) (ks:List Hd),y= .int .i64 (i:Int)/\i<=n/\QH (λk=>k<w.heap.size) wr w.heap.size Q ks/\Heap Hd.key ks.length (at_ ks)/\ks.Perm (ne (H.take i))/\(∀j,j<i->R (at_ H j).l=true)/\Below w.heap.size w wr) (λy _=>n - (intOf y).toNat)
  case atStart=>exact⟨0,[],rfl,Nat.zero_le _,hq0,DR,List.Perm.refl _,λj hj=>by omega,hb2⟩
  case round=>
   clear hQ0 hb2 hq0;obtain⟨i,ks,rfl,hi,hq,hh,hp,hall,hb⟩:=hrel
   have hks:∀y∈ks,y∈H/\y.l≠[]:=λy hy=>by
    have h1:=hp.mem_iff.1 hy;unfold ne at h1;rw [List.mem_filter]at h1;exact⟨List.mem_of_mem_take h1.1,by simpa using h1.2⟩
   have hkl:ks.length<=i:=by
    have h1:=hp.length_eq;have h2:(ne (H.take i)).length<=(H.take i).length:=List.length_filter_le _ _;rw [List.length_take]at h2;omega
   by_cases hin:i=n
   .subst hin
    have hallH:∀h∈H,R h.l=true:=λh hh=>by
     obtain⟨j,hj,rfl⟩:=List.mem_iff_getElem.1 hh
     have:=hall j (by rw [HN.out];exact hj)
     rwa [at_lt hj]at this
    have HALL:=Lib.hid hallH;clear hall hallH;rw [show H.take i=H from by rw [HN.out];exact List.take_length]at hp
    have hTk:tot ks<=90000:=by
     rw [qQ hp];refine Nat.le_trans ?_ HT.out;rw [Kr];exact Nat.le_refl _
    have hG0:=HGOOD.out wr hb ks hks;have hc0:∀h∈ks,h.l.length<=h.c:=λh hm=>HC.out h (hks h hm).1
    have hq0:QH (FV w.heap.size (.slice none 0 0)) wr w.heap.size Q ks:=hq.wide (λk hk=>by
     rcases hk with hk|hk
     .exact hk
     .cases hk)
    have hE0:∀seq,Ext ks seq->Ext (ne H) ([]++seq):=λseq h=>h.perm hp;clear hq hp hks
    go_wp2
    go_loopg [9] (tot ks) (λk v wr=>∃(hs:List Hd) (d:List (Int×Sm3)),k=tot hs/\tot hs+(outOf A d).length<=90000/\hs.length<=90000/\wr.ownsRow w.heap.size 69 3 v (outOf A d).length (cellsS (outOf A d))/\(outOf A d= []->v= .slice none 0 0)/\QH (FV w.heap.size v) wr w.heap.size Q hs/\Good wr w.heap.size hs/\(∀h∈hs,h.l.length<=h.c)/\Heap Hd.key hs.length (at_ hs)/\(∀seq,Ext hs seq->Ext (ne H) (d++seq))/\Below w.heap.size w wr)
    case atStart=>exact⟨ks,[],rfl,by simpa [outOf]using hTk,by omega,lL _ _ _ _,λ_=>rfl,hq0,hG0,hc0,hh,hE0,hb⟩
    case round=>
     clear hb hh hTk hG0 hc0 hq0 hE0;obtain⟨hs,d,hgk,hTd,hhl,hown,hnil,hq,hG,hcp,hh,hE,hb⟩:=hrel;obtain⟨ao,co,rfl,hao⟩:=nu hown;obtain⟨o,ho⟩:∃o,o=outOf A d:=⟨_,rfl⟩;rw [<-ho]at hTd hown hnil hq ⊢;have HO:=Lib.hid ho;have HNIL:=Lib.hid hnil;have HGK:=Lib.hid hgk;have hOk:OkF (FV w.heap.size (.slice ao o.length co)) w.heap.size wr:=FV.ok hown hb.size;obtain⟨aq,cq,hcq⟩:=hq.cell;have kQ:=Has.of hq.lt;clear ho hnil hgk hao;by_cases h0:hs.length=0
     .have hs0:hs= []:=List.eq_nil_of_length_eq_zero h0;subst hs0
      go_wp2_with fail
      refine(jt aq 0 cq wr).mono ?_;rintro e _ ⟨rfl,rfl⟩
      go_wp2
      go_ret2
      exact⟨_,0,o,rfl,hown,HNIL.out,hb,.inr (.inr ⟨rfl,HALL.out,rfl,d,by simpa using hE [] .nil,HO.out⟩)⟩
     .have h0':0<hs.length:=by omega
      have h0I:(0:Int)<((hs.length:Nat):Int):=by omega
      go_wp2_with fail
      refine(jt aq hs.length cq wr).mono ?_;rintro e _ ⟨rfl,rfl⟩
      go_wp2_with fail
      refine(BS (FV w.heap.size (.slice ao o.length co)) w.heap.size Q hs _ hq hG hOk h0' (by omega) hh).mono ?_;rintro e w2 ⟨x,ms,rfl,hpm,hleast,hh2,hq2,hk2⟩;have hxm:x∈hs:=hpm.mem_iff.1 (by simp);have hbw2:Below w.heap.size w w2:=hb.trans (hk2.bel hOk);have hown2:=Fu hown (λk e=> .inr e) hk2;have hG2:=hG.kp hOk hk2;have hx2:=(hG2 x hxm).2;have hxc:=hcp x hxm;have hmc:∀h∈ms,h.l.length<=h.c:=λh hm=>hcp h (hpm.mem_iff.1 (by simp [hm]));have hGm:Good w2 w.heap.size ms:=λh hm=>hG2 h (hpm.mem_iff.1 (by simp [hm]));have htot:=qQ hpm;rw [xE]at htot;have hxne:=(hG2 x hxm).1;have hml:ms.length+1=hs.length:=by have:=hpm.length_eq;rw [dm]at this;exact this
      obtain⟨xk,xa,xc,xl⟩:=x
      cases xl with
      |nil=>exact absurd rfl hxne
      |cons s t=>
      have hTA:∀W:World,(Instr.typeAssert (.iface 97 (.agg #[.int .i64 xk,.slice xa (t.length+1) xc])) 20 97 false).run Try.prog W= .ok (.agg #[.int .i64 xk,.slice xa (t.length+1) xc]) W:=λ_=>by kernel_rfl
      clear hcq kQ;obtain⟨b,rfl,hbl,x0,x1,x2⟩:=hx2 0 (by simp);simp only [List.getElem_cons_zero,Nat.zero_mul,Nat.zero_add]at x0 x1 x2;have x0:w2.cell? b=some (.int .i64 s.1):=by simpa [Addr.add]using x0
      have x1:w2.cell? ⟨b.block,b.off+1,none⟩=some (.int .i64 s.2.1):=by simpa [Addr.add]using x1
      have x2:w2.cell? ⟨b.block,b.off+2,none⟩=some (.int .u64 s.2.2):=by simpa [Addr.add]using x2
      have kb:=Has.of (show b.block<w2.heap.size from Nat.lt_of_lt_of_le hbl hbw2.size)
      go_wp2_with fail
      have hHB:CellsAt (w2.alloc (.cells #[.int .i64 xk,.slice (some b) (t.length+1) xc] 97)) w2.heap.size 97 #[.int .i64 xk,.slice (some b) (t.length+1) xc]:=World.alloc_heap_new w2 _;have hB3:Below w2.heap.size w2 (w2.alloc (.cells #[.int .i64 xk,.slice (some b) (t.length+1) xc] 97)):=bla (Below.refl _ _) _;have hbw3:=hbw2.trans (hB3.mono hbw2.size);have hq3:=hq2.below hB3;have hown3:=eV hown2 hB3;have hGm3:=hGm.below hbw2.size (hB3.mono hbw2.size);have hRt3:=hx2.tail.below hbw2.size (hB3.mono hbw2.size);have hHo:∀k,(Value.slice ao o.length co).ownBlock=some k->k≠w2.heap.size:=λk e=>by have:=(hown2.lt k e).2;omega
      generalize w2.alloc (.cells #[.int .i64 xk,.slice (some b) (t.length+1) xc] 97)=w3 at hHB hB3 hbw3 hq3 hown3 hGm3 hRt3 ⊢;generalize w2.heap.size=HB at hHB hHo ⊢;have hz3:=hbw3.size;refine(BU w.heap.size r A o s ao o.length co w3 rfl hown3 hz3 (by omega) (λx y W hW=>HA.out x y W (hbw3.trans (hW.mono hz3)))).mono ?_;rintro e w4 ⟨v',rfl,hown4,hg4,hv4⟩;have hHB4:=hHB.grown hg4 (λe=>hHo HB e.symm rfl);have hq4:=hq3.put hg4 hv4;have hb34:Below w.heap.size w3 w4:=Pi (Below.refl _ _) hg4 (λk e=>(hown3.lt k e).1) hz3;have hbw4:=hbw3.trans hb34;have hGm4:=hGm3.below hz3 hb34;have hRt4:=hRt3.below hz3 hb34;have e0:w4.cell? ⟨HB,0,none⟩=some (.int .i64 xk):=hHB4.cell 0;have e1:w4.cell? ⟨HB,1,none⟩=some (.slice (some b) (t.length+1) xc):=hHB4.cell 1;have kH:=Has.of hHB4.lt;have hpl:=putL_len A o s;have hos:putL A o s=outOf A (d++ [(xk,s)]):=by rw [outOf_snoc,<-HO.out]
      obtain⟨o',ho'⟩:∃o',o'=putL A o s:=⟨_,rfl⟩;rw [<-ho']at hown4 hpl;have HO':=Lib.hid (ho'.trans hos);obtain⟨a',c',rfl,ha'⟩:=nu hown4;have hll:=hpm.length_eq;clear hown3 hq3 hHB hg4 hv4 hb34 hGm3 hRt3 x0 x1 x2 kb hq2 hown2 hHo ha' hos ho' hown hq hx2 hG2 hk2 hHB4;have htot':tot ms+(t.length+1)=tot hs:=htot;have hxc':t.length+1<=xc:=hxc
      cases t with
      |nil=>
       go_wp2
       go_roundg (tot ms)
       case measure=>
        have:=HGK.out
        simp only [List.length_nil]at htot';omega
       case rel=>
        refine⟨ms,d++ [(xk,s)],rfl,?_,by omega,?_,?_,hq4,hGm4,hmc,hh2,?_,hbw4⟩
        .rw [<-HO'.out];simp only [List.length_nil]at htot';omega
        .rw [<-HO'.out];exact hown4
        .intro e;rw [<-HO'.out]at e;rw [e]at hpl;simp at hpl
        .intro seq h
         have:=hE _ (.last hpm rfl hleast h)
         simpa using this
      |cons s2 t2=>
       simp only [List.length_cons]at htot' hxc';have hs1:(1:Int)<=((t2.length:Nat):Int)+1+1:=by omega
       have hs2:t2.length+1+1<=xc:=hxc';have hs3:((t2.length:Nat):Int)+1+1<=(xc:Int):=by omega
       go_wp2
       have hz4:OkF (FV w.heap.size (.slice a' o'.length c')) w.heap.size w4:=FV.ok hown4 hbw4.size;have hba:b.add 3=⟨b.block,b.off+3,none⟩:=by simp [Addr.add]
       rw [hba]at hRt4;have hGa:Good w4 w.heap.size (ms++ [⟨xk,some ⟨b.block,b.off+3,none⟩,xc - 1,s2::t2⟩]):=hGm4.app (by simp) hRt4;have bd:Below w4.heap.size w4 w4.drew:=⟨rfl,rfl,rfl,Nat.le_refl _,λ_ _=>rfl⟩;have bdn:∀k,Below w4.heap.size w4 (w4.drewN k):=λk=>bld (Below.refl _ _);have hmsl:ms.length<100000:=by omega
       have hml2:(s2::t2).length=t2.length+1:=rfl;have hP:=wo (w:=w4.drew) (c:=xc - 1) (m:=t2.length+1) hq4 hGa hz4 bd hmsl hh2 hml2
       go_still_tail 9,(by kernel_rfl)
       change wpList _ _ _ _ _ w4.drew;generalize w4.drew=w4d at hP;have HP:=Lib.hid hP;clear hP
       go_wp2_with fail
       refine HP.out.mono ?_;rintro e w5 ⟨rfl,ks5,hp5,hh5,hq5,hk45⟩
       all_goals (
        have hown5:=Fu hown4 (λk e=> .inr e) hk45;have hbw5:Below w.heap.size w w5:=hbw4.trans (hk45.bel hz4);have hG5:Good w5 w.heap.size ks5:=ju (hGa.kp hz4 hk45) hp5
        have hc5:∀h∈ks5,h.l.length<=h.c:=λh hm=>by
         rcases List.mem_append.1 (hp5.mem_iff.1 hm)with h1|h1
         .exact hmc h h1
         .rw [List.mem_singleton.1 h1];simp only [List.length_cons];omega
        have ht5:=qQ hp5;rw [xE]at ht5;simp only [List.length_cons]at ht5;have hl5:=hp5.length_eq;rw [dm]at hl5
        go_wp2
        go_roundg (tot ks5)
        case measure=>
         have:=HGK.out
         omega
        case rel=>
         refine⟨ks5,d++ [(xk,s)],rfl,?_,by omega,?_,?_,hq5,hG5,hc5,hh5,?_,hbw5⟩
         .rw [<-HO'.out];omega
         .rw [<-HO'.out];exact hown5
         .intro e;rw [<-HO'.out]at e;rw [e]at hpl;simp at hpl
         .intro seq h
          have:=hE _ (.more (x':=⟨xk,some ⟨b.block,b.off+3,none⟩,xc - 1,s2::t2⟩) hpm rfl (by simp) rfl rfl hp5 hleast h)
          simpa using this)
   .have hlt:i<n:=by omega
    have hiI:((i:Nat):Int)<n:=by omega
    obtain⟨b,rfl,hbl,cc⟩:=HROW.out i hlt;have hXm:at_ H i∈H:=by rw [at_lt (by rw [<-HN.out];exact hlt)];exact List.getElem_mem _
    have hXk:=HK.out i hlt;have hXR:=HR.out i hlt wr hb;have hTk:=HG (show i<H.length by rw [<-HN.out];exact hlt);obtain⟨X,hX⟩:∃X,X=at_ H i:=⟨_,rfl⟩;rw [<-hX]at cc hXm hXk hXR hTk
    have hall':R X.l=true->∀j,j<i+1->R (at_ H j).l=true:=λh j hj=>by
     by_cases e:j=i
     .rw [e,<-hX];exact h
     .exact hall j (by omega)
    have HXR:=Lib.hid hXR;have HTK:=Lib.hid hTk;have HALL:=Lib.hid hall';have HXK:=Lib.hid hXk;clear hX hXR hTk hall hall' hXk;obtain⟨xk,xa,xc,xl⟩:=X;have cc1:=(hb.cell (p:=b.add i) (by rw [mv];exact hbl)).trans cc;have kb:=Has.of (show b.block<wr.heap.size from Nat.lt_of_lt_of_le hbl hb.size)
    go_wp2_with fail
    refine(HXR.out).mono ?_;rintro e w2 ⟨rfl,hb2⟩;have hbw2:Below w.heap.size w w2:=hb.trans (hb2.mono hb.size);have hq2:=hq.below hb2;have hz2:OkF (λk=>k<w.heap.size) w.heap.size w2:=FB.ok hbw2.size
    cases hr:R xl with
    |false=>
     go_wp2
     go_ret2
     exact⟨_,6,[],rfl,lL _ _ _ _,λ_=>rfl,hbw2,.inr (.inl ⟨rfl,⟨_,hXm,hr⟩,rfl,rfl⟩)⟩
    |true=>
     have hall2:=HALL.out hr;have HALL2:=Lib.hid hall2;have HRT:=Lib.hid hr;clear hr hall2
     cases xl with
     |nil=>
      go_wp2
      refine⟨⟨i+1,ks,by simp,by omega,hq2,hh,?_,HALL2.out,hbw2⟩,by simp [intOf];omega⟩;rw [HTK.out,xF rfl];exact hp
     |cons s t=>
      have hxl:(1:Int)<=(((s::t).length:Nat):Int):=by simp;omega
      have hgt:Good w2 w.heap.size (ks++ [⟨(i:Int),xa,xc,s::t⟩]):=(HGOOD.out w2 hbw2 ks hks).app (by simp) ((HRD.out _ hXm).below (Nat.le_refl _) hbw2);generalize hL:s::t=L at hxl hgt cc cc1 HXR HTK HALL HALL2 HRT hXm HXK;have hL1:L≠[]:=by rw [<-hL];simp
      clear hL
      go_wp2_with fail
      refine(qO (λk=>k<w.heap.size) w.heap.size Q ks ⟨(i:Int),xa,xc,L⟩ w2 hq2 hgt hz2 (by omega) hh).mono ?_;rintro e w3 ⟨rfl,ks3,hp3,hh3,hq3,hk3⟩
      go_wp2
      refine⟨⟨i+1,ks3,by simp,by omega,hq3,hh3,?_,HALL2.out,hbw2.trans (hk3.bel hz2)⟩,by simp [intOf];omega⟩;rw [HTK.out,HF hL1];have hxk:=HXK.out;rw [show xk=(i:Int)from hxk];exact hp3.trans (hp.append_right _)
end Hp
end
noncomputable section
namespace Ev
namespace K
open Go Go.RowKit
set_option maxRecDepth 100000
set_option maxHeartbeats 1000000
def DS:Ax:=(λ_=>none)
theorem Bl:qu Try.prog DS:=(nl _)
def DT:Ax:=(dw (dw (dw DS 25 gS) 56 gS) 75 gS)
theorem Bm:qu Try.prog DT:=(be (be (be Bl λvs kind rs h=>by simp [gS]at h) λvs kind rs h=>by simp [gS]at h) λvs kind rs h=>by simp [gS]at h)
def E1B:Env:=mg Try.prog DT
theorem fN:E1B.Ok:=gG kv kw Bm
theorem iR:Co E1B TT:=⟨tz1,⟨tz2,⟨tz3,⟨tz4,⟨tz5,⟨tz6,⟨tz7,⟨tz8,⟨IN,⟨IP,⟨IQ,⟨IR,⟨IS,⟨IT,⟨IU,⟨IV,⟨IW,⟨IX,⟨IY,⟨IZ,⟨Ja,⟨Jb,⟨Jc,⟨Jd,⟨Je,⟨Gp,⟨Jf,⟨Jg,⟨Jh,⟨Ji,⟨Gq,⟨Jj,⟨Jk,⟨Jl,⟨Jm,⟨Jn,⟨Jo,⟨Jp,⟨Jq,⟨Jr,⟨Js,⟨Jt,⟨Ju,⟨Jv,⟨Jw,⟨Jx,⟨Jy,⟨Jz,⟨JA,⟨JB,⟨JC,⟨JD,⟨JE,⟨JF,⟨JG,⟨JH,⟨JI,⟨JJ,⟨JK,⟨Gr,⟨JL,⟨JM,⟨JN,⟨JO,⟨JP,⟨JQ,⟨JR,⟨JS,⟨JT,⟨JU,⟨JV,⟨JW,⟨JY,⟨JZ,⟨Ka,⟨Kb,⟨Kc,⟨Kd,⟨Ke,⟨Kf,⟨Kg,⟨Kh,⟨Ki,⟨Kj,⟨Kk,⟨Kl,⟨Km,⟨Kn,⟨Ko,⟨Kq,⟨Cq,⟨Cr,⟨Cs,⟨Ct,⟨Cu,⟨Cv,⟨Cw,⟨Cy,⟨Cz,⟨CA,⟨CB,⟨CC,⟨CD,⟨CE,⟨CF,⟨CG,⟨CH,⟨CI,⟨CJ,⟨CK,⟨CL,⟨CM,⟨CN,⟨CO,⟨CP,⟨CQ,⟨CR,⟨CS,⟨CT,⟨CU,⟨CV,⟨CW,⟨CX,⟨CY,⟨CZ,⟨Da,⟨Db,⟨Dc,⟨De,⟨Df,⟨Dg,⟨Dh,⟨Di,⟨Dj,⟨Dk,⟨Dl,⟨Dm,⟨Dn,⟨Do,⟨Dp,⟨Dq,⟨Dr,⟨Ds,⟨Dt,⟨Du,⟨Dv,⟨Dw,⟨Dx,⟨Dy,⟨Dz,⟨DA,⟨DB,⟨DC,⟨DD,⟨DE,⟨DF,⟨DG,⟨DH,⟨DI,⟨DK,⟨DL,⟨DM,trivial⟩⟩⟩⟩⟩⟩⟩⟩⟩⟩⟩⟩⟩⟩⟩⟩⟩⟩⟩⟩⟩⟩⟩⟩⟩⟩⟩⟩⟩⟩⟩⟩⟩⟩⟩⟩⟩⟩⟩⟩⟩⟩⟩⟩⟩⟩⟩⟩⟩⟩⟩⟩⟩⟩⟩⟩⟩⟩⟩⟩⟩⟩⟩⟩⟩⟩⟩⟩⟩⟩⟩⟩⟩⟩⟩⟩⟩⟩⟩⟩⟩⟩⟩⟩⟩⟩⟩⟩⟩⟩⟩⟩⟩⟩⟩⟩⟩⟩⟩⟩⟩⟩⟩⟩⟩⟩⟩⟩⟩⟩⟩⟩⟩⟩⟩⟩⟩⟩⟩⟩⟩⟩⟩⟩⟩⟩⟩⟩⟩⟩⟩⟩⟩⟩⟩⟩⟩⟩⟩⟩⟩⟩⟩⟩⟩⟩⟩⟩⟩⟩⟩⟩⟩⟩⟩⟩⟩⟩⟩⟩⟩⟩
theorem gf:Cp E1B.P EQS:=⟨Ij zY zZ,trivial⟩
theorem Ns:E1B.fn 22=some Nf:=iv Try.func22 rfl
theorem Nt:E1B.fn 27=some Ng:=iv Try.func27 rfl
theorem Nu:E1B.fn 32=some Nh:=iv Try.func32 rfl
theorem Nv:E1B.fn 57=some Ni:=iv Try.func57 rfl
theorem Nw:E1B.fn 58=some Nj:=iv Try.func58 rfl
theorem Nx:E1B.fn 59=some Nk:=iv Try.func59 rfl
theorem Ny:E1B.fn 60=some Nl:=iv Try.func60 rfl
theorem Nz:E1B.fn 90=some Nn:=iv Try.func90 rfl
end K
end Ev
end
noncomputable section
namespace Ev
namespace K
open Go Go.RowKit
set_option maxRecDepth 100000
set_option maxHeartbeats 1000000
theorem uy:GOk sA E1B 0:=gok fN iR gf trivial trivial
theorem wq:cn E1B sB:=fu uy (by kernel_rfl) Nv (by kernel_rfl) rfl
theorem lM:GOk iM E1B 0:=gok fN iR gf trivial trivial
theorem mV:cn E1B iN:=fu lM (by kernel_rfl) Nz (by kernel_rfl) rfl
theorem mW:GOk jJ E1B 1:=gok fN iR gf ⟨⟨by decide,mV⟩,trivial⟩ trivial
theorem oL:cn E1B jK:=fu mW (by kernel_rfl) Nw (by kernel_rfl) rfl
theorem rQ:GOk pJ E1B 0:=gok fN iR gf trivial trivial
theorem uz:cn E1B pK:=fu rQ (by kernel_rfl) Nx (by kernel_rfl) rfl
theorem oM:GOk lF E1B 1:=gok fN iR gf ⟨⟨by decide,wq⟩,trivial⟩ trivial
theorem pV:cn E1B lG:=fu oM (by kernel_rfl) Ny (by kernel_rfl) rfl
theorem rR:GOk pL E1B 2:=gok fN iR gf ⟨⟨by decide,oL⟩,⟨⟨by decide,uz⟩,⟨⟨by decide,pV⟩,trivial⟩⟩⟩ trivial
theorem uA:cn E1B yd:=fu rR (by kernel_rfl) Nt (by kernel_rfl) rfl
theorem uB:GOk sD E1B 0:=gok fN iR gf trivial trivial
theorem wt:cn E1B Bf:=fu uB (by kernel_rfl) Ns (by kernel_rfl) rfl
theorem oO:GOk lI E1B 0:=gok fN iR gf trivial trivial
theorem pW:cn E1B uv:=fu oO (by kernel_rfl) Nu (by kernel_rfl) rfl
end K
end Ev
end
noncomputable section
open Go.RowKit Go.Sort
namespace Sm
namespace Mg
open Ev Ev.KM
abbrev S3:=Int×Int×Int
abbrev sty:K.Ty:= .C (.I .i64) (.C (.I .i64) (.I .u64))
abbrev ins:List K.TyD:= [(false,.I .i64),(false,.S (.S sty))]
abbrev outs:List K.TyD:= [(false,.S sty),(false,.I .i64)]
def idx:Nat->List (List S3)->List Hp.Evt
 |_,[]=> []
 |i,l::ls=>l.map (λs=>((i:Int),s))++idx (i+1) ls
def totL(ls:List (List S3)):Nat:=(ls.map (λl=>l.length)).sum
theorem Ks{ls:List (List S3)}{s:List S3}(h:s∈ls):s.length<=totL ls:=by
 induction ls with
 |nil=>cases h
 |cons a r ih=>
  unfold totL at*;simp only [List.map_cons,List.sum_cons];rcases List.mem_cons.1 h with rfl|h
  .omega
  .have:=ih h;omega
def okI(x:Sl S3):Bool:=decide (x.sz=3)||x.l.isEmpty
def okM(x:Sl (Sl S3)):Bool:=decide (x.l.length<=90000)&& decide (totL (x.l.map (λs=>s.l))<=90000)&&(decide (x.sz=1)||x.l.isEmpty)&& x.l.all okI
def outM(r:Int)(ls:List (List S3)):List S3:=Hp.outOf (bG r) (Hp.sortE (idx 0 ls))
def fn(a:Int×Sl (Sl S3)):Option (Sl S3×Int):=
 if okM a.2=true then some
  (if gU a.1=false then(⟨false,0,[]⟩,8)
   else if(a.2.l.map (λs=>s.l)).all risB=false then(⟨false,0,[]⟩,6)
   else if(outM a.1 (a.2.l.map (λs=>s.l))).isEmpty=true then(⟨false,0,[]⟩,0)
   else(⟨true,3,outM a.1 (a.2.l.map (λs=>s.l))⟩,0))else none
theorem Kt{w:World}{F:Nat->Prop}{x:Sl S3}{y:Value}(hx:x.sz=3∨x.l= [])(h:RepT w F (Sl.t sty.row x) y):∃a c,y= .slice a x.l.length c/\Hp.RdS w w.heap.size a x.l/\x.l.length<=c:=by
 obtain⟨nn,sz,l⟩:=x;unfold Sl.t at h
 cases h with
 |s _ _ _ a c ys hn hc h0 hl hm hr=>
  rw [List.length_map]at hc ⊢;refine⟨a,c,rfl,?_,hc⟩;intro i hi
  have hsz:sz=3:=by
   rcases hx with h|h
   .exact h
   .simp only at h;rw [h]at hi;simp at hi
  subst hsz;have hil:(l.map sty.row)[i]? =some (sty.row l[i]):=by simp [hi]
  have g:∀j v,(sty.row l[i])[j]? =some (.v v)->∃b,a=some b/\b.block<w.heap.size/\w.cell? (b.add (i*3+j))=some v:=by
   intro j v hj;obtain⟨b,h1,h2,_,h3⟩:=hm i _ j _ hil hj;refine⟨b,h1,h2,?_⟩
   have:=hr i _ j _ hil hj
   rw [h3];generalize ys i j=y at this
   cases this with|v x hx=>rfl
  obtain⟨b,e0,h1,c0⟩:=g 0 (.int .i64 l[i].1) rfl;obtain⟨b1,e1,_,c1⟩:=g 1 (.int .i64 l[i].2.1) rfl;obtain⟨b2,e2,_,c2⟩:=g 2 (.int .u64 l[i].2.2) rfl;rw [e0]at e1 e2;cases e1;cases e2;exact⟨b,e0,h1,by simpa using c0,c1,c2⟩
def wu(i:Nat)(v:Value)(l:List S3):Hp.Hd:=match v with
 | .slice a _ c=>⟨i,a,c,l⟩
 |_=>⟨i,none,0,l⟩
def hds(ys:Nat->Value):Nat->List (Sl S3)->List Hp.Hd
 |_,[]=> []
 |i,s::r=>wu i (ys i) s.l::hds ys (i+1) r
theorem uC(ys:Nat->Value):∀i l,(hds ys i l).length=l.length
 |_,[]=>rfl
 |i,s::r=>by simp [hds,uC ys (i+1) r]
theorem yj(i:Nat)(v:Value)(l:List S3):(wu i v l).k=(i:Int):=by cases v<;>rfl
theorem uD(i:Nat)(v:Value)(l:List S3):(wu i v l).l=l:=by cases v<;>rfl
theorem yk(ys:Nat->Value):∀(l:List (Sl S3)) (i j:Nat) (hj:j<l.length),Hp.at_ (hds ys i l) j=wu (i+j) (ys (i+j)) (l[j]).l
 |s::r,i,0,_=>rfl
 |s::r,i,j+1,hj=>by
  have:=yk ys r (i+1) j (by simpa using hj)
  rw [show i+1+j=i+(j+1)by omega]at this;exact this
theorem wv(ys:Nat->Value):∀(l:List (Sl S3)) (i:Nat),Hp.evts (hds ys i l)=idx i (l.map (λs=>s.l))
 | [],_=>rfl
 |s::r,i=>by
  show(wu i (ys i) s.l).l.map _++Hp.evts (hds ys (i+1) r)=_;rw [wv ys r (i+1),yj,uD];rfl
theorem Ab(ys:Nat->Value):∀(l:List (Sl S3)) (i:Nat),Hp.tot (hds ys i l)=totL (l.map (λs=>s.l))
 | [],_=>rfl
 |s::r,i=>by
  have:=Ab ys r (i+1)
  unfold Hp.tot totL at*;simp only [hds,List.map_cons,List.sum_cons,uD,this]
theorem Gt{ys:Nat->Value}{l:List (Sl S3)}{h:Hp.Hd}(hm:h∈hds ys 0 l):∃j,∃hj:j<l.length,h=wu j (ys j) (l[j]).l:=by
 obtain⟨j,hj,rfl⟩:=List.mem_iff_getElem.1 hm;have hj':j<l.length:=by rw [uC]at hj;exact hj
 refine⟨j,hj',?_⟩
 have:=yk ys l 0 j hj'
 rw [Hp.at_lt hj,Nat.zero_add]at this;exact this
theorem LD.below{w W:World}(hL:LD w.heap.size w)(hb:Below w.heap.size w W):LD W.heap.size W:=(hL.keep (λ_ hs=>hb.block 0 hs) hb.size).up hb.size
theorem RepT.below{w W:World}{F F':Nat->Prop}{t:T}{y:Value}(h:RepT w F t y)(hb:Below w.heap.size w W)(hF:∀b,F' b->F b):RepT W F' t y:=h.mono hb.size λb hlt _ hn=>⟨hb.block b hlt,λhf=>hn (hF b hf)⟩
set_option maxRecDepth 100000 in
theorem DU(r:Int)(W:World)(hL:LD W.heap.size W):Calls Try.prog 22 #[.int .i64 r] W λe w'=>e= .returned (.bool (gU r))/\Below W.heap.size W w':=
 nS (RunsP.pure K.fN (K.wt 0 r (gU r) (Bj r))) rfl rfl W hL
set_option maxRecDepth 100000 in
theorem Bn(r:Int)(x y:Int×Int)(W:World)(hL:LD W.heap.size W):Calls Try.prog 27 #[.int .i64 r,Hp.PV x,Hp.PV y] W λe w'=>e= .returned (Hp.PV (bG r x y))/\Below W.heap.size W w':=
 nS (RunsP.pure K.fN (K.uA 0 (r,x,y) (bG r x y) (yi r x y))) rfl rfl W hL
theorem ww{w:World}{F:Nat->Prop}{x:Sl S3}{y:Value}(hr:RepT w F (Sl.t sty.row x) y)(hL:LD w.heap.size w){b:Bool}(hb:eN x=some b)(W:World)(hW:Below w.heap.size w W):Calls Try.prog 32 #[y] W λe w'=>e= .returned (.bool b)/\Below W.heap.size W w':=by
 have h:=RunsP.pure K.fN (K.pW 0 x b hb);refine(h W (λ_=>False) [y] (LD.below hL hW) (λ_ h=>h.elim) ⟨rfl,λi t hi=> ?_⟩).mono λe w' ⟨y',e1,e2,_,e3⟩=>⟨?_,e3⟩
 .have h0:i=0:=by
   have h1:i<1:=(List.getElem?_eq_some_iff.1 hi).1;omega
  subst h0;cases hi;exact⟨y,rfl,.one _ _ (RepT.below hr hW λ_ h=>h.elim)⟩
 .rw [e1,DQ (x:= .bool b) rfl w' _ e2]
theorem uE(w:World)(F:Nat->Prop):RepT w F (Sl.t sty.row ⟨false,0,[]⟩) (.slice none 0 0):=RepT.s (w:=w) (F:=F) false 0 [] none 0 (λ_ _=> .nilFunc) rfl (Nat.le_refl _) (λ_=>rfl) (λi e h=>by simp at h) (λi e j t h=>by simp at h) (λi e j t h=>by simp at h)
theorem two{w:World}{F:Nat->Prop}{t:T}{y:Value}{e:Int}(h:RepT w F t y):mT w F [.one t,.one (iT .i64 e)] (.tuple #[y,.int .i64 e]):=by
 refine⟨[y,.int .i64 e],rfl,rfl,λi t' hi=> ?_⟩
 match i,hi with
 |0,hi=>cases hi;exact⟨y,rfl,.one _ _ h⟩
 |1,hi=>cases hi;exact⟨_,rfl,.one _ _ (.v _ rfl)⟩
 |i+2,hi=>simp at hi
theorem Gu{base:Nat}{w:World}{F:Nat->Prop}{v:Value}{l:List S3}(h:w.ownsRow base 69 3 v l.length (Hp.cellsS l))(hF:∀b,F b->b<base)(hne:l≠[]):RepT w F (Sl.t sty.row ⟨true,3,l⟩) v:=by
 rcases h.2 with⟨e,h0⟩|⟨g,cap,cur,e,hbg,hg,hnc,hcm,hcs,htake⟩
 .exact absurd (List.eq_nil_of_length_eq_zero h0) hne
 subst e;have hlt:=h.lt g rfl
 have key:=RepT.s (w:=w) (F:=F) true 3 (l.map sty.row) (some ⟨g,0,none⟩) cap (λi j=>match j with
  |0=> .int .i64 (Hp.at_ l i).1
  |1=> .int .i64 (Hp.at_ l i).2.1
  |_=> .int .u64 (Hp.at_ l i).2.2) rfl (by simpa using hnc) (by simp) (λi e hi=>by
   rw [List.getElem?_map,Option.map_eq_some_iff]at hi;obtain⟨x,_,rfl⟩:=hi
   rfl) ?_ ?_
 .rw [List.length_map]at key;exact key
 .intro i e j t hi hj;rw [List.getElem?_map,Option.map_eq_some_iff]at hi;obtain⟨x,hx,rfl⟩:=hi;have hil:i<l.length:=(List.getElem?_eq_some_iff.1 hx).1;refine⟨⟨g,0,none⟩,rfl,hlt.2,λhf=>by have h9:g<base:=hF _ hf;omega,?_⟩;have hj3:j<3:=(List.getElem?_eq_some_iff.1 hj).1;have hc:=h.cells (g:=g) rfl (i*3+j);rcases(show j=0∨j=1∨j=2 by omega)with rfl|rfl|rfl
  .exact hc _ ((Hp.cellsS_at l i 0 hil (by omega)).trans rfl)
  .exact hc _ ((Hp.cellsS_at l i 1 hil (by omega)).trans rfl)
  .exact hc _ ((Hp.cellsS_at l i 2 hil (by omega)).trans rfl)
 .intro i e j t hi hj;rw [List.getElem?_map,Option.map_eq_some_iff]at hi;obtain⟨x,hx,rfl⟩:=hi;have hil:i<l.length:=(List.getElem?_eq_some_iff.1 hx).1;have hx2:Hp.at_ l i=x:=by rw [Hp.at_lt hil];exact(List.getElem?_eq_some_iff.1 hx).2
  have hj3:j<3:=(List.getElem?_eq_some_iff.1 hj).1;rcases(show j=0∨j=1∨j=2 by omega)with rfl|rfl|rfl
  .cases hj;simp only [hx2];exact .v _ rfl
  .cases hj;simp only [hx2];exact .v _ rfl
  .cases hj;simp only [hx2];exact .v _ rfl
theorem pure_ok(a:K.cl ins)(o:K.cl outs)(h:fn a=some o):cN Try.prog 11 (K.dF ins a) .fresh (K.dF outs o):=by
 obtain⟨r,x⟩:=a;change Int at r;change Sl (Sl S3)at x;unfold fn at h;split at h
 rotate_left
 .cases h
 rename_i hx;simp only at hx;have h:=Option.some.inj h;simp only at h;simp only [okM,Bool.and_eq_true,Bool.or_eq_true,decide_eq_true_eq,List.isEmpty_iff,List.all_eq_true]at hx;obtain⟨⟨⟨hx1,hx2⟩,hx3⟩,hx4⟩:=hx;intro w F ys hL hF hr;obtain⟨hlen,hi⟩:=hr
 match ys,hlen with
 | [y0,y1],_=>
  obtain⟨y,e1,e2⟩:=hi 0 _ rfl;simp only [List.getElem?_cons_zero,zsI]at e1;subst e1
  have ey:y0= .int .i64 r:=by
   cases e2 with
   |one t y h=>cases h with|v x hx=>rfl
  subst ey;obtain⟨y,e1,e2⟩:=hi 1 _ rfl;simp only [List.getElem?_cons_succ,List.getElem?_cons_zero,zsI]at e1;subst e1
  have e3:RepT w F (Sl.t (K.Ty.S sty).row x) y1:=by cases e2 with|one t y h=>exact h
  clear e2 hi;obtain⟨nn,sz,l⟩:=x;unfold Sl.t at e3
  cases e3 with
  |s _ _ _ a c yv hn hc h0 hl hm hr=>
  rw [List.length_map]at hc ⊢;simp only at hx1 hx2 hx3 hx4 h
  have hcell:∀j,(hj:j<l.length)->∃b,a=some b/\b.block<w.heap.size/\w.cell? (b.add j)=some (yv j 0)/\RepT w F (Sl.t sty.row l[j]) (yv j 0):=λj hj=>by
   have hsz:sz=1:=by
    rcases hx3 with h|h
    .exact h
    .rw [h]at hj;simp at hj
   subst hsz;have hil:(l.map (K.Ty.S sty).row)[j]? =some ((K.Ty.S sty).row l[j]):=by simp [hj]
   obtain⟨b,h1,h2,_,h3⟩:=hm j _ 0 (Sl.t sty.row l[j]) hil rfl;refine⟨b,h1,h2,by simpa using h3,hr j _ 0 (Sl.t sty.row l[j]) hil rfl⟩
  have hin:∀j,(hj:j<l.length)->(l[j]).sz=3∨(l[j]).l= []:=λj hj=>by
   have:=hx4 _ (List.getElem_mem hj)
   simpa [okI]using this
  have hrd:∀j,(hj:j<l.length)->∃a c,yv j 0= .slice a (l[j]).l.length c/\Hp.RdS w w.heap.size a (l[j]).l/\(l[j]).l.length<=c:=λj hj=>by
   obtain⟨b,_,_,_,h4⟩:=hcell j hj;exact Kt (hin j hj) h4
  have hlen2:∀j,(hj:j<l.length)->(l[j]).l.length<=90000:=λj hj=>by
   refine Nat.le_trans ?_ hx2
   have:((l.map (λs=>s.l))[j]'(by simpa using hj))∈l.map (λs=>s.l):=List.getElem_mem _
   rw [List.getElem_map]at this;exact Ks this
  obtain⟨H,hH⟩:∃H,H=hds (λj=>yv j 0) 0 l:=⟨_,rfl⟩
  have hat:∀j,(hj:j<l.length)->Hp.at_ H j=wu j (yv j 0) (l[j]).l:=λj hj=>by
   have:=yk (λj=>yv j 0) l 0 j hj
   rw [Nat.zero_add]at this;rw [hH];exact this
  have hmem:∀h∈H,∃j,∃hj:j<l.length,h=wu j (yv j 0) (l[j]).l:=λh hm=>by
   rw [hH]at hm;exact Gt hm
  have hHl:H.length=l.length:=by rw [hH];exact uC _ _ _
  have hw:=Hp.merge_walk r (gU r) (bG r) a l.length c H w hHl.symm hx1 (by rw [hH,Ab];exact hx2)
   (λj hj=>by
    obtain⟨b,h1,h2,h3,_⟩:=hcell j hj;obtain⟨a2,c2,h4,_⟩:=hrd j hj;refine⟨b,h1,h2,?_⟩;rw [h3,hat j hj,h4]
    rfl)
   (λj hj=>by rw [hat j hj,yj])
   (λh hm=>by
    obtain⟨j,hj,rfl⟩:=hmem h hm;obtain⟨a2,c2,h4,h5,_⟩:=hrd j hj
    rw [h4];exact h5)
   (λh hm=>by
    obtain⟨j,hj,rfl⟩:=hmem h hm;obtain⟨a2,c2,h4,_,h6⟩:=hrd j hj
    rw [h4];exact h6)
   (λW hW=>DU r W (LD.below hL hW)) risB
   (λj hj W hW=>by
    obtain⟨b,_,_,_,h7⟩:=hcell j hj;obtain⟨a2,c2,h4,_,h6⟩:=hrd j hj;have h8:=ww h7 hL (ux (hin j hj).symm (by have:=hlen2 j hj;omega)) W hW;rw [hat j hj,h4];rw [h4]at h8
    exact h8)
   (λ_ p q W hW=>Bn r p q W (LD.below hL hW))
  refine hw.mono ?_;rintro e w' ⟨v,code,res,rfl,hown,hnil,hbl,hcase⟩;refine⟨_,rfl,?_,λhk=>(by cases hk),hbl⟩
  have hall:(l.map (λs=>s.l)).all risB=true↔∀h∈H,risB h.l=true:=by
   rw [List.all_eq_true];constructor
   .intro g h hm;obtain⟨j,hj,rfl⟩:=hmem h hm;rw [uD];exact g _ (List.mem_map_of_mem (List.getElem_mem hj))
   .intro g s hs;rw [List.mem_map]at hs;obtain⟨t,ht,rfl⟩:=hs;obtain⟨j,hj,rfl⟩:=List.mem_iff_getElem.1 ht
    have:=g (Hp.at_ H j) (by rw [Hp.at_lt (by omega)];exact List.getElem_mem _)
    rw [hat j hj,uD]at this;exact this
  rcases hcase with⟨h1,h2,h3⟩|⟨h1,⟨q,hq,hq2⟩,h2,h3⟩|⟨h1,h5,h2,seq,h3,h4⟩
  .rw [if_pos h1]at h;subst h;rw [hnil h3,h2];exact two (uE _ _)
  .have hf:(l.map (λs=>s.l)).all risB=false:=by
    rw [Bool.eq_false_iff];intro g;rw [hall.1 g q hq]at hq2;cases hq2
   rw [if_neg (by rw [h1];simp),if_pos hf]at h;subst h;rw [hnil h3,h2];exact two (uE _ _)
  .have hseq:=Hp.ext_eq h3 (λh hm=>(risB_iff _).1 (h5 h hm)) (λi hi=>by rw [hat i (by omega),yj])
   have hres:res=outM r (l.map (λs=>s.l)):=by
    rw [h4,hseq,hH,wv];rfl
   rw [if_neg (by rw [h1];simp),if_neg (by rw [hall.2 h5];simp),<-hres]at h;rw [h2];by_cases he:res= []
   .rw [if_pos (by rw [he];rfl)]at h;subst h;rw [hnil he];exact two (uE _ _)
   .rw [if_neg (by simpa using he)]at h;subst h;exact two (Gu hown (λb hb=>hb.1) he)
theorem enters:Ev.Enters Try.prog 11:=⟨_,_,Try.func11,by kernel_rfl,by unfold Try.f11;rfl⟩
end Mg
end Sm
end
noncomputable section
namespace Ev
namespace K
open Go Go.RowKit
set_option maxRecDepth 100000
set_option maxHeartbeats 1000000
def wx:Ax:=(dw (λ_=>none) 11 (sH Sm.Mg.ins .fresh Sm.Mg.outs Sm.Mg.fn))
theorem pX:qu Try.prog wx:=(be (nl _) (Gs Sm.Mg.enters Sm.Mg.pure_ok))
def nT:Ax:=(dw (dw (dw wx 25 gS) 56 gS) 75 gS)
theorem gB:qu Try.prog nT:=(be (be (be pX λvs kind rs h=>by simp [gS]at h) λvs kind rs h=>by simp [gS]at h) λvs kind rs h=>by simp [gS]at h)
def E0:Env:=mg Try.prog nT
theorem Il:E0.Ok:=gG kv kw gB
def lvi(n:Int):T:=iT .i64 n
def lvu(n:Int):T:=iT .u64 n
def NA:TD:= .one (.s true 3 [[lvi 0,lvi 0,lvi 2],[lvi 0,lvi 1,lvi 3],[lvi 1,lvi 1,lvi 9]])
def Gv:TD:= .agg [lvi 2,lvi 2,.s true 1 [[lvi 0],[lvi 2],[lvi 3]],.s true 1 [[lvi 0],[lvi 1],[lvi 1]],.s true 1 [[lvi 2],[lvi 3],[lvi 9]]]
def wy:TD:= .agg [lvi 2,lvi 2,.s true 1 [[lvi 0],[lvi 1]],.s true 1 [[lvi 0],[lvi 1],[lvi 3]],.s true 1 [[lvi 0],[lvi 0],[lvi 1]],.s true 1 [[lvi 2],[lvi 3],[lvi 9]]]
def Bo:TD:= .agg [lvi 2,.s true 2 [[lvi 1,lvi 1]]]
def NB:TD:= .agg [lvi 2,.s true 2 [[lvi 0,lvi 4],[lvi 1,lvi 10]]]
end K
end Ev
end
noncomputable section
namespace Ev
open Go
mutual
def uF:T->T->Bool
 | .v (.int k a),.v (.int k' b)=>decide (k=k')&& decide (a=b)
 | .v (.bool a),.v (.bool b)=>a==b
 | .s n z l,.s n' z' l'=>(n==n')&&(Nat.beq z z' && Bp l l')
 |_,_=>false
def yl:List T->List T->Bool
 | [],[]=>true
 |a::l,b::m=>uF a b && yl l m
 |_,_=>false
def Bp:List (List T)->List (List T)->Bool
 | [],[]=>true
 |a::l,b::m=>yl a b && Bp l m
 |_,_=>false
end
mutual
theorem Ac:∀(a b:T),uF a b=true->a=b
 | .v x,.v y,h=>by
  cases x<;>cases y<;>first
   |(simp only [uF,Bool.and_eq_true,decide_eq_true_eq]at h;obtain⟨rfl,rfl⟩:=h;rfl)
   |(simp only [uF,beq_iff_eq]at h;subst h;rfl)
   |(simp [uF]at h)
 | .v x,.s n z l,h=>by cases x<;>simp [uF]at h
 | .s n z l,.v x,h=>by cases x<;>simp [uF]at h
 | .s n z l,.s n' z' l',h=>by
  simp only [uF,Bool.and_eq_true,beq_iff_eq]at h;obtain⟨rfl,h1,h2⟩:=h;obtain rfl:=Nat.eq_of_beq_eq_true h1;rw [Ad l l' h2]
theorem uG:∀(a b:List T),yl a b=true->a=b
 | [],[],_=>rfl
 | [],_::_,h=>by simp [yl]at h
 |_::_,[],h=>by simp [yl]at h
 |a::l,b::m,h=>by
  simp only [yl,Bool.and_eq_true]at h;rw [Ac a b h.1,uG l m h.2]
theorem Ad:∀(a b:List (List T)),Bp a b=true->a=b
 | [],[],_=>rfl
 | [],_::_,h=>by simp [Bp]at h
 |_::_,[],h=>by simp [Bp]at h
 |a::l,b::m,h=>by
  simp only [Bp,Bool.and_eq_true]at h;rw [uG a b h.1,Ad l m h.2]
end
def DV:TD->TD->Bool
 | .one a,.one b=>uF a b
 | .agg a,.agg b=>yl a b
 |_,_=>false
theorem DW{a b:TD}(h:DV a b=true):a=b:=by
 cases a<;>cases b<;>simp only [DV,Bool.false_eq_true]at h
 .rw [Ac _ _ h]
 .rw [uG _ _ h]
def kz:List TD->List TD->Bool
 | [],[]=>true
 |a::l,b::m=>DV a b && kz l m
 |_,_=>false
theorem sJ:∀{a b:List TD},kz a b=true->a=b
 | [],[],_=>rfl
 | [],_::_,h=>by simp [kz]at h
 |_::_,[],h=>by simp [kz]at h
 |a::l,b::m,h=>by
  simp only [kz,Bool.and_eq_true]at h;rw [DW h.1,sJ h.2]
def jL:List (List TD×Kind×List TD)->List TD->Option (Kind×List TD)
 | [],_=>none
 |e::r,vs=>cond (kz e.1 vs) (some e.2) (jL r vs)
theorem Ae{P:Program}{cp:bn}{k:FuncId}(hc:∀vs kind rs,cp k vs=some (kind,rs)->cN P k vs kind rs/\Enters P k):
  ∀(l:List (List TD×Kind×List TD)),(∀e∈l,cp k e.1=some e.2)->∀vs kind rs,jL l vs=some (kind,rs)->cN P k vs kind rs/\Enters P k
 | [],_,vs,kind,rs,h=>by simp [jL]at h
 |e::r,hl,vs,kind,rs,h=>by
  unfold jL at h
  cases hb:kz e.1 vs with
  |true=>
   rw [hb]at h;simp only [cond_true,zsI]at h;rw [<-sJ hb];exact hc _ _ _ (by rw [hl e List.mem_cons_self,h])
  |false=>
   rw [hb]at h;exact Ae hc r (λx hx=>hl x (List.mem_cons_of_mem _ hx)) vs kind rs h
end Ev
end
noncomputable section
namespace Ev
namespace K
open Go Go.RowKit
set_option maxRecDepth 100000
set_option maxHeartbeats 1000000
theorem OF:(bk E0 300 60).1 19 [.one (lvi 1),.one (lvi 2),.one (lvi 2),NA]=some (.fresh,[Gv,.one (lvi 0)]):=by kernel_rfl
end K
end Ev
end
noncomputable section
namespace Ev
namespace K
open Go Go.RowKit
set_option maxRecDepth 100000
set_option maxHeartbeats 1000000
theorem OG:(bk E0 300 60).1 16 [Gv]=some (.fresh,[wy]):=by kernel_rfl
end K
end Ev
end
noncomputable section
namespace Ev
namespace K
open Go Go.RowKit
set_option maxRecDepth 100000
set_option maxHeartbeats 1000000
theorem OH:(bk E0 300 60).1 20 [.one (lvi 1),wy,Bo,.one (.s false 0 []),.one (bT true)]=some (.fresh,[NB,.one (lvi 0)]):=by kernel_rfl
end K
end Ev
end
noncomputable section
namespace Ev
namespace K
open Go Go.RowKit
set_option maxRecDepth 100000
set_option maxHeartbeats 1000000
theorem lv8:(bk E0 300 60).1 8 [.one (lvi 1),wy,Bo,.one (.s true 1 [[lvu 1]]),.one (bT false)]=some (.fresh,[.one (.s true 3 [[lvi 0,lvi 0,lvu 4]]),.one (lvi 0)]):=by kernel_rfl
end K
end Ev
end
noncomputable section
namespace Ev
namespace K
open Go Go.RowKit
set_option maxRecDepth 100000
set_option maxHeartbeats 1000000
theorem OI:(bk E0 300 60).1 21 [wy,Bo]=some (.fresh,[.one (lvi 2)]):=by kernel_rfl
end K
end Ev
end
noncomputable section
namespace Ev
namespace K
open Go Go.RowKit
set_option maxRecDepth 100000
set_option maxHeartbeats 1000000
theorem DX{k:FuncId}{a b:List TD}(h:(bk E0 300 60).1 k a=some (.fresh,b)):∀vs kind rs,jL [(a,.fresh,b)] vs=some (kind,rs)->cN Try.prog k vs kind rs/\Ev.Enters Try.prog k:=Ae (cp:=(bk E0 300 60).1) (λvs kind rs h=>(kI Il 300 60).1 _ _ _ _ h) _ (List.forall_mem_cons.2 ⟨h,λ_ h=>by cases h⟩)
def NC:List (List TD×Kind×List TD):= [([.one (lvi 1),.one (lvi 2),.one (lvi 2),NA],.fresh,[Gv,.one (lvi 0)])]
def ND:List (List TD×Kind×List TD):= [([Gv],.fresh,[wy])]
def NE:List (List TD×Kind×List TD):= [([.one (lvi 1),wy,Bo,.one (.s false 0 []),.one (bT true)],.fresh,[NB,.one (lvi 0)])]
def OJ:List (List TD×Kind×List TD):= [([.one (lvi 1),wy,Bo,.one (.s true 1 [[lvu 1]]),.one (bT false)],.fresh,[.one (.s true 3 [[lvi 0,lvi 0,lvu 4]]),.one (lvi 0)])]
def NF:List (List TD×Kind×List TD):= [([wy,Bo],.fresh,[.one (lvi 2)])]
def axV:Ax:=(dw (dw (dw (dw (dw nT 19 (jL NC)) 16 (jL ND)) 20 (jL NE)) 8 (jL OJ)) 21 (jL NF))
theorem Ku:qu Try.prog axV:=(be (be (be (be (be gB (DX OF)) (DX OG)) (DX OH)) (DX lv8)) (DX OI))
def EV:Env:=mg Try.prog axV
theorem NG:EV.Ok:=gG kv kw Ku
def Af:List TD->Option (Kind×List TD)
 | []=>some (.fresh,[.one (.v (.bool true))])
 |_=>none
theorem Gw{k:FuncId}(h:(bk EV 300 60).1 k []=some (.fresh,[.one (.v (.bool true))])):∀vs kind rs,Af vs=some (kind,rs)->cN Try.prog k vs kind rs/\Ev.Enters Try.prog k:=λvs kind rs hf=>by
 unfold Af at hf;split at hf
 .simp only [zsI,Prod.mk.injEq]at hf;obtain⟨rfl,rfl⟩:=hf;exact(kI NG 300 60).1 _ _ _ _ h
 .simp at hf
theorem NH:(bk EV 300 60).1 6 []=some (.fresh,[.one (.v (.bool true))]):=by kernel_rfl
def E1:Env:=mg Try.prog (dw nT 6 Af)
theorem iS:E1.Ok:=gG kv kw (be gB (Gw NH))
def FL6:cl []->Option Bool:=λ_=>some true
def Im:cK:=⟨6,[],.data true [(false,.B)],FL6,1⟩
theorem Kv:cn E1 Im:=λm a out h=>by
 obtain rfl:=Option.some.inj h;exact ja (F:=Af) rfl rfl
def ct:cl Sm.Mg.ins->Option (cl Sm.Mg.outs):=Sm.Mg.fn
def lN:cK:=⟨11,Sm.Mg.ins,.data true Sm.Mg.outs,ct,1⟩
theorem rS:cn E1 lN:=ye rfl
theorem Ag:Co E1 TT:=⟨tz1,⟨tz2,⟨tz3,⟨tz4,⟨tz5,⟨tz6,⟨tz7,⟨tz8,⟨IN,⟨IP,⟨IQ,⟨IR,⟨IS,⟨IT,⟨IU,⟨IV,⟨IW,⟨IX,⟨IY,⟨IZ,⟨Ja,⟨Jb,⟨Jc,⟨Jd,⟨Je,⟨Gp,⟨Jf,⟨Jg,⟨Jh,⟨Ji,⟨Gq,⟨Jj,⟨Jk,⟨Jl,⟨Jm,⟨Jn,⟨Jo,⟨Jp,⟨Jq,⟨Jr,⟨Js,⟨Jt,⟨Ju,⟨Jv,⟨Jw,⟨Jx,⟨Jy,⟨Jz,⟨JA,⟨JB,⟨JC,⟨JD,⟨JE,⟨JF,⟨JG,⟨JH,⟨JI,⟨JJ,⟨JK,⟨Gr,⟨JL,⟨JM,⟨JN,⟨JO,⟨JP,⟨JQ,⟨JR,⟨JS,⟨JT,⟨JU,⟨JV,⟨JW,⟨JY,⟨JZ,⟨Ka,⟨Kb,⟨Kc,⟨Kd,⟨Ke,⟨Kf,⟨Kg,⟨Kh,⟨Ki,⟨Kj,⟨Kk,⟨Kl,⟨Km,⟨Kn,⟨Ko,⟨Kq,⟨Cq,⟨Cr,⟨Cs,⟨Ct,⟨Cu,⟨Cv,⟨Cw,⟨Cy,⟨Cz,⟨CA,⟨CB,⟨CC,⟨CD,⟨CE,⟨CF,⟨CG,⟨CH,⟨CI,⟨CJ,⟨CK,⟨CL,⟨CM,⟨CN,⟨CO,⟨CP,⟨CQ,⟨CR,⟨CS,⟨CT,⟨CU,⟨CV,⟨CW,⟨CX,⟨CY,⟨CZ,⟨Da,⟨Db,⟨Dc,⟨De,⟨Df,⟨Dg,⟨Dh,⟨Di,⟨Dj,⟨Dk,⟨Dl,⟨Dm,⟨Dn,⟨Do,⟨Dp,⟨Dq,⟨Dr,⟨Ds,⟨Dt,⟨Du,⟨Dv,⟨Dw,⟨Dx,⟨Dy,⟨Dz,⟨DA,⟨DB,⟨DC,⟨DD,⟨DE,⟨DF,⟨DG,⟨DH,⟨DI,⟨DK,⟨DL,⟨DM,trivial⟩⟩⟩⟩⟩⟩⟩⟩⟩⟩⟩⟩⟩⟩⟩⟩⟩⟩⟩⟩⟩⟩⟩⟩⟩⟩⟩⟩⟩⟩⟩⟩⟩⟩⟩⟩⟩⟩⟩⟩⟩⟩⟩⟩⟩⟩⟩⟩⟩⟩⟩⟩⟩⟩⟩⟩⟩⟩⟩⟩⟩⟩⟩⟩⟩⟩⟩⟩⟩⟩⟩⟩⟩⟩⟩⟩⟩⟩⟩⟩⟩⟩⟩⟩⟩⟩⟩⟩⟩⟩⟩⟩⟩⟩⟩⟩⟩⟩⟩⟩⟩⟩⟩⟩⟩⟩⟩⟩⟩⟩⟩⟩⟩⟩⟩⟩⟩⟩⟩⟩⟩⟩⟩⟩⟩⟩⟩⟩⟩⟩⟩⟩⟩⟩⟩⟩⟩⟩⟩⟩⟩⟩⟩⟩⟩⟩⟩⟩⟩⟩⟩⟩⟩⟩⟩⟩⟩⟩⟩⟩⟩⟩
theorem uH:Cp E1.P EQS:=⟨Ij zY zZ,trivial⟩
theorem OK:E1.fn 68=some Nm:=iv Try.func68 rfl
theorem OL:E1.fn 95=some No:=iv Try.func95 rfl
theorem OM:E1.fn 96=some Np:=iv Try.func96 rfl
theorem ON:E1.fn 97=some Nq:=iv Try.func97 rfl
end K
end Ev
end
noncomputable section
namespace Ev
namespace K
open Go Go.RowKit
set_option maxRecDepth 100000
set_option maxHeartbeats 1000000
def ym:fG:= []
def yn:KG:=⟨TT,EQS,[],[]⟩
def eG:cl [(false,.I .i64)]->Option (OutK.val (.data true [(false,.B)])):=gO yn ym OD 37 0 [(false,.I .i64)] (.data true [(false,.B)])
def yo:cK:=⟨37,[(false,.I .i64)],.data true [(false,.B)],eG,1⟩
def oP:fG:= []
def iw:KG:=⟨TT,EQS,[],[]⟩
def cI:cl [yD2,yD2]->Option (OutK.val (.data true [(false,.I .i64)])):=gO iw oP Np 96 0 [yD2,yD2] (.data true [(false,.I .i64)])
def iy:cK:=⟨96,[yD2,yD2],.data true [(false,.I .i64)],cI,1⟩
def rT:fG:= []
def jM:KG:=⟨TT,EQS,[],[]⟩
def dv:cl [(false,.B)]->Option (OutK.val (.data true [yD2])):=gO jM rT Nq 97 0 [(false,.B)] (.data true [yD2])
def jN:cK:=⟨97,[(false,.B)],.data true [yD2],dv,1⟩
def wz:fG:= [(95,⟨[⟨true,3,5,[2,4,5],⟨[(6,false,[.d true (.I .i64)])],[],[]⟩,[(.normal,⟨[(6,false,[.d true (.I .i64)])],[],[]⟩)]⟩],[]⟩)]
def nU:KG:=⟨TT,EQS,[],[]⟩
def fI:cl [yD2,yD2]->Option (OutK.val (.data true [yD2])):=gO nU wz No 95 0 [yD2,yD2] (.data true [yD2])
def nV:cK:=⟨95,[yD2,yD2],.data true [yD2],fI,1⟩
def wA:fG:= [(68,⟨[⟨true,3,9,[4,5,6,7],⟨[],[],[]⟩,[(.normal,⟨[(9,false,[.d true .B])],[],[]⟩)]⟩],[]⟩)]
def nW:KG:=⟨TT,EQS,[nV,iy,jN],[]⟩
def bL:cl [(false,.I .i64),yD2,yD2]->Option (OutK.val (.data true [yD2])):=gO nW wA Nm 68 0 [(false,.I .i64),yD2,yD2] (.data true [yD2])
def nX:cK:=⟨68,[(false,.I .i64),yD2,yD2],.data true [yD2],bL,2⟩
def mX:fG:= [(10,⟨[⟨false,4,0,[0,1],⟨[(5,false,[.d true (.I .i64)])],[],[]⟩,[(.exit 0,⟨[],[],[]⟩),(.ret,⟨[(4,false,[.d true .B])],[],[]⟩)]⟩],[]⟩)]
def mY:KG:=⟨TT,EQS,[],[]⟩
def aS:cl [yD1,yD1]->Option (OutK.val (.data true [(false,.B)])):=gO mY mX OB 10 0 [yD1,yD1] (.data true [(false,.B)])
def mZ:cK:=⟨10,[yD1,yD1],.data true [(false,.B)],aS,1⟩
def uJ:fG:= [(38,⟨[⟨false,3,0,[0,1,2],⟨[(7,false,[.m (.C (.I .i64) (.C (.I .i64) (.I .u64)))]),(8,false,[.d true (.I .i64)]),(9,false,[.d true (.I .i64)])],[],[]⟩,[(.exit 0,⟨[(7,false,[.m (.C (.I .i64) (.C (.I .i64) (.I .u64)))])],[],[]⟩)]⟩],[(4,⟨[[],[],[],[],[],[],[],[],[],[],[],[],[],[],[],[],[],[],[],[],[.sl 7 0],[]],[(false,[]),(false,[]),(false,[]),(false,[]),(false,[]),(false,[]),(false,[]),(false,[]),(false,[]),(false,[]),(false,[]),(false,[]),(false,[]),(false,[]),(false,[]),(false,[]),(false,[]),(false,[]),(false,[]),(true,[]),(true,[]),(false,[])]⟩)]⟩)]
def uK:KG:=⟨TT,EQS,[nX],[]⟩
def cR:cl [(false,.I .i64),yD1,yD1]->Option (OutK.val (.mown (.C (.I .i64) (.C (.I .i64) (.I .u64))))):=gO uK uJ OE 38 0 [(false,.I .i64),yD1,yD1] (.mown (.C (.I .i64) (.C (.I .i64) (.I .u64))))
def uL:cK:=⟨38,[(false,.I .i64),yD1,yD1],.mown (.C (.I .i64) (.C (.I .i64) (.I .u64))),cR,3⟩
def rU:fG:= [(12,⟨[⟨false,4,0,[0,1],⟨[(6,false,[.d true (.I .i64)])],[],[]⟩,[(.exit 0,⟨[],[],[]⟩),(.ret,⟨[(4,false,[.m (.C (.I .i64) (.C (.I .i64) (.I .u64)))]),(5,false,[.d true (.I .i64)])],[],[]⟩)]⟩,⟨false,7,0,[0,1,6],⟨[(7,false,[.d true (.I .i64)])],[],[]⟩,[(.exit 2,⟨[],[],[]⟩),(.ret,⟨[(4,false,[.m (.C (.I .i64) (.C (.I .i64) (.I .u64)))]),(5,false,[.d true (.I .i64)])],[],[]⟩)]⟩,⟨false,13,0,[0,1],⟨[(8,false,[.m (.C (.I .i64) (.C (.I .i64) (.I .u64)))]),(9,false,[.d true (.I .i64)])],[],[]⟩,[(.exit 4,⟨[(8,false,[.m (.C (.I .i64) (.C (.I .i64) (.I .u64)))])],[],[]⟩)]⟩],[]⟩)]
def rV:KG:=⟨TT,EQS,[yo,uL],[]⟩
def bV:cl [(false,.I .i64),yD0]->Option (OutK.val (.data true [yD1,(false,.I .i64)])):=gO rV rU OC 12 0 [(false,.I .i64),yD0] (.data true [yD1,(false,.I .i64)])
def rW:cK:=⟨12,[(false,.I .i64),yD0],.data true [yD1,(false,.I .i64)],bV,4⟩
def kA:fG:= [(4,⟨[⟨false,5,0,[0,1],⟨[(5,false,[.m (.S (.C (.I .i64) (.C (.I .i64) (.I .u64))))]),(6,false,[.d true (.I .i64)])],[],[]⟩,[(.exit 0,⟨[(5,false,[.m (.S (.C (.I .i64) (.C (.I .i64) (.I .u64))))])],[],[]⟩)]⟩,⟨true,1,5,[0],⟨[(1,false,[.d false (.S (.S (.C (.I .i64) (.C (.I .i64) (.I .u64)))))])],[],[]⟩,[(.normal,⟨[(1,false,[.d false (.S (.S (.C (.I .i64) (.C (.I .i64) (.I .u64)))))])],[],[]⟩)]⟩,⟨true,8,5,[0,1,5,6],⟨[(7,false,[.d false (.S (.C (.I .i64) (.C (.I .i64) (.I .u64))))])],[],[]⟩,[(.normal,⟨[(7,false,[.d false (.S (.C (.I .i64) (.C (.I .i64) (.I .u64))))])],[],[]⟩)]⟩],[]⟩)]
def kB:KG:=⟨TT,EQS,[Im,mZ,lN,rW],[]⟩
def bM:cl [(false,.I .i64),yD0]->Option (OutK.val (.data true [(false,.B)])):=gO kB kA fi4 4 0 [(false,.I .i64),yD0] (.data true [(false,.B)])
end K
end Ev
end
noncomputable section
namespace Ev
namespace KM
open Go Go.RowKit
def ct(x:Int)(y:Sl (Sl (Int×(Int×Int)))):Option ((Sl (Int×(Int×Int)))×Int):=K.ct (x,y)
def FL6:Option (Bool):=K.FL6 ()
def eG(x:Int):Option (Bool):=K.eG x
def cI(x:Int×Int)(y:Int×Int):Option (Int):=K.cI (x,y)
def dv(x:Bool):Option (Int×Int):=K.dv x
def fI(x:Int×Int)(y:Int×Int):Option (Int×Int):=K.fI (x,y)
def bL(x:Int)(y:Int×Int)(z:Int×Int):Option (Int×Int):=K.bL (x,y,z)
def aS(x:Sl (Int×(Int×Int)))(y:Sl (Int×(Int×Int))):Option (Bool):=K.aS (x,y)
def cR(x:Int)(y:Sl (Int×(Int×Int)))(z:Sl (Int×(Int×Int))):Option (List (Int×(Int×Int))):=K.cR (x,y,z)
def bV(x:Int)(y:Sl (Sl (Int×(Int×Int)))):Option ((Sl (Int×(Int×Int)))×Int):=K.bV (x,y)
def bM(x:Int)(y:Sl (Sl (Int×(Int×Int)))):Option (Bool):=K.bM (x,y)
end KM
end Ev
end
noncomputable section
namespace Ev
namespace KM
open Go Go.RowKit
set_option maxRecDepth 100000
set_option maxHeartbeats 1000000
abbrev yC:=Int×Int×Sl Int×Sl Int×Sl Int×Sl Int
abbrev yM:=Int×Int×Sl Int×Sl Int×Sl Int
abbrev yT:=Int×Int×Int
theorem nb(x:Int×Int)(y:Int×Int):cI x y=if x.fst<y.fst then some (-1)
else if x.fst=y.fst then if x.snd<y.snd then some (-1)else if x.fst=y.fst/\x.snd=y.snd then some 0 else some 1 else if x.fst=y.fst/\x.snd=y.snd then some 0 else some 1:=by kernel_rfl
theorem pY(x:Bool):dv x=if x=true then some (0,1)else some (0,0):=by kernel_rfl
def gV:Int->Int->Option (Int ⊕ Empty):=λ(d d_1:Int)=>some (Sum.inl (IntKind.i64.wrap (d+d_1)))
theorem uM(x:Int×Int)(y:Int×Int):fI x y=(if IntKind.u64.wrap (x.snd+y.snd)<x.snd then gV (IntKind.i64.wrap (x.fst+y.fst)) 1 else gV x.fst y.fst).bind λ(y_1:Int ⊕ Empty)=>Sum.elim (λ(val:Int)=>some (val,IntKind.u64.wrap (x.snd+y.snd))) (λ(val:Empty)=>nE val) y_1:=by kernel_rfl
theorem uN(x:Int)(y:Int×Int)(z:Int×Int):bL x y z=(if x=1 then some (Sum.inl true)else if x=3 then some (Sum.inl true)else some (Sum.inl (decide (x=4)))).bind λ(y_1:Bool ⊕ Empty)=>Sum.elim (λ(val:Bool)=>if val=true then(cI z y).bind λ(out:Int)=>if out<0 then some z else some y else if x=2 then if¬(y.fst=0/\y.snd=0)then(dv true).bind λ(out:Int×Int)=>some out else(dv (decide ¬(z.fst=0/\z.snd=0))).bind λ(out:Int×Int)=>some out else if x=5 then(fI y z).bind λ(out:Int×Int)=>some out else some (0,0)) (λ(val:Empty)=>nE val) y_1:=by kernel_rfl
def bA(x:Sl yT)(y:Sl yT):Int->Option (Int ⊕ PUnit ⊕ Bool ⊕ Empty):=λ(x_1:Int)=>if x_1<(↑x.l.length:Int)then(atS 3 x x_1).bind λ(y_1:Int×Int×Int)=>(atS 3 y x_1).bind λ(y:Int×Int×Int)=>none else some (Sum.inr (Sum.inl ()))
def bq(x:Int)(y:Sl yT)(z:Sl yT):List yT×Int×Int->Option (List yT×Int×Int ⊕ List yT ⊕ Empty):=λ(x_1:List yT×Int×Int)=>if x_1.snd.fst<(↑y.l.length:Int)then if x_1.snd.snd=(↑z.l.length:Int)then(atS 3 y x_1.snd.fst).bind λ(y:Int×Int×Int)=>(app x_1.fst [y]).bind λ(lm:List yT)=>some (Sum.inl (lm,IntKind.i64.wrap (x_1.snd.fst+1),x_1.snd.snd))else if x_1.snd.fst<(↑y.l.length:Int)then(atS 3 y x_1.snd.fst).bind λ(y_1:Int×Int×Int)=>(atS 3 z x_1.snd.snd).bind λ(y_2:Int×Int×Int)=>if y_1.fst<y_2.fst then(atS 3 y x_1.snd.fst).bind λ(y:Int×Int×Int)=>(app x_1.fst [y]).bind λ(lm:List yT)=>some (Sum.inl (lm,IntKind.i64.wrap (x_1.snd.fst+1),x_1.snd.snd))else if x_1.snd.fst=(↑y.l.length:Int)then(atS 3 z x_1.snd.snd).bind λ(y:Int×Int×Int)=>(app x_1.fst [y]).bind λ(lm:List yT)=>some (Sum.inl (lm,x_1.snd.fst,IntKind.i64.wrap (x_1.snd.snd+1)))else(atS 3 z x_1.snd.snd).bind λ(y_3:Int×Int×Int)=>(atS 3 y x_1.snd.fst).bind λ(y_4:Int×Int×Int)=>if y_3.fst<y_4.fst then(atS 3 z x_1.snd.snd).bind λ(y:Int×Int×Int)=>(app x_1.fst [y]).bind λ(lm:List yT)=>some (Sum.inl (lm,x_1.snd.fst,IntKind.i64.wrap (x_1.snd.snd+1)))else(atS 3 y x_1.snd.fst).bind λ(y_5:Int×Int×Int)=>(atS 3 y x_1.snd.fst).bind λ(y:Int×Int×Int)=>(atS 3 z x_1.snd.snd).bind λ(y_6:Int×Int×Int)=>(bL x y.snd y_6.snd).bind λ(out:Int×Int)=>(app x_1.fst [(y_5.fst,out)]).bind λ(lm:List yT)=>some (Sum.inl (lm,IntKind.i64.wrap (x_1.snd.fst+1),IntKind.i64.wrap (x_1.snd.snd+1)))else if x_1.snd.fst=(↑y.l.length:Int)then(atS 3 z x_1.snd.snd).bind λ(y:Int×Int×Int)=>(app x_1.fst [y]).bind λ(lm:List yT)=>some (Sum.inl (lm,x_1.snd.fst,IntKind.i64.wrap (x_1.snd.snd+1)))else(atS 3 z x_1.snd.snd).bind λ(y_1:Int×Int×Int)=>(atS 3 y x_1.snd.fst).bind λ(y_2:Int×Int×Int)=>if y_1.fst<y_2.fst then(atS 3 z x_1.snd.snd).bind λ(y:Int×Int×Int)=>(app x_1.fst [y]).bind λ(lm:List yT)=>some (Sum.inl (lm,x_1.snd.fst,IntKind.i64.wrap (x_1.snd.snd+1)))else(atS 3 y x_1.snd.fst).bind λ(y_3:Int×Int×Int)=>(atS 3 y x_1.snd.fst).bind λ(y:Int×Int×Int)=>(atS 3 z x_1.snd.snd).bind λ(y_4:Int×Int×Int)=>(bL x y.snd y_4.snd).bind λ(out:Int×Int)=>(app x_1.fst [(y_3.fst,out)]).bind λ(lm:List yT)=>some (Sum.inl (lm,IntKind.i64.wrap (x_1.snd.fst+1),IntKind.i64.wrap (x_1.snd.snd+1)))else if x_1.snd.snd<(↑z.l.length:Int)then if x_1.snd.snd=(↑z.l.length:Int)then(atS 3 y x_1.snd.fst).bind λ(y:Int×Int×Int)=>(app x_1.fst [y]).bind λ(lm:List yT)=>some (Sum.inl (lm,IntKind.i64.wrap (x_1.snd.fst+1),x_1.snd.snd))else if x_1.snd.fst<(↑y.l.length:Int)then(atS 3 y x_1.snd.fst).bind λ(y_1:Int×Int×Int)=>(atS 3 z x_1.snd.snd).bind λ(y_2:Int×Int×Int)=>if y_1.fst<y_2.fst then(atS 3 y x_1.snd.fst).bind λ(y:Int×Int×Int)=>(app x_1.fst [y]).bind λ(lm:List yT)=>some (Sum.inl (lm,IntKind.i64.wrap (x_1.snd.fst+1),x_1.snd.snd))else if x_1.snd.fst=(↑y.l.length:Int)then(atS 3 z x_1.snd.snd).bind λ(y:Int×Int×Int)=>(app x_1.fst [y]).bind λ(lm:List yT)=>some (Sum.inl (lm,x_1.snd.fst,IntKind.i64.wrap (x_1.snd.snd+1)))else(atS 3 z x_1.snd.snd).bind λ(y_3:Int×Int×Int)=>(atS 3 y x_1.snd.fst).bind λ(y_4:Int×Int×Int)=>if y_3.fst<y_4.fst then(atS 3 z x_1.snd.snd).bind λ(y:Int×Int×Int)=>(app x_1.fst [y]).bind λ(lm:List yT)=>some (Sum.inl (lm,x_1.snd.fst,IntKind.i64.wrap (x_1.snd.snd+1)))else(atS 3 y x_1.snd.fst).bind λ(y_5:Int×Int×Int)=>(atS 3 y x_1.snd.fst).bind λ(y:Int×Int×Int)=>(atS 3 z x_1.snd.snd).bind λ(y_6:Int×Int×Int)=>(bL x y.snd y_6.snd).bind λ(out:Int×Int)=>(app x_1.fst [(y_5.fst,out)]).bind λ(lm:List yT)=>some (Sum.inl (lm,IntKind.i64.wrap (x_1.snd.fst+1),IntKind.i64.wrap (x_1.snd.snd+1)))else if x_1.snd.fst=(↑y.l.length:Int)then(atS 3 z x_1.snd.snd).bind λ(y:Int×Int×Int)=>(app x_1.fst [y]).bind λ(lm:List yT)=>some (Sum.inl (lm,x_1.snd.fst,IntKind.i64.wrap (x_1.snd.snd+1)))else(atS 3 z x_1.snd.snd).bind λ(y_1:Int×Int×Int)=>(atS 3 y x_1.snd.fst).bind λ(y_2:Int×Int×Int)=>if y_1.fst<y_2.fst then(atS 3 z x_1.snd.snd).bind λ(y:Int×Int×Int)=>(app x_1.fst [y]).bind λ(lm:List yT)=>some (Sum.inl (lm,x_1.snd.fst,IntKind.i64.wrap (x_1.snd.snd+1)))else(atS 3 y x_1.snd.fst).bind λ(y_3:Int×Int×Int)=>(atS 3 y x_1.snd.fst).bind λ(y:Int×Int×Int)=>(atS 3 z x_1.snd.snd).bind λ(y_4:Int×Int×Int)=>(bL x y.snd y_4.snd).bind λ(out:Int×Int)=>(app x_1.fst [(y_3.fst,out)]).bind λ(lm:List yT)=>some (Sum.inl (lm,IntKind.i64.wrap (x_1.snd.fst+1),IntKind.i64.wrap (x_1.snd.snd+1)))else some (Sum.inr (Sum.inl x_1.fst))
def iU:Int ⊕ PUnit ⊕ List yT×Int ⊕ Empty->Option (Int ⊕ PUnit ⊕ List yT×Int ⊕ Empty):=λ(d:Int ⊕ PUnit ⊕ List yT×Int ⊕ Empty)=>some d
def aF(y:Sl (Sl yT))(x:Int):Int->Option (Int ⊕ PUnit ⊕ List yT×Int ⊕ Empty):=λ(x_1:Int)=>(atS 1 y x).bind λ(y_1:Sl yT)=>if x_1<(↑y_1.l.length:Int)then(atS 1 y x).bind λ(y_2:Sl yT)=>(atS 3 y_2 x_1).bind λ(y_3:Int×Int×Int)=>(atS 1 y x).bind λ(y:Sl yT)=>(atS 3 y (IntKind.i64.wrap (x_1 - 1))).bind λ(y:Int×Int×Int)=>if y_3.fst<=y.fst then iU (Sum.inr (Sum.inr (Sum.inl ([],6))))else iU (Sum.inl (IntKind.i64.wrap (x_1+1)))else some (Sum.inr (Sum.inl ()))
def bB(y:Sl (Sl yT)):Int->Option (Int ⊕ PUnit ⊕ List yT×Int ⊕ Empty):=λ(x:Int)=>if x<(↑y.l.length:Int)then(cD (aF y x) 1).bind λ(y:PUnit ⊕ List yT×Int ⊕ Empty)=>Sum.elim (λ(val:PUnit)=>some (Sum.inl (IntKind.i64.wrap (x+1)))) (λ(val:List yT×Int ⊕ Empty)=>Sum.elim (λ(val:List yT×Int)=>some (Sum.inr (Sum.inr (Sum.inl val)))) (λ(val:Empty)=>nE val) val) y else some (Sum.inr (Sum.inl ()))
def bE(val:Sl (Sl yT)):List (Sl yT)×Int->Option (List (Sl yT)×Int ⊕ List (Sl yT)⊕ Empty):=λ(x:List (Sl yT)×Int)=>if x.snd<(↑val.l.length:Int)then(atS 1 val x.snd).bind λ(y:Sl yT)=>(if(↑y.l.length:Int)>30 then(nr 3 y 0 30).bind λ(s':Sl yT)=>some (Sum.inl s')else some (Sum.inl y)).bind λ(y:Sl yT ⊕ Empty)=>Sum.elim (λ(val:Sl yT)=>none) (λ(val:Empty)=>nE val) y else some (Sum.inr (Sum.inl x.fst))
end KM
end Ev
end
noncomputable section
namespace Ev
namespace KM
section
open Go
def okS{α:Type}(w:Nat)(s:Sl α):Prop:=s.l= []∨s.sz=w
theorem SlW.ok{α:Type}{w:Nat}{Q:α->Prop}{s:Sl α}(h:SlW w Q s):okS w s:= .inr h.1
theorem wB{α:Type}{w:Nat}(l:List α):okS w (mo w l):=by cases l with|nil=>exact .inl rfl|cons x l=>exact .inr rfl
end
section
open Go
abbrev Mx:=Int×Int×Sl Int×Sl Int×Sl Int
abbrev E3:=Int×Int×Int
end
section
open Go Sm
def bel(a b:E3):Bool:=klt (key a) (key b)
abbrev In(l:List E3):Prop:=l.Pairwise λa b=>bel a b=true
def OO(n:Nat)(f:Nat->Int):List Int:=(List.range (n+1)).map f
def Gx(l:List E3)(k:Nat):Nat:=l.countP λx=>decide (x.1<(k:Int))
end
section
open Go Sm
theorem nc(a b:Int×Int):∃c:Int,cI a b=some c/\(c<0↔wm a b=true):=by
 obtain⟨a1,a2⟩:=a;obtain⟨b1,b2⟩:=b;rw [nb];unfold wm;simp only;by_cases h2:a1<b1
 .rw [if_pos h2];exact⟨-1,rfl,by simp [h2]⟩
 rw [if_neg h2];by_cases h3:a1=b1
 .rw [if_pos h3];by_cases h4:a2<b2
  .rw [if_pos h4];exact⟨-1,rfl,by simp [h3,h4]⟩
  .rw [if_neg h4];by_cases h5:a1=b1/\a2=b2
   .rw [if_pos h5];exact⟨0,rfl,by simp [h3];omega⟩
   .rw [if_neg h5];exact⟨1,rfl,by simp [h3];omega⟩
 .rw [if_neg h3];by_cases h5:a1=b1/\a2=b2
  .exact absurd h5.1 h3
  .rw [if_neg h5];exact⟨1,rfl,by simp [h3];omega⟩
theorem wD(a b:Int×Int):fI a b=some (DN a b):=by
 obtain⟨a1,a2⟩:=a;obtain⟨b1,b2⟩:=b;rw [uM];unfold DN gV;simp only;split<;>rfl
theorem rX(b:Bool):dv b=some (pT b):=by rw [pY];unfold pT;cases b<;>rfl
theorem wE(r:Int)(a b:Int×Int):bL r a b=some (bG r a b):=by
 rw [uN];unfold bG
 have hl:((cI b a).bind λ(out:Int)=>if out<0 then some b else some a)=some (pS a b):=by
  obtain⟨c,h1,h2⟩:=nc b a;rw [h1,zbS];unfold pS;by_cases hc:c<0
  .rw [if_pos hc,if_pos (h2.1 hc)]
  .rw [if_neg hc,if_neg (λh=>hc (h2.2 h))]
 simp only [hl,rX,wD,zbS];by_cases h1:r=1
 .simp [h1]
 by_cases h3:r=3
 .simp [h3]
 by_cases h4:r=4
 .simp [h4]
 simp only [if_neg h1,if_neg h3,if_neg (show¬(r=1∨r=3∨r=4)by omega),decide_eq_false h4,zbS,Sum.elim_inl,Bool.false_eq_true,if_false];by_cases h2:r=2
 .simp only [if_pos h2];by_cases ha:a.1=0/\a.2=0
  .by_cases hb:b.1=0/\b.2=0
   .simp [ha,hb]
   .simp [ha,hb]
  .simp [ha]
 .simp only [if_neg h2];split<;>rfl
end
section
open Go Sm
def wG{α:Type}(l:List α)(k:Nat)(y:α):List α:=l.take k++y::l.drop k
def pos(S:List (Ky×V))(e:E3):Nat:=(S.takeWhile λp=>klt p.1 (key e)).length
end
section
open Go Sm
end
section
open Go Sm
end
section
open Go Sm
structure Is(m:Mx)(n c:Int)(l:List E3):Prop where
 hn:0<=n/\n<=4096
 hc:0<=c/\c<=4096
 len:l.length<=65536
 r:In l
 p:∀x∈l,(0<=x.1/\x.1<n)/\0<=x.2.1/\x.2.1<c
 v:∀x∈l,Bh x.2.2
 e1:m.1=n
 e2:m.2.1=c
 e3:m.2.2.1.l=OO n.toNat λk=>((Gx l k:Nat):Int)
 e4:m.2.2.2.1.l=l.map (·.2.1)
 e5:m.2.2.2.2.l=l.map (·.2.2)
 o3:okS 1 m.2.2.1
 o4:okS 1 m.2.2.2.1
 o5:okS 1 m.2.2.2.2
section
variable {m : Mx} {n c : Int} {l : List E3}
def Gy(l:List E3)(i:Int):List E3:=l.filter λx=>decide (x.1=i)
theorem DY{x:E3}{k:Int}(h:x∈Gy l k):x∈l/\x.1=k:=by
 unfold Gy at h;rw [List.mem_filter]at h;exact⟨h.1,by simpa using h.2⟩
end
end
section
open Go Sm
end
section
open Go Sm
section
variable {m : Mx} {n c : Int} {l : List E3}
end
end
section
open Go Sm
section
variable {m : Mx}
end
end
section
open Go Sm
abbrev Cx:=Int×Int×Sl Int×Sl Int×Sl Int×Sl Int
def neC(T:List E3)(k:Nat):Bool:=decide (Gx T k<Gx T (k+1))
def NI(T:List E3)(n:Nat):List Int:=((List.range n).filter (neC T)).map λ(k:Nat)=>(k:Int)
def NJ(T:List E3)(n:Nat):List Int:=((List.range n).filter (neC T)).map λ(k:Nat)=>((Gx T (k+1):Nat):Int)
def Kw(T:List E3)(n:Nat):List Int:=0::NJ T n
section
variable {T : List E3}
end
structure IsC(c:Cx)(n k:Int)(T:List E3):Prop where
 hn:0<=n/\n<=4096
 hk:0<=k/\k<=4096
 len:T.length<=65536
 r:In T
 p:∀x∈T,(0<=x.1/\x.1<k)/\0<=x.2.1/\x.2.1<n
 v:∀x∈T,Bh x.2.2
 e1:c.1=n
 e2:c.2.1=k
 e3:c.2.2.1.l=NI T k.toNat
 e4:c.2.2.2.1.l=Kw T k.toNat
 e5:c.2.2.2.2.1.l=T.map (·.2.1)
 e6:c.2.2.2.2.2.l=T.map (·.2.2)
 o3:okS 1 c.2.2.1
 o4:okS 1 c.2.2.2.1
 o5:okS 1 c.2.2.2.2.1
 o6:okS 1 c.2.2.2.2.2
section
variable {c : Cx} {n k : Int} {T : List E3}
end
section
variable {c : Cx}
end
end
section
open Go Sm
section
variable {m : Mx} {n c : Int} {l : List E3}
end
end
section
open Go Sm
section
variable {m : Mx} {n c : Int} {l : List E3}
end
end
section
open Go Sm
section
variable {c : Cx} {n k : Int} {T : List E3}
theorem getD_some{l:List Int}{i:Nat}{x:Int}(h:l[i]? =some x):l.getD i 0=x:=by rw [List.getD_eq_getElem?_getD,h];rfl
end
end
section
open Go Sm
section
variable {m : Mx} {n k : Int} {l T : List E3} {c : Cx}
end
end
section
open Go Sm
section
variable {m : Mx} {n c : Int} {l : List E3}
end
end
section
open Go Sm
section
variable {m m' : Mx} {n c : Int} {l : List E3}
end
end
section
open Go Sm
section
variable {m : Mx} {n k : Int} {l T : List E3} {c : Cx}
theorem gW(h:IsC c n k T){f t j x:Nat}(ht:t<=T.length)(hr:(T.drop f).take (t - f)=Gy T (j:Int))(hx:f+x<t):(T[f+x]'(by omega)).1=(j:Int):=by
 have:T[f+x]'(by omega)∈Gy T (j:Int):=by
  rw [<-hr];refine List.mem_iff_getElem?.2 ⟨x,?_⟩;rw [List.getElem?_take_of_lt (by omega),List.getElem?_drop,List.getElem?_eq_getElem (by omega)]
 exact(DY this).2
end
end
section
open Go Sm
section
variable {m a : Mx} {n k : Int} {l T : List E3} {c q : Cx}
end
end
end KM
end Ev
end
noncomputable section
namespace Ev
open Go Go.RowKit
abbrev bf:D:= .one (bC false)
abbrev bt:D:= .one (bC true)
abbrev iO(n:Int):D:= .one (iC .i64 n)
abbrev bO(b:Bool):D:= .one (bC b)
abbrev iI(n:Int):C:=iC .i64 n
abbrev uI(n:Int):C:=iC .u64 n
abbrev nC:C:= .p true (.s false 0 [])
abbrev sC{α:Type}(r:α->List T)(s:Sl α):C:= .p true (Sl.t r s)
abbrev sF{α:Type}(r:α->List T)(s:Sl α):C:= .p false (Sl.t r s)
theorem sj{α:Type}{a b:α}(h:some a=some b):a=b:=Option.some.inj h
theorem wF{α:Type}{a b:α}{r:α}(h:(if false=true then a else b)=r):b=r:=h
theorem wT{α:Type}{a b:α}{r:α}(h:(if true=true then a else b)=r):a=r:=h
theorem dh{P:Program}{t:TypeId}{x y:Operand}{k:IntKind}{a b:Int}(h:a<b):ae P (do eqGuard .lss t x y (.int k a) (.int k b);binOp .lss t (.int k a) (.int k b))=some (.bool true):=Hj P t x y k h
theorem dj{P:Program}{t:TypeId}{x y:Operand}{k:IntKind}{a b:Int}(h:¬a<b):ae P (do eqGuard .lss t x y (.int k a) (.int k b);binOp .lss t (.int k a) (.int k b))=some (.bool false):=Hk P t x y k h
theorem wH{P:Program}{t:TypeId}{x y:Operand}{k:IntKind}{a b:Int}(h:a<=b):ae P (do eqGuard .leq t x y (.int k a) (.int k b);binOp .leq t (.int k a) (.int k b))=some (.bool true):=Hl P t x y k h
theorem wI{P:Program}{t:TypeId}{x y:Operand}{k:IntKind}{a b:Int}(h:¬a<=b):ae P (do eqGuard .leq t x y (.int k a) (.int k b);binOp .leq t (.int k a) (.int k b))=some (.bool false):=Hm P t x y k h
theorem pZ{P:Program}{t:TypeId}{x y:Operand}{k:IntKind}{a b:Int}(h:a>b):ae P (do eqGuard .gtr t x y (.int k a) (.int k b);binOp .gtr t (.int k a) (.int k b))=some (.bool true):=Hn P t x y k h
theorem qd{P:Program}{t:TypeId}{x y:Operand}{k:IntKind}{a b:Int}(h:¬a>b):ae P (do eqGuard .gtr t x y (.int k a) (.int k b);binOp .gtr t (.int k a) (.int k b))=some (.bool false):=Ho P t x y k h
theorem DZ{P:Program}{t:TypeId}{x y:Operand}{k:IntKind}{a b:Int}(h:a >= b):ae P (do eqGuard .geq t x y (.int k a) (.int k b);binOp .geq t (.int k a) (.int k b))=some (.bool true):=Hq P t x y k h
theorem Ea{P:Program}{t:TypeId}{x y:Operand}{k:IntKind}{a b:Int}(h:¬a >= b):ae P (do eqGuard .geq t x y (.int k a) (.int k b);binOp .geq t (.int k a) (.int k b))=some (.bool false):=Hr P t x y k h
theorem gC{P:Program}{t:TypeId}{x y:Operand}{k:IntKind}{a b:Int}(h:a=b):ae P (do eqGuard .eql t x y (.int k a) (.int k b);binOp .eql t (.int k a) (.int k b))=some (.bool true):=Hs P t x y k h
theorem gD{P:Program}{t:TypeId}{x y:Operand}{k:IntKind}{a b:Int}(h:¬a=b):ae P (do eqGuard .eql t x y (.int k a) (.int k b);binOp .eql t (.int k a) (.int k b))=some (.bool false):=Ht P t x y k h
theorem Eb{P:Program}{t:TypeId}{x y:Operand}{k:IntKind}{a b:Int}(h:a≠b):ae P (do eqGuard .neq t x y (.int k a) (.int k b);binOp .neq t (.int k a) (.int k b))=some (.bool true):=Hu P t x y k h
theorem Ec{P:Program}{t:TypeId}{x y:Operand}{k:IntKind}{a b:Int}(h:¬a≠b):ae P (do eqGuard .neq t x y (.int k a) (.int k b);binOp .neq t (.int k a) (.int k b))=some (.bool false):=Hv P t x y k h
theorem cS{P:Program}{t:TypeId}{x y:Operand}{k:IntKind}{a b:Int}:ae P (do eqGuard .add t x y (.int k a) (.int k b);binOp .add t (.int k a) (.int k b))=some (.int k (k.wrap (a+b))):=Ir P t x y k a b
theorem Kx{P:Program}{t:TypeId}{x y:Operand}{k:IntKind}{a b:Int}:ae P (do eqGuard .sub t x y (.int k a) (.int k b);binOp .sub t (.int k a) (.int k b))=some (.int k (k.wrap (a - b))):=Iu P t x y k a b
section
variable {E : Env} {y : Nat → cM} {n nt : Nat} {ops : Array Oper} {o : Oper} {r : List Oper} {K : St → Prop} {f : Nat → D} {L : BL} {d : Nat} {Q : Ex → St → Prop}
theorem pq{v:D}(hs:PS E n nt f L o.op v)(h:dB E y n nt ops r K (up f d v) L)(hw:cv ops o nt f=some true:=by exact rfl)(hd:o.dst=some d:=by exact rfl)(hn:Nat.blt d nt=true:=by exact rfl):dB E y n nt ops (o::r) K f L:=vc hw hd hn hs h
theorem sq{v:D}{i:Nat}(hs:PS E n nt f L o.op v)(h:StL E n nt ops r (i+1) K (up f d v) L)(hw:cv ops o nt f=some true:=by exact rfl)(hd:o.dst=some d:=by exact rfl)(hn:Nat.blt d nt=true:=by exact rfl):StL E n nt ops (o::r) i K f L:=KN hw hd hn hs h
theorem os(h:dB E y n nt ops r K (up f d aX) L)(hw:cv ops o nt f=some false:=by exact rfl)(hd:o.dst=some d:=by exact rfl)(hn:Nat.blt d nt=true:=by exact rfl):dB E y n nt ops (o::r) K f L:=GU hw hd hn h
theorem ss{i:Nat}(h:StL E n nt ops r (i+1) K (up f d aX) L)(hw:cv ops o nt f=some false:=by exact rfl)(hd:o.dst=some d:=by exact rfl)(hn:Nat.blt d nt=true:=by exact rfl):StL E n nt ops (o::r) i K f L:=GV hw hd hn h
theorem qm{x:Operand}(v:D)(hx:ov nt f x=some v:=by exact rfl):PS E n nt f L (.move x) v:=ET hx
theorem qa{x:Operand}(v:D)(hx:ov nt f x=some v:=by exact rfl):PS E n nt f L (.assign x) v:=xo hx
theorem qpt{c a b:Operand}{fr:Bool}(v:D)(hc:ov nt f c=some (.one (.p fr (.v (.bool true)))):=by exact rfl)(hx:ov nt f a=some v:=by exact rfl):PS E n nt f L (.pick c a b) v:=GZ hc hx
theorem qpf{c a b:Operand}{fr:Bool}(v:D)(hc:ov nt f c=some (.one (.p fr (.v (.bool false)))):=by exact rfl)(hx:ov nt f b=some v:=by exact rfl):PS E n nt f L (.pick c a b) v:=Ha hc hx
theorem qc{c:Call}{k:FuncId}{vs:List (Bool×TD)}{vs2 rs:List TD}(v:D)(args:List D)(hk:RunsP E n k vs2 (.fresh,rs))(hv:Vw L args vs)(hc:aB (.call c)=some c:=by exact rfl)(hr:bh c (ov nt f)=some (k,args):=by exact rfl)(h2:vs.map (·.2)=vs2:=by exact rfl)(hrv:fK (rs.map (bu true))=v:=by exact rfl):PS E n nt f L (.call c) v:=At hk hc hr hv h2 hrv
theorem qb{op:BinOp}{ty sh:TypeId}{x y:Operand}{fa fb:Bool}{ka kb:IntKind}{a b:Int}{v:Value}(hp:ae E.P (do eqGuard op ty x y (.int ka a) (.int kb b);binOp op ty (.int ka a) (.int kb b))=some v)(hx:ov nt f x=some (.one (.p fa (.v (.int ka a)))):=by exact rfl)(hy:ov nt f y=some (.one (.p fb (.v (.int kb b)))):=by exact rfl)(h1:one1 v=true:=by exact rfl):PS E n nt f L (.binOp op ty x y sh) (mk v):=eM hx hy hp h1
theorem tq{v:D}{i w b:Nat}{O:List (List Nat)}{N:List (Bool×List Nat)}{R:List (List Nat)}{A:BL}(is:List Nat)(hA:is.filterMap (λi=>L[i]?)=A)(hm:∀x∈A.flatten,x.1 ∉(R.getD i []).flatMap (ay b O N))(hs:PS E n nt f A o.op v)(h:TnL E n nt ops r (i+1) w O N R b K (up f d v) L)(hw:cv ops o nt f=some true:=by exact rfl)(hd:o.dst=some d:=by exact rfl)(hn:Nat.blt d nt=true:=by exact rfl)(hn2:is.Nodup:=by decide)(hu:ay b O N i= []:=by exact rfl):TnL E n nt ops (o::r) i w O N R b K f L:=KO hw hd hn is hn2 hA hm hu hs h
theorem oW{d1 d2:D}{ds:List D}(h:Heap)(hb:HB h L):bJ h (d1::d2::ds)=false:=Hh
theorem eF1{t:Tmp}{fr:Bool}{x:Value}{rs:List TD}(hr:ov nt f (.tmp t)=some (.one (.p fr (.v x))):=by exact rfl)(hrs: [TD.one (.v x)]=rs:=by exact rfl):cP nt (gZ E [.tmp t] (.fresh,rs)) .ret f L:=qE (.inr rfl) (gk hr mt) (aL (bP gL) dq) (λh hb=>Iy) rfl hrs
theorem eR{KK:St->Prop}(h:cP nt Q .ret f L):cP nt (iZ KK Q) .ret f L:=h
theorem bR{id:Nat}(h:cP nt Q .ret f L):cP nt (yZ id Q) .ret f L:=h
theorem bN{id:Nat}(h:cP nt Q .normal f L):cP nt (yZ id Q) .normal f L:=h
theorem bH{id:Nat}(h:cP nt Q .normal f L):cP nt (yZ id Q) (.exit id) f L:=KU h
theorem cT{c:Operand}{a b:Code}{fr:Bool}(hc:ov nt f c=some (.one (.p fr (.v (.bool true)))))(h:WpL E y n nt a Q f L):WpL E y n nt (.cond c a b) Q f L:=GX hc h
theorem cF{c:Operand}{a b:Code}{fr:Bool}(hc:ov nt f c=some (.one (.p fr (.v (.bool false)))))(h:WpL E y n nt b Q f L):WpL E y n nt (.cond c a b) Q f L:=GY hc h
theorem lK(h:cP nt Q .normal f L):WpL E y n nt .skip Q f L:=KR h
theorem lR(h:cP nt Q .ret f L):WpL E y n nt .ret Q f L:=NT h
theorem lB{id:Nat}{c:Code}(h:WpL E y n nt c (yZ id Q) f L):WpL E y n nt (.block id c) Q f L:=GW h
theorem eS{b:Code}(h:WpL E y n nt b Q f L):cP nt (iZ (WpC E y n b Q) Q) .normal f L:=ES h
theorem oE(h:cP nt Q .normal f L):dB E y n nt ops [] (Q .normal) f L:=yX h
theorem lS{a b:Code}(h:WpL E y n nt a (iZ (WpC E y n b Q) Q) f L):WpL E y n nt (.seq a b) Q f L:=Iw h
theorem lO{id:Nat}{l:List Oper}(h:dB E y n nt l.toArray l (Q .normal) f L):WpL E y n nt (.region id l.toArray false) Q f L:=EP h
theorem oN{id:Nat}{l:List Oper}{b:Code}(h:dB E y n nt l.toArray l (iZ (WpC E y n b Q) Q .normal) f L):dB E y n nt ops [] (iZ (WpC E y n (.seq (.region id l.toArray false) b) Q) Q .normal) f L:=yX (ES (Iw (EP h)))
theorem oR{id:Nat}{l:List Oper}(h:dB E y n nt l.toArray l (Q .normal) f L):dB E y n nt ops [] (iZ (WpC E y n (.region id l.toArray false) Q) Q .normal) f L:=yX (ES (EP h))
end
end Ev
end
noncomputable section
namespace Ev
open Go Go.RowKit
def moG{α:Type}(ro:α->List C)(w:Nat)(l:List α)(k:Nat):List B1:=
 match l with
 | []=> []
 |_::_=> [(k,w,l.map ro)]
section
variable {E : Env} {y : Nat → cM} {n nt : Nat} {f : Nat → D} {L : BL} {ops : Array Oper} {rr : List Oper} {K : St → Prop}
theorem oX{α:Type}{ro:α->List C}{o:Oper}{d:Nat}{c:Call}{a x:Operand}{ty ty1 w e1:TypeId}{t1:TI}{k:Nat}{l ys lm:List α}{dx:D}(p:Nat)(hw:cv ops o nt f=some true)(hd:o.dst=some d)(hn:Nat.blt d nt=true)(ho:o.op= .call c)(ha:ov nt f a=some (.one (moC l k)))(hx:ov nt f x=some dx)(hxs:oq L dx (ys.map ro))(hp:L[p]? =some (moG ro w l k))(hlm:app l ys=some lm)(hr:∀y,(ro y).length=w)(hz:cu E.ti ty=some w)(ht1:E.ti ty1=some t1)(he1:aA t1=some e1)
  (hc:c.callee= .builtin .append) (hargs:c.args.toList= [a,x]) (hty:c.argTypes[0]? =some ty) (hty1:c.argTypes[1]? =some ty1) (h:∀k',dB E y n nt ops rr K (up f d (.one (moC lm k'))) (moG ro w lm k'::L.eraseIdx p)) (hz0:Nat.beq w 0=false:=by rfl):dB E y n nt ops (o::rr) K f L:=by
 cases l with
 |nil=>
  have hlm2:=zf hlm;rw [List.nil_append]at hlm2;subst hlm2;have hb:=vm hlm
  cases lm with
  |nil=>exact vc hw hd hn (by rw [ho];exact EZ ha hx hxs hz ht1 he1 hc hargs hty hty1) (ib hp (h 0))
  |cons y ys=>
   refine eL hw hd hn (by rw [ho];exact vn (ro:=ro) ha hx hxs hb hr hz ht1 he1 hc hargs hty hty1) λk'=> ?_;exact ib (p:=p+1) hp (h k')
 |cons y l=>
  obtain⟨_,rfl⟩:=aT hlm;exact EN hw hd hn (by rw [ho];exact Fc (r:=ro) p ha hx hxs rfl hp hlm hr hz ht1 he1 hc hargs hty hty1 hz0) rfl h
end
theorem Ed{E:Env}{y:Nat->cM}{n nt:Nat}{f:Nat->D}{L:BL}{α:Type}{Q:Ex->St->Prop}{c:Code}(ro:α->List C)(w:Nat)(h:WpL E y n nt c Q f (moG ro w ([]:List α) 0::L)):WpL E y n nt c Q f L:=λH hb=>h H hb
theorem sK{α β γ:Type}{ro:α->List β}{rv:α->List (Bool×γ)}{g:β->Option (Bool×γ)}(hq:∀x,(ro x).mapM g=some (rv x)):∀l:List α,((l.map ro).mapM λe=>e.mapM g)=some (l.map rv)
 | []=>rfl
 |x::l=>by
  rw [List.map_cons,List.mapM_cons,hq x,sK hq l];rfl
theorem Gz{L:BL}{α:Type}{ro:α->List C}{rv:α->List (Bool×T)}{r:α->List T}{k sz:Nat}{l:List α}(p:Nat)(hp:L[p]? =some [(k,sz,l.map ro)])(hr:∀x h m,(ro x).mapM (cm h (m+1))=some (rv x))(h2:∀x,(rv x).map (·.2)=r x):∀h,HB h L->∀m,cm h (m+2) (.own k 0 l.length)=some ((l.map rv).all (λe=>e.all (·.1)),.s true sz (l.map r)):=λh hb m=>by
 have hc:cut (l.map ro) 0 l.length=some (l.map ro):=by
  unfold cut;rw [if_pos (by simp),List.drop_zero,List.take_of_length_le (by simp)]
 have e1:cm h (m+2) (.own k 0 l.length)=(ai h k).bind λx=>(cut x.2 0 l.length).bind λes=>(es.mapM λe:List C=>e.mapM (cm h (m+1))).bind λq=>some (q.all (λe=>e.all (·.1)),T.s true x.1 (q.map (λe=>e.map (·.2)))):=rfl;rw [e1,hb.get hp];simp only [zbS,hc];rw [sK (rv:=rv) λx=>hr x h m];simp only [zbS,List.map_map];congr 3;refine List.map_congr_left λx hx=> ?_;simp [Function.comp_def,h2]
theorem Ah{L:BL}{α:Type}{ro:α->List C}{rv:α->List (Bool×T)}{r:α->List T}{w k:Nat}{l:List α}(p:Nat)(hp:L[p]? =some (moG ro w l k))(hr:∀x h m,(ro x).mapM (cm h (m+1))=some (rv x))(h2:∀x,(rv x).map (·.2)=r x):∀h,HB h L->∀m,cm h (m+2) (moC l k)=some ((l.map rv).all (λe=>e.all (·.1)),Sl.t r (mo w l)):=by
 cases l with
 |nil=>exact λh hb m=>rfl
 |cons a l=>exact Gz p hp hr h2
end Ev
end
noncomputable section
namespace Ev
namespace K
open Go Go.RowKit
set_option maxRecDepth 100000
set_option maxHeartbeats 1000000
theorem lP:GOk iw E1 0:=gok iS Ag uH trivial trivial
theorem nd:cn E1 iy:=fu lP (by kernel_rfl) OM (by kernel_rfl) rfl
theorem oQ:GOk jM E1 0:=gok iS Ag uH trivial trivial
theorem qe:cn E1 jN:=fu oQ (by kernel_rfl) ON (by kernel_rfl) rfl
theorem rY:GOk nU E1 0:=gok iS Ag uH trivial trivial
theorem uO:cn E1 nV:=fu rY (by kernel_rfl) OL (by kernel_rfl) rfl
theorem rZ:GOk nW E1 1:=gok iS Ag uH ⟨⟨by decide,uO⟩,⟨⟨by decide,nd⟩,⟨⟨by decide,qe⟩,trivial⟩⟩⟩ trivial
theorem uP:cn E1 nX:=fu rZ (by kernel_rfl) OK (by kernel_rfl) rfl
end K
end Ev
end
end Go.Proofs.Ytjjbpdldbdmoeaa
