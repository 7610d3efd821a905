/- Texts of a claim, joined. -/
import Derived.Test.YtmlpoegdhcdkcaaZG10
import Derived.Shelf.SlSortCmp.NoneTotal
import Derived.Shelf.Spec.SlicesInsertGrow
set_option linter.unusedVariables false
set_option linter.unusedSimpArgs false
namespace Go.Proofs.Ytmlpoegdhcdkcaa
noncomputable section
open Go.RowKit Go.Sort
namespace Sm
namespace It
def tri(x:Ed):Int×Int×Int:=(0,x.1,x.2)
def toI(R:Rg)(p:(Int×Int)×V):Ed:=(p.1.2,(R.na p.2).1)
def vk(R:Rg)(l:List Ed):List Ed:=(sy R (l.map tri)).1.map λx=>(x.2.1,x.2.2)
theorem jO{w:World}{base n:Nat}{e:TypeId}{s:Nat}{v:Value}{xs:List Value}(h:w.ownsRow base e s v n xs):∃a cap,v= .slice a n cap/\(a=none∨∃g,a=some ⟨g,0,none⟩):=by
 rcases h.2 with⟨rfl,rfl⟩|⟨g,cap,cur,rfl,_⟩
 .exact⟨none,0,rfl,.inl rfl⟩
 .exact⟨_,cap,rfl,.inr ⟨g,rfl⟩⟩
theorem vl{w:World}{base n:Nat}{e:TypeId}{s:Nat}{v:Value}{xs:List Value}(h:w.ownsRow base e s v n xs)(hn:0<n):∃g cap,v= .slice (some ⟨g,0,none⟩) n cap/\base<=g/\g<w.heap.size:=by
 rcases h.2 with⟨_,h0⟩|⟨g,cap,cur,rfl,hb,hg,_⟩
 .omega
 .exact⟨g,cap,rfl,hb,(Array.getElem?_eq_some_iff.1 hg).1⟩
theorem FK(base n:Nat)(a:Option Addr)(c:Nat)(L:List Ed)(w:World)(h:w.ownsRow base 36 2 (.slice a n c) n (ab L))(hn:n=L.length)(hl:n<4611686018427387904):
  Calls Try.prog 32 #[.slice a n c,.func (.func 33) #[] #[]] w λe w'=>e= .returned (.tuple #[])/\∃l':List Ed,l'.Perm L/\l'.Pairwise (λa b=>bl b a=false)/\RdE w' a l'/\w.grownBy w' (Value.slice a n c).ownBlock:=by
 rcases h.2 with⟨e,h0⟩|⟨g,c1,cur,e,hb,hg,_⟩
 .cases e;obtain rfl:L= []:=List.eq_nil_of_length_eq_zero (by omega);refine(AnyF.slices_SortFunc_none {Hw with} none 0 _ w).mono ?_;rintro x w' ⟨rfl,rfl⟩;exact⟨rfl,[],.refl _,List.Pairwise.nil,λi hi=>by simp at hi,⟨rfl,rfl,rfl,Nat.le_refl _,λ_ _ _=>rfl⟩⟩
 .cases e;subst hn;exact BN g c L w (h.lt g rfl).2 (λi hi k hk=>by rw [h.cellAt (i*2+k) (by omega),ij _ i k hi hk]) (λj=>h.frozenAt j) hl
theorem RdE.grown{w w':World}{a:Option Addr}{l:List Ed}{k:Nat}(h:RdE w a l)(hg:w.grownBy w' (some k))(hk:∀b,a=some b->b.block≠k):RdE w' a l:=by
 intro i hi;obtain⟨b,e,hl,h0,h1⟩:=h i hi;have hne:some b.block≠some k:=λh=>hk b e (Option.some.inj h);exact⟨b,e,Nat.lt_of_lt_of_le hl hg.size,hg.cell h0 (by rw [vc];exact hne),hg.cell h1 hne⟩
theorem yQ(R:Rg)(L:List (Int×Int×Int))(l':List Ed)(T:List ((Int×Int)×V))(hT:T.Perm (ko R L))(h0:∀p∈T,p.1.1=0)(hp:l'.Perm (T.map (toI R)))(hs:l'.Pairwise (λa b=>bl b a=false)):l'=(ko R L).map (toI R):=by
 have e1:(T.map (toI R)).map tri=T.map (toE R):=by
  rw [List.map_map];refine List.map_congr_left λp hp=> ?_;show((0:Int),p.1.2,(R.na p.2).1)=(p.1.1,p.1.2,(R.na p.2).1);rw [h0 p hp]
 have h:=BH R L (l'.map tri) T hT (by rw [<-e1];exact hp.map tri) (by
  rw [List.pairwise_map];refine hs.imp λ{a b} h=> ?_;have h1:decide (b.1<a.1)=false:=h;unfold Sm.klt Sm.key tri;simp only [decide_eq_false_iff_not]at h1 ⊢
  omega)
 have e2:(l'.map tri).map (λx=>(x.2.1,x.2.2))=l':=by rw [List.map_map];exact List.map_id'' (λx=>rfl) l'
 rw [<-e2,h,List.map_map];rfl
theorem Dc(V:World):(Instr.makeMap 54 none).run Try.prog V= .ok (.map (some V.heap.size)) (V.alloc (.map #[] 0)):=by
 simp [Instr.makeMap,run_underlying Try.underlying54,Go.asInt,asIntOf,Result.andThen]
set_option maxRecDepth 100000 in
set_option maxHeartbeats 4000000 in
theorem Ik(r n0:Int)(R:Rg)(a:Option Addr)(l:List Ed)(c:Nat)(w:World)
  (hIs:∀W,Below w.heap.size w W->Calls Try.prog 25 #[.int .i64 r] W λe w'=>e= .returned (.bool true)/\Below W.heap.size W w')
  (hSz:∀W,Below w.heap.size w W->Calls Try.prog 26 #[.int .i64 n0] W λe w'=>e= .returned (.bool true)/\Below W.heap.size W w')
  (hOf:∀x,ve x->∀W,Below w.heap.size w W->Calls Try.prog 30 #[.int .i64 x] W λe w'=>e= .returned (WV (R.o x))/\Below W.heap.size W w')
  (hAdd:∀x y W,Below w.heap.size w W->Calls Try.prog 29 #[.int .i64 r,WV x,WV y] W λe w'=>e= .returned (WV (R.ad x y))/\Below W.heap.size W w')
  (hNar:∀x W,Below w.heap.size w W->Calls Try.prog 31 #[.int .i64 r,WV x] W λe w'=>e= .returned (.tuple #[.int .i64 (R.na x).1,.bool (R.na x).2])/\Below W.heap.size W w')
  (hr:RdE w a l) (hI:∀e∈l,ve e.1/\ve e.2) (hb:l.any (pd n0)=false) (hl:l.length<=90000):
  Calls Try.prog 12 #[.int .i64 r,.int .i64 n0,.slice a l.length c] w λe w'=>∃n' a' c',e= .returned (.tuple #[.agg #[.int .i64 n',.slice a' (vk R l).length c'],.int .i64 (sy R (l.map tri)).2])/\n'=(if(sy R (l.map tri)).2=0 then n0 else 0)/\Out w.heap.size w' a' c' (vk R l)/\Below w.heap.size w w'/\(vk R l= []->a'=none):=by
 obtain⟨n,hn⟩:∃n,n=l.length:=⟨_,rfl⟩;rw [<-hn]at hl ⊢;have HN:=Lib.hid hn;clear hn;generalize hcr:sy R (l.map tri)=RS;have HCR:=Lib.hid hcr;clear hcr;generalize hno:(if RS.2=0 then n0 else 0)=NO;have HNO:=Lib.hid hno;clear hno;generalize hco:vk R l=OI;have HCO:=Lib.hid hco;clear hco;have HIs:=Lib.hid hIs;have HSz:=Lib.hid hSz;have HOf:=Lib.hid hOf;have HAdd:=Lib.hid hAdd;have HNar:=Lib.hid hNar;clear hIs hSz hOf hAdd hNar
 go_enter Try.func12,Try.ntmps12
 go_wp2_with fail
 have hb0:=bl2 w (.cells #[.int .i64 n0] 3) (.cells #[.int .i64 0,.slice none 0 0] 25);refine(HIs.out _ hb0).mono ?_;rintro x w1 ⟨rfl,hb1⟩
 have hN1:CellsAt w1 w.heap.size 3 #[.int .i64 n0]:=by
  have h1:CellsAt (w.alloc (.cells #[.int .i64 n0] 3)) w.heap.size 3 #[.int .i64 n0]:=World.alloc_heap_new w _;exact(h1.below (bl1 _ (.cells #[.int .i64 0,.slice none 0 0] 25))).below hb1
 have hR1:CellsAt w1 (w.heap.size+1) 25 #[.int .i64 0,.slice none 0 0]:=by
  have h1:CellsAt ((w.alloc (.cells #[.int .i64 n0] 3)).alloc (.cells #[.int .i64 0,.slice none 0 0] 25)) (w.alloc (.cells #[.int .i64 n0] 3)).heap.size 25 #[.int .i64 0,.slice none 0 0]:=World.alloc_heap_new _ _;rw [World.size_alloc]at h1;exact h1.below hb1
 have hbw1:Below w.heap.size w w1:=hb0.trans (hb1.mono hb0.size);have hG0:w.heap.size<=w.heap.size:=Nat.le_refl _;have hRB0:w.heap.size<=w.heap.size+1:=by omega
 clear hb0 hb1 HIs;generalize hRB:w.heap.size+1=RB at hR1 hRB0 ⊢;generalize hNB:w.heap.size=NB at hN1 ⊢;have c0:w1.cell? ⟨NB,0,none⟩=some (.int .i64 n0):=hN1.cell 0;have kN:=Has.of hN1.lt
 go_wp2_with fail
 refine(HSz.out _ hbw1).mono ?_;rintro x w2 ⟨rfl,hb2⟩;have hN2:=hN1.below hb2;have hR2:=hR1.below hb2;have hbw2:Below w.heap.size w w2:=hbw1.trans (hb2.mono hbw1.size);have hr2:=hr.below hbw2;clear hN1 hR1 hbw1 hb2 c0 kN HSz;have HC:=Lib.hid (Hx a l c n0 NB w2 hr2 (by rw [<-HN.out];omega) ⟨hN2.cell 0,hN2.lt⟩);rw [<-HN.out,hb]at HC
 go_wp2_with fail
 refine HC.out.mono ?_;rintro x w3 ⟨rfl,hb3⟩;have hN3:=hN2.below hb3;have hR3:=hR2.below hb3;have hbw3:Below w.heap.size w w3:=hbw2.trans (hb3.mono hbw2.size);clear hN2 hR2 hbw2 hb3 hr2 HC;have hmk:=Dc w3;have hM0:=MapF.new w3
 go_wp2_with fail
 obtain⟨B,hB⟩:∃B,B=w3.heap.size:=⟨_,rfl⟩;have hb1:=bl1 w3 (.map #[] 0);have hN4:=hN3.below hb1;have hR4:=hR3.below hb1;have hRBB:RB<B:=by rw [hB];exact hR3.lt
 have hNBB:NB<B:=by rw [hB];exact hN3.lt
 rw [<-hB]at hM0 ⊢;generalize w3.alloc (.map #[] 0)=W1 at hM0 hb1 hN4 hR4 ⊢;have hVB:w.heap.size<=B:=by rw [hB];exact hbw3.size
 have hbw1:Below w.heap.size w W1:=hbw3.trans (hb1.mono hbw3.size);clear hmk hB hb1 hbw3 hN3 hR3
 go_loopw [34] (λy wr=>∃j:Nat,y= .int .i64 (j:Int)/\j<=n/\MapF wr B j (fm R ((l.take j).map tri))/\CellsAt wr NB 3 #[.int .i64 n0]/\CellsAt wr RB 25 #[.int .i64 0,.slice none 0 0]/\Below w.heap.size w wr) (λy _=>n - (intOf y).toNat)
 case atStart=>exact⟨0,rfl,by omega,hM0,hN4,hR4,hbw1⟩
 case round=>
  clear hM0 hbw1 hN4 hR4;obtain⟨j,rfl,hj,hM,hN,hRc,hBw⟩:=hrel;by_cases hlt:(j:Int)<(n:Int)
  .obtain⟨b,rfl,hbl,c0,c1⟩:=(hr.below hBw) j (by rw [<-HN.out];omega);have j0:(0:Int)<=(j:Int):=by omega
   have kb:=Has.of hbl;have hIe:=hI _ (yL (show j<l.length by rw [<-HN.out];omega));have HT2:=Lib.hid (Ao (l:=l) (j:=j) (by rw [<-HN.out];omega));have HT:=FC R ((l.take j).map tri) (tri (el l j));rw [show(l.take j).map tri++ [tri (el l j)]=(l.take (j+1)).map tri by rw [HT2.out,List.map_append];rfl]at HT;obtain⟨ej,hej⟩:∃ej,ej=el l j:=⟨_,rfl⟩;rw [<-hej]at c0 c1 hIe HT;have hk:In2 (0,ej.1):=⟨rfl,hIe.1⟩;have hw1:=hIe.2;clear hej hIe HT2;generalize fm R ((l.take j).map tri)=f at hM HT
   go_wp2_with (at_lookup;refine qp _ rfl _ _ rfl B j f (0,ej.1) rfl (hM.alloc _) rfl hk ?_ ?_)
   .intro hf;rw [Da (e:=tri ej) hf]at HT;have HT':=Lib.hid HT;clear HT
    go_wp2_with fail
    refine fS 6 (by kernel_rfl) (by kernel_rfl) ?_;simp only [List.take_succ_cons,List.take_zero,List.drop_succ_cons,List.drop_zero]
    repeat (go_big_quiet_step (first|(go_at_call 30;exact Calls.regrown_of (HOf.out _ hw1 _ (hBw.trans (Below.mono (show Below wr.heap.size wr _ from(by repeat (first|with_reducible refine blg ?_ _ _|with_reducible refine bla ?_ _|with_reducible exact Below.refl _ _))) hBw.size))))))
    refine wpQuiet_nil ?_;rintro _ ⟨⟨d2,o2⟩,rfl⟩
    go_wp2_with (at_mapUpdate;refine jp _ rfl _ _ _ rfl B j f (0,ej.1) (R.o ej.2) (by unfold maxLen;omega) rfl (((hM.alloc _).alloc _).kept (bM (below_regrown _ _ _) none) (by simp)) rfl rfl hk ?_;intro w' hM' hg')
    refine⟨?_,by simp [intOf];omega⟩;have hbU:Below wr.heap.size wr (grow (redrawn ((wr.alloc (.cells #[.int .i64 ej.1,.int .i64 ej.2] 36)).alloc (.cells #[.int .i64 0,.int .u64 0] 57)) d2) o2):=(by repeat (first|with_reducible refine blg ?_ _ _|with_reducible refine bla ?_ _|with_reducible exact Below.refl _ _));have hN5:=hN.below hbU;have hR5:=hRc.below hbU;refine⟨j+1,by simp,by omega,by rw [HT'.out];exact hM',hN5.grown hg' (by simp;omega),hR5.grown hg' (by simp;omega),?_⟩;exact(hBw.trans (hbU.mono hBw.size)).trans (fB hg' (hBw.trans (hbU.mono hBw.size)).size hVB)
   .intro z1 z2 hf;rw [Db (e:=tri ej) hf]at HT;have HT':=Lib.hid HT;clear HT
    go_wp2_with fail
    refine fS 9 (by kernel_rfl) (by kernel_rfl) ?_;simp only [List.take_succ_cons,List.take_zero,List.drop_succ_cons,List.drop_zero]
    repeat (go_big_quiet_step (first|(go_at_call 30;exact Calls.regrown_of (HOf.out _ hw1 _ (hBw.trans (Below.mono (show Below wr.heap.size wr _ from(by repeat (first|with_reducible refine blg ?_ _ _|with_reducible refine bla ?_ _|with_reducible exact Below.refl _ _))) hBw.size))))|(go_at_call 29;exact Calls.regrown_of (HAdd.out (z1,z2) _ _ (hBw.trans (Below.mono (show Below wr.heap.size wr _ from(by repeat (first|with_reducible refine blg ?_ _ _|with_reducible refine bla ?_ _|with_reducible exact Below.refl _ _))) hBw.size))))))
    refine wpQuiet_nil ?_;rintro _ ⟨⟨d2,o2⟩,rfl⟩
    go_wp2_with (at_mapUpdate;refine jp _ rfl _ _ _ rfl B j f (0,ej.1) (R.ad (z1,z2) (R.o ej.2)) (by unfold maxLen;omega) rfl (((hM.alloc _).alloc _).kept (bM (below_regrown _ _ _) none) (by simp)) rfl rfl hk ?_;intro w' hM' hg')
    refine⟨?_,by simp [intOf];omega⟩;have hbU:Below wr.heap.size wr (grow (redrawn ((wr.alloc (.cells #[.int .i64 ej.1,.int .i64 ej.2] 36)).alloc (.cells #[.int .i64 z1,.int .u64 z2] 57)) d2) o2):=(by repeat (first|with_reducible refine blg ?_ _ _|with_reducible refine bla ?_ _|with_reducible exact Below.refl _ _));have hN5:=hN.below hbU;have hR5:=hRc.below hbU;refine⟨j+1,by simp,by omega,by rw [HT'.out];exact hM',hN5.grown hg' (by simp;omega),hR5.grown hg' (by simp;omega),?_⟩;exact(hBw.trans (hbU.mono hBw.size)).trans (fB hg' (hBw.trans (hbU.mono hBw.size)).size hVB)
  .obtain rfl:j=n:=by omega
   have hle:=hBw.size;rw [List.take_of_length_le (by rw [<-HN.out];exact Nat.le_refl _)]at hM;clear hlt hj;have c0:wr.cell? ⟨NB,0,none⟩=some (.int .i64 n0):=hN.cell 0;have kN:=Has.of hN.lt
   go_wp2_with (at_range;refine sB _ rfl _ rfl B j (fm R (l.map tri)) rfl (hM.alloc _) ?_;intro V3 hR3 hg3 hs3)
   have hBl:=hM.lt;have hG3:CellsAt V3 wr.heap.size 25 #[.int .i64 n0,.slice none 0 0]:=(show CellsAt (wr.alloc (.cells #[.int .i64 n0,.slice none 0 0] 25)) wr.heap.size 25 #[.int .i64 n0,.slice none 0 0]from World.alloc_heap_new wr _).grown hg3 (by simp);have hR3':CellsAt V3 RB 25 #[.int .i64 0,.slice none 0 0]:=(hRc.below (bl1 wr _)).grown hg3 (by simp);have hB3:Below w.heap.size w V3:=(hBw.trans ((bl1 wr _).mono hle)).trans ((kX hg3).mono (Nat.le_trans hle (bl1 wr _).size));rw [World.size_alloc]at hR3 hs3 ⊢;have hGB:B<wr.heap.size:=hBl;have hGw:w.heap.size<=wr.heap.size:=hle;clear hM hRc hBw hg3 hN hle hBl c0 kN;generalize wr.heap.size=G at hR3 hs3 hG3 hGB hGw ⊢;obtain⟨ri,hri⟩:∃ri,ri=G+1:=⟨_,rfl⟩;rw [<-hri]at hR3 hs3 ⊢;obtain⟨BS,hBS⟩:∃BS,BS=V3.heap.size:=⟨_,rfl⟩;have hriB:ri<BS:=by omega
   have hriG:G<ri:=by omega
   clear hri
   go_frame
   go_loopw [7] (λy wr=>∃done v,y= .int .i64 0/\RangF wr B ri j (fm R (l.map tri)) done/\CellsAt wr G 25 #[.int .i64 n0,v]/\CellsAt wr RB 25 #[.int .i64 0,.slice none 0 0]/\wr.ownsRow BS 36 2 v done.length (ab (done.map (toI R)))/\(∀p∈done,(R.na p.2).2=true)/\Below w.heap.size w wr/\BS<=wr.heap.size/\(done= []->v= .slice none 0 0)) (λ_ wr=>wr.rangeLeft B ri)
   case atStart=>exact⟨[],.slice none 0 0,rfl,hR3,hG3,hR3',World.ownsRow_nil _ _ _ _,by simp,hB3,by omega,λ_=>rfl⟩
   case round=>
    clear hR3 hG3 hR3' hB3 hs3;obtain⟨done,v,rfl,hR,hG,hRc,hown,hnb,hBw,hbs,hnil⟩:=hrel;obtain⟨a6,c6,rfl,ha6⟩:=jO hown;have hRl:=hR.lt
    go_wp2_with (at_next;refine vj _ rfl _ rfl B ri j (fm R (l.map tri)) done rfl hR ?_ ?_)
    .intro hall
     have hkI:∀k z,fm R (l.map tri) k=some z->In2 k:=by
      intro k z hkz;obtain⟨e,he,rfl⟩:=FD hkz;obtain⟨e',he',rfl⟩:=List.mem_map.1 he;exact⟨rfl,(hI e' he').1⟩
     have hT:done.Perm (ko R (l.map tri)):=(pA R (l.map tri)).perm hR.facts.1 (λp hp=>(hR.facts.2.1 p hp).2) (λk z hkz=>hall k.1 k.2 (hkI k z hkz) z.1 z.2 hkz);have hR0:sy R (l.map tri)=((ko R (l.map tri)).map (toE R),0):=CU (λk z hkz=>hnb (k,z) (hall k.1 k.2 (hkI k z hkz) z.1 z.2 hkz))
     have hO0:(ko R (l.map tri)).map (toI R)=OI:=by
      rw [<-HCO.out];unfold vk;rw [hR0,List.map_map];rfl
     have hRS:RS.2=0:=by rw [<-HCR.out,hR0]
     have h00:∀p∈done,p.1.1=0:=λp hp=>(hR.facts.2.1 p hp).1.1;have hdl:done.length<=j:=hR.facts.2.2;have HSO:=Lib.hid (FK BS done.length a6 c6 (done.map (toI R)) wr hown (by simp) (by omega));have hGne:(Value.slice a6 done.length c6).ownBlock≠some G:=λe=>by have:=(hown.lt G e).1;omega
     have hRne:(Value.slice a6 done.length c6).ownBlock≠some RB:=λe=>by have:=(hown.lt RB e).1;omega
     have hrbo:∀q,(Value.slice a6 done.length c6).ownBlock=some q->RB<q:=λq hq=>by have:=(hown.lt q hq).1;omega
     have HRBO:=Lib.hid hrbo;have hn0:done.length=0->a6=none:=λh=>by have h9:=hnil (List.eq_nil_of_length_eq_zero h);injection h9
     have HN0:=Lib.hid hn0;have hB0:∀q,(Value.slice a6 done.length c6).ownBlock=some q->w.heap.size<=q:=λq hq=>by have:=(hown.lt q hq).1;omega
     have hcap:done.length<=c6/\(a6=none->c6=0/\done.length=0):=by
      obtain⟨_,a',c',e,h1,_,h2⟩:=row_rdE hown;cases e;exact⟨h1,h2⟩
     have hlm:(done.map (toI R)).length=done.length:=List.length_map ..;clear hR hall hown hR0 hkI hn0 hrbo;generalize done.length=m at*;have g1:wr.cell? ⟨G,1,none⟩=some (.slice a6 m c6):=hG.cell 1;have kG:=Has.of hG.lt
     go_wp2_with fail
     refine HSO.out.mono ?_;rintro x w1 ⟨rfl,l',hp,hs,hrd,hg⟩;have hl':=yQ R (l.map tri) l' done hT h00 hp hs;rw [hO0]at hl';subst hl';have hlen:m=l'.length:=(hp.length_eq.trans hlm).symm;have hG1:=hG.grown hg hGne.symm;have hR1:=hRc.grown hg hRne.symm;have hB1:Below w.heap.size w w1:=hBw.trans ((ik hg hB0 hBw.size).mono (Nat.le_refl _));clear hG hRc hBw g1 kG hp hs hT hO0 HSO;have g0:w1.cell? ⟨G,0,none⟩=some (.int .i64 n0):=hG1.cell 0;have g1:w1.cell? ⟨G,1,none⟩=some (.slice a6 m c6):=hG1.cell 1;have kG:=Has.of hG1.lt;have r0:w1.cell? ⟨RB,0,none⟩=some (.int .i64 0):=hR1.cell 0;have r1:w1.cell? ⟨RB,1,none⟩=some (.slice none 0 0):=hR1.cell 1;have f0:=hR1.frozen 0;have f1:=hR1.frozen 1;have kR:=Has.of hR1.lt;have HRS:=Lib.hid hRS;have HLEN:=Lib.hid hlen;have HCAP:=Lib.hid hcap;clear hRS hlen hcap
     go_wp2_with fail
     refine bodyPost_ret (v:= .tuple #[.agg #[.int .i64 n0,.slice a6 m c6],.int .i64 0]) ?_ rfl ⟨n0,a6,c6,?_,?_,?_,?_,?_⟩
     .have hCF:CellsAt ((w1.setCell ⟨RB,0,none⟩ (.int .i64 n0)).setCell ⟨RB,1,none⟩ (.slice a6 m c6)) RB 25 #[.int .i64 n0,.slice a6 m c6]:=by simpa using (hR1.set 0 (.int .i64 n0)).set 1 (.slice a6 m c6)
      have k0:=hCF.cell 0;have k1:=hCF.cell 1;simp at k0 k1;simp [results,Try.results12,go_sem,k0,k1]
     .rw [HRS.out,<-HLEN.out]
     .rw [<-HNO.out,if_pos HRS.out]
     .have ho:∀b,a6=some b->RB<b.block:=by
       rintro b rfl;rcases ha6 with h|⟨g,h⟩
       .cases h
       .cases h;exact HRBO.out g rfl
      refine⟨(hrd.grown (al w1 RB 0 _) (λb hb=>Nat.ne_of_gt (ho b hb))).grown (al _ RB 1 _) (λb hb=>Nat.ne_of_gt (ho b hb)),λh=>⟨(HCAP.out.2 h).1,by rw [<-HLEN.out];exact(HCAP.out.2 h).2⟩,by rw [<-HLEN.out];exact HCAP.out.1,λb hb=>Nat.le_trans hRB0 (Nat.le_of_lt (ho b hb))⟩
     .exact bls (bls hB1 hRB0 _) hRB0 _
     .intro h;exact HN0.out (by rw [HLEN.out,h];rfl)
    .intro k1 k2 z1 z2 w' hR' hlt hg hs hen;have hown':=hown.kept hg (.inr (λe=>by have:=(hown.lt _ e).1;omega));have hG':=hG.grown hg (by simp;omega);have hRc':=hRc.grown hg (by simp;omega);have hB':Below w.heap.size w w':=hBw.trans ((fB hg hBw.size (by omega)).mono (Nat.le_refl _));clear hown hR hG hRc;have hwl:w'.heap.size=wr.heap.size:=hs
     go_wp2_with fail
     obtain⟨U,hU⟩:∃U,U=w'.alloc (.cells #[.int .i64 z1,.int .u64 z2] 57):=⟨_,rfl⟩;rw [<-hU];have hbU:Below w'.heap.size w' U:=by rw [hU];exact bl1 _ _
     clear hU hen;refine(HNar.out (z1,z2) U (hB'.trans (hbU.mono hB'.size))).mono ?_;rintro x w1 ⟨rfl,hb1⟩;have hbW:Below w'.heap.size w' w1:=hbU.trans (hb1.mono hbU.size);have hRW:=hR'.kept (bM hbW none) (by simp) (by simp);have hownW:=hown'.kept (bM hbW none) (Classical.em _);have hGW:=hG'.below hbW;have hRcW:=hRc'.below hbW;have hBW:Below w.heap.size w w1:=hB'.trans (hbW.mono hB'.size);have hlW:=hR'.left (bM hbW none) (by simp) (by simp);have hfz:=hR'.facts;have hsW:=hbW.size;clear hbU hb1 hown' hG' hRc';cases hz:(R.na (z1,z2)).2
     .have hR0:=BG (R:=R) (l:=l.map tri) (hfz.2.1 ((k1,k2),(z1,z2)) (by simp)).2 hz;have hO0:OI= []:=by rw [<-HCO.out];unfold vk;rw [hR0];rfl
      rw [HCR.out]at hR0;have HR0:=Lib.hid hR0;have HO0:=Lib.hid hO0;clear hR0 hO0;have r0:w1.cell? ⟨RB,0,none⟩=some (.int .i64 0):=hRcW.cell 0;have r1:w1.cell? ⟨RB,1,none⟩=some (.slice none 0 0):=hRcW.cell 1;have f0:=hRcW.frozen 0;have f1:=hRcW.frozen 1;have kR:=Has.of hRcW.lt
      go_wp2_with fail
      refine bodyPost_ret (v:= .tuple #[.agg #[.int .i64 0,.slice none 0 0],.int .i64 12]) ?_ rfl ⟨0,none,0,?_,?_,?_,?_,λ_=>rfl⟩
      .have hCF:CellsAt ((w1.setCell ⟨RB,0,none⟩ (.int .i64 0)).setCell ⟨RB,1,none⟩ (.slice none 0 0)) RB 25 #[.int .i64 0,.slice none 0 0]:=by simpa using (hRcW.set 0 (.int .i64 0)).set 1 (.slice none 0 0)
       have k0:=hCF.cell 0;have k1:=hCF.cell 1;simp at k0 k1;simp [results,Try.results12,go_sem,k0,k1]
      .rw [HR0.out,HO0.out];rfl
      .rw [<-HNO.out,HR0.out];rfl
      .rw [HO0.out];exact FF _ _
      .exact bls (bls hBW hRB0 _) hRB0 _
     .have hdl:done.length+1<=j:=by have:=hfz.2.2;simpa using this
      have g1:w1.cell? ⟨G,1,none⟩=some (.slice a6 done.length c6):=hGW.cell 1;have kG:=Has.of hGW.lt;have hGA:=hGW.below (bl1 w1 (.cells #[.int .i64 k2,.int .i64 (R.na (z1,z2)).1] 36));have hRcA:=hRcW.below (bl1 w1 (.cells #[.int .i64 k2,.int .i64 (R.na (z1,z2)).1] 36));have hga:=World.grownBy_alloc w1 (.cells #[.int .i64 k2,.int .i64 (R.na (z1,z2)).1] 36) none;have hRA:=hRW.kept hga (by simp) (by simp);have hlA:=hRW.left hga (by simp) (by simp);have hBA:Below w.heap.size w (w1.alloc (.cells #[.int .i64 k2,.int .i64 (R.na (z1,z2)).1] 36)):=bla hBW _;have hownA:=hownW.alloc (.cells #[.int .i64 k2,.int .i64 (R.na (z1,z2)).1] 36);have hbsA:BS<=(w1.alloc (.cells #[.int .i64 k2,.int .i64 (R.na (z1,z2)).1] 36)).heap.size:=by simp;omega
      clear hownW
      go_wp2_with (refine fj rfl _ _ rfl BS _ done.length (done.map (toI R)) rfl hownA _ 1 1 [(k2,(R.na (z1,z2)).1)] rfl rfl (FG _ _ _) (by simp) (by omega) hbsA ?_;intro v' w2 hown2 hg2 hat2;obtain⟨g',c',rfl,hgb,hgl⟩:=vl hown2 (by omega);have hG3:=hGA.grown hg2 (λe=>by have:=(hownA.lt G e.symm).1;omega);have hR3:=hRcA.grown hg2 (λe=>by have:=(hownA.lt RB e.symm).1;omega);have t1:=hG3.cell 1;have tf:=hG3.frozen 1;have kG3:=Has.of hG3.lt)
      have hgb':Below w.heap.size w w2:=hBA.trans (ik hg2 (λq hq=>Nat.le_trans (by omega) (hownA.lt q hq).1) hBA.size);have hs2:=hg2.size;have hRne:(Value.slice a6 done.length c6).ownBlock≠some B:=λe=>by have:=(hownA.lt B e).1;omega
      have hRne2:(Value.slice a6 done.length c6).ownBlock≠some ri:=λe=>by have:=(hownA.lt ri e).1;omega
      have hR2:=hRA.kept hg2 (Ne.symm hRne) (Ne.symm hRne2);have hl2:=hRA.left hg2 (Ne.symm hRne) (Ne.symm hRne2);have hg4:=al w2 G 1 (.slice (some ⟨g',0,none⟩) (done.length+1) c');have hRl2:=hR2.lt;refine⟨⟨done++ [((k1,k2),(z1,z2))],.slice (some ⟨g',0,none⟩) (done.length+1) c',rfl,hR2.kept hg4 (by simp;omega) (by simp;omega),by simpa using hG3.set 1 (.slice (some ⟨g',0,none⟩) (done.length+1) c'),dL hR3 (by omega) _ _,?_,?_,bls hgb' hGw _,by simp;omega,by simp⟩,?_⟩
      .have h9:=hown2.kept hg4 (.inr (by simp [Value.ownBlock];omega));simpa [toI]using h9
      .intro p hp;rcases List.mem_append.1 hp with hp|hp
       .exact hnb p hp
       .simp at hp;subst hp;exact hz
      .rw [hR2.left hg4 (by simp;omega) (by simp;omega),hl2,hlA,hlW];exact hlt
end It
end Sm
end
noncomputable section
namespace Ev
namespace KM
open Go Go.RowKit
def iB(x:Int):Option (Int×Int):=K.iB x
def ee(x:Int×Int)(y:Int×Int):Option (Int):=K.ee (x,y)
def eT(x:Int×Int)(y:Int×Int):Option (Int×Int):=K.eT (x,y)
def eM(x:Bool):Option (Int×Int):=K.eM x
def ig(x:Int×Int)(y:Int×Int):Option (Int×Int):=K.ig (x,y)
def jn(x:Int)(y:Int×Int)(z:Int×Int):Option (Int×Int):=K.jn (x,y,z)
def fQ(x:Int×Int):Option (Int×Bool):=K.fQ x
def fR(x:Int)(y:Int×Int):Option (Int×Bool):=K.fR (x,y)
def mb(x:Int):Option (Bool):=K.mb x
def bL(x:Int):Option (Bool):=K.bL x
def bG(x:Int×(Sl (Int×Int))):Option (Bool):=K.bG x
def bE(x:Int×(Sl (Int×Int))):Option (Int×(Sl (Int×Int))):=K.bE x
def dj(x:Int×(Sl (Int×Int)))(y:Int):Option (Int×Bool):=K.dj (x,y)
end KM
end Ev
end
noncomputable section
namespace Ev
namespace KM
open Go Go.RowKit
set_option maxRecDepth 100000
set_option maxHeartbeats 1000000
theorem yR(x:Int):iB x=(xW IntKind.i64 x 63).bind λ(z:Int)=>some (z,IntKind.u64.wrap x):=by kernel_rfl
theorem pg(x:Int×Int)(y:Int×Int):ee x y=if x.fst=y.fst/\x.snd=y.snd then some 0
else if x.fst<y.fst then some (-1)else if x.fst=y.fst then if x.snd<y.snd then some (-1)else some 1 else some 1:=by kernel_rfl
theorem qq(x:Int×Int)(y:Int×Int):eT x y=(ee y x).bind λ(out:Int)=>if out<0 then some y else some x:=by kernel_rfl
theorem sD(x:Bool):eM x=if x=true then(iB 1).bind λ(out:Int×Int)=>some out else some (0,0):=by kernel_rfl
def jq(x:Int×Int)(y:Int×Int):Int->Int->Option (Int×Int):=λ(d d_1:Int)=>some (IntKind.i64.wrap (d+d_1),IntKind.u64.wrap (x.snd+y.snd))
theorem xh(x:Int×Int)(y:Int×Int):ig x y=if IntKind.u64.wrap (x.snd+y.snd)<x.snd then jq x y (IntKind.i64.wrap (x.fst+y.fst)) 1
else jq x y x.fst y.fst:=by kernel_rfl
theorem xi(x:Int)(y:Int×Int)(z:Int×Int):jn x y z=(if x=1 then some (Sum.inl true)else if x=3 then some (Sum.inl true)else some (Sum.inl (decide (x=4)))).bind λ(y_1:Bool ⊕ Empty)=>Sum.elim (λ(val:Bool)=>if val=true then(eT y z).bind λ(out:Int×Int)=>some out else if x=2 then if¬(y.fst=0/\y.snd=0)then(eM true).bind λ(out:Int×Int)=>some out else(eM (decide ¬(z.fst=0/\z.snd=0))).bind λ(out:Int×Int)=>some out else if x=5 then(ig y z).bind λ(out:Int×Int)=>some out else some (0,0)) (λ(val:Empty)=>nE val) y_1:=by kernel_rfl
theorem qr(x:Int×Int):fQ x=(iB (IntKind.i64.wrap x.snd)).bind λ(out:Int×Int)=>if¬(x.fst=out.fst/\x.snd=out.snd)then some (0,false)else some (IntKind.i64.wrap x.snd,true):=by kernel_rfl
theorem qt(x:Int)(y:Int×Int):fR x y=(fQ y).bind λ(out:Int×Bool)=>some (out.fst,decide (out.snd=true)):=by kernel_rfl
theorem yS(x:Int):mb x=if x >= 1 then some (decide (x<=5))else some false:=by kernel_rfl
theorem fM(x:Int):bL x=if x >= 0 then some (decide (x<=4096))else some false:=by kernel_rfl
def aZ(x:Int×Sl (Int×Int)):Int×Int->Option (Int×Int ⊕ PUnit ⊕ Bool ⊕ Empty):=λ(x_1:Int×Int)=>if x_1.snd<(↑x.snd.l.length:Int)then(atS 2 x.snd x_1.snd).bind λ(y:Int×Int)=>if y.fst<=x_1.fst then some (Sum.inr (Sum.inr (Sum.inl false)))else if y.fst >= x.fst then some (Sum.inr (Sum.inr (Sum.inl false)))else some (Sum.inl (y.fst,IntKind.i64.wrap (x_1.snd+1)))else some (Sum.inr (Sum.inl ()))
theorem gA(x:Int×Sl (Int×Int)):bG x=(bL x.fst).bind λ(out:Bool)=>if¬out=true then some false else(cB (aZ x) (-1,0)).bind λ(y:PUnit ⊕ Bool ⊕ Empty)=>Sum.elim (λ(val:PUnit)=>some true) (λ(val:Bool ⊕ Empty)=>Sum.elim (λ(val:Bool)=>some val) (λ(val:Empty)=>nE val) val) y:=by kernel_rfl
theorem sE(x:Int×Sl (Int×Int)):bE x=(bG x).bind λ(out:Bool)=>if out=true then some x else some (0,{nn:=false,sz:=0,l:= []}):=by kernel_rfl
def dz(x:Int×Sl (Int×Int))(y:Int):Int×Int->Option (Int×Int ⊕ Int ⊕ Empty):=λ(x_1:Int×Int)=>if x_1.fst<x_1.snd then(xW IntKind.u64 (IntKind.u64.wrap (IntKind.i64.wrap (x_1.fst+x_1.snd))) 1).bind λ(z:Int)=>(atS 2 x.snd (IntKind.i64.wrap z)).bind λ(y_1:Int×Int)=>if¬y_1.fst >= y then some (Sum.inl (IntKind.i64.wrap (IntKind.i64.wrap z+1),x_1.snd))else some (Sum.inl (x_1.fst,IntKind.i64.wrap z))else some (Sum.inr (Sum.inl x_1.fst))
theorem sG(x:Int×Sl (Int×Int))(y:Int):dj x y=(cB (dz x y) (0,(↑x.snd.l.length:Int))).bind λ(y_1:Int ⊕ Empty)=>Sum.elim (λ(val:Int)=>if val<(↑x.snd.l.length:Int)then(atS 2 x.snd val).bind λ(y_2:Int×Int)=>some (val,decide (y_2.fst=y))else some (val,false)) (λ(val:Empty)=>nE val) y_1:=by kernel_rfl
end KM
end Ev
end
noncomputable section
namespace Ev
namespace KM
open Go
def BO(n:Int):Prop:= -9223372036854775808<=n/\n<=9223372036854775807
theorem De(n:Int):IntKind.u64.wrap n=n % 18446744073709551616:=by
 simp [IntKind.wrap,IntKind.signed,IntKind.bits]
theorem Df(n:Int):BO (IntKind.i64.wrap n):=by rw [IntKind.wrap_i64];unfold BO;omega
def ofW(n:Int):Int×Int:=(if n<0 then -1 else 0,IntKind.u64.wrap n)
def Dg(a b:Int×Int):Bool:=decide (a.1<b.1)||(decide (a.1=b.1)&& decide (a.2<b.2))
def yT(a b:Int×Int):Int×Int:=if Dg b a=true then b else a
def yU(b:Bool):Int×Int:=if b=true then(0,1)else(0,0)
def Il(a b:Int×Int):Int×Int:=if IntKind.u64.wrap (a.2+b.2)<a.2 then(IntKind.i64.wrap (IntKind.i64.wrap (a.1+b.1)+1),IntKind.u64.wrap (a.2+b.2))else(IntKind.i64.wrap (a.1+b.1),IntKind.u64.wrap (a.2+b.2))
def mn(r:Int)(a b:Int×Int):Int×Int:=
 if r=1∨r=3∨r=4 then yT a b else if r=2 then yU (!(decide (a.1=0/\a.2=0)&& decide (b.1=0/\b.2=0)))else if r=5 then Il a b else(0,0)
def jP(a:Int×Int):Int×Bool:=if a=ofW (IntKind.i64.wrap a.2)then(IntKind.i64.wrap a.2,true)else(0,false)
def jr(r:Int):Bool:=decide (1<=r)&& decide (r<=5)
theorem ny{n:Int}(h:BO n):iB n=some (ofW n):=by
 rw [yR];unfold xW ofW GF;rw [if_pos (by omega)];have e:(2:Int)^(min (63:Int).toNat IntKind.i64.bits)=9223372036854775808:=by decide
 rw [e];unfold BO at h
 have:n.fdiv 9223372036854775808=if n<0 then -1 else 0:=by
  rw [Int.fdiv_eq_ediv_of_nonneg _ (by omega)];split<;>omega
 rw [this];rfl
theorem ph(a b:Int×Int):∃c,ee a b=some c/\(c<0↔Dg a b=true):=by
 obtain⟨a1,a2⟩:=a;obtain⟨b1,b2⟩:=b;rw [pg];unfold Dg;simp only;by_cases h1:a1=b1/\a2=b2
 .rw [if_pos h1];exact⟨0,rfl,by simp;omega⟩
 rw [if_neg h1];by_cases h2:a1<b1
 .rw [if_pos h2];exact⟨-1,rfl,by simp [h2]⟩
 rw [if_neg h2];by_cases h3:a1=b1
 .rw [if_pos h3];by_cases h4:a2<b2
  .rw [if_pos h4];exact⟨-1,rfl,by simp [h3,h4]⟩
  .rw [if_neg h4];exact⟨1,rfl,by simp [h3];omega⟩
 .rw [if_neg h3];exact⟨1,rfl,by simp [h3];omega⟩
theorem sH(a b:Int×Int):eT a b=some (yT a b):=by
 obtain⟨c,h1,h2⟩:=ph b a;rw [qq,h1];unfold yT;simp only [zbS];by_cases hc:c<0
 .rw [if_pos hc,if_pos (h2.1 hc)]
 .rw [if_neg hc,if_neg (λh=>hc (h2.2 h))]
theorem vm(b:Bool):eM b=some (yU b):=by
 rw [sD];unfold yU;cases b
 .rfl
 .simp only [if_true,ny (show BO 1 by unfold BO;omega),zbS];rfl
theorem yV(a b:Int×Int):ig a b=some (Il a b):=by
 rw [xh];unfold Il jq;split
 .rfl
 .obtain⟨a1,a2⟩:=a;obtain⟨b1,b2⟩:=b;rfl
theorem yW(r:Int)(a b:Int×Int):jn r a b=some (mn r a b):=by
 rw [xi];unfold mn;simp only [sH,vm,yV,zbS];by_cases h1:r=1
 .simp [h1]
 by_cases h3:r=3
 .simp [h3]
 by_cases h4:r=4
 .simp [h4]
 simp only [if_neg h1,if_neg h3,if_neg (show¬(r=1∨r=3∨r=4)by omega),decide_eq_false h4,zbS,Sum.elim_inl,Bool.false_eq_true,if_false];by_cases h2:r=2
 .simp only [if_pos h2];by_cases ha:a.1=0/\a.2=0
  .by_cases hb:b.1=0/\b.2=0
   .simp [ha,hb]
   .simp [ha,hb]
  .simp [ha]
 .simp only [if_neg h2];split<;>rfl
theorem sI(r:Int)(a:Int×Int):fR r a=some (jP a):=by
 rw [qt,qr];obtain⟨a1,a2⟩:=a;unfold jP;simp only [ny (Df a2),zbS];by_cases h:(a1,a2)=ofW (IntKind.i64.wrap a2)
 .have h':a1=(ofW (IntKind.i64.wrap a2)).1/\a2=(ofW (IntKind.i64.wrap a2)).2:=⟨congrArg Prod.fst h,congrArg Prod.snd h⟩;rw [if_pos h,if_neg (λhh=>hh h')];rfl
 .have h':¬(a1=(ofW (IntKind.i64.wrap a2)).1/\a2=(ofW (IntKind.i64.wrap a2)).2):=λhh=>h (Prod.ext hh.1 hh.2);rw [if_neg h,if_pos h'];rfl
theorem BP(r:Int):mb r=some (jr r):=by
 rw [yS];unfold jr;by_cases h1:r >= 1
 .rw [if_pos h1,decide_eq_true (show 1<=r from h1)];simp
 .rw [if_neg h1,decide_eq_false (show¬1<=r from h1)];rfl
end KM
end Ev
end
noncomputable section
namespace Ev
namespace K
open Go Go.RowKit
set_option maxRecDepth 100000
set_option maxHeartbeats 1000000
def Dh:Ax:=(λ_=>none)
theorem BQ:sY Try.prog Dh:=(nM _)
def Di:Ax:=(aH (aH (aH (aH (aH (aH (aH (aH (aH (aH (aH (aH (aH (aH (aH (aH (aH (aH (aH (aH Dh 27 ay) 28 ay) 32 ay) 33 ay) 40 ay) 45 ay) 48 ay) 49 ay) 53 ay) 54 ay) 55 ay) 56 ay) 57 ay) 58 ay) 59 ay) 60 ay) 64 ay) 67 ay) 68 ay) 70 ay)
theorem BT:sY Try.prog Di:=(am (am (am (am (am (am (am (am (am (am (am (am (am (am (am (am (am (am (am (am BQ λvs kind rs h=>by simp [ay]at h) λvs kind rs h=>by simp [ay]at h) λvs kind rs h=>by simp [ay]at h) λvs kind rs h=>by simp [ay]at h) λvs kind rs h=>by simp [ay]at h) λvs kind rs h=>by simp [ay]at h) λvs kind rs h=>by simp [ay]at h) λvs kind rs h=>by simp [ay]at h) λvs kind rs h=>by simp [ay]at h) λvs kind rs h=>by simp [ay]at h) λvs kind rs h=>by simp [ay]at h) λvs kind rs h=>by simp [ay]at h) λvs kind rs h=>by simp [ay]at h) λvs kind rs h=>by simp [ay]at h) λvs kind rs h=>by simp [ay]at h) λvs kind rs h=>by simp [ay]at h) λvs kind rs h=>by simp [ay]at h) λvs kind rs h=>by simp [ay]at h) λvs kind rs h=>by simp [ay]at h) λvs kind rs h=>by simp [ay]at h)
def E1B:Env:=oC Try.prog Di
theorem cS:E1B.Ok:=jx nr ns BT
theorem fC:Hd E1B TT:=⟨tz1,⟨tz2,⟨tz3,⟨tz4,⟨tz5,⟨tz6,⟨tz7,⟨tz8,⟨Ju,⟨Jv,⟨Jw,⟨Jx,⟨Jy,⟨Jz,⟨JA,⟨Ib,⟨Ic,⟨JB,⟨Id,⟨JC,⟨JD,⟨JE,⟨JF,⟨JG,⟨JH,⟨JI,⟨JJ,⟨JK,⟨Ie,⟨JL,⟨JM,⟨JN,⟨JO,⟨JP,⟨JQ,⟨JR,⟨JS,⟨JT,⟨JU,⟨JV,⟨JW,⟨JY,⟨JZ,⟨Ka,⟨Kb,⟨Kc,⟨Kd,⟨Ke,⟨Kf,⟨Kg,⟨Kh,⟨Ki,⟨Kj,⟨Kk,⟨Kl,⟨Km,⟨Kn,⟨Ko,⟨Kp,⟨Kq,⟨Kr,⟨Ks,⟨Kt,⟨Ku,⟨Kv,⟨Kw,⟨Kx,⟨Kz,⟨KA,⟨KH,⟨KI,⟨KJ,⟨KL,⟨KN,⟨KO,⟨KP,⟨KQ,⟨KR,⟨KU,⟨KX,⟨KY,⟨KZ,⟨La,⟨Lb,⟨Lc,⟨Ld,⟨Hh,⟨Hi,⟨Hj,⟨Hk,⟨Hl,⟨Hm,⟨Hn,⟨Ho,⟨Hp,⟨Hq,⟨Hr,⟨Hs,⟨Ht,trivial⟩⟩⟩⟩⟩⟩⟩⟩⟩⟩⟩⟩⟩⟩⟩⟩⟩⟩⟩⟩⟩⟩⟩⟩⟩⟩⟩⟩⟩⟩⟩⟩⟩⟩⟩⟩⟩⟩⟩⟩⟩⟩⟩⟩⟩⟩⟩⟩⟩⟩⟩⟩⟩⟩⟩⟩⟩⟩⟩⟩⟩⟩⟩⟩⟩⟩⟩⟩⟩⟩⟩⟩⟩⟩⟩⟩⟩⟩⟩⟩⟩⟩⟩⟩⟩⟩⟩⟩⟩⟩⟩⟩⟩⟩⟩⟩⟩⟩⟩
theorem eh:He E1B.P EQS:=⟨HX Fx Fy,⟨HX Fz FA,trivial⟩⟩
theorem MK:E1B.fn 9=some fi9:=gM Try.func9 rfl
theorem LC:E1B.fn 21=some Lf:=gM Try.func21 rfl
theorem LE:E1B.fn 25=some Lg:=gM Try.func25 rfl
theorem LF:E1B.fn 26=some Lh:=gM Try.func26 rfl
theorem LG:E1B.fn 29=some Li:=gM Try.func29 rfl
theorem LH:E1B.fn 30=some Lj:=gM Try.func30 rfl
theorem LI:E1B.fn 31=some Lk:=gM Try.func31 rfl
theorem LJ:E1B.fn 35=some Ll:=gM Try.func35 rfl
theorem LK:E1B.fn 41=some Lm:=gM Try.func41 rfl
theorem LL:E1B.fn 42=some Ln:=gM Try.func42 rfl
theorem LM:E1B.fn 43=some Lo:=gM Try.func43 rfl
theorem LN:E1B.fn 44=some Lp:=gM Try.func44 rfl
theorem LO:E1B.fn 48=some Lr:=gM Try.func48 rfl
theorem LP:E1B.fn 49=some Ls:=gM Try.func49 rfl
theorem LR:E1B.fn 52=some Lt:=gM Try.func52 rfl
end K
end Ev
end
noncomputable section
namespace Ev
namespace K
open Go Go.RowKit
set_option maxRecDepth 100000
set_option maxHeartbeats 1000000
theorem vn:GOk tw E1B 0:=gok cS fC eh trivial trivial
theorem js:cD E1B nu:=fJ vn (by kernel_rfl) LH (by kernel_rfl) rfl
theorem mq:GOk jk E1B 0:=gok cS fC eh trivial trivial
theorem nz:cD E1B jm:=fJ mq (by kernel_rfl) LR (by kernel_rfl) rfl
theorem nA:GOk kv E1B 1:=gok cS fC eh ⟨⟨by decide,nz⟩,trivial⟩ trivial
theorem pj:cD E1B kw:=fJ nA (by kernel_rfl) LK (by kernel_rfl) rfl
theorem pk:GOk lZ E1B 1:=gok cS fC eh ⟨⟨by decide,js⟩,trivial⟩ trivial
theorem qu:cD E1B ma:=fJ pk (by kernel_rfl) LL (by kernel_rfl) rfl
theorem sJ:GOk qf E1B 0:=gok cS fC eh trivial trivial
theorem vo:cD E1B qg:=fJ sJ (by kernel_rfl) LM (by kernel_rfl) rfl
theorem sK:GOk qh E1B 2:=gok cS fC eh ⟨⟨by decide,pj⟩,⟨⟨by decide,qu⟩,⟨⟨by decide,vo⟩,trivial⟩⟩⟩ trivial
theorem vp:cD E1B yJ:=fJ sK (by kernel_rfl) LG (by kernel_rfl) rfl
theorem nB:GOk ky E1B 1:=gok cS fC eh ⟨⟨by decide,js⟩,trivial⟩ trivial
theorem pm:cD E1B kz:=fJ nB (by kernel_rfl) LN (by kernel_rfl) rfl
theorem nD:GOk kA E1B 2:=gok cS fC eh ⟨⟨by decide,pm⟩,trivial⟩ trivial
theorem pn:cD E1B sv:=fJ nD (by kernel_rfl) LI (by kernel_rfl) rfl
theorem vq:GOk tz E1B 0:=gok cS fC eh trivial trivial
theorem xj:cD E1B BE:=fJ vq (by kernel_rfl) LE (by kernel_rfl) rfl
theorem po:GOk mc E1B 0:=gok cS fC eh trivial trivial
theorem jt:cD E1B me:=fJ po (by kernel_rfl) LF (by kernel_rfl) rfl
theorem nF:GOk kB E1B 1:=gok cS fC eh ⟨⟨by decide,jt⟩,trivial⟩ trivial
theorem pr:cD E1B kD:=fJ nF (by kernel_rfl) LC (by kernel_rfl) rfl
theorem pu:GOk mf E1B 2:=gok cS fC eh ⟨⟨by decide,pr⟩,trivial⟩ trivial
theorem qv:cD E1B mg:=fJ pu (by kernel_rfl) MK (by kernel_rfl) rfl
theorem pw:GOk mh E1B 0:=gok cS fC eh trivial ⟨⟨LO,rfl⟩,⟨⟨LP,rfl⟩,trivial⟩⟩
theorem qw:cD E1B uY:=fJ pw (by kernel_rfl) LJ (by kernel_rfl) rfl
end K
end Ev
end
noncomputable section
open Go.RowKit Go.Sort
namespace Sm
namespace It
open Ev Ev.KM
set_option maxRecDepth 100000 in
set_option maxHeartbeats 1000000 in
theorem FM(r n0:Int)(a:Option Addr)(l:List Ed)(c:Nat)(w:World)
  (hIs:∀W,Below w.heap.size w W->Calls Try.prog 25 #[.int .i64 r] W λe w'=>e= .returned (.bool false)/\Below W.heap.size W w'):
  Calls Try.prog 12 #[.int .i64 r,.int .i64 n0,.slice a l.length c] w λe w'=>e= .returned (.tuple #[.agg #[.int .i64 0,.slice none 0 0],.int .i64 8])/\Below w.heap.size w w':=by
 obtain⟨n,hn⟩:∃n,n=l.length:=⟨_,rfl⟩;rw [<-hn];have HN:=Lib.hid hn;clear hn;have HIs:=Lib.hid hIs;clear hIs
 go_enter Try.func12,Try.ntmps12
 go_wp2_with fail
 have hb0:=bl2 w (.cells #[.int .i64 n0] 3) (.cells #[.int .i64 0,.slice none 0 0] 25);refine(HIs.out _ hb0).mono ?_;rintro x w1 ⟨rfl,hb1⟩
 have hN1:CellsAt w1 w.heap.size 3 #[.int .i64 n0]:=by
  have h1:CellsAt (w.alloc (.cells #[.int .i64 n0] 3)) w.heap.size 3 #[.int .i64 n0]:=World.alloc_heap_new w _;exact(h1.below (bl1 _ (.cells #[.int .i64 0,.slice none 0 0] 25))).below hb1
 have hR1:CellsAt w1 (w.heap.size+1) 25 #[.int .i64 0,.slice none 0 0]:=by
  have h1:CellsAt ((w.alloc (.cells #[.int .i64 n0] 3)).alloc (.cells #[.int .i64 0,.slice none 0 0] 25)) (w.alloc (.cells #[.int .i64 n0] 3)).heap.size 25 #[.int .i64 0,.slice none 0 0]:=World.alloc_heap_new _ _;rw [World.size_alloc]at h1;exact h1.below hb1
 have hbw1:Below w.heap.size w w1:=hb0.trans (hb1.mono hb0.size);have hG0:w.heap.size<=w.heap.size:=Nat.le_refl _;have hRB0:w.heap.size<=w.heap.size+1:=by omega
 clear hb0 hb1 HIs;generalize hRB:w.heap.size+1=RB at hR1 hRB0 ⊢;generalize hNB:w.heap.size=NB at hN1 ⊢;have r0:w1.cell? ⟨RB,0,none⟩=some (.int .i64 0):=hR1.cell 0;have r1:w1.cell? ⟨RB,1,none⟩=some (.slice none 0 0):=hR1.cell 1;have f0:=hR1.frozen 0;have f1:=hR1.frozen 1;have kR:=Has.of hR1.lt
 go_wp2_with fail
 refine bodyPost_ret (v:= .tuple #[.agg #[.int .i64 0,.slice none 0 0],.int .i64 8]) ?_ rfl ⟨rfl,bls (bls hbw1 hRB0 _) hRB0 _⟩;have hCF:CellsAt ((w1.setCell ⟨RB,0,none⟩ (.int .i64 0)).setCell ⟨RB,1,none⟩ (.slice none 0 0)) RB 25 #[.int .i64 0,.slice none 0 0]:=by simpa using (hR1.set 0 (.int .i64 0)).set 1 (.slice none 0 0)
 have k0:=hCF.cell 0;have k1:=hCF.cell 1;simp at k0 k1;simp [results,Try.results12,go_sem,k0,k1]
set_option maxRecDepth 100000 in
set_option maxHeartbeats 1000000 in
theorem FN(r n0:Int)(a:Option Addr)(l:List Ed)(c:Nat)(w:World)
  (hIs:∀W,Below w.heap.size w W->Calls Try.prog 25 #[.int .i64 r] W λe w'=>e= .returned (.bool true)/\Below W.heap.size W w')
  (hSz:∀W,Below w.heap.size w W->Calls Try.prog 26 #[.int .i64 n0] W λe w'=>e= .returned (.bool false)/\Below W.heap.size W w'):
  Calls Try.prog 12 #[.int .i64 r,.int .i64 n0,.slice a l.length c] w λe w'=>e= .returned (.tuple #[.agg #[.int .i64 0,.slice none 0 0],.int .i64 3])/\Below w.heap.size w w':=by
 obtain⟨n,hn⟩:∃n,n=l.length:=⟨_,rfl⟩;rw [<-hn];have HN:=Lib.hid hn;clear hn;have HIs:=Lib.hid hIs;have HSz:=Lib.hid hSz;clear hIs hSz
 go_enter Try.func12,Try.ntmps12
 go_wp2_with fail
 have hb0:=bl2 w (.cells #[.int .i64 n0] 3) (.cells #[.int .i64 0,.slice none 0 0] 25);refine(HIs.out _ hb0).mono ?_;rintro x w1 ⟨rfl,hb1⟩
 have hN1:CellsAt w1 w.heap.size 3 #[.int .i64 n0]:=by
  have h1:CellsAt (w.alloc (.cells #[.int .i64 n0] 3)) w.heap.size 3 #[.int .i64 n0]:=World.alloc_heap_new w _;exact(h1.below (bl1 _ (.cells #[.int .i64 0,.slice none 0 0] 25))).below hb1
 have hR1:CellsAt w1 (w.heap.size+1) 25 #[.int .i64 0,.slice none 0 0]:=by
  have h1:CellsAt ((w.alloc (.cells #[.int .i64 n0] 3)).alloc (.cells #[.int .i64 0,.slice none 0 0] 25)) (w.alloc (.cells #[.int .i64 n0] 3)).heap.size 25 #[.int .i64 0,.slice none 0 0]:=World.alloc_heap_new _ _;rw [World.size_alloc]at h1;exact h1.below hb1
 have hbw1:Below w.heap.size w w1:=hb0.trans (hb1.mono hb0.size);have hG0:w.heap.size<=w.heap.size:=Nat.le_refl _;have hRB0:w.heap.size<=w.heap.size+1:=by omega
 clear hb0 hb1 HIs;generalize hRB:w.heap.size+1=RB at hR1 hRB0 ⊢;generalize hNB:w.heap.size=NB at hN1 ⊢;have c0:w1.cell? ⟨NB,0,none⟩=some (.int .i64 n0):=hN1.cell 0;have kN:=Has.of hN1.lt
 go_wp2_with fail
 refine(HSz.out _ hbw1).mono ?_;rintro x w2 ⟨rfl,hb2⟩;have hN2:=hN1.below hb2;have hR2:=hR1.below hb2;have hbw2:Below w.heap.size w w2:=hbw1.trans (hb2.mono hbw1.size);clear hN1 hR1 hbw1 hb2 c0 kN HSz;have r0:w2.cell? ⟨RB,0,none⟩=some (.int .i64 0):=hR2.cell 0;have r1:w2.cell? ⟨RB,1,none⟩=some (.slice none 0 0):=hR2.cell 1;have f0:=hR2.frozen 0;have f1:=hR2.frozen 1;have kR:=Has.of hR2.lt
 go_wp2_with fail
 refine bodyPost_ret (v:= .tuple #[.agg #[.int .i64 0,.slice none 0 0],.int .i64 3]) ?_ rfl ⟨rfl,bls (bls hbw2 hRB0 _) hRB0 _⟩;have hCF:CellsAt ((w2.setCell ⟨RB,0,none⟩ (.int .i64 0)).setCell ⟨RB,1,none⟩ (.slice none 0 0)) RB 25 #[.int .i64 0,.slice none 0 0]:=by simpa using (hR2.set 0 (.int .i64 0)).set 1 (.slice none 0 0)
 have k0:=hCF.cell 0;have k1:=hCF.cell 1;simp at k0 k1;simp [results,Try.results12,go_sem,k0,k1]
set_option maxRecDepth 100000 in
set_option maxHeartbeats 1000000 in
theorem Dj(r n0:Int)(a:Option Addr)(l:List Ed)(c:Nat)(w:World)
  (hIs:∀W,Below w.heap.size w W->Calls Try.prog 25 #[.int .i64 r] W λe w'=>e= .returned (.bool true)/\Below W.heap.size W w')
  (hSz:∀W,Below w.heap.size w W->Calls Try.prog 26 #[.int .i64 n0] W λe w'=>e= .returned (.bool true)/\Below W.heap.size W w')
  (hr:RdE w a l) (hb:l.any (pd n0)=true) (hl:l.length<=90000):
  Calls Try.prog 12 #[.int .i64 r,.int .i64 n0,.slice a l.length c] w λe w'=>e= .returned (.tuple #[.agg #[.int .i64 0,.slice none 0 0],.int .i64 3])/\Below w.heap.size w w':=by
 obtain⟨n,hn⟩:∃n,n=l.length:=⟨_,rfl⟩;rw [<-hn]at hl ⊢;have HN:=Lib.hid hn;clear hn;have HIs:=Lib.hid hIs;have HSz:=Lib.hid hSz;clear hIs hSz
 go_enter Try.func12,Try.ntmps12
 go_wp2_with fail
 have hb0:=bl2 w (.cells #[.int .i64 n0] 3) (.cells #[.int .i64 0,.slice none 0 0] 25);refine(HIs.out _ hb0).mono ?_;rintro x w1 ⟨rfl,hb1⟩
 have hN1:CellsAt w1 w.heap.size 3 #[.int .i64 n0]:=by
  have h1:CellsAt (w.alloc (.cells #[.int .i64 n0] 3)) w.heap.size 3 #[.int .i64 n0]:=World.alloc_heap_new w _;exact(h1.below (bl1 _ (.cells #[.int .i64 0,.slice none 0 0] 25))).below hb1
 have hR1:CellsAt w1 (w.heap.size+1) 25 #[.int .i64 0,.slice none 0 0]:=by
  have h1:CellsAt ((w.alloc (.cells #[.int .i64 n0] 3)).alloc (.cells #[.int .i64 0,.slice none 0 0] 25)) (w.alloc (.cells #[.int .i64 n0] 3)).heap.size 25 #[.int .i64 0,.slice none 0 0]:=World.alloc_heap_new _ _;rw [World.size_alloc]at h1;exact h1.below hb1
 have hbw1:Below w.heap.size w w1:=hb0.trans (hb1.mono hb0.size);have hG0:w.heap.size<=w.heap.size:=Nat.le_refl _;have hRB0:w.heap.size<=w.heap.size+1:=by omega
 clear hb0 hb1 HIs;generalize hRB:w.heap.size+1=RB at hR1 hRB0 ⊢;generalize hNB:w.heap.size=NB at hN1 ⊢;have c0:w1.cell? ⟨NB,0,none⟩=some (.int .i64 n0):=hN1.cell 0;have kN:=Has.of hN1.lt
 go_wp2_with fail
 refine(HSz.out _ hbw1).mono ?_;rintro x w2 ⟨rfl,hb2⟩;have hN2:=hN1.below hb2;have hR2:=hR1.below hb2;have hbw2:Below w.heap.size w w2:=hbw1.trans (hb2.mono hbw1.size);have hr2:=hr.below hbw2;clear hN1 hR1 hbw1 hb2 c0 kN HSz;have HC:=Lib.hid (Hx a l c n0 NB w2 hr2 (by rw [<-HN.out];omega) ⟨hN2.cell 0,hN2.lt⟩);rw [<-HN.out,hb]at HC
 go_wp2_with fail
 refine HC.out.mono ?_;rintro x w3 ⟨rfl,hb3⟩;have hN3:=hN2.below hb3;have hR3:=hR2.below hb3;have hbw3:Below w.heap.size w w3:=hbw2.trans (hb3.mono hbw2.size);clear hN2 hR2 hbw2 hb3 hr2 HC;have r0:w3.cell? ⟨RB,0,none⟩=some (.int .i64 0):=hR3.cell 0;have r1:w3.cell? ⟨RB,1,none⟩=some (.slice none 0 0):=hR3.cell 1;have f0:=hR3.frozen 0;have f1:=hR3.frozen 1;have kR:=Has.of hR3.lt
 go_wp2_with fail
 refine bodyPost_ret (v:= .tuple #[.agg #[.int .i64 0,.slice none 0 0],.int .i64 3]) ?_ rfl ⟨rfl,bls (bls hbw3 hRB0 _) hRB0 _⟩;have hCF:CellsAt ((w3.setCell ⟨RB,0,none⟩ (.int .i64 0)).setCell ⟨RB,1,none⟩ (.slice none 0 0)) RB 25 #[.int .i64 0,.slice none 0 0]:=by simpa using (hR3.set 0 (.int .i64 0)).set 1 (.slice none 0 0)
 have k0:=hCF.cell 0;have k1:=hCF.cell 1;simp at k0 k1;simp [results,Try.results12,go_sem,k0,k1]
abbrev ety:K.Ty:= .C (.I .i64) (.I .i64)
def RG(r:Int):Rg:=⟨ofW,mn r,jP⟩
def inB(n:Int):Bool:=decide (-9223372036854775808<=n)&& decide (n<=9223372036854775807)
theorem Dk{n:Int}(h:inB n=true):ve n:=by simpa [inB,ve]using h
def okB(x:Sl (Int×Int)):Bool:=decide (x.l.length<=90000)&&(x.l.all λe=>inB e.1 && inB e.2)&&(decide (x.sz=2)||x.l.isEmpty)&&(x.nn||x.l.isEmpty)
def szB(n:Int):Bool:=if n >= 0 then decide (n<=4096)else false
theorem vr(n:Int):bL n=some (szB n):=by
 rw [fM];unfold szB;split<;>rfl
def slI(l:List Ed):Sl (Int×Int):=if l= []then⟨false,0,[]⟩else⟨true,2,l⟩
def fn(a:Int×Int×Sl (Int×Int)):Option ((Int×Sl (Int×Int))×Int):=
 if jr a.1=true then if okB a.2.2=true then if szB a.2.1=true/\a.2.2.l.any (pd a.2.1)=false then
  let e:=(sy (RG a.1) (a.2.2.l.map tri)).2
  some (((if e=0 then a.2.1 else 0),slI (vk (RG a.1) a.2.2.l)),e)else some ((0,⟨false,0,[]⟩),3)else none else some ((0,⟨false,0,[]⟩),8)
theorem LS{w:World}{F:Nat->Prop}{x:Sl (Int×Int)}{y:Value}(hx:okB x=true)(h:RepT w F (Sl.t ety.row x) y):∃a c,y= .slice a x.l.length c/\RdE w a x.l/\(a=none->c=0/\x.l.length=0)/\x.l.length<=c/\x.nn=a.isSome:=by
 obtain⟨nn,sz,l⟩:=x;simp only [okB,Bool.and_eq_true,Bool.or_eq_true,decide_eq_true_eq,List.isEmpty_iff]at hx;unfold Sl.t at h
 cases h with
 |s _ _ _ a c ys hn hc h0 hl hm hr=>
  rw [List.length_map]at hc ⊢;refine⟨a,c,rfl,?_,λha=>⟨h0 ha,by have:=h0 ha;omega⟩,hc,hn⟩;intro i hi
  have hsz:sz=2:=by
   rcases hx.1.2 with h|h
   .exact h
   .rw [h]at hi;simp at hi
  subst hsz;have hil:(l.map ety.row)[i]? =some (ety.row l[i]):=by simp [hi]
  have he:el l i=l[i]:=by simp [el,List.getD_eq_getElem?_getD,hi]
  rw [he]
  have g:∀j v,(ety.row l[i])[j]? =some (.v v)->∃b,a=some b/\b.block<w.heap.size/\w.cell? (b.add (i*2+j))=some v:=by
   intro j v hj;obtain⟨b,h1,h2,_,h3⟩:=hm i _ j _ hil hj;refine⟨b,h1,h2,?_⟩
   have:=hr i _ j _ hil hj
   rw [h3];generalize ys i j=y at this
   cases this with|v x hx=>rfl
  obtain⟨b,e0,h1,c0⟩:=g 0 (.int .i64 l[i].1) rfl;obtain⟨b1,e1,_,c1⟩:=g 1 (.int .i64 l[i].2) rfl;rw [e0]at e1;cases e1;refine⟨b,e0,h1,by simpa using c0,?_⟩;rw [mm]at c1;exact c1
theorem rep_of{base:Nat}{w:World}{F:Nat->Prop}{a:Option Addr}{c:Nat}{l:List (Int×Int)}(h:Out base w a c l)(hF:∀b,F b->b<base)(hne:l≠[]∨a≠none):RepT w F (Sl.t ety.row ⟨true,2,l⟩) (.slice a l.length c):=by
 obtain⟨h1,h2,h3,h4⟩:=h
 obtain⟨b0,rfl⟩:∃b0,a=some b0:=by
  cases a with
  |some b=>exact⟨b,rfl⟩
  |none=>exact absurd (List.eq_nil_of_length_eq_zero (h2 rfl).2) (hne.resolve_right (by simp))
 have key:=RepT.s (w:=w) (F:=F) true 2 (l.map ety.row) (some b0) c (λi j=>match j with
  |0=> .int .i64 (el l i).1
  |_=> .int .i64 (el l i).2) rfl (by simpa using h3) (by simp) (λi e hi=>by
   rw [List.getElem?_map,Option.map_eq_some_iff]at hi;obtain⟨x,_,rfl⟩:=hi
   rfl) ?_ ?_
 .rw [List.length_map]at key;exact key
 .intro i e j t hi hj;rw [List.getElem?_map,Option.map_eq_some_iff]at hi;obtain⟨x,hx,rfl⟩:=hi;have hil:i<l.length:=(List.getElem?_eq_some_iff.1 hx).1;obtain⟨b,e0,g1,c0,c1⟩:=h1 i hil;cases e0;refine⟨b0,rfl,g1,λhf=>by have:=h4 b0 rfl;have:=hF _ hf;omega,?_⟩;have hj3:j<2:=(List.getElem?_eq_some_iff.1 hj).1;rcases(show j=0∨j=1 by omega)with rfl|rfl
  .simpa using c0
  .rw [mm];exact c1
 .intro i e j t hi hj;rw [List.getElem?_map,Option.map_eq_some_iff]at hi;obtain⟨x,hx,rfl⟩:=hi;have hx2:el l i=x:=by simp [el,List.getD_eq_getElem?_getD,hx]
  have hj3:j<2:=(List.getElem?_eq_some_iff.1 hj).1;rcases(show j=0∨j=1 by omega)with rfl|rfl
  .cases hj;simp only [hx2];exact .v _ rfl
  .cases hj;simp only [hx2];exact .v _ rfl
set_option maxRecDepth 100000 in
theorem Dl(x:Int)(hx:ve x)(W:World)(hL:LD W.heap.size W):Calls Try.prog 30 #[.int .i64 x] W λe w'=>e= .returned (WV (ofW x))/\Below W.heap.size W w':=by
 have h:=K.js 0 x (ofW x) (ny hx);exact fT (RunsP.pure K.cS h) rfl rfl W hL
set_option maxRecDepth 100000 in
theorem BU(r:Int)(x y:V)(W:World)(hL:LD W.heap.size W):Calls Try.prog 29 #[.int .i64 r,WV x,WV y] W λe w'=>e= .returned (WV (mn r x y))/\Below W.heap.size W w':=by
 have h:=K.vp 0 (r,x,y) (mn r x y) (yW r x y);exact fT (RunsP.pure K.cS h) rfl rfl W hL
set_option maxRecDepth 100000 in
theorem BV(r:Int)(x:V)(W:World)(hL:LD W.heap.size W):Calls Try.prog 31 #[.int .i64 r,WV x] W λe w'=>e= .returned (.tuple #[.int .i64 (jP x).1,.bool (jP x).2])/\Below W.heap.size W w':=by
 have h:=K.pn 0 (r,x) (jP x) (sI r x);exact fT (RunsP.pure K.cS h) rfl rfl W hL
theorem Dm(r:Int)(W:World)(hL:LD W.heap.size W):Calls Try.prog 25 #[.int .i64 r] W λe w'=>e= .returned (.bool (jr r))/\Below W.heap.size W w':=by
 have h:=K.xj 0 r (jr r) (BP r);exact fT (RunsP.pure K.cS h) rfl rfl W hL
theorem yX(n:Int)(W:World)(hL:LD W.heap.size W):Calls Try.prog 26 #[.int .i64 n] W λe w'=>e= .returned (.bool (szB n))/\Below W.heap.size W w':=by
 have h:=K.jt 0 n (szB n) (vr n);exact fT (RunsP.pure K.cS h) rfl rfl W hL
theorem LD.below{w W:World}(hL:LD w.heap.size w)(hb:Below w.heap.size w W):LD W.heap.size W:=(hL.keep (λ_ hs=>hb.block 0 hs) hb.size).up hb.size
theorem pD(w:World)(F:Nat->Prop):RepT w F (Sl.t ety.row ⟨false,0,[]⟩) (.slice none 0 0):=RepT.s (w:=w) (F:=F) false 0 [] none 0 (λ_ _=> .nilFunc) rfl (Nat.le_refl _) (λ_=>rfl) (λi e h=>by simp at h) (λi e j t h=>by simp at h) (λi e j t h=>by simp at h)
theorem vec{w:World}{F:Nat->Prop}{n:Int}{t:T}{y:Value}(h:RepT w F t y):RepTD w F (.agg [iT .i64 n,t]) (.agg #[.int .i64 n,y]):=by
 refine .agg [iT .i64 n,t] [.int .i64 n,y] ⟨rfl,λi t' hi=> ?_⟩
 match i,hi with
 |0,hi=>cases hi;exact⟨_,rfl,.v _ rfl⟩
 |1,hi=>cases hi;exact⟨y,rfl,h⟩
 |i+2,hi=>simp at hi
theorem two{w:World}{F:Nat->Prop}{t:TD}{y:Value}{e:Int}(h:RepTD w F t y):np w F [t,.one (iT .i64 e)] (.tuple #[y,.int .i64 e]):=by
 refine⟨[y,.int .i64 e],rfl,rfl,λi t' hi=> ?_⟩
 match i,hi with
 |0,hi=>cases hi;exact⟨y,rfl,h⟩
 |1,hi=>cases hi;exact⟨_,rfl,.one _ _ (.v _ rfl)⟩
 |i+2,hi=>simp at hi
abbrev ins:List K.TyD:= [(false,.I .i64),(false,.I .i64),(false,.S ety)]
abbrev outs:List K.TyD:= [(true,.C (.I .i64) (.S ety)),(false,.I .i64)]
theorem pure_ok(a:K.bW ins)(o:K.bW outs)(h:fn a=some o):dK Try.prog 12 (K.cO ins a) .fresh (K.cO outs o):=by
 obtain⟨r,n,x⟩:=a;change Int at r;change Int at n;change Sl (Int×Int)at x;intro w F ys hL hF hr;obtain⟨hlen,hi⟩:=hr
 match ys,hlen with
 | [y0,y1,y2],_=>
  obtain⟨y,e1,e2⟩:=hi 0 _ rfl;simp only [List.getElem?_cons_zero,zsI]at e1;subst e1
  have ey:y0= .int .i64 r:=by
   cases e2 with
   |one t y h=>cases h with|v x hx=>rfl
  subst ey;obtain⟨y,e1,e2⟩:=hi 1 _ rfl;simp only [List.getElem?_cons_succ,List.getElem?_cons_zero,zsI]at e1;subst e1
  have ey:y1= .int .i64 n:=by
   cases e2 with
   |one t y h=>cases h with|v x hx=>rfl
  subst ey;obtain⟨y,e1,e2⟩:=hi 2 _ rfl;simp only [List.getElem?_cons_succ,List.getElem?_cons_zero,zsI]at e1;subst e1
  have e3:RepT w F (Sl.t ety.row x) y2:=by cases e2 with|one t y h=>exact h
  clear e2 hi;have hIs:∀W,Below w.heap.size w W->Calls Try.prog 25 #[.int .i64 r] W λe w'=>e= .returned (.bool (jr r))/\Below W.heap.size W w':=λW hW=>Dm r W (LD.below hL hW);have hSz:∀W,Below w.heap.size w W->Calls Try.prog 26 #[.int .i64 n] W λe w'=>e= .returned (.bool (szB n))/\Below W.heap.size W w':=λW hW=>yX n W (LD.below hL hW);have hF2:∀b,(b<w.heap.size/\(Kind.fresh≠ .any∨F b))->b<w.heap.size:=λb hb=>hb.1;unfold fn at h;split at h
  rotate_left
  .rename_i hring;cases h
   obtain⟨ad,m,c,rfl⟩:∃a n c,y2= .slice a n c:=by
    unfold Sl.t at e3
    cases e3 with
    |s _ _ _ a c ys hn=>exact⟨_,_,_,rfl⟩
   have hf:jr r=false:=by simpa using hring
   rw [hf]at hIs
   have:=FM r n ad (List.replicate m (0,0)) c w hIs
   rw [List.length_replicate]at this;exact this.mono λe w' ⟨he,hbl⟩=>⟨_,he,two (vec (pD _ _)),λhk=>(by cases hk),hbl⟩
  rename_i hring;replace hring:jr r=true:=hring;rw [hring]at hIs;split at h
  rotate_left
  .cases h
  rename_i hx;replace hx:okB x=true:=hx;obtain⟨ad,c,rfl,h1,h2,h3,hnn⟩:=LS hx e3;have hx2:=hx;simp only [okB,Bool.and_eq_true,Bool.or_eq_true,decide_eq_true_eq,List.isEmpty_iff,List.all_eq_true]at hx2;split at h
  rotate_left
  .rename_i hbad;cases h
   cases hs:szB n with
   |false=>
    rw [hs]at hSz;exact(FN r n ad x.l c w hIs hSz).mono λe w' ⟨he,hbl⟩=>⟨_,he,two (vec (pD _ _)),λhk=>(by cases hk),hbl⟩
   |true=>
    rw [hs]at hSz
    have hb:x.l.any (pd n)=true:=by
     cases hb:x.l.any (pd n)with
     |true=>rfl
     |false=>exact absurd ⟨hs,hb⟩ hbad
    exact(Dj r n ad x.l c w hIs hSz h1 hb hx2.1.1.1).mono λe w' ⟨he,hbl⟩=>⟨_,he,two (vec (pD _ _)),λhk=>(by cases hk),hbl⟩
  rename_i hgood;replace hgood:szB n=true/\x.l.any (pd n)=false:=hgood;rw [hgood.1]at hSz;cases h;have hw:=Ik r n (RG r) ad x.l c w hIs hSz (λz hz W hW=>Dl z hz W (LD.below hL hW)) (λp q W hW=>BU r p q W (LD.below hL hW)) (λp W hW=>BV r p W (LD.below hL hW)) h1 (λe he=>by have:=hx2.1.1.2 e he;exact⟨Dk this.1,Dk this.2⟩) hgood.2 hx2.1.1.1;refine hw.mono λe w' ⟨n',a',c',he,hn,ho,hbl,hnil⟩=>⟨_,he,?_,λhk=>(by cases hk),hbl⟩;subst hn;refine two (vec ?_);show RepT w' _ (Sl.t ety.row (slI (vk (RG r) x.l))) _;unfold slI;by_cases h0:vk (RG r) x.l= []
  .rw [if_pos h0];obtain rfl:=hnil h0;rw [h0];obtain⟨rfl,_⟩:=ho.2.1 rfl;exact pD _ _
  .rw [if_neg h0];exact rep_of ho hF2 (.inl h0)
theorem enters:Ev.Enters Try.prog 12:=⟨_,_,Try.func12,by kernel_rfl,by unfold Try.f12;rfl⟩
end It
end Sm
end
noncomputable section
open Go.Shelf Go.RowKit Go.Lib Go.Sort
namespace Sm
namespace It
theorem jQ(w:World)(ty:TypeId)(g o dLen dCap:Nat)(a:Addr)(sLen sCap:Nat)(cur:Array Value)(t:TypeId)(cs:List Value)
  (hg:w.heap[g]? =some (.cells cur t (0,0))) (hn:cs.length=Nat.min sLen dLen*2)
  (hsrc:∀j v,cs[j]? =some v->w.cell? (a.add j)=some v) (hfit:o+cs.length<=cur.size) (h1:∀v∈cs,v.oneCell'=true):
  (Builtin.copy_ #[23,23] ty #[.slice (some ⟨g,o,none⟩) dLen dCap,.slice (some a) sLen sCap]).run Try.prog w=
   .ok (goInt (Nat.min sLen dLen)) (w.setRow g (cur.toList.take o++cs++cur.toList.drop (o+cs.length)).toArray):=by
 obtain⟨i0,hi0,hz0,hz1,hz2⟩:=gQ At;have hl:=run_loadCells_list (P:=Try.prog) w a cs hsrc;have hst:=run_storeCells_at Try.prog g o t cs 0 cur w hg (by simpa using hfit) h1;simp [Builtin.copy_,run_underlying Try.underlying23,Builtin.lenOf,Builtin.firstCells,sizeOf,typeInfo,hi0,hz1,<-hn,hl,hst]
set_option maxHeartbeats 2000000 in
set_option maxRecDepth 100000 in
theorem yY(base:Nat)(a:Option Addr)(n c vb:Nat)(L:List Ed)(x:Ed)(w:World)(hown:w.ownsRow base 36 2 (.slice a n c) n (ab L))(hn:n<=90000)(hb:base<=w.heap.size)(hv:RdE w (some ⟨vb,0,none⟩) [x]):
  Calls Try.prog 37 #[.slice a n c,.int .i64 n,.slice (some ⟨vb,0,none⟩) 1 1] w λe w'=>∃v',e= .returned v'/\w'.ownsRow base 36 2 v' (n+1) (ab (L++ [x]))/\w.grownBy w' (Value.slice a n c).ownBlock:=by
 have hnc:n<=c:=by
  obtain⟨_,a',c',e,h1,_⟩:=row_rdE hown;cases e;exact h1
 by_cases hce:c=n
 all_goals try subst hce
 all_goals go_enter Try.func37,Try.ntmps37
 all_goals go_wp2_with (refine fj rfl _ _ rfl base _ _ L rfl hown _ 1 1 [x] rfl rfl hv (by simp) (by omega) hb ?_;intro v' w2 hown2 hg2 hat2)
 all_goals go_ret
 all_goals exact⟨_,rfl,hown2,hg2⟩
theorem BW(w:World)(g vb o cap:Nat)(cur:Array Value)(x:Ed)(hg:w.heap[g]? =some (.cells cur 36 (0,0)))(hk:cur.size≠0)(hv:w.heap[vb]? =some (.cells #[.int .i64 x.1,.int .i64 x.2] 36 (0,0)))(hvb:vb≠g)(lb cb:Nat):
  (callFunc 50 #[.slice (some ⟨vb,0,none⟩) 1 1,.slice (some ⟨g,o,none⟩) lb cb]).run Try.prog w= .ok (.value (.bool false)) w:=by
 rw [run_callFunc_extern Try.func50 (by kernel_rfl) (by kernel_rfl) (by kernel_rfl) (e:=Extern.SlicesOverlaps.overlaps #[23,23] #[4]) (by kernel_rfl),
  Lib.run_overlaps_apart w 23 4 36 Try.underlying23 2 Try.sizeOf36 ⟨vb,0,none⟩ ⟨g,o,none⟩ 1 1 lb cb hvb 36 36 2 cur.size (by simp [World.shape?,hv]) (by simp [World.shape?,hg]) hk (by simp [World.frozen?,hv]) (by simp [World.frozen?,hv])]
 rfl
theorem fk(w:World)(g:Nat)(cs:Array Value):w.grownBy (w.setRow g cs) (some g):=
 ⟨rfl,rfl,rfl,by simp [World.setRow],λk _ hk=>setRow_other w g k _ (λe=>hk (by rw [e]))⟩
theorem mr{w:World}{g:Nat}{cur:Array Value}{t:TypeId}(hg:w.heap[g]? =some (.cells cur t (0,0))){cs:List Value}{n:Nat}(hc:cur.toList.take n=cs)(j:Nat)(v:Value)(hj:cs[j]? =some v):w.cell? ⟨g,j,none⟩=some v:=by
 rw [cell_of_row w g j cur t (0,0) hg];rw [<-hc,List.getElem?_take]at hj;split at hj
 .simpa using hj
 .cases hj
theorem BX(L:List Ed)(x:Ed)(i:Nat)(hi:i<=L.length)(cur:List Value)(hl:L.length*2+2<=cur.length)(htake:cur.take (L.length*2)=ab L):
  (((cur.take ((i+1)*2)++(ab L).drop (i*2)++cur.drop ((i+1)*2+((ab L).drop (i*2)).length)).take (i*2)++enc x++(cur.take ((i+1)*2)++(ab L).drop (i*2)++cur.drop ((i+1)*2+((ab L).drop (i*2)).length)).drop (i*2+2))).take ((L.length+1)*2)=ab (L.take i++x::L.drop i):=by
 have e1:ab (L.take i)=cur.take (i*2):=by
  have h1:ab L=ab (L.take i)++ab (L.drop i):=by rw [<-dm,List.take_append_drop]
  have h2:(ab (L.take i)).length=i*2:=by rw [aO];simp;omega
  have h3:(ab L).take (i*2)=ab (L.take i):=by rw [h1,<-h2,List.take_left]
  rw [<-h3,<-htake,List.take_take];congr 1;omega
 have e2:(ab L).drop (i*2)=ab (L.drop i):=by
  have h1:ab L=ab (L.take i)++ab (L.drop i):=by rw [<-dm,List.take_append_drop]
  have h2:(ab (L.take i)).length=i*2:=by rw [aO];simp;omega
  rw [h1,<-h2,List.drop_left]
 rw [e2,dm,dM,e1];have h3:(ab (L.drop i)).length=(L.length - i)*2:=by rw [aO];simp
 have h4:(cur.take ((i+1)*2)++ab (L.drop i)++cur.drop ((i+1)*2+(ab (L.drop i)).length)).take (i*2)=cur.take (i*2):=by
  rw [List.append_assoc,List.take_append_of_le_length (by simp;omega),List.take_take];congr 1;omega
 have h5:(cur.take ((i+1)*2)++ab (L.drop i)++cur.drop ((i+1)*2+(ab (L.drop i)).length)).drop (i*2+2)=ab (L.drop i)++cur.drop ((i+1)*2+(ab (L.drop i)).length):=by
  have h6:(cur.take ((i+1)*2)).length=i*2+2:=by simp;omega
  rw [List.append_assoc,<-h6,List.drop_left]
 rw [h4,h5,<-List.append_assoc];rw [List.take_append_of_le_length (by simp [enc,h3];omega),List.take_of_length_le (by simp [enc,h3];omega),List.append_assoc]
set_option maxHeartbeats 2000000 in
set_option maxRecDepth 100000 in
theorem vt(base g cap n i vb:Nat)(cur:Array Value)(L:List Ed)(x:Ed)(w:World)(hbg:base<=g)(hg:w.heap[g]? =some (.cells cur 36 (0,0)))(hcs:cur.size=cap*2)(hcm:cap<=maxLen)(hn:n=L.length)(hi:i<n)(hroom:n+1<=cap)
  (htake:cur.toList.take (n*2)=ab L) (hv:w.heap[vb]? =some (.cells #[.int .i64 x.1,.int .i64 x.2] 36 (0,0))) (hvb:vb≠g):
  Calls Try.prog 37 #[.slice (some ⟨g,0,none⟩) n cap,.int .i64 i,.slice (some ⟨vb,0,none⟩) 1 1] w λe w'=>∃v',e= .returned v'/\w'.ownsRow base 36 2 v' (n+1) (ab (L.take i++x::L.drop i))/\w.grownBy w' (some g):=by
 have hov:=λo lb cb=>BW w g vb o cap cur x hg (by omega) hv hvb lb cb;have hw1:IntKind.i64.wrap ((i:Int)+1)=(i:Int)+1:=by rw [IntKind.wrap_i64];unfold maxLen at hcm;omega
 have hb0:(i:Int)<=(n:Int):=by omega
 have hb1:(0:Int)<=(i:Int)+1:=by omega
 have htn:((i:Int)+1).toNat=i+1:=by omega
 have hb2:¬(cap=i+1):=by omega
 have hb3:(i:Int)<=(n:Int)+1:=by omega
 have hb4:¬(cap=i):=by omega
 have hz2:¬((i:Int)=(n:Int)):=by omega
 have hcm2:cap<=9223372036854775807:=by unfold maxLen at hcm;omega
 obtain⟨ROW1,hR1⟩:∃ROW1:Array Value,ROW1=(cur.toList.take ((i+1)*2)++(ab L).drop (i*2)++cur.toList.drop ((i+1)*2+((ab L).drop (i*2)).length)).toArray:=⟨_,rfl⟩;obtain⟨ROW2,hR2⟩:∃ROW2:Array Value,ROW2=(ROW1.toList.take (i*2)++enc x++ROW1.toList.drop (i*2+(enc x).length)).toArray:=⟨_,rfl⟩;have hdl:((ab L).drop (i*2)).length=(n - i)*2:=by rw [List.length_drop,aO,hn];omega
 have hm1:Nat.min (n+1 - i) (n+1 - (i+1))=n - i:=by simp only [Nat.min_def];split<;>omega
 have hcp1:∀ty dc sc,(Builtin.copy_ #[23,23] ty #[.slice (some ⟨g,(i+1)*2,none⟩) (n+1 - (i+1)) dc,.slice (some ⟨g,i*2,none⟩) (n+1 - i) sc]).run Try.prog w.drew= .ok (goInt ((n - i:Nat):Int)) (w.drew.setRow g ROW1):=λty dc sc=>by
  have h:=jQ w.drew ty g ((i+1)*2) (n+1 - (i+1)) dc ⟨g,i*2,none⟩ (n+1 - i) sc cur 36 ((ab L).drop (i*2)) hg (by rw [hdl,hm1]) (λj v hj=>by
   rw [Addr.add_lit]
   exact mr (w:=w.drew) hg htake _ v (by rwa [List.getElem?_drop]at hj)) (by rw [hdl,hcs];omega) (λv hv=>iE L v (List.mem_of_mem_drop hv))
  rw [hm1]at h;rw [h,hR1]
 have hr1s:ROW1.size=cap*2:=by
  rw [hR1];simp [aO,hcs];omega
 have hcp2:∀W,W.heap[g]? =some (.cells ROW1 36 (0,0))->(∀j,W.cell? ⟨vb,j,none⟩=w.cell? ⟨vb,j,none⟩)->∀ty dc,(Builtin.copy_ #[23,23] ty #[.slice (some ⟨g,i*2,none⟩) (n+1 - i) dc,.slice (some ⟨vb,0,none⟩) 1 1]).run Try.prog W= .ok (goInt ((1:Nat):Int)) (W.setRow g ROW2):=λW hW hWv ty dc=>by
  have hm2:Nat.min 1 (n+1 - i)=1:=by simp only [Nat.min_def];split<;>omega
  have h:=jQ W ty g (i*2) (n+1 - i) dc ⟨vb,0,none⟩ 1 1 ROW1 36 (enc x) hW (by rw [hm2];rfl) (λj v hj=>by
   rw [Ap,hWv,cell_of_row w vb j _ _ (0,0) hv]
   simpa [enc]using hj) (by rw [hr1s];simp [enc];omega) (λv hv=>by simp [enc]at hv;rcases hv with rfl|rfl<;>rfl)
  rw [hm2]at h;rw [h,hR2]
 have hfin:ROW2.toList.take ((n+1)*2)=ab (L.take i++x::L.drop i):=by
  rw [hR2,hR1]
  have:=BX L x i (by omega) cur.toList (by have:=hcs;simp;omega) (by rw [<-hn];exact htake)
  rw [<-hn]at this;simpa [enc]using this
 have hr2s:ROW2.size=cap*2:=by
  rw [hR2];simp [enc,hr1s];omega
 have hll:(ab (L.take i++x::L.drop i)).length=(n+1)*2:=by rw [aO];simp;omega
 have HN:=Lib.hid hn;have HR1:=Lib.hid hR1;have HR2:=Lib.hid hR2;have mixed:Try.prog.follows Departure.mixedOrders=true:=by kernel_rfl
 have HC2:=hcp2 (w.drew.setRow g ROW1) (setRow_heap w.drew g cur _ _ _ hg) (λj=>World.cell?_of_block (setRow_other w.drew g vb ROW1 hvb));clear hn hR1 hR2 hdl hm1
 go_enter Try.func37,Try.ntmps37
 go_wp2_with (simp only [hov])
 go_region_law_o (refine step_copy_runI rfl _ _ 23 23 rfl _ _ (by simp [Act.eval,Act.put]) (by simp [Act.eval,Act.put]) (hcp1 _ (cap - (i+1)) (cap - i)) ?_)
 go_wp2_with (simp only [HC2,Result.andThen])
 go_ret
 have hgr:=(fk w.drew g ROW1).trans (fk (w.drew.setRow g ROW1) g ROW2);exact⟨_,rfl,⟨hll,.inr ⟨g,cap,ROW2,rfl,hbg,setRow_heap _ g ROW1 _ _ _ (setRow_heap w.drew g cur _ _ _ hg),hroom,hcm,hr2s,hfin⟩⟩,⟨hgr.os,hgr.tape,hgr.output,hgr.size,hgr.block⟩⟩
theorem BY(L:List Ed)(x:Ed)(i:Nat)(hi:i<=L.length)(ROW:List Value)(hl:(L.length+1)*2<=ROW.length)(htake:ROW.take (i*2)=ab (L.take i)):
  (((ROW.take (i*2)++enc x++ROW.drop (i*2+2)).take ((i+1)*2)++(ab L).drop (i*2)++(ROW.take (i*2)++enc x++ROW.drop (i*2+2)).drop ((i+1)*2+((ab L).drop (i*2)).length))).take ((L.length+1)*2)=ab (L.take i++x::L.drop i):=by
 have h2:(ab (L.take i)).length=i*2:=by rw [aO];simp;omega
 have e2:(ab L).drop (i*2)=ab (L.drop i):=by
  have h1:ab L=ab (L.take i)++ab (L.drop i):=by rw [<-dm,List.take_append_drop]
  rw [h1,<-h2,List.drop_left]
 rw [e2,dm,dM,htake];have h3:(ab (L.drop i)).length=(L.length - i)*2:=by rw [aO];simp
 have h4:(ab (L.take i)++enc x++ROW.drop (i*2+2)).take ((i+1)*2)=ab (L.take i)++enc x:=by
  have h6:(ab (L.take i)++enc x).length=(i+1)*2:=by simp [h2,enc];omega
  rw [<-h6,List.take_left]
 rw [h4,List.take_append_of_le_length (by simp [enc,h3,h2];omega),List.take_of_length_le (by simp [enc,h3,h2];omega),List.append_assoc]
set_option maxHeartbeats 2000000 in
set_option maxRecDepth 100000 in
theorem xk(base g cap n i vb:Nat)(cur:Array Value)(L:List Ed)(x:Ed)(w:World)(hb:base<=w.heap.size)(hg:w.heap[g]? =some (.cells cur 36 (0,0)))(hn:n=L.length)(hnl:n<=90000)(hi:i<n)(hnc:n<=cap)(hroom:cap<n+1)
  (htake:cur.toList.take (n*2)=ab L) (hv:w.heap[vb]? =some (.cells #[.int .i64 x.1,.int .i64 x.2] 36 (0,0))):
  Calls Try.prog 37 #[.slice (some ⟨g,0,none⟩) n cap,.int .i64 i,.slice (some ⟨vb,0,none⟩) 1 1] w λe w'=>∃v',e= .returned v'/\w'.ownsRow base 36 2 v' (n+1) (ab (L.take i++x::L.drop i))/\w.grownBy w' none:=by
 obtain⟨i0,hi0,hz0,hzs,hzb⟩:=gQ At;have hgw:g<w.heap.size:=(Array.getElem?_eq_some_iff.1 hg).1;have hvw:vb<w.heap.size:=(Array.getElem?_eq_some_iff.1 hv).1;have hkk:(n:Int)+1 - (i:Int)=((n+1 - i:Nat):Int):=by omega
 have hik:i+(n+1 - i)=n+1:=by omega
 have hti:(ab (L.take i)).length=i*2:=by rw [aO];simp;omega
 have hold:(Builtin.firstCells i0.size i (.slice (some ⟨g,0,none⟩) i cap)).run Try.prog w.drew= .ok (ab (L.take i)).toArray w.drew:=by
  rw [hzs];refine run_firstCells_some w.drew 2 i ⟨g,0,none⟩ i cap (ab (L.take i)) hti (λj v hj=> ?_);rw [Ap];refine mr (w:=w.drew) hg htake j v ?_;have h1:ab L=ab (L.take i)++ab (L.drop i):=by rw [<-dm,List.take_append_drop]
  rw [h1,List.getElem?_append_left (List.getElem?_eq_some_iff.1 hj).1,hj]
 obtain⟨G,hG⟩:∃G,G=grownCap w (n+1) cap 36:=⟨_,rfl⟩;obtain⟨ROW,hROW⟩:∃ROW:Array Value,ROW=(ab (L.take i)).toArray++Builtin.zeroCells (Value.agg #[.int .i64 0,.int .i64 0]).cells (n+1 - i)++Builtin.zeroCells (Value.agg #[.int .i64 0,.int .i64 0]).cells (G - (n+1)):=⟨_,rfl⟩
 have hrz:∀ty,(Builtin.append_ #[23,3] ty #[.slice (some ⟨g,0,none⟩) i cap,.int .i64 ((n:Int)+1 - (i:Int))]).run Try.prog w=
   .ok (.slice (some ⟨w.heap.size,0,none⟩) (n+1) G) (w.drew.alloc (.cells ROW 36)):=λty=>by
  have h:=Lib.run_append_grow_zeros w 23 3 ty 36 i0 _ .i64 .i64 Try.underlying23 Try.underlying3 hi0 hz0 (some ⟨g,0,none⟩) i cap (ab (L.take i)) hold (n+1 - i) (by omega) (by omega) (by omega) (by omega) (by rw [hzb];omega) (by rw [hzb,hik];exact growslice_fits hroom (by omega));rw [hik]at h;rw [hkk,h,hROW,hG]
 have hGn:n+1<=G:=by rw [hG];exact grownCap_ge w _ _ _
 have hGm:G<=maxLen:=by rw [hG];exact grownCap_le_maxLen w _ _ _ (by unfold maxLen;omega)
 have hrs:ROW.size=G*2:=by
  rw [hROW];simp [Builtin.zeroCells,Value.cells,hti];omega
 have hrt:ROW.toList.take (i*2)=ab (L.take i):=by
  rw [hROW];simp only [Array.toList_append,List.append_assoc];rw [<-hti,List.take_left]
 obtain⟨ROW1,hR1⟩:∃ROW1:Array Value,ROW1=(ROW.toList.take (i*2)++enc x++ROW.toList.drop (i*2+(enc x).length)).toArray:=⟨_,rfl⟩;obtain⟨ROW2,hR2⟩:∃ROW2:Array Value,ROW2=(ROW1.toList.take ((i+1)*2)++(ab L).drop (i*2)++ROW1.toList.drop ((i+1)*2+((ab L).drop (i*2)).length)).toArray:=⟨_,rfl⟩;have hdl:((ab L).drop (i*2)).length=(n - i)*2:=by rw [List.length_drop,aO,hn];omega
 have hr1s:ROW1.size=G*2:=by rw [hR1];simp [enc,hrs];omega
 have hr2s:ROW2.size=G*2:=by rw [hR2];simp [hr1s,aO];omega
 have hfin:ROW2.toList.take ((n+1)*2)=ab (L.take i++x::L.drop i):=by
  rw [hR2,hR1]
  have:=BY L x i (by omega) ROW.toList (by have:=hrs;simp;omega) hrt
  rw [<-hn]at this;simpa [enc]using this
 have hll:(ab (L.take i++x::L.drop i)).length=(n+1)*2:=by rw [aO];simp;omega
 have hcpA:∀W,W.heap[w.heap.size]? =some (.cells ROW 36 (0,0))->W.heap[vb]? =w.heap[vb]?->∀ty dc,(Builtin.copy_ #[23,23] ty #[.slice (some ⟨w.heap.size,i*2,none⟩) (n+1 - i) dc,.slice (some ⟨vb,0,none⟩) 1 1]).run Try.prog W= .ok (goInt ((1:Nat):Int)) (W.setRow w.heap.size ROW1):=λW hW hWv ty dc=>by
  have hm2:Nat.min 1 (n+1 - i)=1:=by simp only [Nat.min_def];split<;>omega
  have h:=jQ W ty w.heap.size (i*2) (n+1 - i) dc ⟨vb,0,none⟩ 1 1 ROW 36 (enc x) hW (by rw [hm2];rfl) (λj v hj=>by
   rw [Ap,cell_of_row W vb j _ _ (0,0) (hWv.trans hv)]
   simpa [enc]using hj) (by rw [hrs];simp [enc];omega) (λv hv=>by simp [enc]at hv;rcases hv with rfl|rfl<;>rfl)
  rw [hm2]at h;rw [h,hR1]
 have hcpB:∀W,W.heap[w.heap.size]? =some (.cells ROW1 36 (0,0))->W.heap[g]? =w.heap[g]?->∀ty dc sc,(Builtin.copy_ #[23,23] ty #[.slice (some ⟨w.heap.size,(i+1)*2,none⟩) (n+1 - (i+1)) dc,.slice (some ⟨g,i*2,none⟩) (n - i) sc]).run Try.prog W= .ok (goInt ((n - i:Nat):Int)) (W.setRow w.heap.size ROW2):=λW hW hWg ty dc sc=>by
  have hm1:Nat.min (n - i) (n+1 - (i+1))=n - i:=by simp only [Nat.min_def];split<;>omega
  have h:=jQ W ty w.heap.size ((i+1)*2) (n+1 - (i+1)) dc ⟨g,i*2,none⟩ (n - i) sc ROW1 36 ((ab L).drop (i*2)) hW (by rw [hdl,hm1]) (λj v hj=>by
   rw [Addr.add_lit]
   exact mr (w:=W) (hWg.trans hg) htake _ v (by rwa [List.getElem?_drop]at hj)) (by rw [hdl,hr1s];omega) (λv hv=>iE L v (List.mem_of_mem_drop hv))
  rw [hm1]at h;rw [h,hR2]
 have mixed:Try.prog.follows Departure.mixedOrders=true:=by kernel_rfl
 have hw1:IntKind.i64.wrap ((i:Int)+1)=(i:Int)+1:=by rw [IntKind.wrap_i64];omega
 have hb1:(0:Int)<=(i:Int)+1:=by omega
 have hin:i<=n:=by omega
 have htn:((i:Int)+1).toNat=i+1:=by omega
 have hb3:(i:Int)<=(n:Int):=by omega
 have hz2:¬((i:Int)=(n:Int)):=by omega
 have hz3:(cap:Int)<(n:Int)+1:=by omega
 have hGi:¬(G=i):=by omega
 have hGim:¬(G=i+1):=by omega
 have hci:¬(cap=i):=by omega
 have hG63:G<=9223372036854775807:=by unfold maxLen at hGm;omega
 have hn1:((w.alloc (.cells ROW 36)).drew).heap[w.heap.size]? =some (.cells ROW 36 (0,0)):=heap_alloc_new w _;have ho1:∀k,k<w.heap.size->((w.alloc (.cells ROW 36)).drew).heap[k]? =w.heap[k]? :=λk hk=>(World.grownBy_alloc w (.cells ROW 36) none).block k hk (by simp);have HC1:=hcpA ((w.alloc (.cells ROW 36)).drew) hn1 (ho1 vb hvw);have hn2:=setRow_heap ((w.alloc (.cells ROW 36)).drew) w.heap.size ROW ROW1 _ _ hn1
 have ho2:∀k,k<w.heap.size->((((w.alloc (.cells ROW 36)).drew).setRow w.heap.size ROW1).drew).heap[k]? =w.heap[k]? :=λk hk=>by
  have h1:=setRow_other ((w.alloc (.cells ROW 36)).drew) w.heap.size k ROW1 (by omega);exact h1.trans (ho1 k hk)
 have HC2:=hcpB ((((w.alloc (.cells ROW 36)).drew).setRow w.heap.size ROW1).drew) hn2 (ho2 g hgw);have HN:=Lib.hid hn;clear hkk hik hold hROW hG hrt hR1 hR2 hn hdl hcpA hcpB
 go_enter Try.func37,Try.ntmps37
 go_wp2_with (first|(at_builtin;refine Lib.wpList_append_run _ rfl _ _ _ _ rfl _ _ rfl rfl _ _ (hrz _) ?_)|simp only [HC1,Result.andThen])
 go_region_law_o (refine step_copy_runI rfl _ _ 23 23 rfl (.slice (some ⟨w.heap.size,(i+1)*2,none⟩) (n+1 - (i+1)) (G - (i+1))) (.slice (some ⟨g,i*2,none⟩) (n - i) (cap - i)) (by simp [Act.eval,Act.put]) (by simp [Act.eval,Act.put]) (HC2 _ (G - (i+1)) (cap - i)) ?_)
 go_wp2
 go_ret
 exact⟨_,rfl,⟨hll,.inr ⟨w.heap.size,G,ROW2,rfl,hb,setRow_heap ((((w.alloc (.cells ROW 36)).drew).setRow w.heap.size ROW1).drew) w.heap.size ROW1 ROW2 _ _ hn2,hGn,hGm,hr2s,hfin⟩⟩,⟨rfl,rfl,rfl,by simp [World.setRow],λk hk _=>(setRow_other ((((w.alloc (.cells ROW 36)).drew).setRow w.heap.size ROW1).drew) w.heap.size k ROW2 (by omega)).trans (ho2 k hk)⟩⟩
theorem yZ(base n i vb:Nat)(a:Option Addr)(c:Nat)(L:List Ed)(x:Ed)(w:World)(hown:w.ownsRow base 36 2 (.slice a n c) n (ab L))(hn:n=L.length)(hnl:n<=90000)(hi:i<=n)(hb:base<=w.heap.size)(hv:w.heap[vb]? =some (.cells #[.int .i64 x.1,.int .i64 x.2] 36 (0,0)))(hvb:(Value.slice a n c).ownBlock≠some vb):
  Calls Try.prog 37 #[.slice a n c,.int .i64 i,.slice (some ⟨vb,0,none⟩) 1 1] w λe w'=>∃v',e= .returned v'/\w'.ownsRow base 36 2 v' (n+1) (ab (L.take i++x::L.drop i))/\w.grownBy w' (Value.slice a n c).ownBlock:=by
 have hvE:RdE w (some ⟨vb,0,none⟩) [x]:=by
  refine jN (Array.getElem?_eq_some_iff.1 hv).1 (λj hj k hk=> ?_);obtain rfl:j=0:=by simpa using hj
  rw [cell_of_row w vb _ _ _ (0,0) hv];have h3:k=0∨k=1:=by omega
  rcases h3 with rfl|rfl<;>rfl
 by_cases hin:i=n
 .subst hin;have h:=yY base a i c vb L x w hown hnl hb hvE;rw [hn,List.take_length,List.drop_length];rw [hn]at h;exact h
 .rcases hown.2 with⟨e,h0⟩|⟨g,cap,cur,e,hbg,hg,hnc,hcm,hcs,htake⟩
  .omega
  .cases e;by_cases hroom:n+1<=c
   .exact vt base g c n i vb cur L x w hbg hg hcs hcm hn (by omega) hroom htake hv (λh=>hvb (by rw [h];rfl))
   .refine(xk base g c n i vb cur L x w hb hg hn hnl (by omega) hnc (by omega) htake hv).mono ?_;rintro e w' ⟨v',h1,h2,h3⟩;exact⟨v',h1,h2,h3.but _⟩
theorem nG{ops:Array Oper}{o:Oper}{a:Act}{w:World}{K:Act->World->Prop}{Q:Exit->Act->World->Prop}{E:Prop}
  (hg:o.guard=none) (d x:Operand) (dT sT:TypeId) (hop:o.op=Op.call {callee:=Callee.builtin Builtin.append,args:=#[d,x],argTypes:=#[dT,sT]})
  (v u:Value) (hd:a.eval d=v) (hx:a.eval x=u) {v':Value} {w':World} (hr:(Builtin.append_ #[dT,sT] o.type #[v,u]).run Try.prog w= .ok v' w') (hK:K (a.put o.dst v') w'):
  if Region.wanted o (yielded ops a.tmps)=true then Oper.wp Try.prog o a w K Q else E:=by
 have hw:Region.wanted o (yielded ops a.tmps)=true:=by simp [Region.wanted,hg]
 rw [if_pos hw];unfold Oper.wp;simp [execOp,hop,resolve,invoke,builtin,hd,hx,hr,Result.andThen];exact hK
theorem BZ(L:List Ed)(i:Nat)(hi:i<L.length)(cur:List Value)(hl:L.length*2<=cur.length)(htake:cur.take (L.length*2)=ab L)(r:List Value):
  (((cur.take (i*2)++(ab L).drop ((i+1)*2)++cur.drop (i*2+((ab L).drop ((i+1)*2)).length)).take ((L.length - 1)*2))++r).take ((L.length - 1)*2)=ab (L.take i++L.drop (i+1)):=by
 have h1:∀k,k<=L.length->ab L=ab (L.take k)++ab (L.drop k)/\(ab (L.take k)).length=k*2:=λk hk=>⟨by rw [<-dm,List.take_append_drop],by rw [aO];simp;omega⟩
 have e1:ab (L.take i)=cur.take (i*2):=by
  have h2:=h1 i (by omega);have h3:(ab L).take (i*2)=ab (L.take i):=by rw [h2.1,<-h2.2,List.take_left]
  rw [<-h3,<-htake,List.take_take];congr 1;omega
 have e2:(ab L).drop ((i+1)*2)=ab (L.drop (i+1)):=by
  have h2:=h1 (i+1) (by omega);rw [h2.1,<-h2.2,List.drop_left]
 have h3:(ab (L.drop (i+1))).length=(L.length - (i+1))*2:=by rw [aO];simp
 have h4:(cur.take (i*2)++ab (L.drop (i+1))).length=(L.length - 1)*2:=by
  rw [List.length_append,<-e1,(h1 i (by omega)).2,h3];omega
 rw [e2,<-h4,List.take_left,List.take_left,dm,e1]
set_option maxHeartbeats 2000000 in
set_option maxRecDepth 100000 in
theorem za(base g cap n i:Nat)(cur:Array Value)(L:List Ed)(w:World)(hbg:base<=g)(hg:w.heap[g]? =some (.cells cur 36 (0,0)))(hcs:cur.size=cap*2)(hcm:cap<=maxLen)(hn:n=L.length)(hi:i<n)(hnc:n<=cap)
  (htake:cur.toList.take (n*2)=ab L):
  Calls Try.prog 38 #[.slice (some ⟨g,0,none⟩) n cap,.int .i64 i,.int .i64 ((i:Int)+1)] w λe w'=>∃v',e= .returned v'/\w'.ownsRow base 36 2 v' (n - 1) (ab (L.take i++L.drop (i+1)))/\w.grownBy w' (some g)/\v'.ownBlock=some g:=by
 have mixed:Try.prog.follows Departure.mixedOrders=true:=by kernel_rfl
 obtain⟨i0,hi0,hz0,hz1,hz2⟩:=gQ At;obtain⟨ROW1,hR1⟩:∃ROW1:Array Value,ROW1=(cur.toList.take (i*2)++(ab L).drop ((i+1)*2)++cur.toList.drop (i*2+((ab L).drop ((i+1)*2)).length)).toArray:=⟨_,rfl⟩;obtain⟨ROW2,hR2⟩:∃ROW2:Array Value,ROW2=(ROW1.toList.take ((n - 1)*2)++ [Value.int .i64 0,Value.int .i64 0]++ROW1.toList.drop ((n - 1)*2+2)).toArray:=⟨_,rfl⟩;have hdl:((ab L).drop ((i+1)*2)).length=(n - (i+1))*2:=by rw [List.length_drop,aO,hn];omega
 obtain⟨A,hA,hsrc⟩:∃A:Addr,(if cap=i+1 then(some (⟨g,0,none⟩:Addr))else some ⟨g,(i+1)*2,none⟩)=some A/\(∀t u,((ab L).drop ((i+1)*2))[t]? =some u->w.drew.cell? (A.add t)=some u):=by
  by_cases h:cap=i+1
  .refine⟨⟨g,0,none⟩,by simp [h],λt u hu=> ?_⟩
   have:=(List.getElem?_eq_some_iff.1 hu).1
   rw [hdl]at this;omega
  .refine⟨⟨g,(i+1)*2,none⟩,by simp [h],λt u hu=> ?_⟩;rw [Addr.add_lit];exact mr (w:=w.drew) hg htake _ u (by rwa [List.getElem?_drop]at hu)
 have hap:∀ty,(Builtin.append_ #[23,23] ty #[.slice (some ⟨g,0,none⟩) i cap,.slice (some A) (n - (i+1)) (cap - (i+1))]).run Try.prog w.drew= .ok (.slice (some ⟨g,0,none⟩) (n - 1) cap) (w.drew.setRow g ROW1):=λty=>by
  have h:=run_append_room (P:=Try.prog) w.drew 23 ty 36 i0 Try.underlying23 hi0 g i cap cur hg A (n - (i+1)) (cap - (i+1)) ((ab L).drop ((i+1)*2)) (by rw [hz1,hdl]) hsrc (λv hv=>iE L v (List.mem_of_mem_drop hv)) (by omega) (by rw [hz1,hdl,hcs];omega);rw [hz1]at h;rw [h,hR1,show i+(n - (i+1))=n - 1 by omega]
 have hr1s:ROW1.size=cap*2:=by rw [hR1];simp [aO,hcs];omega
 have hr2s:ROW2.size=cap*2:=by rw [hR2];simp [hr1s];omega
 have hfin:ROW2.toList.take ((n - 1)*2)=ab (L.take i++L.drop (i+1)):=by
  rw [hR2,hR1]
  have:=BZ L i (by omega) cur.toList (by have:=hcs;simp;omega) (by rw [<-hn];exact htake)
  rw [<-hn]at this;rw [List.toList_toArray,List.append_assoc];exact this _
 have hll:(ab (L.take i++L.drop (i+1))).length=(n - 1)*2:=by rw [aO];simp;omega
 have hcl:∀ty c',(Builtin.clear_ #[23] ty #[.slice (some ⟨g,(n - 1)*2,none⟩) 1 c']).run Try.prog (w.drew.setRow g ROW1)= .ok (.tuple #[]) ((w.drew.setRow g ROW1).setRow g ROW2):=λty c'=>by
  have hst:=run_storeCells_at Try.prog g ((n - 1)*2) 36 [Value.int .i64 0,Value.int .i64 0] 0 ROW1 (w.drew.setRow g ROW1) (setRow_heap w.drew g cur _ _ _ hg) (by rw [hr1s];simp;omega) (λv hv=>by simp at hv;rcases hv with rfl|rfl<;>rfl);have hzc:(Builtin.zeroCells (Value.agg #[.int .i64 0,.int .i64 0]).cells 1).toList= [Value.int .i64 0,Value.int .i64 0]:=by kernel_rfl
  simp only [Nat.add_zero]at hst;rw [hR2];simp [Builtin.clear_,run_underlying Try.underlying23,Try.zeroValue36,hzc,hst]
 have HN:=Lib.hid hn;have HA:=Lib.hid hA;have hic:i<=cap:=by omega
 have hjc:i+1<=cap:=by omega
 have hn1:((n - 1:Nat):Int)=(n:Int) - 1:=by omega
 have hcn:¬(cap=n - 1):=by omega
 have hnn:n - (n - 1)=1:=by omega
 have hcm2:cap<=9223372036854775807:=by unfold maxLen at hcm;omega
 have hw1:IntKind.i64.wrap ((i:Int)+1)=(i:Int)+1:=by rw [IntKind.wrap_i64];omega
 have htn:((i:Int)+1).toNat=i+1:=by omega
 have hb3:(i:Int)+1<=(n:Int):=by omega
 have hb4:(0:Int)<=(i:Int)+1:=by omega
 clear hn hR1 hR2 hdl
 go_enter Try.func38,Try.ntmps38
 go_wp2_with fail
 go_region_law_o (refine nG rfl (.tmp 22) (.tmp 25) 23 23 rfl (.slice (some ⟨g,0,none⟩) i cap) (.slice (some A) (n - (i+1)) (cap - (i+1))) (by simp [Act.eval,Act.put]) (by simp [Act.eval,Act.put]) (hap _) ?_)
 go_wp2_with (simp only [hcl,Result.andThen])
 go_ret
 have hgr:=(fk w.drew g ROW1).trans (fk (w.drew.setRow g ROW1) g ROW2);exact⟨_,rfl,⟨hll,.inr ⟨g,cap,ROW2,rfl,hbg,setRow_heap _ g ROW1 _ _ _ (setRow_heap w.drew g cur _ _ _ hg),by omega,hcm,hr2s,hfin⟩⟩,⟨hgr.os,hgr.tape,hgr.output,hgr.size,hgr.block⟩,rfl⟩
theorem FO(w:World):(binOp .eql 23 (.slice none 0 0) (.slice none 0 0)).run Try.prog w= .ok (.bool true) w:=by kernel_rfl
theorem FP(w:World)(b:Addr)(n c:Nat):(binOp .eql 23 (.slice (some b) n c) (.slice none 0 0)).run Try.prog w= .ok (.bool false) w:=by kernel_rfl
set_option maxRecDepth 100000 in
set_option maxHeartbeats 1000000 in
theorem qx(a:Option Addr)(l:List Ed)(c:Nat)(w:World)(hr:RdE w a l)(hz:a=none->c=0/\l.length=0)(hl:l.length<=90000):Calls Try.prog 36 #[.slice a l.length c] w λe w'=>∃v,e= .returned v/\w'.ownsRow w.heap.size 36 2 v l.length (ab l)/\Below w.heap.size w w'/\(a=none->v= .slice none 0 0)/\(a≠none->∃k,v.ownBlock=some k):=by
 by_cases ha:a=none
 .obtain⟨rfl,h0⟩:=hz ha;subst ha;obtain rfl:l= []:=List.eq_nil_of_length_eq_zero h0;have hq:=FO w
  go_enter Try.func36,Try.ntmps36
  go_wp2
  go_ret
  refine⟨_,rfl,World.ownsRow_nil _ _ _ _,(by repeat (first|with_reducible refine blg ?_ _ _|with_reducible refine bla ?_ _|with_reducible exact Below.refl _ _)),?_⟩
  first|exact⟨λ_=>rfl,λh=>absurd rfl h⟩|rfl|simp
 .obtain⟨b,rfl⟩:=Option.ne_none_iff_exists'.1 ha;obtain⟨n,hn⟩:∃n,n=l.length:=⟨_,rfl⟩;rw [<-hn]at hl hz ⊢;have HN:=Lib.hid hn;clear hn ha;have hq:=FP w b n c
  go_enter Try.func36,Try.ntmps36
  have h0:(w.alloc (.cells #[] 36)).ownsRow w.heap.size 36 2 (.slice (some ⟨w.heap.size,0,none⟩) 0 0) 0 (ab []):=by
   exact World.ownsRow_lit w #[] 0 (Nat.le_refl _) (by unfold maxLen;omega) rfl
  go_wp2_with (refine fj rfl _ _ rfl w.heap.size _ 0 [] rfl h0 (some b) n c l rfl HN.out (hr.below (bl1 _ _)) (by simp) (by omega) (by simp) ?_;intro v' w' hown hg hat)
  go_ret
  refine⟨_,rfl,by simpa using hown,(bl1 w _).trans (ik (v:= .slice (some ⟨w.heap.size,0,none⟩) 0 0) hg (λk hk=>by cases hk;exact Nat.le_refl _) (by simp)),?_⟩;have hk:=hat.elim (λh=>(⟨_,h⟩:∃k,v'.ownBlock=some k)) λh=>⟨_,h⟩
  first|exact⟨λh=>(by cases h),λ_=>hk⟩|exact hk|simpa using hk
end It
end Sm
end
end Go.Proofs.Ytmlpoegdhcdkcaa
