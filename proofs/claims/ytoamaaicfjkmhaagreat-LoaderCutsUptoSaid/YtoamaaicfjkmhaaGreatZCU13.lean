/- Texts of a claim, joined. -/
import Derived.Test.YtoamaaicfjkmhaaGreatZCU12
set_option linter.unusedVariables false
set_option linter.unusedSimpArgs false
namespace Go.Proofs.YtoamaaicfjkmhaaGreat
noncomputable section
open Go.RowKit Go.Sort
structure Two(w w':World)(R L:Nat):Prop where
 os:w'.os=w.os
 tape:w'.tape=w.tape
 output:w'.output=w.output
 size:w.heap.size<=w'.heap.size
 block:∀k,k<w.heap.size->k≠R->k≠L->w'.heap[k]? =w.heap[k]?
theorem Two.of_grownBy{w w':World}{R:Nat}(h:w.grownBy w' (some R))(L:Nat):Two w w' R L:=
 ⟨h.os,h.tape,h.output,h.size,λk hk h1 _=>h.block k hk (by simpa using h1)⟩
theorem Two.trans{a b c:World}{R L:Nat}(h:Two a b R L)(k:Two b c R L):Two a c R L:=
 ⟨k.os.trans h.os,k.tape.trans h.tape,k.output.trans h.output,Nat.le_trans h.size k.size,λi hi h1 h2=>(k.block i (Nat.lt_of_lt_of_le hi h.size) h1 h2).trans (h.block i hi h1 h2)⟩
theorem Two.step{a b c:World}{R L:Nat}{row:Option Nat}(h:Two a b R L)(k:b.grownBy c row)(hr:∀g,row=some g->g=R∨g=L∨a.heap.size<=g):Two a c R L:=
 ⟨k.os.trans h.os,k.tape.trans h.tape,k.output.trans h.output,Nat.le_trans h.size k.size,λi hi h1 h2=>(k.block i (Nat.lt_of_lt_of_le hi h.size) (λe=>by rcases hr i e.symm with h|h|h<;>omega)).trans (h.block i hi h1 h2)⟩
def iz(f:Nat->Int)(m p:Nat)(rows cols:Int)(last:Int×Int×Int)(i:Int):Except (Int×Int) ((Int×Int×Int)×Nat):=
 match aM f m p (rows - 1) 3 with
 | .error e=> .error e
 | .ok (r,p1)=>
  match aM f m p1 (cols - 1) 3 with
  | .error e=> .error e
  | .ok (c,p2)=>
   if p2+8<=m then
    (if 0<i/\An last (r,c,lw (λj=>f (p2+j)) 8)=false then .error (6,(p:Int))else .ok ((r,c,lw (λj=>f (p2+j)) 8),p2+8))
   else .error (2,(m:Int))
structure StT(w:World)(R RB MB LB T:Nat)(a:Option Addr)(m c:Nat)(fa rows cols:Int)(sl:Value)(last:Int×Int×Int)(f:Nat->Int)(W:World)(p:Nat)(e:Array Value):Prop where
 hR:CellsAt W R 127 (rdr (.slice a m c) p 0 fa)
 hb:Rd8 W a m f
 rb:CellsAt W RB 98 #[.pointer (some ⟨R,0,none⟩)]
 mb:CellsAt W MB 76 #[.int .i64 rows,.int .i64 cols,sl]
 lb:CellsAt W LB 54 #[.int .i64 last.1,.int .i64 last.2.1,.int .i64 last.2.2]
 e5:CellsAt W w.heap.size 54 #[.int .i64 0,.int .i64 0,.int .i64 0]
 e6:CellsAt W T 54 e
 g:w.grownBy W (some R)
 l0:w.heap.size<T
 l1:RB<w.heap.size
 l2:MB<w.heap.size
 l3:LB<w.heap.size
 l4:R<w.heap.size
 n1:RB≠R
 n2:MB≠R
 n3:LB≠R
 n4:∀b,a=some b->b.block≠R
 n5:∀b,a=some b->0<m->b.block<w.heap.size
theorem StT.call{w:World}{R RB MB LB T:Nat}{a:Option Addr}{m c:Nat}{fa rows cols:Int}{sl:Value}{last:Int×Int×Int}{f:Nat->Int}{W:World}{p:Nat}{e:Array Value}(h:StT w R RB MB LB T a m c fa rows cols sl last f W p e){W':World}{q:Nat}(g:W.grownBy W' (some R))(hR:CellsAt W' R 127 (rdr (.slice a m c) q 0 fa)):StT w R RB MB LB T a m c fa rows cols sl last f W' q e:=by
 have l0:=h.l0;have l4:=h.l4;exact⟨hR,dU h.hb g h.n4,az h.rb g h.n1,az h.mb g h.n2,az h.lb g h.n3,az h.e5 g (by omega),az h.e6 g (by omega),ae h.g g,h.l0,h.l1,h.l2,h.l3,h.l4,h.n1,h.n2,h.n3,h.n4,h.n5⟩
theorem StT.store{w:World}{R RB MB LB T:Nat}{a:Option Addr}{m c:Nat}{fa rows cols:Int}{sl:Value}{last:Int×Int×Int}{f:Nat->Int}{W:World}{p:Nat}{e:Array Value}(h:StT w R RB MB LB T a m c fa rows cols sl last f W p e)(i:Nat)(v:Value):StT w R RB MB LB T a m c fa rows cols sl last f (W.setCell ⟨T,i,none⟩ v) p (e.setIfInBounds i v):=by
 have l0:=h.l0;have l1:=h.l1;have l2:=h.l2;have l3:=h.l3;have l4:=h.l4;have g:=af W T i v;refine⟨az h.hR g (by omega),?_,az h.rb g (by omega),az h.mb g (by omega),az h.lb g (by omega),az h.e5 g (by omega),h.e6.set i v,cI h.g T i v (by omega),h.l0,h.l1,h.l2,h.l3,h.l4,h.n1,h.n2,h.n3,h.n4,h.n5⟩;by_cases hm:0<m
 .exact dU h.hb g (λb hb=>by have:=h.n5 b hb hm;omega)
 .obtain rfl:m=0:=by omega
  exact fY _ _ _
set_option maxRecDepth 100000 in
set_option maxHeartbeats 500000 in
theorem Ao(R RB MB LB:Nat)(a:Option Addr)(m c p:Nat)(i fa rows cols:Int)(last:Int×Int×Int)(sl:Value)(f:Nat->Int)(w:World)(hR:CellsAt w R 127 (rdr (.slice a m c) p 0 fa))(hb:Rd8 w a m f)(hne:∀b,a=some b->b.block≠R/\b.block≠LB)(hc:m<=c)(hm:m<=100000)(hp:p<=m)
  (hRB:CellsAt w RB 98 #[.pointer (some ⟨R,0,none⟩)]) (hMB:CellsAt w MB 76 #[.int .i64 rows,.int .i64 cols,sl]) (hLB:CellsAt w LB 54 #[.int .i64 last.1,.int .i64 last.2.1,.int .i64 last.2.2]) (h1:RB≠R) (h2:MB≠R) (h3:LB≠R) (h4:RB≠LB) (h5:MB≠LB) (hr0:0<=rows) (hr1:rows<=4096) (hc0:0<=cols) (hc1:cols<=4096):
  Calls Tryz.prog 79 #[.int .i64 i,.pointer (some ⟨RB,0,none⟩),.pointer (some ⟨MB,0,none⟩),.pointer (some ⟨LB,0,none⟩)] w λx w'=>
   (match iz f m p rows cols last i with
    | .ok (t,q)=>x= .returned (vE t)/\CellsAt w' R 127 (rdr (.slice a m c) q 0 fa)/\CellsAt w' LB 54 #[.int .i64 t.1,.int .i64 t.2.1,.int .i64 t.2.2]
    | .error er=>x= .panicked [fZ er.1 er.2])/\Two w w' R LB:=by
 obtain⟨O,hO⟩:∃O,O=iz f m p rows cols last i:=⟨_,rfl⟩;rw [<-hO];have HO:=Lib.hid hO;clear hO;have N:=Lib.hid (λw p most e2 h1 h2 h3=>gP R a m c p fa most e2 f w h1 h2 (λb e=>(hne b e).1) hc hm h3);have B1:=bl1 w (.cells #[.int .i64 0,.int .i64 0,.int .i64 0] 54);have e5:CellsAt (w.alloc (.cells #[.int .i64 0,.int .i64 0,.int .i64 0] 54)) w.heap.size 54 #[.int .i64 0,.int .i64 0,.int .i64 0]:=World.alloc_heap_new w _;have lR:=hR.lt;have lRB:=hRB.lt;have lMB:=hMB.lt;have lLB:=hLB.lt;have hR0:=hR.below B1;have hRB0:=hRB.below B1;have hMB0:=hMB.below B1;have hLB0:=hLB.below B1;have hb0:=hb.grown (ab B1 none) (λ_ _=>by simp);have T0:Two w (w.alloc (.cells #[.int .i64 0,.int .i64 0,.int .i64 0] 54)) R LB:=Two.of_grownBy (ab B1 _) _;have cR:=hRB0.cell 0;have kRB:=Has.of hRB.lt
 go_enter Tryz.func79,Tryz.ntmps79
 go_wp2_with fail
 generalize hW0:w.alloc (.cells #[.int .i64 0,.int .i64 0,.int .i64 0] 54)=W0 at B1 e5 hR0 hRB0 hMB0 hLB0 hb0 T0 cR ⊢;have A1:=lC R _ p 0 fa W0 hR0;refine A1.mono ?_;rintro x w1 ⟨rfl,hB1⟩;have BB:=B1.trans (hB1.mono B1.size);have BA:=bl1 w1 (.cells #[.int .i64 0,.int .i64 0,.int .i64 0] 54)
 have S0:StT w R RB MB LB w1.heap.size a m c fa rows cols sl last f (w1.alloc (.cells #[.int .i64 0,.int .i64 0,.int .i64 0] 54)) p #[.int .i64 0,.int .i64 0,.int .i64 0]:=by
  refine⟨(hR0.below hB1).below BA,(hb0.grown (ab hB1 none) (λ_ _=>by simp)).grown (ab BA none) (λ_ _=>by simp),(hRB0.below hB1).below BA,(hMB0.below hB1).below BA,(hLB0.below hB1).below BA,(e5.below hB1).below BA,World.alloc_heap_new w1 _,ab (BB.trans (BA.mono BB.size)) _,(e5.below hB1).lt,lRB,lMB,lLB,lR,h1,h2,h3,λb e=>(hne b e).1,?_⟩;intro b hb2 hm0;obtain⟨b',e1,e2,_⟩:=hb 0 hm0;rw [hb2]at e1;cases e1;exact e2
 clear hW0 A1 hR0 hRB0 hMB0 hLB0 hb0 T0 cR kRB e5 B1 hB1 BB BA hR hRB hMB hLB hb;have cR:=S0.rb.cell 0;have cM:=S0.mb.cell 0
 go_wp2_with fail
 generalize w1.alloc (.cells #[.int .i64 0,.int .i64 0,.int .i64 0] 54)=W1 at S0 ⊢;generalize w1.heap.size=T at S0 ⊢;clear cR cM;have N1:=N.out W1 p (rows - 1) 3 S0.hR S0.hb hp (by decide)
 cases q1:aM f m p (rows - 1) 3 with
 |error er=>
  have he:O= .error er:=by rw [HO.out];unfold iz;rw [q1]
  rw [q1]at N1;refine N1.mono ?_;rintro x w2 ⟨rfl,hg⟩;exact⟨rfl,by rw [he],Two.of_grownBy (ae S0.g hg) _⟩
 |ok r1=>
  obtain⟨y1,p1⟩:=r1;rw [q1]at N1;refine N1.mono ?_;rintro x w2 ⟨⟨rfl,hR1⟩,hg⟩;have S1:=S0.call hg hR1;have c0:=S1.e6.cell 0;have f0:=S1.e6.frozen 0;have k6:Has w2 T:=S1.e6.lt;have T1:=S1.store 0 (.int .i64 y1);have dR:=T1.rb.cell 0;have dM:=T1.mb.cell 1;have hp1:=(dq q1).2.1;clear N1 hg S0 hR1
  go_wp2_with fail
  have N2:=N.out _ p1 (cols - 1) 3 T1.hR T1.hb hp1 (by decide);clear c0 f0 k6 dR dM S1;generalize w2.setCell {block:=T,off:=0} (Value.int IntKind.i64 y1)=U1 at T1 N2 ⊢
  cases q2:aM f m p1 (cols - 1) 3 with
  |error er=>
   have he:O= .error er:=by rw [HO.out];unfold iz;rw [q1];dsimp only;rw [q2]
   rw [q2]at N2;refine N2.mono ?_;rintro x w3 ⟨rfl,hg⟩;exact⟨rfl,by rw [he],Two.of_grownBy (ae T1.g hg) _⟩
  |ok r2=>
   obtain⟨y2,p2⟩:=r2;rw [q2]at N2;refine N2.mono ?_;rintro x w3 ⟨⟨rfl,hR2⟩,hg⟩;have S2:=T1.call hg hR2;have c1:=S2.e6.cell 1;have f1:=S2.e6.frozen 1;have k6:Has w3 T:=S2.e6.lt;have T2:=S2.store 1 (.int .i64 y2);have dR:=T2.rb.cell 0;have hp2:=(dq q2).2.1;clear N2 hg T1 hR2
   go_wp2_with fail
   have N3:=HF R a m c p2 0 fa f _ T2.hR T2.hb (λb e=>(hne b e).1) hc hm hp2;clear c1 f1 k6 dR S2;generalize w3.setCell {block:=T,off:=1} (Value.int IntKind.i64 y2)=U2 at T2 N3 ⊢;by_cases h8:p2+8<=m
   .obtain⟨s1,s2,s3,s4⟩:=iW fa m p2 8 (by decide) (by omega);rw [s1,s2,s3,s4,if_pos rfl]at N3;obtain⟨y3,hy3⟩:∃y3,y3=lw (λj=>f (p2+j)) 8:=⟨_,rfl⟩;rw [<-hy3]at N3;have HY:=Lib.hid hy3;clear hy3 s1 s2 s3 s4;refine N3.mono ?_;rintro x w4 ⟨rfl,hR3,hg⟩;have S3:=T2.call (q:=p2+8) hg hR3;have c2:=S3.e6.cell 2;have f2:=S3.e6.frozen 2;have k6:Has w4 T:=S3.e6.lt;have T3:=S3.store 2 (.int .i64 y3);clear N3 hg T2 hR3
    go_wp2_with fail
    clear c2 f2 k6 S3;generalize w4.setCell {block:=T,off:=2} (Value.int IntKind.i64 y3)=U3 at T3 ⊢;have cR:=T3.rb.cell 0;have kR3:Has U3 RB:=T3.rb.lt;have l0:=T3.lb.cell 0;have l1:=T3.lb.cell 1;have l2:=T3.lb.cell 2;have kL:Has U3 LB:=T3.lb.lt;have t0:=T3.e6.cell 0;have t1:=T3.e6.cell 1;have t2:=T3.e6.cell 2;have kT:Has U3 T:=T3.e6.lt;by_cases hi:0<i
    .have bi:decide (0<i)=true:=decide_eq_true hi;have hi':=hi;have BH:=Lib.hid (λW=>nh last (y1,y2,y3) W);cases hbe:An last (y1,y2,y3)
     .rw [hbe]at BH;refine av 10 (by kernel_rfl) (by kernel_rfl) ?_;simp only [List.take_succ_cons,List.take_zero,List.drop_succ_cons,List.drop_zero]
      repeat (go_big_quiet_step (first
       |(go_at_call 75;exact Calls.regrown_of (BH.out _))))
      refine wpQuiet_nil ?_;rintro _ ⟨⟨d3,o3⟩,rfl⟩;have BU:=below_regrown U3 d3 o3;generalize grow (redrawn U3 d3) o3=U4 at BU ⊢;have V:=Lib.hid (gG R _ (p2+8) fa 6 p U4 (T3.hR.below BU) (by decide));have he:O= .error (6,(p:Int)):=by rw [HO.out];unfold iz;rw [q1];dsimp only;rw [q2];dsimp only;rw [if_pos h8,<-HY.out,if_pos ⟨hi',hbe⟩]
      go_wp2_with fail
      refine V.out.mono ?_;rintro x U5 ⟨rfl,hg⟩;exact⟨rfl,by rw [he],Two.of_grownBy (ae (ae T3.g (ab BU _)) hg) _⟩
     .rw [hbe]at BH;refine av 10 (by kernel_rfl) (by kernel_rfl) ?_;simp only [List.take_succ_cons,List.take_zero,List.drop_succ_cons,List.drop_zero]
      repeat (go_big_quiet_step (first
       |(go_at_call 75;exact Calls.regrown_of (BH.out _))))
      refine wpQuiet_nil ?_;rintro _ ⟨⟨d3,o3⟩,rfl⟩;have BU:=below_regrown U3 d3 o3;generalize grow (redrawn U3 d3) o3=U4 at BU ⊢;have V:=Lib.hid (fJ R _ (p2+8) fa 6 p U4 (T3.hR.below BU));have he:O= .ok ((y1,y2,y3),p2+8):=(by rw [HO.out];unfold iz;rw [q1];dsimp only;rw [q2];dsimp only;rw [if_pos h8,<-HY.out,if_neg (λh=>by rw [hbe]at h;exact absurd h.2 (by decide))]);clear HO;subst he
      go_wp2_with fail
      refine V.out.mono ?_;rintro x U5 ⟨rfl,hB5⟩;have BW:=BU.trans (hB5.mono BU.size);have T5:=T3.call (ab BW _) (T3.hR.below BW);have a0:=T5.l0;have a3:=T5.l3;have a4:=T5.l4;have n3:=T5.n3;have t0:=T5.e6.cell 0;have t1:=T5.e6.cell 1;have t2:=T5.e6.cell 2;have i0:=T5.lb.cell 0;have j0:=T5.lb.frozen 0;have L1:=T5.lb.set 0 (.int .i64 y1);have i1:=L1.cell 1;have j1:=L1.frozen 1;have L2:=L1.set 1 (.int .i64 y2);have i2:=L2.cell 2;have j2:=L2.frozen 2;have L3:=L2.set 2 (.int .i64 y3);have M3:=ah (ah (ah T5.e6 (show T≠LB by omega) (.int .i64 y1) 0) (show T≠LB by omega) (.int .i64 y2) 1) (show T≠LB by omega) (.int .i64 y3) 2;have m0:=M3.cell 0;have m1:=M3.cell 1;have m2:=M3.cell 2;have E3:=ah (ah (ah T5.e5 (show w.heap.size≠LB by omega) (.int .i64 y1) 0) (show w.heap.size≠LB by omega) (.int .i64 y2) 1) (show w.heap.size≠LB by omega) (.int .i64 y3) 2;have r0:=E3.cell 0;have s0:=E3.frozen 0;have E4:=E3.set 0 (.int .i64 y1);have r1:=E4.cell 1;have s1:=E4.frozen 1;have E5:=E4.set 1 (.int .i64 y2);have r2:=E5.cell 2;have s2:=E5.frozen 2;have E6:=Lib.hid (E5.set 2 (.int .i64 y3));have L6:=Lib.hid (ah (ah (ah L3 (show LB≠w.heap.size by omega) (.int .i64 y1) 0) (show LB≠w.heap.size by omega) (.int .i64 y2) 1) (show LB≠w.heap.size by omega) (.int .i64 y3) 2);have R6:=Lib.hid (ah (ah (ah (ah (ah (ah T5.hR (show R≠LB by omega) (.int .i64 y1) 0) (show R≠LB by omega) (.int .i64 y2) 1) (show R≠LB by omega) (.int .i64 y3) 2) (show R≠w.heap.size by omega) (.int .i64 y1) 0) (show R≠w.heap.size by omega) (.int .i64 y2) 1) (show R≠w.heap.size by omega) (.int .i64 y3) 2);have W6:=Lib.hid (((((((Two.of_grownBy T5.g LB).step (af U5 LB 0 (.int .i64 y1)) (λg e=>by cases e;simp)).step (af _ LB 1 (.int .i64 y2)) (λg e=>by cases e;simp)).step (af _ LB 2 (.int .i64 y3)) (λg e=>by cases e;simp)).step (af _ w.heap.size 0 (.int .i64 y1)) (λg e=>by cases e;simp)).step (af _ w.heap.size 1 (.int .i64 y2)) (λg e=>by cases e;simp)).step (af _ w.heap.size 2 (.int .i64 y3)) (λg e=>by cases e;simp));have k5:Has U5 T:=T5.e6.lt;clear V BU hB5 BW T5 L1 L2 L3 M3 E3 E4 E5 T3 cR kR3 l0 l1 l2 kL kT
      go_wp2_with fail
      (try simp only [Exit.inBlock,Exit.then])
      exact bodyPost_ret (results_cell_row rfl _ _ w.heap.size 54 _ _ _ rfl E6.out Tryz.underlying54 rfl (by kernel_rfl)) rfl ⟨⟨rfl,R6.out,L6.out⟩,W6.out⟩
    .have bi:decide (0<i)=false:=decide_eq_false hi;have hi':=hi;have BH:=Lib.hid (λW=>nh last (y1,y2,y3) W);refine av 10 (by kernel_rfl) (by kernel_rfl) ?_;simp only [List.take_succ_cons,List.take_zero,List.drop_succ_cons,List.drop_zero]
     repeat (go_big_quiet_step (first
      |(go_at_call 75;exact Calls.regrown_of (BH.out _))))
     refine wpQuiet_nil ?_;rintro _ ⟨⟨d3,o3⟩,rfl⟩;have BU:=below_regrown U3 d3 o3;generalize grow (redrawn U3 d3) o3=U4 at BU ⊢;have V:=Lib.hid (fJ R _ (p2+8) fa 6 p U4 (T3.hR.below BU));have he:O= .ok ((y1,y2,y3),p2+8):=(by rw [HO.out];unfold iz;rw [q1];dsimp only;rw [q2];dsimp only;rw [if_pos h8,<-HY.out,if_neg (λh=>hi' h.1)]);clear HO;subst he
     go_wp2_with fail
     refine V.out.mono ?_;rintro x U5 ⟨rfl,hB5⟩;have BW:=BU.trans (hB5.mono BU.size);have T5:=T3.call (ab BW _) (T3.hR.below BW);have a0:=T5.l0;have a3:=T5.l3;have a4:=T5.l4;have n3:=T5.n3;have t0:=T5.e6.cell 0;have t1:=T5.e6.cell 1;have t2:=T5.e6.cell 2;have i0:=T5.lb.cell 0;have j0:=T5.lb.frozen 0;have L1:=T5.lb.set 0 (.int .i64 y1);have i1:=L1.cell 1;have j1:=L1.frozen 1;have L2:=L1.set 1 (.int .i64 y2);have i2:=L2.cell 2;have j2:=L2.frozen 2;have L3:=L2.set 2 (.int .i64 y3);have M3:=ah (ah (ah T5.e6 (show T≠LB by omega) (.int .i64 y1) 0) (show T≠LB by omega) (.int .i64 y2) 1) (show T≠LB by omega) (.int .i64 y3) 2;have m0:=M3.cell 0;have m1:=M3.cell 1;have m2:=M3.cell 2;have E3:=ah (ah (ah T5.e5 (show w.heap.size≠LB by omega) (.int .i64 y1) 0) (show w.heap.size≠LB by omega) (.int .i64 y2) 1) (show w.heap.size≠LB by omega) (.int .i64 y3) 2;have r0:=E3.cell 0;have s0:=E3.frozen 0;have E4:=E3.set 0 (.int .i64 y1);have r1:=E4.cell 1;have s1:=E4.frozen 1;have E5:=E4.set 1 (.int .i64 y2);have r2:=E5.cell 2;have s2:=E5.frozen 2;have E6:=Lib.hid (E5.set 2 (.int .i64 y3));have L6:=Lib.hid (ah (ah (ah L3 (show LB≠w.heap.size by omega) (.int .i64 y1) 0) (show LB≠w.heap.size by omega) (.int .i64 y2) 1) (show LB≠w.heap.size by omega) (.int .i64 y3) 2);have R6:=Lib.hid (ah (ah (ah (ah (ah (ah T5.hR (show R≠LB by omega) (.int .i64 y1) 0) (show R≠LB by omega) (.int .i64 y2) 1) (show R≠LB by omega) (.int .i64 y3) 2) (show R≠w.heap.size by omega) (.int .i64 y1) 0) (show R≠w.heap.size by omega) (.int .i64 y2) 1) (show R≠w.heap.size by omega) (.int .i64 y3) 2);have W6:=Lib.hid (((((((Two.of_grownBy T5.g LB).step (af U5 LB 0 (.int .i64 y1)) (λg e=>by cases e;simp)).step (af _ LB 1 (.int .i64 y2)) (λg e=>by cases e;simp)).step (af _ LB 2 (.int .i64 y3)) (λg e=>by cases e;simp)).step (af _ w.heap.size 0 (.int .i64 y1)) (λg e=>by cases e;simp)).step (af _ w.heap.size 1 (.int .i64 y2)) (λg e=>by cases e;simp)).step (af _ w.heap.size 2 (.int .i64 y3)) (λg e=>by cases e;simp));have k5:Has U5 T:=T5.e6.lt;clear V BU hB5 BW T5 L1 L2 L3 M3 E3 E4 E5 T3 cR kR3 l0 l1 l2 kL kT
     go_wp2_with fail
     (try simp only [Exit.inBlock,Exit.then])
     exact bodyPost_ret (results_cell_row rfl _ _ w.heap.size 54 _ _ _ rfl E6.out Tryz.underlying54 rfl (by kernel_rfl)) rfl ⟨⟨rfl,R6.out,L6.out⟩,W6.out⟩
   .obtain⟨s1,s2,s3,s4⟩:=dA fa m p2 8 (by decide) (by omega);rw [s1,s2,s3,s4,if_neg (by decide)]at N3;clear s1 s2 s3 s4;have he:O= .error (2,(m:Int)):=by rw [HO.out];unfold iz;rw [q1];dsimp only;rw [q2];dsimp only;rw [if_neg h8]
    have a0:=T2.l0;have a4:=T2.l4;refine N3.mono ?_;rintro x w4 ⟨rfl,hR3,hg⟩;have rb4:=az T2.rb hg T2.n1;have lb4:=az T2.lb hg T2.n3;have e64:=az T2.e6 hg (by omega);have g4:=ae T2.g hg;have c2:=e64.cell 2;have f2:=e64.frozen 2;have k6:Has w4 T:=e64.lt;have gs:=af w4 T 2 (.int .i64 0);have a3:=T2.l3;have a1:=T2.l1;have rb5:=az rb4 gs (by omega);have lb5:=az lb4 gs (by omega);have e65:=e64.set 2 (.int .i64 0);have hR5:=az hR3 gs (by omega);have G3:=cI g4 T 2 (.int .i64 0) (by omega);clear N3 hg T2 hR3 gs
    go_wp2_with fail
    clear c2 f2 k6 rb4 lb4 e64 g4;generalize w4.setCell {block:=T,off:=2} (Value.int IntKind.i64 0)=U3 at rb5 lb5 e65 hR5 G3 ⊢;have cR:=rb5.cell 0;have kR3:Has U3 RB:=rb5.lt;have l0:=lb5.cell 0;have l1:=lb5.cell 1;have l2:=lb5.cell 2;have kL:Has U3 LB:=lb5.lt;have t0:=e65.cell 0;have t1:=e65.cell 1;have t2:=e65.cell 2;have kT:Has U3 T:=e65.lt;have BH:=Lib.hid (λW=>nh last (y1,y2,0) W);by_cases hi:0<i
    .have bi:decide (0<i)=true:=decide_eq_true hi;refine av 10 (by kernel_rfl) (by kernel_rfl) ?_;simp only [List.take_succ_cons,List.take_zero,List.drop_succ_cons,List.drop_zero]
     repeat (go_big_quiet_step (first
      |(go_at_call 75;exact Calls.regrown_of (BH.out _))))
     refine wpQuiet_nil ?_;rintro _ ⟨⟨d3,o3⟩,rfl⟩;have BU:=below_regrown U3 d3 o3;generalize grow (redrawn U3 d3) o3=U4 at BU ⊢;have V:=Lib.hid (λb=>gO R _ p2 2 m 6 p b U4 (hR5.below BU) (by decide))
     go_wp2_with fail
     refine(V.out _).mono ?_;rintro x U5 ⟨rfl,hB5⟩;exact⟨rfl,by rw [he],Two.of_grownBy (ae (ae G3 (ab BU _)) (ab hB5 _)) _⟩
    .have bi:decide (0<i)=false:=decide_eq_false hi;refine av 10 (by kernel_rfl) (by kernel_rfl) ?_;simp only [List.take_succ_cons,List.take_zero,List.drop_succ_cons,List.drop_zero]
     repeat (go_big_quiet_step (first
      |(go_at_call 75;exact Calls.regrown_of (BH.out _))))
     refine wpQuiet_nil ?_;rintro _ ⟨⟨d3,o3⟩,rfl⟩;have BU:=below_regrown U3 d3 o3;generalize grow (redrawn U3 d3) o3=U4 at BU ⊢;have V:=Lib.hid (λb=>gO R _ p2 2 m 6 p b U4 (hR5.below BU) (by decide))
     go_wp2_with fail
     refine(V.out _).mono ?_;rintro x U5 ⟨rfl,hB5⟩;exact⟨rfl,by rw [he],Two.of_grownBy (ae (ae G3 (ab BU _)) (ab hB5 _)) _⟩
end
noncomputable section
open Go.RowKit Go.Sort
theorem lH{W W':World}{B R L:Nat}{t:TypeId}{cs:Array Value}(h:CellsAt W B t cs)(g:Two W W' R L)(h1:B≠R)(h2:B≠L):CellsAt W' B t cs:=h.kept (g.block B h.lt h1 h2)
theorem KJ{W W':World}{a:Option Addr}{n R L:Nat}{f:Nat->Int}(h:Rd8 W a n f)(g:Two W W' R L)(hne:∀b,a=some b->b.block≠R/\b.block≠L):Rd8 W' a n f:=by
 intro i hi;obtain⟨b,e,hl,hc,hx⟩:=h i hi;exact⟨b,e,Nat.lt_of_lt_of_le hl g.size,(World.cell?_of_block (by rw [rZ];exact g.block b.block hl (hne b e).1 (hne b e).2)).trans hc,hx⟩
def cK(f:Nat->Int)(m:Nat)(rows cols:Int):Nat->Nat->Int×Int×Int->Nat->Except (Int×Int) (List (Int×Int×Int)×Nat)
 |0,_,_,p=> .ok ([],p)
 |k+1,i,last,p=>
  match iz f m p rows cols last i with
  | .error e=> .error e
  | .ok (t,q)=>
   match cK f m rows cols k (i+1) t q with
   | .error e=> .error e
   | .ok (l,r)=> .ok (t::l,r)
theorem Ap{f:Nat->Int}{m:Nat}{rows cols:Int}{k i q q2:Nat}{last t:Int×Int×Int}(es:List (Int×Int×Int))(h:iz f m q rows cols last i= .ok (t,q2)):dr es (cK f m rows cols (k+1) i last q)=dr (es++ [t]) (cK f m rows cols k (i+1) t q2):=by
 simp only [cK,h];cases cK f m rows cols k (i+1) t q2<;>simp [dr]
theorem oy{f:Nat->Int}{m:Nat}{rows cols:Int}{k i q:Nat}{last:Int×Int×Int}{er:Int×Int}(es:List (Int×Int×Int))(h:iz f m q rows cols last i= .error er):dr es (cK f m rows cols (k+1) i last q)= .error er:=by
 simp only [cK,h];rfl
theorem KL{f:Nat->Int}{m p:Nat}{rows cols i:Int}{last t:Int×Int×Int}{q:Nat}(h:iz f m p rows cols last i= .ok (t,q)):q<=m:=by
 unfold iz at h;split at h
 .cases h
 .split at h
  .cases h
  .split at h
   .split at h
    .cases h
    .cases h;assumption
   .cases h
theorem Ef:(Tryz.prog.info? 54).map (λi=>(i.zero,i.size,i.bytes))=some (some (.agg #[.int .i64 0,.int .i64 0,.int .i64 0]),3,24):=by kernel_rfl
set_option maxRecDepth 100000 in
set_option maxHeartbeats 2000000 in
theorem FV(R RB MB LB:Nat)(a:Option Addr)(m c p k:Nat)(fa rows cols:Int)(last:Int×Int×Int)(sl:Value)(f:Nat->Int)(w:World)(hR:CellsAt w R 127 (rdr (.slice a m c) p 0 fa))(hb:Rd8 w a m f)(hne:∀b,a=some b->b.block≠R/\b.block≠LB)(hc:m<=c)(hm:m<=100000)(hp:p<=m)
  (hRB:CellsAt w RB 98 #[.pointer (some ⟨R,0,none⟩)]) (hMB:CellsAt w MB 76 #[.int .i64 rows,.int .i64 cols,sl]) (hLB:CellsAt w LB 54 #[.int .i64 last.1,.int .i64 last.2.1,.int .i64 last.2.2]) (h1:RB≠R) (h2:MB≠R) (h3:LB≠R) (h4:RB≠LB) (h5:MB≠LB) (hr0:0<=rows) (hr1:rows<=4096) (hc0:0<=cols) (hc1:cols<=4096) (hk:k<=65536):
  Calls Tryz.prog 78 #[.int .i64 k,.func (.func 79) #[] #[.pointer (some ⟨RB,0,none⟩),.pointer (some ⟨MB,0,none⟩),.pointer (some ⟨LB,0,none⟩)]] w λx w'=>
   (match cK f m rows cols k 0 last p with
    | .ok (l,q)=>∃v,x= .returned v/\w'.ownsRow w.heap.size 54 3 v l.length (fu l)/\CellsAt w' R 127 (rdr (.slice a m c) q 0 fa)/\(l= []->v= .slice none 0 0)
    | .error er=>x= .panicked [fZ er.1 er.2])/\Two w w' R LB:=by
 obtain⟨i0,hi,hz0,hz1,hz2⟩:=im Ef;have kR:R<w.heap.size:=hR.lt;have kL:LB<w.heap.size:=hLB.lt;obtain⟨O,hO⟩:∃O,O=cK f m rows cols k 0 last p:=⟨_,rfl⟩;rw [<-hO];have HO:=Lib.hid hO;clear hO;have G:=Lib.hid (λV (g:Two w V R LB) (q:Nat) (i:Int) (lst:Int×Int×Int) (h:CellsAt V R 127 (rdr (.slice a m c) q 0 fa)) (hl:CellsAt V LB 54 #[.int .i64 lst.1,.int .i64 lst.2.1,.int .i64 lst.2.2]) (hq:q<=m)=>Ao R RB MB LB a m c q i fa rows cols lst sl f V h (KJ hb g hne) hne hc hm hq (lH hRB g h1 h4) (lH hMB g h2 h5) hl h1 h2 h3 h4 h5 hr0 hr1 hc0 hc1);clear hb hRB hMB hne h1 h2 h4 h5
 go_enter Tryz.func78,Tryz.ntmps78
 go_wp2_with fail
 go_loopw [5,8] (λv y wr=>∃(i:Nat) (es:List (Int×Int×Int)) (lst:Int×Int×Int) (q:Nat),y= .int .i64 i/\i<=k/\es.length=i/\q<=m/\Hid (O=dr es (cK f m rows cols (k - i) i lst q))/\CellsAt wr R 127 (rdr (.slice a m c) q 0 fa)/\CellsAt wr LB 54 #[.int .i64 lst.1,.int .i64 lst.2.1,.int .i64 lst.2.2]/\Two w wr R LB/\wr.ownsRow w.heap.size 54 3 v i (fu es)/\(i=0->v= .slice none 0 0)) (λ_ y _=>k - (intOf y).toNat)
 case atStart=>
  exact⟨0,[],last,p,rfl,by omega,rfl,hp,Lib.hid (by rw [ko];exact HO.out),hR,hLB,Two.of_grownBy (ab (Below.refl _ _) _) _,World.ownsRow_nil _ _ _ _,λ_=>rfl⟩
 case round=>
  clear hR hLB;obtain⟨i,es,lst,q,rfl,hik,hlen,hq,hE,hR,hLB,hg,hrow,hz⟩:=hrel;have kV:=hg.size;by_cases hlt:i<k
  .have hlt':(i:Int)<(k:Int):=by omega
   have C1:=G.out wr hg q i lst hR hLB hq
   cases q1:iz f m q rows cols lst i with
   |error er=>
    have he:O= .error er:=by
     have:=hE.out
     rw [show k - i=(k - i - 1)+1 by omega,oy es q1]at this;exact this
    rw [q1]at C1;have C1:=Lib.hid C1;have he:=Lib.hid he;clear hE
    go_wp2_with fail
    refine C1.out.mono ?_;rintro x w1 ⟨rfl,hg1⟩
    (try simp only [Exit.inBlock,Exit.then])
    refine⟨rfl,?_,hg.trans hg1⟩;rw [he.out]
   |ok r1=>
    obtain⟨e,q2⟩:=r1
    have he:O=dr (es++ [e]) (cK f m rows cols (k - (i+1)) (i+1) e q2):=by
     have:=hE.out
     rw [show k - i=(k - (i+1))+1 by omega,Ap es q1]at this;exact this
    have hq2:=KL q1;rw [q1]at C1;have C1:=Lib.hid C1;have he:=Lib.hid he;clear hE;obtain⟨bs,cap,rfl⟩:=bL hrow
    go_wp2_with fail
    refine C1.out.mono ?_;rintro x V ⟨⟨rfl,hR1,hL1⟩,hg1⟩;have hg2:=hg.trans hg1
    have rV:V.ownsRow w.heap.size 54 3 (.slice bs i cap) i (fu es):=by
     refine⟨hrow.1,?_⟩;rcases hrow.2 with h|⟨g,cp,cur,e1,e2,e3,e4⟩
     .exact .inl h
     .exact .inr ⟨g,cp,cur,e1,e2,(hg1.block g (Array.getElem?_eq_some_iff.1 e3).1 (by omega) (by omega)).trans e3,e4⟩
    have kV2:=hg2.size;clear hrow hg hg1 hR hLB hz
    go_wp2_with (refine wpList_append_own _ rfl _ _ 41 rfl w.heap.size 54 i0 (.agg #[.int .i64 0,.int .i64 0,.int .i64 0]) 3 24 Tryz.underlying41 hi hz0 hz1 hz2 rfl (by decide) _ _ _ rfl (rV.alloc _) ⟨V.heap.size,0,none⟩ 1 1 [.int .i64 e.1,.int .i64 e.2.1,.int .i64 e.2.2] rfl rfl (bK _ _ _ _ _) (by simp [Value.oneCell']) (by unfold maxLen;omega) (by omega) (by simp;omega) ?_;intro v' V2 hown' hgrow _;obtain⟨g',cap',rfl⟩:=ownsRow_succ hown')
    refine⟨?_,by simp [intOf];omega⟩;have hgA:V.grownBy V2 (Value.slice bs i cap).ownBlock:=ae (ab (bl1 V _) _) hgrow;exact⟨i+1,es++ [e],e,q2,by simp,by omega,by simp [hlen],hq2,he,hR1.grown hgA (λe=>by have:=(rV.lt R e.symm).1;omega),hL1.grown hgA (λe=>by have:=(rV.lt LB e.symm).1;omega),hg2.step hgA (λb e=> .inr (.inr (rV.lt b e).1)),by rw [ep];exact hown',λh=>by omega⟩
  .obtain rfl:i=k:=by omega
   have he:O= .ok (es,q):=by
    have:=hE.out
    rw [Nat.sub_self]at this;simpa [cK,dr]using this
   obtain⟨bs,cap,rfl⟩:=bL hrow;clear hE HO;subst he
   go_wp2_with fail
   go_ret
   exact⟨⟨_,rfl,hrow,hR,λh=>hz (by rw [<-hlen,h];rfl)⟩,hg⟩
end
noncomputable section
open Go.RowKit Go.Sort
def eN(f:Nat->Int)(m:Nat):Except (Int×Int) ((Int×Int×List (Int×Int×Int))×Nat):=
 if 4<=m then
  if strOfNums (dB f 0 4)=⟨#[70,82,77,49]⟩then
   match aM f m 4 4096 5 with
   | .error e=> .error e
   | .ok (rows,p1)=>
    match aM f m p1 4096 5 with
    | .error e=> .error e
    | .ok (cols,p2)=>
     match aM f m p2 65536 5 with
     | .error e=> .error e
     | .ok (k,p3)=>
      match cK f m rows cols k.toNat 0 (0,0,0) p3 with
      | .error e=> .error e
      | .ok (l,q)=> .ok ((rows,cols,l),q)
  else .error (1,0)
 else .error (2,(m:Int))
theorem wH{f:Nat->Int}{m:Nat}{rows cols:Int}:∀(k i:Nat) (last:Int×Int×Int) (p:Nat) {l:List (Int×Int×Int)} {q:Nat},cK f m rows cols k i last p= .ok (l,q)->l.length=k
 |0,i,last,p,l,q,h=>by simp only [cK]at h;cases h;rfl
 |k+1,i,last,p,l,q,h=>by
  simp only [cK]at h;split at h
  .cases h
  .split at h
   .cases h
   .rename_i h2;cases h;simp [wH k _ _ _ h2]
theorem bA{W W':World}{base size n b:Nat}{e:TypeId}{v:Value}{xs:List Value}(h:W.ownsRow base e size v n xs)(g:W.grownBy W' (some b))(hb:b<base):W'.ownsRow base e size v n xs:=by
 refine⟨h.1,?_⟩;rcases h.2 with h|⟨r,cp,cur,e1,e2,e3,e4⟩
 .exact .inl h
 .exact .inr ⟨r,cp,cur,e1,e2,(g.block r (Array.getElem?_eq_some_iff.1 e3).1 (by simp;omega)).trans e3,e4⟩
theorem wI{w W W':World}{R L:Nat}(g:w.grownBy W (some R))(t:Two W W' R L)(hL:w.heap.size<=L):w.grownBy W' (some R):=
 ⟨t.os.trans g.os,t.tape.trans g.tape,t.output.trans g.output,Nat.le_trans g.size t.size,λk hk hne=>(t.block k (Nat.lt_of_lt_of_le hk g.size) (by simpa using hne) (by omega)).trans (g.block k hk hne)⟩
structure StM(w:World)(R MB:Nat)(a:Option Addr)(m c:Nat)(fa:Int)(f:Nat->Int)(W:World)(p:Nat)(e:Array Value):Prop where
 hR:CellsAt W R 127 (rdr (.slice a m c) p 0 fa)
 hb:Rd8 W a m f
 rb:CellsAt W w.heap.size 98 #[.pointer (some ⟨R,0,none⟩)]
 res:CellsAt W (w.heap.size+1) 76 #[.int .i64 0,.int .i64 0,.slice none 0 0]
 mb:CellsAt W MB 76 e
 g:w.grownBy W (some R)
 l1:w.heap.size+1<MB
 l4:R<w.heap.size
 n4:∀b,a=some b->b.block≠R
 n5:∀b,a=some b->0<m->b.block<w.heap.size
section
variable {w : World} {R MB : Nat} {a : Option Addr} {m c : Nat} {fa : Int} {f : Nat → Int} {W : World} {p : Nat} {e : Array Value}
theorem StM.call(h:StM w R MB a m c fa f W p e){W':World}{q:Nat}(g:W.grownBy W' (some R))(hR:CellsAt W' R 127 (rdr (.slice a m c) q 0 fa)):StM w R MB a m c fa f W' q e:=by
 have l1:=h.l1;have l4:=h.l4;exact⟨hR,dU h.hb g h.n4,az h.rb g (by omega),az h.res g (by omega),az h.mb g (by omega),ae h.g g,h.l1,h.l4,h.n4,h.n5⟩
theorem StM.store(h:StM w R MB a m c fa f W p e)(i:Nat)(v:Value):StM w R MB a m c fa f (W.setCell ⟨MB,i,none⟩ v) p (e.setIfInBounds i v):=by
 have l1:=h.l1;have l4:=h.l4;have g:=af W MB i v;refine⟨az h.hR g (by omega),?_,az h.rb g (by omega),az h.res g (by omega),h.mb.set i v,cI h.g MB i v (by omega),h.l1,h.l4,h.n4,h.n5⟩;by_cases hm:0<m
 .exact dU h.hb g (λb hb=>by have:=h.n5 b hb hm;omega)
 .obtain rfl:m=0:=by omega
  exact fY _ _ _
theorem StM.below(h:StM w R MB a m c fa f W p e){W':World}(g:Below W.heap.size W W'):StM w R MB a m c fa f W' p e:=h.call (ab g _) (h.hR.below g)
end
theorem CB(R:Nat)(a:Option Addr)(m c:Nat)(fa:Int)(f:Nat->Int)(w:World)(hR:CellsAt w R 127 (rdr (.slice a m c) 0 0 fa))(hb:Rd8 w a m f)(hne:∀b,a=some b->b.block≠R)(hc:m<=c)(hm:m<=100000):
  Calls Tryz.prog 65 #[ldr R,.string ⟨#[70,82,77,49]⟩] w (Ec (λ(_:Unit)=> .tuple #[]) R a m c fa w (if 4<=m then(if strOfNums (dB f 0 4)=⟨#[70,82,77,49]⟩then .ok ((),4)else .error (1,0))else .error (2,(m:Int)))):=
 wF R a m c fa f _ w hR hb hne hc hm rfl
set_option maxRecDepth 100000 in
set_option maxHeartbeats 500000 in
theorem CD(R:Nat)(a:Option Addr)(m c:Nat)(fa:Int)(f:Nat->Int)(w:World)(hR:CellsAt w R 127 (rdr (.slice a m c) 0 0 fa))(hb:Rd8 w a m f)(hne:∀b,a=some b->b.block≠R)(hc:m<=c)(hm:m<=100000):
  Calls Tryz.prog 49 #[ldr R] w λx w'=>
   (match eN f m with
    | .ok ((rows,cols,l),q)=>∃base v,w.heap.size<=base/\x= .returned (.agg #[.int .i64 rows,.int .i64 cols,v])/\w'.ownsRow base 54 3 v l.length (fu l)/\CellsAt w' R 127 (rdr (.slice a m c) q 0 fa)/\(l= []->v= .slice none 0 0)
    | .error er=>x= .panicked [fZ er.1 er.2])/\w.grownBy w' (some R):=by
 obtain⟨O,hO⟩:∃O,O=eN f m:=⟨_,rfl⟩;rw [<-hO];have HO:=Lib.hid hO;clear hO;have kR:R<w.heap.size:=hR.lt
 have hn5:∀b,a=some b->0<m->b.block<w.heap.size:=λb hb2 hm0=>by
  obtain⟨b',e1,e2,_⟩:=hb 0 hm0;rw [hb2]at e1;cases e1;exact e2
 have N:=Lib.hid (λW p most e2 h1 h2 h3 h4=>gP R a m c p fa most e2 f W h1 h2 hne hc hm h3 h4);have B2:Below w.heap.size w ((w.alloc (.cells #[.pointer (some ⟨R,0,none⟩)] 98)).alloc (.cells #[.int .i64 0,.int .i64 0,.slice none 0 0] 76)):=bl2 _ _ _;have hRB:CellsAt ((w.alloc (.cells #[.pointer (some ⟨R,0,none⟩)] 98)).alloc (.cells #[.int .i64 0,.int .i64 0,.slice none 0 0] 76)) w.heap.size 98 #[.pointer (some ⟨R,0,none⟩)]:=CellsAt.below (World.alloc_heap_new w _) (bl1 _ _)
 have hGB:CellsAt ((w.alloc (.cells #[.pointer (some ⟨R,0,none⟩)] 98)).alloc (.cells #[.int .i64 0,.int .i64 0,.slice none 0 0] 76)) (w.heap.size+1) 76 #[.int .i64 0,.int .i64 0,.slice none 0 0]:=by
  have:=World.alloc_heap_new (w.alloc (.cells #[.pointer (some ⟨R,0,none⟩)] 98)) (.cells #[.int .i64 0,.int .i64 0,.slice none 0 0] 76)
  simpa [CellsAt]using this
 have hR0:=hR.below B2;have hb0:=hb.grown (ab B2 none) (λ_ _=>by simp);have g0:w.grownBy ((w.alloc (.cells #[.pointer (some ⟨R,0,none⟩)] 98)).alloc (.cells #[.int .i64 0,.int .i64 0,.slice none 0 0] 76)) (some R):=ab B2 _
 go_enter Tryz.func49,Tryz.ntmps49
 go_wp2_with fail
 generalize ((w.alloc (.cells #[.pointer (some ⟨R,0,none⟩)] 98)).alloc (.cells #[.int .i64 0,.int .i64 0,.slice none 0 0] 76))=W0 at hRB hGB hR0 hb0 g0 ⊢;clear B2 hR hb;have C1:=CB R a m c fa f W0 hR0 hb0 hne hc hm;by_cases h4:4<=m
 .rw [if_pos h4]at C1;by_cases h5:strOfNums (dB f 0 4)=⟨#[70,82,77,49]⟩
  .rw [if_pos h5]at C1;refine C1.mono ?_;rintro x w1 ⟨⟨rfl,hR1⟩,hg⟩;have BA:=bl1 w1 (.cells #[.int .i64 0,.int .i64 0,.slice none 0 0] 76);have hRB1:=az hRB hg (by omega);have hGB1:=az hGB hg (by omega)
   have S0:StM w R w1.heap.size a m c fa f (w1.alloc (.cells #[.int .i64 0,.int .i64 0,.slice none 0 0] 76)) 4 #[.int .i64 0,.int .i64 0,.slice none 0 0]:=
    ⟨hR1.below BA,(dU hb0 hg hne).grown (ab BA none) (λ_ _=>by simp),hRB1.below BA,hGB1.below BA,World.alloc_heap_new w1 _,ae (ae g0 hg) (ab BA _),hGB1.lt,kR,hne,hn5⟩
   clear C1 hRB hGB hR0 hb0 g0 hg BA hRB1 hGB1 hR1;have cR:=S0.rb.cell 0;have kRB:Has (w1.alloc (.cells #[.int .i64 0,.int .i64 0,.slice none 0 0] 76)) w.heap.size:=S0.rb.lt
   go_wp2_with fail
   generalize w1.alloc (.cells #[.int .i64 0,.int .i64 0,.slice none 0 0] 76)=W1 at S0 cR kRB ⊢;generalize w1.heap.size=MB at S0 ⊢;have N1:=N.out W1 4 4096 5 S0.hR S0.hb h4 (by decide);clear cR kRB
   cases q1:aM f m 4 4096 5 with
   |error er=>
    have he:O= .error er:=by rw [HO.out];unfold eN;rw [if_pos h4,if_pos h5,q1]
    rw [q1]at N1;refine N1.mono ?_;rintro x w2 ⟨rfl,hg⟩;exact⟨rfl,by rw [he],ae S0.g hg⟩
   |ok r1=>
    obtain⟨y1,p1⟩:=r1;have n1:=dq q1;have y10:=js q1 S0.hb;rw [q1]at N1;refine N1.mono ?_;rintro x w2 ⟨⟨rfl,hR1⟩,hg⟩;have S1:=S0.call hg hR1;have c0:=S1.mb.cell 0;have f0:=S1.mb.frozen 0;have k6:Has w2 MB:=S1.mb.lt;have T1:=S1.store 0 (.int .i64 y1);have dR:=T1.rb.cell 0;clear N1 hg S0 hR1
    go_wp2_with fail
    have N2:=N.out _ p1 4096 5 T1.hR T1.hb n1.2.1 (by decide);clear c0 f0 k6 dR S1;generalize w2.setCell {block:=MB,off:=0} (Value.int IntKind.i64 y1)=U1 at T1 N2 ⊢
    cases q2:aM f m p1 4096 5 with
    |error er=>
     have he:O= .error er:=by rw [HO.out];unfold eN;rw [if_pos h4,if_pos h5,q1];dsimp only;rw [q2]
     rw [q2]at N2;refine N2.mono ?_;rintro x w3 ⟨rfl,hg⟩;exact⟨rfl,by rw [he],ae T1.g hg⟩
    |ok r2=>
     obtain⟨y2,p2⟩:=r2;have n2:=dq q2;have y20:=js q2 T1.hb;rw [q2]at N2;refine N2.mono ?_;rintro x w3 ⟨⟨rfl,hR2⟩,hg⟩;have S2:=T1.call hg hR2;have c1:=S2.mb.cell 1;have f1:=S2.mb.frozen 1;have k6:Has w3 MB:=S2.mb.lt;have T2:=S2.store 1 (.int .i64 y2);have dR:=T2.rb.cell 0;clear N2 hg T1 hR2
     go_wp2_with fail
     have N3:=N.out _ p2 65536 5 T2.hR T2.hb n2.2.1 (by decide);clear c1 f1 k6 dR S2;generalize w3.setCell {block:=MB,off:=1} (Value.int IntKind.i64 y2)=U2 at T2 N3 ⊢
     cases q3:aM f m p2 65536 5 with
     |error er=>
      have he:O= .error er:=by rw [HO.out];unfold eN;rw [if_pos h4,if_pos h5,q1];dsimp only;rw [q2];dsimp only;rw [q3]
      rw [q3]at N3;refine N3.mono ?_;rintro x w4 ⟨rfl,hg⟩;exact⟨rfl,by rw [he],ae T2.g hg⟩
     |ok r3=>
      obtain⟨y3,p3⟩:=r3;have n3:=dq q3;have y30:=js q3 T2.hb;obtain⟨K,rfl⟩:=Int.eq_ofNat_of_zero_le y30;rw [q3]at N3;refine N3.mono ?_;rintro x w4 ⟨⟨rfl,hR3⟩,hg⟩;have S3:=T2.call hg hR3;have BA:=bl1 w4 (.cells #[.int .i64 0,.int .i64 0,.int .i64 0] 54);have S4:=S3.below BA;have lLB:=S3.mb.lt;have hLB:CellsAt (w4.alloc (.cells #[.int .i64 0,.int .i64 0,.int .i64 0] 54)) w4.heap.size 54 #[.int .i64 0,.int .i64 0,.int .i64 0]:=World.alloc_heap_new w4 _;have l1:=S3.l1;clear N3 hg T2 hR3 S3 BA;have hne2:∀b,a=some b->0<m->b.block≠R/\b.block≠w4.heap.size:=λb e hm0=>⟨hne b e,by have:=hn5 b e hm0;omega⟩;have hne2':∀b,a=some b->b.block≠R/\b.block≠w4.heap.size:=λb e=>hne2 b e (by omega);have L0:=FV R w.heap.size MB w4.heap.size a m c p3 K fa y1 y2 (0,0,0) (.slice none 0 0) f _ S4.hR S4.hb hne2' hc hm n3.2.1 S4.rb (by simpa using S4.mb) hLB (by omega) (by omega) (by omega) (by omega) (by omega) y10 n1.2.2.2 y20 n2.2.2.2 (by have:=n3.2.2.2;omega);have hmf:∀(fn:Fn) (first cap:Array Value) (w:World),(Instr.makeFunc fn first cap).run Tryz.prog w= .ok (.func fn first cap) w:=λ_ _ _ _=>rfl;have L0:=Lib.hid L0
      go_wp2_with fail
      generalize w4.alloc (.cells #[.int .i64 0,.int .i64 0,.int .i64 0] 54)=U3 at S4 hLB L0 ⊢;have lU:w4.heap.size<U3.heap.size:=hLB.lt;generalize w4.heap.size=LB at lLB hLB hne2 hne2' L0 lU ⊢
      cases q4:cK f m y1 y2 K 0 (0,0,0) p3 with
      |error er=>
       have he:O= .error er:=by rw [HO.out];unfold eN;rw [if_pos h4,if_pos h5,q1];dsimp only;rw [q2];dsimp only;rw [q3];dsimp only;rw [Int.toNat_natCast,q4]
       rw [q4]at L0;refine L0.out.mono ?_;rintro x w5 ⟨rfl,hg⟩;exact⟨rfl,by rw [he],wI S4.g hg (by omega)⟩
      |ok r4=>
       obtain⟨l,q⟩:=r4;have he:O= .ok ((y1,y2,l),q):=by rw [HO.out];unfold eN;rw [if_pos h4,if_pos h5,q1];dsimp only;rw [q2];dsimp only;rw [q3];dsimp only;rw [Int.toNat_natCast,q4]
       have hl:=wH _ _ _ _ q4;rw [q4]at L0;refine L0.out.mono ?_;rintro x w5 ⟨⟨v,rfl,hrow,hR5,hnil⟩,hg⟩;have hM5:=lH S4.mb hg (by omega) (by omega);have hG5:=lH S4.res hg (by omega) (by omega);have g5:=wI S4.g hg (by omega);have lM:=S4.mb.lt;simp only [Array.setIfInBounds]at hM5;have hM5:CellsAt w5 MB 76 #[.int .i64 y1,.int .i64 y2,.slice none 0 0]:=by simpa using hM5
       clear L0 S4 hLB N hmf;rw [hl]at hrow;obtain⟨bs,cap,rfl⟩:=bL hrow;have a0:=hM5.cell 2;have a1:=hM5.frozen 2;have kM:Has w5 MB:=hM5.lt;have P0:=hM5.set 2 (.slice bs K cap);have b0:=P0.cell 0;have b1:=P0.cell 1;have b2:=P0.cell 2;have Q0:=ah hG5 (show w.heap.size+1≠MB by omega) (.slice bs K cap) 2;have s0:=Q0.cell 0;have t0:=Q0.frozen 0;have Q1:=Q0.set 0 (.int .i64 y1);have s1:=Q1.cell 1;have t1:=Q1.frozen 1;have Q2:=Q1.set 1 (.int .i64 y2);have s2:=Q2.cell 2;have t2:=Q2.frozen 2;have Q3:=Lib.hid (Q2.set 2 (.slice bs K cap));have kG:Has w5 (w.heap.size+1):=hG5.lt;have X0:=bA hrow (af w5 MB 2 (.slice bs K cap)) lM;have X1:=bA X0 (af _ (w.heap.size+1) 0 (.int .i64 y1)) (by omega);have X2:=bA X1 (af _ (w.heap.size+1) 1 (.int .i64 y2)) (by omega);have X3:=bA X2 (af _ (w.heap.size+1) 2 (.slice bs K cap)) (by omega);have R3:=ah (ah (ah (ah hR5 (show R≠MB by omega) (.slice bs K cap) 2) (show R≠w.heap.size+1 by omega) (.int .i64 y1) 0) (show R≠w.heap.size+1 by omega) (.int .i64 y2) 1) (show R≠w.heap.size+1 by omega) (.slice bs K cap) 2;have G3:=cI (cI (cI (cI g5 MB 2 (.slice bs K cap) (by omega)) (w.heap.size+1) 0 (.int .i64 y1) (by omega)) (w.heap.size+1) 1 (.int .i64 y2) (by omega)) (w.heap.size+1) 2 (.slice bs K cap) (by omega);have Z:=Lib.hid (And.intro X3 (And.intro R3 (And.intro G3 hnil)));clear hnil hrow hR5 hg hM5 hG5 g5 P0 Q0 Q1 Q2 X0 X1 X2 X3 R3 G3 HO;subst he
       go_wp2_with fail
       (try simp only [Exit.inBlock,Exit.then])
       refine bodyPost_ret (results_cell_row rfl _ _ (w.heap.size+1) 76 _ _ _ rfl Q3.out Tryz.underlying76 rfl (by kernel_rfl)) rfl ⟨?_,Z.out.2.2.1⟩;have hU:w.heap.size<=U3.heap.size:=by omega
       subst hl
       first|exact⟨U3.heap.size,_,hU,rfl,Z.out.1,Z.out.2.1,Z.out.2.2.2⟩|exact⟨U3.heap.size,hU,_,rfl,Z.out.1,Z.out.2.1,Z.out.2.2.2⟩
  .rw [if_neg h5]at C1;have he:O= .error (1,0):=by rw [HO.out];unfold eN;rw [if_pos h4,if_neg h5]
   refine C1.mono ?_;rintro x w1 ⟨rfl,hg⟩;exact⟨rfl,by rw [he],ae g0 hg⟩
 .rw [if_neg h4]at C1;have he:O= .error (2,(m:Int)):=by rw [HO.out];unfold eN;rw [if_neg h4]
  refine C1.mono ?_;rintro x w1 ⟨rfl,hg⟩;exact⟨rfl,by rw [he],ae g0 hg⟩
end
noncomputable section
open Go.RowKit Go.Sort
theorem mq(F:Nat)(e fa e2 fa2:Int)(older:List PanicEntry)(w:World)(hF:CellsAt w F 33 #[.int .i64 e,.int .i64 fa]):
  CallsD Tryz.prog 77 #[.pointer (some ⟨F,0,none⟩)] (.panicking (fZ e2 fa2::older)) w λx u' w'=>
   x= .returned (.tuple #[])/\u'= .panicking ({fZ e2 fa2 with recovered:=true}::older)/\CellsAt w' F 33 #[.int .i64 e2,.int .i64 fa2]/\w.grownBy w' (some F):=by
 have c0:w.cell? ⟨F,0,none⟩=some (.int .i64 e):=hF.cell 0;have c1:w.cell? ⟨F,1,none⟩=some (.int .i64 fa):=hF.cell 1;have f0:=hF.frozen 0;have f1:=hF.frozen 1;have kF:Has w F:=hF.lt;refine callsD_of_wpS Tryz.func77 rfl λc₀ cs hu=> ?_;apply wpS_seq;apply wpS_region;simp [wpOpsS,go_sem,recoverD,hu,Tryz.ntmps77,Exit.thenS];refine wpS_of_wp ?_;generalize hQ:(λ(e:Exit) (a':Act) (w':World)=>bodyPostS _ _ _ _ _ e a' _ w')=Q;simp only [Array.replicate_succ,Array.replicate_zero,List.push_toArray,List.append_toArray,List.nil_append,List.cons_append,List.setIfInBounds_toArray,List.set_cons_zero,List.set_cons_succ]
 go_wp2_with fail
 subst hQ;have h1:=(hF.set 0 (.int .i64 e2)).set 1 (.int .i64 fa2);have h2:=ae (af w F 0 (.int .i64 e2)) (af _ F 1 (.int .i64 fa2));refine⟨rfl,_,rfl,_,by simp [results,Tryz.results77,go_sem],rfl,rfl,h1.below (bl1 _ _),ae h2 (ab (bl1 _ _) _)⟩
theorem Aq(F:Nat)(w:World):
  CallsD Tryz.prog 77 #[.pointer (some ⟨F,0,none⟩)] .returning w λx u' w'=>x= .returned (.tuple #[])/\u'= .returning/\w'=w:=by
 refine callsD_of_wpS Tryz.func77 rfl λc₀ cs hu=> ?_;apply wpS_seq;apply wpS_region;simp [wpOpsS,go_sem,recoverD,hu,Tryz.ntmps77,Exit.thenS];refine wpS_of_wp ?_;generalize hQ:(λ(e:Exit) (a':Act) (w':World)=>bodyPostS _ _ _ _ _ e a' _ w')=Q;simp only [Array.replicate_succ,Array.replicate_zero,List.push_toArray,List.append_toArray,List.nil_append,List.cons_append,List.setIfInBounds_toArray,List.set_cons_zero,List.set_cons_succ]
 go_wp2_with fail
 subst hQ;cases c₀;simp only at hu;subst hu;exact⟨rfl,_,rfl,_,by simp [results,Tryz.results77,go_sem],rfl,rfl,rfl⟩
def dC(f:Nat->Int)(m:Nat):Except (Int×Int) (Int×Int×List (Int×Int×Int)):=
 match eN f m with
 | .error e=> .error e
 | .ok (y,q)=>if q=m then .ok y else .error (4,(q:Int))
set_option maxRecDepth 100000 in
set_option maxHeartbeats 500000 in
theorem yA(a:Option Addr)(m c:Nat)(f:Nat->Int)(w:World)(hb:Rd8 w a m f)(hc:m<=c)(hm:m<=100000):
  Calls Tryz.prog 48 #[.slice a m c,.func (.func 49) #[] #[]] w λx w'=>
   (match dC f m with
    | .ok (rows,cols,l)=>∃base v,w.heap.size+1<base/\x= .returned (.tuple #[.agg #[.int .i64 rows,.int .i64 cols,v],.agg #[.int .i64 0,.int .i64 0]])/\w'.ownsRow base 54 3 v l.length (fu l)/\(l= []->v= .slice none 0 0)
    | .error er=>x= .returned (.tuple #[.agg #[.int .i64 0,.int .i64 0,.slice none 0 0],.agg #[.int .i64 er.1,.int .i64 er.2]]))/\Below w.heap.size w w':=by
 obtain⟨O,hO⟩:∃O,O=dC f m:=⟨_,rfl⟩;rw [<-hO];have HO:=Lib.hid hO;clear hO;have hmf:∀(fn:Fn) (first cap:Array Value) (w:World),(Instr.makeFunc fn first cap).run Tryz.prog w= .ok (.func fn first cap) w:=λ_ _ _ _=>rfl;have B2:Below w.heap.size w ((w.alloc (.cells #[.int .i64 0,.int .i64 0,.slice none 0 0] 76)).alloc (.cells #[.int .i64 0,.int .i64 0] 33)):=bl2 _ _ _;have hOB:CellsAt ((w.alloc (.cells #[.int .i64 0,.int .i64 0,.slice none 0 0] 76)).alloc (.cells #[.int .i64 0,.int .i64 0] 33)) w.heap.size 76 #[.int .i64 0,.int .i64 0,.slice none 0 0]:=CellsAt.below (World.alloc_heap_new w _) (bl1 _ _)
 have hFB:CellsAt ((w.alloc (.cells #[.int .i64 0,.int .i64 0,.slice none 0 0] 76)).alloc (.cells #[.int .i64 0,.int .i64 0] 33)) (w.heap.size+1) 33 #[.int .i64 0,.int .i64 0]:=by
  have:=World.alloc_heap_new (w.alloc (.cells #[.int .i64 0,.int .i64 0,.slice none 0 0] 76)) (.cells #[.int .i64 0,.int .i64 0] 33)
  simpa [CellsAt]using this
 have hb0:=hb.grown (ab B2 none) (λ_ _=>by simp)
 go_enter_defers Tryz.func48,Tryz.ntmps48
 go_wp2_with fail
 generalize ((w.alloc (.cells #[.int .i64 0,.int .i64 0,.slice none 0 0] 76)).alloc (.cells #[.int .i64 0,.int .i64 0] 33))=W0 at B2 hOB hFB hb0 ⊢;refine(qf a m c f W0 hb0 hm hc).mono ?_;rintro x w1 ⟨R,g,rfl,hR1,hb1,hgR,hRn,hgn,hgl,hB1⟩;have hOB1:=hOB.below hB1;have hFB1:=hFB.below hB1;have FL:=hFB.lt;have B1:=B2.trans (hB1.mono B2.size);clear hb hb0 hOB hFB B2 hB1;have hR2:=hR1.below (bl1 w1 (.cells #[.pointer (some ⟨R,0,none⟩)] 98));have hb2:=dU hb1 (ab (bl1 w1 (.cells #[.pointer (some ⟨R,0,none⟩)] 98)) (some R)) (λb e=>by cases e;exact hgR);have C1:=Lib.hid (CD R _ m m 0 f _ hR2 hb2 (λb e=>by cases e;exact hgR) (Nat.le_refl _) hm)
 go_wp2_with fail
 have hOB2:=hOB1.below (bl1 w1 (.cells #[.pointer (some ⟨R,0,none⟩)] 98));have hFB2:=hFB1.below (bl1 w1 (.cells #[.pointer (some ⟨R,0,none⟩)] 98));have hXB2:CellsAt (w1.alloc (.cells #[.pointer (some ⟨R,0,none⟩)] 98)) w1.heap.size 98 #[.pointer (some ⟨R,0,none⟩)]:=World.alloc_heap_new w1 _;have B2:Below w.heap.size w (w1.alloc (.cells #[.pointer (some ⟨R,0,none⟩)] 98)):=B1.alloc B1.size _;have LX:R<w1.heap.size:=hR1.lt;have LF:w.heap.size+1<w1.heap.size:=hFB1.lt;clear hR1 hb1 hOB1 hFB1 B1 hR2 hb2 hgn hgl hgR;generalize w1.alloc (.cells #[.pointer (some ⟨R,0,none⟩)] 98)=W2 at C1 hOB2 hFB2 hXB2 B2 ⊢;generalize w1.heap.size=RX at hXB2 LX LF ⊢
 cases q1:eN f m with
 |error er=>
  have he:Hid (O= .error er):=Lib.hid (by rw [HO.out];unfold dC;rw [q1]);rw [q1]at C1;refine C1.out.mono ?_;rintro x w3 ⟨rfl,hg⟩;have hOB3:=az hOB2 hg (by omega);have hFB3:=az hFB2 hg (by omega);have B3:Below w.heap.size w w3:=B2.trans (aw hg B2.size (by omega));refine leaves_cons (f:=77) (args:=#[.pointer (some ⟨w.heap.size+1,0,none⟩)]) (by simp) (by simp [go_sem]) ?_;refine(mq (w.heap.size+1) 0 0 er.1 er.2 [] w3 hFB3).mono ?_;rintro x u' w4 ⟨rfl,rfl,hF4,hg4⟩;have hO4:=hOB3.grown hg4 (by simp);refine⟨_,aD rfl _ _ w.heap.size (w.heap.size+1) 76 33 _ _ _ _ _ _ rfl hO4 rfl hF4 Tryz.underlying76 rfl (by kernel_rfl) Tryz.underlying33 rfl (by kernel_rfl),?_,B3.trans (aw hg4 B3.size (by omega))⟩;rw [he.out]
 |ok r=>
  obtain⟨⟨n,n2,l⟩,q⟩:=r;rw [q1]at C1;refine C1.out.mono ?_;rintro x w3 ⟨⟨base,v,hbase,rfl,hP,hR3,hnil⟩,hg⟩;obtain⟨bs,cap,rfl⟩:=bL hP;have hnil:=Lib.hid hnil;have hOB3:=az hOB2 hg (by omega);have hFB3:=az hFB2 hg (by omega);have hXB3:=az hXB2 hg (by omega);have B3:Below w.heap.size w w3:=B2.trans (aw hg B2.size (by omega));have BA:=bl1 w3 (.cells #[.int .i64 n,.int .i64 n2,.slice bs l.length cap] 76);have hY4:CellsAt (w3.alloc (.cells #[.int .i64 n,.int .i64 n2,.slice bs l.length cap] 76)) w3.heap.size 76 #[.int .i64 n,.int .i64 n2,.slice bs l.length cap]:=World.alloc_heap_new w3 _;have cX:=hXB3.cell 0;have kX:Has w3 RX:=hXB3.lt
  go_wp2_with fail
  have hR4:=hR3.below BA;have hOB4:=hOB3.below BA;have hFB4:=hFB3.below BA;have hXB4:=hXB3.below BA;have B4:Below w.heap.size w (w3.alloc (.cells #[.int .i64 n,.int .i64 n2,.slice bs l.length cap] 76)):=B3.trans (BA.mono B3.size);have hP4:=bA hP (ab BA (some w.heap.size)) (by have:=B2.size;have:=hFB2.lt;omega);have kY:=hFB3.lt;clear cX kX hR3 hOB3 hFB3 hXB3 B3 BA hP C1;generalize w3.alloc (.cells #[.int .i64 n,.int .i64 n2,.slice bs l.length cap] 76)=W4 at hY4 hR4 hOB4 hFB4 hXB4 B4 hP4 ⊢;generalize w3.heap.size=Y at hY4 kY ⊢;have cX:=hXB4.cell 0;have kX:Has W4 RX:=hXB4.lt;have HA:=Lib.hid (λ(U:World) (hU:Below W4.heap.size W4 U)=>lC R _ q 0 0 U (hR4.below hU));by_cases hq:q=m
  .have HE:=Lib.hid (λ(U:World) (hU:Below W4.heap.size W4 U)=>sd R _ m m q 0 U (hR4.below hU) true (by simp [hq]));have he:Hid (O= .ok (n,n2,l)):=Lib.hid (by rw [HO.out];unfold dC;rw [q1];dsimp only;rw [if_pos hq]);clear hq;refine av 8 (by kernel_rfl) (by kernel_rfl) ?_;simp only [List.take_succ_cons,List.take_zero,List.drop_succ_cons,List.drop_zero]
   repeat (go_big_quiet_step (first
    |(go_at_call 63;exact Calls.regrown_of (HE.out _ (by repeat (first|with_reducible refine blg ?_ _ _|with_reducible refine bla ?_ _|with_reducible exact Below.refl _ _))))
    |(go_at_call 64;exact Calls.regrown_of (HA.out _ (by repeat (first|with_reducible refine blg ?_ _ _|with_reducible refine bla ?_ _|with_reducible exact Below.refl _ _))))))
   refine wpQuiet_nil ?_;rintro _ ⟨⟨d3,o3⟩,rfl⟩;have BU:=below_regrown W4 d3 o3;generalize grow (redrawn W4 d3) o3=U at BU ⊢;have V:=Lib.hid (fJ R _ q 0 4 q U (hR4.below BU))
   go_wp2_with fail
   refine V.out.mono ?_;rintro x w5 ⟨rfl,hB5⟩;have BW:=BU.trans (hB5.mono BU.size);have hOB5:=hOB4.below BW;have hFB5:=hFB4.below BW;have hY5:=hY4.below BW;have B5:=B4.trans (BW.mono B4.size);have LO:w.heap.size<base:=by have:=B2.size;have:=hFB2.lt;omega
   have LB:w.heap.size+1<base:=by have:=hFB2.lt;omega
   have X0:=bA hP4 (ab BW (some w.heap.size)) LO;have y0:=hY5.cell 0;have y1:=hY5.cell 1;have y2:=hY5.cell 2;have kY5:Has w5 Y:=hY5.lt;have o0:=hOB5.cell 0;have fo0:=hOB5.frozen 0;have P1:=hOB5.set 0 (.int .i64 n);have o1:=P1.cell 1;have fo1:=P1.frozen 1;have P2:=P1.set 1 (.int .i64 n2);have o2:=P2.cell 2;have fo2:=P2.frozen 2;have P3:=P2.set 2 (.slice bs l.length cap);have F2:=ah (ah (ah hFB5 (show w.heap.size+1≠w.heap.size by omega) (.int .i64 n) 0) (show w.heap.size+1≠w.heap.size by omega) (.int .i64 n2) 1) (show w.heap.size+1≠w.heap.size by omega) (.slice bs l.length cap) 2;have q0:=F2.cell 0;have fq0:=F2.frozen 0;have F3:=F2.set 0 (.int .i64 0);have q1':=F3.cell 1;have fq1:=F3.frozen 1;have F4:=Lib.hid (F3.set 1 (.int .i64 0));have O4:=Lib.hid (ah (ah P3 (show w.heap.size≠w.heap.size+1 by omega) (.int .i64 0) 0) (show w.heap.size≠w.heap.size+1 by omega) (.int .i64 0) 1);have X1:=bA X0 (af w5 w.heap.size 0 (.int .i64 n)) LO;have X2:=bA X1 (af _ w.heap.size 1 (.int .i64 n2)) LO;have X3:=bA X2 (af _ w.heap.size 2 (.slice bs l.length cap)) LO;have X5:=bA X3 (af _ (w.heap.size+1) 0 (.int .i64 0)) LB;have X4:=Lib.hid (And.intro (bA X5 (af _ (w.heap.size+1) 1 (.int .i64 0)) LB) hnil.out);have Z:=Lib.hid (((((B5.setCell (p:=⟨w.heap.size,0,none⟩) (Nat.le_refl _) (.int .i64 n)).setCell (p:=⟨w.heap.size,1,none⟩) (Nat.le_refl _) (.int .i64 n2)).setCell (p:=⟨w.heap.size,2,none⟩) (Nat.le_refl _) (.slice bs l.length cap)).setCell (p:=⟨w.heap.size+1,0,none⟩) (Nat.le_succ _) (.int .i64 0)).setCell (p:=⟨w.heap.size+1,1,none⟩) (Nat.le_succ _) (.int .i64 0));clear X0 X1 X2 X3 X5 P1 P2 P3 F2 F3 V hB5 BW hOB5 hFB5 hY5 HA HE hR4 hOB4 hFB4 hXB4 B4 hP4 hY4 BU hmf;have he:=he.out;clear HO;subst he
   go_wp2_with fail
   refine leaves_cons (f:=77) (args:=#[.pointer (some ⟨w.heap.size+1,0,none⟩)]) (by simp) (by simp [go_sem]) ?_;refine(Aq (w.heap.size+1) _).mono ?_;rintro x u' w6 ⟨rfl,rfl,rfl⟩;refine⟨_,aD rfl _ _ w.heap.size (w.heap.size+1) 76 33 _ _ _ _ _ _ rfl O4.out rfl F4.out Tryz.underlying76 rfl (by kernel_rfl) Tryz.underlying33 rfl (by kernel_rfl),?_,Z.out⟩
   first|exact⟨base,_,LB,rfl,X4.out.1,X4.out.2⟩|exact⟨base,LB,_,rfl,X4.out.1,X4.out.2⟩
  .have HE:=Lib.hid (λ(U:World) (hU:Below W4.heap.size W4 U)=>sd R _ m m q 0 U (hR4.below hU) false (by simp [hq]));have he:Hid (O= .error (4,(q:Int))):=Lib.hid (by rw [HO.out];unfold dC;rw [q1];dsimp only;rw [if_neg hq]);refine av 8 (by kernel_rfl) (by kernel_rfl) ?_;simp only [List.take_succ_cons,List.take_zero,List.drop_succ_cons,List.drop_zero]
   repeat (go_big_quiet_step (first
    |(go_at_call 63;exact Calls.regrown_of (HE.out _ (by repeat (first|with_reducible refine blg ?_ _ _|with_reducible refine bla ?_ _|with_reducible exact Below.refl _ _))))
    |(go_at_call 64;exact Calls.regrown_of (HA.out _ (by repeat (first|with_reducible refine blg ?_ _ _|with_reducible refine bla ?_ _|with_reducible exact Below.refl _ _))))))
   refine wpQuiet_nil ?_;rintro _ ⟨⟨d3,o3⟩,rfl⟩;have BU:=below_regrown W4 d3 o3;generalize grow (redrawn W4 d3) o3=U at BU ⊢;have V:=Lib.hid (gG R _ q 0 4 q U (hR4.below BU) (by decide))
   go_wp2_with fail
   refine V.out.mono ?_;rintro x w5 ⟨rfl,hg5⟩;have hFB5:=az (hFB4.below BU) hg5 (by omega);have hOB5:=az (hOB4.below BU) hg5 (by omega);have B5:Below w.heap.size w w5:=(B4.trans (BU.mono B4.size)).trans (aw hg5 (B4.trans (BU.mono B4.size)).size (by omega));refine leaves_cons (f:=77) (args:=#[.pointer (some ⟨w.heap.size+1,0,none⟩)]) (by simp) (by simp [go_sem]) ?_;refine(mq (w.heap.size+1) 0 0 4 q [] w5 hFB5).mono ?_;rintro x u' w6 ⟨rfl,rfl,hF6,hg6⟩;have hO6:=hOB5.grown hg6 (by simp);refine⟨_,aD rfl _ _ w.heap.size (w.heap.size+1) 76 33 _ _ _ _ _ _ rfl hO6 rfl hF6 Tryz.underlying76 rfl (by kernel_rfl) Tryz.underlying33 rfl (by kernel_rfl),?_,B5.trans (aw hg6 B5.size (by omega))⟩;rw [he.out]
end
noncomputable section
open Go.RowKit Go.Sort
theorem bB{W W':World}{base size n:Nat}{e:TypeId}{v:Value}{xs:List Value}(h:W.ownsRow base e size v n xs)(g:Below W.heap.size W W'):W'.ownsRow base e size v n xs:=by
 refine⟨h.1,?_⟩;rcases h.2 with h|⟨r,cp,cur,e1,e2,e3,e4⟩
 .exact .inl h
 .exact .inr ⟨r,cp,cur,e1,e2,(g.block r (Array.getElem?_eq_some_iff.1 e3).1).trans e3,e4⟩
def ToldM(O:Except (Int×Int) (Int×Int×List (Int×Int×Int)))(B:Nat)(r cl:Int)(v:Value)(e1 e2:Int)(W:World):Prop:=
 match O with
 | .ok (rows,cols,l)=>r=rows/\cl=cols/\e1=0/\e2=0/\∃base,B<base/\W.ownsRow base 54 3 v l.length (fu l)/\(l= []->v= .slice none 0 0)
 | .error er=>r=0/\cl=0/\v= .slice none 0 0/\e1=er.1/\e2=er.2
theorem ToldM.below{O:Except (Int×Int) (Int×Int×List (Int×Int×Int))}{B:Nat}{r cl:Int}{v:Value}{e1 e2:Int}{W W':World}(h:ToldM O B r cl v e1 e2 W)(g:Below W.heap.size W W'):ToldM O B r cl v e1 e2 W':=by
 unfold ToldM at*
 cases O with
 |error er=>exact h
 |ok y=>obtain⟨h1,h2,h3,h4,base,h5,h6,h7⟩:=h;exact⟨h1,h2,h3,h4,base,h5,bB h6 g,h7⟩
theorem ToldM.store{O:Except (Int×Int) (Int×Int×List (Int×Int×Int))}{B:Nat}{r cl:Int}{v:Value}{e1 e2:Int}{W:World}(h:ToldM O B r cl v e1 e2 W){b:Nat}(hb:b<=B)(i:Nat)(x:Value):ToldM O B r cl v e1 e2 (W.setCell ⟨b,i,none⟩ x):=by
 unfold ToldM at*
 cases O with
 |error er=>exact h
 |ok y=>obtain⟨h1,h2,h3,h4,base,h5,h6,h7⟩:=h;exact⟨h1,h2,h3,h4,base,h5,bA h6 (af W b i x) (by omega),h7⟩
set_option maxRecDepth 100000 in
set_option maxHeartbeats 500000 in
theorem Ar(a:Option Addr)(m c:Nat)(f:Nat->Int)(w:World)(hb:Rd8 w a m f)(hc:m<=c)(hm:m<=100000):
  Calls Tryz.prog 21 #[.slice a m c] w λx w'=>∃r cl v e1 e2,x= .returned (.tuple #[.int .i64 r,.int .i64 cl,v,.agg #[.int .i64 e1,.int .i64 e2]])/\ToldM (dC f m) w.heap.size r cl v e1 e2 w'/\Below w.heap.size w w':=by
 have G:=Lib.hid (λW h=>yA a m c f W h hc hm);have B1:=bl1 w (.cells #[.int .i64 0,.int .i64 0] 33);have hFB:CellsAt (w.alloc (.cells #[.int .i64 0,.int .i64 0] 33)) w.heap.size 33 #[.int .i64 0,.int .i64 0]:=World.alloc_heap_new w _;have hb0:=hb.grown (ab B1 none) (λ_ _=>by simp);have C0:=G.out _ hb0;obtain⟨O,hO⟩:∃O,O=dC f m:=⟨_,rfl⟩;rw [<-hO]at C0 ⊢
 have C1:Calls Tryz.prog 48 #[.slice a m c,.func (.func 49) #[] #[]] (w.alloc (.cells #[.int .i64 0,.int .i64 0] 33)) λx w1=>
   ∃r cl bs n cap e1 e2,x= .returned (.tuple #[.agg #[.int .i64 r,.int .i64 cl,.slice bs n cap],.agg #[.int .i64 e1,.int .i64 e2]])/\ToldM O w.heap.size r cl (.slice bs n cap) e1 e2 w1/\Below (w.alloc (.cells #[.int .i64 0,.int .i64 0] 33)).heap.size (w.alloc (.cells #[.int .i64 0,.int .i64 0] 33)) w1:=by
  refine C0.mono ?_;rintro x w1 ⟨h1,h2⟩
  cases O with
  |error er=>
   subst h1;exact⟨0,0,none,0,0,er.1,er.2,rfl,⟨rfl,rfl,rfl,rfl,rfl⟩,h2⟩
  |ok y=>
   obtain⟨base,v,g1,rfl,g3,g4⟩:=h1;obtain⟨bs,cap,rfl⟩:=bL g3;have hs:(w.alloc (.cells #[.int .i64 0,.int .i64 0] 33)).heap.size=w.heap.size+1:=by simp
   exact⟨_,_,_,_,_,0,0,rfl,⟨rfl,rfl,rfl,rfl,base,by omega,g3,g4⟩,h2⟩
 clear hO G hb0 hb C0;have C1:=Lib.hid C1
 go_enter Tryz.func21,Tryz.ntmps21
 go_wp2_with fail
 generalize (w.alloc (.cells #[.int .i64 0,.int .i64 0] 33))=W0 at B1 hFB C1 ⊢;refine C1.out.mono ?_;rintro x w1 ⟨r,cl,bs,n,cap,e1,e2,rfl,hT,hB1⟩;have hFB1:=hFB.below hB1;have B2:=B1.trans (hB1.mono B1.size);have f0:=hFB1.cell 0;have ff0:=hFB1.frozen 0;have F1:=hFB1.set 0 (.int .i64 e1);have f1:=F1.cell 1;have ff1:=F1.frozen 1;have F2:=F1.set 1 (.int .i64 e2);have kF:Has w1 w.heap.size:=hFB1.lt;have lt:=hFB1.lt;have sX:((w1.setCell ⟨w.heap.size,0,none⟩ (.int .i64 e1)).setCell ⟨w.heap.size,1,none⟩ (.int .i64 e2)).heap.size=w1.heap.size:=by simp
 have hMB:CellsAt (((w1.setCell ⟨w.heap.size,0,none⟩ (.int .i64 e1)).setCell ⟨w.heap.size,1,none⟩ (.int .i64 e2)).alloc (.cells #[.int .i64 r,.int .i64 cl,.slice bs n cap] 76)) w1.heap.size 76 #[.int .i64 r,.int .i64 cl,.slice bs n cap]:=by
  have:=World.alloc_heap_new ((w1.setCell ⟨w.heap.size,0,none⟩ (.int .i64 e1)).setCell ⟨w.heap.size,1,none⟩ (.int .i64 e2)) (.cells #[.int .i64 r,.int .i64 cl,.slice bs n cap] 76)
  rw [sX]at this;exact this
 have BA:=bl1 ((w1.setCell ⟨w.heap.size,0,none⟩ (.int .i64 e1)).setCell ⟨w.heap.size,1,none⟩ (.int .i64 e2)) (.cells #[.int .i64 r,.int .i64 cl,.slice bs n cap] 76);have F3:=F2.below BA;have hT3:=((hT.store (Nat.le_refl _) 0 (.int .i64 e1)).store (Nat.le_refl _) 1 (.int .i64 e2)).below BA;have B3:=((B2.setCell (p:=⟨w.heap.size,0,none⟩) (Nat.le_refl _) (.int .i64 e1)).setCell (p:=⟨w.heap.size,1,none⟩) (Nat.le_refl _) (.int .i64 e2));have B4:=B3.trans (BA.mono B3.size);have Z:=Lib.hid (And.intro hMB (And.intro F3 (And.intro hT3 B4)));clear hB1 hFB C1 hFB1 BA hT F1 F2 sX hMB F3 hT3 B3 B4 B1 B2;dsimp only
 go_wp2_with (refine av 10 (by kernel_rfl) (by kernel_rfl) (Hid.out ?_))
 refine Lib.hid ?_;obtain⟨hMB,F3,hT3,B4⟩:=Z.out;generalize ((w1.setCell ⟨w.heap.size,0,none⟩ (.int .i64 e1)).setCell ⟨w.heap.size,1,none⟩ (.int .i64 e2)).alloc (.cells #[.int .i64 r,.int .i64 cl,.slice bs n cap] 76)=W5 at hMB F3 hT3 B4 ⊢;simp only [List.take_succ_cons,List.take_zero,List.drop_succ_cons,List.drop_zero];have m0:=hMB.cell 0;have m1:=hMB.cell 1;have m2:=hMB.cell 2;have kM:Has W5 w1.heap.size:=hMB.lt;have f0:=F3.cell 0;have f1:=F3.cell 1;have kF5:Has W5 w.heap.size:=F3.lt
 repeat (go_big_quiet_step (fail))
 refine wpQuiet_nil ?_;rintro _ ⟨⟨d3,o3⟩,rfl⟩;have BU:=below_regrown W5 d3 o3;generalize grow (redrawn W5 d3) o3=U at BU ⊢;have F6:=F3.below BU;have hT6:=(hT3.below BU).store (Nat.le_refl _) 0 (.int .i64 e1)|>.store (Nat.le_refl _) 1 (.int .i64 e2);have B6:=((B4.trans (BU.mono B4.size)).setCell (p:=⟨w.heap.size,0,none⟩) (Nat.le_refl _) (.int .i64 e1)).setCell (p:=⟨w.heap.size,1,none⟩) (Nat.le_refl _) (.int .i64 e2);have g0:=F6.cell 0;have gg0:=F6.frozen 0;have F7:=F6.set 0 (.int .i64 e1);have g1:=F7.cell 1;have gg1:=F7.frozen 1;have F8:=F7.set 1 (.int .i64 e2);have kU:Has U w.heap.size:=F6.lt;have Y:=Lib.hid (And.intro F8 (And.intro hT6 B6));clear F8 hT6 B6 F6 F7 hMB F3 hT3 B4 Z m0 m1 m2 f0 f1 kM kF5 BU
 go_wp2_with fail
 (try simp only [Exit.inBlock,Exit.then])
 refine bodyPost_ret (v:= .tuple #[.int .i64 r,.int .i64 cl,.slice bs n cap,.agg #[.int .i64 e1,.int .i64 e2]]) ?_ rfl ⟨r,cl,_,e1,e2,rfl,Y.out.2.1,Y.out.2.2⟩;have F8:=Y.out.1;have hr:=run_loadVar_row _ w.heap.size 33 33 _ _ _ F8 Tryz.underlying33 rfl (by kernel_rfl);simp [results,Tryz.results21,asAddr,hr]
end
noncomputable section
open Go.RowKit Go.Sort
namespace Sm
namespace Dm
open Ev Be
abbrev ety:K.Ty:=Eg.ety
abbrev Ft:K.Ty:= .C (.I .i64) (.I .i64)
abbrev ins:List K.TyD:= [(false,By)]
abbrev outs:List K.TyD:= [(false,.I .i64),(false,.I .i64),(false,.S ety),(true,Ft)]
def fn(x:Sl Int):Option (Int×Int×Sl (Int×Int×Int)×(Int×Int)):=
 if okY x=true then
  match dC (gf x) x.l.length with
  | .error er=>some (0,0,⟨false,0,[]⟩,er)
  | .ok (r,c,l)=>some (r,c,Dc.liS l,(0,0))
 else none
theorem KM{w:World}{base n:Nat}{e:TypeId}{v:Value}{l:List (Int×Int×Int)}(h:w.ownsRow base e 3 v n (Eg.cellsE l)):n=l.length/\∃a c,v= .slice a n c/\n<=c/\Eg.RdE w a l/\(a=none->c=0/\n=0):=by
 have hn:n=l.length:=by have:=h.1;rw [Eg.cellsE_len]at this;omega
 refine⟨hn,?_⟩;rcases h.2 with⟨rfl,h0⟩|⟨g,cap,cur,rfl,hb,hg,hcap,_⟩
 .obtain rfl:n=0:=h0;exact⟨none,0,rfl,by omega,λi hi=>by omega,λ_=>⟨rfl,rfl⟩⟩
 .refine⟨some ⟨g,0,none⟩,cap,rfl,hcap,?_,by simp⟩;refine Eg.rdE_cells (Array.getElem?_eq_some_iff.1 hg).1 (λi hi k hk=> ?_);rw [h.cellAt (i*3+k) (by omega),Eg.cellsE_at l i k hi hk]
theorem rep_row{w:World}{base:Nat}{e:TypeId}{F:Nat->Prop}{v:Value}{l:List (Int×Int×Int)}(h:w.ownsRow base e 3 v l.length (fu l))(hnil:l= []->v= .slice none 0 0)(hF:∀b,F b->b<base):RepT w F (Sl.t ety.row (Dc.liS l)) v:=by
 have h2:w.ownsRow base e 3 v l.length (Eg.cellsE l):=h;obtain⟨_,a,c,rfl,hc,hrd,hz⟩:=KM h2
 cases l with
 |nil=>
  obtain h:=hnil rfl;cases h;exact Eg.nil_rep0 _ _
 |cons e r=>exact Eg.rep_of (base:=base) ⟨hrd,hz,hc,λb hb=>by subst hb;exact(h2.lt b.block rfl).1⟩ hF (.inl (by simp))
theorem rep_four{w:World}{F:Nat->Prop}{r c e1 e2:Int}{x:Sl (Int×Int×Int)}{y:Value}(h:RepT w F (Sl.t ety.row x) y):jT w F (K.bW outs (r,c,x,(e1,e2))) (.tuple #[.int .i64 r,.int .i64 c,y,.agg #[.int .i64 e1,.int .i64 e2]]):=by
 refine⟨[.int .i64 r,.int .i64 c,y,.agg #[.int .i64 e1,.int .i64 e2]],rfl,rfl,λi t hi=> ?_⟩;have hi2:i<4:=(List.getElem?_eq_some_iff.1 hi).1;rcases(show i=0∨i=1∨i=2∨i=3 by omega)with rfl|rfl|rfl|rfl
 .cases hi;exact⟨_,rfl,.one _ _ (.v _ rfl)⟩
 .cases hi;exact⟨_,rfl,.one _ _ (.v _ rfl)⟩
 .cases hi;exact⟨_,rfl,.one _ _ h⟩
 .cases hi;exact⟨_,rfl,Dc.rep_fault e1 e2⟩
theorem pure_ok(a:K.ba ins)(o:K.ba outs)(h:fn a=some o):dP Tryz.prog 21 (K.bW ins a) .fresh (K.bW outs o):=by
 obtain⟨x,rfl⟩:∃x:Sl Int,x=a:=⟨_,rfl⟩;unfold fn at h;rw [Option.ite_none_right_eq_some]at h;obtain⟨hx,h⟩:=h;intro w F ys hL hF hr;obtain⟨hlen,hi⟩:=hr
 match ys,hlen with
 | [y0],_=>
  obtain⟨z,e1,e2⟩:=hi 0 _ rfl;simp only [List.getElem?_cons_zero,zsI]at e1;subst e1
  have r1:RepT w F (Sl.t (K.Ty.row (.I .u8)) x) y0:=by cases e2 with|one t y h=>exact h
  obtain⟨a1,c1,rfl,g1,g2,_⟩:=lF hx r1;refine(Ar a1 x.l.length c1 (gf x) w g1 g2 (ow hx)).mono λe w' h2=> ?_;obtain⟨r,cl,v,f1,f2,rfl,hT,hB⟩:=h2;unfold ToldM at hT;split at hT
  .rename_i rows cols l hd;rw [hd]at h;cases h;obtain⟨rfl,rfl,rfl,rfl,base,hb,hrow,hnil⟩:=hT;exact⟨_,rfl,rep_four (rep_row hrow hnil (λb hb2=>by have:=hb2.1;omega)),λhk=>(by cases hk),hB⟩
  .rename_i er hd;rw [hd]at h;cases h;obtain⟨rfl,rfl,rfl,rfl,rfl⟩:=hT;exact⟨_,rfl,rep_four (Eg.nil_rep _ _),λhk=>(by cases hk),hB⟩
theorem enters:Ev.Enters Tryz.prog 21:=⟨_,_,Tryz.func21,by kernel_rfl,by unfold Tryz.f21;rfl⟩
end Dm
end Sm
end
noncomputable section
open Go.RowKit Go.Sort
theorem iX(R:Nat)(v:Value)(p:Nat)(fa:Int)(w:World)(hR:CellsAt w R 105 (rdr v p 0 fa)):
  Calls Tryz.prog 73 #[.pointer (some ⟨R,0,none⟩)] w λx w'=>x= .returned (.bool false)/\Below w.heap.size w w':=by
 have c2:w.cell? ⟨R,2,none⟩=some (.int .i64 0):=hR.cell 2
 go_enter Tryz.func73,Tryz.ntmps73
 go_wp2
 go_ret
 exact⟨rfl,Below.refl _ _⟩
theorem wJ(R:Nat)(v:Value)(p:Nat)(e fa:Int)(w:World)(hR:CellsAt w R 105 (rdr v p e fa))(he:¬e=0):
  Calls Tryz.prog 73 #[.pointer (some ⟨R,0,none⟩)] w λx w'=>x= .returned (.bool true)/\Below w.heap.size w w':=by
 have c2:w.cell? ⟨R,2,none⟩=some (.int .i64 e):=hR.cell 2;have b1:(e !=0)=true:=by simpa using he
 go_enter Tryz.func73,Tryz.ntmps73
 go_wp2
 go_ret
 exact⟨by first|rfl|simp [b1],Below.refl _ _⟩
theorem lI(R:Nat)(v:Value)(p:Nat)(e fa:Int)(w:World)(hR:CellsAt w R 105 (rdr v p e fa)):
  Calls Tryz.prog 35 #[.pointer (some ⟨R,0,none⟩)] w λx w'=>x= .returned (.int .i64 p)/\Below w.heap.size w w':=by
 have c1:w.cell? ⟨R,1,none⟩=some (.int .i64 p):=hR.cell 1
 go_enter Tryz.func35,Tryz.ntmps35
 go_wp2
 go_ret
 exact⟨rfl,Below.refl _ _⟩
theorem lJ(R:Nat)(a:Option Addr)(m c p:Nat)(fa:Int)(w:World)(hR:CellsAt w R 105 (rdr (.slice a m c) p 0 fa))(b:Bool)(hbp:b=decide (p=m)):
  Calls Tryz.prog 40 #[.pointer (some ⟨R,0,none⟩)] w λx w'=>x= .returned (.bool b)/\Below w.heap.size w w':=by
 have c0:w.cell? ⟨R,0,none⟩=some (.slice a m c):=hR.cell 0;have c1:w.cell? ⟨R,1,none⟩=some (.int .i64 p):=hR.cell 1;have c2:w.cell? ⟨R,2,none⟩=some (.int .i64 0):=hR.cell 2;have kR:Has w R:=hR.lt;have b1:((p:Int)==(m:Int))=b:=by rw [hbp];by_cases h:p=m<;>simp [h]<;>omega
 clear hbp;have HB:=Lib.hid b1;clear b1
 go_enter Tryz.func40,Tryz.ntmps40
 go_wp2_with fail
 refine wp_region_quiet_below (by kernel_rfl) (by kernel_rfl) ?_
 repeat (go_big_quiet_step (first|(go_at_call 73;exact Calls.regrown_of (iX R _ p fa _ (hR.below (by repeat (first|with_reducible refine blg ?_ _ _|with_reducible refine bla ?_ _|with_reducible exact Below.refl _ _)))))))
 refine wpQuiet_nil ?_;rintro _ ⟨⟨d2,o2⟩,rfl⟩
 go_wp2_with fail
 go_ret
 exact⟨by rw [<-HB.out];rfl,(by repeat (first|with_reducible refine blg ?_ _ _|with_reducible refine bla ?_ _|with_reducible exact Below.refl _ _))⟩
theorem ar(R:Nat)(v:Value)(p:Nat)(e fa:Int)(w:World)(hR:CellsAt w R 105 (rdr v p e fa)):
  Calls Tryz.prog 39 #[.pointer (some ⟨R,0,none⟩)] w λx w'=>x= .returned (.agg #[.int .i64 e,.int .i64 fa])/\Below w.heap.size w w':=by
 have c2:w.cell? ⟨R,2,none⟩=some (.int .i64 e):=hR.cell 2;have c3:w.cell? ⟨R,3,none⟩=some (.int .i64 fa):=hR.cell 3;have kR:Has w R:=hR.lt
 go_enter Tryz.func39,Tryz.ntmps39
 go_wp2
 refine bodyPost_ret (v:= .agg #[.int .i64 e,.int .i64 fa]) ?_ rfl ⟨rfl,(by repeat (first|with_reducible refine blg ?_ _ _|with_reducible refine bla ?_ _|with_reducible exact Below.refl _ _))⟩;simp [results,Tryz.results39,go_sem]
theorem FW(R:Nat)(v:Value)(p:Nat)(e fa e2 f2:Int)(w:World)(hR:CellsAt w R 105 (rdr v p e fa))(he:¬(e=0/\¬e2=0)):
  Calls Tryz.prog 37 #[.pointer (some ⟨R,0,none⟩),.int .i64 e2,.int .i64 f2] w λx w'=>x= .returned (.tuple #[])/\Below w.heap.size w w':=by
 by_cases h:e=0
 .obtain rfl:e2=0:=Classical.byContradiction λhh=>he ⟨h,hh⟩;subst h;clear he;have c2:w.cell? ⟨R,2,none⟩=some (.int .i64 0):=hR.cell 2
  go_enter Tryz.func37,Tryz.ntmps37
  go_wp2_with fail
  refine(iX R _ p fa _ hR).mono ?_;rintro x w1 ⟨rfl,hb1⟩;obtain⟨⟨d1,o1⟩,rfl⟩:=regrown_of_below hb1;clear hb1
  go_wp2_with fail
  go_end0
  exact⟨rfl,(by repeat (first|with_reducible refine blg ?_ _ _|with_reducible refine bla ?_ _|with_reducible exact Below.refl _ _))⟩
 .have he:=h;clear h;have b1:(e==0)=false:=by simpa using he
  have c2:w.cell? ⟨R,2,none⟩=some (.int .i64 e):=hR.cell 2
  go_enter Tryz.func37,Tryz.ntmps37
  go_wp2_with fail
  refine(wJ R _ p e fa _ hR he).mono ?_;rintro x w1 ⟨rfl,hb1⟩;obtain⟨⟨d1,o1⟩,rfl⟩:=regrown_of_below hb1;clear hb1
  go_wp2_with fail
  go_end0
  exact⟨rfl,(by repeat (first|with_reducible refine blg ?_ _ _|with_reducible refine bla ?_ _|with_reducible exact Below.refl _ _))⟩
theorem fv(R:Nat)(v:Value)(p:Nat)(fa e2 f2:Int)(w:World)(hR:CellsAt w R 105 (rdr v p 0 fa))(he:¬e2=0):
  Calls Tryz.prog 37 #[.pointer (some ⟨R,0,none⟩),.int .i64 e2,.int .i64 f2] w λx w'=>x= .returned (.tuple #[])/\CellsAt w' R 105 (rdr v p e2 f2)/\w.grownBy w' (some R):=by
 have c2:w.cell? ⟨R,2,none⟩=some (.int .i64 0):=hR.cell 2;have b1:(e2 !=0)=true:=by simpa using he
 go_enter Tryz.func37,Tryz.ntmps37
 go_wp2_with fail
 refine(iX R _ p fa _ hR).mono ?_;rintro x w1 ⟨rfl,hb1⟩;have hR1:=hR.below hb1;have c2:w1.cell? ⟨R,2,none⟩=some (.int .i64 0):=hR1.cell 2;have c3:w1.cell? ⟨R,3,none⟩=some (.int .i64 fa):=hR1.cell 3;have f2':=hR1.frozen 2;have f3':=hR1.frozen 3;have kR:Has w1 R:=hR1.lt
 go_wp2_with fail
 have h1:=(hR1.set 2 (.int .i64 e2)).set 3 (.int .i64 f2);have h2:=ae (af w1 R 2 (.int .i64 e2)) (af _ R 3 (.int .i64 f2))
 go_end0
 exact⟨rfl,h1,ae (ab hb1 _) h2⟩
end
noncomputable section
open Go.RowKit Go.Sort
theorem FX(R:Nat)(v:Value)(p:Nat)(e fa n:Int)(w:World)(hR:CellsAt w R 105 (rdr v p e fa))(he:¬e=0):
  Calls Tryz.prog 71 #[.pointer (some ⟨R,0,none⟩),.int .i64 n] w λx w'=>x= .returned (.slice none 0 0)/\Below w.heap.size w w':=by
 go_enter Tryz.func71,Tryz.ntmps71
 go_wp2_with fail
 refine(wJ R _ p e fa _ hR he).mono ?_;rintro x w1 ⟨rfl,hb1⟩
 go_wp2
 go_ret
 exact⟨rfl,hb1⟩
theorem FY(R:Nat)(v:Value)(p:Nat)(fa n:Int)(w:World)(hR:CellsAt w R 105 (rdr v p 0 fa))(hn:n<0):
  Calls Tryz.prog 71 #[.pointer (some ⟨R,0,none⟩),.int .i64 n] w λx w'=>x= .returned (.slice none 0 0)/\CellsAt w' R 105 (rdr v p 3 p)/\w.grownBy w' (some R):=by
 go_enter Tryz.func71,Tryz.ntmps71
 go_wp2_with fail
 refine(iX R _ p fa _ hR).mono ?_;rintro x w1 ⟨rfl,hb1⟩;have hR1:=hR.below hb1;have c1:w1.cell? ⟨R,1,none⟩=some (.int .i64 p):=hR1.cell 1
 go_wp2_with fail
 refine(fv R _ p fa 3 p _ hR1 (by decide)).mono ?_;rintro x w2 ⟨rfl,hR2,hg2⟩
 go_wp2
 go_ret
 exact⟨rfl,hR2,ae (ab hb1 _) hg2⟩
theorem As(R:Nat)(a:Option Addr)(m c p:Nat)(fa n:Int)(w:World)(hR:CellsAt w R 105 (rdr (.slice a m c) p 0 fa))(hn:0<=n)(hp:p<=m)(hm:m<=100000)(hs:(m:Int) - p<n):
  Calls Tryz.prog 71 #[.pointer (some ⟨R,0,none⟩),.int .i64 n] w λx w'=>x= .returned (.slice none 0 0)/\CellsAt w' R 105 (rdr (.slice a m c) p 2 m)/\w.grownBy w' (some R):=by
 go_enter Tryz.func71,Tryz.ntmps71
 go_wp2_with fail
 refine(iX R _ p fa _ hR).mono ?_;rintro x w1 ⟨rfl,hb1⟩;have hR1:=hR.below hb1;have c0:w1.cell? ⟨R,0,none⟩=some (.slice a m c):=hR1.cell 0;have c1:w1.cell? ⟨R,1,none⟩=some (.int .i64 p):=hR1.cell 1;have kR:Has w1 R:=hR1.lt
 go_wp2_with fail
 refine wp_region_quiet_below (by kernel_rfl) (by kernel_rfl) ?_
 repeat (go_big_quiet_step (fail))
 refine wpQuiet_nil ?_;rintro _ ⟨⟨d2,o2⟩,rfl⟩;have hb4:Below w1.heap.size w1 (grow (redrawn w1 d2) o2):=below_regrown w1 d2 o2;have hR2:=hR1.below hb4
 go_wp2_with fail
 refine(fv R _ p fa 2 m _ hR2 (by decide)).mono ?_;rintro x w2 ⟨rfl,hR3,hg2⟩
 go_wp2
 go_ret
 exact⟨rfl,hR3,ae (ab hb1 _) (ae (ab hb4 _) hg2)⟩
set_option maxHeartbeats 1000000 in
set_option maxRecDepth 100000 in
theorem HU(R:Nat)(a:Option Addr)(m c p k:Nat)(fa:Int)(f:Nat->Int)(w:World)(hR:CellsAt w R 105 (rdr (.slice a m c) p 0 fa))(hb:Rd8 w a m f)(hne:∀b,a=some b->b.block≠R)(hz:a=none->c=0/\m=0)(hc:m<=c)(hm:m<=100000)(hp:p+k<=m):
  Calls Tryz.prog 71 #[.pointer (some ⟨R,0,none⟩),.int .i64 k] w λx w'=>∃a' c',x= .returned (.slice a' k c')/\k<=c'/\Rd8 w' a' k (λi=>f (p+i))/\CellsAt w' R 105 (rdr (.slice a m c) (p+k:Nat) 0 fa)/\w.grownBy w' (some R):=by
 obtain⟨i0,hi0,hz0,hz1,hz2⟩:=info_parts sZ
 go_enter Tryz.func71,Tryz.ntmps71
 go_wp2_with fail
 refine(iX R _ p fa _ hR).mono ?_;rintro x w1 ⟨rfl,hb1⟩;have hR1:=hR.below hb1;have c0:w1.cell? ⟨R,0,none⟩=some (.slice a m c):=hR1.cell 0;have c1:w1.cell? ⟨R,1,none⟩=some (.int .i64 p):=hR1.cell 1;have kR:Has w1 R:=hR1.lt
 go_wp2_with fail
 refine wp_region_quiet_below (by kernel_rfl) (by kernel_rfl) ?_
 repeat (go_big_quiet_step (fail))
 refine wpQuiet_nil ?_;rintro _ ⟨⟨d2,o2⟩,rfl⟩;have hb4:Below w1.heap.size w1 (grow (redrawn w1 d2) o2):=below_regrown w1 d2 o2;have hR2:=hR1.below hb4;have hb2:=(hb.grown (ab hb1 none) (λ_ _=>by simp)).grown (ab hb4 none) (λ_ _=>by simp);have hg2:w.grownBy (grow (redrawn w1 d2) o2) none:=ae (ab hb1 none) (ab hb4 none);generalize grow (redrawn w1 d2) o2=U at hR2 hb2 hg2 ⊢;clear hb4 hR1 hb1 c0 c1 kR;have c0:U.cell? ⟨R,0,none⟩=some (.slice a m c):=hR2.cell 0;have c1:U.cell? ⟨R,1,none⟩=some (.int .i64 p):=hR2.cell 1;have kR:Has U R:=hR2.lt;have q2:(0:Int)<=p:=by omega
 have q3:(p:Int)<=p+k:=by omega
 have q4:(p:Int)+k<=c:=by omega
 go_wp2_with fail
 refine av 16 (by kernel_rfl) (by kernel_rfl) ?_;simp only [List.take_succ_cons,List.take_zero,List.drop_succ_cons,List.drop_zero]
 repeat (go_big_quiet_step (fail))
 refine wpQuiet_nil ?_;rintro _ ⟨⟨d3,o3⟩,rfl⟩;have hb4:Below U.heap.size U (grow (redrawn U d3) o3):=below_regrown U d3 o3;have hR3:=hR2.below hb4;have hb3:=hb2.grown (ab hb4 none) (λ_ _=>by simp);have hg3:=ae hg2 (ab hb4 none);generalize grow (redrawn U d3) o3=V at hR3 hb3 hg3 ⊢;clear hb4 hR2 hb2 hg2 c0 c1 kR hb hR;have epk:p+k - p=k:=by omega
 have hf:∀i,i<k->0<=f (p+i)/\f (p+i)<=255:=λi hi=>by obtain⟨_,_,_,_,h⟩:=hb3 (p+i) (by omega);exact h
 have hN:=World.ownsRow_nil V V.heap.size 5 1;have c1:V.cell? ⟨R,1,none⟩=some (.int .i64 p):=hR3.cell 1;rw [epk]
 cases a with
 |none=>
  obtain⟨z1,z2⟩:=hz rfl;have kz:k=0:=by omega
  have hx:Value.slice (if c=p then none else Option.map (λx=>x.add p) (none:Option Addr)) k (c - p)= .slice none 0 0:=by
   rw [kz,show c - p=0 by omega];split<;>rfl
  rw [hx];have HK:=Lib.hid kz;clear kz hx z1 z2 hz;have f1:=hR3.frozen 1;refine wpList_append_own_none rfl _ _ 26 rfl V.heap.size 5 i0 1 Tryz.underlying26 hi0 (.slice none 0 0) 0 [] rfl hN rfl ?_
  go_wp2
  go_ret
  have hR4:=hR3.set 1 (.int .i64 (p+k));exact⟨none,0,by rw [HK.out];rfl,by rw [HK.out];exact Nat.le_refl _,by rw [HK.out];exact fY _ _ _,by simpa using hR4,ae (jm hg3) (af V R 1 _)⟩
 |some b=>
  have e1:(if c=p then some b else Option.map (λx=>x.add p) (some b))=some (if c=p then b else b.add p):=by split<;>rfl
  rw [e1];obtain⟨ad,had⟩:∃ad,ad=(if c=p then b else b.add p):=⟨_,rfl⟩
  have hnews:∀j u,(bZ (λi=>f (p+i)) k)[j]? =some u->V.cell? (ad.add j)=some u:=by
   intro j u hj;have hj':j<k:=by have:=(List.getElem?_eq_some_iff.1 hj).1;rwa [dp]at this
   rw [gF _ _ _ hj']at hj;cases hj;obtain⟨b',hb',_,h2,_⟩:=(hb3.cut hp) j hj';simp only [Option.map_some,zsI]at hb';rw [had,if_neg (by omega),hb'];exact h2
  rw [<-had];clear had e1;refine wpList_append_own _ rfl _ _ 26 rfl V.heap.size 5 i0 (.int .u8 0) 1 1 Tryz.underlying26 hi0 hz0 hz1 hz2 rfl (by decide) (.slice none 0 0) 0 [] rfl hN ad k (c - p) (bZ (λi=>f (p+i)) k) rfl (by rw [dp];omega) hnews (nd _ _) (by unfold maxLen;omega) (by omega) (Nat.le_refl _) ?_;intro v' V2 hown hgrow _;rw [Nat.zero_add,List.nil_append]at hown;obtain⟨a',c',rfl,hkc,hrd,hbk,_⟩:=DV hown (λi hi=>gF _ _ _ hi) hf;have hR4:=hR3.grown hgrow (by simp [Value.ownBlock]);have hg4:w.grownBy V2 none:=ae hg3 hgrow;have c1:V2.cell? ⟨R,1,none⟩=some (.int .i64 p):=hR4.cell 1;have f1:=hR4.frozen 1;have hRV:=hR3.lt;clear hown hgrow hnews hN hb3 hR3 hg3
  go_wp2
  go_ret
  have hR5:=hR4.set 1 (.int .i64 (p+k));refine⟨a',c',rfl,hkc,hrd.grown (af V2 R 1 _) (λb hb=>by have:=hbk b hb;simp;omega),by simpa using hR5,ae (jm hg4) (af V2 R 1 _)⟩
end
noncomputable section
open Go.RowKit Go.Sort
theorem wK(R:Nat)(a:Option Addr)(m c p:Nat)(e fa n:Int)(f:Nat->Int)(w:World)(hR:CellsAt w R 105 (rdr (.slice a m c) p e fa))(hb:Rd8 w a m f)(hne:∀b,a=some b->b.block≠R)(hz:a=none->c=0/\m=0)(hc:m<=c)(hm:m<=100000)(hp:p<=m):
  Calls Tryz.prog 71 #[.pointer (some ⟨R,0,none⟩),.int .i64 n] w λx w'=>∃a' n' c',x= .returned (.slice a' n' c')/\n'=(if cP e m p n=true then n.toNat else 0)/\n'<=c'/\Rd8 w' a' n' (λi=>f (p+i))/\CellsAt w' R 105 (rdr (.slice a m c) (nP e m p n) (nE e m p n) (nF fa e m p n))/\w.grownBy w' (some R):=by
 by_cases he:e=0
 .subst he;by_cases hn:n<0
  .obtain⟨s1,s2,s3,s4⟩:=OK fa m p n hn;rw [s1,s2,s3,s4];exact(FY R _ p fa n w hR hn).mono λx w' ⟨h1,h2,h3⟩=>⟨none,0,0,h1,by simp,Nat.le_refl _,fY _ _ _,h2,h3⟩
  .by_cases hs:(m:Int) - p<n
   .obtain⟨s1,s2,s3,s4⟩:=dA fa m p n (by omega) hs;rw [s1,s2,s3,s4];exact(As R a m c p fa n w hR (by omega) hp (by omega) hs).mono λx w' ⟨h1,h2,h3⟩=>⟨none,0,0,h1,by simp,Nat.le_refl _,fY _ _ _,h2,h3⟩
   .obtain⟨s1,s2,s3,s4⟩:=iW fa m p n (by omega) (by omega);rw [s1,s2,s3,s4];obtain⟨k,rfl⟩:=Int.eq_ofNat_of_zero_le (show 0<=n by omega);exact(HU R a m c p k fa f w hR hb hne hz hc (by omega) (by omega)).mono λx w' ⟨a',c',h1,h2,h3,h4,h5⟩=>⟨a',k,c',h1,by simp,h2,h3,h4,h5⟩
 .obtain⟨s1,s2,s3,s4⟩:=kf fa m p n he;rw [s1,s2,s3,s4];exact(FX R _ p e fa n w hR he).mono λx w' ⟨h1,h2⟩=>⟨none,0,0,h1,by simp,Nat.le_refl _,fY _ _ _,hR.below h2,ab h2 _⟩
theorem HV(h:Nat->Int):∀(n:Nat),le h (n+1)=le (λt=>h (1+t)) n*256+h 0:=by
 intro n
 induction n with
 |zero=>simp [le]
 |succ n ih=>
  have e1:le h (n+1+1)=le h (n+1)+h (n+1)*2 ^(8*(n+1)):=rfl;have e2:le (λt=>h (1+t)) (n+1)=le (λt=>h (1+t)) n+h (1+n)*2 ^(8*n):=rfl;rw [e1,e2,ih,p8,Nat.add_comm 1 n,<-Int.mul_assoc];omega
theorem HX(f g:Nat->Int)(n:Nat)(h:∀i,i<n->f i=g i):le f n=le g n:=by
 induction n with
 |zero=>rfl
 |succ n ih=>unfold le;rw [ih (λi hi=>h i (by omega)),h n (by omega)]
set_option maxHeartbeats 1000000 in
theorem kr(R:Nat)(a:Option Addr)(m c p k:Nat)(e fa:Int)(f:Nat->Int)(w:World)(hR:CellsAt w R 105 (rdr (.slice a m c) p e fa))(hb:Rd8 w a m f)(hne:∀b,a=some b->b.block≠R)(hz:a=none->c=0/\m=0)(hc:m<=c)(hm:m<=100000)(hp:p<=m)(hk:k<=8):
  Calls Tryz.prog 72 #[.pointer (some ⟨R,0,none⟩),.int .i64 k] w λx w'=>x= .returned (.int .u64 (if cP e m p k=true then le (λi=>f (p+i)) k else 0))/\CellsAt w' R 105 (rdr (.slice a m c) (nP e m p k) (nE e m p k) (nF fa e m p k))/\w.grownBy w' (some R):=by
 have H:=Lib.hid (wK R a m c p e fa k f w hR hb hne hz hc hm hp);clear hR hb hne hz;obtain⟨N,hN⟩:∃N,N=(if cP e m p k=true then(k:Int).toNat else 0):=⟨_,rfl⟩
 have hV:(if cP e m p k=true then le (λi=>f (p+i)) k else 0)=le (λi=>f (p+i)) N:=by
  rw [hN];split<;>simp [le]
 have hN8:N<=8:=by rw [hN];split<;>omega
 rw [<-hN]at H;rw [hV];clear hN hV;obtain⟨g,hg⟩:∃g:Nat->Int,g=λi=>f (p+i):=⟨_,rfl⟩;rw [<-hg]at H ⊢;clear hg
 go_enter Tryz.func72,Tryz.ntmps72
 go_wp2_with fail
 refine H.out.mono ?_;rintro x w1 ⟨a',n',c',rfl,rfl,hkc,hrd,hR2,hg2⟩
 have hbd:∀j,j<=n'->0<=le (λt=>g (j+t)) (n' - j)/\le (λt=>g (j+t)) (n' - j)<18446744073709551616:=by
  intro j hj;have h1:=iV (λt=>g (j+t)) (n' - j) (λi hi=>by obtain⟨_,_,_,_,h⟩:=hrd (j+i) (by omega);exact h);have h2:=Hw (n' - j) 8 (by omega);have h3:(2:Int)^(8*8)=18446744073709551616:=by decide
  omega
 go_wp2_with fail
 go_loopw [6,7] (λv z wr=>∃j:Nat,z= .int .i64 ((j:Int) - 1)/\j<=n'/\v= .int .u64 (le (λt=>g (j+t)) (n' - j))/\wr=w1) (λ_ z _=>(intOf z+1).toNat)
 case atStart=>
  exact⟨n',rfl,Nat.le_refl _,by simp [le],rfl⟩
 case round=>
  obtain⟨j,rfl,hj,rfl,rfl⟩:=hrel
  cases j with
  |zero=>
   have e0:le (λt=>g (0+t)) (n' - 0)=le g n':=by simp
   have HE:=Lib.hid e0;clear e0
   go_wp2_with fail
   go_ret
   refine⟨?_,hR2,hg2⟩;show Ending.returned (.int .u64 (le (λt=>g (0+t)) (n' - 0)))=_;rw [HE.out]
  |succ j=>
   obtain⟨b,rfl,hbl,cb,b0,b1⟩:=hrd j (by omega);have kb:=Has.of hbl
   have e1:le (λt=>g (j+t)) (n' - j)=le (λt=>g (j+1+t)) (n' - (j+1))*256+g j:=by
    rw [show n' - j=(n' - (j+1))+1 by omega,HV];rw [HX (λt=>g (j+(1+t))) (λt=>g (j+1+t)) _ (λi _=>by rw [Nat.add_assoc])];rfl
   have h1:=hbd j (by omega);rw [e1]at h1;have E1:=Lib.hid e1;have ej:((j+1:Nat):Int) - 1=(j:Int):=by omega
   rw [ej];have j0:(0:Int)<=(j:Int):=by omega
   have jn:(j:Int)<(n':Int):=by omega
   have h2:=hbd (j+1) (by omega);generalize le (λt=>g (j+1+t)) (n' - (j+1))=Y at h1 h2 E1 ⊢;clear e1 hbd ej
   go_wp2_with fail
   refine⟨?_,by simp [intOf]<;>omega⟩;exact⟨j,rfl,by omega,by rw [E1.out],trivial⟩
theorem KN(R:Nat)(a:Option Addr)(m c p:Nat)(e fa:Int)(f:Nat->Int)(w:World)(hR:CellsAt w R 105 (rdr (.slice a m c) p e fa))(hb:Rd8 w a m f)(hne:∀b,a=some b->b.block≠R)(hz:a=none->c=0/\m=0)(hc:m<=c)(hm:m<=100000)(hp:p<=m):
  Calls Tryz.prog 36 #[.pointer (some ⟨R,0,none⟩)] w λx w'=>x= .returned (.int .u8 (if cP e m p 1=true then le (λi=>f (p+i)) 1 else 0))/\CellsAt w' R 105 (rdr (.slice a m c) (nP e m p 1) (nE e m p 1) (nF fa e m p 1))/\w.grownBy w' (some R):=by
 have hf:cP e m p 1=true->∀i,i<1->0<=f (p+i)/\f (p+i)<=255:=λhg i hi=>by
  have hg':e=0/\(0:Int)<=1/\(1:Int)<=(m:Int) - p:=of_decide_eq_true hg;obtain⟨_,_,_,_,h⟩:=hb (p+i) (by omega);exact h
 have hbd:0<=(if cP e m p 1=true then le (λi=>f (p+i)) 1 else 0)/\(if cP e m p 1=true then le (λi=>f (p+i)) 1 else 0)<2 ^(8*1):=by
  split
  .rename_i hg;exact iV _ 1 (hf hg)
  .exact⟨by decide,by decide⟩
 have H:=Lib.hid (kr R a m c p 1 e fa f w hR hb hne hz hc hm hp (by decide));have hVW:(if cP e m p 1=true then le (λi=>f (p+i)) 1 else 0)=id (if cP e m p 1=true then le (λi=>f (p+i)) 1 else 0):=by split<;>rfl
 rw [hVW];clear hR hb hne hz hf hVW;generalize (if cP e m p 1=true then le (λi=>f (p+i)) 1 else 0)=V at hbd H ⊢
 go_enter Tryz.func36,Tryz.ntmps36
 go_wp2_with fail
 refine H.out.mono ?_;rintro x w' ⟨rfl,h1,h2⟩
 go_wp2_with fail
 go_ret
 exact⟨rfl,h1,h2⟩
theorem HZ(R:Nat)(a:Option Addr)(m c p:Nat)(e fa:Int)(f:Nat->Int)(w:World)(hR:CellsAt w R 105 (rdr (.slice a m c) p e fa))(hb:Rd8 w a m f)(hne:∀b,a=some b->b.block≠R)(hz:a=none->c=0/\m=0)(hc:m<=c)(hm:m<=100000)(hp:p<=m):
  Calls Tryz.prog 74 #[.pointer (some ⟨R,0,none⟩)] w λx w'=>x= .returned (.int .u32 (if cP e m p 4=true then le (λi=>f (p+i)) 4 else 0))/\CellsAt w' R 105 (rdr (.slice a m c) (nP e m p 4) (nE e m p 4) (nF fa e m p 4))/\w.grownBy w' (some R):=by
 have hf:cP e m p 4=true->∀i,i<4->0<=f (p+i)/\f (p+i)<=255:=λhg i hi=>by
  have hg':e=0/\(0:Int)<=4/\(4:Int)<=(m:Int) - p:=of_decide_eq_true hg;obtain⟨_,_,_,_,h⟩:=hb (p+i) (by omega);exact h
 have hbd:0<=(if cP e m p 4=true then le (λi=>f (p+i)) 4 else 0)/\(if cP e m p 4=true then le (λi=>f (p+i)) 4 else 0)<2 ^(8*4):=by
  split
  .rename_i hg;exact iV _ 4 (hf hg)
  .exact⟨by decide,by decide⟩
 have H:=Lib.hid (kr R a m c p 4 e fa f w hR hb hne hz hc hm hp (by decide));have hVW:(if cP e m p 4=true then le (λi=>f (p+i)) 4 else 0)=id (if cP e m p 4=true then le (λi=>f (p+i)) 4 else 0):=by split<;>rfl
 rw [hVW];clear hR hb hne hz hf hVW;generalize (if cP e m p 4=true then le (λi=>f (p+i)) 4 else 0)=V at hbd H ⊢
 go_enter Tryz.func74,Tryz.ntmps74
 go_wp2_with fail
 refine H.out.mono ?_;rintro x w' ⟨rfl,h1,h2⟩
 go_wp2_with fail
 go_ret
 exact⟨rfl,h1,h2⟩
theorem Ia(R:Nat)(a:Option Addr)(m c p:Nat)(e fa:Int)(f:Nat->Int)(w:World)(hR:CellsAt w R 105 (rdr (.slice a m c) p e fa))(hb:Rd8 w a m f)(hne:∀b,a=some b->b.block≠R)(hz:a=none->c=0/\m=0)(hc:m<=c)(hm:m<=100000)(hp:p<=m):
  Calls Tryz.prog 50 #[.pointer (some ⟨R,0,none⟩)] w λx w'=>x= .returned (.int .i64 (if cP e m p 8=true then lw (λi=>f (p+i)) 8 else 0))/\CellsAt w' R 105 (rdr (.slice a m c) (nP e m p 8) (nE e m p 8) (nF fa e m p 8))/\w.grownBy w' (some R):=by
 have hf:cP e m p 8=true->∀i,i<8->0<=f (p+i)/\f (p+i)<=255:=λhg i hi=>by
  have hg':e=0/\(0:Int)<=8/\(8:Int)<=(m:Int) - p:=of_decide_eq_true hg;obtain⟨_,_,_,_,h⟩:=hb (p+i) (by omega);exact h
 have hbd:0<=(if cP e m p 8=true then le (λi=>f (p+i)) 8 else 0)/\(if cP e m p 8=true then le (λi=>f (p+i)) 8 else 0)<2 ^(8*8):=by
  split
  .rename_i hg;exact iV _ 8 (hf hg)
  .exact⟨by decide,by decide⟩
 have H:=Lib.hid (kr R a m c p 8 e fa f w hR hb hne hz hc hm hp (by decide));have hVW:(if cP e m p 8=true then lw (λi=>f (p+i)) 8 else 0)=wrap64 (if cP e m p 8=true then le (λi=>f (p+i)) 8 else 0):=by split<;>simp [lw,wrap64]
 rw [hVW];clear hR hb hne hz hf hVW;generalize (if cP e m p 8=true then le (λi=>f (p+i)) 8 else 0)=V at hbd H ⊢
 go_enter Tryz.func50,Tryz.ntmps50
 go_wp2_with fail
 refine H.out.mono ?_;rintro x w' ⟨rfl,h1,h2⟩
 go_wp2_with fail
 go_ret
 exact⟨rfl,h1,h2⟩
end
end Go.Proofs.YtoamaaicfjkmhaaGreat
