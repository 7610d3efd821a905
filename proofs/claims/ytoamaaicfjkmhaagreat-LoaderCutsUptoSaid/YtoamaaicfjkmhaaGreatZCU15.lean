/- Texts of a claim, joined. -/
import Derived.Test.YtoamaaicfjkmhaaGreatZCU14
import Derived.Test.YtoamaaicfjkmhaaGreatRows
set_option linter.unusedVariables false
set_option linter.unusedSimpArgs false
namespace Go.Proofs.YtoamaaicfjkmhaaGreat
noncomputable section
open Go.RowKit Go.Sort
theorem Ei:∀(es:List (Int×Int×Int)) (j:Nat) {t:Int×Int×Int},es[j]? =some t->(fu es)[j*3]? =some (.int .i64 t.1)/\(fu es)[j*3+1]? =some (.int .i64 t.2.1)/\(fu es)[j*3+2]? =some (.int .i64 t.2.2)
 | [],j,t,h=>by simp at h
 |a::r,0,t,h=>by
  simp only [List.getElem?_cons_zero,zsI]at h;subst h;simp [fu]
 |a::r,j+1,t,h=>by
  simp only [List.getElem?_cons_succ]at h;obtain⟨h1,h2,h3⟩:=Ei r j h;have e:fu (a::r)= [.int .i64 a.1,.int .i64 a.2.1,.int .i64 a.2.2]++fu r:=by simp [fu]
  rw [e];refine⟨?_,?_,?_⟩
  .rw [List.getElem?_append_right (by simp;omega)];simpa [show(j+1)*3 - 3=j*3 by omega]using h1
  .rw [List.getElem?_append_right (by simp;omega)];simpa [show(j+1)*3+1 - 3=j*3+1 by omega]using h2
  .rw [List.getElem?_append_right (by simp;omega)];simpa [show(j+1)*3+2 - 3=j*3+2 by omega]using h3
set_option maxRecDepth 100000 in
set_option maxHeartbeats 4000000 in
theorem tv(a:Option Addr)(m c:Nat)(f:Nat->Int)(w:World)(hb:Rd8 w a m f)(hc:m<=c)(hm:m<=100000)(hz:a=none->c=0/\m=0):
  Calls Tryz.prog 22 #[.slice a m c] w λx w'=>∃r cl v e1 e2,x= .returned (.tuple #[.int .i64 r,.int .i64 cl,v,.agg #[.int .i64 e1,.int .i64 e2]])/\ToldM (dC f m) w.heap.size r cl v e1 e2 w'/\Below w.heap.size w w':=by
 obtain⟨i0,hi,hz0,hz1,hz2⟩:=im Ef;obtain⟨O,hO⟩:∃O,O=dC f m:=⟨_,rfl⟩;rw [<-hO];have HO:=Lib.hid hO;clear hO;have B1:=bl1 w (.cells #[.int .i64 0,.int .i64 0] 33);have h5:CellsAt (w.alloc (.cells #[.int .i64 0,.int .i64 0] 33)) w.heap.size 33 #[.int .i64 0,.int .i64 0]:=World.alloc_heap_new w _;have hsz:(w.alloc (.cells #[.int .i64 0,.int .i64 0] 33)).heap.size=w.heap.size+1:=by simp
 have hb0:=hb.grown (ab B1 none) (λ_ _=>by simp);have C0:=Lib.hid (wL a m c f _ hb0 hm hc hz);clear hb hb0
 go_enter Tryz.func22,Tryz.ntmps22
 go_wp2_with fail
 generalize (w.alloc (.cells #[.int .i64 0,.int .i64 0] 33))=W0 at B1 h5 hsz C0 ⊢;refine C0.out.mono ?_;rintro x w1 ⟨R,a',c',rfl,hR1,hb1,hc1,hn1,hz1,hRn,hB1⟩;have S0:StQ w R a' m c' f w1 0 0 0:=⟨hR1,hb1,h5.below hB1,B1.trans (hB1.mono B1.size),by omega,λb e=>(hn1 b e).1,λb e=>by have:=(hn1 b e).2.1;omega,λb e=>(hn1 b e).2.2,hz1,hc1,hm⟩;clear C0 h5 hR1 hb1 hc1 hn1 hz1 hRn hB1 B1 hz hc hm hsz;have M0:=Lib.hid (tr R a' m c' 0 f ⟨#[70,82,77,49]⟩ w1 S0.hR S0.hb S0.n4 S0.hz S0.hc S0.hm)
 go_wp2_with fail
 refine M0.out.mono ?_;rintro x w2 ⟨p1,e1,f1,rfl,s1,hR1,g1⟩;have S1:=S0.call g1 hR1;clear M0 S0 hR1 g1;have N1:=Lib.hid (S1.bounded s1 4096 5 (by decide))
 go_wp2_with fail
 refine N1.out.mono ?_;rintro x w3 ⟨p2,e2,f2,rfl,s2,S2,_⟩;obtain⟨rows,hrw⟩:∃rows,Hid (rows=aZ (mR1 f m)):=⟨_,Lib.hid rfl⟩;have rb:=ju (f:=f) (m:=m) (o:=rI f m ⟨#[70,82,77,49]⟩) (most:=4096) (er:=5) S1.hb (by decide);have s2:StR (aI (mR1 f m)) m p2 e2 f2:=s2;have q2:aZ (aT (rI f m ⟨#[70,82,77,49]⟩) λp=>aM f m p 4096 5)=rows:=hrw.out.symm;rw [q2]at rb ⊢;clear N1 S1 s1 q2;have N2:=Lib.hid (S2.bounded s2 4096 5 (by decide))
 go_wp2_with fail
 refine N2.out.mono ?_;rintro x w4 ⟨p3,e3,f3,rfl,s3,S3,_⟩;obtain⟨cols,hcl⟩:∃cols,Hid (cols=aZ (mR2 f m)):=⟨_,Lib.hid rfl⟩;have cb:=ju (f:=f) (m:=m) (o:=aI (mR1 f m)) (most:=4096) (er:=5) S2.hb (by decide);have s3:StR (aI (mR2 f m)) m p3 e3 f3:=s3;have q3:aZ (aT (aI (mR1 f m)) λp=>aM f m p 4096 5)=cols:=hcl.out.symm;rw [q3]at cb ⊢;clear N2 S2 s2 q3;have N3:=Lib.hid (S3.bounded s3 65536 5 (by decide))
 go_wp2_with fail
 refine N3.out.mono ?_;rintro x w8 ⟨p8,e8,f8,rfl,s8,S8,_⟩;obtain⟨K0,hK⟩:∃K0,Hid (K0=aZ (mR3 f m)):=⟨_,Lib.hid rfl⟩;have mb:=ju (f:=f) (m:=m) (o:=aI (mR2 f m)) (most:=65536) (er:=5) S3.hb (by decide);have s8:StR (aI (mR3 f m)) m p8 e8 f8:=s8;have q8:aZ (aT (aI (mR2 f m)) λp=>aM f m p 65536 5)=K0:=hK.out.symm;rw [q8]at mb ⊢;clear N3 S3 s3 q8;obtain⟨K,rfl⟩:=Int.eq_ofNat_of_zero_le mb.1;obtain⟨T,hT⟩:∃T,T=mRT f m:=⟨_,rfl⟩;have hOT:Hid (O=OM rows cols m T):=Lib.hid (by rw [HO.out,hrw.out,hcl.out,hT];exact tu f m)
 have hTl:Hid ((e8=0/\T=dr [] (cK f m rows cols (K - 0) 0 (0,0,0) p8))∨(e8≠0/\T= .error (e8,f8))):=Lib.hid (by
  rw [hT];unfold mRT
  cases ho:aI (mR3 f m)with
  |ok q=>
   rw [ho]at s8;obtain⟨_,h1,h2⟩:=s8;exact .inl ⟨h1,by rw [ko,<-hrw.out,<-hcl.out,<-hK.out,Int.toNat_natCast,h2];rfl⟩
  |error er=>
   rw [ho]at s8;obtain⟨_,h1,h2,h3⟩:=s8
   exact .inr ⟨by rw [h1];exact h3,by rw [h1,h2]⟩)
 have p8m:=s8.1;clear s8 hT hrw hcl hK HO;have lB:=S8.hR.lt;have lGa:=S8.n6
 go_wp2_with fail
 go_loopw [10,11] (λv y wr=>∃(i:Nat) (es:List (Int×Int×Int)) (last:Int×Int×Int) (p:Nat) (e fa:Int),y= .int .i64 i/\i<=K/\es.length=i/\StQ w R a' m c' f wr p e fa/\wr.ownsRow w8.heap.size 54 3 v i (fu es)/\(i=0->v= .slice none 0 0)/\p<=m/\w8.heap.size<=wr.heap.size/\(0<i->es[i - 1]? =some last)/\Hid ((e=0/\T=dr es (cK f m rows cols (K - i) i last p))∨(e≠0/\T= .error (e,fa)))) (λ_ y _=>K - (intOf y).toNat)
 case atStart=>
  exact⟨0,[],(0,0,0),p8,e8,f8,rfl,by omega,rfl,S8,World.ownsRow_nil _ _ _ _,λ_=>rfl,p8m,Nat.le_refl _,λh=>by omega,hTl⟩
 case round=>
  obtain⟨i,es,last,p,e,fa,rfl,hik,hlen,S,hrow,hnil,hpm,hsz,hlast,hE⟩:=hrel;clear S8 hTl;obtain⟨bs,cap,rfl⟩:=bL hrow;have l1:=S.l1;have hb0:w8.heap.size<=wr.heap.size:=hsz;by_cases hlt:i<K
  .have hlt':(i:Int)<(K:Int):=by omega
   have F0:=Lib.hid (ar R _ p e fa wr S.hR);by_cases he:e=0
   .subst he
    have hT1:Hid (T=dr es (cK f m rows cols (K - (i+1)+1) i last p)):=Lib.hid (by
     rcases hE.out with⟨_,h⟩|⟨h,_⟩
     .rw [h,show K - i=K - (i+1)+1 by omega]
     .exact absurd rfl h)
    clear hE
    go_wp2_with fail
    refine F0.out.mono ?_;rintro x v1 ⟨rfl,hB1⟩;have S1:=S.below hB1;have r1:=bB hrow hB1;have z1:=hB1.size;clear F0 S hrow hB1;have A1:=Lib.hid (lI R _ p 0 fa v1 S1.hR)
    go_wp2_with fail
    refine A1.out.mono ?_;rintro x v2 ⟨rfl,hB2⟩;have S2:=S1.below hB2;have r2:=bB r1 hB2;have z2:=hB2.size;clear A1 S1 r1 hB2;have s0:StR (.ok p) m p 0 fa:=⟨hpm,rfl,rfl⟩;have N1:=Lib.hid (S2.bounded s0 (rows - 1) 3 (by decide))
    go_wp2_with fail
    refine N1.out.mono ?_;rintro x v3 ⟨q1,e1',f1',rfl,s1',S3,g3⟩;have r3:=bA r2 g3 lB;have z3:=g3.size;obtain⟨x1,hx1⟩:∃x1,Hid (x1=aZ (tA f m p rows)):=⟨_,Lib.hid rfl⟩;have s1':StR (aI (tA f m p rows)) m q1 e1' f1':=s1';have qx:aZ (aT (.ok p) λp=>aM f m p (rows - 1) 3)=x1:=hx1.out.symm;rw [qx];have BA:=bl1 v3 (.cells #[.int .i64 x1,.int .i64 0,.int .i64 0] 54)
    have L0:StT2 w R v3.heap.size w8.heap.size a' m c' f (.slice bs i cap) i es (v3.alloc (.cells #[.int .i64 x1,.int .i64 0,.int .i64 0] 54)) q1 e1' f1' #[.int .i64 x1,.int .i64 0,.int .i64 0]:=
     ⟨S3.below BA,World.alloc_heap_new v3 _,bB r3 BA,λk hk=>by have:=(r3.lt k hk).2;omega,lB,by omega,lGa,by simp;omega⟩
    have N2:=Lib.hid (L0.bounded s1' (cols - 1) 3 (by decide));clear N1 S2 r2 s0 S3 g3 r3 qx BA
    go_wp2_with fail
    generalize v3.alloc (.cells #[.int .i64 x1,.int .i64 0,.int .i64 0] 54)=V3 at L0 N2 ⊢;generalize v3.heap.size=E at L0 N2 z3 ⊢;refine N2.out.mono ?_;rintro x v4 ⟨q2,e2',f2',rfl,s2',L1⟩;obtain⟨x2,hx2⟩:∃x2,Hid (x2=aZ (tB f m p rows cols)):=⟨_,Lib.hid rfl⟩;have s2':StR (aI (tB f m p rows cols)) m q2 e2' f2':=s2';have qx:aZ (aT (aI (tA f m p rows)) λp=>aM f m p (cols - 1) 3)=x2:=hx2.out.symm;rw [qx];have c1:=L1.hE.cell 1;have g1:=L1.hE.frozen 1;have kE:Has v4 E:=L1.hE.lt;have L2:=L1.store 1 (.int .i64 x2);have N3:=Lib.hid (L2.i64 s2');clear N2 L0 L1 qx
    go_wp2_with fail
    generalize v4.setCell {block:=E,off:=1} (Value.int IntKind.i64 x2)=V4 at L2 N3 ⊢;refine N3.out.mono ?_;rintro x v5 ⟨q3,e3',f3',rfl,s3',L3⟩;obtain⟨x3,hx3⟩:∃x3,Hid (x3=aZ (tC f m p rows cols)):=⟨_,Lib.hid rfl⟩;have s3':StR (aI (tC f m p rows cols)) m q3 e3' f3':=s3';have qx:aZ (aT (aI (tB f m p rows cols)) (qh f m))=x3:=hx3.out.symm;rw [qx];have c2:=L3.hE.cell 2;have g2:=L3.hE.frozen 2;have kE5:Has v5 E:=L3.hE.lt;have L4:=L3.store 2 (.int .i64 x3);have htv:Hid (tV f m p rows cols=(x1,x2,x3)):=Lib.hid (by unfold tV;rw [<-hx1.out,<-hx2.out,<-hx3.out]);clear N3 L2 L3 qx hx1 hx2 hx3 s1' s2' c1 g1 kE;by_cases h0:0<i
    .obtain⟨j,rfl⟩:∃j,i=j+1:=⟨i - 1,by omega⟩;obtain⟨y1,y2,y3⟩:=last;have hl:=hlast (by omega);rw [Nat.add_sub_cancel]at hl;obtain⟨k0,k1,k2⟩:=Ei es j hl
     obtain⟨g,hg0⟩:∃g,bs=some ⟨g,0,none⟩:=by
      rcases L4.row.2 with⟨_,h⟩|⟨g,cp,cur,e1,_⟩
      .omega
      .cases e1;exact⟨g,rfl⟩
     subst hg0;obtain⟨bq,hbq⟩:∃bq,Hid (bq=An (y1,y2,y3) (x1,x2,x3)):=⟨_,Lib.hid rfl⟩;have AH:=Lib.hid (λW=>FZ (y1,y2,y3) (x1,x2,x3) W);rw [<-hbq.out]at AH
     go_wp2_with (refine av 11 (by kernel_rfl) (by kernel_rfl) (Hid.out ?_))
     refine Lib.hid ?_;simp only [List.take_succ_cons,List.take_zero,List.drop_succ_cons,List.drop_zero];generalize v5.setCell {block:=E,off:=2} (Value.int IntKind.i64 x3)=V6 at L4 ⊢;have kg:Has V6 g:=(L4.row.lt g rfl).2;have m0:=(L4.row.cellAt (j*3) (by omega)).trans k0;have m1:=(L4.row.cellAt (j*3+1) (by omega)).trans k1;have m2:=(L4.row.cellAt (j*3+2) (by omega)).trans k2;have d0:=L4.hE.cell 0;have d1:=L4.hE.cell 1;have d2:=L4.hE.cell 2;have kE6:Has V6 E:=L4.hE.lt
     repeat (go_big_quiet_step (first
      |(go_at_call 46;exact Calls.regrown_of (AH.out _))))
     refine wpQuiet_nil ?_;rintro _ ⟨⟨d3,o3⟩,rfl⟩;have BU:=below_regrown V6 d3 o3;have L6:=L4.below BU;clear AH m0 m1 m2 d0 d1 d2 kg kE6 k0 k1 k2 L4 c2 g2 kE5;generalize grow (redrawn V6 d3) o3=U at BU L6 ⊢
     cases bq with
     |true=>
      have tE:iz f m p rows cols (y1,y2,y3) ((j+1:Nat):Int)=match aI (tC f m p rows cols)with| .ok q=> .ok ((x1,x2,x3),q)| .error er=> .error er:=by
       rw [se,htv.out];rcases iY (aI (tC f m p rows cols))with⟨er,h⟩|⟨q,h⟩
       .rw [h]
       .rw [h];dsimp only;rw [if_neg (λh=>by rw [<-hbq.out]at h;exact absurd h.2 (by simp))]
      have nx:Hid ((e3'=0/\T=dr (es++ [(x1,x2,x3)]) (cK f m rows cols (K - (j+1+1)) (j+1+1) (x1,x2,x3) q3))∨(e3'≠0/\T= .error (e3',f3'))):=Lib.hid (oB hT1.out tE s3');have q3m:=s3'.1;clear hT1 s3' tE;have d0:=L6.hE.cell 0;have d1:=L6.hE.cell 1;have d2:=L6.hE.cell 2;have kE7:Has U E:=L6.hE.lt;have h3c:=bK U (.int .i64 x1) (.int .i64 x2) (.int .i64 x3) 54;have Sx:=L6.S;have rx:=L6.row;have vbx:=rx.lt;have bx:=L6.bs;clear L6
      go_wp2_with (refine wpList_append_own _ rfl _ _ 41 rfl w8.heap.size 54 i0 (.agg #[.int .i64 0,.int .i64 0,.int .i64 0]) 3 24 Tryz.underlying41 hi hz0 hz1 hz2 rfl (by decide) _ _ _ rfl (rx.alloc _) ⟨(U).heap.size,0,none⟩ 1 1 [.int .i64 x1,.int .i64 x2,.int .i64 x3] rfl rfl h3c (by simp [Value.oneCell']) (by unfold maxLen;omega) (by omega) (by simp;omega) ?_;intro v' V7 hown' hgrow _;obtain⟨g',cap',rfl⟩:=ownsRow_succ hown';have hgA:=ae (ab (bl1 U (.cells #[.int .i64 x1,.int .i64 x2,.int .i64 x3] 54)) _) hgrow;clear hgrow h3c)
      refine⟨?_,by simp [intOf];omega⟩;have S9:=Sx.grow hgA (λk hk=>(vbx k hk).1) lB (λb hb=>by have:=lGa b hb;omega);have z9:=hgA.size;exact⟨j+1+1,es++ [(x1,x2,x3)],(x1,x2,x3),q3,e3',f3',by simp,by omega,by simp [hlen],S9,by rw [ep];exact hown',λh=>by omega,q3m,by omega,λ_=>by rw [Nat.add_sub_cancel,<-hlen];simp,nx⟩
     |false=>
      by_cases he3:e3'=0
      .subst he3
       have tE:iz f m p rows cols (y1,y2,y3) ((j+1:Nat):Int)=match(Except.error (6,(p:Int)):Except (Int×Int) Nat)with| .ok q=> .ok ((x1,x2,x3),q)| .error er=> .error er:=by
        rw [se,htv.out];rcases iY (aI (tC f m p rows cols))with⟨er,h⟩|⟨q,h⟩
        .rw [h]at s3';obtain⟨_,h1,_,h3⟩:=s3';exact absurd h1.symm h3
        .rw [h];dsimp only;rw [if_pos ⟨by omega,hbq.out.symm⟩]
       have q3m:=s3'.1;have s6:StR (.error (6,(p:Int))) m q3 6 p:=⟨q3m,rfl,rfl,show(6:Int)≠0 by decide⟩;have nx:Hid (((6:Int)=0/\T=dr (es++ [(x1,x2,x3)]) (cK f m rows cols (K - (j+1+1)) (j+1+1) (x1,x2,x3) q3))∨((6:Int)≠0/\T= .error (6,(p:Int)))):=Lib.hid (oB (o:= .error (6,(p:Int))) hT1.out tE s6);have FL:=Lib.hid (fv R _ q3 f3' 6 p U L6.S.hR (by decide));clear hT1 s3' tE s6
       go_wp2_with fail
       refine FL.out.mono ?_;rintro x W7 ⟨rfl,hR7,g7⟩;have L7:=L6.call g7 (L6.S.call g7 hR7);clear FL L6 hR7;have d0:=L7.hE.cell 0;have d1:=L7.hE.cell 1;have d2:=L7.hE.cell 2;have kE7:Has W7 E:=L7.hE.lt;have h3c:=bK W7 (.int .i64 x1) (.int .i64 x2) (.int .i64 x3) 54;have Sx:=L7.S;have rx:=L7.row;have vbx:=rx.lt;have bx:=L7.bs;clear L7
       go_wp2_with (refine wpList_append_own _ rfl _ _ 41 rfl w8.heap.size 54 i0 (.agg #[.int .i64 0,.int .i64 0,.int .i64 0]) 3 24 Tryz.underlying41 hi hz0 hz1 hz2 rfl (by decide) _ _ _ rfl (rx.alloc _) ⟨(W7).heap.size,0,none⟩ 1 1 [.int .i64 x1,.int .i64 x2,.int .i64 x3] rfl rfl h3c (by simp [Value.oneCell']) (by unfold maxLen;omega) (by omega) (by simp;omega) ?_;intro v' V7 hown' hgrow _;obtain⟨g',cap',rfl⟩:=ownsRow_succ hown';have hgA:=ae (ab (bl1 W7 (.cells #[.int .i64 x1,.int .i64 x2,.int .i64 x3] 54)) _) hgrow;clear hgrow h3c)
       refine⟨?_,by simp [intOf];omega⟩;have S9:=Sx.grow hgA (λk hk=>(vbx k hk).1) lB (λb hb=>by have:=lGa b hb;omega);have z9:=hgA.size;exact⟨j+1+1,es++ [(x1,x2,x3)],(x1,x2,x3),q3,6,p,by simp,by omega,by simp [hlen],S9,by rw [ep];exact hown',λh=>by omega,q3m,by omega,λ_=>by rw [Nat.add_sub_cancel,<-hlen];simp,nx⟩
      .have FL:=Lib.hid (FW R _ q3 e3' f3' 6 p U L6.S.hR (λh=>he3 h.1))
       have tE:iz f m p rows cols (y1,y2,y3) ((j+1:Nat):Int)=match aI (tC f m p rows cols)with| .ok q=> .ok ((x1,x2,x3),q)| .error er=> .error er:=by
        rw [se,htv.out];rcases iY (aI (tC f m p rows cols))with⟨er,h⟩|⟨q,h⟩
        .rw [h]
        .rw [h]at s3';exact absurd s3'.2.1 he3
       have nx:Hid ((e3'=0/\T=dr (es++ [(x1,x2,x3)]) (cK f m rows cols (K - (j+1+1)) (j+1+1) (x1,x2,x3) q3))∨(e3'≠0/\T= .error (e3',f3'))):=Lib.hid (oB hT1.out tE s3');have q3m:=s3'.1;clear hT1 s3' tE he3
       go_wp2_with fail
       refine FL.out.mono ?_;rintro x W7 ⟨rfl,g7⟩;have L7:=L6.below g7;clear FL L6;have d0:=L7.hE.cell 0;have d1:=L7.hE.cell 1;have d2:=L7.hE.cell 2;have kE7:Has W7 E:=L7.hE.lt;have h3c:=bK W7 (.int .i64 x1) (.int .i64 x2) (.int .i64 x3) 54;have Sx:=L7.S;have rx:=L7.row;have vbx:=rx.lt;have bx:=L7.bs;clear L7
       go_wp2_with (refine wpList_append_own _ rfl _ _ 41 rfl w8.heap.size 54 i0 (.agg #[.int .i64 0,.int .i64 0,.int .i64 0]) 3 24 Tryz.underlying41 hi hz0 hz1 hz2 rfl (by decide) _ _ _ rfl (rx.alloc _) ⟨(W7).heap.size,0,none⟩ 1 1 [.int .i64 x1,.int .i64 x2,.int .i64 x3] rfl rfl h3c (by simp [Value.oneCell']) (by unfold maxLen;omega) (by omega) (by simp;omega) ?_;intro v' V7 hown' hgrow _;obtain⟨g',cap',rfl⟩:=ownsRow_succ hown';have hgA:=ae (ab (bl1 W7 (.cells #[.int .i64 x1,.int .i64 x2,.int .i64 x3] 54)) _) hgrow;clear hgrow h3c)
       refine⟨?_,by simp [intOf];omega⟩;have S9:=Sx.grow hgA (λk hk=>(vbx k hk).1) lB (λb hb=>by have:=lGa b hb;omega);have z9:=hgA.size;exact⟨j+1+1,es++ [(x1,x2,x3)],(x1,x2,x3),q3,e3',f3',by simp,by omega,by simp [hlen],S9,by rw [ep];exact hown',λh=>by omega,q3m,by omega,λ_=>by rw [Nat.add_sub_cancel,<-hlen];simp,nx⟩
    .have hi0:Hid (i=0):=Lib.hid (by omega);have b1:decide ((0:Int)<(i:Int))=false:=decide_eq_false (by omega);have b2:decide (0<i)=false:=decide_eq_false h0;clear h0
     go_wp2_with (refine av 11 (by kernel_rfl) (by kernel_rfl) (Hid.out ?_))
     refine Lib.hid ?_;simp only [List.take_succ_cons,List.take_zero,List.drop_succ_cons,List.drop_zero];generalize v5.setCell {block:=E,off:=2} (Value.int IntKind.i64 x3)=V6 at L4 ⊢
     repeat (go_big_quiet_step (fail))
     refine wpQuiet_nil ?_;rintro _ ⟨⟨d3,o3⟩,rfl⟩;have BU:=below_regrown V6 d3 o3;have L6:=L4.below BU;clear L4 c2 g2 kE5;generalize grow (redrawn V6 d3) o3=U at BU L6 ⊢
     have tE:iz f m p rows cols last ((i:Nat):Int)=match aI (tC f m p rows cols)with| .ok q=> .ok ((x1,x2,x3),q)| .error er=> .error er:=by
      rw [se,htv.out];rcases iY (aI (tC f m p rows cols))with⟨er,h⟩|⟨q,h⟩
      .rw [h]
      .rw [h];dsimp only;rw [if_neg (λh=>by have:=h.1;have:=hi0.out;omega)]
     have nx:Hid ((e3'=0/\T=dr (es++ [(x1,x2,x3)]) (cK f m rows cols (K - (i+1)) (i+1) (x1,x2,x3) q3))∨(e3'≠0/\T= .error (e3',f3'))):=Lib.hid (oB hT1.out tE s3');have q3m:=s3'.1;clear hT1 s3' tE;have d0:=L6.hE.cell 0;have d1:=L6.hE.cell 1;have d2:=L6.hE.cell 2;have kE7:Has U E:=L6.hE.lt;have h3c:=bK U (.int .i64 x1) (.int .i64 x2) (.int .i64 x3) 54;have Sx:=L6.S;have rx:=L6.row;have vbx:=rx.lt;have bx:=L6.bs;clear L6
     go_wp2_with (refine wpList_append_own _ rfl _ _ 41 rfl w8.heap.size 54 i0 (.agg #[.int .i64 0,.int .i64 0,.int .i64 0]) 3 24 Tryz.underlying41 hi hz0 hz1 hz2 rfl (by decide) _ _ _ rfl (rx.alloc _) ⟨(U).heap.size,0,none⟩ 1 1 [.int .i64 x1,.int .i64 x2,.int .i64 x3] rfl rfl h3c (by simp [Value.oneCell']) (by unfold maxLen;omega) (by omega) (by simp;omega) ?_;intro v' V7 hown' hgrow _;obtain⟨g',cap',rfl⟩:=ownsRow_succ hown';have hgA:=ae (ab (bl1 U (.cells #[.int .i64 x1,.int .i64 x2,.int .i64 x3] 54)) _) hgrow;clear hgrow h3c)
     refine⟨?_,by simp [intOf];omega⟩;have S9:=Sx.grow hgA (λk hk=>(vbx k hk).1) lB (λb hb=>by have:=lGa b hb;omega);have z9:=hgA.size;exact⟨i+1,es++ [(x1,x2,x3)],(x1,x2,x3),q3,e3',f3',by simp,by omega,by simp [hlen],S9,by rw [ep];exact hown',λh=>by omega,q3m,by omega,λ_=>by rw [Nat.add_sub_cancel,<-hlen];simp,nx⟩
   .have hOf:Hid (O= .error (e,fa)):=Lib.hid (by
     rcases hE.out with⟨h,_⟩|⟨_,h⟩
     .exact absurd h he
     .rw [hOT.out,h];rfl)
    clear hE hrow
    go_wp2_with fail
    refine F0.out.mono ?_;rintro x w9 ⟨rfl,hB9⟩;have S9:=S.below hB9;clear F0 S hB9;have FA:=Lib.hid (ar R _ p e fa w9 S9.hR)
    go_wp2_with fail
    refine FA.out.mono ?_;rintro x wa ⟨rfl,hBa⟩;have Sa:=S9.below hBa;clear FA S9 hBa;have FB:=Lib.hid (ar R _ p e fa wa Sa.hR)
    go_wp2_with fail
    refine FB.out.mono ?_;rintro x wb ⟨rfl,hBb⟩;have Sb:=Sa.below hBb;clear FB Sa hBb;have FC:=Lib.hid (ar R _ p e fa wb Sb.hR)
    go_wp2_with fail
    refine FC.out.mono ?_;rintro x wc ⟨rfl,hBc⟩;have Sc:=Sb.below hBc;clear FC Sb hBc;have l1:=Sc.l1;have f0:=Sc.r5.cell 0;have ff0:=Sc.r5.frozen 0;have F1:=Sc.r5.set 0 (.int .i64 e);have f1:=F1.cell 1;have ff1:=F1.frozen 1;have F2:=Lib.hid (F1.set 1 (.int .i64 fa));have Z:=Lib.hid ((Sc.bl.setCell (p:=⟨w.heap.size,0,none⟩) (Nat.le_refl _) (.int .i64 e)).setCell (p:=⟨w.heap.size,1,none⟩) (Nat.le_refl _) (.int .i64 fa));clear F1 Sc;have hOe:=hOf.out;clear hOf hOT;subst hOe
    go_wp2_with fail
    (try simp only [Exit.inBlock,Exit.then])
    refine bodyPost_ret (v:= .tuple #[.int .i64 0,.int .i64 0,.slice none 0 0,.agg #[.int .i64 e,.int .i64 fa]]) ?_ rfl ⟨_,_,_,_,_,rfl,⟨rfl,rfl,rfl,rfl,rfl⟩,Z.out⟩;have hr:=run_loadVar_row _ w.heap.size 33 33 _ _ _ F2.out Tryz.underlying33 rfl (by kernel_rfl);simp [results,Tryz.results22,asAddr,hr]
  .obtain rfl:i=K:=by omega
   by_cases he:e=0
   .subst hlen
    have hTe:T= .ok (es,p):=by
     rcases hE.out with⟨_,h⟩|⟨h,_⟩
     .rw [h,Nat.sub_self];simp [cK,dr]
     .exact absurd he h
    subst he;clear hE;have FA:=Lib.hid (ar R _ p 0 fa wr S.hR)
    go_wp2_with fail
    refine FA.out.mono ?_;rintro x wa ⟨rfl,hBa⟩;have Sa:=S.below hBa;have ra:=bB hrow hBa;have za:=hBa.size;clear FA S hBa hrow;by_cases hq:p=m
    .have hOf:Hid (O= .ok (rows,cols,es)):=Lib.hid (by rw [hOT.out,hTe];show(if p=m then _ else _)=_;rw [if_pos hq]);have EN:=Lib.hid (lJ R a' m c' p fa wa Sa.hR true (by simp [hq]));clear hq
     go_wp2_with fail
     refine EN.out.mono ?_;rintro x wb ⟨rfl,hBb⟩;have Sb:=Sa.below hBb;have rb:=bB ra hBb;have zb:=hBb.size;clear EN Sa hBb ra;have FC:=Lib.hid (ar R _ p 0 fa wb Sb.hR)
     go_wp2_with fail
     refine FC.out.mono ?_;rintro x wc ⟨rfl,hBc⟩;have Sc:=Sb.below hBc;have rc:=bB rb hBc;have zc:=hBc.size;clear FC Sb hBc rb;have l1:=Sc.l1;have f0:=Sc.r5.cell 0;have ff0:=Sc.r5.frozen 0;have F1:=Sc.r5.set 0 (.int .i64 0);have f1:=F1.cell 1;have ff1:=F1.frozen 1;have F2:=Lib.hid (F1.set 1 (.int .i64 0));have Z:=Lib.hid ((Sc.bl.setCell (p:=⟨w.heap.size,0,none⟩) (Nat.le_refl _) (.int .i64 0)).setCell (p:=⟨w.heap.size,1,none⟩) (Nat.le_refl _) (.int .i64 0));have hL:w.heap.size<w8.heap.size:=by omega
     have RR:=Lib.hid (bA (bA rc (af wc w.heap.size 0 (.int .i64 0)) hL) (af _ w.heap.size 1 (.int .i64 0)) hL);clear F1 Sc;have hOe:=hOf.out;clear hOf hOT;subst hOe
     go_wp2_with fail
     (try simp only [Exit.inBlock,Exit.then])
     refine bodyPost_ret (v:= .tuple #[.int .i64 rows,.int .i64 cols,.slice bs es.length cap,.agg #[.int .i64 0,.int .i64 0]]) ?_ rfl ⟨_,_,_,_,_,rfl,⟨rfl,rfl,rfl,rfl,w8.heap.size,hL,RR.out,λh=>hnil (by rw [h];rfl)⟩,Z.out⟩;have hr:=run_loadVar_row _ w.heap.size 33 33 _ _ _ F2.out Tryz.underlying33 rfl (by kernel_rfl);simp [results,Tryz.results22,asAddr,hr]
    .have hOf:Hid (O= .error (4,(p:Int))):=Lib.hid (by rw [hOT.out,hTe];show(if p=m then _ else _)=_;rw [if_neg hq]);have EN:=Lib.hid (lJ R a' m c' p fa wa Sa.hR false (by simp [hq]));clear hq
     go_wp2_with fail
     refine EN.out.mono ?_;rintro x wb ⟨rfl,hBb⟩;have Sb:=Sa.below hBb;clear EN Sa hBb ra;have AT:=Lib.hid (lI R _ p 0 fa wb Sb.hR)
     go_wp2_with fail
     refine AT.out.mono ?_;rintro x wc ⟨rfl,hBc⟩;have Sc:=Sb.below hBc;clear AT Sb hBc;have FL:=Lib.hid (fv R _ p fa 4 p wc Sc.hR (by decide))
     go_wp2_with fail
     refine FL.out.mono ?_;rintro x wd ⟨rfl,hRd,gd⟩;have Sd:=Sc.call gd hRd;clear FL Sc hRd gd;have FB:=Lib.hid (ar R _ p 4 p wd Sd.hR)
     go_wp2_with fail
     refine FB.out.mono ?_;rintro x we ⟨rfl,hBe⟩;have Se:=Sd.below hBe;clear FB Sd hBe;have FC:=Lib.hid (ar R _ p 4 p we Se.hR)
     go_wp2_with fail
     refine FC.out.mono ?_;rintro x wf ⟨rfl,hBf⟩;have Sc:=Se.below hBf;clear FC Se hBf;have l1:=Sc.l1;have f0:=Sc.r5.cell 0;have ff0:=Sc.r5.frozen 0;have F1:=Sc.r5.set 0 (.int .i64 4);have f1:=F1.cell 1;have ff1:=F1.frozen 1;have F2:=Lib.hid (F1.set 1 (.int .i64 p));have Z:=Lib.hid ((Sc.bl.setCell (p:=⟨w.heap.size,0,none⟩) (Nat.le_refl _) (.int .i64 4)).setCell (p:=⟨w.heap.size,1,none⟩) (Nat.le_refl _) (.int .i64 p));clear F1 Sc;have hOe:=hOf.out;clear hOf hOT;subst hOe
     go_wp2_with fail
     (try simp only [Exit.inBlock,Exit.then])
     refine bodyPost_ret (v:= .tuple #[.int .i64 0,.int .i64 0,.slice none 0 0,.agg #[.int .i64 4,.int .i64 p]]) ?_ rfl ⟨_,_,_,_,_,rfl,⟨rfl,rfl,rfl,rfl,rfl⟩,Z.out⟩;have hr:=run_loadVar_row _ w.heap.size 33 33 _ _ _ F2.out Tryz.underlying33 rfl (by kernel_rfl);simp [results,Tryz.results22,asAddr,hr]
   .have hOf:Hid (O= .error (e,fa)):=Lib.hid (by
     rcases hE.out with⟨h,_⟩|⟨_,h⟩
     .exact absurd h he
     .rw [hOT.out,h];rfl)
    clear hE hrow;have FA:=Lib.hid (ar R _ p e fa wr S.hR)
    go_wp2_with fail
    refine FA.out.mono ?_;rintro x wa ⟨rfl,hBa⟩;have Sa:=S.below hBa;clear FA S hBa;have FB:=Lib.hid (ar R _ p e fa wa Sa.hR)
    go_wp2_with fail
    refine FB.out.mono ?_;rintro x wb ⟨rfl,hBb⟩;have Sb:=Sa.below hBb;clear FB Sa hBb;have FC:=Lib.hid (ar R _ p e fa wb Sb.hR)
    go_wp2_with fail
    refine FC.out.mono ?_;rintro x wc ⟨rfl,hBc⟩;have Sc:=Sb.below hBc;clear FC Sb hBc;have l1:=Sc.l1;have f0:=Sc.r5.cell 0;have ff0:=Sc.r5.frozen 0;have F1:=Sc.r5.set 0 (.int .i64 e);have f1:=F1.cell 1;have ff1:=F1.frozen 1;have F2:=Lib.hid (F1.set 1 (.int .i64 fa));have Z:=Lib.hid ((Sc.bl.setCell (p:=⟨w.heap.size,0,none⟩) (Nat.le_refl _) (.int .i64 e)).setCell (p:=⟨w.heap.size,1,none⟩) (Nat.le_refl _) (.int .i64 fa));clear F1 Sc;have hOe:=hOf.out;clear hOf hOT;subst hOe
    go_wp2_with fail
    (try simp only [Exit.inBlock,Exit.then])
    refine bodyPost_ret (v:= .tuple #[.int .i64 0,.int .i64 0,.slice none 0 0,.agg #[.int .i64 e,.int .i64 fa]]) ?_ rfl ⟨_,_,_,_,_,rfl,⟨rfl,rfl,rfl,rfl,rfl⟩,Z.out⟩;have hr:=run_loadVar_row _ w.heap.size 33 33 _ _ _ F2.out Tryz.underlying33 rfl (by kernel_rfl);simp [results,Tryz.results22,asAddr,hr]
end
noncomputable section
open Go.RowKit Go.Sort
namespace Sm
namespace Rm
open Ev Be
abbrev ety:K.Ty:=Eg.ety
abbrev Ft:K.Ty:= .C (.I .i64) (.I .i64)
abbrev ins:List K.TyD:= [(false,By)]
abbrev outs:List K.TyD:= [(false,.I .i64),(false,.I .i64),(false,.S ety),(true,Ft)]
def fn(x:Sl Int):Option (Int×Int×Sl (Int×Int×Int)×(Int×Int)):=Dm.fn x
theorem pure_ok(a:K.ba ins)(o:K.ba outs)(h:fn a=some o):dP Tryz.prog 22 (K.bW ins a) .fresh (K.bW outs o):=by
 obtain⟨x,rfl⟩:∃x:Sl Int,x=a:=⟨_,rfl⟩;unfold fn Dm.fn at h;rw [Option.ite_none_right_eq_some]at h;obtain⟨hx,h⟩:=h;intro w F ys hL hF hr;obtain⟨hlen,hi⟩:=hr
 match ys,hlen with
 | [y0],_=>
  obtain⟨z,e1,e2⟩:=hi 0 _ rfl;simp only [List.getElem?_cons_zero,zsI]at e1;subst e1
  have r1:RepT w F (Sl.t (K.Ty.row (.I .u8)) x) y0:=by cases e2 with|one t y h=>exact h
  obtain⟨a1,c1,rfl,g1,g2,_,g4⟩:=lF hx r1;have hz:a1=none->c1=0/\x.l.length=0:=λh=>⟨g4 h,by have:=g4 h;omega⟩;refine(tv a1 x.l.length c1 (gf x) w g1 g2 (ow hx) hz).mono λe w' h2=> ?_;obtain⟨r,cl,v,f1,f2,rfl,hT,hB⟩:=h2;unfold ToldM at hT;split at hT
  .rename_i rows cols l hd;rw [hd]at h;cases h;obtain⟨rfl,rfl,rfl,rfl,base,hb,hrow,hnil⟩:=hT;exact⟨_,rfl,Dm.rep_four (Dm.rep_row hrow hnil (λb hb2=>by have:=hb2.1;omega)),λhk=>(by cases hk),hB⟩
  .rename_i er hd;rw [hd]at h;cases h;obtain⟨rfl,rfl,rfl,rfl,rfl⟩:=hT;exact⟨_,rfl,Dm.rep_four (Eg.nil_rep _ _),λhk=>(by cases hk),hB⟩
theorem enters:Ev.Enters Tryz.prog 22:=⟨_,_,Tryz.func22,by kernel_rfl,by unfold Tryz.f22;rfl⟩
end Rm
end Sm
end
noncomputable section
namespace Ev
namespace K
open Go Go.RowKit
set_option maxRecDepth 100000
set_option maxHeartbeats 1000000
def Mg:Ax:=(aF (aF (aF (aF (aF (aF (λ_=>none) 96 (ly Sm.Eg.ins .fresh Sm.Eg.outs Sm.Eg.fn)) 42 (ly Sm.Be.ins .fresh Sm.Be.outs Sm.Be.fn)) 12 (ly Sm.Dc.ins .fresh Sm.Dc.outs Sm.Dc.fn)) 21 (ly Sm.Dm.ins .fresh Sm.Dm.outs Sm.Dm.fn)) 13 (ly Sm.Rd.ins .fresh Sm.Rd.outs Sm.Rd.fn)) 22 (ly Sm.Rm.ins .fresh Sm.Rm.outs Sm.Rm.fn))
theorem Id:Bc Tryz.prog Mg:=(aj (aj (aj (aj (aj (aj (wU _) (mc Sm.Eg.enters Sm.Eg.pure_ok)) (mc Sm.Be.enters Sm.Be.pure_ok)) (mc Sm.Dc.enters Sm.Dc.pure_ok)) (mc Sm.Dm.enters Sm.Dm.pure_ok)) (mc Sm.Rd.enters Sm.Rd.pure_ok)) (mc Sm.Rm.enters Sm.Rm.pure_ok))
def Ie:Ax:=(aF (aF (aF (aF (aF (aF (aF (aF (aF (aF (aF (aF (aF (aF (aF (aF (aF (aF (aF (aF (aF (aF (aF (aF (aF (aF (aF (aF (aF (aF (aF (aF (aF (aF Mg 31 ay) 48 ay) 52 ay) 53 ay) 55 ay) 60 ay) 68 ay) 69 ay) 77 ay) 78 ay) 79 ay) 85 ay) 93 ay) 97 ay) 103 ay) 104 ay) 106 ay) 113 ay) 114 ay) 115 ay) 116 ay) 121 ay) 124 ay) 125 ay) 126 ay) 127 ay) 128 ay) 129 ay) 130 ay) 131 ay) 134 ay) 137 ay) 138 ay) 139 ay)
theorem At:Bc Tryz.prog Ie:=(aj (aj (aj (aj (aj (aj (aj (aj (aj (aj (aj (aj (aj (aj (aj (aj (aj (aj (aj (aj (aj (aj (aj (aj (aj (aj (aj (aj (aj (aj (aj (aj (aj (aj Id λvs kind rs h=>by simp [ay]at h) λvs kind rs h=>by simp [ay]at h) λvs kind rs h=>by simp [ay]at h) λvs kind rs h=>by simp [ay]at h) λvs kind rs h=>by simp [ay]at h) λvs kind rs h=>by simp [ay]at h) λvs kind rs h=>by simp [ay]at h) λvs kind rs h=>by simp [ay]at h) λvs kind rs h=>by simp [ay]at h) λvs kind rs h=>by simp [ay]at h) λvs kind rs h=>by simp [ay]at h) λvs kind rs h=>by simp [ay]at h) λvs kind rs h=>by simp [ay]at h) λvs kind rs h=>by simp [ay]at h) λvs kind rs h=>by simp [ay]at h) λvs kind rs h=>by simp [ay]at h) λvs kind rs h=>by simp [ay]at h) λvs kind rs h=>by simp [ay]at h) λvs kind rs h=>by simp [ay]at h) λvs kind rs h=>by simp [ay]at h) λvs kind rs h=>by simp [ay]at h) λvs kind rs h=>by simp [ay]at h) λvs kind rs h=>by simp [ay]at h) λvs kind rs h=>by simp [ay]at h) λvs kind rs h=>by simp [ay]at h) λvs kind rs h=>by simp [ay]at h) λvs kind rs h=>by simp [ay]at h) λvs kind rs h=>by simp [ay]at h) λvs kind rs h=>by simp [ay]at h) λvs kind rs h=>by simp [ay]at h) λvs kind rs h=>by simp [ay]at h) λvs kind rs h=>by simp [ay]at h) λvs kind rs h=>by simp [ay]at h) λvs kind rs h=>by simp [ay]at h)
def E0:Env:=AZ Tryz.prog Ie
theorem Qt:E0.Ok:=ud DD DE At
def Ej:List TD->Option (Kind×List TD)
 | []=>some (.fresh,[.one (.v (.bool true))])
 |_=>none
theorem KP{k:FuncId}(h:(cE E0 300 60).1 k []=some (.fresh,[.one (.v (.bool true))])):∀vs kind rs,Ej vs=some (kind,rs)->dP Tryz.prog k vs kind rs/\Ev.Enters Tryz.prog k:=λvs kind rs hf=>by
 unfold Ej at hf;split at hf
 .simp only [zsI,Prod.mk.injEq]at hf;obtain⟨rfl,rfl⟩:=hf;exact(tZ Qt 300 60).1 _ _ _ _ h
 .simp at hf
theorem Qu:(cE E0 300 60).1 8 []=some (.fresh,[.one (.v (.bool true))]):=by kernel_rfl
def E1:Env:=AZ Tryz.prog (aF Ie 8 Ej)
theorem ga:E1.Ok:=ud DD DE (aj At (KP Qu))
def FL8:ba []->Option Bool:=λ_=>some true
def Mh:bu:=⟨8,[],.data true [(false,.B)],FL8,1⟩
theorem ON:aC E1 Mh:=λm a out h=>by
 obtain rfl:=Option.some.inj h;exact Bd (F:=Ej) rfl rfl
def bY:ba Sm.Dc.ins->Option (ba Sm.Dc.outs):=Sm.Dc.fn
def jH:bu:=⟨12,Sm.Dc.ins,.data true Sm.Dc.outs,bY,1⟩
theorem qi:aC E1 jH:=DL rfl
theorem gv:Kg E1 TT:=⟨tz1,⟨tz2,⟨tz3,⟨tz4,⟨tz5,⟨tz6,⟨tz7,⟨tz8,⟨SU,⟨SV,⟨SW,⟨SX,⟨SY,⟨SZ,⟨Ta,⟨Tb,⟨Tc,⟨Td,⟨Te,⟨Tf,⟨Tg,⟨Ti,⟨Tj,⟨Tk,⟨Tl,⟨Tm,⟨Tn,⟨To,⟨Tp,⟨Tq,⟨Tr,⟨Ts,⟨Tt,⟨Tu,⟨Tv,⟨Tw,⟨Tx,⟨Tz,⟨TA,⟨TB,⟨TC,⟨TE,⟨TF,⟨TG,⟨TH,⟨TJ,⟨TK,⟨TL,⟨TM,⟨TN,⟨TO,⟨TP,⟨TQ,⟨TR,⟨TS,⟨TU,⟨TV,⟨TW,⟨TX,⟨TY,⟨TZ,⟨Ua,⟨Ub,⟨Uc,⟨Ud,⟨Ue,⟨Uf,⟨Ug,⟨Uh,⟨Ui,⟨Uj,⟨Uk,⟨Ul,⟨Um,⟨Un,⟨Uo,⟨Uq,⟨Ur,⟨Us,⟨Ut,⟨Uu,⟨Uv,⟨Uw,⟨Ux,⟨Uy,⟨Uz,⟨UA,⟨Mw,⟨My,⟨Mz,⟨MA,⟨MC,⟨MD,⟨ME,⟨MF,⟨MG,⟨MH,⟨MI,⟨MJ,⟨MK,⟨ML,⟨MM,⟨MN,⟨MO,⟨MP,⟨MQ,⟨MR,⟨MS,⟨MT,⟨MU,⟨MV,⟨MW,⟨MX,⟨MY,⟨MZ,⟨Na,⟨Nb,⟨Nc,⟨Nd,⟨Nf,⟨Ng,⟨Nh,⟨Ni,⟨Nj,⟨Nk,⟨Nl,⟨Nm,⟨Nn,⟨No,⟨Np,⟨Nq,⟨Nr,⟨Ns,⟨Nt,⟨Nu,⟨Nv,⟨Nw,⟨Nx,⟨Ny,⟨Nz,⟨NA,⟨NC,⟨ND,⟨NE,⟨NF,⟨NG,⟨NH,⟨NI,⟨NJ,⟨NK,⟨NL,⟨NM,⟨NN,⟨NO,⟨NP,⟨NQ,⟨NR,⟨NS,⟨NT,⟨NU,trivial⟩⟩⟩⟩⟩⟩⟩⟩⟩⟩⟩⟩⟩⟩⟩⟩⟩⟩⟩⟩⟩⟩⟩⟩⟩⟩⟩⟩⟩⟩⟩⟩⟩⟩⟩⟩⟩⟩⟩⟩⟩⟩⟩⟩⟩⟩⟩⟩⟩⟩⟩⟩⟩⟩⟩⟩⟩⟩⟩⟩⟩⟩⟩⟩⟩⟩⟩⟩⟩⟩⟩⟩⟩⟩⟩⟩⟩⟩⟩⟩⟩⟩⟩⟩⟩⟩⟩⟩⟩⟩⟩⟩⟩⟩⟩⟩⟩⟩⟩⟩⟩⟩⟩⟩⟩⟩⟩⟩⟩⟩⟩⟩⟩⟩⟩⟩⟩⟩⟩⟩⟩⟩⟩⟩⟩⟩⟩⟩⟩⟩⟩⟩⟩⟩⟩⟩⟩⟩⟩⟩⟩⟩⟩⟩⟩⟩⟩⟩⟩⟩⟩⟩⟩⟩⟩⟩⟩⟩⟩⟩
theorem eE:Kh E1.P EQS:=⟨EX EZ Fc,⟨EY Fd Fe,⟨EY Ff Fg,⟨EX BT BV,trivial⟩⟩⟩⟩
theorem fn7:E1.fn 7=some fi7:=bH Tryz.func7 rfl
theorem UR:E1.fn 10=some UB:=bH Tryz.func10 rfl
theorem US:E1.fn 17=some UC:=bH Tryz.func17 rfl
theorem UT:E1.fn 18=some UD:=bH Tryz.func18 rfl
theorem UU:E1.fn 24=some PF:=bH Tryz.func24 rfl
theorem UV:E1.fn 30=some UF:=bH Tryz.func30 rfl
theorem UW:E1.fn 43=some PG:=bH Tryz.func43 rfl
theorem UX:E1.fn 51=some PH:=bH Tryz.func51 rfl
theorem UY:E1.fn 59=some UH:=bH Tryz.func59 rfl
theorem UZ:E1.fn 81=some PI:=bH Tryz.func81 rfl
theorem Vc:E1.fn 82=some PJ:=bH Tryz.func82 rfl
theorem Vd:E1.fn 83=some PK:=bH Tryz.func83 rfl
theorem Ve:E1.fn 84=some PL:=bH Tryz.func84 rfl
theorem Vf:E1.fn 99=some PM:=bH Tryz.func99 rfl
theorem Qv:E1.fn 100=some Ki:=bH Tryz.func100 rfl
theorem Qw:E1.fn 101=some Kj:=bH Tryz.func101 rfl
end K
end Ev
end
noncomputable section
namespace Ev
namespace K
open Go Go.RowKit
set_option maxRecDepth 100000
set_option maxHeartbeats 1000000
def vO:dH:= [(17,⟨[⟨false,6,0,[1],⟨[(3,false,[.d true (.I .i64)])],[],[]⟩,[(.exit 0,⟨[],[],[]⟩),(.ret,⟨[(2,false,[.d true (.I .i64)])],[],[]⟩)]⟩,⟨false,12,0,[1],⟨[(5,false,[.d true (.I .i64)])],[],[]⟩,[(.exit 2,⟨[],[],[]⟩),(.ret,⟨[(2,false,[.d true (.I .i64)])],[],[]⟩)]⟩],[]⟩)]
def mu:KG:=⟨TT,EQS,[],[]⟩
def eV:ba [yD0]->Option (OutK.val (.data true [(false,.I .i64)])):=eG mu vO UC 17 0 [yD0] (.data true [(false,.I .i64)])
def mv:bu:=⟨17,[yD0],.data true [(false,.I .i64)],eV,1⟩
def vP:dH:= [(18,⟨[⟨false,2,0,[0],⟨[(3,false,[.d true (.I .i64)])],[],[]⟩,[(.exit 0,⟨[],[],[]⟩),(.ret,⟨[(2,false,[.d true .B])],[],[]⟩)]⟩],[]⟩)]
def mw:KG:=⟨TT,EQS,[fU],[]⟩
def eW:ba [yD1]->Option (OutK.val (.data true [(false,.B)])):=eG mw vP UD 18 0 [yD1] (.data true [(false,.B)])
def my:bu:=⟨18,[yD1],.data true [(false,.B)],eW,2⟩
def Au:dH:= [(59,⟨[⟨false,3,0,[1],⟨[(0,false,[.d true (.I .u64)]),(5,false,[.m (.I .u8)]),(6,false,[.d true (.I .i64)])],[],[]⟩,[(.exit 0,⟨[(5,false,[.m (.I .u8)])],[],[]⟩)]⟩],[]⟩)]
def qN:KG:=⟨TT,EQS,[],[]⟩
def gH:ba [(false,.I .u64),(false,.I .i64)]->Option (OutK.val (.mown (.I .u8))):=eG qN Au UH 59 0 [(false,.I .u64),(false,.I .i64)] (.mown (.I .u8))
def qO:bu:=⟨59,[(false,.I .u64),(false,.I .i64)],.mown (.I .u8),gH,1⟩
def vQ:dH:= []
def mz:KG:=⟨TT,EQS,[qO],[]⟩
def cz:ba [(false,.I .u32)]->Option (OutK.val (.mown (.I .u8))):=eG mz vQ UF 30 0 [(false,.I .u32)] (.mown (.I .u8))
def mA:bu:=⟨30,[(false,.I .u32)],.mown (.I .u8),cz,2⟩
def tw:dH:= [(10,⟨[⟨false,8,0,[1],⟨[(5,false,[.d true (.I .u8)]),(6,false,[.d true (.I .i64)])],[],[]⟩,[(.exit 0,⟨[(5,false,[.d true (.I .u8)])],[],[]⟩)]⟩,⟨false,17,0,[1,5],⟨[(7,false,[.o (.I .u8)]),(8,false,[.d true (.I .i64)])],[],[]⟩,[(.exit 2,⟨[(7,false,[.o (.I .u8)])],[],[]⟩)]⟩],[]⟩)]
def kt:KG:=⟨TT,EQS,[mv,my,mA],[]⟩
def ew:ba [yD0]->Option (OutK.val (.data true [(false,.S (.I .u8)),(false,.I .i64)])):=eG kt tw UB 10 0 [yD0] (.data true [(false,.S (.I .u8)),(false,.I .i64)])
def ku:bu:=⟨10,[yD0],.data true [(false,.S (.I .u8)),(false,.I .i64)],ew,3⟩
def ni:dH:= []
def gQ:KG:=⟨TT,EQS,[Mh,ku,jH,iM],[]⟩
def cY:ba [yD0,(false,.I .u16),(false,.S (.I .u8))]->Option (OutK.val (.data true [(false,.B)])):=eG gQ ni fi7 7 0 [yD0,(false,.I .u16),(false,.S (.I .u8))] (.data true [(false,.B)])
def gR:bu:=⟨7,[yD0,(false,.I .u16),(false,.S (.I .u8))],.data true [(false,.B)],cY,5⟩
end K
end Ev
end
noncomputable section
namespace Ev
namespace K
open Go Go.RowKit
set_option maxRecDepth 100000
set_option maxHeartbeats 1000000
theorem rJ:GOk iI E1 0:=gok ga gv eE trivial trivial
theorem kv:aC E1 fU:=aU rJ (by kernel_rfl) UW (by kernel_rfl) rfl
theorem yB:GOk nO E1 0:=gok ga gv eE trivial trivial
theorem Av:aC E1 nQ:=aU yB (by kernel_rfl) UZ (by kernel_rfl) rfl
theorem yD:GOk nR E1 0:=gok ga gv eE trivial trivial
theorem Aw:aC E1 nS:=aU yD (by kernel_rfl) Vc (by kernel_rfl) rfl
theorem oC:GOk gn E1 0:=gok ga gv eE trivial trivial
theorem qj:aC E1 go:=aU oC (by kernel_rfl) Vf (by kernel_rfl) rfl
theorem rK:GOk iJ E1 0:=gok ga gv eE trivial trivial
theorem tD:aC E1 iK:=aU rK (by kernel_rfl) Qv (by kernel_rfl) rfl
theorem vR:GOk lr E1 0:=gok ga gv eE trivial trivial
theorem yE:aC E1 lu:=aU vR (by kernel_rfl) Qw (by kernel_rfl) rfl
theorem vS:GOk lv E1 1:=gok ga gv eE ⟨⟨by decide,qj⟩,⟨⟨by decide,tD⟩,⟨⟨by decide,yE⟩,trivial⟩⟩⟩ trivial
theorem yF:aC E1 lx:=aU vS (by kernel_rfl) Vd (by kernel_rfl) rfl
theorem qk:GOk ie E1 0:=gok ga gv eE trivial trivial
theorem rL:aC E1 ig:=aU qk (by kernel_rfl) Ve (by kernel_rfl) rfl
theorem oD:GOk gp E1 2:=gok ga gv eE ⟨⟨by decide,kv⟩,⟨⟨by decide,Av⟩,⟨⟨by decide,Aw⟩,⟨⟨by decide,yF⟩,⟨⟨by decide,rL⟩,trivial⟩⟩⟩⟩⟩ trivial
theorem ql:aC E1 gq:=aU oD (by kernel_rfl) UX (by kernel_rfl) rfl
theorem rM:GOk iL E1 3:=gok ga gv eE ⟨⟨by decide,ql⟩,trivial⟩ trivial
theorem tF:aC E1 iM:=aU rM (by kernel_rfl) UU (by kernel_rfl) rfl
theorem rN:GOk mu E1 0:=gok ga gv eE trivial trivial
theorem tG:aC E1 mv:=aU rN (by kernel_rfl) US (by kernel_rfl) rfl
theorem rO:GOk mw E1 1:=gok ga gv eE ⟨⟨by decide,kv⟩,trivial⟩ trivial
theorem tH:aC E1 my:=aU rO (by kernel_rfl) UT (by kernel_rfl) rfl
theorem vT:GOk qN E1 0:=gok ga gv eE trivial trivial
theorem yG:aC E1 qO:=aU vT (by kernel_rfl) UY (by kernel_rfl) rfl
theorem rP:GOk mz E1 1:=gok ga gv eE ⟨⟨by decide,yG⟩,trivial⟩ trivial
theorem tI:aC E1 mA:=aU rP (by kernel_rfl) UV (by kernel_rfl) rfl
theorem qm:GOk kt E1 2:=gok ga gv eE ⟨⟨by decide,tG⟩,⟨⟨by decide,tH⟩,⟨⟨by decide,tI⟩,trivial⟩⟩⟩ trivial
theorem rQ:aC E1 ku:=aU qm (by kernel_rfl) UR (by kernel_rfl) rfl
theorem kw:GOk gQ E1 4:=gok ga gv eE ⟨⟨by decide,ON⟩,⟨⟨by decide,rQ⟩,⟨⟨by decide,qi⟩,⟨⟨by decide,tF⟩,trivial⟩⟩⟩⟩ trivial
theorem mf:aC E1 gR:=aU kw (by kernel_rfl) fn7 (by kernel_rfl) rfl
end K
end Ev
end
noncomputable section
namespace Ev
namespace K
open Go Go.RowKit
def W:(e:Ty)->e.val->Prop
 | .I k,x=>inK k x
 | .B,_=>True
 | .S e,x=>SlW e.size (λy=>W e y) x
 | .U,_=>True
 | .C a b,x=>W a x.1/\W b x.2
def Op(P:Program)(t:TypeId)(e:Ty):Prop:=∀ts,Typ P t ts->∃x:e.val,ts=e.row x/\W e x
def Ops(P:Program)(tl:List TypeId)(e:Ty):Prop:=∀tss:List (List T),tss.length=tl.length->(∀(i:Nat) t l,tl[i]? =some t->tss[i]? =some l->Typ P t l)->∃x:e.val,tss.flatten=e.row x/\W e x
section
variable {P : Program} {t : TypeId} {tl : List TypeId} {e a b : Ty}
theorem yH{k:IntKind}(h:P.underlying t=some (.int k)):Op P t (.I k):=λts ht=>Ly h ht
theorem Ay{t':TypeId}(h:P.underlying t=some (.slice t'))(hc:P.cellsOf t'=e.size)(ho:Op P t' e):Op P t (.S e):=λts ht=>GA (r:=e.row) (Q:=λy=>W e y) h hc ho ht
theorem Ek(h:Op P t e):Ops P [t] e:=λtss hl ht=>by
 obtain⟨l,rfl⟩:=List.length_eq_one_iff.1 hl;obtain⟨x,h1,h2⟩:=h l (ht 0 t l rfl rfl);exact⟨x,by simp [h1],h2⟩
theorem tJ(h:Op P t a)(h':Ops P tl b):Ops P (t::tl) (.C a b):=λtss hl ht=>by
 match tss,hl with
 |l::tss,hl=>
  obtain⟨x,h1,h2⟩:=h l (ht 0 t l rfl rfl);obtain⟨y,h3,h4⟩:=h' tss (by simpa using hl) λi t' l' a b=>ht (i+1) t' l' a b;exact⟨(x,y),by rw [List.flatten_cons,h1,h3];rfl,h2,h4⟩
theorem wN{fs:Array Field}(h:P.underlying t=some (.struct fs))(hf:fs.toList.map (·.type)=tl)(ho:Ops P tl e):Op P t e:=λts ht=>by
 obtain⟨tss,rfl,h1,h2⟩:=Dh h ht;subst hf;refine ho tss (by simpa using h1) λi t' l hi hl=> ?_;rw [List.getElem?_map,Option.map_eq_some_iff]at hi;obtain⟨f,hf,rfl⟩:=hi;exact h2 i f l hf hl
theorem Az{ts:List TypeId}{tds:List TD}{d:TypeDesc}(hu:P.underlying t=some d)(hd:aN d=false)(ho:Op P t e)(h:gU P (t::ts) tds):∃(x:e.val) (r:List TD),tds=iG (false,e) x::r/\W e x/\gU P ts r:=by
 obtain⟨y,r,rfl,h1,h2⟩:=Ju hu hd h;obtain⟨x,h3,h4⟩:=ho _ h1;refine⟨x,r,?_,h4,h2⟩;show TD.one y::r=(match e.row x with| [y]=>TD.one y|ys=>TD.agg ys)::r;rw [<-h3]
theorem If{ts:List TypeId}{tds:List TD}{d:TypeDesc}(hu:P.underlying t=some d)(hd:aN d=true)(ho:Op P t e)(h:gU P (t::ts) tds):∃(x:e.val) (r:List TD),tds=iG (true,e) x::r/\W e x/\gU P ts r:=by
 obtain⟨y,r,rfl,h1,h2⟩:=Jv hu hd h;obtain⟨x,h3,h4⟩:=ho _ h1;exact⟨x,r,by rw [h3];rfl,h4,h2⟩
end
theorem KQ{E:Env}{en:bu}(ok:aC E en){a:ba en.ins}{tds:List TD}(ht:tds=bW en.ins a)(ho:en.out= .data true [(false,.B)])(h:en.f a=some (cast (by rw [ho]) true)):∃m n kind,(cE E m n).1 en.k tds=some (kind,[.one (.v (.bool true))]):=by
 have h1:=ok 0 a _ h;subst ht;obtain⟨k,ins,out,f,d⟩:=en;dsimp only at ho;subst ho;exact Pj h1
end K
end Ev
end
noncomputable section
namespace Ev
open Go Go.RowKit Go.ChangeShapes
section
variable {H : Type} {enc : TypeId × Value → H} {P : Program} {w : World}
theorem yI{E:Env}(hO:E.Ok)(hL:LD w.heap.size w){d k base:Nat}{ts:List TypeId}{vs:List Value}{ds:List (DataW H)}{ps:List MemPlace}(hp:∀t∈ts,fC E.P d t=true)(hA:DataW.TrodAll enc E.P w 0 (λ_=>true) true ts vs ds ps)
  (hv:∀(j:Nat) t v,ts[j]? =some t->vs[j]? =some v->Value.okWide E.P w .any base t v) (hlaw:∀tds,gU E.P ts tds->fH w (λ_=>False) tds vs->∃m n kind,(cE E m n).1 k tds=some (kind,[.one (.v (.bool true))])):
  Calls E.P k vs.toArray w λe w'=>e= .returned (.bool true)/\Below w.heap.size w w':=by
 obtain⟨tds,h1,h2⟩:=wT hp hA hv;obtain⟨m,n,kind,h3⟩:=hlaw tds h2 h1;refine(Mj hO h3 w (λ_=>False) vs hL (λ_ h=>h.elim) h1).mono λe w' ⟨y,he,hr,_,hb⟩=>⟨?_,hb⟩;subst he
 cases hr with
 |one t y h=>cases h with|v x hx=>rfl
theorem Ig{d:DataW H}:1<=Rows.uptoBulk d:=by
 cases d with
 |lit l=>cases l<;>simp [Rows.uptoBulk]
 |nil=>simp [Rows.uptoBulk]
 |ptr d=>simp [Rows.uptoBulk]
 |slice gK spare=>simp [Rows.uptoBulk]
 |agg parts=>simp [Rows.uptoBulk]
 |iface t d=>simp [Rows.uptoBulk]
 |map entries=>simp [Rows.uptoBulk]
 |held h=>simp [Rows.uptoBulk]
theorem AA:∀l:List (DataW H),l.length<=Rows.uptoBulkAll l
 | []=>by simp [Rows.uptoBulkAll]
 |x::r=>by
  have h1:=Ig (d:=x);have h2:=AA r;simp only [Rows.uptoBulkAll,List.length_cons];omega
theorem AB:∀l r:List (DataW H),Rows.uptoBulkAll (l++r)=Rows.uptoBulkAll l+Rows.uptoBulkAll r
 | [],r=>by simp [Rows.uptoBulkAll]
 |x::l,r=>by
  have:=AB l r
  simp only [List.cons_append,Rows.uptoBulkAll];omega
theorem CE{l r:List (DataW H)}(h:Rows.uptoSmall H (l++r)=true):Rows.uptoBulkAll l<=1048576:=by
 have h1:Rows.uptoBulkAll (l++r)<=1048576:=of_decide_eq_true h;rw [AB]at h1;omega
theorem AC{spare:Nat->Bool}{held:Bool}{t e:TypeId}{f0 f1:Field}{F:Nat->Prop}{a:T}{nn:Bool}{sz:Nat}{l:List (List T)}{v:Value}{d:DataW H}{ps:List MemPlace}
  (hu:P.underlying t=some (.struct #[f0,f1])) (h1:P.underlying f1.type=some (.slice e)) (ho:f1.offset=1) (hc:P.cellsOf f1.type=1) (hr:RepTD w F (.agg [a,.s nn sz l]) v) (ht:DataW.Trod enc P w 0 spare held t v d ps):l.length<=Rows.uptoBulk d:=by
 obtain⟨fuel,hf⟩:=ht
 cases hr with
 |agg ts ys h=>
  match ys,h with
  | [y0,y1],h=>
   obtain⟨y,hy,hq⟩:=h.2 1 _ rfl;simp only [List.getElem?_cons_succ,List.getElem?_cons_zero,zsI]at hy;subst hy;have hf:DataW.trod enc P w 0 spare held fuel t [y0,y1]=some (d,ps):=hf;obtain⟨z0,z1,n,hz,_,_,hs⟩:=trod_struct2 hu hf
   have hs:DataW.trod enc P w 0 spare held n f1.type [y1]=some z1:=by
    rw [ho,hc]at hs;exact hs
   have hd:d= .agg [z0.1,z1.1]:=congrArg Prod.fst hz;subst hd
   have key:l.length<=Rows.uptoBulk z1.1:=by
    cases hq with
    |s nn sz l A c y hn hcc h0 hl hm hr=>
     rcases Go.Deep.open_slice h1 hs with⟨q,_⟩|⟨A',len,cap,m,n',D,Pl,q,_,_,_,_,q2,_⟩
     .have:l.length=0:=by
       have:=congrArg (λl=>match l with| [Value.slice _ n _]=>n|_=>0) q
       exact this
      omega
     .have:l.length=len:=by
       have:=congrArg (λl=>match l with| [Value.slice _ n _]=>n|_=>0) q
       exact this
      rw [q2];simp only [Rows.uptoBulk]
      have:=AA ((List.range len).map D)
      rw [List.length_map,List.length_range]at this;omega
   simp only [Rows.uptoBulk,Rows.uptoBulkAll];omega
theorem CF{spare:Nat->Bool}{held:Bool}{t e:TypeId}{f0 f1:Field}{F:Nat->Prop}{k:IntKind}{u:K.Ty}{x:(K.Ty.C (.I k) (.S u)).val}{q:List TD}{ts:List TypeId}{vs:List Value}{ds:List (DataW H)}{ps:List MemPlace}
  (hu:P.underlying t=some (.struct #[f0,f1])) (h1:P.underlying f1.type=some (.slice e)) (ho:f1.offset=1) (hc:P.cellsOf f1.type=1) (hr:fH w F (K.iG (true,.C (.I k) (.S u)) x::q) vs) (hA:DataW.TrodAll enc P w 0 spare held (t::ts) vs ds ps):x.2.l.length<=Rows.uptoBulkAll ds:=by
 match vs,ds,hA with
 |v::vs,d::ds,hA=>
  obtain⟨p,q',g1,_,_⟩:=hA;obtain⟨y,hy,hq⟩:=hr.2 0 _ rfl;simp only [List.getElem?_cons_zero,zsI]at hy;subst hy;have hq:RepTD w F (.agg [.v (.int k x.1),.s x.2.nn x.2.sz (x.2.l.map u.row)]) v:=hq
  have:=AC hu h1 ho hc hq g1
  rw [List.length_map]at this;simp only [Rows.uptoBulkAll];omega
end
end Ev
end
noncomputable section
namespace Ev
open Go Go.RowKit
def bY(x:Sl (Int)):Option ((Int×(Sl (Int×Int×Int)))×Int×Int):=K.bY x
def FL8:Option (Bool):=K.FL8 ()
def eV(x:Int×(Sl (Int×Int×Int))):Option (Int):=K.eV x
def eW(x:Sl (Int×Int×Int)):Option (Bool):=K.eW x
def gH(x:Int)(y:Int):Option (List (Int)):=K.gH (x,y)
def cz(x:Int):Option (List (Int)):=K.cz x
def ew(x:Int×(Sl (Int×Int×Int))):Option (Sl (Int)×Int):=K.ew x
def cY(x:Int×(Sl (Int×Int×Int)))(y:Int)(z:Sl (Int)):Option (Bool):=K.cY (x,y,z)
end Ev
end
noncomputable section
namespace Ev
open Go Go.RowKit
set_option maxRecDepth 100000
set_option maxHeartbeats 1000000
abbrev yC:=Int×Int×Sl Int×Sl Int×Sl Int×Sl Int
abbrev yM:=Int×Int×Sl Int×Sl Int×Sl Int
abbrev yT:=Int×Int×Int
def fw(x:Int×Sl yT):Int->Option (Int ⊕ PUnit ⊕ Int ⊕ Empty):=λ(x_1:Int)=>if x_1<(↑x.snd.l.length:Int)then(atS 3 x.snd x_1).bind λ(y:Int×Int×Int)=>if y.fst<0 then some (Sum.inr (Sum.inr (Sum.inl 3)))else if y.fst >= x.fst then some (Sum.inr (Sum.inr (Sum.inl 3)))else if y.snd.fst<0 then some (Sum.inr (Sum.inr (Sum.inl 3)))else if y.snd.fst >= x.fst then some (Sum.inr (Sum.inr (Sum.inl 3)))else some (Sum.inl (IntKind.i64.wrap (x_1+1)))else some (Sum.inr (Sum.inl ()))
def fx(x:Int×Sl yT):Int->Option (Int ⊕ PUnit ⊕ Int ⊕ Empty):=λ(x_1:Int)=>if x_1<(↑x.snd.l.length:Int)then(atS 3 x.snd x_1).bind λ(y:Int×Int×Int)=>if y.snd.snd<0 then some (Sum.inr (Sum.inr (Sum.inl 7)))else(atS 3 x.snd x_1).bind λ(y:Int×Int×Int)=>if y.snd.snd>2147483647 then some (Sum.inr (Sum.inr (Sum.inl 7)))else some (Sum.inl (IntKind.i64.wrap (x_1+1)))else some (Sum.inr (Sum.inl ()))
theorem tK(x:Int×Sl yT):eV x=if x.fst<0 then some 3
else if x.fst>4096 then some 5 else if(↑x.snd.l.length:Int)>65536 then some 5 else(bO (fw x) 0).bind λ(y:PUnit ⊕ Int ⊕ Empty)=>Sum.elim (λ(val:PUnit)=>(bO (fx x) 0).bind λ(y:PUnit ⊕ Int ⊕ Empty)=>Sum.elim (λ(val:PUnit)=>some 0) (λ(val:Int ⊕ Empty)=>Sum.elim (λ(val:Int)=>some val) (λ(val:Empty)=>nE val) val) y) (λ(val:Int ⊕ Empty)=>Sum.elim (λ(val:Int)=>some val) (λ(val:Empty)=>nE val) val) y:=by kernel_rfl
def fy(x:Sl yT):Int->Option (Int ⊕ PUnit ⊕ Bool ⊕ Empty):=λ(x_1:Int)=>if x_1<(↑x.l.length:Int)then(atS 3 x (IntKind.i64.wrap (x_1 - 1))).bind λ(y:Int×Int×Int)=>(atS 3 x x_1).bind λ(y_1:Int×Int×Int)=>(cJ y y_1).bind λ(out:Bool)=>if¬out=true then some (Sum.inr (Sum.inr (Sum.inl false)))else some (Sum.inl (IntKind.i64.wrap (x_1+1)))else some (Sum.inr (Sum.inl ()))
theorem tL(x:Sl yT):eW x=(bO (fy x) 1).bind λ(y:PUnit ⊕ Bool ⊕ Empty)=>Sum.elim (λ(val:PUnit)=>some true) (λ(val:Bool ⊕ Empty)=>Sum.elim (λ(val:Bool)=>some val) (λ(val:Empty)=>nE val) val) y:=by kernel_rfl
def gy(y:Int):Int×List Int×Int->Option (Int×List Int×Int ⊕ List Int ⊕ Empty):=λ(x:Int×List Int×Int)=>if x.snd.snd<y then(yX x.fst 256).bind λ(z:Int)=>(app x.snd.fst [IntKind.u8.wrap z]).bind λ(lm:List Int)=>(Jo IntKind.u64 x.fst 256).bind λ(z:Int)=>some (Sum.inl (z,lm,IntKind.i64.wrap (x.snd.snd+1)))else some (Sum.inr (Sum.inl x.snd.fst))
theorem yJ(x:Int)(y:Int):gH x y=(bO (gy y) (x,[],0)).bind λ(y:List Int ⊕ Empty)=>Sum.elim (λ(val:List Int)=>some val) (λ(val:Empty)=>nE val) y:=by kernel_rfl
theorem tM(x:Int):cz x=(gH (IntKind.u64.wrap x) 4).bind λ(out:List Int)=>some out:=by kernel_rfl
def eO(x:Int×Sl yT):Int×Int->Option (Int×Int ⊕ Int ⊕ Empty):=λ(x_1:Int×Int)=>if x_1.snd<(↑x.snd.l.length:Int)then(atS 3 x.snd x_1.snd).bind λ(y:Int×Int×Int)=>if y.snd.snd≠1 then some (Sum.inl (1,IntKind.i64.wrap (x_1.snd+1)))else some (Sum.inl (x_1.fst,IntKind.i64.wrap (x_1.snd+1)))else some (Sum.inr (Sum.inl x_1.fst))
def eP(x:Int×Sl yT)(val:Int):List Int×Int->Option (List Int×Int ⊕ List Int ⊕ Empty):=λ(x_1:List Int×Int)=>if x_1.snd<(↑x.snd.l.length:Int)then(atS 3 x.snd x_1.snd).bind λ(y:Int×Int×Int)=>(cz (IntKind.u32.wrap y.fst)).bind λ(out:List Int)=>(app x_1.fst out).bind λ(lm:List Int)=>(atS 3 x.snd x_1.snd).bind λ(y:Int×Int×Int)=>(cz (IntKind.u32.wrap y.snd.fst)).bind λ(out:List Int)=>(app lm out).bind λ(lm:List Int)=>if val=1 then(atS 3 x.snd x_1.snd).bind λ(y:Int×Int×Int)=>(cz (IntKind.u32.wrap y.snd.snd)).bind λ(out:List Int)=>(app lm out).bind λ(lm:List Int)=>some (Sum.inl (lm,IntKind.i64.wrap (x_1.snd+1)))else some (Sum.inl (lm,IntKind.i64.wrap (x_1.snd+1)))else some (Sum.inr (Sum.inl x_1.fst))
theorem rR(x:Int×Sl yT):ew x=(eV x).bind λ(out:Int)=>if out≠0 then some ({nn:=false,sz:=0,l:= []},out)else(eW x.snd).bind λ(out:Bool)=>if¬out=true then some ({nn:=false,sz:=0,l:= []},6)else(bO (eO x) (0,0)).bind λ(y:Int ⊕ Empty)=>Sum.elim (λ(val:Int)=>(app [70,82,84,49] [val]).bind λ(lm:List Int)=>(cz (IntKind.u32.wrap x.fst)).bind λ(out:List Int)=>(app lm out).bind λ(lm:List Int)=>(cz (IntKind.u32.wrap (↑x.snd.l.length:Int))).bind λ(out:List Int)=>(app lm out).bind λ(lm:List Int)=>(bO (eP x val) (lm,0)).bind λ(y:List Int ⊕ Empty)=>Sum.elim (λ(val:List Int)=>some ({nn:=true,sz:=1,l:=val},0)) (λ(val:Empty)=>nE val) y) (λ(val:Empty)=>nE val) y:=by kernel_rfl
theorem mg(x:Int×Sl yT)(y:Int)(z:Sl Int):cY x y z=(dh x).bind λ(out:Int×Sl yT)=>(ew out).bind λ(out:Sl Int×Int)=>if(↑x.snd.l.length:Int)>100 then FL8.bind λ(out:Bool)=>some (decide (out=true))else if(↑z.l.length:Int)>100 then FL8.bind λ(out:Bool)=>some (decide (out=true))else if out.snd≠0 then FL8.bind λ(out:Bool)=>some (decide (out=true))else(yX (IntKind.i64.wrap y) (↑out.fst.l.length:Int)).bind λ(z_1:Int)=>(Dg 1 out.fst 0 z_1).bind λ(s':Sl Int)=>(bY s').bind λ(out_1:(Int×Sl yT)×Int×Int)=>(app [] out.fst.l).bind λ(lm:List Int)=>(app lm z.l).bind λ(lm:List Int)=>(bY (mo 1 lm)).bind λ(out_2:(Int×Sl yT)×Int×Int)=>FL8.bind λ(out_3:Bool)=>if out_3=true then(yX (IntKind.i64.wrap y) (↑out.fst.l.length:Int)).bind λ(z_2:Int)=>if out_1.snd.fst=2/\out_1.snd.snd=z_2 then if(↑z.l.length:Int)=0 then some true else some (decide (out_2.snd.fst=4/\out_2.snd.snd=(↑out.fst.l.length:Int)))else some false else some false:=by kernel_rfl
end Ev
end
noncomputable section
namespace Ev
section
open Go
def okS{α:Type}(w:Nat)(s:Sl α):Prop:=s.l= []∨s.sz=w
theorem Qx{α:Type}{w:Nat}(l:List α):okS w (mo w l):=by cases l with|nil=>exact .inl rfl|cons x l=>exact .inr rfl
theorem ci{α:Type}{l:List α}{j:Nat}{x:α}(h:l[j]? =some x):atL l (j:Int)=some x:=by
 have hj:=(List.getElem?_eq_some_iff.1 h);rw [Lz hj.1,hj.2]
theorem Ih{A R:Type}{b:A->Option (A ⊕ R)}(n:Nat)(st:Nat->A){r:R}(hs:∀j,j<n->b (st j)=some (.inl (st (j+1))))(he:b (st n)=some (.inr r)):bO b (st 0)=some r:=by
 obtain⟨q,h1,h2⟩:=oV (b:=b) n (λj a=>a=st j) (λq=>q=r) (λj a hj ha=> .inl ⟨st (j+1),by rw [ha];exact hs j hj,rfl⟩) (λa ha=>⟨r,by rw [ha];exact he,rfl⟩) 0 (Nat.zero_le _) (st 0) rfl;rw [h1,h2]
theorem iZ{A R:Type}{b:A->Option (A ⊕ R)}(n:Nat)(st:Nat->A){a:A}(ha:a=st 0){r:R}(hs:∀j,j<n->b (st j)=some (.inl (st (j+1))))(he:b (st n)=some (.inr r)):bO b a=some r:=by rw [ha];exact Ih n st hs he
end
section
open Go
abbrev Mx:=Int×Int×Sl Int×Sl Int×Sl Int
abbrev E3:=Int×Int×Int
end
section
open Go Sm
def bel(a b:E3):Bool:=klt (key a) (key b)
abbrev Mi(l:List E3):Prop:=l.Pairwise λa b=>bel a b=true
def Vg(n:Nat)(f:Nat->Int):List Int:=(List.range (n+1)).map f
def Vh(l:List E3)(k:Nat):Nat:=l.countP λx=>decide (x.1<(k:Int))
end
section
open Go Sm
abbrev RG(r:Int):Rg:=⟨ofW,fS r,cS⟩
theorem CG(n:Int):iR n=some (ofW n):=by
 rw [zU];unfold ofW;by_cases h:n<0
 .simp only [if_pos h]
 .simp only [if_neg h]
theorem qn(a b:Int×Int):∃c:Int,cO a b=some c/\(c<0↔zX a b=true):=by
 obtain⟨a1,a2⟩:=a;obtain⟨b1,b2⟩:=b;rw [pN];unfold zX;simp only;by_cases h2:a1<b1
 .rw [if_pos h2];exact⟨-1,rfl,by simp [h2]⟩
 rw [if_neg h2];by_cases h3:a1=b1
 .rw [if_pos h3];by_cases h4:a2<b2
  .rw [if_pos h4];exact⟨-1,rfl,by simp [h3,h4]⟩
  .rw [if_neg h4];by_cases h5:a1=b1/\a2=b2
   .rw [if_pos h5];exact⟨0,rfl,by simp [h3];omega⟩
   .rw [if_neg h5];exact⟨1,rfl,by simp [h3];omega⟩
 .rw [if_neg h3];by_cases h5:a1=b1/\a2=b2
  .exact absurd h5.1 h3
  .rw [if_neg h5];exact⟨1,rfl,by simp [h3];omega⟩
theorem AD(a b:Int×Int):gC a b=some (Fw a b):=by
 obtain⟨a1,a2⟩:=a;obtain⟨b1,b2⟩:=b;rw [yf];unfold Fw jp;simp only;split<;>rfl
theorem vU(b:Bool):dT b=some (pQ b):=by rw [sQ];unfold pQ;cases b<;>rfl
theorem AE(r:Int)(a b:Int×Int):gD r a b=some (fS r a b):=by
 rw [yg];unfold fS
 have hl:((cO b a).bind λ(out:Int)=>if out<0 then some b else some a)=some (pP a b):=by
  obtain⟨c,h1,h2⟩:=qn b a;rw [h1,zbS];unfold pP;by_cases hc:c<0
  .rw [if_pos hc,if_pos (h2.1 hc)]
  .rw [if_neg hc,if_neg (λh=>hc (h2.2 h))]
 simp only [hl,vU,AD,zbS];by_cases h1:r=1
 .simp [h1]
 by_cases h3:r=3
 .simp [h3]
 by_cases h4:r=4
 .simp [h4]
 simp only [if_neg h1,if_neg h3,if_neg (show¬(r=1∨r=3∨r=4)by omega),decide_eq_false h4,zbS,Sum.elim_inl,Bool.false_eq_true,if_false];by_cases h2:r=2
 .simp only [if_pos h2];by_cases ha:a.1=0/\a.2=0
  .by_cases hb:b.1=0/\b.2=0
   .simp [ha,hb]
   .simp [ha,hb]
  .simp [ha]
 .simp only [if_neg h2];split<;>rfl
theorem tN{a:Int×Int}(h:jN a.2):dn a=some (cS a):=by
 obtain⟨a1,a2⟩:=a;rw [ru];unfold cS ofW;simp only [Oq h,Prod.mk.injEq,and_true];by_cases hn:IntKind.i64.wrap a2<0
 .have hg:¬IntKind.i64.wrap a2 >= 0:=by omega
  simp only [if_pos hn,if_neg hg];by_cases h1:a1=0
  .have:¬a1= -1:=by omega
   simp only [if_pos h1,if_neg this]
  .simp only [if_neg h1];split<;>rfl
 .have hg:IntKind.i64.wrap a2 >= 0:=by omega
  simp only [if_neg hn,if_pos hg];by_cases h1:a1=0
  .simp only [if_pos h1]
  .simp only [if_neg h1];split<;>rfl
theorem CH(r:Int):iQ r=some (iy r):=by
 rw [zT];unfold iy;by_cases h1:r >= 1
 .rw [if_pos h1,decide_eq_true (show 1<=r from h1)];simp
 .rw [if_neg h1,decide_eq_false (show¬1<=r from h1)];rfl
end
section
open Go Sm
theorem iA(a b:E3):cJ a b=some (bel a b):=by
 rw [jY]
 have hb:bel a b=(decide (a.1<b.1)||(decide (a.1=b.1)&& decide (a.2.1<b.2.1))):=by
  unfold bel klt key;rw [Bool.decide_or,Bool.decide_and]
 rw [hb];by_cases h1:a.1<b.1
 .rw [if_pos h1,decide_eq_true h1];rfl
 .rw [if_neg h1,decide_eq_false h1];by_cases h2:a.1=b.1
  .rw [if_pos h2,decide_eq_true h2];rfl
  .rw [if_neg h2,decide_eq_false h2];rfl
def dt{α:Type}(l:List α)(k:Nat)(y:α):List α:=l.take k++y::l.drop k
theorem Ii{α:Type}{l:List α}{k:Nat}(y:α):(dt l k y).length=l.length+1:=by unfold dt;simp;omega
theorem lK{α:Type}{l:List α}{k:Nat}(hk:k<=l.length)(y:α):(dt l k y)[k]? =some y:=by
 unfold dt;rw [List.getElem?_append_right (by rw [List.length_take];omega),List.length_take,Nat.min_eq_left hk,Nat.sub_self];rfl
theorem ja{α:Type}{l:List α}{k:Nat}(hk:k<=l.length)(y x:α):(dt l k y).set k x=dt l k x:=by
 unfold dt;rw [List.set_append_right _ _ (by rw [List.length_take];omega),List.length_take,Nat.min_eq_left hk,Nat.sub_self];rfl
theorem lL{α:Type}(l:List α)(y:α):dt l l.length y=l++ [y]:=by unfold dt;simp
theorem lN{α:Type}{l:List α}{k:Nat}(hk:k+1<=l.length)(y:α):(dt l (k+1) y)[k]? =some l[k]/\dt l (k+1) l[k]=dt l k l[k]:=by
 unfold dt;constructor
 .rw [List.getElem?_append_left (by simp;omega),List.getElem?_take,if_pos (by omega),List.getElem?_eq_getElem]
 .rw [List.take_succ_eq_append_getElem (by omega),List.append_assoc,List.drop_eq_getElem_cons (i:=k) (by omega)];rfl
theorem Ij{α:Type}{l:List α}{k:Nat}{y x:α}(h:x∈dt l k y):x=y∨x∈l:=by
 unfold dt at h;rcases List.mem_append.1 h with h|h
 .exact .inr (List.mem_of_mem_take h)
 .rcases List.mem_cons.1 h with h|h
  .exact .inl h
  .exact .inr (List.mem_of_mem_drop h)
theorem wO{b:Int×List E3×List (Int×Int)->Option ((Int×List E3×List (Int×Int))⊕((List E3×List (Int×Int))⊕ Empty))}{a:Nat}(hb:b=cU (a:Int)∨b=cV (a:Int)){l:List E3}{s:List (Int×Int)}(hl:s.length=l.length)(hn:l.length<=2000000)(ha:a<=l.length)(y:E3)(z:Int×Int):
  ∃y' z',bO b ((l.length:Int),l++ [y],s++ [z])=some (.inl (dt l a y',dt s a z')):=by
 have step:∀(k:Nat) y z,a<k+1->k+1<=l.length->∃y' z',b (((k+1:Nat):Int),dt l (k+1) y,dt s (k+1) z)=some (.inl ((k:Int),dt l k y',dt s k z')):=λk y z h1 hk=>by
  have hks:k+1<=s.length:=by omega
  have e1:=ci (lN hk y).1;have e2:=ci (lK hk y);have e3:=ci (lN hks z).1;have e4:=ci (lK hks z);have hw:IntKind.i64.wrap (((k+1:Nat):Int) - 1)=(k:Int):=by rw [wrap64 (by omega) (by omega)];omega
  have t1:((k+1:Nat):Int).toNat=k+1:=Int.toNat_natCast _;refine⟨l[k],s[k],?_⟩;rw [<-(lN hk y).2,<-(lN hks z).2,<-ja hk y l[k],<-ja hks z s[k]];rcases hb with rfl|rfl
  .simp only [cU,hw,e1,e2,e3,e4,zbS,t1];rw [if_pos (by omega)]
  .simp only [cV,hw,e1,e2,e3,e4,zbS,t1];rw [if_pos (by omega)]
 have stop:∀y z,b ((a:Int),dt l a y,dt s a z)=some (.inr (.inl (dt l a y,dt s a z))):=λy z=>by
  rcases hb with rfl|rfl
  .simp only [cU];rw [if_neg (by omega)]
  .simp only [cV];rw [if_neg (by omega)]
 obtain⟨q,q1,y',z',q2⟩:=oV (b:=b) (l.length - a) (λj st=>∃y z,st=(((l.length - j:Nat):Int),dt l (l.length - j) y,dt s (l.length - j) z)) (λq=>∃y z,q= .inl (dt l a y,dt s a z))
  (by
   rintro j _ hj ⟨y,z,rfl⟩;obtain⟨k,hk⟩:∃k,l.length - j=k+1:=⟨l.length - j - 1,by omega⟩;rw [hk];obtain⟨y',z',e⟩:=step k y z (by omega) (by omega)
   exact .inl ⟨_,e,y',z',by rw [show l.length - (j+1)=k by omega]⟩)
  (by
   rintro _ ⟨y,z,rfl⟩;rw [show l.length - (l.length - a)=a by omega]
   exact⟨_,stop y z,y,z,rfl⟩) 0 (Nat.zero_le _) ((l.length:Int),l++ [y],s++ [z]) ⟨y,z,by rw [Nat.sub_zero,lL,<-hl,lL,hl]⟩
 exact⟨y',z',by rw [q1,q2]⟩
def kz(p:Ky×V):E3:=(p.1.1,p.1.2,0)
def pos(S:List (Ky×V))(e:E3):Nat:=(S.takeWhile λp=>klt p.1 (key e)).length
theorem Ik(S:List (Ky×V))(e:E3):pos S e<=S.length:=(List.takeWhile_sublist _).length_le
theorem tO{p:Ky×V}{S:List (Ky×V)}{e:E3}(hp:klt p.1 (key e)=true):pos (p::S) e=pos S e+1:=by unfold pos;simp [List.takeWhile_cons,hp]
theorem tP{p:Ky×V}{S:List (Ky×V)}{e:E3}(hp:¬klt p.1 (key e)=true):pos (p::S) e=0:=by unfold pos;simp [List.takeWhile_cons,hp]
theorem Il:∀{S:List (Ky×V)} {e:E3} {j:Nat} (hj:j<S.length),j<pos S e->klt S[j].1 (key e)=true
 | [],e,j,hj,h=>by simp at hj
 |p::S,e,j,hj,h=>by
  by_cases hp:klt p.1 (key e)=true
  .rw [tO hp]at h
   cases j with
   |zero=>exact hp
   |succ j=>exact Il (S:=S) (e:=e) (j:=j) (by simpa using hj) (by omega)
  .rw [tP hp]at h;omega
theorem El:∀{S:List (Ky×V)} {e:E3} {j:Nat} (hj:j<S.length),j=pos S e->klt S[j].1 (key e)=false
 | [],e,j,hj,h=>by simp at hj
 |p::S,e,j,hj,h=>by
  by_cases hp:klt p.1 (key e)=true
  .rw [tO hp]at h;subst h;exact El (S:=S) (e:=e) (j:=pos S e) (by simpa using hj) rfl
  .rw [tP hp]at h;subst h;simpa using hp
theorem Im{S:List (Ky×V)}{e:E3}(h:pos S e<S.length):klt (S[pos S e]'h).1 (key e)=false:=El h rfl
theorem yK(R:Rg)(e:E3):∀(S:List (Ky×V)),ins R S e=if h:pos S e<S.length then(if klt (key e) (S[pos S e]'h).1=true then dt S (pos S e) (key e,R.o e.2.2)else S.set (pos S e) ((S[pos S e]'h).1,R.ad (S[pos S e]'h).2 (R.o e.2.2)))else S++ [(key e,R.o e.2.2)]
 | []=>by simp [ins,pos]
 |p::S=>by
  have ih:=yK R e S;unfold ins;by_cases hp:klt p.1 (key e)=true
  .have hpos:pos (p::S) e=pos S e+1:=by unfold pos;simp [List.takeWhile_cons,hp]
   rw [if_pos hp,ih];simp only [hpos,List.length_cons,Nat.add_lt_add_iff_right,List.getElem_cons_succ];split
   .split
    .unfold dt;simp
    .simp
   .simp
  .have hpos:pos (p::S) e=0:=by unfold pos;simp [List.takeWhile_cons,hp]
   rw [if_neg hp];simp only [hpos,List.length_cons,Nat.zero_lt_succ,dif_pos,List.getElem_cons_zero];split
   .unfold dt;simp
   .simp
theorem AF{α β:Type}(f:α->β)(l:List α)(k:Nat)(y:α):(dt l k y).map f=dt (l.map f) k (f y):=by unfold dt;simp
theorem yL(R:Rg)(l:List E3):(fG R l).length<=l.length:=by
 have key:∀(S:List (Ky×V)) e,(ins R S e).length<=S.length+1:=by
  intro S e;rw [yK];split
  .split
   .rw [Ii];omega
   .simp
  .simp
 have:∀(l:List E3) (S:List (Ky×V)),(l.foldl (ins R) S).length<=S.length+l.length:=by
  intro l
  induction l with
  |nil=>intro S;simp
  |cons e l ih=>intro S;have h1:=ih (ins R S e);have h2:=key S e;simp only [List.foldl_cons,List.length_cons];omega
 simpa [fG]using this l []
theorem OO{r:Int}{S:List (Ky×V)}{e:E3}(h:∀p∈S,jN p.2.2):∀p∈ins (RG r) S e,jN p.2.2:=by
 intro p hp;rw [yK]at hp;split at hp
 .rename_i hl;split at hp
  .rcases Ij hp with rfl|hp
   .exact Cl _
   .exact h p hp
  .rcases List.mem_or_eq_of_mem_set hp with hp|rfl
   .exact h p hp
   .exact Cm (h _ (List.getElem_mem hl)) (Cl _)
 .rcases List.mem_append.1 hp with hp|hp
  .exact h p hp
  .simp at hp;subst hp;exact Cl _
theorem OP(r:Int)(l:List E3):∀p∈fG (RG r) l,jN p.2.2:=by
 have:∀(l:List E3) (S:List (Ky×V)),(∀p∈S,jN p.2.2)->∀p∈l.foldl (ins (RG r)) S,jN p.2.2:=by
  intro l
  induction l with
  |nil=>intro S h;exact h
  |cons e l ih=>intro S h;exact ih _ (OO h)
 exact this l [] (by simp)
theorem KR{x:Sl E3}{S:List (Ky×V)}{w:List (Int×Int)}{i:Nat}(hs:okS 3 x)(hi:i<x.l.length)(hn:S.length<=2000000):bO (cT x (S.map kz,w,(i:Int))) 0=some (.inl ((pos S x.l[i]:Nat):Int)):=by
 have ei:=iF hs hi;have hb:∀j (hj:j<S.length),bel (kz S[j]) x.l[i]=klt S[j].1 (key x.l[i]):=λj hj=>rfl;refine iZ (pos S x.l[i]) (λj=>(j:Int)) rfl (λj hj=> ?_) ?_
 .have hjl:j<S.length:=Nat.lt_of_lt_of_le hj (Ik _ _);have ej:atL (S.map kz) (j:Int)=some (kz S[j]):=ci (by simp [hjl]);simp only [cT,ej,ei,zbS,iA,hb j hjl,Il hjl hj,if_true,List.length_map,gY hjl (by omega)];rw [if_pos (by omega)]
 .by_cases hl:pos S x.l[i]<S.length
  .have ej:atL (S.map kz) ((pos S x.l[i]:Nat):Int)=some (kz S[pos S x.l[i]]):=ci (by simp [hl]);simp only [cT,ej,ei,zbS,iA,hb _ hl,Im hl,List.length_map];rw [if_pos (by omega),if_neg (by simp)]
  .simp only [cT,List.length_map];rw [if_neg (by omega)]
theorem yN{r:Int}{x:Sl E3}(hs:okS 3 x)(hn:x.l.length<=1048576):bO (em r x) ([],[],0)=some (.inl ((fG (RG r) x.l).map kz,(fG (RG r) x.l).map (·.2))):=by
 refine iZ x.l.length (λj=>((fG (RG r) (x.l.take j)).map kz,(fG (RG r) (x.l.take j)).map (·.2),(j:Int))) (by simp [fG]) (λj hj=> ?_) ?_
 .have hlen:=yL (RG r) (x.l.take j);have hlj:(x.l.take j).length<=1048576:=by simp;omega
  rw [List.take_succ_eq_append_getElem hj,wD];generalize fG (RG r) (x.l.take j)=S at hlen ⊢;have hf:=KR (S:=S) (w:=S.map (·.2)) hs hj (by omega);have ej:=iF hs hj;have hp:=Ik S x.l[j];have hat:= @Im S x.l[j];have hi:=yK (RG r) x.l[j] S;generalize hA:pos S x.l[j]=a at hf hp hat hi;generalize x.l[j]=e at ej hf hat hi;have ap1:app (S.map kz) [((0:Int),(0:Int),(0:Int))]=some (S.map kz++ [(0,0,0)]):=gX (by simp;unfold ct;omega);have ap2:app (S.map (·.2)) [((0:Int),(0:Int))]=some (S.map (·.2)++ [(0,0)]):=gX (by simp;unfold ct;omega);have hw1:IntKind.i64.wrap ((((S.map kz++ [((0:Int),(0:Int),(0:Int))]).length:Nat):Int) - 1)=((S.map kz).length:Int):=by simp only [List.length_append,List.length_map,List.length_cons,List.length_nil];rw [wrap64 (by omega) (by omega)];omega
  have ta:((a:Nat):Int).toNat=a:=Int.toNat_natCast _;have hl2:(S.map (·.2)).length=(S.map kz).length:=by simp
  have hak:a<=(S.map kz).length:=by simpa using hp
  have has:a<=(S.map (·.2)).length:=by simpa using hp
  obtain⟨y2,z2,sh2⟩:=wO (b:=cU (a:Int)) (.inl rfl) hl2 (by simp;omega) hak (0,0,0) (0,0);obtain⟨y3,z3,sh3⟩:=wO (b:=cV (a:Int)) (.inr rfl) hl2 (by simp;omega) hak (0,0,0) (0,0);have i2:=ci (lK hak y2);have j2:=ci (lK has z2);have i3:=ci (lK hak y3);have j3:=ci (lK has z3);have hne:∀{α:Type} (l:List α) k y,neL (dt l k y)=some ():=λl k y=>Jx (by unfold dt;simp);simp only [em,hf,zbS,Sum.elim_inl,ej,CG,List.length_map];rw [if_pos (by omega)];by_cases hl:a<S.length
  .rw [if_pos (by omega)];have e1:atL (S.map kz) (a:Int)=some (kz S[a]):=ci (by simp [hl]);have e2:atL (S.map (·.2)) (a:Int)=some S[a].2:=ci (by simp [hl]);have hk:bel e (kz S[a])=klt (key e) S[a].1:=rfl;simp only [e1,e2,zbS,iA,hk,AE,ap1,ap2,hw1,sh2,Sum.elim_inl,i2,j2,ta,ja hak,ja has,hne,gY hj (by omega)];rw [dif_pos hl]at hi;by_cases hc:klt (key e) S[a].1=true
   .rw [if_pos hc]at hi;rw [if_neg (by simp [hc]),hi,AF,AF];rfl
   .rw [if_neg hc]at hi;rw [if_pos (by simpa using hc)]
    (try rw [if_neg (show¬S.length=0 by omega)])
    rw [hi,List.map_set,List.map_set]
    have:(S.map kz).set a (kz (S[a].1,(RG r).ad S[a].2 ((RG r).o e.2.2)))=S.map kz:=by
     have hk2:kz (S[a].1,(RG r).ad S[a].2 ((RG r).o e.2.2))=(S.map kz)[a]'(by simpa using hl):=by simp [kz]
     rw [hk2,List.set_getElem_self]
    rw [this]
  .rw [if_neg (by omega)];rw [dif_neg hl]at hi;have hae:a=S.length:=by omega
   simp only [zbS,ap1,ap2,hw1,sh3,Sum.elim_inl,i3,j3,ta,ja hak,ja has,hne,gY hj (by omega)];rw [hi,hae]
   have q1:dt (S.map kz) S.length (e.1,e.2.1,(0:Int))=S.map kz++ [(e.1,e.2.1,0)]:=by
    have:=lL (S.map kz) (e.1,e.2.1,(0:Int));rwa [List.length_map]at this
   have q2:dt (S.map (·.2)) S.length (ofW e.2.2)=S.map (·.2)++ [ofW e.2.2]:=by
    have:=lL (S.map (·.2)) (ofW e.2.2);rwa [List.length_map]at this
   rw [q1,q2];simp [kz,key]
 .simp only [em,List.take_length];rw [if_neg (by omega)]
theorem rS{r:Int}{x:Sl E3}(hs:okS 3 x)(hn:x.l.length<=1048576)(hr:iy r=true):dE r x=some (mo 3 (dQ (RG r) x.l).1,(dQ (RG r) x.l).2):=by
 rw [pO,CH,hr];simp only [zbS,not_true_eq_false,if_false];rw [yN hs hn];simp only [zbS,Sum.elim_inl];have hlen:=yL (RG r) x.l;have hlo:=OP r x.l;unfold dQ;generalize fG (RG r) x.l=S at hlen hlo ⊢
 obtain⟨q,q1,q2⟩:=oV (b:=eo (S.map kz,S.map (·.2))) S.length (λj st=>st=((S.take j).map (toE (RG r))++(S.drop j).map kz,(j:Int))/\∀p∈S.take j,(cS p.2).2=true) (λq=>(S.all (λp=>(cS p.2).2)=true/\q= .inl (S.map (toE (RG r))))∨(S.all (λp=>(cS p.2).2)=false/\q= .inr (.inl ([],12))))
  (by
   rintro j _ hj ⟨rfl,ha⟩;have e2:atL (S.map (·.2)) (j:Int)=some S[j].2:=ci (by simp [hj]);have hln:((S.take j).map (toE (RG r))++(S.drop j).map kz).length=S.length:=by simp;omega
   have e1:atL ((S.take j).map (toE (RG r))++(S.drop j).map kz) (j:Int)=some (kz S[j]):=ci (by
    rw [List.getElem?_append_right (by simp;omega)]
    simp [List.getElem?_drop,show min j S.length=j by omega,hj])
   have hN:dn S[j].2=some (cS S[j].2):=tN (hlo _ (List.getElem_mem hj));simp only [eo,hln,e2,zbS,hN,e1,gY hj (by omega),Int.toNat_natCast];rw [if_pos (by omega)];by_cases hc:(cS S[j].2).2=true
   .rw [if_neg (by simpa using hc)];refine .inl ⟨_,rfl,?_,?_⟩
    .rw [Prod.mk.injEq];refine⟨?_,rfl⟩;rw [List.take_succ_eq_append_getElem hj,List.set_append_right _ _ (by simp;omega)];simp only [List.length_map,List.length_take,show min j S.length=j by omega,Nat.sub_self,List.map_append,List.map_cons,List.map_nil];rw [List.drop_eq_getElem_cons hj,List.map_cons,List.set_cons_zero,List.append_assoc];simp [toE,kz]
    .intro p hp;rw [List.take_succ_eq_append_getElem hj]at hp;rcases List.mem_append.1 hp with hp|hp
     .exact ha p hp
     .simp at hp;subst hp;exact hc
   .rw [if_pos (by simpa using hc)];refine .inr ⟨_,rfl,.inr ⟨?_,rfl⟩⟩;rw [Bool.eq_false_iff];intro hh
    exact hc (List.all_eq_true.1 hh _ (List.getElem_mem hj)))
  (by
   rintro _ ⟨rfl,ha⟩;simp only [eo,List.take_length,List.drop_length,List.map_nil,List.append_nil,List.length_map];rw [List.take_length]at ha;rw [if_neg (by omega)]
   exact⟨_,rfl,.inl ⟨List.all_eq_true.2 ha,rfl⟩⟩) 0 (Nat.zero_le _) (S.map kz,0) ⟨by simp,by simp⟩
 rw [q1];rcases q2 with⟨h,rfl⟩|⟨h,rfl⟩
 .rw [if_pos h];rfl
 .rw [if_neg (by rw [h];simp)];rfl
end
section
open Go Sm
def w64(l:List E3):Prop:=∀x∈l,mX x.1/\mX x.2.1/\mX x.2.2
theorem In{r:Int}{l:List E3}:Mi (dQ (RG r) l).1/\(dQ (RG r) l).1.length<=l.length/\(∀x∈(dQ (RG r) l).1,mX x.2.2/\∃y∈l,y.1=x.1/\y.2.1=x.2.1)/\((dQ (RG r) l).2=0∨dQ (RG r) l=([],12)):=by
 unfold dQ;split
 .refine⟨?_,by rw [List.length_map];exact yL _ _,λx hx=> ?_,.inl rfl⟩
  .show((fG (RG r) l).map (toE (RG r))).Pairwise _;rw [List.pairwise_map];exact(lA (RG r) l).1
  .obtain⟨p,hp,rfl⟩:=List.mem_map.1 hx;refine⟨?_,?_⟩
   .show mX (cS p.2).1;unfold cS;split
    .exact zW _
    .unfold mX;omega
   .obtain⟨e,he,hk⟩:=yc (((lA (RG r) l).2 p.1 p.2).1 hp);have h1:=congrArg Prod.fst hk;have h2:=congrArg Prod.snd hk;exact⟨e,he,h1,h2⟩
 .exact⟨List.Pairwise.nil,Nat.zero_le _,by simp,.inr rfl⟩
def inM(n c:Int)(x:E3):Bool:=decide (0<=x.1/\x.1<n/\0<=x.2.1/\x.2.1<c)
theorem Qy{α:Type}{p:α->Bool}{l:List α}{j:Nat}(hj:j<l.length)(h:p l[j]=false):l.all p=false:=by
 rw [Bool.eq_false_iff];intro ha;rw [List.all_eq_true.1 ha _ (List.getElem_mem hj)]at h;cases h
end
section
open Go Sm
theorem OQ{x:Sl E3}(h:K.W (.S (.C (.I .i64) (.C (.I .i64) (.I .i64)))) x):okS 3 x/\(x.nn=false->x.l= [])/\w64 x.l:=⟨.inr h.1,h.2.1,λy hy=>⟨yh (h.2.2.2 y hy).1,yh (h.2.2.2 y hy).2.1,yh (h.2.2.2 y hy).2.2⟩⟩
end
section
open Go Sm
structure Is(m:Mx)(n c:Int)(l:List E3):Prop where
 hn:0<=n/\n<=4096
 hc:0<=c/\c<=4096
 len:l.length<=65536
 r:Mi l
 p:∀x∈l,(0<=x.1/\x.1<n)/\0<=x.2.1/\x.2.1<c
 v:∀x∈l,mX x.2.2
 e1:m.1=n
 e2:m.2.1=c
 e3:m.2.2.1.l=Vg n.toNat λk=>((Vh l k:Nat):Int)
 e4:m.2.2.2.1.l=l.map (·.2.1)
 e5:m.2.2.2.2.l=l.map (·.2.2)
 o3:okS 1 m.2.2.1
 o4:okS 1 m.2.2.2.1
 o5:okS 1 m.2.2.2.2
section
variable {m : Mx} {n c : Int} {l : List E3}
end
end
section
open Go Sm
end
section
open Go Sm
section
variable {m : Mx} {n c : Int} {l : List E3}
end
end
section
open Go Sm
section
variable {m : Mx}
end
end
section
open Go Sm
abbrev Cx:=Int×Int×Sl Int×Sl Int×Sl Int×Sl Int
section
variable {T : List E3}
end
section
variable {c : Cx} {n k : Int} {T : List E3}
end
section
variable {c : Cx}
end
end
section
open Go Sm
section
variable {m : Mx} {n c : Int} {l : List E3}
end
end
section
open Go Sm
section
variable {m : Mx} {n c : Int} {l : List E3}
end
end
section
open Go Sm
section
variable {c : Cx} {n k : Int} {T : List E3}
theorem getD_some{l:List Int}{i:Nat}{x:Int}(h:l[i]? =some x):l.getD i 0=x:=by rw [List.getD_eq_getElem?_getD,h];rfl
end
end
section
open Go Sm
section
variable {m : Mx} {n k : Int} {l T : List E3} {c : Cx}
end
end
section
open Go Sm
section
variable {m : Mx} {n c : Int} {l : List E3}
end
end
section
open Go Sm
section
variable {m m' : Mx} {n c : Int} {l : List E3}
end
end
section
open Go Sm
section
variable {m : Mx} {n k : Int} {l T : List E3} {c : Cx}
end
end
section
open Go Sm
section
variable {m a : Mx} {n k : Int} {l T : List E3} {c q : Cx}
end
end
section
open Go Sm
abbrev Gr:=Int×Sl E3
theorem AG{l:List E3}(p:E3->Bool)(v:Nat->Int){b:Int->Option (Int ⊕ PUnit ⊕ Int ⊕ Empty)}(h1:∀j:Nat,(h:j<l.length)->b j=some (if p l[j]=true then .inl ((j+1:Nat):Int)else .inr (.inr (.inl (v j)))))(h2:b (l.length:Nat)=some (.inr (.inl ()))):
  (l.all p=true/\bO b 0=some (.inl ()))∨(l.all p=false/\∃j,bO b 0=some (.inr (.inl (v j)))):=by
 obtain⟨q,q1,q2⟩:=oV (b:=b) l.length (λj a=>a=(j:Int)/\(l.take j).all p=true) (λq=>(l.all p=true/\q= .inl ())∨(l.all p=false/\∃j,q= .inr (.inl (v j))))
  (by
   rintro j _ hj ⟨rfl,g⟩;rw [h1 j hj];by_cases hp:p l[j]=true
   .refine .inl ⟨_,by rw [if_pos hp],rfl,?_⟩;rw [List.take_succ_eq_append_getElem hj,List.all_append,g];simp [hp]
   .refine .inr ⟨_,by rw [if_neg hp],.inr ⟨Qy hj (by simpa using hp),j,rfl⟩⟩)
  (by
   rintro _ ⟨rfl,g⟩;rw [List.take_length]at g
   exact⟨_,h2,.inl ⟨g,rfl⟩⟩) 0 (Nat.zero_le _) 0 ⟨rfl,rfl⟩
 rw [q1];rcases q2 with⟨a,rfl⟩|⟨a,j,rfl⟩
 .exact .inl ⟨a,rfl⟩
 .exact .inr ⟨a,j,rfl⟩
def wOk(x:E3):Bool:=decide (0<=x.2.2/\x.2.2<=2147483647)
def gS(g:Gr):Int:=if g.1<0 then 3 else if g.1>4096 then 5 else if g.2.l.length>65536 then 5 else if g.2.l.all (inM g.1 g.1)=true then if g.2.l.all wOk=true then 0 else 7 else 3
section
variable {g : Gr}
theorem Io(hs:okS 3 g.2)(hl:g.2.l.length<=65536)(j:Nat)(hj:j<g.2.l.length):fw g (j:Int)=some (if inM g.1 g.1 g.2.l[j]=true then .inl ((j+1:Nat):Int)else .inr (.inr (.inl 3))):=by
 have e:=iF hs hj;simp only [fw,e,zbS,gY hj (by omega)];rw [if_pos (by omega)];unfold inM;simp only [decide_eq_true_eq];by_cases h1:g.2.l[j].1<0
 .rw [if_pos h1,if_neg (by omega)]
 by_cases h2:g.2.l[j].1 >= g.1
 .rw [if_neg h1,if_pos h2,if_neg (by omega)]
 by_cases h3:g.2.l[j].2.1<0
 .rw [if_neg h1,if_neg h2,if_pos h3,if_neg (by omega)]
 by_cases h4:g.2.l[j].2.1 >= g.1
 .rw [if_neg h1,if_neg h2,if_neg h3,if_pos h4,if_neg (by omega)]
 .rw [if_neg h1,if_neg h2,if_neg h3,if_neg h4,if_pos (by omega)]
theorem OR(hs:okS 3 g.2)(hl:g.2.l.length<=65536)(j:Nat)(hj:j<g.2.l.length):fx g (j:Int)=some (if wOk g.2.l[j]=true then .inl ((j+1:Nat):Int)else .inr (.inr (.inl 7))):=by
 have e:=iF hs hj;simp only [fx,e,zbS,gY hj (by omega)];rw [if_pos (by omega)];unfold wOk;simp only [decide_eq_true_eq];by_cases h1:g.2.l[j].2.2<0
 .rw [if_pos h1,if_neg (by omega)]
 .by_cases h2:g.2.l[j].2.2>2147483647
  .rw [if_neg h1,if_pos h2,if_neg (by omega)]
  .rw [if_neg h1,if_neg h2,if_pos (by omega)]
theorem vV(hs:okS 3 g.2):eV g=some (gS g):=by
 rw [tK];unfold gS;by_cases h1:g.1<0
 .rw [if_pos h1,if_pos h1]
 by_cases h2:g.1>4096
 .rw [if_neg h1,if_pos h2,if_neg h1,if_pos h2]
 by_cases h3:g.2.l.length>65536
 .rw [if_neg h1,if_neg h2,if_pos (by omega),if_neg h1,if_neg h2,if_pos h3]
 rw [if_neg h1,if_neg h2,if_neg (by omega),if_neg h1,if_neg h2,if_neg h3];rcases AG (l:=g.2.l) (inM g.1 g.1) (λ_=>3) (Io hs (by omega)) (by simp only [fw];rw [if_neg (by omega)])with⟨a,q⟩|⟨a,j,q⟩
 .rw [q,if_pos a];simp only [zbS,Sum.elim_inl];rcases AG (l:=g.2.l) wOk (λ_=>7) (OR hs (by omega)) (by simp only [fx];rw [if_neg (by omega)])with⟨a,q⟩|⟨a,j,q⟩
  .rw [q,if_pos a];rfl
  .rw [q,if_neg (by rw [a];simp)];rfl
 .rw [q,if_neg (by rw [a];simp)];rfl
def Ga(g:Gr):List E3:=(dQ (RG 1) g.2.l).1
theorem vW(hs:okS 3 g.2)(h:g.2.l.length<=1048576):dh g=some (g.1,mo 3 (Ga g)):=by
 rw [sR,rS hs h (by decide)];rfl
end
end
section
open Go Sm
section
variable {n : Int} {l : List E3}
end
end
section
open Go Sm
end
section
open Go Sm
end
section
open Go Sm
end
end Ev
end
noncomputable section
namespace Ev
open Go Sm
def bts(x:Int)(k:Nat):List Int:=(List.range k).map λi=>x / 256 ^ i % 256
theorem cF(x:Int)(k:Nat):(bts x k).length=k:=by simp [bts]
theorem OS(x:Int)(k i:Nat)(h:i<k):(bts x k)[i]? =some (x / 256 ^ i % 256):=by simp [bts,h]
theorem Ip(x:Int)(k:Nat):bts x (k+1)=bts x k++ [x / 256 ^ k % 256]:=by simp [bts,List.range_succ]
theorem oE{x:Int}{k:Nat}{y:Int}(h:y∈bts x k):0<=y/\y<=255:=by
 simp only [bts,List.mem_map]at h;obtain⟨i,_,rfl⟩:=h;omega
theorem KU(n:Int):IntKind.u8.wrap n=n % 256:=by
 simp [IntKind.wrap,IntKind.signed,IntKind.bits]
theorem Iq{n:Int}(h:0<=n/\n<4294967296):IntKind.u32.wrap n=n:=by
 have:IntKind.u32.wrap n=n % 4294967296:=by simp [IntKind.wrap,IntKind.signed,IntKind.bits]
 rw [this,Int.emod_eq_of_lt h.1 h.2]
end Ev
end
end Go.Proofs.YtoamaaicfjkmhaaGreat
