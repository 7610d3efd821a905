/- Texts of a claim, joined. -/
import Derived.Test.YtoamaaicfjkmhaaGreatZR14
set_option linter.unusedVariables false
set_option linter.unusedSimpArgs false
namespace Go.Proofs.YtoamaaicfjkmhaaGreat
noncomputable section
open Go.RowKit Go.Sort
theorem EF:∀(es:List (Int×Int×Int)) (j:Nat) {t:Int×Int×Int},es[j]? =some t->(fw es)[j*3]? =some (.int .i64 t.1)/\(fw es)[j*3+1]? =some (.int .i64 t.2.1)/\(fw es)[j*3+2]? =some (.int .i64 t.2.2)
 | [],j,t,h=>by simp at h
 |a::r,0,t,h=>by
  simp only [List.getElem?_cons_zero,zsI]at h;subst h;simp [fw]
 |a::r,j+1,t,h=>by
  simp only [List.getElem?_cons_succ]at h;obtain⟨h1,h2,h3⟩:=EF r j h;have e:fw (a::r)= [.int .i64 a.1,.int .i64 a.2.1,.int .i64 a.2.2]++fw r:=by simp [fw]
  rw [e];refine⟨?_,?_,?_⟩
  .rw [List.getElem?_append_right (by simp;omega)];simpa [show(j+1)*3 - 3=j*3 by omega]using h1
  .rw [List.getElem?_append_right (by simp;omega)];simpa [show(j+1)*3+1 - 3=j*3+1 by omega]using h2
  .rw [List.getElem?_append_right (by simp;omega)];simpa [show(j+1)*3+2 - 3=j*3+2 by omega]using h3
set_option maxRecDepth 100000 in
set_option maxHeartbeats 4000000 in
theorem ut(a:Option Addr)(m c:Nat)(f:Nat->Int)(w:World)(hb:Rd8 w a m f)(hc:m<=c)(hm:m<=100000)(hz:a=none->c=0/\m=0):
  Calls Tryz.prog 22 #[.slice a m c] w λx w'=>∃r cl v e1 e2,x= .returned (.tuple #[.int .i64 r,.int .i64 cl,v,.agg #[.int .i64 e1,.int .i64 e2]])/\ToldM (cn f m) w.heap.size r cl v e1 e2 w'/\Below w.heap.size w w':=by
 obtain⟨i0,hi,hz0,hz1,hz2⟩:=ir ED;obtain⟨O,hO⟩:∃O,O=cn f m:=⟨_,rfl⟩;rw [<-hO];have HO:=Lib.hid hO;clear hO;have B1:=bl1 w (.cells #[.int .i64 0,.int .i64 0] 33);have h5:CellsAt (w.alloc (.cells #[.int .i64 0,.int .i64 0] 33)) w.heap.size 33 #[.int .i64 0,.int .i64 0]:=World.alloc_heap_new w _;have hsz:(w.alloc (.cells #[.int .i64 0,.int .i64 0] 33)).heap.size=w.heap.size+1:=by simp
 have hb0:=hb.grown (ab B1 none) (λ_ _=>by simp);have C0:=Lib.hid (xD a m c f _ hb0 hm hc hz);clear hb hb0
 go_enter Tryz.func22,Tryz.ntmps22
 go_wp2_with fail
 generalize (w.alloc (.cells #[.int .i64 0,.int .i64 0] 33))=W0 at B1 h5 hsz C0 ⊢;refine C0.out.mono ?_;rintro x w1 ⟨R,a',c',rfl,hR1,hb1,hc1,hn1,hz1,hRn,hB1⟩;have S0:StQ w R a' m c' f w1 0 0 0:=⟨hR1,hb1,h5.below hB1,B1.trans (hB1.mono B1.size),by omega,λb e=>(hn1 b e).1,λb e=>by have:=(hn1 b e).2.1;omega,λb e=>(hn1 b e).2.2,hz1,hc1,hm⟩;clear C0 h5 hR1 hb1 hc1 hn1 hz1 hRn hB1 B1 hz hc hm hsz;have M0:=Lib.hid (uq R a' m c' 0 f ⟨#[70,82,77,49]⟩ w1 S0.hR S0.hb S0.n4 S0.hz S0.hc S0.hm)
 go_wp2_with fail
 refine M0.out.mono ?_;rintro x w2 ⟨p1,e1,f1,rfl,s1,hR1,g1⟩;have S1:=S0.call g1 hR1;clear M0 S0 hR1 g1;have N1:=Lib.hid (S1.bounded s1 4096 5 (by decide))
 go_wp2_with fail
 refine N1.out.mono ?_;rintro x w3 ⟨p2,e2,f2,rfl,s2,S2,_⟩;obtain⟨rows,hrw⟩:∃rows,Hid (rows=bg (mR1 f m)):=⟨_,Lib.hid rfl⟩;have rb:=jw (f:=f) (m:=m) (o:=sC f m ⟨#[70,82,77,49]⟩) (most:=4096) (er:=5) S1.hb (by decide);have s2:StR (aI (mR1 f m)) m p2 e2 f2:=s2;have q2:bg (aU (sC f m ⟨#[70,82,77,49]⟩) λp=>aM f m p 4096 5)=rows:=hrw.out.symm;rw [q2]at rb ⊢;clear N1 S1 s1 q2;have N2:=Lib.hid (S2.bounded s2 4096 5 (by decide))
 go_wp2_with fail
 refine N2.out.mono ?_;rintro x w4 ⟨p3,e3,f3,rfl,s3,S3,_⟩;obtain⟨cols,hcl⟩:∃cols,Hid (cols=bg (mR2 f m)):=⟨_,Lib.hid rfl⟩;have cb:=jw (f:=f) (m:=m) (o:=aI (mR1 f m)) (most:=4096) (er:=5) S2.hb (by decide);have s3:StR (aI (mR2 f m)) m p3 e3 f3:=s3;have q3:bg (aU (aI (mR1 f m)) λp=>aM f m p 4096 5)=cols:=hcl.out.symm;rw [q3]at cb ⊢;clear N2 S2 s2 q3;have N3:=Lib.hid (S3.bounded s3 65536 5 (by decide))
 go_wp2_with fail
 refine N3.out.mono ?_;rintro x w8 ⟨p8,e8,f8,rfl,s8,S8,_⟩;obtain⟨K0,hK⟩:∃K0,Hid (K0=bg (mR3 f m)):=⟨_,Lib.hid rfl⟩;have mb:=jw (f:=f) (m:=m) (o:=aI (mR2 f m)) (most:=65536) (er:=5) S3.hb (by decide);have s8:StR (aI (mR3 f m)) m p8 e8 f8:=s8;have q8:bg (aU (aI (mR2 f m)) λp=>aM f m p 65536 5)=K0:=hK.out.symm;rw [q8]at mb ⊢;clear N3 S3 s3 q8;obtain⟨K,rfl⟩:=Int.eq_ofNat_of_zero_le mb.1;obtain⟨T,hT⟩:∃T,T=mRT f m:=⟨_,rfl⟩;have hOT:Hid (O=Pa rows cols m T):=Lib.hid (by rw [HO.out,hrw.out,hcl.out,hT];exact ur f m)
 have hTl:Hid ((e8=0/\T=dv [] (cF f m rows cols (K - 0) 0 (0,0,0) p8))∨(e8≠0/\T= .error (e8,f8))):=Lib.hid (by
  rw [hT];unfold mRT
  cases ho:aI (mR3 f m)with
  |ok q=>
   rw [ho]at s8;obtain⟨_,h1,h2⟩:=s8;exact .inl ⟨h1,by rw [lg,<-hrw.out,<-hcl.out,<-hK.out,Int.toNat_natCast,h2];rfl⟩
  |error er=>
   rw [ho]at s8;obtain⟨_,h1,h2,h3⟩:=s8
   exact .inr ⟨by rw [h1];exact h3,by rw [h1,h2]⟩)
 have p8m:=s8.1;clear s8 hT hrw hcl hK HO;have lB:=S8.hR.lt;have lGa:=S8.n6
 go_wp2_with fail
 go_loopw [10,11] (λv y wr=>∃(i:Nat) (es:List (Int×Int×Int)) (last:Int×Int×Int) (p:Nat) (e fa:Int),y= .int .i64 i/\i<=K/\es.length=i/\StQ w R a' m c' f wr p e fa/\wr.ownsRow w8.heap.size 54 3 v i (fw es)/\(i=0->v= .slice none 0 0)/\p<=m/\w8.heap.size<=wr.heap.size/\(0<i->es[i - 1]? =some last)/\Hid ((e=0/\T=dv es (cF f m rows cols (K - i) i last p))∨(e≠0/\T= .error (e,fa)))) (λ_ y _=>K - (intOf y).toNat)
 case atStart=>
  exact⟨0,[],(0,0,0),p8,e8,f8,rfl,by omega,rfl,S8,World.ownsRow_nil _ _ _ _,λ_=>rfl,p8m,Nat.le_refl _,λh=>by omega,hTl⟩
 case round=>
  obtain⟨i,es,last,p,e,fa,rfl,hik,hlen,S,hrow,hnil,hpm,hsz,hlast,hE⟩:=hrel;clear S8 hTl;obtain⟨bs,cap,rfl⟩:=bQ hrow;have l1:=S.l1;have hb0:w8.heap.size<=wr.heap.size:=hsz;by_cases hlt:i<K
  .have hlt':(i:Int)<(K:Int):=by omega
   have F0:=Lib.hid (ar R _ p e fa wr S.hR);by_cases he:e=0
   .subst he
    have hT1:Hid (T=dv es (cF f m rows cols (K - (i+1)+1) i last p)):=Lib.hid (by
     rcases hE.out with⟨_,h⟩|⟨h,_⟩
     .rw [h,show K - i=K - (i+1)+1 by omega]
     .exact absurd rfl h)
    clear hE
    go_wp2_with fail
    refine F0.out.mono ?_;rintro x v1 ⟨rfl,hB1⟩;have S1:=S.below hB1;have r1:=bH hrow hB1;have z1:=hB1.size;clear F0 S hrow hB1;have A1:=Lib.hid (mq R _ p 0 fa v1 S1.hR)
    go_wp2_with fail
    refine A1.out.mono ?_;rintro x v2 ⟨rfl,hB2⟩;have S2:=S1.below hB2;have r2:=bH r1 hB2;have z2:=hB2.size;clear A1 S1 r1 hB2;have s0:StR (.ok p) m p 0 fa:=⟨hpm,rfl,rfl⟩;have N1:=Lib.hid (S2.bounded s0 (rows - 1) 3 (by decide))
    go_wp2_with fail
    refine N1.out.mono ?_;rintro x v3 ⟨q1,e1',f1',rfl,s1',S3,g3⟩;have r3:=bG r2 g3 lB;have z3:=g3.size;obtain⟨x1,hx1⟩:∃x1,Hid (x1=bg (tA f m p rows)):=⟨_,Lib.hid rfl⟩;have s1':StR (aI (tA f m p rows)) m q1 e1' f1':=s1';have qx:bg (aU (.ok p) λp=>aM f m p (rows - 1) 3)=x1:=hx1.out.symm;rw [qx];have BA:=bl1 v3 (.cells #[.int .i64 x1,.int .i64 0,.int .i64 0] 54)
    have L0:StT2 w R v3.heap.size w8.heap.size a' m c' f (.slice bs i cap) i es (v3.alloc (.cells #[.int .i64 x1,.int .i64 0,.int .i64 0] 54)) q1 e1' f1' #[.int .i64 x1,.int .i64 0,.int .i64 0]:=
     ⟨S3.below BA,World.alloc_heap_new v3 _,bH r3 BA,λk hk=>by have:=(r3.lt k hk).2;omega,lB,by omega,lGa,by simp;omega⟩
    have N2:=Lib.hid (L0.bounded s1' (cols - 1) 3 (by decide));clear N1 S2 r2 s0 S3 g3 r3 qx BA
    go_wp2_with fail
    generalize v3.alloc (.cells #[.int .i64 x1,.int .i64 0,.int .i64 0] 54)=V3 at L0 N2 ⊢;generalize v3.heap.size=E at L0 N2 z3 ⊢;refine N2.out.mono ?_;rintro x v4 ⟨q2,e2',f2',rfl,s2',L1⟩;obtain⟨x2,hx2⟩:∃x2,Hid (x2=bg (tB f m p rows cols)):=⟨_,Lib.hid rfl⟩;have s2':StR (aI (tB f m p rows cols)) m q2 e2' f2':=s2';have qx:bg (aU (aI (tA f m p rows)) λp=>aM f m p (cols - 1) 3)=x2:=hx2.out.symm;rw [qx];have c1:=L1.hE.cell 1;have g1:=L1.hE.frozen 1;have kE:Has v4 E:=L1.hE.lt;have L2:=L1.store 1 (.int .i64 x2);have N3:=Lib.hid (L2.i64 s2');clear N2 L0 L1 qx
    go_wp2_with fail
    generalize v4.setCell {block:=E,off:=1} (Value.int IntKind.i64 x2)=V4 at L2 N3 ⊢;refine N3.out.mono ?_;rintro x v5 ⟨q3,e3',f3',rfl,s3',L3⟩;obtain⟨x3,hx3⟩:∃x3,Hid (x3=bg (tC f m p rows cols)):=⟨_,Lib.hid rfl⟩;have s3':StR (aI (tC f m p rows cols)) m q3 e3' f3':=s3';have qx:bg (aU (aI (tB f m p rows cols)) (qU f m))=x3:=hx3.out.symm;rw [qx];have c2:=L3.hE.cell 2;have g2:=L3.hE.frozen 2;have kE5:Has v5 E:=L3.hE.lt;have L4:=L3.store 2 (.int .i64 x3);have htv:Hid (tV f m p rows cols=(x1,x2,x3)):=Lib.hid (by unfold tV;rw [<-hx1.out,<-hx2.out,<-hx3.out]);clear N3 L2 L3 qx hx1 hx2 hx3 s1' s2' c1 g1 kE;by_cases h0:0<i
    .obtain⟨j,rfl⟩:∃j,i=j+1:=⟨i - 1,by omega⟩;obtain⟨y1,y2,y3⟩:=last;have hl:=hlast (by omega);rw [Nat.add_sub_cancel]at hl;obtain⟨k0,k1,k2⟩:=EF es j hl
     obtain⟨g,hg0⟩:∃g,bs=some ⟨g,0,none⟩:=by
      rcases L4.row.2 with⟨_,h⟩|⟨g,cp,cur,e1,_⟩
      .omega
      .cases e1;exact⟨g,rfl⟩
     subst hg0;obtain⟨bq,hbq⟩:∃bq,Hid (bq=pm (y1,y2,y3) (x1,x2,x3)):=⟨_,Lib.hid rfl⟩;have AH:=Lib.hid (λW=>Gv (y1,y2,y3) (x1,x2,x3) W);rw [<-hbq.out]at AH
     go_wp2_with (refine av 11 (by kernel_rfl) (by kernel_rfl) (Hid.out ?_))
     refine Lib.hid ?_;simp only [List.take_succ_cons,List.take_zero,List.drop_succ_cons,List.drop_zero];generalize v5.setCell {block:=E,off:=2} (Value.int IntKind.i64 x3)=V6 at L4 ⊢;have kg:Has V6 g:=(L4.row.lt g rfl).2;have m0:=(L4.row.cellAt (j*3) (by omega)).trans k0;have m1:=(L4.row.cellAt (j*3+1) (by omega)).trans k1;have m2:=(L4.row.cellAt (j*3+2) (by omega)).trans k2;have d0:=L4.hE.cell 0;have d1:=L4.hE.cell 1;have d2:=L4.hE.cell 2;have kE6:Has V6 E:=L4.hE.lt
     repeat (go_big_quiet_step (first
      |(go_at_call 46;exact Calls.regrown_of (AH.out _))))
     refine wpQuiet_nil ?_;rintro _ ⟨⟨d3,o3⟩,rfl⟩;have BU:=below_regrown V6 d3 o3;have L6:=L4.below BU;clear AH m0 m1 m2 d0 d1 d2 kg kE6 k0 k1 k2 L4 c2 g2 kE5;generalize grow (redrawn V6 d3) o3=U at BU L6 ⊢
     cases bq with
     |true=>
      have tE:gX f m p rows cols (y1,y2,y3) ((j+1:Nat):Int)=match aI (tC f m p rows cols)with| .ok q=> .ok ((x1,x2,x3),q)| .error er=> .error er:=by
       rw [sW,htv.out];rcases iW (aI (tC f m p rows cols))with⟨er,h⟩|⟨q,h⟩
       .rw [h]
       .rw [h];dsimp only;rw [if_neg (λh=>by rw [<-hbq.out]at h;exact absurd h.2 (by simp))]
      have nx:Hid ((e3'=0/\T=dv (es++ [(x1,x2,x3)]) (cF f m rows cols (K - (j+1+1)) (j+1+1) (x1,x2,x3) q3))∨(e3'≠0/\T= .error (e3',f3'))):=Lib.hid (pr hT1.out tE s3');have q3m:=s3'.1;clear hT1 s3' tE;have d0:=L6.hE.cell 0;have d1:=L6.hE.cell 1;have d2:=L6.hE.cell 2;have kE7:Has U E:=L6.hE.lt;have h3c:=bP U (.int .i64 x1) (.int .i64 x2) (.int .i64 x3) 54;have Sx:=L6.S;have rx:=L6.row;have vbx:=rx.lt;have bx:=L6.bs;clear L6
      go_wp2_with (refine wpList_append_own _ rfl _ _ 41 rfl w8.heap.size 54 i0 (.agg #[.int .i64 0,.int .i64 0,.int .i64 0]) 3 24 Tryz.underlying41 hi hz0 hz1 hz2 rfl (by decide) _ _ _ rfl (rx.alloc _) ⟨(U).heap.size,0,none⟩ 1 1 [.int .i64 x1,.int .i64 x2,.int .i64 x3] rfl rfl h3c (by simp [Value.oneCell']) (by unfold maxLen;omega) (by omega) (by simp;omega) ?_;intro v' V7 hown' hgrow _;obtain⟨g',cap',rfl⟩:=ownsRow_succ hown';have hgA:=ae (ab (bl1 U (.cells #[.int .i64 x1,.int .i64 x2,.int .i64 x3] 54)) _) hgrow;clear hgrow h3c)
      refine⟨?_,by simp [intOf];omega⟩;have S9:=Sx.grow hgA (λk hk=>(vbx k hk).1) lB (λb hb=>by have:=lGa b hb;omega);have z9:=hgA.size;exact⟨j+1+1,es++ [(x1,x2,x3)],(x1,x2,x3),q3,e3',f3',by simp,by omega,by simp [hlen],S9,by rw [eA];exact hown',λh=>by omega,q3m,by omega,λ_=>by rw [Nat.add_sub_cancel,<-hlen];simp,nx⟩
     |false=>
      by_cases he3:e3'=0
      .subst he3
       have tE:gX f m p rows cols (y1,y2,y3) ((j+1:Nat):Int)=match(Except.error (6,(p:Int)):Except (Int×Int) Nat)with| .ok q=> .ok ((x1,x2,x3),q)| .error er=> .error er:=by
        rw [sW,htv.out];rcases iW (aI (tC f m p rows cols))with⟨er,h⟩|⟨q,h⟩
        .rw [h]at s3';obtain⟨_,h1,_,h3⟩:=s3';exact absurd h1.symm h3
        .rw [h];dsimp only;rw [if_pos ⟨by omega,hbq.out.symm⟩]
       have q3m:=s3'.1;have s6:StR (.error (6,(p:Int))) m q3 6 p:=⟨q3m,rfl,rfl,show(6:Int)≠0 by decide⟩;have nx:Hid (((6:Int)=0/\T=dv (es++ [(x1,x2,x3)]) (cF f m rows cols (K - (j+1+1)) (j+1+1) (x1,x2,x3) q3))∨((6:Int)≠0/\T= .error (6,(p:Int)))):=Lib.hid (pr (o:= .error (6,(p:Int))) hT1.out tE s6);have FL:=Lib.hid (fy R _ q3 f3' 6 p U L6.S.hR (by decide));clear hT1 s3' tE s6
       go_wp2_with fail
       refine FL.out.mono ?_;rintro x W7 ⟨rfl,hR7,g7⟩;have L7:=L6.call g7 (L6.S.call g7 hR7);clear FL L6 hR7;have d0:=L7.hE.cell 0;have d1:=L7.hE.cell 1;have d2:=L7.hE.cell 2;have kE7:Has W7 E:=L7.hE.lt;have h3c:=bP W7 (.int .i64 x1) (.int .i64 x2) (.int .i64 x3) 54;have Sx:=L7.S;have rx:=L7.row;have vbx:=rx.lt;have bx:=L7.bs;clear L7
       go_wp2_with (refine wpList_append_own _ rfl _ _ 41 rfl w8.heap.size 54 i0 (.agg #[.int .i64 0,.int .i64 0,.int .i64 0]) 3 24 Tryz.underlying41 hi hz0 hz1 hz2 rfl (by decide) _ _ _ rfl (rx.alloc _) ⟨(W7).heap.size,0,none⟩ 1 1 [.int .i64 x1,.int .i64 x2,.int .i64 x3] rfl rfl h3c (by simp [Value.oneCell']) (by unfold maxLen;omega) (by omega) (by simp;omega) ?_;intro v' V7 hown' hgrow _;obtain⟨g',cap',rfl⟩:=ownsRow_succ hown';have hgA:=ae (ab (bl1 W7 (.cells #[.int .i64 x1,.int .i64 x2,.int .i64 x3] 54)) _) hgrow;clear hgrow h3c)
       refine⟨?_,by simp [intOf];omega⟩;have S9:=Sx.grow hgA (λk hk=>(vbx k hk).1) lB (λb hb=>by have:=lGa b hb;omega);have z9:=hgA.size;exact⟨j+1+1,es++ [(x1,x2,x3)],(x1,x2,x3),q3,6,p,by simp,by omega,by simp [hlen],S9,by rw [eA];exact hown',λh=>by omega,q3m,by omega,λ_=>by rw [Nat.add_sub_cancel,<-hlen];simp,nx⟩
      .have FL:=Lib.hid (Gs R _ q3 e3' f3' 6 p U L6.S.hR (λh=>he3 h.1))
       have tE:gX f m p rows cols (y1,y2,y3) ((j+1:Nat):Int)=match aI (tC f m p rows cols)with| .ok q=> .ok ((x1,x2,x3),q)| .error er=> .error er:=by
        rw [sW,htv.out];rcases iW (aI (tC f m p rows cols))with⟨er,h⟩|⟨q,h⟩
        .rw [h]
        .rw [h]at s3';exact absurd s3'.2.1 he3
       have nx:Hid ((e3'=0/\T=dv (es++ [(x1,x2,x3)]) (cF f m rows cols (K - (j+1+1)) (j+1+1) (x1,x2,x3) q3))∨(e3'≠0/\T= .error (e3',f3'))):=Lib.hid (pr hT1.out tE s3');have q3m:=s3'.1;clear hT1 s3' tE he3
       go_wp2_with fail
       refine FL.out.mono ?_;rintro x W7 ⟨rfl,g7⟩;have L7:=L6.below g7;clear FL L6;have d0:=L7.hE.cell 0;have d1:=L7.hE.cell 1;have d2:=L7.hE.cell 2;have kE7:Has W7 E:=L7.hE.lt;have h3c:=bP W7 (.int .i64 x1) (.int .i64 x2) (.int .i64 x3) 54;have Sx:=L7.S;have rx:=L7.row;have vbx:=rx.lt;have bx:=L7.bs;clear L7
       go_wp2_with (refine wpList_append_own _ rfl _ _ 41 rfl w8.heap.size 54 i0 (.agg #[.int .i64 0,.int .i64 0,.int .i64 0]) 3 24 Tryz.underlying41 hi hz0 hz1 hz2 rfl (by decide) _ _ _ rfl (rx.alloc _) ⟨(W7).heap.size,0,none⟩ 1 1 [.int .i64 x1,.int .i64 x2,.int .i64 x3] rfl rfl h3c (by simp [Value.oneCell']) (by unfold maxLen;omega) (by omega) (by simp;omega) ?_;intro v' V7 hown' hgrow _;obtain⟨g',cap',rfl⟩:=ownsRow_succ hown';have hgA:=ae (ab (bl1 W7 (.cells #[.int .i64 x1,.int .i64 x2,.int .i64 x3] 54)) _) hgrow;clear hgrow h3c)
       refine⟨?_,by simp [intOf];omega⟩;have S9:=Sx.grow hgA (λk hk=>(vbx k hk).1) lB (λb hb=>by have:=lGa b hb;omega);have z9:=hgA.size;exact⟨j+1+1,es++ [(x1,x2,x3)],(x1,x2,x3),q3,e3',f3',by simp,by omega,by simp [hlen],S9,by rw [eA];exact hown',λh=>by omega,q3m,by omega,λ_=>by rw [Nat.add_sub_cancel,<-hlen];simp,nx⟩
    .have hi0:Hid (i=0):=Lib.hid (by omega);have b1:decide ((0:Int)<(i:Int))=false:=decide_eq_false (by omega);have b2:decide (0<i)=false:=decide_eq_false h0;clear h0
     go_wp2_with (refine av 11 (by kernel_rfl) (by kernel_rfl) (Hid.out ?_))
     refine Lib.hid ?_;simp only [List.take_succ_cons,List.take_zero,List.drop_succ_cons,List.drop_zero];generalize v5.setCell {block:=E,off:=2} (Value.int IntKind.i64 x3)=V6 at L4 ⊢
     repeat (go_big_quiet_step (fail))
     refine wpQuiet_nil ?_;rintro _ ⟨⟨d3,o3⟩,rfl⟩;have BU:=below_regrown V6 d3 o3;have L6:=L4.below BU;clear L4 c2 g2 kE5;generalize grow (redrawn V6 d3) o3=U at BU L6 ⊢
     have tE:gX f m p rows cols last ((i:Nat):Int)=match aI (tC f m p rows cols)with| .ok q=> .ok ((x1,x2,x3),q)| .error er=> .error er:=by
      rw [sW,htv.out];rcases iW (aI (tC f m p rows cols))with⟨er,h⟩|⟨q,h⟩
      .rw [h]
      .rw [h];dsimp only;rw [if_neg (λh=>by have:=h.1;have:=hi0.out;omega)]
     have nx:Hid ((e3'=0/\T=dv (es++ [(x1,x2,x3)]) (cF f m rows cols (K - (i+1)) (i+1) (x1,x2,x3) q3))∨(e3'≠0/\T= .error (e3',f3'))):=Lib.hid (pr hT1.out tE s3');have q3m:=s3'.1;clear hT1 s3' tE;have d0:=L6.hE.cell 0;have d1:=L6.hE.cell 1;have d2:=L6.hE.cell 2;have kE7:Has U E:=L6.hE.lt;have h3c:=bP U (.int .i64 x1) (.int .i64 x2) (.int .i64 x3) 54;have Sx:=L6.S;have rx:=L6.row;have vbx:=rx.lt;have bx:=L6.bs;clear L6
     go_wp2_with (refine wpList_append_own _ rfl _ _ 41 rfl w8.heap.size 54 i0 (.agg #[.int .i64 0,.int .i64 0,.int .i64 0]) 3 24 Tryz.underlying41 hi hz0 hz1 hz2 rfl (by decide) _ _ _ rfl (rx.alloc _) ⟨(U).heap.size,0,none⟩ 1 1 [.int .i64 x1,.int .i64 x2,.int .i64 x3] rfl rfl h3c (by simp [Value.oneCell']) (by unfold maxLen;omega) (by omega) (by simp;omega) ?_;intro v' V7 hown' hgrow _;obtain⟨g',cap',rfl⟩:=ownsRow_succ hown';have hgA:=ae (ab (bl1 U (.cells #[.int .i64 x1,.int .i64 x2,.int .i64 x3] 54)) _) hgrow;clear hgrow h3c)
     refine⟨?_,by simp [intOf];omega⟩;have S9:=Sx.grow hgA (λk hk=>(vbx k hk).1) lB (λb hb=>by have:=lGa b hb;omega);have z9:=hgA.size;exact⟨i+1,es++ [(x1,x2,x3)],(x1,x2,x3),q3,e3',f3',by simp,by omega,by simp [hlen],S9,by rw [eA];exact hown',λh=>by omega,q3m,by omega,λ_=>by rw [Nat.add_sub_cancel,<-hlen];simp,nx⟩
   .have hOf:Hid (O= .error (e,fa)):=Lib.hid (by
     rcases hE.out with⟨h,_⟩|⟨_,h⟩
     .exact absurd h he
     .rw [hOT.out,h];rfl)
    clear hE hrow
    go_wp2_with fail
    refine F0.out.mono ?_;rintro x w9 ⟨rfl,hB9⟩;have S9:=S.below hB9;clear F0 S hB9;have FA:=Lib.hid (ar R _ p e fa w9 S9.hR)
    go_wp2_with fail
    refine FA.out.mono ?_;rintro x wa ⟨rfl,hBa⟩;have Sa:=S9.below hBa;clear FA S9 hBa;have FB:=Lib.hid (ar R _ p e fa wa Sa.hR)
    go_wp2_with fail
    refine FB.out.mono ?_;rintro x wb ⟨rfl,hBb⟩;have Sb:=Sa.below hBb;clear FB Sa hBb;have FC:=Lib.hid (ar R _ p e fa wb Sb.hR)
    go_wp2_with fail
    refine FC.out.mono ?_;rintro x wc ⟨rfl,hBc⟩;have Sc:=Sb.below hBc;clear FC Sb hBc;have l1:=Sc.l1;have f0:=Sc.r5.cell 0;have ff0:=Sc.r5.frozen 0;have F1:=Sc.r5.set 0 (.int .i64 e);have f1:=F1.cell 1;have ff1:=F1.frozen 1;have F2:=Lib.hid (F1.set 1 (.int .i64 fa));have Z:=Lib.hid ((Sc.bl.setCell (p:=⟨w.heap.size,0,none⟩) (Nat.le_refl _) (.int .i64 e)).setCell (p:=⟨w.heap.size,1,none⟩) (Nat.le_refl _) (.int .i64 fa));clear F1 Sc;have hOe:=hOf.out;clear hOf hOT;subst hOe
    go_wp2_with fail
    (try simp only [Exit.inBlock,Exit.then])
    refine bodyPost_ret (v:= .tuple #[.int .i64 0,.int .i64 0,.slice none 0 0,.agg #[.int .i64 e,.int .i64 fa]]) ?_ rfl ⟨_,_,_,_,_,rfl,⟨rfl,rfl,rfl,rfl,rfl⟩,Z.out⟩;have hr:=run_loadVar_row _ w.heap.size 33 33 _ _ _ F2.out Tryz.underlying33 rfl (by kernel_rfl);simp [results,Tryz.results22,asAddr,hr]
  .obtain rfl:i=K:=by omega
   by_cases he:e=0
   .subst hlen
    have hTe:T= .ok (es,p):=by
     rcases hE.out with⟨_,h⟩|⟨h,_⟩
     .rw [h,Nat.sub_self];simp [cF,dv]
     .exact absurd he h
    subst he;clear hE;have FA:=Lib.hid (ar R _ p 0 fa wr S.hR)
    go_wp2_with fail
    refine FA.out.mono ?_;rintro x wa ⟨rfl,hBa⟩;have Sa:=S.below hBa;have ra:=bH hrow hBa;have za:=hBa.size;clear FA S hBa hrow;by_cases hq:p=m
    .have hOf:Hid (O= .ok (rows,cols,es)):=Lib.hid (by rw [hOT.out,hTe];show(if p=m then _ else _)=_;rw [if_pos hq]);have EN:=Lib.hid (mr R a' m c' p fa wa Sa.hR true (by simp [hq]));clear hq
     go_wp2_with fail
     refine EN.out.mono ?_;rintro x wb ⟨rfl,hBb⟩;have Sb:=Sa.below hBb;have rb:=bH ra hBb;have zb:=hBb.size;clear EN Sa hBb ra;have FC:=Lib.hid (ar R _ p 0 fa wb Sb.hR)
     go_wp2_with fail
     refine FC.out.mono ?_;rintro x wc ⟨rfl,hBc⟩;have Sc:=Sb.below hBc;have rc:=bH rb hBc;have zc:=hBc.size;clear FC Sb hBc rb;have l1:=Sc.l1;have f0:=Sc.r5.cell 0;have ff0:=Sc.r5.frozen 0;have F1:=Sc.r5.set 0 (.int .i64 0);have f1:=F1.cell 1;have ff1:=F1.frozen 1;have F2:=Lib.hid (F1.set 1 (.int .i64 0));have Z:=Lib.hid ((Sc.bl.setCell (p:=⟨w.heap.size,0,none⟩) (Nat.le_refl _) (.int .i64 0)).setCell (p:=⟨w.heap.size,1,none⟩) (Nat.le_refl _) (.int .i64 0));have hL:w.heap.size<w8.heap.size:=by omega
     have RR:=Lib.hid (bG (bG rc (af wc w.heap.size 0 (.int .i64 0)) hL) (af _ w.heap.size 1 (.int .i64 0)) hL);clear F1 Sc;have hOe:=hOf.out;clear hOf hOT;subst hOe
     go_wp2_with fail
     (try simp only [Exit.inBlock,Exit.then])
     refine bodyPost_ret (v:= .tuple #[.int .i64 rows,.int .i64 cols,.slice bs es.length cap,.agg #[.int .i64 0,.int .i64 0]]) ?_ rfl ⟨_,_,_,_,_,rfl,⟨rfl,rfl,rfl,rfl,w8.heap.size,hL,RR.out,λh=>hnil (by rw [h];rfl)⟩,Z.out⟩;have hr:=run_loadVar_row _ w.heap.size 33 33 _ _ _ F2.out Tryz.underlying33 rfl (by kernel_rfl);simp [results,Tryz.results22,asAddr,hr]
    .have hOf:Hid (O= .error (4,(p:Int))):=Lib.hid (by rw [hOT.out,hTe];show(if p=m then _ else _)=_;rw [if_neg hq]);have EN:=Lib.hid (mr R a' m c' p fa wa Sa.hR false (by simp [hq]));clear hq
     go_wp2_with fail
     refine EN.out.mono ?_;rintro x wb ⟨rfl,hBb⟩;have Sb:=Sa.below hBb;clear EN Sa hBb ra;have AT:=Lib.hid (mq R _ p 0 fa wb Sb.hR)
     go_wp2_with fail
     refine AT.out.mono ?_;rintro x wc ⟨rfl,hBc⟩;have Sc:=Sb.below hBc;clear AT Sb hBc;have FL:=Lib.hid (fy R _ p fa 4 p wc Sc.hR (by decide))
     go_wp2_with fail
     refine FL.out.mono ?_;rintro x wd ⟨rfl,hRd,gd⟩;have Sd:=Sc.call gd hRd;clear FL Sc hRd gd;have FB:=Lib.hid (ar R _ p 4 p wd Sd.hR)
     go_wp2_with fail
     refine FB.out.mono ?_;rintro x we ⟨rfl,hBe⟩;have Se:=Sd.below hBe;clear FB Sd hBe;have FC:=Lib.hid (ar R _ p 4 p we Se.hR)
     go_wp2_with fail
     refine FC.out.mono ?_;rintro x wf ⟨rfl,hBf⟩;have Sc:=Se.below hBf;clear FC Se hBf;have l1:=Sc.l1;have f0:=Sc.r5.cell 0;have ff0:=Sc.r5.frozen 0;have F1:=Sc.r5.set 0 (.int .i64 4);have f1:=F1.cell 1;have ff1:=F1.frozen 1;have F2:=Lib.hid (F1.set 1 (.int .i64 p));have Z:=Lib.hid ((Sc.bl.setCell (p:=⟨w.heap.size,0,none⟩) (Nat.le_refl _) (.int .i64 4)).setCell (p:=⟨w.heap.size,1,none⟩) (Nat.le_refl _) (.int .i64 p));clear F1 Sc;have hOe:=hOf.out;clear hOf hOT;subst hOe
     go_wp2_with fail
     (try simp only [Exit.inBlock,Exit.then])
     refine bodyPost_ret (v:= .tuple #[.int .i64 0,.int .i64 0,.slice none 0 0,.agg #[.int .i64 4,.int .i64 p]]) ?_ rfl ⟨_,_,_,_,_,rfl,⟨rfl,rfl,rfl,rfl,rfl⟩,Z.out⟩;have hr:=run_loadVar_row _ w.heap.size 33 33 _ _ _ F2.out Tryz.underlying33 rfl (by kernel_rfl);simp [results,Tryz.results22,asAddr,hr]
   .have hOf:Hid (O= .error (e,fa)):=Lib.hid (by
     rcases hE.out with⟨h,_⟩|⟨_,h⟩
     .exact absurd h he
     .rw [hOT.out,h];rfl)
    clear hE hrow;have FA:=Lib.hid (ar R _ p e fa wr S.hR)
    go_wp2_with fail
    refine FA.out.mono ?_;rintro x wa ⟨rfl,hBa⟩;have Sa:=S.below hBa;clear FA S hBa;have FB:=Lib.hid (ar R _ p e fa wa Sa.hR)
    go_wp2_with fail
    refine FB.out.mono ?_;rintro x wb ⟨rfl,hBb⟩;have Sb:=Sa.below hBb;clear FB Sa hBb;have FC:=Lib.hid (ar R _ p e fa wb Sb.hR)
    go_wp2_with fail
    refine FC.out.mono ?_;rintro x wc ⟨rfl,hBc⟩;have Sc:=Sb.below hBc;clear FC Sb hBc;have l1:=Sc.l1;have f0:=Sc.r5.cell 0;have ff0:=Sc.r5.frozen 0;have F1:=Sc.r5.set 0 (.int .i64 e);have f1:=F1.cell 1;have ff1:=F1.frozen 1;have F2:=Lib.hid (F1.set 1 (.int .i64 fa));have Z:=Lib.hid ((Sc.bl.setCell (p:=⟨w.heap.size,0,none⟩) (Nat.le_refl _) (.int .i64 e)).setCell (p:=⟨w.heap.size,1,none⟩) (Nat.le_refl _) (.int .i64 fa));clear F1 Sc;have hOe:=hOf.out;clear hOf hOT;subst hOe
    go_wp2_with fail
    (try simp only [Exit.inBlock,Exit.then])
    refine bodyPost_ret (v:= .tuple #[.int .i64 0,.int .i64 0,.slice none 0 0,.agg #[.int .i64 e,.int .i64 fa]]) ?_ rfl ⟨_,_,_,_,_,rfl,⟨rfl,rfl,rfl,rfl,rfl⟩,Z.out⟩;have hr:=run_loadVar_row _ w.heap.size 33 33 _ _ _ F2.out Tryz.underlying33 rfl (by kernel_rfl);simp [results,Tryz.results22,asAddr,hr]
end
noncomputable section
open Go.RowKit Go.Sort
namespace Sm
namespace Rm
open Ev Be
abbrev ety:K.Ty:=Eg.ety
abbrev Ft:K.Ty:= .C (.I .i64) (.I .i64)
abbrev ins:List K.TyD:= [(false,By)]
abbrev outs:List K.TyD:= [(false,.I .i64),(false,.I .i64),(false,.S ety),(true,Ft)]
def fn(x:Sl Int):Option (Int×Int×Sl (Int×Int×Int)×(Int×Int)):=Dm.fn x
theorem pure_ok(a:K.aR ins)(o:K.aR outs)(h:fn a=some o):dV Tryz.prog 22 (K.ci ins a) .fresh (K.ci outs o):=by
 obtain⟨x,rfl⟩:∃x:Sl Int,x=a:=⟨_,rfl⟩;unfold fn Dm.fn at h;rw [Option.ite_none_right_eq_some]at h;obtain⟨hx,h⟩:=h;intro w F ys hL hF hr;obtain⟨hlen,hi⟩:=hr
 match ys,hlen with
 | [y0],_=>
  obtain⟨z,e1,e2⟩:=hi 0 _ rfl;simp only [List.getElem?_cons_zero,zsI]at e1;subst e1
  have r1:RepT w F (Sl.t (K.Ty.row (.I .u8)) x) y0:=by cases e2 with|one t y h=>exact h
  obtain⟨a1,c1,rfl,g1,g2,_,g4⟩:=mm hx r1;have hz:a1=none->c1=0/\x.l.length=0:=λh=>⟨g4 h,by have:=g4 h;omega⟩;refine(ut a1 x.l.length c1 (gf x) w g1 g2 (pk hx) hz).mono λe w' h2=> ?_;obtain⟨r,cl,v,f1,f2,rfl,hT,hB⟩:=h2;unfold ToldM at hT;split at hT
  .rename_i rows cols l hd;rw [hd]at h;cases h;obtain⟨rfl,rfl,rfl,rfl,base,hb,hrow,hnil⟩:=hT;exact⟨_,rfl,Dm.rep_four (Dm.rep_row hrow hnil (λb hb2=>by have:=hb2.1;omega)),λhk=>(by cases hk),hB⟩
  .rename_i er hd;rw [hd]at h;cases h;obtain⟨rfl,rfl,rfl,rfl,rfl⟩:=hT;exact⟨_,rfl,Dm.rep_four (Eg.nil_rep _ _),λhk=>(by cases hk),hB⟩
theorem enters:Ev.Enters Tryz.prog 22:=⟨_,_,Tryz.func22,by kernel_rfl,by unfold Tryz.f22;rfl⟩
end Rm
end Sm
end
noncomputable section
namespace Ev
namespace K
open Go Go.RowKit
set_option maxRecDepth 100000
set_option maxHeartbeats 1000000
def Mq:Ax:=(aF (aF (aF (aF (aF (aF (λ_=>none) 96 (mc Sm.Eg.ins .fresh Sm.Eg.outs Sm.Eg.fn)) 42 (mc Sm.Be.ins .fresh Sm.Be.outs Sm.Be.fn)) 12 (mc Sm.Dc.ins .fresh Sm.Dc.outs Sm.Dc.fn)) 21 (mc Sm.Dm.ins .fresh Sm.Dm.outs Sm.Dm.fn)) 13 (mc Sm.Rd.ins .fresh Sm.Rd.outs Sm.Rd.fn)) 22 (mc Sm.Rm.ins .fresh Sm.Rm.outs Sm.Rm.fn))
theorem ID:BE Tryz.prog Mq:=(aj (aj (aj (aj (aj (aj (xM _) (mG Sm.Eg.enters Sm.Eg.pure_ok)) (mG Sm.Be.enters Sm.Be.pure_ok)) (mG Sm.Dc.enters Sm.Dc.pure_ok)) (mG Sm.Dm.enters Sm.Dm.pure_ok)) (mG Sm.Rd.enters Sm.Rd.pure_ok)) (mG Sm.Rm.enters Sm.Rm.pure_ok))
def IE:Ax:=(aF (aF (aF (aF (aF (aF (aF (aF (aF (aF (aF (aF (aF (aF (aF (aF (aF (aF (aF (aF (aF (aF (aF (aF (aF (aF (aF (aF (aF (aF (aF (aF (aF (aF Mq 31 ay) 48 ay) 52 ay) 53 ay) 55 ay) 60 ay) 68 ay) 69 ay) 77 ay) 78 ay) 79 ay) 85 ay) 93 ay) 97 ay) 103 ay) 104 ay) 106 ay) 113 ay) 114 ay) 115 ay) 116 ay) 121 ay) 124 ay) 125 ay) 126 ay) 127 ay) 128 ay) 129 ay) 130 ay) 131 ay) 134 ay) 137 ay) 138 ay) 139 ay)
theorem AW:BE Tryz.prog IE:=(aj (aj (aj (aj (aj (aj (aj (aj (aj (aj (aj (aj (aj (aj (aj (aj (aj (aj (aj (aj (aj (aj (aj (aj (aj (aj (aj (aj (aj (aj (aj (aj (aj (aj ID λvs kind rs h=>by simp [ay]at h) λvs kind rs h=>by simp [ay]at h) λvs kind rs h=>by simp [ay]at h) λvs kind rs h=>by simp [ay]at h) λvs kind rs h=>by simp [ay]at h) λvs kind rs h=>by simp [ay]at h) λvs kind rs h=>by simp [ay]at h) λvs kind rs h=>by simp [ay]at h) λvs kind rs h=>by simp [ay]at h) λvs kind rs h=>by simp [ay]at h) λvs kind rs h=>by simp [ay]at h) λvs kind rs h=>by simp [ay]at h) λvs kind rs h=>by simp [ay]at h) λvs kind rs h=>by simp [ay]at h) λvs kind rs h=>by simp [ay]at h) λvs kind rs h=>by simp [ay]at h) λvs kind rs h=>by simp [ay]at h) λvs kind rs h=>by simp [ay]at h) λvs kind rs h=>by simp [ay]at h) λvs kind rs h=>by simp [ay]at h) λvs kind rs h=>by simp [ay]at h) λvs kind rs h=>by simp [ay]at h) λvs kind rs h=>by simp [ay]at h) λvs kind rs h=>by simp [ay]at h) λvs kind rs h=>by simp [ay]at h) λvs kind rs h=>by simp [ay]at h) λvs kind rs h=>by simp [ay]at h) λvs kind rs h=>by simp [ay]at h) λvs kind rs h=>by simp [ay]at h) λvs kind rs h=>by simp [ay]at h) λvs kind rs h=>by simp [ay]at h) λvs kind rs h=>by simp [ay]at h) λvs kind rs h=>by simp [ay]at h) λvs kind rs h=>by simp [ay]at h)
def E0:Env:=BD Tryz.prog IE
theorem Qx:E0.Ok:=uT DY DZ AW
def EG:List TD->Option (Kind×List TD)
 | []=>some (.fresh,[.one (.v (.bool true))])
 |_=>none
theorem Ld{k:FuncId}(h:(cS E0 300 60).1 k []=some (.fresh,[.one (.v (.bool true))])):∀vs kind rs,EG vs=some (kind,rs)->dV Tryz.prog k vs kind rs/\Ev.Enters Tryz.prog k:=λvs kind rs hf=>by
 unfold EG at hf;split at hf
 .simp only [zsI,Prod.mk.injEq]at hf;obtain⟨rfl,rfl⟩:=hf;exact(uP Qx 300 60).1 _ _ _ _ h
 .simp at hf
theorem Qy:(cS E0 300 60).1 8 []=some (.fresh,[.one (.v (.bool true))]):=by kernel_rfl
def E1:Env:=BD Tryz.prog (aF IE 8 EG)
theorem gh:E1.Ok:=uT DY DZ (aj AW (Ld Qy))
def FL8:aR []->Option Bool:=λ_=>some true
def Mr:aV:=⟨8,[],.data true [(false,.B)],FL8,1⟩
theorem Pb:aC E1 Mr:=λm a out h=>by
 obtain rfl:=Option.some.inj h;exact BF (F:=EG) rfl rfl
def be:aR Sm.Dm.ins->Option (aR Sm.Dm.outs):=Sm.Dm.fn
def fI:aV:=⟨21,Sm.Dm.ins,.data true Sm.Dm.outs,be,1⟩
theorem jx:aC E1 fI:=wo rfl
def cL:aR Sm.Rm.ins->Option (aR Sm.Rm.outs):=Sm.Rm.fn
def gk:aV:=⟨22,Sm.Rm.ins,.data true Sm.Rm.outs,cL,1⟩
theorem kf:aC E1 gk:=wo rfl
theorem gF:Kt E1 TT:=⟨tz1,⟨tz2,⟨tz3,⟨tz4,⟨tz5,⟨tz6,⟨tz7,⟨tz8,⟨SV,⟨SW,⟨SX,⟨SY,⟨SZ,⟨Ta,⟨Tb,⟨Tc,⟨Td,⟨Te,⟨Tf,⟨Tg,⟨Ti,⟨Tj,⟨Tk,⟨Tl,⟨Tm,⟨Tn,⟨To,⟨Tp,⟨Tq,⟨Tr,⟨Ts,⟨Tt,⟨Tu,⟨Tv,⟨Tw,⟨Tx,⟨Tz,⟨TA,⟨TB,⟨TC,⟨TE,⟨TF,⟨TG,⟨TH,⟨TJ,⟨TK,⟨TL,⟨TM,⟨TN,⟨TO,⟨TP,⟨TQ,⟨TR,⟨TS,⟨TU,⟨TV,⟨TW,⟨TX,⟨TY,⟨TZ,⟨Ua,⟨Ub,⟨Uc,⟨Ud,⟨Ue,⟨Uf,⟨Ug,⟨Uh,⟨Ui,⟨Uj,⟨Uk,⟨Ul,⟨Um,⟨Un,⟨Uo,⟨Uq,⟨Ur,⟨Us,⟨Ut,⟨Uu,⟨Uv,⟨Uw,⟨Ux,⟨Uy,⟨Uz,⟨UA,⟨UB,⟨MK,⟨ML,⟨MM,⟨MN,⟨MO,⟨MP,⟨MQ,⟨MR,⟨MS,⟨MT,⟨MU,⟨MV,⟨MW,⟨MX,⟨MY,⟨MZ,⟨Na,⟨Nb,⟨Nc,⟨Nd,⟨Nf,⟨Ng,⟨Nh,⟨Ni,⟨Nj,⟨Nk,⟨Nl,⟨Nm,⟨Nn,⟨No,⟨Np,⟨Nq,⟨Nr,⟨Ns,⟨Nt,⟨Nu,⟨Nv,⟨Nw,⟨Nx,⟨Ny,⟨Nz,⟨NA,⟨NC,⟨ND,⟨NE,⟨NF,⟨NG,⟨NH,⟨NI,⟨NJ,⟨NK,⟨NL,⟨NM,⟨NN,⟨NO,⟨NP,⟨NQ,⟨NR,⟨NS,⟨NT,⟨NU,⟨NV,⟨NW,⟨NX,⟨NY,⟨NZ,⟨Oa,⟨Ob,⟨Oc,⟨Od,⟨Oe,⟨Of,⟨Og,trivial⟩⟩⟩⟩⟩⟩⟩⟩⟩⟩⟩⟩⟩⟩⟩⟩⟩⟩⟩⟩⟩⟩⟩⟩⟩⟩⟩⟩⟩⟩⟩⟩⟩⟩⟩⟩⟩⟩⟩⟩⟩⟩⟩⟩⟩⟩⟩⟩⟩⟩⟩⟩⟩⟩⟩⟩⟩⟩⟩⟩⟩⟩⟩⟩⟩⟩⟩⟩⟩⟩⟩⟩⟩⟩⟩⟩⟩⟩⟩⟩⟩⟩⟩⟩⟩⟩⟩⟩⟩⟩⟩⟩⟩⟩⟩⟩⟩⟩⟩⟩⟩⟩⟩⟩⟩⟩⟩⟩⟩⟩⟩⟩⟩⟩⟩⟩⟩⟩⟩⟩⟩⟩⟩⟩⟩⟩⟩⟩⟩⟩⟩⟩⟩⟩⟩⟩⟩⟩⟩⟩⟩⟩⟩⟩⟩⟩⟩⟩⟩⟩⟩⟩⟩⟩⟩⟩⟩⟩⟩⟩
theorem eG:Ku E1.P EQS:=⟨Fw Fy Fz,⟨Fx FD FE,⟨Fx FF FG,⟨Fw Ct Cu,trivial⟩⟩⟩⟩
theorem fn5:E1.fn 5=some fi5:=bM Tryz.func5 rfl
theorem Vn:E1.fn 11=some UC:=bM Tryz.func11 rfl
theorem Vo:E1.fn 19=some UD:=bM Tryz.func19 rfl
theorem Vp:E1.fn 20=some UE:=bM Tryz.func20 rfl
theorem Vq:E1.fn 23=some UF:=bM Tryz.func23 rfl
theorem Vr:E1.fn 29=some UI:=bM Tryz.func29 rfl
theorem Vs:E1.fn 30=some UJ:=bM Tryz.func30 rfl
theorem Vt:E1.fn 44=some UL:=bM Tryz.func44 rfl
theorem Vu:E1.fn 45=some UM:=bM Tryz.func45 rfl
theorem Vv:E1.fn 46=some UN:=bM Tryz.func46 rfl
theorem Vw:E1.fn 47=some UO:=bM Tryz.func47 rfl
theorem Vx:E1.fn 58=some UR:=bM Tryz.func58 rfl
theorem Vy:E1.fn 59=some US:=bM Tryz.func59 rfl
theorem Vz:E1.fn 75=some UT:=bM Tryz.func75 rfl
theorem VA:E1.fn 76=some UU:=bM Tryz.func76 rfl
theorem VB:E1.fn 88=some Vd:=bM Tryz.func88 rfl
end K
end Ev
end
noncomputable section
namespace Ev
namespace K
open Go Go.RowKit
set_option maxRecDepth 100000
set_option maxHeartbeats 1000000
def od:cP:= [(88,⟨[⟨false,3,0,[0,5,10],⟨[(11,false,[.d true (.I .i64)])],[],[(.sl 5 0,.I .u8)]⟩,[(.exit 0,⟨[],[],[(.sl 5 0,.I .u8)]⟩)]⟩],[]⟩)]
def gY:KG:=⟨TT,EQS,[],[]⟩
def dn:aR [(false,.I .u32),(false,.I .i64)]->Option (OutK.val (.own (.I .u8))):=dj gY od Vd 88 0 [(false,.I .u32),(false,.I .i64)] (.own (.I .u8))
def gZ:aV:=⟨88,[(false,.I .u32),(false,.I .i64)],.own (.I .u8),dn,1⟩
def wP:cP:= []
def mV:KG:=⟨TT,EQS,[gZ],[]⟩
def eW:aR [(false,.I .u32)]->Option (OutK.val (.own (.I .u8))):=dj mV wP UR 58 0 [(false,.I .u32)] (.own (.I .u8))
def mW:aV:=⟨58,[(false,.I .u32)],.own (.I .u8),eW,2⟩
def zx:cP:= [(29,⟨[⟨false,3,0,[6,7],⟨[(3,false,[.m (.I .u8)]),(8,false,[.d true (.I .i64)])],[],[]⟩,[(.exit 0,⟨[(3,false,[.m (.I .u8)])],[],[]⟩)]⟩],[]⟩)]
def pu:KG:=⟨TT,EQS,[mW],[]⟩
def eS:aR [(false,.S (.I .i64))]->Option (OutK.val (.mown (.I .u8))):=dj pu zx UI 29 0 [(false,.S (.I .i64))] (.mown (.I .u8))
def pw:aV:=⟨29,[(false,.S (.I .i64))],.mown (.I .u8),eS,3⟩
def sD:cP:= []
def jQ:KG:=⟨TT,EQS,[],[]⟩
def dH:aR [yD2,yD2]->Option (OutK.val (.data true [(false,.B)])):=dj jQ sD UT 75 0 [yD2,yD2] (.data true [(false,.B)])
def jR:aV:=⟨75,[yD2,yD2],.data true [(false,.B)],dH,1⟩
def uv:cP:= [(44,⟨[⟨false,6,0,[0,1,2,27,28],⟨[(29,false,[.d true (.I .i64)])],[],[]⟩,[(.exit 0,⟨[],[],[]⟩),(.ret,⟨[(6,false,[.d true (.I .i64)])],[],[]⟩)]⟩,⟨false,12,0,[2],⟨[(9,false,[.d true (.I .i64)])],[],[]⟩,[(.exit 2,⟨[],[],[]⟩),(.ret,⟨[(6,false,[.d true (.I .i64)])],[],[]⟩)]⟩],[]⟩)]
def ll:KG:=⟨TT,EQS,[jR],[]⟩
def eB:aR [(false,.I .i64),(false,.I .i64),yD1]->Option (OutK.val (.data true [(false,.I .i64)])):=dj ll uv UL 44 0 [(false,.I .i64),(false,.I .i64),yD1] (.data true [(false,.I .i64)])
def lq:aV:=⟨44,[(false,.I .i64),(false,.I .i64),yD1],.data true [(false,.I .i64)],eB,2⟩
def px:cP:= [(76,⟨[⟨false,3,0,[0,5,10],⟨[(11,false,[.d true (.I .i64)])],[],[(.sl 5 0,.I .u8)]⟩,[(.exit 0,⟨[],[],[(.sl 5 0,.I .u8)]⟩)]⟩],[]⟩)]
def iu:KG:=⟨TT,EQS,[],[]⟩
def dF:aR [(false,.I .i64),(false,.I .i64)]->Option (OutK.val (.own (.I .u8))):=dj iu px UU 76 0 [(false,.I .i64),(false,.I .i64)] (.own (.I .u8))
def iv:aV:=⟨76,[(false,.I .i64),(false,.I .i64)],.own (.I .u8),dF,1⟩
def wQ:cP:= []
def mX:KG:=⟨TT,EQS,[iv],[]⟩
def eX:aR [(false,.I .i64)]->Option (OutK.val (.own (.I .u8))):=dj mX wQ UM 45 0 [(false,.I .i64)] (.own (.I .u8))
def mY:aV:=⟨45,[(false,.I .i64)],.own (.I .u8),eX,2⟩
def ko:cP:= [(19,⟨[⟨false,6,0,[28,29],⟨[(9,false,[.o (.I .u8)]),(30,false,[.d true (.I .i64)])],[],[]⟩,[(.exit 0,⟨[(9,false,[.o (.I .u8)])],[],[]⟩)]⟩],[]⟩)]
def fJ:KG:=⟨TT,EQS,[pw,lq,mY],[]⟩
def bS:aR [(false,.I .i64),(false,.I .i64),yD1]->Option (OutK.val (.data true [(false,.S (.I .u8)),(false,.I .i64)])):=dj fJ ko UD 19 0 [(false,.I .i64),(false,.I .i64),yD1] (.data true [(false,.S (.I .u8)),(false,.I .i64)])
def fK:aV:=⟨19,[(false,.I .i64),(false,.I .i64),yD1],.data true [(false,.S (.I .u8)),(false,.I .i64)],bS,4⟩
def AX:cP:= [(59,⟨[⟨false,3,0,[1],⟨[(0,false,[.d true (.I .u64)]),(5,false,[.m (.I .u8)]),(6,false,[.d true (.I .i64)])],[],[]⟩,[(.exit 0,⟨[(5,false,[.m (.I .u8)])],[],[]⟩)]⟩],[]⟩)]
def rG:KG:=⟨TT,EQS,[],[]⟩
def fN:aR [(false,.I .u64),(false,.I .i64)]->Option (OutK.val (.mown (.I .u8))):=dj rG AX US 59 0 [(false,.I .u64),(false,.I .i64)] (.mown (.I .u8))
def lr:aV:=⟨59,[(false,.I .u64),(false,.I .i64)],.mown (.I .u8),fN,1⟩
def wR:cP:= []
def mZ:KG:=⟨TT,EQS,[lr],[]⟩
def bV:aR [(false,.I .u32)]->Option (OutK.val (.mown (.I .u8))):=dj mZ wR UJ 30 0 [(false,.I .u32)] (.mown (.I .u8))
def nc:aV:=⟨30,[(false,.I .u32)],.mown (.I .u8),bV,2⟩
def py:cP:= [(11,⟨[⟨false,4,0,[0,1],⟨[(5,false,[.d true (.I .i64)])],[],[]⟩,[(.exit 0,⟨[],[],[]⟩),(.ret,⟨[(4,false,[.d true .B])],[],[]⟩)]⟩],[]⟩)]
def iw:KG:=⟨TT,EQS,[],[]⟩
def cY:aR [(false,.S (.I .u8)),(false,.S (.I .u8))]->Option (OutK.val (.data true [(false,.B)])):=dj iw py UC 11 0 [(false,.S (.I .u8)),(false,.S (.I .u8))] (.data true [(false,.B)])
def iy:aV:=⟨11,[(false,.S (.I .u8)),(false,.S (.I .u8))],.data true [(false,.B)],cY,1⟩
def wS:cP:= []
def nd:KG:=⟨TT,EQS,[],[]⟩
def eY:aR [yD2,yD2]->Option (OutK.val (.data true [(false,.B)])):=dj nd wS UN 46 0 [yD2,yD2] (.data true [(false,.B)])
def nf:aV:=⟨46,[yD2,yD2],.data true [(false,.B)],eY,1⟩
def wT:cP:= []
def ng:KG:=⟨TT,EQS,[lr],[]⟩
def ea:aR [(false,.I .i64)]->Option (OutK.val (.mown (.I .u8))):=dj ng wT UO 47 0 [(false,.I .i64)] (.mown (.I .u8))
def nh:aV:=⟨47,[(false,.I .i64)],.mown (.I .u8),ea,2⟩
def lu:cP:= [(20,⟨[⟨false,6,0,[0,1,2],⟨[(8,false,[.d true (.I .i64)])],[],[]⟩,[(.exit 0,⟨[],[],[]⟩),(.ret,⟨[(6,false,[.m (.I .u8)]),(7,false,[.d true (.I .i64)])],[],[]⟩)]⟩,⟨false,15,0,[2],⟨[(9,false,[.o (.I .u8)]),(10,false,[.d true (.I .i64)])],[],[]⟩,[(.exit 2,⟨[(9,false,[.o (.I .u8)])],[],[]⟩),(.ret,⟨[(6,false,[.m (.I .u8)]),(7,false,[.d true (.I .i64)])],[],[]⟩)]⟩],[]⟩)]
def gl:KG:=⟨TT,EQS,[nc,nf,nh],[]⟩
def bZ:aR [(false,.I .i64),(false,.I .i64),yD1]->Option (OutK.val (.data true [(false,.S (.I .u8)),(false,.I .i64)])):=dj gl lu UE 20 0 [(false,.I .i64),(false,.I .i64),yD1] (.data true [(false,.S (.I .u8)),(false,.I .i64)])
def gm:aV:=⟨20,[(false,.I .i64),(false,.I .i64),yD1],.data true [(false,.S (.I .u8)),(false,.I .i64)],bZ,3⟩
def mI:cP:= [(23,⟨[⟨false,4,0,[0,1],⟨[(5,false,[.d true (.I .i64)])],[],[]⟩,[(.exit 0,⟨[],[],[]⟩),(.ret,⟨[(4,false,[.d true .B])],[],[]⟩)]⟩],[]⟩)]
def gG:KG:=⟨TT,EQS,[],[]⟩
def cr:aR [yD1,yD1]->Option (OutK.val (.data true [(false,.B)])):=dj gG mI UF 23 0 [yD1,yD1] (.data true [(false,.B)])
def gH:aV:=⟨23,[yD1,yD1],.data true [(false,.B)],cr,1⟩
def lv:cP:= []
def gn:KG:=⟨TT,EQS,[Mr,iy,fK,gm,fI,gk,gH],[]⟩
def cO:aR [yD4,yD1,(false,.S (.I .u8))]->Option (OutK.val (.data true [(false,.B)])):=dj gn lv fi5 5 0 [yD4,yD1,(false,.S (.I .u8))] (.data true [(false,.B)])
def go:aV:=⟨5,[yD4,yD1,(false,.S (.I .u8))],.data true [(false,.B)],cO,5⟩
end K
end Ev
end
noncomputable section
namespace Ev
namespace K
open Go Go.RowKit
set_option maxRecDepth 100000
set_option maxHeartbeats 1000000
theorem lx:GOk gY E1 0:=gok gh gF eG trivial trivial
theorem mJ:aC E1 gZ:=aW lx (by kernel_rfl) VB (by kernel_rfl) rfl
theorem sF:GOk mV E1 1:=gok gh gF eG ⟨⟨by decide,mJ⟩,trivial⟩ trivial
theorem uw:aC E1 mW:=aW sF (by kernel_rfl) Vx (by kernel_rfl) rfl
theorem ux:GOk pu E1 2:=gok gh gF eG ⟨⟨by decide,uw⟩,trivial⟩ trivial
theorem wU:aC E1 pw:=aW ux (by kernel_rfl) Vr (by kernel_rfl) rfl
theorem pz:GOk jQ E1 0:=gok gh gF eG trivial trivial
theorem qV:aC E1 jR:=aW pz (by kernel_rfl) Vz (by kernel_rfl) rfl
theorem qW:GOk ll E1 1:=gok gh gF eG ⟨⟨by decide,qV⟩,trivial⟩ trivial
theorem sG:aC E1 lq:=aW qW (by kernel_rfl) Vt (by kernel_rfl) rfl
theorem mK:GOk iu E1 0:=gok gh gF eG trivial trivial
theorem oe:aC E1 iv:=aW mK (by kernel_rfl) VA (by kernel_rfl) rfl
theorem sH:GOk mX E1 1:=gok gh gF eG ⟨⟨by decide,oe⟩,trivial⟩ trivial
theorem uy:aC E1 mY:=aW sH (by kernel_rfl) Vu (by kernel_rfl) rfl
theorem iX:GOk fJ E1 3:=gok gh gF eG ⟨⟨by decide,wU⟩,⟨⟨by decide,sG⟩,⟨⟨by decide,uy⟩,trivial⟩⟩⟩ trivial
theorem jy:aC E1 fK:=aW iX (by kernel_rfl) Vo (by kernel_rfl) rfl
theorem wV:GOk rG E1 0:=gok gh gF eG trivial trivial
theorem pA:aC E1 lr:=aW wV (by kernel_rfl) Vy (by kernel_rfl) rfl
theorem sI:GOk mZ E1 1:=gok gh gF eG ⟨⟨by decide,pA⟩,trivial⟩ trivial
theorem uz:aC E1 nc:=aW sI (by kernel_rfl) Vs (by kernel_rfl) rfl
theorem mL:GOk iw E1 0:=gok gh gF eG trivial trivial
theorem og:aC E1 iy:=aW mL (by kernel_rfl) Vn (by kernel_rfl) rfl
theorem sJ:GOk nd E1 0:=gok gh gF eG trivial trivial
theorem uA:aC E1 nf:=aW sJ (by kernel_rfl) Vv (by kernel_rfl) rfl
theorem sK:GOk ng E1 1:=gok gh gF eG ⟨⟨by decide,pA⟩,trivial⟩ trivial
theorem uB:aC E1 nh:=aW sK (by kernel_rfl) Vw (by kernel_rfl) rfl
theorem jz:GOk gl E1 2:=gok gh gF eG ⟨⟨by decide,uz⟩,⟨⟨by decide,uA⟩,⟨⟨by decide,uB⟩,trivial⟩⟩⟩ trivial
theorem kq:aC E1 gm:=aW jz (by kernel_rfl) Vp (by kernel_rfl) rfl
theorem kr:GOk gG E1 0:=gok gh gF eG trivial trivial
theorem ly:aC E1 gH:=aW kr (by kernel_rfl) Vq (by kernel_rfl) rfl
theorem jA:GOk gn E1 4:=gok gh gF eG ⟨⟨by decide,Pb⟩,⟨⟨by decide,og⟩,⟨⟨by decide,jy⟩,⟨⟨by decide,kq⟩,⟨⟨by decide,jx⟩,⟨⟨by decide,kf⟩,⟨⟨by decide,ly⟩,trivial⟩⟩⟩⟩⟩⟩⟩ trivial
theorem kt:aC E1 go:=aW jA (by kernel_rfl) fn5 (by kernel_rfl) rfl
end K
end Ev
end
noncomputable section
namespace Ev
namespace K
open Go Go.RowKit
def W:(e:Ty)->e.val->Prop
 | .I k,x=>inK k x
 | .B,_=>True
 | .S e,x=>SlW e.size (λy=>W e y) x
 | .U,_=>True
 | .C a b,x=>W a x.1/\W b x.2
def Op(P:Program)(t:TypeId)(e:Ty):Prop:=∀ts,Typ P t ts->∃x:e.val,ts=e.row x/\W e x
def Ops(P:Program)(tl:List TypeId)(e:Ty):Prop:=∀tss:List (List T),tss.length=tl.length->(∀(i:Nat) t l,tl[i]? =some t->tss[i]? =some l->Typ P t l)->∃x:e.val,tss.flatten=e.row x/\W e x
section
variable {P : Program} {t : TypeId} {tl : List TypeId} {e a b : Ty}
theorem Db{k:IntKind}(h:P.underlying t=some (.int k)):Op P t (.I k):=λts ht=>LP h ht
theorem AY{t':TypeId}(h:P.underlying t=some (.slice t'))(hc:P.cellsOf t'=e.size)(ho:Op P t' e):Op P t (.S e):=λts ht=>GW (r:=e.row) (Q:=λy=>W e y) h hc ho ht
theorem EH(h:Op P t e):Ops P [t] e:=λtss hl ht=>by
 obtain⟨l,rfl⟩:=List.length_eq_one_iff.1 hl;obtain⟨x,h1,h2⟩:=h l (ht 0 t l rfl rfl);exact⟨x,by simp [h1],h2⟩
theorem uC(h:Op P t a)(h':Ops P tl b):Ops P (t::tl) (.C a b):=λtss hl ht=>by
 match tss,hl with
 |l::tss,hl=>
  obtain⟨x,h1,h2⟩:=h l (ht 0 t l rfl rfl);obtain⟨y,h3,h4⟩:=h' tss (by simpa using hl) λi t' l' a b=>ht (i+1) t' l' a b;exact⟨(x,y),by rw [List.flatten_cons,h1,h3];rfl,h2,h4⟩
theorem Gw{fs:Array Field}(h:P.underlying t=some (.struct fs))(hf:fs.toList.map (·.type)=tl)(ho:Ops P tl e):Op P t e:=λts ht=>by
 obtain⟨tss,rfl,h1,h2⟩:=DC h ht;subst hf;refine ho tss (by simpa using h1) λi t' l hi hl=> ?_;rw [List.getElem?_map,Option.map_eq_some_iff]at hi;obtain⟨f,hf,rfl⟩:=hi;exact h2 i f l hf hl
theorem IF{n:Nat}{t':TypeId}(h:P.underlying t=some (.array n t'))(ho:Ops P (List.replicate n t') e):Op P t e:=λts ht=>by
 obtain⟨tss,rfl,h1,h2⟩:=GX h ht;refine ho tss (by simpa using h1) λi t'' l hi hl=> ?_
 have:=List.eq_of_mem_replicate (List.mem_of_getElem? hi)
 subst this;exact h2 l (List.mem_of_getElem? hl)
theorem AZ{ts:List TypeId}{tds:List TD}{d:TypeDesc}(hu:P.underlying t=some d)(hd:aN d=false)(ho:Op P t e)(h:ia P (t::ts) tds):∃(x:e.val) (r:List TD),tds=jc (false,e) x::r/\W e x/\ia P ts r:=by
 obtain⟨y,r,rfl,h1,h2⟩:=JI hu hd h;obtain⟨x,h3,h4⟩:=ho _ h1;refine⟨x,r,?_,h4,h2⟩;show TD.one y::r=(match e.row x with| [y]=>TD.one y|ys=>TD.agg ys)::r;rw [<-h3]
theorem IG{ts:List TypeId}{tds:List TD}{d:TypeDesc}(hu:P.underlying t=some d)(hd:aN d=true)(ho:Op P t e)(h:ia P (t::ts) tds):∃(x:e.val) (r:List TD),tds=jc (true,e) x::r/\W e x/\ia P ts r:=by
 obtain⟨y,r,rfl,h1,h2⟩:=JJ hu hd h;obtain⟨x,h3,h4⟩:=ho _ h1;exact⟨x,r,by rw [h3];rfl,h4,h2⟩
end
theorem Lf{E:Env}{en:aV}(ok:aC E en){a:aR en.ins}{tds:List TD}(ht:tds=ci en.ins a)(ho:en.out= .data true [(false,.B)])(h:en.f a=some (cast (by rw [ho]) true)):∃m n kind,(cS E m n).1 en.k tds=some (kind,[.one (.v (.bool true))]):=by
 have h1:=ok 0 a _ h;subst ht;obtain⟨k,ins,out,f,d⟩:=en;dsimp only at ho;subst ho;exact Py h1
end K
end Ev
end
noncomputable section
namespace Ev
open Go Go.RowKit
def be(x:Sl (Int)):Option (Int×Int×(Sl (Int×Int×Int))×Int×Int):=K.be x
def cL(x:Sl (Int)):Option (Int×Int×(Sl (Int×Int×Int))×Int×Int):=K.cL x
def FL8:Option (Bool):=K.FL8 ()
def dn(x:Int)(y:Int):Option (List (Int)):=K.dn (x,y)
def eW(x:Int):Option (List (Int)):=K.eW x
def eS(x:Sl (Int)):Option (List (Int)):=K.eS x
def dH(x:Int×Int×Int)(y:Int×Int×Int):Option (Bool):=K.dH (x,y)
def eB(x:Int)(y:Int)(z:Sl (Int×Int×Int)):Option (Int):=K.eB (x,y,z)
def dF(x:Int)(y:Int):Option (List (Int)):=K.dF (x,y)
def eX(x:Int):Option (List (Int)):=K.eX x
def bS(x:Int)(y:Int)(z:Sl (Int×Int×Int)):Option (Sl (Int)×Int):=K.bS (x,y,z)
def fN(x:Int)(y:Int):Option (List (Int)):=K.fN (x,y)
def bV(x:Int):Option (List (Int)):=K.bV x
def cY(x:Sl (Int))(y:Sl (Int)):Option (Bool):=K.cY (x,y)
def eY(x:Int×Int×Int)(y:Int×Int×Int):Option (Bool):=K.eY (x,y)
def ea(x:Int):Option (List (Int)):=K.ea x
def bZ(x:Int)(y:Int)(z:Sl (Int×Int×Int)):Option (Sl (Int)×Int):=K.bZ (x,y,z)
def cr(x:Sl (Int×Int×Int))(y:Sl (Int×Int×Int)):Option (Bool):=K.cr (x,y)
def cO(x:Int×Int)(y:Sl (Int×Int×Int))(z:Sl (Int)):Option (Bool):=K.cO (x,y,z)
end Ev
end
noncomputable section
namespace Ev
open Go Go.RowKit
set_option maxRecDepth 100000
set_option maxHeartbeats 1000000
abbrev yC:=Int×Int×Sl Int×Sl Int×Sl Int×Sl Int
abbrev yM:=Int×Int×Sl Int×Sl Int×Sl Int
abbrev yT:=Int×Int×Int
def dm(x:Int)(y:Int):Int×List Int->Option (Int×List Int ⊕ List Int ⊕ Empty):=λ(x_1:Int×List Int)=>if x_1.fst<(↑(List.replicate y.toNat (0:Int)).length:Int)then(zK IntKind.u32 x (IntKind.u64.wrap (IntKind.i64.wrap (8*x_1.fst)))).bind λ(z:Int)=>(atL x_1.snd x_1.fst).bind λ(x:Int)=>(atL x_1.snd x_1.fst).bind λ(y:Int)=>some (Sum.inl (IntKind.i64.wrap (x_1.fst+1),List.set x_1.snd (Int.toNat x_1.fst) (IntKind.u8.wrap z)))else some (Sum.inr (Sum.inl x_1.snd))
theorem mM(x:Int)(y:Int):dn x y=(xV y y).bind λ(x_1:PUnit)=>(uZ y).bind λ(x_2:PUnit)=>(bu (dm x y) (0,List.replicate y.toNat 0)).bind λ(y:List Int ⊕ Empty)=>Sum.elim (λ(val:List Int)=>some val) (λ(val:Empty)=>nE val) y:=by kernel_rfl
theorem uD(x:Int):eW x=(dn x 4).bind λ(out:List Int)=>some out:=by kernel_rfl
def fW(x:Sl Int):List Int×Int->Option (List Int×Int ⊕ List Int ⊕ Empty):=λ(x_1:List Int×Int)=>if x_1.snd<(↑x.l.length:Int)then(atS 1 x x_1.snd).bind λ(y:Int)=>(eW (IntKind.u32.wrap y)).bind λ(out:List Int)=>(app x_1.fst out).bind λ(lm:List Int)=>some (Sum.inl (lm,IntKind.i64.wrap (x_1.snd+1)))else some (Sum.inr (Sum.inl x_1.fst))
theorem wW(x:Sl Int):eS x=(bu (fW x) ([],0)).bind λ(y:List Int ⊕ Empty)=>Sum.elim (λ(val:List Int)=>some val) (λ(val:Empty)=>nE val) y:=by kernel_rfl
theorem qX(x:Int×Int×Int)(y:Int×Int×Int):dH x y=if y.fst>x.fst then some true
else if y.fst=x.fst then some (decide (y.snd.fst>x.snd.fst))else some false:=by kernel_rfl
def eO(x:Int)(y:Int)(z:Sl yT):Int->Option (Int ⊕ PUnit ⊕ Int ⊕ Empty):=λ(x_1:Int)=>if x_1<(↑z.l.length:Int)then(atS 3 z x_1).bind λ(y_1:Int×Int×Int)=>if y_1.fst<0 then some (Sum.inr (Sum.inr (Sum.inl 3)))else if y_1.fst >= x then some (Sum.inr (Sum.inr (Sum.inl 3)))else if y_1.snd.fst<0 then some (Sum.inr (Sum.inr (Sum.inl 3)))else if y_1.snd.fst >= y then some (Sum.inr (Sum.inr (Sum.inl 3)))else some (Sum.inl (IntKind.i64.wrap (x_1+1)))else some (Sum.inr (Sum.inl ()))
def eP(z:Sl yT):Int->Option (Int ⊕ PUnit ⊕ Int ⊕ Empty):=λ(x:Int)=>if x<(↑z.l.length:Int)then(atS 3 z (IntKind.i64.wrap (x - 1))).bind λ(y:Int×Int×Int)=>(atS 3 z x).bind λ(y_1:Int×Int×Int)=>(dH y y_1).bind λ(out:Bool)=>if¬out=true then some (Sum.inr (Sum.inr (Sum.inl 6)))else some (Sum.inl (IntKind.i64.wrap (x+1)))else some (Sum.inr (Sum.inl ()))
theorem sL(x:Int)(y:Int)(z:Sl yT):eB x y z=if x<0 then some 3
else if y<0 then some 3 else if x>4096 then some 5 else if y>4096 then some 5 else if(↑z.l.length:Int)>65536 then some 5 else(bu (eO x y z) 0).bind λ(y:PUnit ⊕ Int ⊕ Empty)=>Sum.elim (λ(val:PUnit)=>(bu (eP z) 1).bind λ(y:PUnit ⊕ Int ⊕ Empty)=>Sum.elim (λ(val:PUnit)=>some 0) (λ(val:Int ⊕ Empty)=>Sum.elim (λ(val:Int)=>some val) (λ(val:Empty)=>nE val) val) y) (λ(val:Int ⊕ Empty)=>Sum.elim (λ(val:Int)=>some val) (λ(val:Empty)=>nE val) val) y:=by kernel_rfl
def dz(x:Int)(y:Int):Int×List Int->Option (Int×List Int ⊕ List Int ⊕ Empty):=λ(x_1:Int×List Int)=>if x_1.fst<(↑(List.replicate y.toNat (0:Int)).length:Int)then(zK IntKind.i64 x (IntKind.u64.wrap (IntKind.i64.wrap (8*x_1.fst)))).bind λ(z:Int)=>(atL x_1.snd x_1.fst).bind λ(x:Int)=>(atL x_1.snd x_1.fst).bind λ(y:Int)=>some (Sum.inl (IntKind.i64.wrap (x_1.fst+1),List.set x_1.snd (Int.toNat x_1.fst) (IntKind.u8.wrap z)))else some (Sum.inr (Sum.inl x_1.snd))
theorem oh(x:Int)(y:Int):dF x y=(xV y y).bind λ(x_1:PUnit)=>(uZ y).bind λ(x_2:PUnit)=>(bu (dz x y) (0,List.replicate y.toNat 0)).bind λ(y:List Int ⊕ Empty)=>Sum.elim (λ(val:List Int)=>some val) (λ(val:Empty)=>nE val) y:=by kernel_rfl
theorem uE(x:Int):eX x=(dF x 8).bind λ(out:List Int)=>some out:=by kernel_rfl
def cD(z:Sl yT):List Int×Int->Option (List Int×Int ⊕ List Int ⊕ Empty):=λ(x:List Int×Int)=>if x.snd<(↑z.l.length:Int)then(atS 3 z x.snd).bind λ(y:Int×Int×Int)=>(eS {nn:=true,sz:=1,l:= [y.fst,y.snd.fst]}).bind λ(out:List Int)=>(app x.fst out).bind λ(lm:List Int)=>(eX y.snd.snd).bind λ(out:List Int)=>(app lm out).bind λ(lm:List Int)=>some (Sum.inl (lm,IntKind.i64.wrap (x.snd+1)))else some (Sum.inr (Sum.inl x.fst))
theorem jB(x:Int)(y:Int)(z:Sl yT):bS x y z=(eB x y z).bind λ(out:Int)=>if out≠0 then some ({nn:=false,sz:=0,l:= []},out)else(eS {nn:=true,sz:=1,l:= [x,y,(↑z.l.length:Int)]}).bind λ(out:List Int)=>(app [70,82,77,49] out).bind λ(lm:List Int)=>(bu (cD z) (lm,0)).bind λ(y:List Int ⊕ Empty)=>Sum.elim (λ(val:List Int)=>some ({nn:=true,sz:=1,l:=val},0)) (λ(val:Empty)=>nE val) y:=by kernel_rfl
def gK(y:Int):Int×List Int×Int->Option (Int×List Int×Int ⊕ List Int ⊕ Empty):=λ(x:Int×List Int×Int)=>if x.snd.snd<y then(JF x.fst 256).bind λ(z:Int)=>(app x.snd.fst [IntKind.u8.wrap z]).bind λ(lm:List Int)=>(JE IntKind.u64 x.fst 256).bind λ(z:Int)=>some (Sum.inl (z,lm,IntKind.i64.wrap (x.snd.snd+1)))else some (Sum.inr (Sum.inl x.snd.fst))
theorem zy(x:Int)(y:Int):fN x y=(bu (gK y) (x,[],0)).bind λ(y:List Int ⊕ Empty)=>Sum.elim (λ(val:List Int)=>some val) (λ(val:Empty)=>nE val) y:=by kernel_rfl
theorem uF(x:Int):bV x=(fN (IntKind.u64.wrap x) 4).bind λ(out:List Int)=>some out:=by kernel_rfl
def hZ(x:Sl Int)(y:Sl Int):Int->Option (Int ⊕ PUnit ⊕ Bool ⊕ Empty):=λ(x_1:Int)=>if x_1<(↑x.l.length:Int)then(atS 1 x x_1).bind λ(y_1:Int)=>(atS 1 y x_1).bind λ(y:Int)=>if y_1≠y then some (Sum.inr (Sum.inr (Sum.inl false)))else some (Sum.inl (IntKind.i64.wrap (x_1+1)))else some (Sum.inr (Sum.inl ()))
theorem ol(x:Sl Int)(y:Sl Int):cY x y=if(↑x.l.length:Int)≠(↑y.l.length:Int)then some false
else(bu (hZ x y) 0).bind λ(y:PUnit ⊕ Bool ⊕ Empty)=>Sum.elim (λ(val:PUnit)=>some true) (λ(val:Bool ⊕ Empty)=>Sum.elim (λ(val:Bool)=>some val) (λ(val:Empty)=>nE val) val) y:=by kernel_rfl
theorem uG(x:Int×Int×Int)(y:Int×Int×Int):eY x y=if x.fst<y.fst then some true
else if x.fst=y.fst then some (decide (x.snd.fst<y.snd.fst))else some false:=by kernel_rfl
theorem uH(x:Int):ea x=(fN (IntKind.u64.wrap x) 8).bind λ(out:List Int)=>some out:=by kernel_rfl
def dK:Int ⊕ PUnit ⊕ List Int×Int ⊕ Empty->Option (Int ⊕ PUnit ⊕ List Int×Int ⊕ Empty):=λ(d:Int ⊕ PUnit ⊕ List Int×Int ⊕ Empty)=>some d
def cT(x:Int)(y:Int)(z:Sl yT):Int->Option (Int ⊕ PUnit ⊕ List Int×Int ⊕ Empty):=λ(x_1:Int)=>if x_1<(↑z.l.length:Int)then(atS 3 z x_1).bind λ(y_1:Int×Int×Int)=>if y_1.fst<0 then some (Sum.inr (Sum.inr (Sum.inl ([],3))))else(atS 3 z x_1).bind λ(y_2:Int×Int×Int)=>if y_2.fst >= x then some (Sum.inr (Sum.inr (Sum.inl ([],3))))else(atS 3 z x_1).bind λ(y_3:Int×Int×Int)=>if y_3.snd.fst<0 then some (Sum.inr (Sum.inr (Sum.inl ([],3))))else(atS 3 z x_1).bind λ(y_4:Int×Int×Int)=>if y_4.snd.fst >= y then dK (Sum.inr (Sum.inr (Sum.inl ([],3))))else dK (Sum.inl (IntKind.i64.wrap (x_1+1)))else some (Sum.inr (Sum.inl ()))
def bB(z:Sl yT):List Int×Int->Option (List Int×Int ⊕ List Int ⊕ List Int×Int ⊕ Empty):=λ(x:List Int×Int)=>if x.snd<(↑z.l.length:Int)then if x.snd>0 then(atS 3 z (IntKind.i64.wrap (x.snd - 1))).bind λ(y:Int×Int×Int)=>(atS 3 z x.snd).bind λ(y_1:Int×Int×Int)=>(eY y y_1).bind λ(out:Bool)=>if¬out=true then some (Sum.inr (Sum.inr (Sum.inl ([],6))))else(atS 3 z x.snd).bind λ(y:Int×Int×Int)=>(bV (IntKind.u32.wrap y.fst)).bind λ(out:List Int)=>(app x.fst out).bind λ(lm:List Int)=>(atS 3 z x.snd).bind λ(y:Int×Int×Int)=>(bV (IntKind.u32.wrap y.snd.fst)).bind λ(out:List Int)=>(app lm out).bind λ(lm:List Int)=>(atS 3 z x.snd).bind λ(y:Int×Int×Int)=>(ea y.snd.snd).bind λ(out:List Int)=>(app lm out).bind λ(lm:List Int)=>some (Sum.inl (lm,IntKind.i64.wrap (x.snd+1)))else(atS 3 z x.snd).bind λ(y:Int×Int×Int)=>(bV (IntKind.u32.wrap y.fst)).bind λ(out:List Int)=>(app x.fst out).bind λ(lm:List Int)=>(atS 3 z x.snd).bind λ(y:Int×Int×Int)=>(bV (IntKind.u32.wrap y.snd.fst)).bind λ(out:List Int)=>(app lm out).bind λ(lm:List Int)=>(atS 3 z x.snd).bind λ(y:Int×Int×Int)=>(ea y.snd.snd).bind λ(out:List Int)=>(app lm out).bind λ(lm:List Int)=>some (Sum.inl (lm,IntKind.i64.wrap (x.snd+1)))else some (Sum.inr (Sum.inl x.fst))
theorem ku(x:Int)(y:Int)(z:Sl yT):bZ x y z=if x<0 then some ({nn:=false,sz:=0,l:= []},3)
else if y<0 then some ({nn:=false,sz:=0,l:= []},3)else if x>4096 then some ({nn:=false,sz:=0,l:= []},5)else if y>4096 then some ({nn:=false,sz:=0,l:= []},5)else if(↑z.l.length:Int)>65536 then some ({nn:=false,sz:=0,l:= []},5)else(bu (cT x y z) 0).bind λ(y_1:PUnit ⊕ List Int×Int ⊕ Empty)=>Sum.elim (λ(val:PUnit)=>(bV (IntKind.u32.wrap x)).bind λ(out:List Int)=>(app [70,82,77,49] out).bind λ(lm:List Int)=>(bV (IntKind.u32.wrap y)).bind λ(out:List Int)=>(app lm out).bind λ(lm:List Int)=>(bV (IntKind.u32.wrap (↑z.l.length:Int))).bind λ(out:List Int)=>(app lm out).bind λ(lm:List Int)=>(bu (bB z) (lm,0)).bind λ(y:List Int ⊕ List Int×Int ⊕ Empty)=>Sum.elim (λ(val:List Int)=>some ({nn:=true,sz:=1,l:=val},0)) (λ(val:List Int×Int ⊕ Empty)=>Sum.elim (λ(val:List Int×Int)=>some (mo 1 val.fst,val.snd)) (λ(val:Empty)=>nE val) val) y) (λ(val:List Int×Int ⊕ Empty)=>Sum.elim (λ(val:List Int×Int)=>some (mo 1 val.fst,val.snd)) (λ(val:Empty)=>nE val) val) y_1:=by kernel_rfl
def gp(x:Sl yT)(y:Sl yT):Int->Option (Int ⊕ PUnit ⊕ Bool ⊕ Empty):=λ(x_1:Int)=>if x_1<(↑x.l.length:Int)then(atS 3 x x_1).bind λ(y_1:Int×Int×Int)=>(atS 3 y x_1).bind λ(y:Int×Int×Int)=>if¬(y_1.fst=y.fst/\y_1.snd.fst=y.snd.fst/\y_1.snd.snd=y.snd.snd)then some (Sum.inr (Sum.inr (Sum.inl false)))else some (Sum.inl (IntKind.i64.wrap (x_1+1)))else some (Sum.inr (Sum.inl ()))
theorem lz(x:Sl yT)(y:Sl yT):cr x y=if(↑x.l.length:Int)≠(↑y.l.length:Int)then some false
else(bu (gp x y) 0).bind λ(y:PUnit ⊕ Bool ⊕ Empty)=>Sum.elim (λ(val:PUnit)=>some true) (λ(val:Bool ⊕ Empty)=>Sum.elim (λ(val:Bool)=>some val) (λ(val:Empty)=>nE val) val) y:=by kernel_rfl
theorem kv(x:Int×Int)(y:Sl yT)(z:Sl Int):cO x y z=if(↑y.l.length:Int)>100 then FL8.bind λ(out:Bool)=>some (decide (out=true))
else if(↑z.l.length:Int)>3000 then FL8.bind λ(out:Bool)=>some (decide (out=true))else(bS x.fst x.snd y).bind λ(out:Sl Int×Int)=>(bZ x.fst x.snd y).bind λ(out_1:Sl Int×Int)=>(be z).bind λ(out_2:Int×Int×Sl yT×Int×Int)=>(cL z).bind λ(out_3:Int×Int×Sl yT×Int×Int)=>FL8.bind λ(out_4:Bool)=>if out_4=true then(cY out.fst out_1.fst).bind λ(out_5:Bool)=>if out_5=true then if out.snd=out_1.snd then if out_2.fst=out_3.fst then if out_2.snd.fst=out_3.snd.fst then(cr out_2.snd.snd.fst out_3.snd.snd.fst).bind λ(out:Bool)=>if out=true then some (decide (out_2.snd.snd.snd.fst=out_3.snd.snd.snd.fst/\out_2.snd.snd.snd.snd=out_3.snd.snd.snd.snd))else some false else some false else some false else some false else some false else some false:=by kernel_rfl
end Ev
end
noncomputable section
namespace Ev
section
open Go
def okS{α:Type}(w:Nat)(s:Sl α):Prop:=s.l= []∨s.sz=w
theorem Ms{α:Type}{w:Nat}(l:List α):okS w (mo w l):=by cases l with|nil=>exact .inl rfl|cons x l=>exact .inr rfl
theorem xF{α:Type}{l:List α}{j:Nat}{x:α}(h:l[j]? =some x):atL l (j:Int)=some x:=by
 have hj:=(List.getElem?_eq_some_iff.1 h);rw [LQ hj.1,hj.2]
theorem xG{α:Type}{w:Nat}{s:Sl α}(hs:okS w s){j:Nat}{x:α}(h:s.l[j]? =some x):atS w s (j:Int)=some x:=by
 have hj:=(List.getElem?_eq_some_iff.1 h);rw [gz hs hj.1,hj.2]
theorem IH{A R:Type}{b:A->Option (A ⊕ R)}(n:Nat)(st:Nat->A){r:R}(hs:∀j,j<n->b (st j)=some (.inl (st (j+1))))(he:b (st n)=some (.inr r)):bu b (st 0)=some r:=by
 obtain⟨q,h1,h2⟩:=jG (b:=b) n (λj a=>a=st j) (λq=>q=r) (λj a hj ha=> .inl ⟨st (j+1),by rw [ha];exact hs j hj,rfl⟩) (λa ha=>⟨r,by rw [ha];exact he,rfl⟩) 0 (Nat.zero_le _) (st 0) rfl;rw [h1,h2]
theorem mt{A R:Type}{b:A->Option (A ⊕ R)}(n:Nat)(st:Nat->A){a:A}(ha:a=st 0){r:R}(hs:∀j,j<n->b (st j)=some (.inl (st (j+1))))(he:b (st n)=some (.inr r)):bu b a=some r:=by rw [ha];exact IH n st hs he
theorem Gx{α:Type}[DecidableEq α]{x y:List α}(hl:x.length=y.length){b:Int->Option (Int ⊕ PUnit ⊕ Bool ⊕ Empty)}(h1:∀j:Nat,(h:j<x.length)->b j=some (if x[j]=y[j]then .inl ((j+1:Nat):Int)else .inr (.inr (.inl false))))(h2:∀j:Nat,x.length<=j->b j=some (.inr (.inl ()))):
  bu b 0=some (if x=y then .inl ()else .inr (.inl false)):=by
 obtain⟨q,q1,q2⟩:=jG (b:=b) x.length (λj a=>a=(j:Int)/\x.take j=y.take j) (λq=>q=if x=y then .inl ()else .inr (.inl false))
  (by
   rintro j _ hj ⟨rfl,ht⟩;rw [h1 j hj];by_cases e:x[j]=y[j]
   .rw [if_pos e];refine .inl ⟨_,rfl,rfl,?_⟩;rw [List.take_succ_eq_append_getElem hj,List.take_succ_eq_append_getElem (by omega),ht,e]
   .rw [if_neg e];refine .inr ⟨_,rfl,?_⟩
    rw [if_neg (λh=>e (by simp [h]))])
  (by
   rintro _ ⟨rfl,ht⟩;refine⟨_,h2 _ (Nat.le_refl _),?_⟩;rw [List.take_of_length_le (Nat.le_refl _),List.take_of_length_le (by omega)]at ht
   rw [if_pos ht]) 0 (Nat.zero_le _) 0 ⟨rfl,by simp⟩
 rw [q1,q2]
end
section
open Go
abbrev Mx:=Int×Int×Sl Int×Sl Int×Sl Int
abbrev E3:=Int×Int×Int
end
section
open Go Sm
def bel(a b:E3):Bool:=klt (key a) (key b)
abbrev Qz(l:List E3):Prop:=l.Pairwise λa b=>bel a b=true
def VC(n:Nat)(f:Nat->Int):List Int:=(List.range (n+1)).map f
def VD(l:List E3)(k:Nat):Nat:=l.countP λx=>decide (x.1<(k:Int))
end
section
open Go Sm
abbrev RG(r:Int):Rg:=⟨ofW,mf r,jr⟩
end
section
open Go Sm
def kz(p:Ky×V):E3:=(p.1.1,p.1.2,0)
def pos(S:List (Ky×V))(e:E3):Nat:=(S.takeWhile λp=>klt p.1 (key e)).length
end
section
open Go Sm
def w64(l:List E3):Prop:=∀x∈l,jq x.1/\jq x.2.1/\jq x.2.2
def inM(n c:Int)(x:E3):Bool:=decide (0<=x.1/\x.1<n/\0<=x.2.1/\x.2.1<c)
theorem Mt{α:Type}{p:α->Bool}{l:List α}{j:Nat}(hj:j<l.length)(h:p l[j]=false):l.all p=false:=by
 rw [Bool.eq_false_iff];intro ha;rw [List.all_eq_true.1 ha _ (List.getElem_mem hj)]at h;cases h
end
section
open Go Sm
theorem De{α:Type}[DecidableEq α]{x y:Sl α}(hl:x.l.length<=9223372036854775806){w:Nat}(hx:okS w x)(hy:okS w y){b:Int->Option (Int ⊕ PUnit ⊕ Bool ⊕ Empty)}
  (hb:∀a,b a=if a<(x.l.length:Int)then(atS w x a).bind λu=>(atS w y a).bind λv=>if u≠v then some (.inr (.inr (.inl false)))else some (.inl (IntKind.i64.wrap (a+1)))else some (.inr (.inl ()))):
  (if(x.l.length:Int)≠(y.l.length:Int)then some false else(bu b 0).bind λ(y:PUnit ⊕ Bool ⊕ Empty)=>Sum.elim (λ_=>some true) (λv=>Sum.elim (λv=>some v) (λv=>nE v) v) y)=some (decide (x.l=y.l)):=by
 by_cases h:x.l.length=y.l.length
 .rw [if_neg (by omega)]
  rw [Gx h (b:=b) (λj hj=>by
   rw [hb,if_pos (by omega),xG hx (List.getElem?_eq_getElem hj),xG hy (List.getElem?_eq_getElem (by omega))];simp only [zbS];by_cases he:x.l[j]=y.l[j]
   .rw [if_neg (by simp [he]),if_pos he,iM hj (by omega)]
   .rw [if_pos he,if_neg he]) (λj hj=>by rw [hb,if_neg (by omega)])]
  by_cases he:x.l=y.l
  .simp [he]
  .simp [he]
 .rw [if_pos (by omega),decide_eq_false];exact λhe=>h (by rw [he])
theorem Pc{x:Sl E3}(h:K.W (.S (.C (.I .i64) (.C (.I .i64) (.I .i64)))) x):okS 3 x/\(x.nn=false->x.l= [])/\w64 x.l:=⟨.inr h.1,h.2.1,λy hy=>⟨zf (h.2.2.2 y hy).1,zf (h.2.2.2 y hy).2.1,zf (h.2.2.2 y hy).2.2⟩⟩
end
section
open Go Sm
structure Is(m:Mx)(n c:Int)(l:List E3):Prop where
 hn:0<=n/\n<=4096
 hc:0<=c/\c<=4096
 len:l.length<=65536
 r:Qz l
 p:∀x∈l,(0<=x.1/\x.1<n)/\0<=x.2.1/\x.2.1<c
 v:∀x∈l,jq x.2.2
 e1:m.1=n
 e2:m.2.1=c
 e3:m.2.2.1.l=VC n.toNat λk=>((VD l k:Nat):Int)
 e4:m.2.2.2.1.l=l.map (·.2.1)
 e5:m.2.2.2.2.l=l.map (·.2.2)
 o3:okS 1 m.2.2.1
 o4:okS 1 m.2.2.2.1
 o5:okS 1 m.2.2.2.2
section
variable {m : Mx} {n c : Int} {l : List E3}
end
end
section
open Go Sm
end
section
open Go Sm
section
variable {m : Mx} {n c : Int} {l : List E3}
end
end
section
open Go Sm
section
variable {m : Mx}
end
end
section
open Go Sm
abbrev Cx:=Int×Int×Sl Int×Sl Int×Sl Int×Sl Int
section
variable {T : List E3}
end
section
variable {c : Cx} {n k : Int} {T : List E3}
end
section
variable {c : Cx}
end
end
section
open Go Sm
section
variable {m : Mx} {n c : Int} {l : List E3}
end
end
section
open Go Sm
section
variable {m : Mx} {n c : Int} {l : List E3}
end
end
section
open Go Sm
section
variable {c : Cx} {n k : Int} {T : List E3}
theorem getD_some{l:List Int}{i:Nat}{x:Int}(h:l[i]? =some x):l.getD i 0=x:=by rw [List.getD_eq_getElem?_getD,h];rfl
end
end
section
open Go Sm
section
variable {m : Mx} {n k : Int} {l T : List E3} {c : Cx}
end
end
section
open Go Sm
section
variable {m : Mx} {n c : Int} {l : List E3}
end
end
section
open Go Sm
theorem xH{α:Type}[DecidableEq α]{x y:Sl α}(hl:x.l.length<=9223372036854775806){w:Nat}(hx:okS w x)(hy:okS w y){b:Int->Option (Int ⊕ PUnit ⊕ Bool ⊕ Empty)}{P:α->α->Prop}[∀u v,Decidable (P u v)](hP:∀u v,P u v↔u=v)
  (hb:∀a,b a=if a<(x.l.length:Int)then(atS w x a).bind λu=>(atS w y a).bind λv=>if¬P u v then some (.inr (.inr (.inl false)))else some (.inl (IntKind.i64.wrap (a+1)))else some (.inr (.inl ()))):
  (if(x.l.length:Int)≠(y.l.length:Int)then some false else(bu b 0).bind λ(y:PUnit ⊕ Bool ⊕ Empty)=>Sum.elim (λ_=>some true) (λv=>Sum.elim (λv=>some v) (λv=>nE v) v) y)=some (decide (x.l=y.l)):=by
 refine De hl hx hy λa=> ?_;rw [hb];by_cases h:a<(x.l.length:Int)
 .rw [if_pos h,if_pos h]
  cases atS w x a with
  |none=>rfl
  |some u=>
   cases atS w y a with
   |none=>rfl
   |some v=>
    simp only [zbS];by_cases he:u=v
    .rw [if_neg (λhh=>hh ((hP u v).2 he)),if_neg (λhh=>hh he)]
    .rw [if_pos (λhh=>he ((hP u v).1 hh)),if_pos he]
 .rw [if_neg h,if_neg h]
section
variable {m m' : Mx} {n c : Int} {l : List E3}
end
end
section
open Go Sm
section
variable {m : Mx} {n k : Int} {l T : List E3} {c : Cx}
end
end
section
open Go Sm
section
variable {m a : Mx} {n k : Int} {l T : List E3} {c q : Cx}
end
end
section
open Go Sm
abbrev Gr:=Int×Sl E3
theorem II{l:List E3}(p:E3->Bool)(v:Nat->Int){b:Int->Option (Int ⊕ PUnit ⊕ Int ⊕ Empty)}(h1:∀j:Nat,(h:j<l.length)->b j=some (if p l[j]=true then .inl ((j+1:Nat):Int)else .inr (.inr (.inl (v j)))))(h2:b (l.length:Nat)=some (.inr (.inl ()))):
  (l.all p=true/\bu b 0=some (.inl ()))∨(l.all p=false/\∃j,bu b 0=some (.inr (.inl (v j)))):=by
 obtain⟨q,q1,q2⟩:=jG (b:=b) l.length (λj a=>a=(j:Int)/\(l.take j).all p=true) (λq=>(l.all p=true/\q= .inl ())∨(l.all p=false/\∃j,q= .inr (.inl (v j))))
  (by
   rintro j _ hj ⟨rfl,g⟩;rw [h1 j hj];by_cases hp:p l[j]=true
   .refine .inl ⟨_,by rw [if_pos hp],rfl,?_⟩;rw [List.take_succ_eq_append_getElem hj,List.all_append,g];simp [hp]
   .refine .inr ⟨_,by rw [if_neg hp],.inr ⟨Mt hj (by simpa using hp),j,rfl⟩⟩)
  (by
   rintro _ ⟨rfl,g⟩;rw [List.take_length]at g
   exact⟨_,h2,.inl ⟨g,rfl⟩⟩) 0 (Nat.zero_le _) 0 ⟨rfl,rfl⟩
 rw [q1];rcases q2 with⟨a,rfl⟩|⟨a,j,rfl⟩
 .exact .inl ⟨a,rfl⟩
 .exact .inr ⟨a,j,rfl⟩
section
variable {g : Gr}
end
end
section
open Go Sm
section
variable {n : Int} {l : List E3}
end
end
section
open Go Sm
end
section
open Go Sm
end
end Ev
end
noncomputable section
namespace Ev
open Go Sm
def bts(x:Int)(k:Nat):List Int:=(List.range k).map λi=>x / 256 ^ i % 256
theorem aZ(x:Int)(k:Nat):(bts x k).length=k:=by simp [bts]
theorem Bc(x:Int)(k:Nat):bts x (k+1)=bts x k++ [x / 256 ^ k % 256]:=by simp [bts,List.range_succ]
theorem Bd{b:Int×List Int->Option (Int×List Int ⊕ List Int ⊕ Empty)}{x:Int}{k:Nat}
  (hb:∀(i:Nat) (L:List Int),i<k->L.length=k->b ((i:Int),L)=some (.inl (((i+1:Nat):Int),L.set i (x / 256 ^ i % 256))))
  (he:∀L,b ((k:Int),L)=some (.inr (.inl L))):bu b (0,List.replicate k 0)=some (.inl (bts x k)):=by
 refine mt k (λi=>((i:Int),bts x i++List.replicate (k - i) 0)) (by simp [bts]) (λi hi=> ?_) ?_
 .rw [hb i _ hi (by simp [aZ];omega)];congr 3;rw [Bc];obtain⟨d,rfl⟩:∃d,k=i+1+d:=⟨k - (i+1),by omega⟩;rw [show i+1+d - i=d+1 by omega,show i+1+d - (i+1)=d by omega,List.replicate_succ,List.set_append_right _ _ (by rw [aZ];exact Nat.le_refl _),aZ,Nat.sub_self,List.set_cons_zero,List.append_assoc];rfl
 .rw [Nat.sub_self,List.replicate_zero,List.append_nil,he]
theorem IJ(i:Nat)(h:i<8):IntKind.u64.wrap (IntKind.i64.wrap (8*(i:Int)))=((8*i:Nat):Int):=by
 rw [wrap64 (by omega) (by omega),wrap_u64];omega
theorem Bf{k:IntKind}{x:Int}{i:Nat}(h:8*i<=k.bits):zK k x ((8*i:Nat):Int)=some (x / 256 ^ i):=by
 unfold zK LK;rw [if_pos (by omega),Int.toNat_natCast,Nat.min_eq_left h,Int.fdiv_eq_ediv_of_nonneg _ (Int.le_of_lt (Int.pow_pos (by decide))),Int.pow_mul];rfl
theorem zA(n:Int):IntKind.u8.wrap n=n % 256:=by
 simp [IntKind.wrap,IntKind.signed,IntKind.bits]
theorem Bg{n:Int}(h:0<=n/\n<4294967296):IntKind.u32.wrap n=n:=by
 have:IntKind.u32.wrap n=n % 4294967296:=by simp [IntKind.wrap,IntKind.signed,IntKind.bits]
 rw [this,Int.emod_eq_of_lt h.1 h.2]
theorem Lg(x:Int):eW x=some (bts x 4):=by
 rw [uD,mM,vc];have h1:uZ 4=some ():=rfl;rw [h1];simp only [zbS]
 have q:=Bd (b:=dm x 4) (x:=x) (k:=4) (λi L hi hL=>by
  simp only [dm];rw [if_pos (by simp;omega),IJ i (by omega),Bf (by show 8*i<=32;omega),xF (List.getElem?_eq_getElem (by omega))];simp only [zbS];rw [wrap64 (by omega) (by omega),zA]
  rfl) (λL=>by
  simp only [dm]
  rw [if_neg (by simp)])
 rw [show Int.toNat 4=4 from rfl,q];rfl
theorem Lh(x:Int):eX x=some (bts x 8):=by
 rw [uE,oh,vc];have h1:uZ 8=some ():=rfl;rw [h1];simp only [zbS]
 have q:=Bd (b:=dz x 8) (x:=x) (k:=8) (λi L hi hL=>by
  simp only [dz];rw [if_pos (by simp;omega),IJ i (by omega),Bf (by show 8*i<=64;omega),xF (List.getElem?_eq_getElem (by omega))];simp only [zbS];rw [wrap64 (by omega) (by omega),zA]
  rfl) (λL=>by
  simp only [dz]
  rw [if_neg (by simp)])
 rw [show Int.toNat 8=8 from rfl,q];rfl
def b4s(l:List Int):List Int:=l.flatMap λn=>bts n 4
theorem pB(l:List Int):(b4s l).length=4*l.length:=by
 induction l with
 |nil=>rfl
 |cons a r ih=>simp only [b4s,List.flatMap_cons,List.length_append,aZ,List.length_cons]at*;omega
theorem Mu{s:Sl Int}(hs:okS 1 s)(hl:s.l.length<=1000)(h:∀y∈s.l,0<=y/\y<4294967296):eS s=some (b4s s.l):=by
 rw [wW]
 have q:bu (fW s) ([],0)=some (.inl (b4s s.l)):=by
  rw [show b4s s.l=b4s (s.l.take s.l.length)by rw [List.take_length]];refine mt s.l.length (λi=>(b4s (s.l.take i),(i:Int))) (by simp [b4s]) (λi hi=> ?_) ?_
  .simp only [fW];rw [if_pos (by omega),gz hs hi];simp only [zbS];rw [Bg (h _ (List.getElem_mem hi)),Lg];simp only [zbS];rw [fH (by rw [pB,aZ];simp;unfold ck;omega),iM hi (by omega)];simp only [zbS];rw [List.take_succ_eq_append_getElem hi];simp only [b4s,List.flatMap_append,List.flatMap_cons,List.flatMap_nil,List.append_nil]
  .simp only [fW];rw [if_neg (by omega)]
 rw [q];rfl
end Ev
end
noncomputable section
namespace Ev
open Go Sm
def iY(t:Int×Int×Int):List Int:=bts t.1 4++(bts t.2.1 4++bts t.2.2 8)
theorem IK(t:Int×Int×Int):(iY t).length=16:=by simp [iY,aZ]
def Bh:Nat->Int×Int×Int->List (Int×Int×Int)->Prop
 |_,_,[]=>True
 |i,last,t::r=>(0<i->pm last t=true)/\Bh (i+1) t r
def wX(rows cols:Int)(l:List (Int×Int×Int)):List Int:= [70,82,77,49]++(bts rows 4++(bts cols 4++(bts (l.length:Int) 4++l.flatMap iY)))
theorem qY(l:List (Int×Int×Int)):(l.flatMap iY).length=16*l.length:=by
 induction l with
 |nil=>rfl
 |cons a r ih=>rw [List.flatMap_cons,List.length_append,IK,ih,List.length_cons];omega
theorem Bi(rows cols:Int)(l:List (Int×Int×Int)):(wX rows cols l).length=16+16*l.length:=by
 simp only [wX,List.length_append,aZ,qY,List.length_cons,List.length_nil];omega
end Ev
end
end Go.Proofs.YtoamaaicfjkmhaaGreat
