/- Texts of a claim, joined. -/
import Derived.Test.YtkmbihigeeclbaaZFB12
set_option linter.unusedVariables false
set_option linter.unusedSimpArgs false
namespace Go.Proofs.Ytkmbihigeeclbaa
noncomputable section
open Go.RowKit Go.Sort
def RdP(w:World)(a:Option Addr)(l:List (Int×Int)):Prop:=∀(i:Nat) (h:i<l.length),∃b,a=some b/\b.block<w.heap.size/\w.cell? (b.add (i*2))=some (.int .i64 l[i].1)/\w.cell? ⟨b.block,(b.add (i*2)).off+1,none⟩=some (.int .i64 l[i].2)
def RdT(k:IntKind)(w:World)(a:Option Addr)(l:List (Int×Int×Int)):Prop:=∀(i:Nat) (h:i<l.length),∃b,a=some b/\b.block<w.heap.size/\w.cell? (b.add (i*3))=some (.int .i64 l[i].1)/\w.cell? ⟨b.block,(b.add (i*3)).off+1,none⟩=some (.int .i64 l[i].2.1)/\w.cell? ⟨b.block,(b.add (i*3)).off+2,none⟩=some (.int k l[i].2.2)
theorem RdP.below{w w':World}{a:Option Addr}{l:List (Int×Int)}(h:RdP w a l)(hb:Below w.heap.size w w'):RdP w' a l:=λi hi=>by
 obtain⟨b,e,hl,h0,h1⟩:=h i hi;exact⟨b,e,Nat.lt_of_lt_of_le hl hb.size,(hb.cell (by rw [kf];exact hl)).trans h0,(hb.cell (p:=⟨b.block,_,none⟩) hl).trans h1⟩
theorem RdT.below{k:IntKind}{w w':World}{a:Option Addr}{l:List (Int×Int×Int)}(h:RdT k w a l)(hb:Below w.heap.size w w'):RdT k w' a l:=λi hi=>by
 obtain⟨b,e,hl,h0,h1,h2⟩:=h i hi;exact⟨b,e,Nat.lt_of_lt_of_le hl hb.size,(hb.cell (by rw [kf];exact hl)).trans h0,(hb.cell (p:=⟨b.block,_,none⟩) hl).trans h1,(hb.cell (p:=⟨b.block,_,none⟩) hl).trans h2⟩
def itB(e:Int×Int):List Int:=btl e.1 4++btl e.2 8
def suB(e:Int×Int×Int):List Int:=btl e.1 4++(btl e.2.1 8++btl (IntKind.i64.wrap e.2.2) 8)
def trB(e:Int×Int×Int):List Int:=btl e.1 4++(btl e.2.1 4++btl e.2.2 8)
def hdB(x0 x1 x2 x3 x4:Int):List Int:=btl x0 1++(btl x1 1++(btl x2 1++(btl x3 4++btl x4 4)))
def mdB(x5 x6 n k:Int):List Int:=btl x5 1++(btl x6 8++(btl n 4++btl k 4))
def uW(x0 x1 x2 x3 x4 n x6:Int)(x5:Bool)(l7:List (Int×Int))(l8 l9:List (Int×Int×Int)):List Int:=
 (((((hdB x0 x1 x2 x3 x4++mdB (if x5 then 1 else 0) x6 n l7.length)++l7.flatMap itB)++btl l8.length 4)++l8.flatMap suB)++btl l9.length 4)++l9.flatMap trB
abbrev i4(x:Int):Prop:=0<=x/\x<4294967296
abbrev i8(x:Int):Prop:= -9223372036854775808<=x/\x<9223372036854775808
theorem zy(y:Int):i8 (IntKind.i64.wrap y):=by
 unfold IntKind.wrap;simp only [IntKind.signed,IntKind.bits];simp;constructor<;>(split<;>omega)
set_option maxRecDepth 100000 in
set_option maxHeartbeats 4000000 in
theorem yh(x0 x1 x2 x3 x4 n x6 e:Int)(x5:Bool)(a7 a8 a9:Option Addr)(c7 c8 c9:Nat)(l7:List (Int×Int))(l8 l9:List (Int×Int×Int))(w:World)(h7:RdP w a7 l7)(h8:RdT .u64 w a8 l8)(h9:RdT .i64 w a9 l9)
  (r0:0<=x0/\x0<256) (r1:0<=x1/\x1<256) (r2:0<=x2/\x2<256) (r3:i4 x3) (r4:i4 x4) (rn:i4 n) (r6:i8 x6) (r7:∀e∈l7,i4 e.1/\i8 e.2) (r8:∀e∈l8,i4 e.1/\i8 e.2.1) (r9:∀e∈l9,i4 e.1/\i4 e.2.1/\i8 e.2.2) (k7:l7.length<=70000) (k8:l8.length<=70000) (k9:l9.length<=70000)
  (HR:∀W,Below w.heap.size w W->Calls Try.prog 11 #[.agg #[.int .i64 x0,.int .i64 x1,.int .i64 x2,.int .i64 x3,.int .i64 x4,.int .i64 n,.slice a7 l7.length c7,.slice a8 l8.length c8,.slice a9 l9.length c9,.int .i64 x6,.bool x5]] W λx w'=>x= .returned (.int .i64 e)/\Below W.heap.size W w'):
  Calls Try.prog 8 #[.agg #[.int .i64 x0,.int .i64 x1,.int .i64 x2,.int .i64 x3,.int .i64 x4,.int .i64 n,.slice a7 l7.length c7,.slice a8 l8.length c8,.slice a9 l9.length c9,.int .i64 x6,.bool x5]] w λx w'=>
   (if e=0 then∃v,x= .returned (.tuple #[v,.int .i64 0])/\w'.ownsRow (w.heap.size+1) 5 1 v (uW x0 x1 x2 x3 x4 n x6 x5 l7 l8 l9).length (iJ (uW x0 x1 x2 x3 x4 n x6 x5 l7 l8 l9))else x= .returned (.tuple #[.slice none 0 0,.int .i64 e]))/\Below w.heap.size w w':=by
 have hw0:IntKind.u8.wrap x0=x0:=by simp [IntKind.wrap,IntKind.signed,IntKind.bits];omega
 have hw1:IntKind.u8.wrap x1=x1:=by simp [IntKind.wrap,IntKind.signed,IntKind.bits];omega
 have hw2:IntKind.u8.wrap x2=x2:=by simp [IntKind.wrap,IntKind.signed,IntKind.bits];omega
 replace HR:=Lib.hid HR;have HG:=CA x5;obtain⟨f5,hf5⟩:∃f5:Int,f5=(if x5 then 1 else 0):=⟨_,rfl⟩;rw [<-hf5]at HG;have b5:0<=f5/\f5<256:=by rw [hf5];split<;>omega
 replace HG:=Lib.hid HG;replace hf5:=Lib.hid hf5;replace r7:=Lib.hid r7;replace r8:=Lib.hid r8;replace r9:=Lib.hid r9;replace h7:=Lib.hid h7;replace h8:=Lib.hid h8;replace h9:=Lib.hid h9;have B1:=bl1 w (.cells #[.int .i64 x0,.int .i64 x1,.int .i64 x2,.int .i64 x3,.int .i64 x4,.int .i64 n,.slice a7 l7.length c7,.slice a8 l8.length c8,.slice a9 l9.length c9,.int .i64 x6,.bool x5] 29);have hF:CellsAt (w.alloc (.cells #[.int .i64 x0,.int .i64 x1,.int .i64 x2,.int .i64 x3,.int .i64 x4,.int .i64 n,.slice a7 l7.length c7,.slice a8 l8.length c8,.slice a9 l9.length c9,.int .i64 x6,.bool x5] 29)) w.heap.size 29 #[.int .i64 x0,.int .i64 x1,.int .i64 x2,.int .i64 x3,.int .i64 x4,.int .i64 n,.slice a7 l7.length c7,.slice a8 l8.length c8,.slice a9 l9.length c9,.int .i64 x6,.bool x5]:=World.alloc_heap_new w _;have HR1:=Lib.hid (HR.out _ B1);obtain⟨N7,hN7⟩:∃N,N=l7.length:=⟨_,rfl⟩;obtain⟨N8,hN8⟩:∃N,N=l8.length:=⟨_,rfl⟩;obtain⟨N9,hN9⟩:∃N,N=l9.length:=⟨_,rfl⟩;rw [<-hN7,<-hN8,<-hN9]at hF HR1 B1 ⊢;rw [<-hN7]at k7;rw [<-hN8]at k8;rw [<-hN9]at k9;replace hN7:=Lib.hid hN7;replace hN8:=Lib.hid hN8;replace hN9:=Lib.hid hN9
 go_enter Try.func8,Try.ntmps8
 go_wp2_with fail
 refine HR1.out.mono ?_;rintro x V ⟨rfl,hB⟩;have hFV:=hF.below hB;have BV:=B1.trans (hB.mono B1.size);clear HR1 HR hF B1 hB;by_cases he:e=0
 .subst he
  go_wp2_with fail
  have lF:=hFV.lt;have kF:Has V w.heap.size:=hFV.lt;have hB1:w.heap.size+1<=V.heap.size:=lF
  have kp:∀W row,V.grownBy W row->row≠some (w.heap.size)->(W.cell? ⟨w.heap.size,0,none⟩=some (.int .i64 x0)/\W.cell? ⟨w.heap.size,1,none⟩=some (.int .i64 x1)/\W.cell? ⟨w.heap.size,2,none⟩=some (.int .i64 x2)/\W.cell? ⟨w.heap.size,3,none⟩=some (.int .i64 x3)/\W.cell? ⟨w.heap.size,4,none⟩=some (.int .i64 x4)):=λW row g hr=>by
   have h:=hFV.grown g (λe=>hr e.symm);exact⟨h.cell 0,h.cell 1,h.cell 2,h.cell 3,h.cell 4⟩
  have kb:∀W,Below V.heap.size V W->(W.cell? ⟨w.heap.size,0,none⟩=some (.int .i64 x0)/\W.cell? ⟨w.heap.size,1,none⟩=some (.int .i64 x1)/\W.cell? ⟨w.heap.size,2,none⟩=some (.int .i64 x2)/\W.cell? ⟨w.heap.size,3,none⟩=some (.int .i64 x3)/\W.cell? ⟨w.heap.size,4,none⟩=some (.int .i64 x4)):=λW g=>kp W none (ab g none) (by simp);have hS:StJ V V.drew []:=StJ.nil ⟨rfl,rfl,rfl,Nat.le_refl _,λ_ _=>rfl⟩
  go_region_held3 (λW=>W.cell? ⟨w.heap.size,0,none⟩=some (.int .i64 x0)/\W.cell? ⟨w.heap.size,1,none⟩=some (.int .i64 x1)/\W.cell? ⟨w.heap.size,2,none⟩=some (.int .i64 x2)/\W.cell? ⟨w.heap.size,3,none⟩=some (.int .i64 x3)/\W.cell? ⟨w.heap.size,4,none⟩=some (.int .i64 x4)) (first|exact h7S|exact kb _ hS.b|exact kb _ (hS.b.trans ((bl1 _ _).mono hS.b.size))|fail) (first|(go_at_call 21;refine(wG _ (by first|omega|assumption|(split<;>omega)) _).mono ?_;rintro e W' ⟨g,rfl,hge,hbb,hbl⟩;have hS:=StJ.snoc (c:=1) hS hbl hge hbb (by simp [btl]))|(go_at_call 22;refine(qu _ (by first|omega|assumption|(split<;>omega)) _).mono ?_;rintro e W' ⟨g,rfl,hge,hbb,hbl⟩;have hS:=StJ.snoc (c:=4) hS hbl hge hbb (by simp [btl]))|(go_at_call 24;refine(qt _ (by first|omega|assumption|(split<;>omega)) _).mono ?_;rintro e W' ⟨g,rfl,hge,hbb,hbl⟩;have hS:=StJ.snoc (c:=8) hS hbl hge hbb (by simp [btl]))|(go_at_call 23;refine(HG.out _).mono ?_;rintro e W' ⟨rfl,hbl⟩;have hS:=StJ.call hS hbl)|(go_at_call 20;refine(iK (L:= [_,_,_,_,_]) (ys:=hdB x0 x1 x2 x3 x4) hS (by simp) (xs:= []) (Lib.hid rfl) (World.ownsRow_nil V (w.heap.size+1) 5 1) hB1 (by first|decide|omega) (by simp [ls,hdB,mdB,itB,suB,trB])).mono ?_;rintro e V1 ⟨v',z,hz,rfl,hr,hg,hk⟩;obtain⟨bs,cap,rfl⟩:=aG hr;have h7S:=kp _ _ hg (by simp [Value.ownBlock])))
  have hF1:=hFV.grown hg (λe=>by simp [Value.ownBlock]at e);have BV1:=eV BV hg (λk hk=>by simp [Value.ownBlock]at hk);have hz1:=hz;have lz1:z<=11:=by rw [hz.out];simp [hdB,btl]
  obtain⟨H1,hH1⟩:∃H,H=hdB x0 x1 x2 x3 x4:=⟨_,rfl⟩;rw [<-hH1]at hr hz1;replace hH1:=Lib.hid hH1;have hr1:=hr;clear kp kb hS h7S hz hr hg hk hFV BV lF kF hB1 hbb hbl hge
  go_wp2_with fail
  have kF:Has V1 w.heap.size:=hF1.lt;have hB1:w.heap.size+1<=V1.heap.size:=hF1.lt;have hn7:i4 (N7:Int):=⟨by omega,by omega⟩
  have kp:∀W row,V1.grownBy W row->row≠some (w.heap.size)->(W.cell? ⟨w.heap.size,5,none⟩=some (.int .i64 n)/\W.cell? ⟨w.heap.size,6,none⟩=some (.slice a7 N7 c7)/\W.cell? ⟨w.heap.size,9,none⟩=some (.int .i64 x6)/\W.cell? ⟨w.heap.size,10,none⟩=some (.bool x5)):=λW row g hr=>by
   have h:=hF1.grown g (λe=>hr e.symm);exact⟨h.cell 5,h.cell 6,h.cell 9,h.cell 10⟩
  have kb:∀W,Below V1.heap.size V1 W->(W.cell? ⟨w.heap.size,5,none⟩=some (.int .i64 n)/\W.cell? ⟨w.heap.size,6,none⟩=some (.slice a7 N7 c7)/\W.cell? ⟨w.heap.size,9,none⟩=some (.int .i64 x6)/\W.cell? ⟨w.heap.size,10,none⟩=some (.bool x5)):=λW g=>kp W none (ab g none) (by simp);have hS:StJ V1 V1.drew []:=StJ.nil ⟨rfl,rfl,rfl,Nat.le_refl _,λ_ _=>rfl⟩
  go_region_held3 (λW=>W.cell? ⟨w.heap.size,5,none⟩=some (.int .i64 n)/\W.cell? ⟨w.heap.size,6,none⟩=some (.slice a7 N7 c7)/\W.cell? ⟨w.heap.size,9,none⟩=some (.int .i64 x6)/\W.cell? ⟨w.heap.size,10,none⟩=some (.bool x5)) (first|exact h7S|exact kb _ hS.b|exact kb _ (hS.b.trans ((bl1 _ _).mono hS.b.size))|fail) (first|(go_at_call 21;refine(wG _ (by first|omega|assumption|(split<;>omega)) _).mono ?_;rintro e W' ⟨g,rfl,hge,hbb,hbl⟩;have hS:=StJ.snoc (c:=1) hS hbl hge hbb (by simp [btl]))|(go_at_call 22;refine(qu _ (by first|omega|assumption|(split<;>omega)) _).mono ?_;rintro e W' ⟨g,rfl,hge,hbb,hbl⟩;have hS:=StJ.snoc (c:=4) hS hbl hge hbb (by simp [btl]))|(go_at_call 24;refine(qt _ (by first|omega|assumption|(split<;>omega)) _).mono ?_;rintro e W' ⟨g,rfl,hge,hbb,hbl⟩;have hS:=StJ.snoc (c:=8) hS hbl hge hbb (by simp [btl]))|(go_at_call 23;refine(HG.out _).mono ?_;rintro e W' ⟨rfl,hbl⟩;have hS:=StJ.call hS hbl)|(go_at_call 20;refine(iK (L:= [_,_,_,_]) (ys:=H1++mdB f5 x6 n N7) hS (by simp) hz1 hr1 hB1 (by first|decide|omega) (by simp [ls,hdB,mdB,itB,suB,trB])).mono ?_;rintro e V2 ⟨v',z,hz,rfl,hr,hg,hk⟩;obtain⟨bs,cap,rfl⟩:=aG hr;have h7S:=kp _ _ hg (λe=>by have:=hk _ e;omega)))
  have hF2:=hF1.grown hg (λe=>by have:=hk _ e.symm;omega);have BV2:=eV BV1 hg (λk h=>by have:=hk k h;omega);have lz2:z<=28:=by rw [hz.out,List.length_append,<-hz1.out];simp [mdB,btl];omega
  obtain⟨H2,hH2⟩:∃H,H=H1++mdB f5 x6 n N7:=⟨_,rfl⟩;rw [<-hH2]at hr hz;replace hH2:=Lib.hid hH2;have hz2:=hz;have hr2:=hr;clear kp kb hS h7S hz hr hg hk hF1 BV1 kF hB1 hbb hbl hge hr1 hz1;have g6:=hF2.cell 6;have kF:Has V2 w.heap.size:=hF2.lt;have g6:=hF2.cell 6;have kF6:Has V2 w.heap.size:=hF2.lt
  go_wp2_with fail
  go_loopw [5,60] (λu y wr=>∃(i q:Nat) (xs:List Int),y= .int .i64 i/\i<=N7/\Hid (xs=H2++(l7.take i).flatMap itB)/\Hid (q=xs.length)/\q<=28+12*i/\wr.ownsRow (w.heap.size+1) 5 1 u q (iJ xs)/\CellsAt wr w.heap.size 29 #[.int .i64 x0,.int .i64 x1,.int .i64 x2,.int .i64 x3,.int .i64 x4,.int .i64 n,.slice a7 N7 c7,.slice a8 N8 c8,.slice a9 N9 c9,.int .i64 x6,.bool x5]/\Below w.heap.size w wr) (λ_ y _=>N7 - (intOf y).toNat)
  case atStart=>
   exact⟨0,_,H2,rfl,Nat.zero_le _,Lib.hid (by simp),hz2,by omega,hr2,hF2,BV2⟩
  case round=>
   clear hr2 hF2 BV2 hz2 g6 kF6 lz2;obtain⟨i,q,xs,rfl,hik,hxs,hq,hql,hrow,hFr,hB⟩:=hrel;by_cases hlt:i<N7
   .have hlt':(i:Int)<(N7:Int):=by omega
    have hil:i<l7.length:=by rw [<-hN7.out];exact hlt
    obtain⟨b,hb,lb,d0,d1⟩:=(h7.out.below hB) i hil;subst hb;obtain⟨e,he⟩:∃e,e=l7[i]:=⟨_,rfl⟩;have hem:=r7.out e (by rw [he];exact List.getElem_mem hil);rw [<-he]at d0 d1;have hbt:Hid ((l7.take (i+1)).flatMap itB=(l7.take i).flatMap itB++itB e):=Lib.hid (by rw [List.take_succ_eq_append_getElem hil,<-he];simp);clear he;obtain⟨y0,y1⟩:=e;have kb:Has wr b.block:=lb;replace d0:wr.cell? (b.add (i*2))=some (.int .i64 y0):=d0;replace d1:wr.cell? ⟨b.block,(b.add (i*2)).off+1,none⟩=some (.int .i64 y1):=d1;have m0:i4 y0:=hem.1;have m1:i8 y1:=hem.2;have BA:=bl1 wr (.cells #[.int .i64 y0,.int .i64 y1] 56);have hX:CellsAt (wr.alloc (.cells #[.int .i64 y0,.int .i64 y1] 56)) wr.heap.size 56 #[.int .i64 y0,.int .i64 y1]:=World.alloc_heap_new wr _;have hrow1:=hrow.alloc (.cells #[.int .i64 y0,.int .i64 y1] 56);have hFr1:=hFr.below BA;have hB2:=hB.trans (BA.mono hB.size);have hnX:∀g,Value.ownBlock _=some g->g≠wr.heap.size:=λg hg=>by have:=(hrow.lt g hg).2;omega
    have lX:w.heap.size+1<=wr.heap.size:=hFr.lt;clear hem hrow hFr hB BA
    go_wp2_with fail
    have kXB:=hX.lt;generalize wr.alloc (.cells #[.int .i64 y0,.int .i64 y1] 56)=W1 at hX hrow1 hFr1 hB2 kXB ⊢;generalize wr.heap.size=XB at hX hnX lX kXB ⊢;have kX:Has W1 XB:=kXB;have hB1:w.heap.size+1<=W1.heap.size:=by omega
    clear d0 d1 kb lb
    have kp:∀W row,W1.grownBy W row->row≠some (XB)->(W.cell? ⟨XB,0,none⟩=some (.int .i64 y0)/\W.cell? ⟨XB,1,none⟩=some (.int .i64 y1)):=λW row g hr=>by
     have h:=hX.grown g (λe=>hr e.symm);exact⟨h.cell 0,h.cell 1⟩
    have kb:∀W,Below W1.heap.size W1 W->(W.cell? ⟨XB,0,none⟩=some (.int .i64 y0)/\W.cell? ⟨XB,1,none⟩=some (.int .i64 y1)):=λW g=>kp W none (ab g none) (by simp);have hS:StJ W1 W1.drew []:=StJ.nil ⟨rfl,rfl,rfl,Nat.le_refl _,λ_ _=>rfl⟩
    go_region_held3 (λW=>W.cell? ⟨XB,0,none⟩=some (.int .i64 y0)/\W.cell? ⟨XB,1,none⟩=some (.int .i64 y1)) (first|exact h7S|exact kb _ hS.b|exact kb _ (hS.b.trans ((bl1 _ _).mono hS.b.size))|fail) (first|(go_at_call 21;refine(wG _ (by first|omega|assumption|(split<;>omega)) _).mono ?_;rintro e W' ⟨g,rfl,hge,hbb,hbl⟩;have hS:=StJ.snoc (c:=1) hS hbl hge hbb (by simp [btl]))|(go_at_call 22;refine(qu _ (by first|omega|assumption|(split<;>omega)) _).mono ?_;rintro e W' ⟨g,rfl,hge,hbb,hbl⟩;have hS:=StJ.snoc (c:=4) hS hbl hge hbb (by simp [btl]))|(go_at_call 24;refine(qt _ (by first|omega|assumption|(split<;>omega)) _).mono ?_;rintro e W' ⟨g,rfl,hge,hbb,hbl⟩;have hS:=StJ.snoc (c:=8) hS hbl hge hbb (by simp [btl]))|(go_at_call 23;refine(HG.out _).mono ?_;rintro e W' ⟨rfl,hbl⟩;have hS:=StJ.call hS hbl)|(go_at_call 20;refine(iK (L:= [_,_]) (ys:=xs++itB (y0,y1)) hS (by simp) hq hrow1 hB1 (by first|decide|omega) (by simp [ls,hdB,mdB,itB,suB,trB])).mono ?_;rintro e W2 ⟨v',z,hz,rfl,hr,hg,hk⟩;obtain⟨bs,cap,rfl⟩:=aG hr;have h7S:=kp _ _ hg (λe=>hnX _ e rfl)))
    have hF3:=hFr1.grown hg (λe=>by have:=hk _ e.symm;omega);have BV3:=eV hB2 hg (λk h=>by have:=hk k h;omega);have lz3:z<=28+12*(i+1):=by rw [hz.out,List.length_append,<-hq.out];simp [itB,btl];omega
    have hx3:Hid (xs++itB (y0,y1)=H2++(l7.take (i+1)).flatMap itB):=Lib.hid (by rw [hbt.out,hxs.out,List.append_assoc]);clear kp kb hS h7S hxs hq hbt hX hrow1 hnX hk hbb hbl hge hg
    go_wp2_with fail
    refine⟨?_,by simp [intOf];omega⟩;exact⟨i+1,z,xs++itB (y0,y1),by simp,by omega,hx3,hz,lz3,hr,hF3,BV3⟩
   .obtain rfl:N7=i:=by omega
    obtain⟨H3,eH3⟩:∃H,H=xs:=⟨_,rfl⟩;have hH3:Hid (H3=H2++l7.flatMap itB):=Lib.hid (by rw [eH3,hxs.out,hN7.out,List.take_length]);rw [<-eH3]at hrow hq;clear eH3 hxs;obtain⟨bs,cap,rfl⟩:=aG hrow;have gc:=hFr.cell 7;have kF:Has wr w.heap.size:=hFr.lt;have hB1:w.heap.size+1<=wr.heap.size:=hFr.lt;have hnN:i4 (N8:Int):=⟨by omega,by omega⟩;have C:=Lib.hid (qu (N8:Int) hnN wr)
    go_wp2_with fail
    refine C.out.mono ?_;rintro x W' ⟨g,rfl,hge,hbb,hbl⟩;have hS:=StJ.snoc (c:=4) (StJ.nil (Below.refl _ _):StJ wr wr []) hbl hge hbb (by simp [btl]);have D:=Lib.hid (iK (L:= [(⟨g,0,none⟩,4,btl (N8:Int) 4)]) (ys:=H3++btl (N8:Int) 4) hS (by simp) hq hrow hB1 (by omega) (by simp [ls]));clear C gc
    go_wp2_with fail
    refine D.out.mono ?_;rintro x V4 ⟨v',z,hz,rfl,hr,hg,hk⟩;obtain⟨bs2,cap2,rfl⟩:=aG hr;have hF7:=hFr.grown hg (λe=>by have:=hk _ e.symm;omega);have BV7:=eV hB hg (λk h=>by have:=hk k h;omega);have lz7:z<=q+4:=by rw [hz.out,List.length_append,<-hq.out];simp [btl]
    obtain⟨H4,hH4⟩:∃H,H=H3++btl (N8:Int) 4:=⟨_,rfl⟩;rw [<-hH4]at hr hz;replace hH4:=Lib.hid hH4;have hz7:=hz;have hr7:=hr;clear D hS hz hr hg hk hbb hbl hge hFr hB hrow hq kF hB1 hnN;have g7:=hF7.cell 7;have kF7:Has V4 w.heap.size:=hF7.lt
    go_wp2_with fail
    go_loopw [5,84] (λu y wr=>∃(i q:Nat) (xs:List Int),y= .int .i64 i/\i<=N8/\Hid (xs=H4++(l8.take i).flatMap suB)/\Hid (q=xs.length)/\q<=900000+20*i/\wr.ownsRow (w.heap.size+1) 5 1 u q (iJ xs)/\CellsAt wr w.heap.size 29 #[.int .i64 x0,.int .i64 x1,.int .i64 x2,.int .i64 x3,.int .i64 x4,.int .i64 n,.slice a7 N7 c7,.slice a8 N8 c8,.slice a9 N9 c9,.int .i64 x6,.bool x5]/\Below w.heap.size w wr) (λ_ y _=>N8 - (intOf y).toNat)
    case atStart=>
     exact⟨0,_,H4,rfl,Nat.zero_le _,Lib.hid (by simp),hz7,by omega,hr7,hF7,BV7⟩
    case round=>
     clear hr7 hF7 BV7 hz7 g7 kF7 lz7;obtain⟨i,q,xs,rfl,hik,hxs,hq,hql,hrow,hFr,hB⟩:=hrel;by_cases hlt:i<N8
     .have hlt':(i:Int)<(N8:Int):=by omega
      have hil:i<l8.length:=by rw [<-hN8.out];exact hlt
      obtain⟨b,hb,lb,d0,d1,d2⟩:=(h8.out.below hB) i hil;subst hb;obtain⟨e,he⟩:∃e,e=l8[i]:=⟨_,rfl⟩;have hem:=r8.out e (by rw [he];exact List.getElem_mem hil);rw [<-he]at d0 d1 d2;have hbt:Hid ((l8.take (i+1)).flatMap suB=(l8.take i).flatMap suB++suB e):=Lib.hid (by rw [List.take_succ_eq_append_getElem hil,<-he];simp);clear he;obtain⟨y0,y1,y2⟩:=e;have kb:Has wr b.block:=lb;replace d0:wr.cell? (b.add (i*3))=some (.int .i64 y0):=d0;replace d1:wr.cell? ⟨b.block,(b.add (i*3)).off+1,none⟩=some (.int .i64 y1):=d1;replace d2:wr.cell? ⟨b.block,(b.add (i*3)).off+2,none⟩=some (.int .u64 y2):=d2;have m0:i4 y0:=hem.1;have m1:i8 y1:=hem.2;have m2:i8 (IntKind.i64.wrap y2):=zy y2;have BA:=bl1 wr (.cells #[.int .i64 y0,.int .i64 y1,.int .u64 y2] 61);have hX:CellsAt (wr.alloc (.cells #[.int .i64 y0,.int .i64 y1,.int .u64 y2] 61)) wr.heap.size 61 #[.int .i64 y0,.int .i64 y1,.int .u64 y2]:=World.alloc_heap_new wr _;have hrow1:=hrow.alloc (.cells #[.int .i64 y0,.int .i64 y1,.int .u64 y2] 61);have hFr1:=hFr.below BA;have hB2:=hB.trans (BA.mono hB.size);have hnX:∀g,Value.ownBlock _=some g->g≠wr.heap.size:=λg hg=>by have:=(hrow.lt g hg).2;omega
      have lX:w.heap.size+1<=wr.heap.size:=hFr.lt;clear hem hrow hFr hB BA
      go_wp2_with fail
      have kXB:=hX.lt;generalize wr.alloc (.cells #[.int .i64 y0,.int .i64 y1,.int .u64 y2] 61)=W1 at hX hrow1 hFr1 hB2 kXB ⊢;generalize wr.heap.size=XB at hX hnX lX kXB ⊢;have kX:Has W1 XB:=kXB;have hB1:w.heap.size+1<=W1.heap.size:=by omega
      clear d0 d1 d2 kb lb
      have kp:∀W row,W1.grownBy W row->row≠some (XB)->(W.cell? ⟨XB,0,none⟩=some (.int .i64 y0)/\W.cell? ⟨XB,1,none⟩=some (.int .i64 y1)/\W.cell? ⟨XB,2,none⟩=some (.int .u64 y2)):=λW row g hr=>by
       have h:=hX.grown g (λe=>hr e.symm);exact⟨h.cell 0,h.cell 1,h.cell 2⟩
      have kb:∀W,Below W1.heap.size W1 W->(W.cell? ⟨XB,0,none⟩=some (.int .i64 y0)/\W.cell? ⟨XB,1,none⟩=some (.int .i64 y1)/\W.cell? ⟨XB,2,none⟩=some (.int .u64 y2)):=λW g=>kp W none (ab g none) (by simp);have hS:StJ W1 W1.drew []:=StJ.nil ⟨rfl,rfl,rfl,Nat.le_refl _,λ_ _=>rfl⟩
      go_region_held3 (λW=>W.cell? ⟨XB,0,none⟩=some (.int .i64 y0)/\W.cell? ⟨XB,1,none⟩=some (.int .i64 y1)/\W.cell? ⟨XB,2,none⟩=some (.int .u64 y2)) (first|exact h7S|exact kb _ hS.b|exact kb _ (hS.b.trans ((bl1 _ _).mono hS.b.size))|fail) (first|(go_at_call 21;refine(wG _ (by first|omega|assumption|(split<;>omega)) _).mono ?_;rintro e W' ⟨g,rfl,hge,hbb,hbl⟩;have hS:=StJ.snoc (c:=1) hS hbl hge hbb (by simp [btl]))|(go_at_call 22;refine(qu _ (by first|omega|assumption|(split<;>omega)) _).mono ?_;rintro e W' ⟨g,rfl,hge,hbb,hbl⟩;have hS:=StJ.snoc (c:=4) hS hbl hge hbb (by simp [btl]))|(go_at_call 24;refine(qt _ (by first|omega|assumption|(split<;>omega)) _).mono ?_;rintro e W' ⟨g,rfl,hge,hbb,hbl⟩;have hS:=StJ.snoc (c:=8) hS hbl hge hbb (by simp [btl]))|(go_at_call 23;refine(HG.out _).mono ?_;rintro e W' ⟨rfl,hbl⟩;have hS:=StJ.call hS hbl)|(go_at_call 20;refine(iK (L:= [_,_,_]) (ys:=xs++suB (y0,y1,y2)) hS (by simp) hq hrow1 hB1 (by first|decide|omega) (by simp [ls,hdB,mdB,itB,suB,trB])).mono ?_;rintro e W2 ⟨v',z,hz,rfl,hr,hg,hk⟩;obtain⟨bs,cap,rfl⟩:=aG hr;have h7S:=kp _ _ hg (λe=>hnX _ e rfl)))
      have hF3:=hFr1.grown hg (λe=>by have:=hk _ e.symm;omega);have BV3:=eV hB2 hg (λk h=>by have:=hk k h;omega);have lz3:z<=900000+20*(i+1):=by rw [hz.out,List.length_append,<-hq.out];simp [suB,btl];omega
      have hx3:Hid (xs++suB (y0,y1,y2)=H4++(l8.take (i+1)).flatMap suB):=Lib.hid (by rw [hbt.out,hxs.out,List.append_assoc]);clear kp kb hS h7S hxs hq hbt hX hrow1 hnX hk hbb hbl hge hg
      go_wp2_with fail
      refine⟨?_,by simp [intOf];omega⟩;exact⟨i+1,z,xs++suB (y0,y1,y2),by simp,by omega,hx3,hz,lz3,hr,hF3,BV3⟩
     .obtain rfl:N8=i:=by omega
      obtain⟨H5,eH5⟩:∃H,H=xs:=⟨_,rfl⟩;have hH5:Hid (H5=H4++l8.flatMap suB):=Lib.hid (by rw [eH5,hxs.out,hN8.out,List.take_length]);rw [<-eH5]at hrow hq;clear eH5 hxs;obtain⟨bs,cap,rfl⟩:=aG hrow;have gc:=hFr.cell 8;have kF:Has wr w.heap.size:=hFr.lt;have hB1:w.heap.size+1<=wr.heap.size:=hFr.lt;have hnN:i4 (N9:Int):=⟨by omega,by omega⟩;have C:=Lib.hid (qu (N9:Int) hnN wr)
      go_wp2_with fail
      refine C.out.mono ?_;rintro x W' ⟨g,rfl,hge,hbb,hbl⟩;have hS:=StJ.snoc (c:=4) (StJ.nil (Below.refl _ _):StJ wr wr []) hbl hge hbb (by simp [btl]);have D:=Lib.hid (iK (L:= [(⟨g,0,none⟩,4,btl (N9:Int) 4)]) (ys:=H5++btl (N9:Int) 4) hS (by simp) hq hrow hB1 (by omega) (by simp [ls]));clear C gc
      go_wp2_with fail
      refine D.out.mono ?_;rintro x V6 ⟨v',z,hz,rfl,hr,hg,hk⟩;obtain⟨bs2,cap2,rfl⟩:=aG hr;have hF8:=hFr.grown hg (λe=>by have:=hk _ e.symm;omega);have BV8:=eV hB hg (λk h=>by have:=hk k h;omega);have lz8:z<=q+4:=by rw [hz.out,List.length_append,<-hq.out];simp [btl]
      obtain⟨H6,hH6⟩:∃H,H=H5++btl (N9:Int) 4:=⟨_,rfl⟩;rw [<-hH6]at hr hz;replace hH6:=Lib.hid hH6;have hz8:=hz;have hr8:=hr;clear D hS hz hr hg hk hbb hbl hge hFr hB hrow hq kF hB1 hnN;have g8:=hF8.cell 8;have kF8:Has V6 w.heap.size:=hF8.lt
      go_wp2_with fail
      go_loopw [5,114] (λu y wr=>∃(i q:Nat) (xs:List Int),y= .int .i64 i/\i<=N9/\Hid (xs=H6++(l9.take i).flatMap trB)/\Hid (q=xs.length)/\q<=2400000+16*i/\wr.ownsRow (w.heap.size+1) 5 1 u q (iJ xs)/\CellsAt wr w.heap.size 29 #[.int .i64 x0,.int .i64 x1,.int .i64 x2,.int .i64 x3,.int .i64 x4,.int .i64 n,.slice a7 N7 c7,.slice a8 N8 c8,.slice a9 N9 c9,.int .i64 x6,.bool x5]/\Below w.heap.size w wr) (λ_ y _=>N9 - (intOf y).toNat)
      case atStart=>
       exact⟨0,_,H6,rfl,Nat.zero_le _,Lib.hid (by simp),hz8,by omega,hr8,hF8,BV8⟩
      case round=>
       clear hr8 hF8 BV8 hz8 g8 kF8 lz8;obtain⟨i,q,xs,rfl,hik,hxs,hq,hql,hrow,hFr,hB⟩:=hrel;by_cases hlt:i<N9
       .have hlt':(i:Int)<(N9:Int):=by omega
        have hil:i<l9.length:=by rw [<-hN9.out];exact hlt
        obtain⟨b,hb,lb,d0,d1,d2⟩:=(h9.out.below hB) i hil;subst hb;obtain⟨e,he⟩:∃e,e=l9[i]:=⟨_,rfl⟩;have hem:=r9.out e (by rw [he];exact List.getElem_mem hil);rw [<-he]at d0 d1 d2;have hbt:Hid ((l9.take (i+1)).flatMap trB=(l9.take i).flatMap trB++trB e):=Lib.hid (by rw [List.take_succ_eq_append_getElem hil,<-he];simp);clear he;obtain⟨y0,y1,y2⟩:=e;have kb:Has wr b.block:=lb;replace d0:wr.cell? (b.add (i*3))=some (.int .i64 y0):=d0;replace d1:wr.cell? ⟨b.block,(b.add (i*3)).off+1,none⟩=some (.int .i64 y1):=d1;replace d2:wr.cell? ⟨b.block,(b.add (i*3)).off+2,none⟩=some (.int .i64 y2):=d2;have m0:i4 y0:=hem.1;have m1:i4 y1:=hem.2.1;have m2:i8 y2:=hem.2.2;have BA:=bl1 wr (.cells #[.int .i64 y0,.int .i64 y1,.int .i64 y2] 63);have hX:CellsAt (wr.alloc (.cells #[.int .i64 y0,.int .i64 y1,.int .i64 y2] 63)) wr.heap.size 63 #[.int .i64 y0,.int .i64 y1,.int .i64 y2]:=World.alloc_heap_new wr _;have hrow1:=hrow.alloc (.cells #[.int .i64 y0,.int .i64 y1,.int .i64 y2] 63);have hFr1:=hFr.below BA;have hB2:=hB.trans (BA.mono hB.size);have hnX:∀g,Value.ownBlock _=some g->g≠wr.heap.size:=λg hg=>by have:=(hrow.lt g hg).2;omega
        have lX:w.heap.size+1<=wr.heap.size:=hFr.lt;clear hem hrow hFr hB BA
        go_wp2_with fail
        have kXB:=hX.lt;generalize wr.alloc (.cells #[.int .i64 y0,.int .i64 y1,.int .i64 y2] 63)=W1 at hX hrow1 hFr1 hB2 kXB ⊢;generalize wr.heap.size=XB at hX hnX lX kXB ⊢;have kX:Has W1 XB:=kXB;have hB1:w.heap.size+1<=W1.heap.size:=by omega
        clear d0 d1 d2 kb lb
        have kp:∀W row,W1.grownBy W row->row≠some (XB)->(W.cell? ⟨XB,0,none⟩=some (.int .i64 y0)/\W.cell? ⟨XB,1,none⟩=some (.int .i64 y1)/\W.cell? ⟨XB,2,none⟩=some (.int .i64 y2)):=λW row g hr=>by
         have h:=hX.grown g (λe=>hr e.symm);exact⟨h.cell 0,h.cell 1,h.cell 2⟩
        have kb:∀W,Below W1.heap.size W1 W->(W.cell? ⟨XB,0,none⟩=some (.int .i64 y0)/\W.cell? ⟨XB,1,none⟩=some (.int .i64 y1)/\W.cell? ⟨XB,2,none⟩=some (.int .i64 y2)):=λW g=>kp W none (ab g none) (by simp);have hS:StJ W1 W1.drew []:=StJ.nil ⟨rfl,rfl,rfl,Nat.le_refl _,λ_ _=>rfl⟩
        go_region_held3 (λW=>W.cell? ⟨XB,0,none⟩=some (.int .i64 y0)/\W.cell? ⟨XB,1,none⟩=some (.int .i64 y1)/\W.cell? ⟨XB,2,none⟩=some (.int .i64 y2)) (first|exact h7S|exact kb _ hS.b|exact kb _ (hS.b.trans ((bl1 _ _).mono hS.b.size))|fail) (first|(go_at_call 21;refine(wG _ (by first|omega|assumption|(split<;>omega)) _).mono ?_;rintro e W' ⟨g,rfl,hge,hbb,hbl⟩;have hS:=StJ.snoc (c:=1) hS hbl hge hbb (by simp [btl]))|(go_at_call 22;refine(qu _ (by first|omega|assumption|(split<;>omega)) _).mono ?_;rintro e W' ⟨g,rfl,hge,hbb,hbl⟩;have hS:=StJ.snoc (c:=4) hS hbl hge hbb (by simp [btl]))|(go_at_call 24;refine(qt _ (by first|omega|assumption|(split<;>omega)) _).mono ?_;rintro e W' ⟨g,rfl,hge,hbb,hbl⟩;have hS:=StJ.snoc (c:=8) hS hbl hge hbb (by simp [btl]))|(go_at_call 23;refine(HG.out _).mono ?_;rintro e W' ⟨rfl,hbl⟩;have hS:=StJ.call hS hbl)|(go_at_call 20;refine(iK (L:= [_,_,_]) (ys:=xs++trB (y0,y1,y2)) hS (by simp) hq hrow1 hB1 (by first|decide|omega) (by simp [ls,hdB,mdB,itB,suB,trB])).mono ?_;rintro e W2 ⟨v',z,hz,rfl,hr,hg,hk⟩;obtain⟨bs,cap,rfl⟩:=aG hr;have h7S:=kp _ _ hg (λe=>hnX _ e rfl)))
        have hF3:=hFr1.grown hg (λe=>by have:=hk _ e.symm;omega);have BV3:=eV hB2 hg (λk h=>by have:=hk k h;omega);have lz3:z<=2400000+16*(i+1):=by rw [hz.out,List.length_append,<-hq.out];simp [trB,btl];omega
        have hx3:Hid (xs++trB (y0,y1,y2)=H6++(l9.take (i+1)).flatMap trB):=Lib.hid (by rw [hbt.out,hxs.out,List.append_assoc]);clear kp kb hS h7S hxs hq hbt hX hrow1 hnX hk hbb hbl hge hg
        go_wp2_with fail
        refine⟨?_,by simp [intOf];omega⟩;exact⟨i+1,z,xs++trB (y0,y1,y2),by simp,by omega,hx3,hz,lz3,hr,hF3,BV3⟩
       .obtain rfl:N9=i:=by omega
        obtain⟨H7,eH7⟩:∃H,H=xs:=⟨_,rfl⟩;have hH7:Hid (H7=H6++l9.flatMap trB):=Lib.hid (by rw [eH7,hxs.out,hN9.out,List.take_length]);rw [<-eH7]at hrow hq;clear eH7 hxs;obtain⟨bs,cap,rfl⟩:=aG hrow
        go_wp2_with fail
        (try simp only [Exit.inBlock,Exit.then])
        refine bodyPost_ret (v:= .tuple #[.slice bs q cap,.int .i64 0]) (by simp [results,Try.results8,go_sem]) rfl ⟨?_,hB⟩
        (try rw [if_pos rfl])
        have hEnd:H7=uW x0 x1 x2 x3 x4 n x6 x5 l7 l8 l9:=by rw [hH7.out,hH6.out,hH5.out,hH4.out,hH3.out,hH2.out,hH1.out,hf5.out,hN9.out,hN8.out,hN7.out];rfl
        rw [hEnd]at hrow hq;exact⟨_,rfl,by rw [<-hq.out];exact hrow⟩
 .go_wp2_with fail
  (try simp only [Exit.inBlock,Exit.then])
  refine bodyPost_ret (v:= .tuple #[.slice none 0 0,.int .i64 e]) (by simp [results,Try.results8,go_sem]) rfl ⟨?_,BV⟩
  first|rfl|(rw [if_neg he])
end
noncomputable section
namespace Sm
abbrev V:=Int×Int
structure Rg where
 o:Int->V
 ad:V->V->V
 na:V->Int×Bool
abbrev Ky:=Int×Int
def key(e:Int×Int×Int):Ky:=(e.1,e.2.1)
def klt(a b:Ky):Bool:=decide (a.1<b.1∨a.1=b.1/\a.2<b.2)
def upd(R:Rg)(f:Ky->Option V)(e:Int×Int×Int):Ky->Option V:=λk=>if k=key e then some (match f (key e)with|some s=>R.ad s (R.o e.2.2)|none=>R.o e.2.2)else f k
def ins(R:Rg):List (Ky×V)->(Int×Int×Int)->List (Ky×V)
 | [],e=> [(key e,R.o e.2.2)]
 |p::S,e=>if klt p.1 (key e)=true then p::ins R S e else if klt (key e) p.1=true then(key e,R.o e.2.2)::p::S else(p.1,R.ad p.2 (R.o e.2.2))::S
end Sm
end
noncomputable section
open Go.RowKit Go.Sort
namespace Sm
open Ev
@[go_sem] abbrev WV (p:V):Value:= .agg #[.int .i64 p.1,.int .u64 p.2]
def orI(x y:Int):Int:=if x=0 then y else x
theorem mA(a:Addr)(k:Nat):a.add (k+1)=⟨a.block,(a.add k).off+1,none⟩:=by
 unfold Addr.add;by_cases h:k=0
 .subst h;simp
 .simp [h];omega
def PT:T->Option Value
 | .v x=>if x.oneCell' then some x else none
 | .s _ _ _=>none
def PTs:List T->Option (List Value)
 | []=>some []
 |t::r=>(PT t).bind λx=>(PTs r).map (x::·)
def PD:TD->Option Value
 | .one t=>PT t
 | .agg ts=>(PTs ts).map λl=> .agg l.toArray
theorem CD{t:T}{x:Value}(h:PT t=some x)(w:World)(F:Nat->Prop):RepT w F t x/\∀y,RepT w F t y->y=x:=by
 cases t with
 |s=>simp [PT]at h
 |v z=>
  simp only [PT]at h;split at h
  .rename_i hz;cases h;exact⟨.v _ hz,λy hy=>by cases hy;rfl⟩
  .simp at h
theorem zA:∀{ts:List T} {l:List Value},PTs ts=some l->∀(w:World) (F:Nat->Prop),RepTs w F ts l/\∀ys,RepTs w F ts ys->ys=l
 | [],l,h,w,F=>by
  simp [PTs]at h;subst h;exact⟨⟨rfl,by simp⟩,λys hy=>by have:=hy.1;simpa using this.symm⟩
 |t::r,l,h,w,F=>by
  simp only [PTs,zbE,Option.map_eq_some_iff]at h;obtain⟨x,hx,l',hl,rfl⟩:=h;obtain⟨h1,h2⟩:=CD hx w F;obtain⟨h3,h4⟩:=zA hl w F;refine⟨⟨by simp [h3.1],λi t' hi=> ?_⟩,λys hy=> ?_⟩
  .cases i with
   |zero=>simp at hi;subst hi;exact⟨x,rfl,h1⟩
   |succ i=>obtain⟨y,e1,e2⟩:=h3.2 i t' (by simpa using hi);exact⟨y,by simpa using e1,e2⟩
  .obtain⟨hl,hy⟩:=hy
   cases ys with
   |nil=>simp at hl
   |cons y ys=>
    obtain⟨y',e1,e2⟩:=hy 0 t rfl;simp at e1;subst e1
    rw [h2 _ e2,h4 ys ⟨by simpa using hl,λi t' hi=>by
     obtain⟨z,f1,f2⟩:=hy (i+1) t' (by simpa using hi)
     exact⟨z,by simpa using f1,f2⟩⟩]
theorem CE{t:TD}{x:Value}(h:PD t=some x)(w:World)(F:Nat->Prop):RepTD w F t x/\∀y,RepTD w F t y->y=x:=by
 cases t with
 |one t=>
  obtain⟨h1,h2⟩:=CD h w F;exact⟨.one _ _ h1,λy hy=>by cases hy with|one _ _ hy=>exact h2 _ hy⟩
 |agg ts=>
  simp only [PD,Option.map_eq_some_iff]at h;obtain⟨l,hl,rfl⟩:=h;obtain⟨h1,h2⟩:=zA hl w F;exact⟨.agg _ _ h1,λy hy=>by cases hy with|agg _ ys hy=>rw [h2 _ hy]⟩
def PDs:List TD->Option (List Value)
 | []=>some []
 |t::r=>(PD t).bind λx=>(PDs r).map (x::·)
theorem uX:∀{ts:List TD} {l:List Value},PDs ts=some l->∀(w:World) (F:Nat->Prop),gO w F ts l/\∀ys,gO w F ts ys->ys=l
 | [],l,h,w,F=>by
  simp [PDs]at h;subst h;exact⟨⟨rfl,by simp⟩,λys hy=>by have:=hy.1;simpa using this.symm⟩
 |t::r,l,h,w,F=>by
  simp only [PDs,zbE,Option.map_eq_some_iff]at h;obtain⟨x,hx,l',hl,rfl⟩:=h;obtain⟨h1,h2⟩:=CE hx w F;obtain⟨h3,h4⟩:=uX hl w F;refine⟨⟨by simp [h3.1],λi t' hi=> ?_⟩,λys hy=> ?_⟩
  .cases i with
   |zero=>simp at hi;subst hi;exact⟨x,rfl,h1⟩
   |succ i=>obtain⟨y,e1,e2⟩:=h3.2 i t' (by simpa using hi);exact⟨y,by simpa using e1,e2⟩
  .obtain⟨hl,hy⟩:=hy
   cases ys with
   |nil=>simp at hl
   |cons y ys=>
    obtain⟨y',e1,e2⟩:=hy 0 t rfl;simp at e1;subst e1
    rw [h2 _ e2,h4 ys ⟨by simpa using hl,λi t' hi=>by
     obtain⟨z,f1,f2⟩:=hy (i+1) t' (by simpa using hi)
     exact⟨z,by simpa using f1,f2⟩⟩]
def PR:List TD->Option Value
 | [r]=>PD r
 |rs=>(PDs rs).map λl=> .tuple l.toArray
theorem Ih{rs:List TD}{x:Value}(h:PR rs=some x)(w:World)(F:Nat->Prop){y:Value}(hy:lf w F rs y):y=x:=by
 match rs,h,hy with
 | [],h,⟨ys,e,hy⟩=>
  simp [PR,PDs]at h;subst h;rw [e,(uX (ts:= []) (l:= []) rfl w F).2 _ hy]
 | [r],h,hy=>exact(CE h w F).2 _ hy
 |r::r'::rs,h,⟨ys,e,hy⟩=>
  simp only [PR,Option.map_eq_some_iff]at h;obtain⟨l,hl,rfl⟩:=h;rw [e,(uX hl w F).2 _ hy]
end Sm
end
noncomputable section
namespace Ev
namespace K
open Go Go.RowKit
set_option maxRecDepth 100000
set_option maxHeartbeats 1000000
def CF:Ax:=(λ_=>none)
theorem Bd:xh Try.prog CF:=(tD _)
def CG:Ax:=(cz (cz (cz (cz (cz (cz (cz (cz (cz (cz (cz (cz (cz CF 29 bQ) 30 bQ) 33 bQ) 34 bQ) 39 bQ) 61 bQ) 62 bQ) 83 bQ) 85 bQ) 87 bQ) 89 bQ) 91 bQ) 92 bQ)
theorem Bf:xh Try.prog CG:=(aO (aO (aO (aO (aO (aO (aO (aO (aO (aO (aO (aO (aO Bd λvs kind rs h=>by simp [bQ]at h) λvs kind rs h=>by simp [bQ]at h) λvs kind rs h=>by simp [bQ]at h) λvs kind rs h=>by simp [bQ]at h) λvs kind rs h=>by simp [bQ]at h) λvs kind rs h=>by simp [bQ]at h) λvs kind rs h=>by simp [bQ]at h) λvs kind rs h=>by simp [bQ]at h) λvs kind rs h=>by simp [bQ]at h) λvs kind rs h=>by simp [bQ]at h) λvs kind rs h=>by simp [bQ]at h) λvs kind rs h=>by simp [bQ]at h) λvs kind rs h=>by simp [bQ]at h)
def E1B:Env:=zL Try.prog CG
theorem lu:E1B.Ok:=xi ET EU Bf
theorem nS:ER E1B TT:=⟨tz1,⟨tz2,⟨tz3,⟨tz4,⟨tz5,⟨tz6,⟨tz7,⟨tz8,⟨Lv,⟨Lw,⟨Lx,⟨Ly,⟨Lz,⟨LB,⟨LC,⟨LE,⟨LG,⟨LH,⟨LI,⟨LJ,⟨LK,⟨LM,⟨LN,⟨LO,⟨LP,⟨LQ,⟨LR,⟨LS,⟨LT,⟨LU,⟨LV,⟨LY,⟨LZ,⟨Ma,⟨Mb,⟨Mc,⟨Md,⟨Me,⟨Mf,⟨Mg,⟨Mh,⟨Mi,⟨Mj,⟨Mk,⟨Ml,⟨Mm,⟨Mn,⟨Mo,⟨Mp,⟨Mq,⟨Mr,⟨Ms,⟨Mt,⟨Mu,⟨Mv,⟨Mw,⟨My,⟨Mz,⟨MA,⟨MB,⟨MC,⟨MD,⟨ME,⟨MF,⟨MG,⟨MH,⟨MI,⟨MJ,⟨MK,⟨ML,⟨MM,⟨MN,⟨MO,⟨MP,⟨MQ,⟨MR,⟨MS,⟨MT,⟨MU,⟨MV,⟨MW,⟨MX,⟨MY,⟨MZ,⟨Na,⟨Nb,⟨Nc,⟨Nd,⟨Nf,⟨Ng,⟨Hg,⟨Hh,⟨Hi,⟨Hj,⟨Hk,⟨Hl,⟨Hm,⟨Hn,⟨Ho,⟨Hp,⟨Hq,⟨Hr,⟨Hs,⟨Ht,⟨Hu,⟨Hv,⟨Hw,⟨Hx,⟨Hy,⟨Hz,⟨HD,⟨HF,⟨HH,⟨HI,⟨HJ,⟨HL,⟨HN,⟨HP,⟨HS,⟨HT,⟨HU,⟨HV,⟨HW,⟨HX,⟨HY,trivial⟩⟩⟩⟩⟩⟩⟩⟩⟩⟩⟩⟩⟩⟩⟩⟩⟩⟩⟩⟩⟩⟩⟩⟩⟩⟩⟩⟩⟩⟩⟩⟩⟩⟩⟩⟩⟩⟩⟩⟩⟩⟩⟩⟩⟩⟩⟩⟩⟩⟩⟩⟩⟩⟩⟩⟩⟩⟩⟩⟩⟩⟩⟩⟩⟩⟩⟩⟩⟩⟩⟩⟩⟩⟩⟩⟩⟩⟩⟩⟩⟩⟩⟩⟩⟩⟩⟩⟩⟩⟩⟩⟩⟩⟩⟩⟩⟩⟩⟩⟩⟩⟩⟩⟩⟩⟩⟩⟩⟩⟩⟩⟩⟩⟩⟩⟩⟩⟩⟩⟩⟩⟩⟩⟩⟩
theorem jN:ES E1B.P EQS:=⟨Aq As At,⟨Aq Au Av,⟨Ar Aw Ay,⟨Ar Az AA,trivial⟩⟩⟩⟩
theorem JA:E1B.fn 11=some Jf:=bA Try.func11 rfl
theorem JB:E1B.fn 27=some Jg:=bA Try.func27 rfl
theorem JC:E1B.fn 28=some Jh:=bA Try.func28 rfl
theorem JD:E1B.fn 29=some Ji:=bA Try.func29 rfl
theorem JE:E1B.fn 30=some Jj:=bA Try.func30 rfl
theorem JF:E1B.fn 31=some Jk:=bA Try.func31 rfl
theorem JG:E1B.fn 32=some Jl:=bA Try.func32 rfl
theorem JH:E1B.fn 33=some Jm:=bA Try.func33 rfl
theorem JI:E1B.fn 34=some Jn:=bA Try.func34 rfl
theorem JJ:E1B.fn 60=some Jo:=bA Try.func60 rfl
theorem JK:E1B.fn 61=some Jp:=bA Try.func61 rfl
theorem JL:E1B.fn 62=some Jq:=bA Try.func62 rfl
end K
end Ev
end
noncomputable section
namespace Ev
namespace K
open Go Go.RowKit
set_option maxRecDepth 100000
set_option maxHeartbeats 1000000
theorem pr:GOk ja E1B 0:=gok lu nS jN trivial trivial
theorem qv:aM E1B jb:=bM pr (by kernel_rfl) JJ (by kernel_rfl) rfl
theorem mB:GOk gx E1B 0:=gok lu nS jN trivial trivial
theorem nT:aM E1B gy:=bM mB (by kernel_rfl) JB (by kernel_rfl) rfl
theorem nU:GOk gW E1B 1:=gok lu nS jN ⟨⟨by decide,qv⟩,trivial⟩ trivial
theorem pu:aM E1B gX:=bM nU (by kernel_rfl) JC (by kernel_rfl) rfl
theorem nV:GOk gY E1B 0:=gok lu nS jN trivial trivial
theorem pw:aM E1B gZ:=bM nV (by kernel_rfl) JF (by kernel_rfl) rfl
theorem nW:GOk hZ E1B 0:=gok lu nS jN trivial trivial
theorem px:aM E1B ia:=bM nW (by kernel_rfl) JG (by kernel_rfl) rfl
theorem nX:GOk ib E1B 2:=gok lu nS jN ⟨⟨by decide,nT⟩,⟨⟨by decide,pu⟩,⟨⟨by decide,pw⟩,⟨⟨by decide,px⟩,trivial⟩⟩⟩⟩ ⟨⟨JD,rfl⟩,⟨⟨JE,rfl⟩,⟨⟨JH,rfl⟩,⟨⟨JI,rfl⟩,⟨⟨JK,rfl⟩,⟨⟨JL,rfl⟩,trivial⟩⟩⟩⟩⟩⟩
theorem py:aM E1B ic:=bM nX (by kernel_rfl) JA (by kernel_rfl) rfl
end K
end Ev
end
noncomputable section
open Go.RowKit Go.Sort
theorem yi(x0 x1 x2 x3 x4 n x6 e:Int)(x5:Bool)(s7 s8 s9:Value)(w:World)(he:¬e=0)(y:Value)(hy:y= .agg #[.int .i64 x0,.int .i64 x1,.int .i64 x2,.int .i64 x3,.int .i64 x4,.int .i64 n,s7,s8,s9,.int .i64 x6,.bool x5])(h7:s7.oneCell'=true)(h8:s8.oneCell'=true)(h9:s9.oneCell'=true)
  (HR:∀W,Below w.heap.size w W->Calls Try.prog 11 #[y] W λx w'=>x= .returned (.int .i64 e)/\Below W.heap.size W w'):
  Calls Try.prog 8 #[y] w λx w'=>x= .returned (.tuple #[.slice none 0 0,.int .i64 e])/\Below w.heap.size w w':=by
 subst hy;have B1:=bl1 w (.cells #[.int .i64 x0,.int .i64 x1,.int .i64 x2,.int .i64 x3,.int .i64 x4,.int .i64 n,s7,s8,s9,.int .i64 x6,.bool x5] 29);have HR1:=Lib.hid (HR _ B1);clear HR;have b1:(e !=0)=true:=by simpa using he
 go_enter Try.func8,Try.ntmps8
 go_wp2_with fail
 refine HR1.out.mono ?_;rintro x V ⟨rfl,hB⟩;have BV:=B1.trans (hB.mono B1.size);clear HR1 B1 hB
 go_wp2_with fail
 (try simp only [Exit.inBlock,Exit.then])
 refine bodyPost_ret (v:= .tuple #[.slice none 0 0,.int .i64 e]) (by simp [results,Try.results8,go_sem]) rfl ⟨?_,BV⟩
 first|rfl|(rw [if_neg he])
namespace Sm
namespace Fe
open Ev
open Go.Proofs.Ytkmbihigeeclbaa.Sm.Fd
abbrev NB:List K.TyD:= [(true,Ft)]
abbrev JM:List K.TyD:= [(false,By),(false,.I .i64)]
abbrev ins:=NB
abbrev outs:=JM
def ok2(s:Sl (Int×Int)):Bool:=decide (s.l.length<=70000)&&((decide (s.sz=2)||s.l.isEmpty)&& s.l.all λe=>decide (i4 e.1/\i8 e.2))
def ok3(p:Int×Int×Int->Bool)(s:Sl (Int×Int×Int)):Bool:=decide (s.l.length<=70000)&&((decide (s.sz=3)||s.l.isEmpty)&& s.l.all p)
def okF(x:FrS):Bool:=decide (0<=x.1/\x.1<256)&&(decide (0<=x.2.1/\x.2.1<256)&&(decide (0<=x.2.2.1/\x.2.2.1<256)&&(decide (i4 x.2.2.2.1)&&(decide (i4 x.2.2.2.2.1)&&(decide (i4 x.2.2.2.2.2.1.1)&&(ok2 x.2.2.2.2.2.1.2 &&(ok3 (λe=>decide (i4 e.1/\i8 e.2.1)) x.2.2.2.2.2.2.1 &&(ok3 (λe=>decide (i4 e.1/\i4 e.2.1/\i8 e.2.2)) x.2.2.2.2.2.2.2.1 && decide (i8 x.2.2.2.2.2.2.2.2.1)))))))))
def encF(x:FrS):List Int:=uW x.1 x.2.1 x.2.2.1 x.2.2.2.1 x.2.2.2.2.1 x.2.2.2.2.2.1.1 x.2.2.2.2.2.2.2.2.1 x.2.2.2.2.2.2.2.2.2 x.2.2.2.2.2.1.2.l x.2.2.2.2.2.2.1.l x.2.2.2.2.2.2.2.1.l
def fn(x:FrS):Option (Sl Int×Int):=
 match K.bn x with
 |some e=>if e=0 then(if okF x=true then some (⟨true,1,encF x⟩,0)else none)else some (⟨false,0,[]⟩,e)
 |none=>none
theorem LD.below{w W:World}(hL:LD w.heap.size w)(hb:Below w.heap.size w W):LD W.heap.size W:=(hL.keep (λ_ hs=>hb.block 0 hs) hb.size).up hb.size
theorem RepT.below{w W:World}{F F':Nat->Prop}{t:T}{y:Value}(h:RepT w F t y)(hb:Below w.heap.size w W)(hF:∀b,F' b->F b):RepT W F' t y:=h.mono hb.size λb hlt _ hn=>⟨hb.block b hlt,λhf=>hn (hF b hf)⟩
theorem kw{w:World}{F:Nat->Prop}{u y:Value}(h:RepT w F (.v u) y):y=u:=by cases h;rfl
theorem CH{α:Type}{w:World}{F:Nat->Prop}{r:α->List T}{s:Sl α}{y:Value}(h:RepT w F (Sl.t r s) y):∃a c,y= .slice a s.l.length c:=by
 unfold Sl.t at h
 cases h with
 |s _ _ _ a c ys hn hc h0 hl hm hr=>rw [List.length_map];exact⟨a,c,rfl⟩
theorem Fs{w:World}{F:Nat->Prop}{s:Sl (Int×Int)}{a:Option Addr}{c:Nat}(hz:s.sz=2∨s.l= [])(h:RepT w F (Sl.t (K.Ty.row (.C (.I .i64) (.I .i64))) s) (.slice a s.l.length c)):RdP w a s.l:=by
 obtain⟨nn,sz,l⟩:=s;intro i hi;obtain rfl:sz=2:=hz.resolve_right (λh=>by simp only at h;rw [h]at hi;simp at hi);unfold Sl.t at h;simp only at h hi ⊢;generalize hy:Value.slice a l.length c=y at h
 cases h with
 |s _ _ _ a' c' ys hn hc h0 hl hm hr=>
  rw [List.length_map]at hy;cases hy;have hil:(l.map (K.Ty.row (.C (.I .i64) (.I .i64))))[i]? =some (K.Ty.row (.C (.I .i64) (.I .i64)) l[i]):=by simp [hi]
  have g:∀j v,(K.Ty.row (.C (.I .i64) (.I .i64)) l[i])[j]? =some (.v v)->∃b,a=some b/\b.block<w.heap.size/\w.cell? (b.add (i*2+j))=some v:=by
   intro j v hj;obtain⟨b,h1,h2,_,h3⟩:=hm i _ j _ hil hj;refine⟨b,h1,h2,?_⟩
   have:=hr i _ j _ hil hj
   rw [h3,kw this]
  obtain⟨b,e0,h1,c0⟩:=g 0 (.int .i64 l[i].1) rfl;obtain⟨b1,e1,_,c1⟩:=g 1 (.int .i64 l[i].2) rfl;rw [e0]at e1;cases e1;exact⟨b,e0,h1,by simpa using c0,by rw [mA]at c1;exact c1⟩
theorem zB{k:IntKind}{w:World}{F:Nat->Prop}{s:Sl (Int×Int×Int)}{a:Option Addr}{c:Nat}(hz:s.sz=3∨s.l= [])(h:RepT w F (Sl.t (K.Ty.row (.C (.I .i64) (.C (.I .i64) (.I k)))) s) (.slice a s.l.length c)):RdT k w a s.l:=by
 obtain⟨nn,sz,l⟩:=s;intro i hi;obtain rfl:sz=3:=hz.resolve_right (λh=>by simp only at h;rw [h]at hi;simp at hi);unfold Sl.t at h;simp only at h hi ⊢;generalize hy:Value.slice a l.length c=y at h
 cases h with
 |s _ _ _ a' c' ys hn hc h0 hl hm hr=>
  rw [List.length_map]at hy;cases hy;have hil:(l.map (K.Ty.row (.C (.I .i64) (.C (.I .i64) (.I k)))))[i]? =some (K.Ty.row (.C (.I .i64) (.C (.I .i64) (.I k))) l[i]):=by simp [hi]
  have g:∀j v,(K.Ty.row (.C (.I .i64) (.C (.I .i64) (.I k))) l[i])[j]? =some (.v v)->∃b,a=some b/\b.block<w.heap.size/\w.cell? (b.add (i*3+j))=some v:=by
   intro j v hj;obtain⟨b,h1,h2,_,h3⟩:=hm i _ j _ hil hj;refine⟨b,h1,h2,?_⟩
   have:=hr i _ j _ hil hj
   rw [h3,kw this]
  obtain⟨b,e0,h1,c0⟩:=g 0 (.int .i64 l[i].1) rfl;obtain⟨b1,e1,_,c1⟩:=g 1 (.int .i64 l[i].2.1) rfl;obtain⟨b2,e2,_,c2⟩:=g 2 (.int k l[i].2.2) rfl;rw [e0]at e1 e2;cases e1;cases e2;refine⟨b,e0,h1,by simpa using c0,?_,?_⟩
  .rw [mA]at c1;exact c1
  .rw [mA,mA]at c2;exact c2
theorem CI(l:List Int):(l.flatMap λn=> [Value.int .u8 n])=iJ l:=by
 unfold iJ
 induction l with
 |nil=>rfl
 |cons a r ih=>rw [List.flatMap_cons,ih];rfl
set_option maxRecDepth 100000 in
theorem Bg{w:World}{F:Nat->Prop}{x:FrS}{y:Value}(h:RepTD w F (.agg (Ft.row x)) y):∃a7 c7 a8 c8 a9 c9,y= .agg #[.int .i64 x.1,.int .i64 x.2.1,.int .i64 x.2.2.1,.int .i64 x.2.2.2.1,.int .i64 x.2.2.2.2.1,.int .i64 x.2.2.2.2.2.1.1,.slice a7 x.2.2.2.2.2.1.2.l.length c7,.slice a8 x.2.2.2.2.2.2.1.l.length c8,.slice a9 x.2.2.2.2.2.2.2.1.l.length c9,.int .i64 x.2.2.2.2.2.2.2.2.1,.bool x.2.2.2.2.2.2.2.2.2]/\
  RepT w F (Sl.t (K.Ty.row (.C (.I .i64) (.I .i64))) x.2.2.2.2.2.1.2) (.slice a7 x.2.2.2.2.2.1.2.l.length c7)/\RepT w F (Sl.t St.row x.2.2.2.2.2.2.1) (.slice a8 x.2.2.2.2.2.2.1.l.length c8)/\RepT w F (Sl.t Tt.row x.2.2.2.2.2.2.2.1) (.slice a9 x.2.2.2.2.2.2.2.1.l.length c9):=by
 cases h with
 |agg ts us hh=>
  obtain⟨hlen2,hj⟩:=hh
  match us,hlen2 with
  | [u0,u1,u2,u3,u4,u5,u6,u7,u8,u9,u10],_=>
   have g:∀(i:Nat) t u,(Ft.row x)[i]? =some t->[u0,u1,u2,u3,u4,u5,u6,u7,u8,u9,u10][i]? =some u->RepT w F t u:=λi t u h1 h2=>by
    obtain⟨z,e1,e2⟩:=hj i t h1;rw [h2]at e1;cases e1;exact e2
   obtain rfl:=kw (g 0 _ u0 rfl rfl);obtain rfl:=kw (g 1 _ u1 rfl rfl);obtain rfl:=kw (g 2 _ u2 rfl rfl);obtain rfl:=kw (g 3 _ u3 rfl rfl);obtain rfl:=kw (g 4 _ u4 rfl rfl);obtain rfl:=kw (g 5 _ u5 rfl rfl);obtain rfl:=kw (g 9 _ u9 rfl rfl);obtain rfl:=kw (g 10 _ u10 rfl rfl);have s6:RepT w F (Sl.t (K.Ty.row (.C (.I .i64) (.I .i64))) x.2.2.2.2.2.1.2) u6:=g 6 _ u6 rfl rfl;have s7:RepT w F (Sl.t St.row x.2.2.2.2.2.2.1) u7:=g 7 _ u7 rfl rfl;have s8:RepT w F (Sl.t Tt.row x.2.2.2.2.2.2.2.1) u8:=g 8 _ u8 rfl rfl;obtain⟨a7,c7,rfl⟩:=CH s6;obtain⟨a8,c8,rfl⟩:=CH s7;obtain⟨a9,c9,rfl⟩:=CH s8;exact⟨a7,c7,a8,c8,a9,c9,rfl,s6,s7,s8⟩
theorem wH{w:World}{F:Nat->Prop}{t:T}{y:Value}{e:Int}(h:RepT w F t y):lf w F [.one t,.one (iT .i64 e)] (.tuple #[y,.int .i64 e]):=by
 refine⟨[y,.int .i64 e],rfl,rfl,λi t' hi=> ?_⟩
 match i,hi with
 |0,hi=>cases hi;exact⟨y,rfl,.one _ _ h⟩
 |1,hi=>cases hi;exact⟨_,rfl,.one _ _ (.v _ rfl)⟩
 |i+2,hi=>simp at hi
set_option maxRecDepth 100000 in
theorem wI{w:World}{F:Nat->Prop}{x:FrS}{y:Value}(hr:RepTD w F (.agg (Ft.row x)) y)(hL:LD w.heap.size w){e:Int}(he:K.bn x=some e)(W:World)(hW:Below w.heap.size w W):Calls Try.prog 11 #[y] W λx w'=>x= .returned (.int .i64 e)/\Below W.heap.size W w':=by
 have h:=RunsP.pure K.lu (K.py 0 x e he);refine(h W (λ_=>False) [y] (LD.below hL hW) (λ_ h=>h.elim) ⟨rfl,λi t hi=> ?_⟩).mono λe w' ⟨y',e1,e2,_,e3⟩=>⟨?_,e3⟩
 .have h0:i=0:=by
   have h1:i<1:=(List.getElem?_eq_some_iff.1 hi).1;omega
  subst h0;cases hi;refine⟨y,rfl,?_⟩
  cases hr with
  |agg ts us hh=>exact .agg _ _ ⟨hh.1,λi t hi=>let⟨z,h1,h2⟩:=hh.2 i t hi;⟨z,h1,RepT.below h2 hW λ_ h=>h.elim⟩⟩
 .rw [e1,Ih (x:= .int .i64 _) rfl w' _ e2]
set_option maxRecDepth 100000 in
theorem pure_ok(a:K.bE ins)(o:K.bE outs)(h:fn a=some o):fY Try.prog 8 (K.cU ins a) .fresh (K.cU outs o):=by
 obtain⟨x,rfl⟩:∃x:FrS,x=a:=⟨_,rfl⟩;unfold fn at h
 cases hR:K.bn x with
 |none=>rw [hR]at h;cases h
 |some e=>
  rw [hR]at h;simp only at h;intro w F ys hL hF hr;obtain⟨hlen,hi⟩:=hr
  match ys,hlen with
  | [y0],_=>
   obtain⟨z,e1,e2⟩:=hi 0 _ rfl;simp only [List.getElem?_cons_zero,zsI]at e1;subst e1;have e2:RepTD w F (.agg (Ft.row x)) y0:=e2;have HC:=wI e2 hL hR;obtain⟨a7,c7,a8,c8,a9,c9,rfl,s7,s8,s9⟩:=Bg e2;by_cases he:e=0
   .rw [if_pos he]at h;rw [Option.ite_none_right_eq_some]at h;obtain⟨hx,h⟩:=h;cases h;subst he;simp only [okF,ok2,ok3,Bool.and_eq_true,Bool.or_eq_true,decide_eq_true_eq,List.isEmpty_iff,List.all_eq_true]at hx;obtain⟨r0,r1,r2,r3,r4,rn,⟨k7,z7,r7⟩,⟨k8,z8,r8⟩,⟨k9,z9,r9⟩,r6⟩:=hx;refine(yh x.1 x.2.1 x.2.2.1 x.2.2.2.1 x.2.2.2.2.1 x.2.2.2.2.2.1.1 x.2.2.2.2.2.2.2.2.1 0 x.2.2.2.2.2.2.2.2.2 a7 a8 a9 c7 c8 c9 _ _ _ w (Fs z7 s7) (zB z8 s8) (zB z9 s9) r0 r1 r2 r3 r4 rn r6 r7 r8 r9 k7 k8 k9 HC).mono λe w' h2=> ?_;obtain⟨hT,hB⟩:=h2;rw [if_pos rfl]at hT;obtain⟨v,rfl,hrow⟩:=hT
    have hne:encF x≠[]:=λh=>by
     have:=congrArg List.length h
     simp [encF,uW,hdB,btl]at this
    have hrow:w'.ownsRow (w.heap.size+1) 5 1 v (encF x).length (iJ (encF x)):=hrow;have hO:OwnL w' (w.heap.size+1) 5 1 v (encF x).length ((encF x).flatMap λn=> [Value.int .u8 n]):=⟨⟨_,Nat.le_refl _,by rw [CI];exact hrow⟩,λh0=>absurd (List.length_eq_zero_iff.1 h0) hne⟩;have hrep:=pM (F:=λb=>b<w.heap.size/\(Kind.fresh≠Kind.any∨F b)) (cs:=λn:Int=> [Value.int .u8 n]) (λ_=>rfl) (λ_ u hu=>by simp only [List.mem_cons,List.not_mem_nil,or_false]at hu;rw [hu];rfl) hO (λb hb=>by have:=hb.1;omega);rw [show(!(encF x).isEmpty)=true by cases hq:encF x with|nil=>exact absurd hq hne|cons=>rfl]at hrep;exact⟨_,rfl,wH hrep,λhk=>(by cases hk),hB⟩
   .rw [if_neg he]at h;cases h;refine(yi _ _ _ _ _ _ _ e _ _ _ _ w he _ rfl rfl rfl rfl HC).mono λe w' h2=> ?_;obtain⟨rfl,hB⟩:=h2;exact⟨_,rfl,wH pN,λhk=>(by cases hk),hB⟩
theorem enters:Ev.Enters Try.prog 8:=⟨_,_,Try.func8,by kernel_rfl,by unfold Try.f8;rfl⟩
end Fe
end Sm
end
noncomputable section
namespace Ev
namespace K
open Go Go.RowKit
set_option maxRecDepth 100000
set_option maxHeartbeats 1000000
def GN:Ax:=(cz (cz (λ_=>none) 16 (sk Sm.Fd.ins .fresh Sm.Fd.outs Sm.Fd.fn)) 8 (sk Sm.Fe.ins .fresh Sm.Fe.outs Sm.Fe.fn))
theorem CJ:xh Try.prog GN:=(aO (aO (tD _) (AB Sm.Fd.enters Sm.Fd.pure_ok)) (AB Sm.Fe.enters Sm.Fe.pure_ok))
def GO:Ax:=(cz (cz (cz (cz (cz (cz (cz (cz (cz (cz (cz (cz (cz GN 29 bQ) 30 bQ) 33 bQ) 34 bQ) 39 bQ) 61 bQ) 62 bQ) 83 bQ) 85 bQ) 87 bQ) 89 bQ) 91 bQ) 92 bQ)
theorem CK:xh Try.prog GO:=(aO (aO (aO (aO (aO (aO (aO (aO (aO (aO (aO (aO (aO CJ λvs kind rs h=>by simp [bQ]at h) λvs kind rs h=>by simp [bQ]at h) λvs kind rs h=>by simp [bQ]at h) λvs kind rs h=>by simp [bQ]at h) λvs kind rs h=>by simp [bQ]at h) λvs kind rs h=>by simp [bQ]at h) λvs kind rs h=>by simp [bQ]at h) λvs kind rs h=>by simp [bQ]at h) λvs kind rs h=>by simp [bQ]at h) λvs kind rs h=>by simp [bQ]at h) λvs kind rs h=>by simp [bQ]at h) λvs kind rs h=>by simp [bQ]at h) λvs kind rs h=>by simp [bQ]at h)
def E1:Env:=zL Try.prog GO
theorem dN:E1.Ok:=xi ET EU CK
def aS:bE Sm.Fd.ins->Option (bE Sm.Fd.outs):=Sm.Fd.fn
def gb:bW:=⟨16,Sm.Fd.ins,.data true Sm.Fd.outs,aS,1⟩
theorem jd:aM E1 gb:=sm rfl
def cj:bE Sm.Fe.ins->Option (bE Sm.Fe.outs):=Sm.Fe.fn
def gd:bW:=⟨8,Sm.Fe.ins,.data true Sm.Fe.outs,cj,1⟩
theorem je:aM E1 gd:=sm rfl
theorem dV:ER E1 TT:=⟨tz1,⟨tz2,⟨tz3,⟨tz4,⟨tz5,⟨tz6,⟨tz7,⟨tz8,⟨Lv,⟨Lw,⟨Lx,⟨Ly,⟨Lz,⟨LB,⟨LC,⟨LE,⟨LG,⟨LH,⟨LI,⟨LJ,⟨LK,⟨LM,⟨LN,⟨LO,⟨LP,⟨LQ,⟨LR,⟨LS,⟨LT,⟨LU,⟨LV,⟨LY,⟨LZ,⟨Ma,⟨Mb,⟨Mc,⟨Md,⟨Me,⟨Mf,⟨Mg,⟨Mh,⟨Mi,⟨Mj,⟨Mk,⟨Ml,⟨Mm,⟨Mn,⟨Mo,⟨Mp,⟨Mq,⟨Mr,⟨Ms,⟨Mt,⟨Mu,⟨Mv,⟨Mw,⟨My,⟨Mz,⟨MA,⟨MB,⟨MC,⟨MD,⟨ME,⟨MF,⟨MG,⟨MH,⟨MI,⟨MJ,⟨MK,⟨ML,⟨MM,⟨MN,⟨MO,⟨MP,⟨MQ,⟨MR,⟨MS,⟨MT,⟨MU,⟨MV,⟨MW,⟨MX,⟨MY,⟨MZ,⟨Na,⟨Nb,⟨Nc,⟨Nd,⟨Nf,⟨Ng,⟨Hg,⟨Hh,⟨Hi,⟨Hj,⟨Hk,⟨Hl,⟨Hm,⟨Hn,⟨Ho,⟨Hp,⟨Hq,⟨Hr,⟨Hs,⟨Ht,⟨Hu,⟨Hv,⟨Hw,⟨Hx,⟨Hy,⟨Hz,⟨HD,⟨HF,⟨HH,⟨HI,⟨HJ,⟨HL,⟨HN,⟨HP,⟨HS,⟨HT,⟨HU,⟨HV,⟨HW,⟨HX,⟨HY,trivial⟩⟩⟩⟩⟩⟩⟩⟩⟩⟩⟩⟩⟩⟩⟩⟩⟩⟩⟩⟩⟩⟩⟩⟩⟩⟩⟩⟩⟩⟩⟩⟩⟩⟩⟩⟩⟩⟩⟩⟩⟩⟩⟩⟩⟩⟩⟩⟩⟩⟩⟩⟩⟩⟩⟩⟩⟩⟩⟩⟩⟩⟩⟩⟩⟩⟩⟩⟩⟩⟩⟩⟩⟩⟩⟩⟩⟩⟩⟩⟩⟩⟩⟩⟩⟩⟩⟩⟩⟩⟩⟩⟩⟩⟩⟩⟩⟩⟩⟩⟩⟩⟩⟩⟩⟩⟩⟩⟩⟩⟩⟩⟩⟩⟩⟩⟩⟩⟩⟩⟩⟩⟩⟩⟩⟩
theorem cI:ES E1.P EQS:=⟨Aq As At,⟨Aq Au Av,⟨Ar Aw Ay,⟨Ar Az AA,trivial⟩⟩⟩⟩
theorem fn5:E1.fn 5=some fi5:=bA Try.func5 rfl
theorem fn7:E1.fn 7=some fi7:=bA Try.func7 rfl
theorem NC:E1.fn 10=some Nh:=bA Try.func10 rfl
theorem ND:E1.fn 11=some Jf:=bA Try.func11 rfl
theorem NE:E1.fn 13=some Ni:=bA Try.func13 rfl
theorem NF:E1.fn 14=some Nj:=bA Try.func14 rfl
theorem NG:E1.fn 15=some Nk:=bA Try.func15 rfl
theorem NH:E1.fn 18=some Nl:=bA Try.func18 rfl
theorem NI:E1.fn 19=some Nm:=bA Try.func19 rfl
theorem NJ:E1.fn 27=some Jg:=bA Try.func27 rfl
theorem NK:E1.fn 28=some Jh:=bA Try.func28 rfl
theorem NL:E1.fn 29=some Ji:=bA Try.func29 rfl
theorem NM:E1.fn 30=some Jj:=bA Try.func30 rfl
theorem NN:E1.fn 31=some Jk:=bA Try.func31 rfl
theorem NO:E1.fn 32=some Jl:=bA Try.func32 rfl
theorem NP:E1.fn 33=some Jm:=bA Try.func33 rfl
theorem NQ:E1.fn 34=some Jn:=bA Try.func34 rfl
theorem NR:E1.fn 36=some Nn:=bA Try.func36 rfl
theorem NS:E1.fn 37=some No:=bA Try.func37 rfl
theorem NT:E1.fn 38=some Np:=bA Try.func38 rfl
theorem NU:E1.fn 52=some Nq:=bA Try.func52 rfl
theorem NV:E1.fn 53=some Nr:=bA Try.func53 rfl
theorem NW:E1.fn 54=some Ns:=bA Try.func54 rfl
theorem NX:E1.fn 60=some Jo:=bA Try.func60 rfl
theorem NY:E1.fn 61=some Jp:=bA Try.func61 rfl
theorem NZ:E1.fn 62=some Jq:=bA Try.func62 rfl
theorem Oa:E1.fn 76=some Nt:=bA Try.func76 rfl
end K
end Ev
end
noncomputable section
namespace Ev
namespace K
open Go Go.RowKit
set_option maxRecDepth 100000
set_option maxHeartbeats 1000000
def wJ:eU:= []
def oJ:KG:=⟨TT,EQS,[],[]⟩
def fQ:bE [yD3]->Option (OutK.val (.data false [yD3])):=fP oJ wJ Nm 19 0 [yD3] (.data false [yD3])
def oK:bW:=⟨19,[yD3],.data false [yD3],fQ,1⟩
def wK:eU:= [(7,⟨[⟨true,2,5,[1,2],⟨[],[(1,[.d true (.I .i64),.d true (.I .i64),.d true (.I .i64),.d true (.I .i64),.d true (.I .i64),.d true (.I .i64),.d false (.S (.C (.I .i64) (.I .i64))),.d false (.S (.C (.I .i64) (.C (.I .i64) (.I .u64)))),.d false (.S (.C (.I .i64) (.C (.I .i64) (.I .i64)))),.d true (.I .i64),.d true .B])],[]⟩,[(.normal,⟨[],[(1,[.d true (.I .i64),.d true (.I .i64),.d true (.I .i64),.d true (.I .i64),.d true (.I .i64),.d true (.I .i64),.d false (.S (.C (.I .i64) (.I .i64))),.d false (.S (.C (.I .i64) (.C (.I .i64) (.I .u64)))),.d false (.S (.C (.I .i64) (.C (.I .i64) (.I .i64)))),.d true (.I .i64),.d true .B])],[]⟩)]⟩],[]⟩)]
def oL:KG:=⟨TT,EQS,[oK],[]⟩
def fR:bE [yD0]->Option (OutK.val (.data false [yD0])):=fP oL wK fi7 7 0 [yD0] (.data false [yD0])
def oM:bW:=⟨7,[yD0],.data false [yD0],fR,2⟩
def mC:eU:= [(76,⟨[⟨false,4,0,[0,1],⟨[(5,false,[.d true (.I .i64)])],[],[]⟩,[(.exit 0,⟨[],[],[]⟩),(.ret,⟨[(4,false,[.d true .B])],[],[]⟩)]⟩],[]⟩)]
def gD:KG:=⟨TT,EQS,[],[]⟩
def cC:bE [yD4,yD4]->Option (OutK.val (.data true [(false,.B)])):=fP gD mC Nt 76 0 [yD4,yD4] (.data true [(false,.B)])
def gE:bW:=⟨76,[yD4,yD4],.data true [(false,.B)],cC,1⟩
def uY:eU:= []
def mD:KG:=⟨TT,EQS,[gE],[]⟩
def gg:bE [yD3,yD3]->Option (OutK.val (.data true [(false,.B)])):=fP mD uY Nq 52 0 [yD3,yD3] (.data true [(false,.B)])
def mE:bW:=⟨52,[yD3,yD3],.data true [(false,.B)],gg,2⟩
def nZ:eU:= [(53,⟨[⟨false,4,0,[0,1],⟨[(5,false,[.d true (.I .i64)])],[],[]⟩,[(.exit 0,⟨[],[],[]⟩),(.ret,⟨[(4,false,[.d true .B])],[],[]⟩)]⟩],[]⟩)]
def iq:KG:=⟨TT,EQS,[],[]⟩
def cP:bE [yD1,yD1]->Option (OutK.val (.data true [(false,.B)])):=fP iq nZ Nr 53 0 [yD1,yD1] (.data true [(false,.B)])
def ir:bW:=⟨53,[yD1,yD1],.data true [(false,.B)],cP,1⟩
def kg:eU:= [(54,⟨[⟨false,4,0,[0,1],⟨[(5,false,[.d true (.I .i64)])],[],[]⟩,[(.exit 0,⟨[],[],[]⟩),(.ret,⟨[(4,false,[.d true .B])],[],[]⟩)]⟩],[]⟩)]
def fH:KG:=⟨TT,EQS,[],[]⟩
def bU:bE [yD2,yD2]->Option (OutK.val (.data true [(false,.B)])):=fP fH kg Ns 54 0 [yD2,yD2] (.data true [(false,.B)])
def fI:bW:=⟨54,[yD2,yD2],.data true [(false,.B)],bU,1⟩
def uZ:eU:= []
def mF:KG:=⟨TT,EQS,[mE,ir,fI],[]⟩
def cV:bE [yD0,yD0]->Option (OutK.val (.data true [(false,.B)])):=fP mF uZ Nl 18 0 [yD0,yD0] (.data true [(false,.B)])
def iL:bW:=⟨18,[yD0,yD0],.data true [(false,.B)],cV,3⟩
def eI:eU:= [(36,⟨[⟨false,4,0,[0,1,12],⟨[(13,false,[.d true (.I .i64)])],[],[]⟩,[(.exit 0,⟨[],[],[]⟩),(.ret,⟨[(4,false,[.d true .B])],[],[]⟩)]⟩],[]⟩)]
def cF:KG:=⟨TT,EQS,[],[]⟩
def an:bE [yD4,yD4]->Option (OutK.val (.data true [(false,.B)])):=fP cF eI Nn 36 0 [yD4,yD4] (.data true [(false,.B)])
def cG:bW:=⟨36,[yD4,yD4],.data true [(false,.B)],an,1⟩
def eX:eU:= [(37,⟨[⟨false,4,0,[0,1,12],⟨[(13,false,[.d true (.I .i64)])],[],[]⟩,[(.exit 0,⟨[],[],[]⟩),(.ret,⟨[(4,false,[.d true .B])],[],[]⟩)]⟩],[]⟩)]
def cQ:KG:=⟨TT,EQS,[],[]⟩
def aJ:bE [yD1,yD1]->Option (OutK.val (.data true [(false,.B)])):=fP cQ eX No 37 0 [yD1,yD1] (.data true [(false,.B)])
def cS:bW:=⟨37,[yD1,yD1],.data true [(false,.B)],aJ,1⟩
def dP:eU:= [(38,⟨[⟨false,4,0,[0,1,12],⟨[(13,false,[.d true (.I .i64)])],[],[]⟩,[(.exit 0,⟨[],[],[]⟩),(.ret,⟨[(4,false,[.d true .B])],[],[]⟩)]⟩],[]⟩)]
def cg:KG:=⟨TT,EQS,[],[]⟩
def aD:bE [yD2,yD2]->Option (OutK.val (.data true [(false,.B)])):=fP cg dP Np 38 0 [yD2,yD2] (.data true [(false,.B)])
def ci:bW:=⟨38,[yD2,yD2],.data true [(false,.B)],aD,1⟩
def vc:eU:= []
def mG:KG:=⟨TT,EQS,[cG,cS,ci],[]⟩
def cd:bE [yD0,yD0]->Option (OutK.val (.data true [(false,.B)])):=fP mG vc Nk 15 0 [yD0,yD0] (.data true [(false,.B)])
def iM:bW:=⟨15,[yD0,yD0],.data true [(false,.B)],cd,2⟩
def vd:eU:= []
def mH:KG:=⟨TT,EQS,[],[]⟩
def ee:bE [yD0]->Option (OutK.val (.data true [(false,.I .i64)])):=fP mH vd Nj 14 0 [yD0] (.data true [(false,.I .i64)])
def mI:bW:=⟨14,[yD0],.data true [(false,.I .i64)],ee,1⟩
def ve:eU:= []
def mJ:KG:=⟨TT,EQS,[gd,ic,mI,iM,gb,iL],[]⟩
def law19_live:bE []->Option (OutK.val (.data true [(false,.B)])):=fP mJ ve Nh 10 0 [] (.data true [(false,.B)])
def mK:bW:=⟨10,[],.data true [(false,.B)],law19_live,10⟩
def mL:eU:= [(13,⟨[⟨false,4,0,[0,1],⟨[(5,false,[.d true (.I .i64)])],[],[]⟩,[(.exit 0,⟨[],[],[]⟩),(.ret,⟨[(4,false,[.d true .B])],[],[]⟩)]⟩],[]⟩)]
def gF:KG:=⟨TT,EQS,[],[]⟩
def cD:bE [(false,.S (.I .u8)),(false,.S (.I .u8))]->Option (OutK.val (.data true [(false,.B)])):=fP gF mL Ni 13 0 [(false,.S (.I .u8)),(false,.S (.I .u8))] (.data true [(false,.B)])
def gG:bW:=⟨13,[(false,.S (.I .u8)),(false,.S (.I .u8))],.data true [(false,.B)],cD,1⟩
def mM:eU:= [(5,⟨[⟨true,5,13,[1,2,5,6],⟨[],[],[]⟩,[(.ret,⟨[(4,false,[.d true .B])],[],[]⟩),(.normal,⟨[],[],[]⟩)]⟩],[]⟩)]
def gH:KG:=⟨TT,EQS,[oM,gd,mK,gG,iM,gb,iL],[]⟩
def dh:bE [yD0,(false,.S (.I .u8))]->Option (OutK.val (.data true [(false,.B)])):=fP gH mM fi5 5 0 [yD0,(false,.S (.I .u8))] (.data true [(false,.B)])
def gI:bW:=⟨5,[yD0,(false,.S (.I .u8))],.data true [(false,.B)],dh,11⟩
end K
end Ev
end
noncomputable section
namespace Ev
namespace K
open Go Go.RowKit
set_option maxRecDepth 100000
set_option maxHeartbeats 1000000
theorem qw:GOk ja E1 0:=gok dN dV cI trivial trivial
theorem sv:aM E1 jb:=bM qw (by kernel_rfl) NX (by kernel_rfl) rfl
theorem ob:GOk gx E1 0:=gok dN dV cI trivial trivial
theorem pz:aM E1 gy:=bM ob (by kernel_rfl) NJ (by kernel_rfl) rfl
theorem pA:GOk gW E1 1:=gok dN dV cI ⟨⟨by decide,sv⟩,trivial⟩ trivial
theorem qx:aM E1 gX:=bM pA (by kernel_rfl) NK (by kernel_rfl) rfl
theorem pB:GOk gY E1 0:=gok dN dV cI trivial trivial
theorem qy:aM E1 gZ:=bM pB (by kernel_rfl) NN (by kernel_rfl) rfl
theorem pD:GOk hZ E1 0:=gok dN dV cI trivial trivial
theorem qz:aM E1 ia:=bM pD (by kernel_rfl) NO (by kernel_rfl) rfl
theorem pE:GOk ib E1 2:=gok dN dV cI ⟨⟨by decide,pz⟩,⟨⟨by decide,qx⟩,⟨⟨by decide,qy⟩,⟨⟨by decide,qz⟩,trivial⟩⟩⟩⟩ ⟨⟨NL,rfl⟩,⟨⟨NM,rfl⟩,⟨⟨NP,rfl⟩,⟨⟨NQ,rfl⟩,⟨⟨NY,rfl⟩,⟨⟨NZ,rfl⟩,trivial⟩⟩⟩⟩⟩⟩
theorem qA:aM E1 ic:=bM pE (by kernel_rfl) ND (by kernel_rfl) rfl
theorem sw:GOk oJ E1 0:=gok dN dV cI trivial trivial
theorem vh:aM E1 oK:=bM sw (by kernel_rfl) NI (by kernel_rfl) rfl
theorem sx:GOk oL E1 1:=gok dN dV cI ⟨⟨by decide,vh⟩,trivial⟩ trivial
theorem vi:aM E1 oM:=bM sx (by kernel_rfl) fn7 (by kernel_rfl) rfl
theorem kn:GOk gD E1 0:=gok dN dV cI trivial trivial
theorem lv:aM E1 gE:=bM kn (by kernel_rfl) Oa (by kernel_rfl) rfl
theorem qB:GOk mD E1 1:=gok dN dV cI ⟨⟨by decide,lv⟩,trivial⟩ trivial
theorem sy:aM E1 mE:=bM qB (by kernel_rfl) NU (by kernel_rfl) rfl
theorem lx:GOk iq E1 0:=gok dN dV cI trivial trivial
theorem mN:aM E1 ir:=bM lx (by kernel_rfl) NV (by kernel_rfl) rfl
theorem ji:GOk fH E1 0:=gok dN dV cI trivial trivial
theorem jr:aM E1 fI:=bM ji (by kernel_rfl) NW (by kernel_rfl) rfl
theorem qC:GOk mF E1 2:=gok dN dV cI ⟨⟨by decide,sy⟩,⟨⟨by decide,mN⟩,⟨⟨by decide,jr⟩,trivial⟩⟩⟩ trivial
theorem ky:aM E1 iL:=bM qC (by kernel_rfl) NH (by kernel_rfl) rfl
theorem eg:GOk cF E1 0:=gok dN dV cI trivial trivial
theorem eA:aM E1 cG:=bM eg (by kernel_rfl) NR (by kernel_rfl) rfl
theorem eJ:GOk cQ E1 0:=gok dN dV cI trivial trivial
theorem eS:aM E1 cS:=bM eJ (by kernel_rfl) NS (by kernel_rfl) rfl
theorem dv:GOk cg E1 0:=gok dN dV cI trivial trivial
theorem dG:aM E1 ci:=bM dv (by kernel_rfl) NT (by kernel_rfl) rfl
theorem qD:GOk mG E1 1:=gok dN dV cI ⟨⟨by decide,eA⟩,⟨⟨by decide,eS⟩,⟨⟨by decide,dG⟩,trivial⟩⟩⟩ trivial
theorem kz:aM E1 iM:=bM qD (by kernel_rfl) NG (by kernel_rfl) rfl
theorem qE:GOk mH E1 0:=gok dN dV cI trivial trivial
theorem sA:aM E1 mI:=bM qE (by kernel_rfl) NF (by kernel_rfl) rfl
theorem qF:GOk mJ E1 9:=gok dN dV cI ⟨⟨by decide,je⟩,⟨⟨by decide,qA⟩,⟨⟨by decide,sA⟩,⟨⟨by decide,kz⟩,⟨⟨by decide,jd⟩,⟨⟨by decide,ky⟩,trivial⟩⟩⟩⟩⟩⟩ trivial
theorem sB:aM E1 mK:=bM qF (by kernel_rfl) NC (by kernel_rfl) rfl
theorem ko:GOk gF E1 0:=gok dN dV cI trivial trivial
theorem ly:aM E1 gG:=bM ko (by kernel_rfl) NE (by kernel_rfl) rfl
theorem kq:GOk gH E1 10:=gok dN dV cI ⟨⟨by decide,vi⟩,⟨⟨by decide,je⟩,⟨⟨by decide,sB⟩,⟨⟨by decide,ly⟩,⟨⟨by decide,kz⟩,⟨⟨by decide,jd⟩,⟨⟨by decide,ky⟩,trivial⟩⟩⟩⟩⟩⟩⟩ trivial
theorem lz:aM E1 gI:=bM kq (by kernel_rfl) fn5 (by kernel_rfl) rfl
end K
end Ev
end
noncomputable section
namespace Ev
namespace K
open Go Go.RowKit
def W:(e:Ty)->e.val->Prop
 | .I k,x=>inK k x
 | .B,_=>True
 | .S e,x=>SlW e.size (λy=>W e y) x
 | .U,_=>True
 | .C a b,x=>W a x.1/\W b x.2
def Op(P:Program)(t:TypeId)(e:Ty):Prop:=∀ts,Typ P t ts->∃x:e.val,ts=e.row x/\W e x
def Ops(P:Program)(tl:List TypeId)(e:Ty):Prop:=∀tss:List (List T),tss.length=tl.length->(∀(i:Nat) t l,tl[i]? =some t->tss[i]? =some l->Typ P t l)->∃x:e.val,tss.flatten=e.row x/\W e x
section
variable {P : Program} {t : TypeId} {tl : List TypeId} {e a b : Ty}
theorem qG{k:IntKind}(h:P.underlying t=some (.int k)):Op P t (.I k):=λts ht=>Gn h ht
theorem Fu(h:P.underlying t=some .bool):Op P t .B:=λts ht=>Ec h ht
theorem mO{t':TypeId}(h:P.underlying t=some (.slice t'))(hc:P.cellsOf t'=e.size)(ho:Op P t' e):Op P t (.S e):=λts ht=>BN (r:=e.row) (Q:=λy=>W e y) h hc ho ht
theorem jO(h:Op P t e):Ops P [t] e:=λtss hl ht=>by
 obtain⟨l,rfl⟩:=List.length_eq_one_iff.1 hl;obtain⟨x,h1,h2⟩:=h l (ht 0 t l rfl rfl);exact⟨x,by simp [h1],h2⟩
theorem ct(h:Op P t a)(h':Ops P tl b):Ops P (t::tl) (.C a b):=λtss hl ht=>by
 match tss,hl with
 |l::tss,hl=>
  obtain⟨x,h1,h2⟩:=h l (ht 0 t l rfl rfl);obtain⟨y,h3,h4⟩:=h' tss (by simpa using hl) λi t' l' a b=>ht (i+1) t' l' a b;exact⟨(x,y),by rw [List.flatten_cons,h1,h3];rfl,h2,h4⟩
theorem fS{fs:Array Field}(h:P.underlying t=some (.struct fs))(hf:fs.toList.map (·.type)=tl)(ho:Ops P tl e):Op P t e:=λts ht=>by
 obtain⟨tss,rfl,h1,h2⟩:=yO h ht;subst hf;refine ho tss (by simpa using h1) λi t' l hi hl=> ?_;rw [List.getElem?_map,Option.map_eq_some_iff]at hi;obtain⟨f,hf,rfl⟩:=hi;exact h2 i f l hf hl
theorem CL{ts:List TypeId}{tds:List TD}{d:TypeDesc}(hu:P.underlying t=some d)(hd:aH d=false)(ho:Op P t e)(h:go P (t::ts) tds):∃(x:e.val) (r:List TD),tds=iy (false,e) x::r/\W e x/\go P ts r:=by
 obtain⟨y,r,rfl,h1,h2⟩:=Ed hu hd h;obtain⟨x,h3,h4⟩:=ho _ h1;refine⟨x,r,?_,h4,h2⟩;show TD.one y::r=(match e.row x with| [y]=>TD.one y|ys=>TD.agg ys)::r;rw [<-h3]
theorem CM{ts:List TypeId}{tds:List TD}{d:TypeDesc}(hu:P.underlying t=some d)(hd:aH d=true)(ho:Op P t e)(h:go P (t::ts) tds):∃(x:e.val) (r:List TD),tds=iy (true,e) x::r/\W e x/\go P ts r:=by
 obtain⟨y,r,rfl,h1,h2⟩:=Ee hu hd h;obtain⟨x,h3,h4⟩:=ho _ h1;exact⟨x,r,by rw [h3];rfl,h4,h2⟩
end
theorem Fv{E:Env}{en:bW}(ok:aM E en){a:bE en.ins}{tds:List TD}(ht:tds=cU en.ins a)(ho:en.out= .data true [(false,.B)])(h:en.f a=some (cast (by rw [ho]) true)):∃m n kind,(cN E m n).1 en.k tds=some (kind,[.one (.v (.bool true))]):=by
 have h1:=ok 0 a _ h;subst ht;obtain⟨k,ins,out,f,d⟩:=en;dsimp only at ho;subst ho;exact IM h1
end K
end Ev
end
noncomputable section
namespace Ev
open Go Go.RowKit
def eY(x:Int):Option (Bool):=K.eY x
def ck(x:Int):Option (Bool):=K.ck x
def eu(x:Int×(Sl (Int×Int))):Option (Bool):=K.eu x
def cn(x:Int):Option (Bool):=K.cn x
def dw(x:Sl (Int×(Int×Int))):Option (Bool):=K.dw x
def bn(x:Int×Int×Int×Int×Int×(Int×(Sl (Int×Int)))×(Sl (Int×(Int×Int)))×(Sl (Int×Int×Int))×Int×Bool):Option (Int):=K.bn x
end Ev
end
noncomputable section
namespace Ev
open Go Go.RowKit
def aS(x:Sl (Int)):Option ((Int×Int×Int×Int×Int×(Int×(Sl (Int×Int)))×(Sl (Int×(Int×Int)))×(Sl (Int×Int×Int))×Int×Bool)×Int×Int):=K.aS x
def cj(x:Int×Int×Int×Int×Int×(Int×(Sl (Int×Int)))×(Sl (Int×(Int×Int)))×(Sl (Int×Int×Int))×Int×Bool):Option (Sl (Int)×Int):=K.cj x
def fQ(x:Int×(Sl (Int×Int))):Option (Int×(Sl (Int×Int))):=K.fQ x
def fR(x:Int×Int×Int×Int×Int×(Int×(Sl (Int×Int)))×(Sl (Int×(Int×Int)))×(Sl (Int×Int×Int))×Int×Bool):Option (Int×Int×Int×Int×Int×(Int×(Sl (Int×Int)))×(Sl (Int×(Int×Int)))×(Sl (Int×Int×Int))×Int×Bool):=K.fR x
def cC(x:Sl (Int×Int))(y:Sl (Int×Int)):Option (Bool):=K.cC (x,y)
def gg(x:Int×(Sl (Int×Int)))(y:Int×(Sl (Int×Int))):Option (Bool):=K.gg (x,y)
def cP(x:Sl (Int×(Int×Int)))(y:Sl (Int×(Int×Int))):Option (Bool):=K.cP (x,y)
def bU(x:Sl (Int×Int×Int))(y:Sl (Int×Int×Int)):Option (Bool):=K.bU (x,y)
def cV(x:Int×Int×Int×Int×Int×(Int×(Sl (Int×Int)))×(Sl (Int×(Int×Int)))×(Sl (Int×Int×Int))×Int×Bool)(y:Int×Int×Int×Int×Int×(Int×(Sl (Int×Int)))×(Sl (Int×(Int×Int)))×(Sl (Int×Int×Int))×Int×Bool):Option (Bool):=K.cV (x,y)
def an(x:Sl (Int×Int))(y:Sl (Int×Int)):Option (Bool):=K.an (x,y)
def aJ(x:Sl (Int×(Int×Int)))(y:Sl (Int×(Int×Int))):Option (Bool):=K.aJ (x,y)
def aD(x:Sl (Int×Int×Int))(y:Sl (Int×Int×Int)):Option (Bool):=K.aD (x,y)
def cd(x:Int×Int×Int×Int×Int×(Int×(Sl (Int×Int)))×(Sl (Int×(Int×Int)))×(Sl (Int×Int×Int))×Int×Bool)(y:Int×Int×Int×Int×Int×(Int×(Sl (Int×Int)))×(Sl (Int×(Int×Int)))×(Sl (Int×Int×Int))×Int×Bool):Option (Bool):=K.cd (x,y)
def ee(x:Int×Int×Int×Int×Int×(Int×(Sl (Int×Int)))×(Sl (Int×(Int×Int)))×(Sl (Int×Int×Int))×Int×Bool):Option (Int):=K.ee x
def law19_live:Option (Bool):=K.law19_live ()
def cD(x:Sl (Int))(y:Sl (Int)):Option (Bool):=K.cD (x,y)
def dh(x:Int×Int×Int×Int×Int×(Int×(Sl (Int×Int)))×(Sl (Int×(Int×Int)))×(Sl (Int×Int×Int))×Int×Bool)(y:Sl (Int)):Option (Bool):=K.dh (x,y)
end Ev
end
noncomputable section
namespace Ev
open Go Go.RowKit
set_option maxRecDepth 100000
set_option maxHeartbeats 1000000
theorem sC(x:Int):eY x=if x >= 0 then some (decide (x<=4096))else some false:=by kernel_rfl
theorem pF(x:Int):ck x=if x >= 0 then some (decide (x<64))else some false:=by kernel_rfl
def eK(x:Int×Sl (Int×Int)):Int×Int->Option (Int×Int ⊕ PUnit ⊕ Bool ⊕ Empty):=λ(x_1:Int×Int)=>if x_1.snd<(↑x.snd.l.length:Int)then(atS 2 x.snd x_1.snd).bind λ(y:Int×Int)=>if y.fst<=x_1.fst then some (Sum.inr (Sum.inr (Sum.inl false)))else if y.fst >= x.fst then some (Sum.inr (Sum.inr (Sum.inl false)))else some (Sum.inl (y.fst,IntKind.i64.wrap (x_1.snd+1)))else some (Sum.inr (Sum.inl ()))
theorem qH(x:Int×Sl (Int×Int)):eu x=(eY x.fst).bind λ(out:Bool)=>if¬out=true then some false else(bI (eK x) (-1,0)).bind λ(y:PUnit ⊕ Bool ⊕ Empty)=>Sum.elim (λ(val:PUnit)=>some true) (λ(val:Bool ⊕ Empty)=>Sum.elim (λ(val:Bool)=>some val) (λ(val:Empty)=>nE val) val) y:=by kernel_rfl
theorem qI(x:Int):cn x=if x >= 0 then some (decide (x<4096))else some false:=by kernel_rfl
def gh(x:Sl (Int×Int×Int)):Int->Option (Int ⊕ PUnit ⊕ Bool ⊕ Empty):=λ(x_1:Int)=>if x_1<(↑x.l.length:Int)then(atS 3 x x_1).bind λ(y:Int×Int×Int)=>(atS 3 x (IntKind.i64.wrap (x_1 - 1))).bind λ(y_1:Int×Int×Int)=>if y.fst<=y_1.fst then some (Sum.inr (Sum.inr (Sum.inl false)))else some (Sum.inl (IntKind.i64.wrap (x_1+1)))else some (Sum.inr (Sum.inl ()))
theorem qJ(x:Sl (Int×Int×Int)):dw x=(bI (gh x) 1).bind λ(y:PUnit ⊕ Bool ⊕ Empty)=>Sum.elim (λ(val:PUnit)=>some true) (λ(val:Bool ⊕ Empty)=>Sum.elim (λ(val:Bool)=>some val) (λ(val:Empty)=>nE val) val) y:=by kernel_rfl
def eL(x:Int×Int×Int×Int×Int×(Int×Sl (Int×Int))×Sl (Int×Int×Int)×Sl (Int×Int×Int)×Int×Bool):Int->Option (Int ⊕ PUnit ⊕ Int ⊕ Empty):=λ(x_1:Int)=>if x_1<(↑x.snd.snd.snd.snd.snd.snd.fst.l.length:Int)then(atS 3 x.snd.snd.snd.snd.snd.snd.fst x_1).bind λ(y:Int×Int×Int)=>(cn y.fst).bind λ(out:Bool)=>if¬out=true then some (Sum.inr (Sum.inr (Sum.inl x_1)))else some (Sum.inl (IntKind.i64.wrap (x_1+1)))else some (Sum.inr (Sum.inl ()))
def eM(x:Int×Int×Int×Int×Int×(Int×Sl (Int×Int))×Sl (Int×Int×Int)×Sl (Int×Int×Int)×Int×Bool):Int->Option (Int ⊕ PUnit ⊕ Int ⊕ Empty):=λ(x_1:Int)=>if x_1<(↑x.snd.snd.snd.snd.snd.snd.snd.fst.l.length:Int)then(atS 3 x.snd.snd.snd.snd.snd.snd.snd.fst x_1).bind λ(y:Int×Int×Int)=>(cn y.fst).bind λ(out:Bool)=>if¬out=true then some (Sum.inr (Sum.inr (Sum.inl x_1)))else(cn y.snd.fst).bind λ(out:Bool)=>if¬out=true then some (Sum.inr (Sum.inr (Sum.inl x_1)))else some (Sum.inl (IntKind.i64.wrap (x_1+1)))else some (Sum.inr (Sum.inl ()))
def qK(x:Int×Int×Int×Int×Int×(Int×Sl (Int×Int))×Sl (Int×Int×Int)×Sl (Int×Int×Int)×Int×Bool):Int->Option (Int ⊕ PUnit ⊕ Int ⊕ Empty):=λ(x_1:Int)=>if x_1<(↑x.snd.snd.snd.snd.snd.snd.snd.fst.l.length:Int)then(atS 3 x.snd.snd.snd.snd.snd.snd.snd.fst x_1).bind λ(y:Int×Int×Int)=>(cn y.fst).bind λ(out:Bool)=>if¬out=true then some (Sum.inr (Sum.inr (Sum.inl x_1)))else(cn y.snd.fst).bind λ(out:Bool)=>if¬out=true then some (Sum.inr (Sum.inr (Sum.inl x_1)))else some (Sum.inl (IntKind.i64.wrap (x_1+1)))else some (Sum.inr (Sum.inl ()))
theorem qL(x:Int×Int×Int×Int×Int×(Int×Sl (Int×Int))×Sl (Int×Int×Int)×Sl (Int×Int×Int)×Int×Bool):bn x=if x.fst<1 then some 8
else if x.fst>7 then some 8 else((ck x.snd.fst).bind λ(out:Bool)=>if¬out=true then some (Sum.inl true)else(ck x.snd.snd.fst).bind λ(out:Bool)=>if¬out=true then some (Sum.inl true)else if x.snd.snd.snd.fst<0 then some (Sum.inl true)else if x.snd.snd.snd.fst>2147483647 then some (Sum.inl true)else if x.snd.snd.snd.snd.fst<0 then some (Sum.inl true)else some (Sum.inl (decide (x.snd.snd.snd.snd.fst>8192)))).bind λ(y:Bool ⊕ Empty)=>Sum.elim (λ(val:Bool)=>if val=true then some 3 else(eu x.snd.snd.snd.snd.snd.fst).bind λ(out:Bool)=>if¬out=true then some 7 else(bI (eL x) 0).bind λ(y:PUnit ⊕ Int ⊕ Empty)=>Sum.elim (λ(val:PUnit)=>(dw x.snd.snd.snd.snd.snd.snd.fst).bind λ(out:Bool)=>if¬out=true then some 6 else if(↑x.snd.snd.snd.snd.snd.snd.snd.fst.l.length:Int)>65536 then some 5 else(bI (eM x) 0).bind λ(y:PUnit ⊕ Int ⊕ Empty)=>Sum.elim (λ(val:PUnit)=>some 0) (λ(val:Int ⊕ Empty)=>Sum.elim (λ(val:Int)=>if val >= 0 then some 3 else some 0) (λ(val:Empty)=>nE val) val) y) (λ(val:Int ⊕ Empty)=>Sum.elim (λ(val:Int)=>if val >= 0 then some 3 else(dw x.snd.snd.snd.snd.snd.snd.fst).bind λ(out:Bool)=>if¬out=true then some 6 else if(↑x.snd.snd.snd.snd.snd.snd.snd.fst.l.length:Int)>65536 then some 5 else(bI (qK x) 0).bind λ(y:PUnit ⊕ Int ⊕ Empty)=>Sum.elim (λ(val:PUnit)=>some 0) (λ(val:Int ⊕ Empty)=>Sum.elim (λ(val:Int)=>if val >= 0 then some 3 else some 0) (λ(val:Empty)=>nE val) val) y) (λ(val:Empty)=>nE val) val) y) (λ(val:Empty)=>nE val) y:=by kernel_rfl
end Ev
end
end Go.Proofs.Ytkmbihigeeclbaa
