/- Texts of a claim, joined. -/
import Derived.Test.YtmlpoegdhcdkcaaZG11
import Derived.Deep.RegionHeld3
set_option linter.unusedVariables false
set_option linter.unusedSimpArgs false
namespace Go.Proofs.Ytmlpoegdhcdkcaa
noncomputable section
open Go.RowKit Go.Sort
namespace Sm
namespace It
theorem RdE.grownN{w w':World}{a:Option Addr}{l:List Ed}{k:Nat}(h:RdE w a l)(hg:w.grownBy w' (some k))(hk:∀b,a=some b->l≠[]->b.block≠k):RdE w' a l:=by
 intro i hi;obtain⟨b,e,hl,h0,h1⟩:=h i hi;have hne:some b.block≠some k:=λh=>hk b e (λe=>by rw [e]at hi;simp at hi) (Option.some.inj h);exact⟨b,e,Nat.lt_of_lt_of_le hl hg.size,hg.cell h0 (by rw [vc];exact hne),hg.cell h1 hne⟩
theorem zb(base n i:Nat)(a:Option Addr)(c:Nat)(L:List Ed)(w:World)(hown:w.ownsRow base 36 2 (.slice a n c) n (ab L))(hn:n=L.length)(hi:i<n):
  Calls Try.prog 38 #[.slice a n c,.int .i64 i,.int .i64 ((i:Int)+1)] w λe w'=>∃v',e= .returned v'/\w'.ownsRow base 36 2 v' (n - 1) (ab (L.take i++L.drop (i+1)))/\w.grownBy w' (Value.slice a n c).ownBlock/\v'.ownBlock=(Value.slice a n c).ownBlock/\∃k,v'.ownBlock=some k:=by
 rcases hown.2 with⟨e,h0⟩|⟨g,cap,cur,e,hbg,hg,hnc,hcm,hcs,htake⟩
 .omega
 .cases e;refine(za base g c n i cur L w hbg hg hcs hcm hn hi hnc htake).mono ?_;rintro e w' ⟨v',h1,h2,h3,h4⟩;exact⟨v',h1,h2,h3,h4,g,h4⟩
def Sl2(w:World)(a:Option Addr)(c:Nat)(m:List Ed):Prop:=RdE w a m/\(a=none->c=0/\m.length=0)/\m.length<=c
set_option maxRecDepth 100000 in
set_option maxHeartbeats 4000000 in
theorem drop_walk(n:Int)(a:Option Addr)(k c:Nat)(pl:Int)(w:World)(N:Int)(nn:Bool)(m:List Ed)(i:Nat)(is:Bool)(hm:m.length<=90000)(hi:is=true->i<m.length)
  (hSure:∀W,Below w.heap.size w W->w.heap.size<W.heap.size->Calls Try.prog 9 #[.agg #[.int .i64 n,.slice a k c]] W λe w'=>∃a2 c2,e= .returned (.agg #[.int .i64 N,.slice a2 m.length c2])/\Sl2 w' a2 c2 m/\nn=a2.isSome/\(∀b,a2=some b->m≠[]->b.block≠w.heap.size)/\Below W.heap.size W w')
  (hFind:∀a2 c2 W,Below w.heap.size w W->Sl2 W a2 c2 m->nn=a2.isSome->Calls Try.prog 35 #[.agg #[.int .i64 N,.slice a2 m.length c2],.int .i64 pl] W λe w'=>e= .returned (.tuple #[.int .i64 (i:Int),.bool is])/\Below W.heap.size W w'):
  Calls Try.prog 19 #[.agg #[.int .i64 n,.slice a k c],.int .i64 pl] w λe w'=>∃v,e= .returned (.agg #[.int .i64 N,v])/\(∃r,r=(if is=true then m.take i++m.drop (i+1)else m)/\w'.ownsRow w.heap.size 36 2 v r.length (ab r))/\Below w.heap.size w w'/\(nn=false->v= .slice none 0 0)/\(nn=true->∃k,v.ownBlock=some k):=by
 have HS:=Lib.hid hSure;have HF:=Lib.hid hFind;clear hSure hFind
 go_enter Try.func19,Try.ntmps19
 go_wp2_with fail
 refine(HS.out _ (bl2 w _ _) (by simp;omega)).mono ?_;rintro x w1 ⟨a2,c2,rfl,hs,hnn,hnV,hb1⟩
 have hV1:CellsAt w1 w.heap.size 25 #[.int .i64 n,.slice a k c]:=by
  have h1:CellsAt (w.alloc (.cells #[.int .i64 n,.slice a k c] 25)) w.heap.size 25 #[.int .i64 n,.slice a k c]:=World.alloc_heap_new w _;exact(h1.below (bl1 _ (.cells #[.int .i64 0,.slice none 0 0] 25))).below hb1
 have hR1:CellsAt w1 (w.heap.size+1) 25 #[.int .i64 0,.slice none 0 0]:=by
  have h1:CellsAt ((w.alloc (.cells #[.int .i64 n,.slice a k c] 25)).alloc (.cells #[.int .i64 0,.slice none 0 0] 25)) (w.alloc (.cells #[.int .i64 n,.slice a k c] 25)).heap.size 25 #[.int .i64 0,.slice none 0 0]:=World.alloc_heap_new _ _;rw [World.size_alloc]at h1;exact h1.below hb1
 have hbw1:Below w.heap.size w w1:=(bl2 w _ _).trans (hb1.mono (bl2 w _ _).size);have hV0:w.heap.size<=w.heap.size:=Nat.le_refl _;have hR0:w.heap.size<=w.heap.size+1:=by omega
 have hVR:w.heap.size≠w.heap.size+1:=by omega
 generalize w.heap.size+1=RB at hR1 hR0 hVR ⊢;obtain⟨VB,hVB⟩:∃VB,VB=w.heap.size:=⟨_,rfl⟩;have HVB:=Lib.hid hVB;rw [<-hVB]at hV1 hVR hnV ⊢;clear hVB hb1;have v0:w1.cell? ⟨VB,0,none⟩=some (.int .i64 n):=hV1.cell 0;have v1:w1.cell? ⟨VB,1,none⟩=some (.slice a k c):=hV1.cell 1;have f0:=hV1.frozen 0;have f1:=hV1.frozen 1;have kV:=Has.of hV1.lt
 go_wp2_with fail
 have hg1:=al w1 VB 0 (.int .i64 N);have hg2:=al (w1.setCell ⟨VB,0,none⟩ (.int .i64 N)) VB 1 (.slice a2 m.length c2);have hV2:CellsAt ((w1.setCell ⟨VB,0,none⟩ (.int .i64 N)).setCell ⟨VB,1,none⟩ (.slice a2 m.length c2)) VB 25 #[.int .i64 N,.slice a2 m.length c2]:=by simpa using (hV1.set 0 (.int .i64 N)).set 1 (.slice a2 m.length c2)
 have hR2:CellsAt ((w1.setCell ⟨VB,0,none⟩ (.int .i64 N)).setCell ⟨VB,1,none⟩ (.slice a2 m.length c2)) RB 25 #[.int .i64 0,.slice none 0 0]:=dL (dL hR1 (Ne.symm hVR) _ _) (Ne.symm hVR) _ _;have hB2:Below w.heap.size w ((w1.setCell ⟨VB,0,none⟩ (.int .i64 N)).setCell ⟨VB,1,none⟩ (.slice a2 m.length c2)):=bls (bls hbw1 (by rw [HVB.out];exact Nat.le_refl _) _) (by rw [HVB.out];exact Nat.le_refl _) _;have hs2:Sl2 ((w1.setCell ⟨VB,0,none⟩ (.int .i64 N)).setCell ⟨VB,1,none⟩ (.slice a2 m.length c2)) a2 c2 m:=⟨(hs.1.grownN hg1 hnV).grownN hg2 hnV,hs.2⟩;generalize (w1.setCell ⟨VB,0,none⟩ (.int .i64 N)).setCell ⟨VB,1,none⟩ (.slice a2 m.length c2)=W2 at hV2 hR2 hB2 hs2 ⊢;have hCL:=λW (hW:Below W2.heap.size W2 W)=>qx a2 m c2 W (hs2.1.below hW) hs2.2.1 hm;have HC:=Lib.hid hCL;have mixed:Try.prog.follows Departure.mixedOrders=true:=by kernel_rfl
 have bd:Below W2.heap.size W2 W2.drew:=⟨rfl,rfl,rfl,Nat.le_refl _,λ_ _=>rfl⟩;have bd2:∀X,Below W2.heap.size W2 (W2.drew.alloc X):=λX=>bla bd X;have bd3:∀X,Below W2.heap.size W2 ((W2.alloc X).drew):=λX=>bla bd X;have hlV:=hV2.lt;have c0:W2.cell? ⟨VB,0,none⟩=some (.int .i64 N):=hV2.cell 0;have c1:W2.cell? ⟨VB,1,none⟩=some (.slice a2 m.length c2):=hV2.cell 1;have hkp:∀W,Below W2.heap.size W2 W->W.cell? ⟨VB,0,none⟩=some (.int .i64 N)/\W.cell? ⟨VB,1,none⟩=some (.slice a2 m.length c2):=λW hW=>⟨(hW.cell (p:=⟨VB,0,none⟩) hlV).trans c0,(hW.cell (p:=⟨VB,1,none⟩) hlV).trans c1⟩;clear v0 v1 f0 f1 kV hg1 hg2 hV1 hR1 hbw1 hs hnV c0 c1
 go_region_held3 (λW=>W.cell? ⟨VB,0,none⟩=some (.int .i64 N)/\W.cell? ⟨VB,1,none⟩=some (.slice a2 m.length c2)) (first|exact hkp _ bd|exact hkp _ (bd2 _)|exact hkp _ (bd3 _)|exact hkp _ hBX|exact hkp _ (bla hBX _)|exact hkp _ (bls hBX (Nat.le_refl _) _)|exact hkp _ (bls (bls hBX (Nat.le_refl _) _) (Nat.le_refl _) _)|fail) (first|(go_at_call 36;refine(hCL _ (by first|exact bd|exact bd2 _|exact bd3 _)).mono ?_;rintro e w3 ⟨v,rfl,hown,hb3,hv1,hv2⟩;obtain⟨a6,c6,rfl,ha6⟩:=jO hown;have hBX:Below W2.heap.size W2 w3:=(by first|exact bd.trans hb3|exact(bd2 _).trans (hb3.mono (bd2 _).size)|exact(bd3 _).trans (hb3.mono (bd3 _).size));(first|(have hO:CellsAt w3 W2.heap.size 25 #[.int .i64 0,.slice none 0 0]:=CellsAt.below (show CellsAt (W2.alloc (.cells #[.int .i64 0,.slice none 0 0] 25)).drew W2.heap.size 25 #[.int .i64 0,.slice none 0 0]from World.alloc_heap_new W2 _) hb3;have o0:w3.cell? ⟨W2.heap.size,0,none⟩=some (.int .i64 0):=hO.cell 0;have o1:w3.cell? ⟨W2.heap.size,1,none⟩=some (.slice none 0 0):=hO.cell 1;have of0:=hO.frozen 0;have of1:=hO.frozen 1;have kO:=Has.of hO.lt)|skip)))
 all_goals first
  |(have hO4:CellsAt (w3.alloc (.cells #[.int .i64 N,.slice a6 m.length c6] 25)) w3.heap.size 25 #[.int .i64 N,.slice a6 m.length c6]:=World.alloc_heap_new w3 _
    have hown4:=(eE hown (show W2.heap.size<=_ from Nat.le_refl _)).alloc (.cells #[.int .i64 N,.slice a6 m.length c6] 25);have hB4:Below W2.heap.size W2 (w3.alloc (.cells #[.int .i64 N,.slice a6 m.length c6] 25)):=bla hBX _;have hOg:∀q,(Value.slice a6 m.length c6).ownBlock=some q->q≠w3.heap.size:=λq hq=>by have:=(hown.lt q hq).2;omega
    have hOW:W2.heap.size<=w3.heap.size:=hBX.size;clear hown hb3 hBX;generalize w3.alloc (.cells #[.int .i64 N,.slice a6 m.length c6] 25)=W4 at hO4 hown4 hB4 ⊢
    generalize w3.heap.size=OB at hO4 hOg hOW ⊢)
  |(have hO4:CellsAt ((w3.setCell ⟨W2.heap.size,0,none⟩ (.int .i64 N)).setCell ⟨W2.heap.size,1,none⟩ (.slice a6 m.length c6)) W2.heap.size 25 #[.int .i64 N,.slice a6 m.length c6]:=by simpa using (hO.set 0 (.int .i64 N)).set 1 (.slice a6 m.length c6)
    have hOg:∀q,(Value.slice a6 m.length c6).ownBlock=some q->q≠W2.heap.size:=λq hq=>by have:=(hown.lt q hq).1;simp at this;omega
    have hown4:=((eE hown (show W2.heap.size<=_ from by simp)).kept (al w3 W2.heap.size 0 (.int .i64 N)) (.inr (λe=>hOg _ e rfl))).kept (al _ W2.heap.size 1 (.slice a6 m.length c6)) (.inr (λe=>hOg _ e rfl));have hB4:Below W2.heap.size W2 ((w3.setCell ⟨W2.heap.size,0,none⟩ (.int .i64 N)).setCell ⟨W2.heap.size,1,none⟩ (.slice a6 m.length c6)):=bls (bls hBX (Nat.le_refl _) _) (Nat.le_refl _) _;have hOW:W2.heap.size<=W2.heap.size:=Nat.le_refl _;clear hown hb3 hBX hO o0 o1 of0 of1 kO;generalize (w3.setCell ⟨W2.heap.size,0,none⟩ (.int .i64 N)).setCell ⟨W2.heap.size,1,none⟩ (.slice a6 m.length c6)=W4 at hO4 hown4 hB4 ⊢;obtain⟨OB,hOB⟩:∃OB,OB=W2.heap.size:=⟨_,rfl⟩;rw [<-hOB]at hO4 hOg ⊢;replace hOW:W2.heap.size<=OB:=by omega
    clear hOB)
 all_goals (
  have hlV:=hV2.lt;have hlR:=hR2.lt;have hV4:=hV2.below hB4;have hR4:=hR2.below hB4;have hs4:Sl2 W4 a2 c2 m:=⟨hs2.1.below hB4,hs2.2⟩;have hBW4:Below w.heap.size w W4:=hB2.trans (hB4.mono hB2.size);have hBS:=hB2.size;have hOV:OB≠VB:=by omega
  have hOR:OB≠RB:=by omega
  have c0:W4.cell? ⟨VB,0,none⟩=some (.int .i64 N):=hV4.cell 0;have c1:W4.cell? ⟨VB,1,none⟩=some (.slice a2 m.length c2):=hV4.cell 1;have kV:=Has.of hV4.lt;clear hV2 hR2 hB2 hs2 hkp bd bd2 bd3 hCL
  go_wp2_with fail
  refine(HF.out a2 c2 W4 hBW4 hs4 hnn).mono ?_;rintro x w5 ⟨rfl,hb5⟩;have hO5:=hO4.below hb5;have hR5:=hR4.below hb5;have hown5:=hown4.kept (bM hb5 none) (Classical.em _);have hBW5:Below w.heap.size w w5:=hBW4.trans (hb5.mono hBW4.size);have hW5:=hb5.size;clear hO4 hR4 hown4 hBW4 hs4 hV4 c0 c1 kV;have o0:w5.cell? ⟨OB,0,none⟩=some (.int .i64 N):=hO5.cell 0;have o1:w5.cell? ⟨OB,1,none⟩=some (.slice a6 m.length c6):=hO5.cell 1;have r0:w5.cell? ⟨RB,0,none⟩=some (.int .i64 0):=hR5.cell 0;have r1:w5.cell? ⟨RB,1,none⟩=some (.slice none 0 0):=hR5.cell 1;have f0:=hR5.frozen 0;have f1:=hR5.frozen 1;have g0:=hO5.frozen 0;have g1:=hO5.frozen 1;have kO:=Has.of hO5.lt;have kR:=Has.of hR5.lt;have hOB1:=hO5.lt;have hRo:∀q,(Value.slice a6 m.length c6).ownBlock=some q->q≠RB:=λq hq=>by have:=(hown5.lt q hq).1;omega
  have hv2':nn=true->∃k,(Value.slice a6 m.length c6).ownBlock=some k:=λh=>hv2 (by rintro rfl;rw [hnn]at h;cases h);have hv1':nn=false->Value.slice a6 m.length c6= .slice none 0 0:=λh=>hv1 (by rw [hnn]at h;simpa using h);have HV1:=Lib.hid hv1';have HV2:=Lib.hid hv2';clear hv1 hv2 hv1' hv2' hnn;cases is
  .go_wp2_with fail
   refine bodyPost_ret (v:= .agg #[.int .i64 N,.slice a6 m.length c6]) ?_ rfl ⟨_,rfl,?_,?_,?_,?_⟩
   .have hCF:CellsAt ((w5.setCell ⟨RB,0,none⟩ (.int .i64 N)).setCell ⟨RB,1,none⟩ (.slice a6 m.length c6)) RB 25 #[.int .i64 N,.slice a6 m.length c6]:=by simpa using (hR5.set 0 (.int .i64 N)).set 1 (.slice a6 m.length c6)
    have k0:=hCF.cell 0;have k1:=hCF.cell 1;simp at k0 k1;simp [results,Try.results19,go_sem,k0,k1]
   .exact eE ((hown5.kept (al w5 RB 0 (.int .i64 N)) (.inr (λe=>hRo _ e rfl))).kept (al _ RB 1 (.slice a6 m.length c6)) (.inr (λe=>hRo _ e rfl))) hBS
   .exact bls (bls hBW5 hR0 _) hR0 _
   .exact HV1.out
   .exact HV2.out
  .have hi2:i<m.length:=hi rfl;have hw:Go.RowKit.wrap64 ((i:Int)+1)=(i:Int)+1:=by unfold Go.RowKit.wrap64;omega
   have HD:=Lib.hid (zb W2.heap.size m.length i a6 c6 m w5 hown5 rfl hi2)
   go_wp2_with fail
   refine HD.out.mono ?_;rintro x w6 ⟨v7,rfl,hown6,hg6,hvo,hvk⟩;obtain⟨a7,c7,rfl,ha7⟩:=jO hown6;have hO6:=hO5.grown hg6 (λe=>hOg _ e.symm rfl);have hR6:=hR5.grown hg6 (λe=>hRo _ e.symm rfl);have hBW6:Below w.heap.size w w6:=hBW5.trans ((ik hg6 (λq hq=>Nat.le_trans hBS (hown5.lt q hq).1) hBW5.size).mono (Nat.le_refl _));have hOg6:∀q,(Value.slice a7 (m.length - 1) c7).ownBlock=some q->q≠OB:=λq hq=>hOg q (hvo.symm.trans hq);have hRo6:∀q,(Value.slice a7 (m.length - 1) c7).ownBlock=some q->q≠RB:=λq hq=>hRo q (hvo.symm.trans hq);clear hO5 hR5 hown5 hBW5 o0 o1 r0 r1 f0 f1 g0 g1 kO kR HD hg6 hvo;have o0:w6.cell? ⟨OB,0,none⟩=some (.int .i64 N):=hO6.cell 0;have o1:w6.cell? ⟨OB,1,none⟩=some (.slice a6 m.length c6):=hO6.cell 1;have r0:w6.cell? ⟨RB,0,none⟩=some (.int .i64 0):=hR6.cell 0;have r1:w6.cell? ⟨RB,1,none⟩=some (.slice none 0 0):=hR6.cell 1;have f0:=hR6.frozen 0;have f1:=hR6.frozen 1;have g0:=hO6.frozen 0;have g1:=hO6.frozen 1;have kO:=Has.of hO6.lt;have kR:=Has.of hR6.lt;have HVK:=Lib.hid hvk;clear hvk
   go_wp2_with fail
   have hR7:=dL hR6 (Ne.symm hOR) (.slice a7 (m.length - 1) c7) 1;have hO0:w.heap.size<=OB:=by omega
   have hml:(m.take i++m.drop (i+1)).length=m.length - 1:=by simp;omega
   refine bodyPost_ret (v:= .agg #[.int .i64 N,.slice a7 (m.length - 1) c7]) ?_ rfl ⟨_,rfl,?_,?_,?_,?_⟩
   .have hCF:CellsAt (((w6.setCell ⟨OB,1,none⟩ (.slice a7 (m.length - 1) c7)).setCell ⟨RB,0,none⟩ (.int .i64 N)).setCell ⟨RB,1,none⟩ (.slice a7 (m.length - 1) c7)) RB 25 #[.int .i64 N,.slice a7 (m.length - 1) c7]:=by simpa using (hR7.set 0 (.int .i64 N)).set 1 (.slice a7 (m.length - 1) c7)
    have k0:=hCF.cell 0;have k1:=hCF.cell 1;simp at k0 k1;simp [results,Try.results19,go_sem,k0,k1]
   .have h9:=eE (((hown6.kept (al w6 OB 1 (.slice a7 (m.length - 1) c7)) (.inr (λe=>hOg6 _ e rfl))).kept (al _ RB 0 (.int .i64 N)) (.inr (λe=>hRo6 _ e rfl))).kept (al _ RB 1 (.slice a7 (m.length - 1) c7)) (.inr (λe=>hRo6 _ e rfl))) hBS;have e9:min i m.length+(m.length - (i+1))=m.length - 1:=by simp only [Nat.min_def];split<;>omega
    rw [e9];exact h9
   .exact bls (bls (bls hBW6 hO0 _) hR0 _) hR0 _
   .intro h;have h9:=HV1.out h
    injection h9
    omega
   .exact λ_=>HVK.out)
end It
end Sm
end
noncomputable section
namespace Ev
namespace KM
open Go
def okS{α:Type}(w:Nat)(s:Sl α):Prop:=s.l= []∨s.sz=w
theorem SlW.ok{α:Type}{w:Nat}{Q:α->Prop}{s:Sl α}(h:SlW w Q s):okS w s:= .inr h.1
def Dn{α:Type}:Sl α:=⟨false,0,[]⟩
theorem Do{α:Type}{w:Nat}:okS w (Dn:Sl α):= .inl rfl
theorem Au{α:Type}{w:Nat}(l:List α):okS w (mo w l):=by cases l with|nil=>exact .inl rfl|cons x l=>exact .inr rfl
def tB(n:Int):Bool:=decide (0<=n)&& decide (n<=4096)
theorem sizeF_iff{n:Int}:tB n=true↔0<=n/\n<=4096:=by unfold tB;simp
end KM
end Ev
end
noncomputable section
namespace Ev
namespace KM
open Go
abbrev P2:=Int×Int
abbrev Vec:=Int×Sl P2
def asc(a n:Int):List P2->Bool
 | []=>true
 |x::l=>decide (a<x.1)&& decide (x.1<n)&& asc x.1 n l
def dn(v:Vec):Bool:=tB v.1 && asc (-1) v.1 v.2.l
def ML:Vec:=(0,Dn)
def aF(v:Vec):Vec:=if dn v=true then v else ML
theorem asc_cons{a n:Int}{x:P2}{l:List P2}:asc a n (x::l)=true↔a<x.1/\x.1<n/\asc x.1 n l=true:=by
 simp only [asc,Bool.and_eq_true,decide_eq_true_eq,and_assoc]
theorem Av{n:Int}:∀{a:Int} {l:List P2},asc a n l=true->∀y∈l,a<y.1/\y.1<n
 |a,[],_=>λy hy=>by simp at hy
 |a,x::l,h=>λy hy=>by
  obtain⟨h1,h2,h3⟩:=asc_cons.1 h;rcases List.mem_cons.1 hy with rfl|hy
  .exact⟨h1,h2⟩
  .have:=Av h3 y hy;omega
theorem tC{n:Int}:∀{a:Int} {l:List P2},asc a n l=true->l.Pairwise λx y=>x.1<y.1
 |a,[],_=>List.Pairwise.nil
 |a,x::l,h=>by
  obtain⟨h1,h2,h3⟩:=asc_cons.1 h;exact List.pairwise_cons.2 ⟨λy hy=>(Av h3 y hy).1,tC h3⟩
theorem mt{n:Int}:∀{a:Int} {l:List P2},asc a n l=true->l= []∨(l.length:Int)<=n - a - 1
 |a,[],_=> .inl rfl
 |a,x::l,h=>by
  obtain⟨h1,h2,h3⟩:=asc_cons.1 h
  right
  rcases mt h3 with rfl|h4
  .simp;omega
  .simp only [List.length_cons];omega
theorem Ca{v:Vec}(h:dn v=true):0<=v.1/\v.1<=4096:=by
 simp only [dn,Bool.and_eq_true]at h;exact sizeF_iff.1 h.1
theorem tD{v:Vec}(h:dn v=true):asc (-1) v.1 v.2.l=true:=by
 simp only [dn,Bool.and_eq_true]at h;exact h.2
theorem nH{v:Vec}(h:dn v=true):v.2.l.length<=4096:=by
 have h1:=Ca h;rcases mt (tD h)with h2|h2
 .rw [h2];simp
 .omega
theorem qy(v:Vec):dn (aF v)=true:=by
 unfold aF;split
 .assumption
 .rfl
theorem mu(v:Vec):(aF v).2.l.length<=4096:=nH (qy v)
theorem vu{v:Vec}(h:okS 2 v.2):okS 2 (aF v).2:=by
 unfold aF;split
 .exact h
 .exact .inl rfl
theorem FQ{v:Vec}(h:v.2.nn=true∨v.2.l= []):(aF v).2.nn=true∨(aF v).2.l= []:=by
 unfold aF;split
 .exact h
 .exact .inr rfl
theorem vw(n:Int):bL n=some (tB n):=by
 rw [fM];unfold tB;by_cases h:n >= 0
 .rw [if_pos h,decide_eq_true (show 0<=n from h)];rfl
 .rw [if_neg h,decide_eq_false (show¬0<=n from h)];rfl
theorem Dp{n:Int}{l:List P2}{j:Nat}(hj:j<l.length)(a:Int):asc a n (l.drop j)=(decide (a<l[j].1)&& decide (l[j].1<n)&& asc l[j].1 n (l.drop (j+1))):=by
 rw [List.drop_eq_getElem_cons hj];rfl
theorem sL{v:Vec}(hs:okS 2 v.2)(hl:v.2.l.length<=9223372036854775806):bG v=some (dn v):=by
 rw [gA,vw];unfold dn
 cases tB v.1 with
 |false=>rfl
 |true=>
  simp only [zbS,not_true_eq_false,if_false,Bool.true_and]
  obtain⟨q,q1,q2⟩:=gv (b:=aZ v) v.2.l.length (λj st=>st.2=(j:Int)/\asc (-1) v.1 v.2.l=asc st.1 v.1 (v.2.l.drop j)) (λq=>q=if asc (-1) v.1 v.2.l=true then .inl ()else .inr (.inl false))
   (by
    rintro j ⟨a,i⟩ hj ⟨rfl,he⟩;have ej:=gh hs hj;rw [Dp hj]at he;simp only [aZ,ej,zbS];rw [if_pos (by omega)];by_cases c1:v.2.l[j].1<=a
    .rw [if_pos c1];refine .inr ⟨_,rfl,?_⟩;rw [he,decide_eq_false (by omega)];rfl
    rw [if_neg c1];rw [decide_eq_true (show a<v.2.l[j].1 by omega)]at he;by_cases c2:v.2.l[j].1 >= v.1
    .rw [if_pos c2];refine .inr ⟨_,rfl,?_⟩;rw [he,decide_eq_false (by omega)];rfl
    rw [if_neg c2];rw [decide_eq_true (show v.2.l[j].1<v.1 by omega)]at he
    exact .inl ⟨_,rfl,iQ hj (by omega),by simpa using he⟩)
   (by
    rintro⟨a,i⟩ ⟨rfl,he⟩;rw [List.drop_length]at he;simp only [aZ];rw [if_neg (by omega)]
    exact⟨_,rfl,by rw [he];rfl⟩) 0 (Nat.zero_le _) (-1,0) ⟨rfl,rfl⟩
  rw [q1,q2];cases asc (-1) v.1 v.2.l<;>rfl
theorem mv{v:Vec}(hs:okS 2 v.2)(hl:v.2.l.length<=9223372036854775806):bE v=some (aF v):=by
 rw [sE,sL hs hl];unfold aF;simp only [zbS];split<;>rfl
def px(l:List P2)(y:Int):Nat:=(l.takeWhile λx=>decide (x.1<y)).length
def isI(l:List P2)(y:Int):Bool:=decide (l[px l y]?.map (·.1)=some y)
theorem FS(l:List P2)(y:Int):px l y<=l.length:=(List.takeWhile_sublist _).length_le
theorem Cb{x:P2}{l:List P2}{y:Int}:px (x::l) y=if x.1<y then px l y+1 else 0:=by
 unfold px;rw [List.takeWhile_cons];by_cases h:x.1<y
 .rw [if_pos h,if_pos (by simpa using h)];rfl
 .rw [if_neg h,if_neg (by simpa using h)];rfl
theorem qz{y:Int}:∀{l:List P2} {k:Nat},k<=l.length->(∀j (hj:j<l.length),j<k->l[j].1<y)->(∀j (hj:j<l.length),k<=j->y<=l[j].1)->k=px l y
 | [],k,hk,_,_=>by simp at hk;subst hk;rfl
 |x::l,k,hk,h1,h2=>by
  rw [Cb];by_cases hx:x.1<y
  .rw [if_pos hx]
   cases k with
   |zero=>have:=h2 0 (by simp) (Nat.le_refl _);simp at this;omega
   |succ k=>
    refine congrArg (·+1) (qz (l:=l) (by simpa using hk) (λj hj hjk=> ?_) (λj hj hjk=> ?_))
    .have:=h1 (j+1) (by simpa using hj) (by omega);simpa using this
    .have:=h2 (j+1) (by simpa using hj) (by omega);simpa using this
  .rw [if_neg hx]
   cases k with
   |zero=>rfl
   |succ k=>exact absurd (h1 0 (by simp) (by omega)) hx
theorem vy{v:Vec}(hok:okS 2 v.2)(hl:v.2.l.length<=100000)(hs:v.2.l.Pairwise λa b=>a.1<b.1)(y:Int):dj v y=some (((px v.2.l y:Nat):Int),isI v.2.l y):=by
 have hp:=List.pairwise_iff_getElem.1 hs
 have key:∀d a b:Nat,b - a<=d->a<=b->b<=v.2.l.length->(∀j (hj:j<v.2.l.length),j<a->v.2.l[j].1<y)->(∀j (hj:j<v.2.l.length),b<=j->y<=v.2.l[j].1)->∃k:Nat,k<=v.2.l.length/\cB (dz v y) ((a:Int),(b:Int))=some (.inl (k:Int))/\(∀j (hj:j<v.2.l.length),j<k->v.2.l[j].1<y)/\(∀j (hj:j<v.2.l.length),k<=j->y<=v.2.l[j].1):=by
  intro d
  induction d with
  |zero=>
   intro a b hd hab hb h1 h2;obtain rfl:a=b:=by omega
   refine⟨a,hb,lq ?_,h1,h2⟩;simp only [dz];rw [if_neg (by omega)]
  |succ d ih=>
   intro a b hd hab hb h1 h2;by_cases hlt:a<b
   .have hmid:(a+b)/ 2<v.2.l.length:=by omega
    have e1:IntKind.i64.wrap ((a:Int)+(b:Int))=((a+b:Nat):Int):=by rw [wrap64 (by omega) (by omega)];omega
    have e2:IntKind.u64.wrap ((a+b:Nat):Int)=((a+b:Nat):Int):=by rw [De];omega
    have e3:xW .u64 ((a+b:Nat):Int) 1=some (((a+b)/ 2:Nat):Int):=by
     unfold xW GF;rw [if_pos (by omega),show((2:Int)^(min (1:Int).toNat IntKind.u64.bits))=2 from by decide,Int.fdiv_eq_ediv_of_nonneg _ (by omega)];rfl
    have e4:IntKind.i64.wrap (((a+b)/ 2:Nat):Int)=(((a+b)/ 2:Nat):Int):=by rw [wrap64 (by omega) (by omega)]
    have e5:IntKind.i64.wrap ((((a+b)/ 2:Nat):Int)+1)=(((a+b)/ 2+1:Nat):Int):=by rw [wrap64 (by omega) (by omega)];omega
    have a1:=gh hok hmid;by_cases hc:v.2.l[(a+b)/ 2].1 >= y
    .obtain⟨k,k1,k2,k3,k4⟩:=ih a ((a+b)/ 2) (by omega) (by omega) (by omega) h1 (λj hj hja=>by
      by_cases hjm:j=(a+b)/ 2
      .subst hjm;omega
      .have:=hp ((a+b)/ 2) j hmid hj (by omega);omega)
     refine⟨k,k1,(lr ?_).trans k2,k3,k4⟩;simp only [dz,e1,e2,e3,e4,a1,zbS];rw [if_pos (by omega),if_neg (λh=>h hc)]
    .obtain⟨k,k1,k2,k3,k4⟩:=ih ((a+b)/ 2+1) b (by omega) (by omega) hb (λj hj hja=>by
      by_cases hjm:j=(a+b)/ 2
      .subst hjm;omega
      .have:=hp j ((a+b)/ 2) hj hmid (by omega);omega) h2
     refine⟨k,k1,(lr ?_).trans k2,k3,k4⟩;simp only [dz,e1,e2,e3,e4,a1,zbS];rw [if_pos (by omega),if_pos hc,e5]
   .obtain rfl:a=b:=by omega
    exact ih a a (by omega) hab hb h1 h2
 obtain⟨k,k1,k2,k3,k4⟩:=key v.2.l.length 0 v.2.l.length (by omega) (by omega) (Nat.le_refl _) (λj _ h=>by omega) (λj hj h=>by omega);have hk0:=qz k1 k3 k4;rw [sG,show cB (dz v y) (0,((v.2.l.length:Nat):Int))=some (.inl (k:Int))from k2];unfold isI;rw [<-hk0];simp only [zbS,Sum.elim_inl];by_cases hk:k<v.2.l.length
 .rw [if_pos (by omega),gh hok hk];simp only [zbS,List.getElem?_eq_getElem hk,Option.map_some,zsI]
 .rw [if_neg (by omega),List.getElem?_eq_none (by omega)];simp
theorem ja{v:Vec}(hok:okS 2 v.2)(y:Int):dj (aF v) y=some (((px (aF v).2.l y:Nat):Int),isI (aF v).2.l y):=
 vy (vu hok) (by have:=mu v;omega) (tC (tD (qy v))) y
theorem Dq{l:List P2}{y:Int}(h:isI l y=true):px l y<l.length:=by
 unfold isI at h;simp only [decide_eq_true_eq]at h;rw [Option.map_eq_some_iff]at h;obtain⟨x,hx,_⟩:=h;exact(List.getElem?_eq_some_iff.1 hx).1
end KM
end Ev
end
noncomputable section
open Go.RowKit Go.Sort
namespace Sm
namespace It
open Ev Ev.KM
def okV(x:Sl (Int×Int)):Bool:=decide (x.l.length<=90000)&&(decide (x.sz=2)||x.l.isEmpty)
theorem Im{w:World}{F:Nat->Prop}{x:Sl (Int×Int)}{y:Value}(hx:x.sz=2∨x.l= [])(h:RepT w F (Sl.t ety.row x) y):∃a c,y= .slice a x.l.length c/\Sl2 w a c x.l/\x.nn=a.isSome/\(∀b,a=some b->x.l≠[]->¬F b.block):=by
 obtain⟨nn,sz,l⟩:=x;unfold Sl.t at h
 cases h with
 |s _ _ _ a c ys hn hc h0 hl hm hr=>
  rw [List.length_map]at hc ⊢;refine⟨a,c,rfl,⟨?_,λha=>⟨h0 ha,by have:=h0 ha;omega⟩,hc⟩,hn,?_⟩
  .intro i hi
   have hsz:sz=2:=by
    rcases hx with h|h
    .exact h
    .simp only at h;rw [h]at hi;simp at hi
   subst hsz;have hil:(l.map ety.row)[i]? =some (ety.row l[i]):=by simp [hi]
   have he:el l i=l[i]:=by simp [el,List.getD_eq_getElem?_getD,hi]
   rw [he]
   have g:∀j v,(ety.row l[i])[j]? =some (.v v)->∃b,a=some b/\b.block<w.heap.size/\w.cell? (b.add (i*2+j))=some v:=by
    intro j v hj;obtain⟨b,h1,h2,_,h3⟩:=hm i _ j _ hil hj;refine⟨b,h1,h2,?_⟩
    have:=hr i _ j _ hil hj
    rw [h3];generalize ys i j=y at this
    cases this with|v x hx=>rfl
   obtain⟨b,e0,h1,c0⟩:=g 0 (.int .i64 l[i].1) rfl;obtain⟨b1,e1,_,c1⟩:=g 1 (.int .i64 l[i].2) rfl;rw [e0]at e1;cases e1;refine⟨b,e0,h1,by simpa using c0,?_⟩;rw [mm]at c1;exact c1
  .intro b hb hne;have h0:0<l.length:=List.length_pos_iff.2 hne;have hil:(l.map ety.row)[0]? =some (ety.row l[0]):=by simp [h0]
   obtain⟨b',h1,_,h2,_⟩:=hm 0 _ 0 (.v (.int .i64 l[0].1)) hil rfl;rw [hb]at h1;cases h1;exact h2
theorem FT{w:World}{F:Nat->Prop}{a:Option Addr}{c:Nat}{x:Sl (Int×Int)}(hF:∀b,¬F b)(hx:x.sz=2∨x.l= [])(h:Sl2 w a c x.l)(hn:x.nn=a.isSome):RepT w F (Sl.t ety.row x) (.slice a x.l.length c):=by
 obtain⟨nn,sz,l⟩:=x;simp only at hx h hn ⊢;subst hn;by_cases hl:l= []
 .subst hl;exact RepT.s (w:=w) (F:=F) a.isSome sz [] a c (λ_ _=> .nilFunc) rfl (Nat.zero_le _) (λha=>(h.2.1 ha).1) (λi e h=>by simp at h) (λi e j t h=>by simp at h) (λi e j t h=>by simp at h)
 .obtain rfl:sz=2:=hx.resolve_right hl
  cases a with
  |none=>exact absurd (List.eq_nil_of_length_eq_zero (h.2.1 rfl).2) hl
  |some b=>exact rep_of (base:=0) ⟨h.1,h.2.1,h.2.2,λ_ _=>Nat.zero_le _⟩ (λb hb=>(hF b hb).elim) (.inl hl)
set_option maxRecDepth 100000 in
theorem sure_calls{w:World}{F0:Nat->Prop}{n N:Int}{x x2:Sl (Int×Int)}{y1:Value}(hr:RepT w F0 (Sl.t ety.row x) y1)(hL:LD w.heap.size w)(hs:bE (n,x)=some (N,x2))(hx:x2.sz=2∨x2.l= [])(W:World)(hW:Below w.heap.size w W)(hlt:w.heap.size<W.heap.size):
  Calls Try.prog 9 #[.agg #[.int .i64 n,y1]] W λe w'=>∃a2 c2,e= .returned (.agg #[.int .i64 N,.slice a2 x2.l.length c2])/\Sl2 w' a2 c2 x2.l/\x2.nn=a2.isSome/\(∀b,a2=some b->x2.l≠[]->b.block≠w.heap.size)/\Below W.heap.size W w':=by
 obtain⟨fr,hP⟩:=K.qv 0 (n,x) (N,x2) hs;have h:=RunsP.pure K.cS hP;refine(h W (λb=>b=w.heap.size) [.agg #[.int .i64 n,y1]] (LD.below hL hW) (λb hb=>by rw [hb];exact hlt) ⟨rfl,λi t hi=> ?_⟩).mono ?_
 .have h0:i=0:=by
   have h1:i<1:=(List.getElem?_eq_some_iff.1 hi).1;omega
  subst h0;cases hi;exact⟨_,rfl,vec (hr.mono hW.size λb hlt _ hn=>⟨hW.block b hlt,λhf=>by omega⟩)⟩
 .rintro e w' ⟨y,rfl,hres,_,hbl⟩;replace hres:RepTD w' (λb=>b<W.heap.size/\(cond fr Kind.fresh Kind.any≠ .any∨b=w.heap.size)) (.agg [iT .i64 N,Sl.t ety.row x2]) y:=hres
  cases hres with
  |agg _ ys hh=>
   obtain⟨hl,hi⟩:=hh
   match ys,hl with
   | [u0,u1],_=>
    obtain⟨u,e1,e2⟩:=hi 0 _ rfl;simp only [List.getElem?_cons_zero,zsI]at e1;subst e1;obtain⟨u,e1,e3⟩:=hi 1 _ rfl;simp only [List.getElem?_cons_succ,List.getElem?_cons_zero,zsI]at e1;subst e1
    have eu:u0= .int .i64 N:=by cases e2 with|v x hx=>rfl
    subst eu;obtain⟨a2,c2,rfl,h1,h2,h3⟩:=Im hx e3;exact⟨a2,c2,rfl,h1,h2,λb hb hne he=>h3 b hb hne ⟨by rw [he];exact hlt,.inr he⟩,hbl⟩
set_option maxRecDepth 100000 in
theorem find_calls{w:World}{N pl fi:Int}{is:Bool}{x2:Sl (Int×Int)}(hL:LD w.heap.size w)(hf:dj (N,x2) pl=some (fi,is))(hx:x2.sz=2∨x2.l= [])(a2:Option Addr)(c2:Nat)(W:World)(hW:Below w.heap.size w W)(hs:Sl2 W a2 c2 x2.l)(hn:x2.nn=a2.isSome):
  Calls Try.prog 35 #[.agg #[.int .i64 N,.slice a2 x2.l.length c2],.int .i64 pl] W λe w'=>e= .returned (.tuple #[.int .i64 fi,.bool is])/\Below W.heap.size W w':=by
 have h:=RunsP.pure K.cS (K.qw 0 ((N,x2),pl) (fi,is) hf);refine(h W (λ_=>False) [.agg #[.int .i64 N,.slice a2 x2.l.length c2],.int .i64 pl] (LD.below hL hW) (λ_ h=>h.elim) ⟨rfl,λi t hi=> ?_⟩).mono λe w' ⟨y',e1,e2,_,e3⟩=>⟨?_,e3⟩
 .match i,hi with
  |0,hi=>cases hi;exact⟨_,rfl,vec (FT (λ_ h=>h) hx hs hn)⟩
  |1,hi=>cases hi;exact⟨_,rfl,.one _ _ (.v _ rfl)⟩
  |i+2,hi=>exact absurd hi (by show¬([_,_]:List TD)[i+2]? =some t;simp)
 .rw [e1,CX (x:= .tuple #[.int .i64 fi,.bool is]) rfl w' _ e2]
end It
namespace Dr
open Ev Ev.KM
abbrev Vc:K.Ty:= .C (.I .i64) (.S It.ety)
abbrev ins:List K.TyD:= [(true,Vc),(false,.I .i64)]
abbrev outs:List K.TyD:= [(true,Vc)]
def fnO(a:(Int×Sl (Int×Int))×Int):Option (Int×Sl (Int×Int)):=
 (bE a.1).bind λs=>(dj s a.2).bind λf=>
  if It.okV s.2=true/\0<=f.1/\(f.2=true->f.1<s.2.l.length)then some (s.1,⟨s.2.nn,2,if f.2=true then s.2.l.take f.1.toNat++s.2.l.drop (f.1.toNat+1)else s.2.l⟩)else none
theorem qA(a:K.bW ins)(o:K.bW outs)(h:fnO a=some o):dK Try.prog 19 (K.cO ins a) .fresh (K.cO outs o):=by
 obtain⟨⟨n,x⟩,pl⟩:=a;change Int at n;change Sl (Int×Int)at x;change Int at pl;unfold fnO at h;simp only [zbE]at h;obtain⟨⟨N,x2⟩,hs,⟨fi,is⟩,hf,h⟩:=h;simp only at hs hf h;split at h
 rotate_left
 .cases h
 rename_i hc;obtain⟨hok,h0,hlt⟩:=hc;cases h;simp only [It.okV,Bool.and_eq_true,Bool.or_eq_true,decide_eq_true_eq,List.isEmpty_iff]at hok;intro w F ys hL hF hr;obtain⟨hlen,hi⟩:=hr
 match ys,hlen with
 | [y0,y1],_=>
  obtain⟨y,e1,e2⟩:=hi 0 _ rfl;simp only [List.getElem?_cons_zero,zsI]at e1;subst e1;obtain⟨y,e1,e4⟩:=hi 1 _ rfl;simp only [List.getElem?_cons_succ,List.getElem?_cons_zero,zsI]at e1;subst e1
  have ey:y1= .int .i64 pl:=by
   cases e4 with
   |one t y h=>cases h with|v x hx=>rfl
  subst ey;replace e2:RepTD w F (.agg [iT .i64 n,Sl.t It.ety.row x]) y0:=e2
  cases e2 with
  |agg _ us hh=>
   obtain⟨hl,hi2⟩:=hh
   match us,hl with
   | [u0,u1],_=>
    obtain⟨u,e1,e2⟩:=hi2 0 _ rfl;simp only [List.getElem?_cons_zero,zsI]at e1;subst e1;obtain⟨u,e1,e3⟩:=hi2 1 _ rfl;simp only [List.getElem?_cons_succ,List.getElem?_cons_zero,zsI]at e1;subst e1
    have eu:u0= .int .i64 n:=by cases e2 with|v x hx=>rfl
    subst eu
    obtain⟨ad,k,c,rfl⟩:∃a n c,u1= .slice a n c:=by
     unfold Sl.t at e3
     cases e3 with
     |s _ _ _ a c ys hn=>exact⟨_,_,_,rfl⟩
    obtain⟨i,rfl⟩:∃i:Nat,fi=(i:Int):=⟨fi.toNat,by omega⟩;have hw:=It.drop_walk n ad k c pl w N x2.nn x2.l i is hok.1 (λh=>by have:=hlt h;omega) (λW hW hlt2=>It.sure_calls e3 hL hs hok.2 W hW hlt2) (λa2 c2 W hW h2 hn=>It.find_calls hL hf hok.2 a2 c2 W hW h2 hn);refine hw.mono ?_;rintro e w' ⟨v,rfl,⟨r,hr,hown⟩,hbl,hv1,hv2⟩;refine⟨_,rfl,?_,λhk=>(by cases hk),hbl⟩;have e9:(if is=true then x2.l.take (i:Int).toNat++x2.l.drop ((i:Int).toNat+1)else x2.l)=r:=by rw [hr];rfl
    refine It.vec (t:=Sl.t It.ety.row ⟨x2.nn,2,if is=true then x2.l.take (i:Int).toNat++x2.l.drop ((i:Int).toNat+1)else x2.l⟩) ?_;rw [e9];obtain⟨_,a',c',e,hcap,hrd,hz⟩:=It.row_rdE hown;subst e
    cases a' with
    |none=>
     have hr0:r= []:=List.eq_nil_of_length_eq_zero (hz rfl).2
     have hnn:x2.nn=false:=by
      cases hq:x2.nn with
      |false=>rfl
      |true=>obtain⟨k,hk⟩:=hv2 hq;cases hk
     rw [hnn,hr0];obtain⟨rfl,_⟩:=hz rfl;exact RepT.s false 2 [] none 0 (λ_ _=> .nilFunc) rfl (Nat.le_refl _) (λ_=>rfl) (λi e h=>by simp at h) (λi e j t h=>by simp at h) (λi e j t h=>by simp at h)
    |some b=>
     have hnn:x2.nn=true:=by
      cases hq:x2.nn with
      |true=>rfl
      |false=>have:=hv1 hq;cases this
     rw [hnn];refine It.rep_of (base:=w.heap.size) ⟨hrd,hz,hcap,λb' hb'=> ?_⟩ (λb hb=>hb.1) (.inr (by simp));cases hb';exact(hown.lt b.block rfl).1
def fn(a:(Int×Sl (Int×Int))×Int):Option (Int×Sl (Int×Int)):=
 if(a.1.2.sz=2∨a.1.2.l= [])/\a.1.2.l.length<=80000 then
  some ((aF a.1).1,⟨(aF a.1).2.nn,2,if isI (aF a.1).2.l a.2=true then(aF a.1).2.l.take (px (aF a.1).2.l a.2)++(aF a.1).2.l.drop (px (aF a.1).2.l a.2+1)else(aF a.1).2.l⟩)else none
theorem Ds(a:(Int×Sl (Int×Int))×Int)(o:Int×Sl (Int×Int))(h:fn a=some o):fnO a=some o:=by
 unfold fn at h;rw [Option.ite_none_right_eq_some]at h;obtain⟨⟨h1,h3⟩,h⟩:=h;have hok:okS 2 a.1.2:=h1.elim .inr .inl;have s1:=vu hok;have s3:=mu a.1;unfold fnO;rw [mv hok (by omega)];simp only [zbS];rw [ja hok];simp only [zbS,Int.toNat_natCast];refine(if_pos ⟨?_,by omega,?_⟩).trans h
 .simp only [It.okV,Bool.and_eq_true,Bool.or_eq_true,decide_eq_true_eq,List.isEmpty_iff];exact⟨by omega,s1.elim .inr .inl⟩
 .intro hi
  have:=Dq hi;omega
theorem pure_ok(a:K.bW ins)(o:K.bW outs)(h:fn a=some o):dK Try.prog 19 (K.cO ins a) .fresh (K.cO outs o):=qA a o (Ds a o h)
theorem enters:Ev.Enters Try.prog 19:=⟨_,_,Try.func19,by kernel_rfl,by unfold Try.f19;rfl⟩
end Dr
end Sm
end
noncomputable section
open Go.RowKit Go.Sort
namespace Sm
namespace It
theorem qB:∀(L:List Ed) (i:Nat) (v:Int),i<L.length->(ab L).set (i*2+1) (.int .i64 v)=ab (L.set i ((el L i).1,v))
 | [],i,v,h=>by simp at h
 |e::l,0,v,h=>by simp [dM,enc,el]
 |e::l,i+1,v,h=>by
  have ih:=qB l i v (by simpa using h);have e2:(i+1)*2+1=i*2+1+1+1:=by omega
  rw [dM,e2];show(.int .i64 e.1:: .int .i64 e.2::ab l).set (i*2+1+1+1) (.int .i64 v)=_;rw [List.set_cons_succ,List.set_cons_succ,ih];rfl
theorem Aw(base n i g c:Nat)(L:List Ed)(v:Int)(w:World)(h:w.ownsRow base 36 2 (.slice (some ⟨g,0,none⟩) n c) n (ab L))(hn:n=L.length)(hi:i<n):(w.setCell ⟨g,i*2+1,none⟩ (.int .i64 v)).ownsRow base 36 2 (.slice (some ⟨g,0,none⟩) n c) n (ab (L.set i ((el L i).1,v))):=by
 refine⟨by rw [aO,List.length_set,hn],?_⟩;rcases h.2 with⟨e,_⟩|⟨g',cap,cur,e,hb,hg,h1,h2,h3,h4⟩
 .cases e
 .cases e;refine .inr ⟨g,c,cur.setIfInBounds (i*2+1) (.int .i64 v),rfl,hb,?_,h1,h2,by simpa using h3,?_⟩
  .rw [setCell_eq_setRow w g (i*2+1) cur _ (0,0) _ hg];exact setRow_heap w g cur _ _ _ hg
  .rw [<-qB L i v (by omega),<-h4,Array.toList_setIfInBounds,List.take_set]
set_option maxRecDepth 100000 in
set_option maxHeartbeats 4000000 in
theorem put_walk(n:Int)(a:Option Addr)(k c:Nat)(pl val:Int)(w:World)(N:Int)(nn:Bool)(m:List Ed)(i:Nat)(is:Bool)(hm:m.length<=80000)(hi:if is=true then i<m.length else i<=m.length)
  (hSure:∀W,Below w.heap.size w W->w.heap.size<W.heap.size->Calls Try.prog 9 #[.agg #[.int .i64 n,.slice a k c]] W λe w'=>∃a2 c2,e= .returned (.agg #[.int .i64 N,.slice a2 m.length c2])/\Sl2 w' a2 c2 m/\nn=a2.isSome/\(∀b,a2=some b->m≠[]->b.block≠w.heap.size)/\Below W.heap.size W w')
  (hFind:∀a2 c2 W,Below w.heap.size w W->Sl2 W a2 c2 m->nn=a2.isSome->Calls Try.prog 35 #[.agg #[.int .i64 N,.slice a2 m.length c2],.int .i64 pl] W λe w'=>e= .returned (.tuple #[.int .i64 (i:Int),.bool is])/\Below W.heap.size W w'):
  Calls Try.prog 18 #[.agg #[.int .i64 n,.slice a k c],.int .i64 pl,.int .i64 val] w λe w'=>∃v,e= .returned (.agg #[.int .i64 N,v])/\(∃r,r=(if pl<0∨N<=pl then m else if is=true then m.set i ((el m i).1,val)else m.take i++(pl,val)::m.drop i)/\w'.ownsRow w.heap.size 36 2 v r.length (ab r))/\Below w.heap.size w w'/\(nn=false->m= []->(pl<0∨N<=pl)->v= .slice none 0 0)/\(nn=true->∃k,v.ownBlock=some k):=by
 have HS:=Lib.hid hSure;have HF:=Lib.hid hFind;clear hSure hFind
 go_enter Try.func18,Try.ntmps18
 go_wp2_with fail
 refine(HS.out _ (bl2 w _ _) (by simp;omega)).mono ?_;rintro x w1 ⟨a2,c2,rfl,hs,hnn,hnV,hb1⟩
 have hV1:CellsAt w1 w.heap.size 25 #[.int .i64 n,.slice a k c]:=by
  have h1:CellsAt (w.alloc (.cells #[.int .i64 n,.slice a k c] 25)) w.heap.size 25 #[.int .i64 n,.slice a k c]:=World.alloc_heap_new w _;exact(h1.below (bl1 _ (.cells #[.int .i64 0,.slice none 0 0] 25))).below hb1
 have hR1:CellsAt w1 (w.heap.size+1) 25 #[.int .i64 0,.slice none 0 0]:=by
  have h1:CellsAt ((w.alloc (.cells #[.int .i64 n,.slice a k c] 25)).alloc (.cells #[.int .i64 0,.slice none 0 0] 25)) (w.alloc (.cells #[.int .i64 n,.slice a k c] 25)).heap.size 25 #[.int .i64 0,.slice none 0 0]:=World.alloc_heap_new _ _;rw [World.size_alloc]at h1;exact h1.below hb1
 have hbw1:Below w.heap.size w w1:=(bl2 w _ _).trans (hb1.mono (bl2 w _ _).size);have hV0:w.heap.size<=w.heap.size:=Nat.le_refl _;have hR0:w.heap.size<=w.heap.size+1:=by omega
 have hVR:w.heap.size≠w.heap.size+1:=by omega
 generalize w.heap.size+1=RB at hR1 hR0 hVR ⊢;obtain⟨VB,hVB⟩:∃VB,VB=w.heap.size:=⟨_,rfl⟩;have HVB:=Lib.hid hVB;rw [<-hVB]at hV1 hVR hnV ⊢;clear hVB hb1;have v0:w1.cell? ⟨VB,0,none⟩=some (.int .i64 n):=hV1.cell 0;have v1:w1.cell? ⟨VB,1,none⟩=some (.slice a k c):=hV1.cell 1;have f0:=hV1.frozen 0;have f1:=hV1.frozen 1;have kV:=Has.of hV1.lt
 go_wp2_with fail
 have hg1:=al w1 VB 0 (.int .i64 N);have hg2:=al (w1.setCell ⟨VB,0,none⟩ (.int .i64 N)) VB 1 (.slice a2 m.length c2);have hV2:CellsAt ((w1.setCell ⟨VB,0,none⟩ (.int .i64 N)).setCell ⟨VB,1,none⟩ (.slice a2 m.length c2)) VB 25 #[.int .i64 N,.slice a2 m.length c2]:=by simpa using (hV1.set 0 (.int .i64 N)).set 1 (.slice a2 m.length c2)
 have hR2:CellsAt ((w1.setCell ⟨VB,0,none⟩ (.int .i64 N)).setCell ⟨VB,1,none⟩ (.slice a2 m.length c2)) RB 25 #[.int .i64 0,.slice none 0 0]:=dL (dL hR1 (Ne.symm hVR) _ _) (Ne.symm hVR) _ _;have hB2:Below w.heap.size w ((w1.setCell ⟨VB,0,none⟩ (.int .i64 N)).setCell ⟨VB,1,none⟩ (.slice a2 m.length c2)):=bls (bls hbw1 (by rw [HVB.out];exact Nat.le_refl _) _) (by rw [HVB.out];exact Nat.le_refl _) _;have hs2:Sl2 ((w1.setCell ⟨VB,0,none⟩ (.int .i64 N)).setCell ⟨VB,1,none⟩ (.slice a2 m.length c2)) a2 c2 m:=⟨(hs.1.grownN hg1 hnV).grownN hg2 hnV,hs.2⟩;generalize (w1.setCell ⟨VB,0,none⟩ (.int .i64 N)).setCell ⟨VB,1,none⟩ (.slice a2 m.length c2)=W2 at hV2 hR2 hB2 hs2 ⊢;have hCL:=λW (hW:Below W2.heap.size W2 W)=>qx a2 m c2 W (hs2.1.below hW) hs2.2.1 (by omega);have HC:=Lib.hid hCL;have mixed:Try.prog.follows Departure.mixedOrders=true:=by kernel_rfl
 have bd:Below W2.heap.size W2 W2.drew:=⟨rfl,rfl,rfl,Nat.le_refl _,λ_ _=>rfl⟩;have bd2:∀X,Below W2.heap.size W2 (W2.drew.alloc X):=λX=>bla bd X;have bd3:∀X,Below W2.heap.size W2 ((W2.alloc X).drew):=λX=>bla bd X;have hlV:=hV2.lt;have c0:W2.cell? ⟨VB,0,none⟩=some (.int .i64 N):=hV2.cell 0;have c1:W2.cell? ⟨VB,1,none⟩=some (.slice a2 m.length c2):=hV2.cell 1;have hkp:∀W,Below W2.heap.size W2 W->W.cell? ⟨VB,0,none⟩=some (.int .i64 N)/\W.cell? ⟨VB,1,none⟩=some (.slice a2 m.length c2):=λW hW=>⟨(hW.cell (p:=⟨VB,0,none⟩) hlV).trans c0,(hW.cell (p:=⟨VB,1,none⟩) hlV).trans c1⟩;clear v0 v1 f0 f1 kV hg1 hg2 hV1 hR1 hbw1 hs hnV c0 c1
 go_region_held3 (λW=>W.cell? ⟨VB,0,none⟩=some (.int .i64 N)/\W.cell? ⟨VB,1,none⟩=some (.slice a2 m.length c2)) (first|exact hkp _ bd|exact hkp _ (bd2 _)|exact hkp _ (bd3 _)|exact hkp _ hBX|exact hkp _ (bla hBX _)|exact hkp _ (bls hBX (Nat.le_refl _) _)|exact hkp _ (bls (bls hBX (Nat.le_refl _) _) (Nat.le_refl _) _)|fail) (first|(go_at_call 36;refine(hCL _ (by first|exact bd|exact bd2 _|exact bd3 _)).mono ?_;rintro e w3 ⟨v,rfl,hown,hb3,hv1,hv2⟩;obtain⟨a6,c6,rfl,ha6⟩:=jO hown;have hBX:Below W2.heap.size W2 w3:=(by first|exact bd.trans hb3|exact(bd2 _).trans (hb3.mono (bd2 _).size)|exact(bd3 _).trans (hb3.mono (bd3 _).size));(first|(have hO:CellsAt w3 W2.heap.size 25 #[.int .i64 0,.slice none 0 0]:=CellsAt.below (show CellsAt (W2.alloc (.cells #[.int .i64 0,.slice none 0 0] 25)).drew W2.heap.size 25 #[.int .i64 0,.slice none 0 0]from World.alloc_heap_new W2 _) hb3;have o0:w3.cell? ⟨W2.heap.size,0,none⟩=some (.int .i64 0):=hO.cell 0;have o1:w3.cell? ⟨W2.heap.size,1,none⟩=some (.slice none 0 0):=hO.cell 1;have of0:=hO.frozen 0;have of1:=hO.frozen 1;have kO:=Has.of hO.lt)|skip)))
 all_goals first
  |(have hO4:CellsAt (w3.alloc (.cells #[.int .i64 N,.slice a6 m.length c6] 25)) w3.heap.size 25 #[.int .i64 N,.slice a6 m.length c6]:=World.alloc_heap_new w3 _
    have hown4:=(eE hown (show W2.heap.size<=_ from Nat.le_refl _)).alloc (.cells #[.int .i64 N,.slice a6 m.length c6] 25);have hB4:Below W2.heap.size W2 (w3.alloc (.cells #[.int .i64 N,.slice a6 m.length c6] 25)):=bla hBX _;have hOg:∀q,(Value.slice a6 m.length c6).ownBlock=some q->q≠w3.heap.size:=λq hq=>by have:=(hown.lt q hq).2;omega
    have hOW:W2.heap.size<=w3.heap.size:=hBX.size;clear hown hb3 hBX;generalize w3.alloc (.cells #[.int .i64 N,.slice a6 m.length c6] 25)=W4 at hO4 hown4 hB4 ⊢
    generalize w3.heap.size=OB at hO4 hOg hOW ⊢)
  |(have hO4:CellsAt ((w3.setCell ⟨W2.heap.size,0,none⟩ (.int .i64 N)).setCell ⟨W2.heap.size,1,none⟩ (.slice a6 m.length c6)) W2.heap.size 25 #[.int .i64 N,.slice a6 m.length c6]:=by simpa using (hO.set 0 (.int .i64 N)).set 1 (.slice a6 m.length c6)
    have hOg:∀q,(Value.slice a6 m.length c6).ownBlock=some q->q≠W2.heap.size:=λq hq=>by have:=(hown.lt q hq).1;simp at this;omega
    have hown4:=((eE hown (show W2.heap.size<=_ from by simp)).kept (al w3 W2.heap.size 0 (.int .i64 N)) (.inr (λe=>hOg _ e rfl))).kept (al _ W2.heap.size 1 (.slice a6 m.length c6)) (.inr (λe=>hOg _ e rfl));have hB4:Below W2.heap.size W2 ((w3.setCell ⟨W2.heap.size,0,none⟩ (.int .i64 N)).setCell ⟨W2.heap.size,1,none⟩ (.slice a6 m.length c6)):=bls (bls hBX (Nat.le_refl _) _) (Nat.le_refl _) _;have hOW:W2.heap.size<=W2.heap.size:=Nat.le_refl _;clear hown hb3 hBX hO o0 o1 of0 of1 kO;generalize (w3.setCell ⟨W2.heap.size,0,none⟩ (.int .i64 N)).setCell ⟨W2.heap.size,1,none⟩ (.slice a6 m.length c6)=W4 at hO4 hown4 hB4 ⊢;obtain⟨OB,hOB⟩:∃OB,OB=W2.heap.size:=⟨_,rfl⟩;rw [<-hOB]at hO4 hOg ⊢;replace hOW:W2.heap.size<=OB:=by omega
    clear hOB)
 all_goals (
  have hlV:=hV2.lt;have hlR:=hR2.lt;have hV4:=hV2.below hB4;have hR4:=hR2.below hB4;have hs4:Sl2 W4 a2 c2 m:=⟨hs2.1.below hB4,hs2.2⟩;have hBW4:Below w.heap.size w W4:=hB2.trans (hB4.mono hB2.size);have hBS:=hB2.size;have hOV:OB≠VB:=by omega
  have hOR:OB≠RB:=by omega
  have c0:W4.cell? ⟨VB,0,none⟩=some (.int .i64 N):=hV4.cell 0;have c1:W4.cell? ⟨VB,1,none⟩=some (.slice a2 m.length c2):=hV4.cell 1;have kV:=Has.of hV4.lt;have hv2':nn=true->∃k,(Value.slice a6 m.length c6).ownBlock=some k:=λh=>hv2 (by rintro rfl;rw [hnn]at h;cases h);have hv1':nn=false->Value.slice a6 m.length c6= .slice none 0 0:=λh=>hv1 (by rw [hnn]at h;simpa using h);have HV1:=Lib.hid hv1';have HV2:=Lib.hid hv2';have HNN:=Lib.hid hnn;have HI:=Lib.hid hi;have o0:W4.cell? ⟨OB,0,none⟩=some (.int .i64 N):=hO4.cell 0;have o1:W4.cell? ⟨OB,1,none⟩=some (.slice a6 m.length c6):=hO4.cell 1;have r0:W4.cell? ⟨RB,0,none⟩=some (.int .i64 0):=hR4.cell 0;have r1:W4.cell? ⟨RB,1,none⟩=some (.slice none 0 0):=hR4.cell 1;have f0:=hR4.frozen 0;have f1:=hR4.frozen 1;have kO:=Has.of hO4.lt;have kR:=Has.of hR4.lt;clear hv1 hv2 hv1' hv2' hnn hi hV2 hR2 hB2 hs2 hkp bd bd2 bd3 hCL;have hRo:∀q,(Value.slice a6 m.length c6).ownBlock=some q->q≠RB:=λq hq=>by have:=(hown4.lt q hq).1;omega
  by_cases hp1:pl<0
  .go_wp2_with fail
   refine bodyPost_ret (v:= .agg #[.int .i64 N,.slice a6 m.length c6]) ?_ rfl ⟨_,rfl,?_,?_,?_,?_⟩
   .have hCF:CellsAt ((W4.setCell ⟨RB,0,none⟩ (.int .i64 N)).setCell ⟨RB,1,none⟩ (.slice a6 m.length c6)) RB 25 #[.int .i64 N,.slice a6 m.length c6]:=by simpa using (hR4.set 0 (.int .i64 N)).set 1 (.slice a6 m.length c6)
    have k0:=hCF.cell 0;have k1:=hCF.cell 1;simp at k0 k1;simp [results,Try.results18,go_sem,k0,k1]
   .exact eE ((hown4.kept (al W4 RB 0 (.int .i64 N)) (.inr (λe=>hRo _ e rfl))).kept (al _ RB 1 (.slice a6 m.length c6)) (.inr (λe=>hRo _ e rfl))) hBS
   .exact bls (bls hBW4 hR0 _) hR0 _
   .intro h;intros;exact HV1.out h
   .exact HV2.out
  .by_cases hp2:N<=pl
   .go_wp2_with fail
    refine bodyPost_ret (v:= .agg #[.int .i64 N,.slice a6 m.length c6]) ?_ rfl ⟨_,rfl,?_,?_,?_,?_⟩
    .have hCF:CellsAt ((W4.setCell ⟨RB,0,none⟩ (.int .i64 N)).setCell ⟨RB,1,none⟩ (.slice a6 m.length c6)) RB 25 #[.int .i64 N,.slice a6 m.length c6]:=by simpa using (hR4.set 0 (.int .i64 N)).set 1 (.slice a6 m.length c6)
     have k0:=hCF.cell 0;have k1:=hCF.cell 1;simp at k0 k1;simp [results,Try.results18,go_sem,k0,k1]
    .exact eE ((hown4.kept (al W4 RB 0 (.int .i64 N)) (.inr (λe=>hRo _ e rfl))).kept (al _ RB 1 (.slice a6 m.length c6)) (.inr (λe=>hRo _ e rfl))) hBS
    .exact bls (bls hBW4 hR0 _) hR0 _
    .intro h;intros;exact HV1.out h
    .exact HV2.out
   .go_wp2_with fail
    refine(HF.out a2 c2 W4 hBW4 hs4 HNN.out).mono ?_;rintro x w5 ⟨rfl,hb5⟩;have hO5:=hO4.below hb5;have hR5:=hR4.below hb5;have hown5:=hown4.kept (bM hb5 none) (Classical.em _);have hBW5:Below w.heap.size w w5:=hBW4.trans (hb5.mono hBW4.size);have hW5:=hb5.size;have hOB1:=hO5.lt;clear hO4 hR4 hown4 hBW4 hs4 hV4 c0 c1 kV o0 o1 r0 r1 f0 f1 kO kR;have o0:w5.cell? ⟨OB,0,none⟩=some (.int .i64 N):=hO5.cell 0;have o1:w5.cell? ⟨OB,1,none⟩=some (.slice a6 m.length c6):=hO5.cell 1;have kO:=Has.of hO5.lt;cases is
    .have hi2:i<=m.length:=by simpa using HI.out
     have HD:=Lib.hid (yZ W2.heap.size m.length i w5.heap.size a6 c6 m (pl,val) (w5.alloc (.cells #[.int .i64 pl,.int .i64 val] 36)) (hown5.alloc _) rfl (by omega) hi2 (by simp;omega) (heap_alloc_new w5 _) (λe=>by have:=(hown5.lt _ e).2;omega))
     go_wp2_with fail
     refine HD.out.mono ?_;rintro x w6 ⟨v7,rfl,hown6,hg6⟩;obtain⟨g7,c7,rfl,hgb,hgl⟩:=vl hown6 (by omega);have hO6:=(hO5.below (bl1 w5 (.cells #[.int .i64 pl,.int .i64 val] 36))).grown hg6 (λe=>hOg _ e.symm rfl);have hR6:=(hR5.below (bl1 w5 (.cells #[.int .i64 pl,.int .i64 val] 36))).grown hg6 (λe=>hRo _ e.symm rfl);have hBW6:Below w.heap.size w w6:=(bla hBW5 _).trans ((ik hg6 (λq hq=>Nat.le_trans hBS (hown5.lt q hq).1) (bla hBW5 _).size).mono (Nat.le_refl _))
     have hgO:g7≠OB:=by
      rintro rfl;rcases hown6.2 with⟨e,_⟩|⟨g,cap,cur,e,_,hg,_⟩
      .cases e
      .cases e;have h9:w6.heap[g7]? =some (.cells #[.int .i64 N,.slice a6 m.length c6] 25 (0,0)):=hO6;rw [hg]at h9;simp at h9
     have hgR:g7≠RB:=by omega
     clear hO5 hR5 hown5 hBW5 o0 o1 kO HD hg6;have o0:w6.cell? ⟨OB,0,none⟩=some (.int .i64 N):=hO6.cell 0;have o1:w6.cell? ⟨OB,1,none⟩=some (.slice a6 m.length c6):=hO6.cell 1;have r0:w6.cell? ⟨RB,0,none⟩=some (.int .i64 0):=hR6.cell 0;have r1:w6.cell? ⟨RB,1,none⟩=some (.slice none 0 0):=hR6.cell 1;have f0:=hR6.frozen 0;have f1:=hR6.frozen 1;have g0:=hO6.frozen 0;have g1:=hO6.frozen 1;have kO:=Has.of hO6.lt;have kR:=Has.of hR6.lt
     go_wp2_with fail
     have hR7:=dL hR6 (Ne.symm hOR) (.slice (some ⟨g7,0,none⟩) (m.length+1) c7) 1;have hO0:w.heap.size<=OB:=by omega
     have h9:=eE (((hown6.kept (al w6 OB 1 (.slice (some ⟨g7,0,none⟩) (m.length+1) c7)) (.inr (by simpa [Value.ownBlock]using hgO))).kept (al _ RB 0 (.int .i64 N)) (.inr (by simpa [Value.ownBlock]using hgR))).kept (al _ RB 1 (.slice (some ⟨g7,0,none⟩) (m.length+1) c7)) (.inr (by simpa [Value.ownBlock]using hgR))) hBS;have hCF:CellsAt (((w6.setCell ⟨OB,1,none⟩ (.slice (some ⟨g7,0,none⟩) (m.length+1) c7)).setCell ⟨RB,0,none⟩ (.int .i64 N)).setCell ⟨RB,1,none⟩ (.slice (some ⟨g7,0,none⟩) (m.length+1) c7)) RB 25 #[.int .i64 N,.slice (some ⟨g7,0,none⟩) (m.length+1) c7]:=by simpa using (hR7.set 0 (.int .i64 N)).set 1 (.slice (some ⟨g7,0,none⟩) (m.length+1) c7)
     have k0:=hCF.cell 0;have k1:=hCF.cell 1;simp at k0 k1;refine bodyPost_ret (v:= .agg #[.int .i64 N,.slice (some ⟨g7,0,none⟩) (m.length+1) c7]) (by simp [results,Try.results18,go_sem,k0,k1]) rfl ?_;have e9:i+(m.length - i+1)=m.length+1:=by omega
     rw [e9];exact⟨_,rfl,h9,bls (bls (bls hBW6 hO0 _) hR0 _) hR0 _,λ_=>⟨g7,rfl⟩⟩
    .have hi2:i<m.length:=by simpa using HI.out
     obtain⟨g6,c6',e6,hgb,hgl⟩:=vl hown5 (by omega);cases e6;have hgO:g6≠OB:=hOg g6 rfl;have hgR:g6≠RB:=hRo g6 rfl;have t1:w5.cell? ⟨g6,i*2+1,none⟩=some (.int .i64 (el m i).2):=by rw [hown5.cellAt (i*2+1) (by omega),ij m i 1 hi2 (by omega)];rfl
     have tf:=hown5.frozenAt (i*2+1);have kg:=Has.of hgl;have hR6:=hR5.grown (al w5 g6 (i*2+1) (.int .i64 val)) (by simpa using hgR.symm);have r0:w5.cell? ⟨RB,0,none⟩=some (.int .i64 0):=hR5.cell 0;have r1:w5.cell? ⟨RB,1,none⟩=some (.slice none 0 0):=hR5.cell 1;have f0:=hR5.frozen 0;have f1:=hR5.frozen 1;have kR:=Has.of hR5.lt;have hj0:(0:Int)<=(i:Int):=by omega
     have hj1:(i:Int)<(m.length:Int):=by omega
     go_wp2_with fail
     refine bodyPost_ret (v:= .agg #[.int .i64 N,.slice (some ⟨g6,0,none⟩) m.length c6]) ?_ rfl ⟨_,rfl,?_,?_,λ_=>⟨g6,rfl⟩⟩
     .have hCF:CellsAt (((w5.setCell ⟨g6,i*2+1,none⟩ (.int .i64 val)).setCell ⟨RB,0,none⟩ (.int .i64 N)).setCell ⟨RB,1,none⟩ (.slice (some ⟨g6,0,none⟩) m.length c6)) RB 25 #[.int .i64 N,.slice (some ⟨g6,0,none⟩) m.length c6]:=by simpa using (hR6.set 0 (.int .i64 N)).set 1 (.slice (some ⟨g6,0,none⟩) m.length c6)
      have k0:=hCF.cell 0;have k1:=hCF.cell 1;simp at k0 k1;simp [results,Try.results18,go_sem,k0,k1]
     .exact eE (((Aw W2.heap.size m.length i g6 c6 m val w5 hown5 rfl hi2).kept (al _ RB 0 (.int .i64 N)) (.inr (by simpa [Value.ownBlock]using hgR))).kept (al _ RB 1 (.slice (some ⟨g6,0,none⟩) m.length c6)) (.inr (by simpa [Value.ownBlock]using hgR))) hBS
     .exact bls (bls (bls hBW5 (by show w.heap.size<=g6;omega) _) hR0 _) hR0 _)
end It
end Sm
end
noncomputable section
open Go.RowKit Go.Sort
namespace Sm
namespace Pu
open Ev Ev.KM
abbrev Vc:K.Ty:= .C (.I .i64) (.S It.ety)
abbrev ins:List K.TyD:= [(true,Vc),(false,.I .i64),(false,.I .i64)]
abbrev outs:List K.TyD:= [(true,Vc)]
def out(l:List (Int×Int))(N pl val:Int)(i:Nat)(is:Bool):List (Int×Int):=if pl<0∨N<=pl then l else if is=true then l.set i ((It.el l i).1,val)else l.take i++(pl,val)::l.drop i
def fnO(a:(Int×Sl (Int×Int))×Int×Int):Option (Int×Sl (Int×Int)):=
 (bE a.1).bind λs=>(dj s a.2.1).bind λf=>
  if It.okV s.2=true/\s.2.l.length<=80000/\(s.2.nn=true∨s.2.l= [])/\0<=f.1/\(if f.2=true then f.1<s.2.l.length else f.1<=s.2.l.length)then some (s.1,⟨if a.2.1<0∨s.1<=a.2.1 then s.2.nn else true,2,out s.2.l s.1 a.2.1 a.2.2 f.1.toNat f.2⟩)else none
theorem qA(a:K.bW ins)(o:K.bW outs)(h:fnO a=some o):dK Try.prog 18 (K.cO ins a) .fresh (K.cO outs o):=by
 obtain⟨⟨n,x⟩,pl,val⟩:=a;change Int at n;change Sl (Int×Int)at x;change Int at pl;change Int at val;unfold fnO at h;simp only [zbE]at h;obtain⟨⟨N,x2⟩,hs,⟨fi,is⟩,hf,h⟩:=h;simp only at hs hf h;rw [Option.ite_none_right_eq_some]at h;obtain⟨hc,h⟩:=h;obtain⟨hok,h80,hnl,h0,hlt⟩:=hc;cases h;simp only [It.okV,Bool.and_eq_true,Bool.or_eq_true,decide_eq_true_eq,List.isEmpty_iff]at hok;intro w F ys hL hF hr;obtain⟨hlen,hi⟩:=hr
 match ys,hlen with
 | [y0,y1,y2],_=>
  obtain⟨y,e1,e2⟩:=hi 0 _ rfl;simp only [List.getElem?_cons_zero,zsI]at e1;subst e1;obtain⟨y,e1,e4⟩:=hi 1 _ rfl;simp only [List.getElem?_cons_succ,List.getElem?_cons_zero,zsI]at e1;subst e1
  have ey:y1= .int .i64 pl:=by
   cases e4 with
   |one t y h=>cases h with|v x hx=>rfl
  subst ey;obtain⟨y,e1,e5⟩:=hi 2 _ rfl;simp only [List.getElem?_cons_succ,List.getElem?_cons_zero,zsI]at e1;subst e1
  have ey:y2= .int .i64 val:=by
   cases e5 with
   |one t y h=>cases h with|v x hx=>rfl
  subst ey;replace e2:RepTD w F (.agg [iT .i64 n,Sl.t It.ety.row x]) y0:=e2
  cases e2 with
  |agg _ us hh=>
   obtain⟨hl,hi2⟩:=hh
   match us,hl with
   | [u0,u1],_=>
    obtain⟨u,e1,e2⟩:=hi2 0 _ rfl;simp only [List.getElem?_cons_zero,zsI]at e1;subst e1;obtain⟨u,e1,e3⟩:=hi2 1 _ rfl;simp only [List.getElem?_cons_succ,List.getElem?_cons_zero,zsI]at e1;subst e1
    have eu:u0= .int .i64 n:=by cases e2 with|v x hx=>rfl
    subst eu
    obtain⟨ad,k,c,rfl⟩:∃a n c,u1= .slice a n c:=by
     unfold Sl.t at e3
     cases e3 with
     |s _ _ _ a c ys hn=>exact⟨_,_,_,rfl⟩
    obtain⟨i,rfl⟩:∃i:Nat,fi=(i:Int):=⟨fi.toNat,by omega⟩;have hw:=It.put_walk n ad k c pl val w N x2.nn x2.l i is h80 (by split at hlt<;>rename_i hq<;>simp only [hq]<;>simp<;>omega) (λW hW hlt2=>It.sure_calls e3 hL hs hok.2 W hW hlt2) (λa2 c2 W hW h2 hn=>It.find_calls hL hf hok.2 a2 c2 W hW h2 hn);refine hw.mono ?_;rintro e w' ⟨v,rfl,⟨r,hr,hown⟩,hbl,hv1,hv2⟩;refine⟨_,rfl,?_,λhk=>(by cases hk),hbl⟩;have e9:out x2.l N pl val (i:Int).toNat is=r:=by rw [hr];rfl
    refine It.vec (t:=Sl.t It.ety.row ⟨if pl<0∨N<=pl then x2.nn else true,2,out x2.l N pl val (i:Int).toNat is⟩) ?_;rw [e9];obtain⟨_,a',c',e,hcap,hrd,hz⟩:=It.row_rdE hown;subst e
    cases a' with
    |none=>
     have hr0:r= []:=List.eq_nil_of_length_eq_zero (hz rfl).2;by_cases hpl:pl<0∨N<=pl
     .have hnn:x2.nn=false:=by
       cases hq:x2.nn with
       |false=>rfl
       |true=>obtain⟨k,hk⟩:=hv2 hq;cases hk
      rw [if_pos hpl,hnn,hr0];obtain⟨rfl,_⟩:=hz rfl;exact RepT.s false 2 [] none 0 (λ_ _=> .nilFunc) rfl (Nat.le_refl _) (λ_=>rfl) (λi e h=>by simp at h) (λi e j t h=>by simp at h) (λi e j t h=>by simp at h)
     .exfalso;rw [if_neg hpl,hr0]at hr;have hl:=congrArg List.length hr;split at hr
      .rename_i hq;rw [if_pos hq]at hl hlt;simp at hl;rw [<-hl]at hlt;simp at hlt;omega
      .rename_i hq;rw [if_neg hq]at hl;simp at hl
    |some b=>
     have hnn:(if pl<0∨N<=pl then x2.nn else true)=true:=by
      split
      .rename_i hpl
       cases hq:x2.nn with
       |true=>rfl
       |false=>
        have h8:x2.l= []:=hnl.resolve_left (by rw [hq];simp)
        have:=hv1 hq h8 hpl
        cases this
      .rfl
     rw [hnn];refine It.rep_of (base:=w.heap.size) ⟨hrd,hz,hcap,λb' hb'=> ?_⟩ (λb hb=>hb.1) (.inr (by simp));cases hb';exact(hown.lt b.block rfl).1
def fn(a:(Int×Sl (Int×Int))×Int×Int):Option (Int×Sl (Int×Int)):=
 if(a.1.2.sz=2∨a.1.2.l= [])/\(a.1.2.nn=true∨a.1.2.l= [])/\a.1.2.l.length<=80000 then
  some ((aF a.1).1,⟨if a.2.1<0∨(aF a.1).1<=a.2.1 then(aF a.1).2.nn else true,2,out (aF a.1).2.l (aF a.1).1 a.2.1 a.2.2 (px (aF a.1).2.l a.2.1) (isI (aF a.1).2.l a.2.1)⟩)else none
theorem Ds(a:(Int×Sl (Int×Int))×Int×Int)(o:Int×Sl (Int×Int))(h:fn a=some o):fnO a=some o:=by
 unfold fn at h;rw [Option.ite_none_right_eq_some]at h;obtain⟨⟨h1,h2,h3⟩,h⟩:=h;have hok:okS 2 a.1.2:=h1.elim .inr .inl;have s1:=vu hok;have s2:=FQ h2;have s3:=mu a.1;unfold fnO;rw [mv hok (by omega)];simp only [zbS];rw [ja hok];simp only [zbS,Int.toNat_natCast];refine(if_pos ⟨?_,by omega,s2,by omega,?_⟩).trans h
 .simp only [It.okV,Bool.and_eq_true,Bool.or_eq_true,decide_eq_true_eq,List.isEmpty_iff];exact⟨by omega,s1.elim .inr .inl⟩
 .split
  .have:=Dq (by assumption);omega
  .have:=FS (aF a.1).2.l a.2.1;omega
theorem pure_ok(a:K.bW ins)(o:K.bW outs)(h:fn a=some o):dK Try.prog 18 (K.cO ins a) .fresh (K.cO outs o):=qA a o (Ds a o h)
theorem enters:Ev.Enters Try.prog 18:=⟨_,_,Try.func18,by kernel_rfl,by unfold Try.f18;rfl⟩
end Pu
end Sm
end
noncomputable section
namespace Ev
namespace K
open Go Go.RowKit
set_option maxRecDepth 100000
set_option maxHeartbeats 1000000
def xl:Ax:=(aH (aH (aH (λ_=>none) 12 (xf Sm.It.ins .fresh Sm.It.outs Sm.It.fn)) 18 (xf Sm.Pu.ins .fresh Sm.Pu.outs Sm.Pu.fn)) 19 (xf Sm.Dr.ins .fresh Sm.Dr.outs Sm.Dr.fn))
theorem qC:sY Try.prog xl:=(am (am (am (nM _) (uZ Sm.It.enters Sm.It.pure_ok)) (uZ Sm.Pu.enters Sm.Pu.pure_ok)) (uZ Sm.Dr.enters Sm.Dr.pure_ok))
def qD:Ax:=(aH (aH (aH (aH (aH (aH (aH (aH (aH (aH (aH (aH (aH (aH (aH (aH (aH (aH (aH (aH xl 27 ay) 28 ay) 32 ay) 33 ay) 40 ay) 45 ay) 48 ay) 49 ay) 53 ay) 54 ay) 55 ay) 56 ay) 57 ay) 58 ay) 59 ay) 60 ay) 64 ay) 67 ay) 68 ay) 70 ay)
theorem ju:sY Try.prog qD:=(am (am (am (am (am (am (am (am (am (am (am (am (am (am (am (am (am (am (am (am qC λvs kind rs h=>by simp [ay]at h) λvs kind rs h=>by simp [ay]at h) λvs kind rs h=>by simp [ay]at h) λvs kind rs h=>by simp [ay]at h) λvs kind rs h=>by simp [ay]at h) λvs kind rs h=>by simp [ay]at h) λvs kind rs h=>by simp [ay]at h) λvs kind rs h=>by simp [ay]at h) λvs kind rs h=>by simp [ay]at h) λvs kind rs h=>by simp [ay]at h) λvs kind rs h=>by simp [ay]at h) λvs kind rs h=>by simp [ay]at h) λvs kind rs h=>by simp [ay]at h) λvs kind rs h=>by simp [ay]at h) λvs kind rs h=>by simp [ay]at h) λvs kind rs h=>by simp [ay]at h) λvs kind rs h=>by simp [ay]at h) λvs kind rs h=>by simp [ay]at h) λvs kind rs h=>by simp [ay]at h) λvs kind rs h=>by simp [ay]at h)
def E0:Env:=oC Try.prog qD
theorem Hy:E0.Ok:=jx nr ns ju
def Ay:List TD->Option (Kind×List TD)
 | []=>some (.fresh,[.one (.v (.bool true))])
 |_=>none
theorem FU{k:FuncId}(h:(cH E0 300 60).1 k []=some (.fresh,[.one (.v (.bool true))])):∀vs kind rs,Ay vs=some (kind,rs)->dK Try.prog k vs kind rs/\Ev.Enters Try.prog k:=λvs kind rs hf=>by
 unfold Ay at hf;split at hf
 .simp only [zsI,Prod.mk.injEq]at hf;obtain⟨rfl,rfl⟩:=hf;exact(qR Hy 300 60).1 _ _ _ _ h
 .simp at hf
theorem LT:(cH E0 300 60).1 7 []=some (.fresh,[.one (.v (.bool true))]):=by kernel_rfl
def E1:Env:=oC Try.prog (aH qD 7 Ay)
theorem Dt:E1.Ok:=jx nr ns (am ju (FU LT))
def FL7:bW []->Option Bool:=λ_=>some true
def Hz:ct:=⟨7,[],.data true [(false,.B)],FL7,1⟩
theorem In:cD E1 Hz:=λm a out h=>by
 obtain rfl:=Option.some.inj h;exact xI (F:=Ay) rfl rfl
end K
end Ev
end
noncomputable section
namespace Ev
namespace K
open Go Go.RowKit
set_option maxRecDepth 100000
set_option maxHeartbeats 1000000
def xm:fw:= []
def xn:KG:=⟨TT,EQS,[],[]⟩
def Cc:bW [yD1]->Option (OutK.val (.data false [yD1])):=gl xn xm fi4 4 0 [yD1] (.data false [yD1])
def xo:ct:=⟨4,[yD1],.data false [yD1],Cc,1⟩
def sM:fw:= [(10,⟨[⟨false,3,0,[1,5,11,12],⟨[(13,false,[.d true (.I .i64)])],[],[(.sl 5 0,.C (.I .i64) (.I .i64))]⟩,[(.exit 0,⟨[],[],[(.sl 5 0,.C (.I .i64) (.I .i64))]⟩)]⟩],[]⟩)]
def sN:KG:=⟨TT,EQS,[],[]⟩
def dN:bW [yD2,(false,.I .i64)]->Option (OutK.val (.own (.C (.I .i64) (.I .i64)))):=gl sN sM MC 10 0 [yD2,(false,.I .i64)] (.own (.C (.I .i64) (.I .i64)))
def sO:ct:=⟨10,[yD2,(false,.I .i64)],.own (.C (.I .i64) (.I .i64)),dN,1⟩
def vz:fw:= [(5,⟨[⟨false,3,0,[2,4,7,8],⟨[(9,false,[.d true (.I .i64)])],[(2,[.d true (.I .i64),.m (.C (.I .i64) (.I .i64))]),(4,[.d true (.I .i64),.m (.C (.I .i64) (.I .i64))])],[]⟩,[(.exit 0,⟨[],[(2,[.d true (.I .i64),.m (.C (.I .i64) (.I .i64))]),(4,[.d true (.I .i64),.m (.C (.I .i64) (.I .i64))])],[]⟩),(.ret,⟨[(3,false,[.d true (.I .i64)])],[(2,[.d true (.I .i64),.m (.C (.I .i64) (.I .i64))])],[]⟩)]⟩],[(6,⟨[[],[],[],[],[],[],[],[.bx 4 1],[],[.sl 4 0]],[(false,[]),(false,[]),(false,[]),(false,[]),(false,[]),(false,[]),(true,[]),(true,[]),(false,[]),(false,[])]⟩)]⟩)]
def vA:KG:=⟨TT,EQS,[mg,sO],[]⟩
def eN:bW [yD0]->Option (OutK.val (.data true [yD1,(false,.I .i64)])):=gl vA vz fi5 5 0 [yD0] (.data true [yD1,(false,.I .i64)])
def vB:ct:=⟨5,[yD0],.data true [yD1,(false,.I .i64)],eN,4⟩
def sP:fw:= [(24,⟨[⟨false,4,0,[1],⟨[(3,false,[.d true (.I .i64)])],[],[]⟩,[(.exit 0,⟨[],[],[]⟩),(.ret,⟨[(2,false,[.d true .B])],[],[]⟩)]⟩],[]⟩)]
def sQ:KG:=⟨TT,EQS,[],[]⟩
def dO:bW [yD1]->Option (OutK.val (.data true [(false,.B)])):=gl sQ sP MF 24 0 [yD1] (.data true [(false,.B)])
def sR:ct:=⟨24,[yD1],.data true [(false,.B)],dO,1⟩
def vC:fw:= []
def vD:KG:=⟨TT,EQS,[sR],[]⟩
def eO:bW [yD1]->Option (OutK.val (.data false [yD1])):=gl vD vC MD 11 0 [yD1] (.data false [yD1])
def vE:ct:=⟨11,[yD1],.data false [yD1],eO,2⟩
def vF:fw:= [(6,⟨[⟨false,3,0,[0,2,4],⟨[(5,false,[.d true (.I .i64)])],[(2,[.d true (.I .i64),.m (.C (.I .i64) (.I .i64))]),(4,[.d true (.I .i64),.m (.C (.I .i64) (.I .i64))])],[]⟩,[(.exit 0,⟨[],[(2,[.d true (.I .i64),.m (.C (.I .i64) (.I .i64))]),(4,[.d true (.I .i64),.m (.C (.I .i64) (.I .i64))])],[]⟩),(.ret,⟨[(3,false,[.d true (.I .i64)])],[(2,[.d true (.I .i64),.m (.C (.I .i64) (.I .i64))])],[]⟩)]⟩,⟨false,7,0,[0,2,4,5,6],⟨[(7,false,[.d true (.I .i64)])],[(4,[.d true (.I .i64),.m (.C (.I .i64) (.I .i64))])],[]⟩,[(.exit 2,⟨[],[(4,[.d true (.I .i64),.m (.C (.I .i64) (.I .i64))])],[]⟩)]⟩],[(9,⟨[[],[],[],[],[],[],[],[],[],[],[],[],[],[],[],[],[],[],[],[.bx 4 1],[],[.sl 4 0]],[(false,[]),(false,[]),(false,[]),(false,[]),(false,[]),(false,[]),(false,[]),(false,[]),(false,[]),(false,[]),(false,[]),(false,[]),(false,[]),(false,[]),(false,[]),(false,[]),(false,[]),(false,[]),(true,[]),(true,[]),(false,[]),(false,[])]⟩)]⟩)]
def vG:KG:=⟨TT,EQS,[vE],[]⟩
def eP:bW [yD0]->Option (OutK.val (.data true [yD1,(false,.I .i64)])):=gl vG vF fi6 6 0 [yD0] (.data true [yD1,(false,.I .i64)])
def vH:ct:=⟨6,[yD0],.data true [yD1,(false,.I .i64)],eP,3⟩
def mw:fw:= [(23,⟨[⟨false,4,0,[0,1],⟨[(5,false,[.d true (.I .i64)])],[],[]⟩,[(.exit 0,⟨[],[],[]⟩),(.ret,⟨[(4,false,[.d true .B])],[],[]⟩)]⟩],[]⟩)]
def my:KG:=⟨TT,EQS,[],[]⟩
def ci:bW [yD2,yD2]->Option (OutK.val (.data true [(false,.B)])):=gl my mw ME 23 0 [yD2,yD2] (.data true [(false,.B)])
def mz:ct:=⟨23,[yD2,yD2],.data true [(false,.B)],ci,1⟩
def vI:fw:= []
def vJ:KG:=⟨TT,EQS,[mz],[]⟩
def dP:bW [yD1,yD1]->Option (OutK.val (.data true [(false,.B)])):=gl vJ vI fi8 8 0 [yD1,yD1] (.data true [(false,.B)])
def vK:ct:=⟨8,[yD1,yD1],.data true [(false,.B)],dP,2⟩
def kY:fw:= [(3,⟨[⟨false,3,0,[0],⟨[(3,false,[.m (.C (.I .i64) (.S (.C (.I .i64) (.I .i64))))]),(4,false,[.d true (.I .i64)])],[],[]⟩,[(.exit 0,⟨[(3,false,[.m (.C (.I .i64) (.S (.C (.I .i64) (.I .i64))))])],[],[]⟩)]⟩],[]⟩)]
def kZ:KG:=⟨TT,EQS,[xo,vB,vH,Hz,vK],[]⟩
def cU:bW [yD0]->Option (OutK.val (.data true [(false,.B)])):=gl kZ kY fi3 3 0 [yD0] (.data true [(false,.B)])
end K
end Ev
end
noncomputable section
namespace Ev
namespace K
open Go Go.RowKit
set_option maxRecDepth 100000
set_option maxHeartbeats 1000000
end K
end Ev
end
noncomputable section
namespace Ev
open Go
set_option maxRecDepth 100000
set_option maxHeartbeats 1000000
attribute [local irreducible] cZ StL TnL WpL cP
def qF(k:FuncId):List TD->Option (Kind×List TD):=λvs=>cpR K.E1 60 k vs
theorem Io(vs:List TD)(kind:Kind)(rs:List TD)(h:qF 7 vs=some (kind,rs)):dK Try.prog 7 vs kind rs/\Enters Try.prog 7:=⟨(xH h).pure K.Dt,⟨_,_,Try.func7,by kernel_rfl,by unfold Try.f7;rfl⟩⟩
end Ev
end
noncomputable section
namespace Ev
open Go
set_option maxRecDepth 100000
set_option maxHeartbeats 1000000
attribute [local irreducible] cZ StL TnL WpL cP
theorem tz1:ak Try.prog 1=some (⟨.func #[] #[] false,[.nilFunc],1,8⟩:TI):=by kernel_rfl
theorem tz2:ak Try.prog 2=some (⟨.int .i64,[.int .i64 0],1,8⟩:TI):=by kernel_rfl
theorem tz3:ak Try.prog 3=some (⟨.int .i64,[.int .i64 0],1,8⟩:TI):=by kernel_rfl
theorem tz4:ak Try.prog 4=some (⟨.bool,[.bool false],1,1⟩:TI):=by kernel_rfl
theorem tz5:ak Try.prog 5=some (⟨.int .u8,[.int .u8 0],1,1⟩:TI):=by kernel_rfl
theorem tz6:ak Try.prog 6=some (⟨.int .u8,[.int .u8 0],1,1⟩:TI):=by kernel_rfl
theorem tz7:ak Try.prog 7=some (⟨.struct (cA Try.prog 7),[.int .i64 0,.int .i64 0,.bool false,.int .u8 0],4,24⟩:TI):=by kernel_rfl
theorem tz8:ak Try.prog 8=some (⟨.struct (cA Try.prog 8),[.int .i64 0,.int .i64 0,.bool false,.int .u8 0],4,24⟩:TI):=by kernel_rfl
theorem Ju:ak Try.prog 12=some (⟨.int .u64,[.int .u64 0],1,8⟩:TI):=by kernel_rfl
theorem Jv:ak Try.prog 15=some (⟨.pointer 102,[.pointer none],1,8⟩:TI):=by kernel_rfl
theorem Jw:ak Try.prog 16=some (⟨.pointer 105,[.pointer none],1,8⟩:TI):=by kernel_rfl
theorem Jx:ak Try.prog 17=some (⟨.pointer 114,[.pointer none],1,8⟩:TI):=by kernel_rfl
theorem Jy:ak Try.prog 18=some (⟨.struct (cA Try.prog 18),[.pointer none],1,8⟩:TI):=by kernel_rfl
theorem Jz:ak Try.prog 19=some (⟨.struct (cA Try.prog 19),[.pointer none],1,8⟩:TI):=by kernel_rfl
theorem JA:ak Try.prog 21=some (⟨.int .i32,[.int .i32 0],1,4⟩:TI):=by kernel_rfl
theorem Ib:ak Try.prog 22=some (⟨.slice 25,[.slice none 0 0],1,24⟩:TI):=by kernel_rfl
theorem Ic:ak Try.prog 23=some (⟨.slice 36,[.slice none 0 0],1,24⟩:TI):=by kernel_rfl
theorem JB:ak Try.prog 24=some (⟨.struct (cA Try.prog 24),[.int .i64 0,.slice none 0 0],2,32⟩:TI):=by kernel_rfl
theorem Id:ak Try.prog 25=some (⟨.struct (cA Try.prog 25),[.int .i64 0,.slice none 0 0],2,32⟩:TI):=by kernel_rfl
theorem Cd:iz (ak Try.prog) (⟨.struct (cA Try.prog 25),[.int .i64 0,.slice none 0 0],2,32⟩:TI)=some λi=>([(0,1),(1,1)]:List (Nat×Nat))[i]? :=by kernel_rfl
theorem JC:ak Try.prog 26=some (⟨.func #[25] #[25] false,[.nilFunc],1,8⟩:TI):=by kernel_rfl
theorem JD:ak Try.prog 27=some (⟨.int .i64,[.int .i64 0],1,8⟩:TI):=by kernel_rfl
theorem JE:ak Try.prog 29=some (⟨.func #[22] #[25,27] true,[.nilFunc],1,8⟩:TI):=by kernel_rfl
theorem JF:ak Try.prog 30=some (⟨.func #[22] #[25,27] false,[.nilFunc],1,8⟩:TI):=by kernel_rfl
theorem JG:ak Try.prog 31=some (⟨.func #[] #[4] false,[.nilFunc],1,8⟩:TI):=by kernel_rfl
theorem JH:ak Try.prog 32=some (⟨.func #[25,25] #[4] false,[.nilFunc],1,8⟩:TI):=by kernel_rfl
theorem JI:ak Try.prog 33=some (⟨.func #[22] #[4] false,[.nilFunc],1,8⟩:TI):=by kernel_rfl
theorem JJ:ak Try.prog 34=some (⟨.func #[23,3] #[23] false,[.nilFunc],1,8⟩:TI):=by kernel_rfl
theorem JK:ak Try.prog 35=some (⟨.struct (cA Try.prog 35),[.int .i64 0,.int .i64 0],2,16⟩:TI):=by kernel_rfl
theorem Ie:ak Try.prog 36=some (⟨.struct (cA Try.prog 36),[.int .i64 0,.int .i64 0],2,16⟩:TI):=by kernel_rfl
theorem LU:iz (ak Try.prog) (⟨.struct (cA Try.prog 36),[.int .i64 0,.int .i64 0],2,16⟩:TI)=some λi=>([(0,1),(1,1)]:List (Nat×Nat))[i]? :=by kernel_rfl
theorem JL:ak Try.prog 37=some (⟨.func #[38,3,23] #[25,27] false,[.nilFunc],1,8⟩:TI):=by kernel_rfl
theorem JM:ak Try.prog 38=some (⟨.int .i64,[.int .i64 0],1,8⟩:TI):=by kernel_rfl
theorem JN:ak Try.prog 40=some (⟨.func #[25,3] #[2,4] false,[.nilFunc],1,8⟩:TI):=by kernel_rfl
theorem JO:ak Try.prog 41=some (⟨.func #[25,3,3] #[25] false,[.nilFunc],1,8⟩:TI):=by kernel_rfl
theorem JP:ak Try.prog 42=some (⟨.func #[43,43] #[4] false,[.nilFunc],1,8⟩:TI):=by kernel_rfl
theorem JQ:ak Try.prog 43=some (⟨.slice 3,[.slice none 0 0],1,24⟩:TI):=by kernel_rfl
theorem JR:ak Try.prog 44=some (⟨.func #[25] #[43] false,[.nilFunc],1,8⟩:TI):=by kernel_rfl
theorem JS:ak Try.prog 45=some (⟨.func #[25,3,2] #[25] false,[.nilFunc],1,8⟩:TI):=by kernel_rfl
theorem JT:ak Try.prog 46=some (⟨.func #[25,3] #[25] false,[.nilFunc],1,8⟩:TI):=by kernel_rfl
theorem JU:ak Try.prog 47=some (⟨.func #[3,2] #[25] false,[.nilFunc],1,8⟩:TI):=by kernel_rfl
theorem JV:ak Try.prog 48=some (⟨.func #[25] #[4] false,[.nilFunc],1,8⟩:TI):=by kernel_rfl
theorem JW:ak Try.prog 49=some (⟨.func #[23,23] #[4] false,[.nilFunc],1,8⟩:TI):=by kernel_rfl
theorem JY:ak Try.prog 50=some (⟨.func #[38] #[4] false,[.nilFunc],1,8⟩:TI):=by kernel_rfl
theorem JZ:ak Try.prog 51=some (⟨.func #[3] #[4] false,[.nilFunc],1,8⟩:TI):=by kernel_rfl
theorem Ka:ak Try.prog 52=some (⟨.func #[23,53] #[4] false,[.nilFunc],1,8⟩:TI):=by kernel_rfl
theorem Kb:ak Try.prog 53=some (⟨.func #[36] #[4] false,[.nilFunc],1,8⟩:TI):=by kernel_rfl
theorem Kc:ak Try.prog 55=some (⟨.int .u64,[.int .u64 0],1,8⟩:TI):=by kernel_rfl
theorem Kd:ak Try.prog 56=some (⟨.struct (cA Try.prog 56),[.int .i64 0,.int .u64 0],2,16⟩:TI):=by kernel_rfl
theorem Ke:ak Try.prog 57=some (⟨.struct (cA Try.prog 57),[.int .i64 0,.int .u64 0],2,16⟩:TI):=by kernel_rfl
theorem Kf:ak Try.prog 59=some (⟨.func #[38,57,57] #[57] false,[.nilFunc],1,8⟩:TI):=by kernel_rfl
theorem Kg:ak Try.prog 60=some (⟨.func #[2] #[57] false,[.nilFunc],1,8⟩:TI):=by kernel_rfl
theorem Kh:ak Try.prog 61=some (⟨.func #[38,57] #[2,4] false,[.nilFunc],1,8⟩:TI):=by kernel_rfl
theorem Ki:ak Try.prog 62=some (⟨.func #[23,64] #[] false,[.nilFunc],1,8⟩:TI):=by kernel_rfl
theorem Kj:ak Try.prog 63=some (⟨.func #[3,3] #[3] false,[.nilFunc],1,8⟩:TI):=by kernel_rfl
theorem Kk:ak Try.prog 64=some (⟨.func #[36,36] #[3] false,[.nilFunc],1,8⟩:TI):=by kernel_rfl
theorem Kl:ak Try.prog 66=some (⟨.func #[25,3] #[3,4] false,[.nilFunc],1,8⟩:TI):=by kernel_rfl
theorem Km:ak Try.prog 67=some (⟨.func #[23] #[23] false,[.nilFunc],1,8⟩:TI):=by kernel_rfl
theorem Kn:ak Try.prog 68=some (⟨.func #[23,3,23] #[23] true,[.nilFunc],1,8⟩:TI):=by kernel_rfl
theorem Ko:ak Try.prog 69=some (⟨.func #[23,3,3] #[23] false,[.nilFunc],1,8⟩:TI):=by kernel_rfl
theorem Kp:ak Try.prog 70=some (⟨.func #[23,53] #[3] false,[.nilFunc],1,8⟩:TI):=by kernel_rfl
theorem Kq:ak Try.prog 71=some (⟨.func #[57,57] #[57] false,[.nilFunc],1,8⟩:TI):=by kernel_rfl
theorem Kr:ak Try.prog 72=some (⟨.func #[4] #[57] false,[.nilFunc],1,8⟩:TI):=by kernel_rfl
theorem Ks:ak Try.prog 73=some (⟨.int .u64,[.int .u64 0],1,8⟩:TI):=by kernel_rfl
theorem Kt:ak Try.prog 74=some (⟨.func #[57] #[2,4] false,[.nilFunc],1,8⟩:TI):=by kernel_rfl
theorem Ku:ak Try.prog 75=some (⟨.func #[23,3,3,3,64] #[] false,[.nilFunc],1,8⟩:TI):=by kernel_rfl
theorem Kv:ak Try.prog 76=some (⟨.func #[73] #[3] false,[.nilFunc],1,8⟩:TI):=by kernel_rfl
theorem Kw:ak Try.prog 77=some (⟨.func #[3,51] #[3] false,[.nilFunc],1,8⟩:TI):=by kernel_rfl
theorem Kx:ak Try.prog 78=some (⟨.func #[23,3] #[] false,[.nilFunc],1,8⟩:TI):=by kernel_rfl
theorem Kz:ak Try.prog 79=some (⟨.func #[57,57] #[3] false,[.nilFunc],1,8⟩:TI):=by kernel_rfl
theorem KA:ak Try.prog 80=some (⟨.func #[23,3,3,64] #[] false,[.nilFunc],1,8⟩:TI):=by kernel_rfl
theorem KH:ak Try.prog 81=some (⟨.int .i64,[.int .i64 0],1,8⟩:TI):=by kernel_rfl
theorem KI:ak Try.prog 83=some (⟨.func #[23,3,3,64] #[3,81] false,[.nilFunc],1,8⟩:TI):=by kernel_rfl
theorem KJ:ak Try.prog 84=some (⟨.func #[23,3,3,64] #[4] false,[.nilFunc],1,8⟩:TI):=by kernel_rfl
theorem KL:ak Try.prog 85=some (⟨.func #[23,3,3,3,64] #[3] false,[.nilFunc],1,8⟩:TI):=by kernel_rfl
theorem KN:ak Try.prog 86=some (⟨.func #[23,3,3,3,64] #[3,4] false,[.nilFunc],1,8⟩:TI):=by kernel_rfl
theorem KO:ak Try.prog 87=some (⟨.func #[88] #[3] false,[.nilFunc],1,8⟩:TI):=by kernel_rfl
theorem KP:ak Try.prog 88=some (⟨.int .u32,[.int .u32 0],1,4⟩:TI):=by kernel_rfl
theorem KQ:ak Try.prog 89=some (⟨.func #[55] #[3] false,[.nilFunc],1,8⟩:TI):=by kernel_rfl
theorem KR:ak Try.prog 90=some (⟨.int .u64,[.int .u64 0],1,8⟩:TI):=by kernel_rfl
theorem KU:ak Try.prog 91=some (⟨.func #[3] #[73] false,[.nilFunc],1,8⟩:TI):=by kernel_rfl
theorem KX:ak Try.prog 92=some (⟨.func #[] #[55] false,[.nilFunc],1,8⟩:TI):=by kernel_rfl
theorem KY:ak Try.prog 93=some (⟨.func #[23,3,94,64] #[3] false,[.nilFunc],1,8⟩:TI):=by kernel_rfl
theorem KZ:ak Try.prog 94=some (⟨.pointer 3,[.pointer none],1,8⟩:TI):=by kernel_rfl
theorem La:ak Try.prog 95=some (⟨.func #[23,3,3,3,94,64] #[3] false,[.nilFunc],1,8⟩:TI):=by kernel_rfl
theorem Lb:ak Try.prog 96=some (⟨.func #[23] #[] false,[.nilFunc],1,8⟩:TI):=by kernel_rfl
theorem Lc:ak Try.prog 97=some (⟨.pointer 90,[.pointer none],1,8⟩:TI):=by kernel_rfl
theorem Ld:ak Try.prog 99=some (⟨.func #[23,3,3,94,64] #[3,3] false,[.nilFunc],1,8⟩:TI):=by kernel_rfl
theorem Hh:ak Try.prog 100=some (⟨.func #[] #[9] false,[.nilFunc],1,8⟩:TI):=by kernel_rfl
theorem Hi:ak Try.prog 103=some (⟨.array 0 16,[],0,0⟩:TI):=by kernel_rfl
theorem Hj:ak Try.prog 104=some (⟨.struct (cA Try.prog 104),[],0,0⟩:TI):=by kernel_rfl
theorem Hk:ak Try.prog 105=some (⟨.struct (cA Try.prog 105),[],0,0⟩:TI):=by kernel_rfl
theorem Hl:ak Try.prog 106=some (⟨.func #[] #[3] false,[.nilFunc],1,8⟩:TI):=by kernel_rfl
theorem Hm:ak Try.prog 107=some (⟨.int .u8,[.int .u8 0],1,1⟩:TI):=by kernel_rfl
theorem Hn:ak Try.prog 108=some (⟨.int .u8,[.int .u8 0],1,1⟩:TI):=by kernel_rfl
theorem Ho:ak Try.prog 109=some (⟨.func #[115,115] #[4] false,[.nilFunc],1,8⟩:TI):=by kernel_rfl
theorem Hp:ak Try.prog 110=some (⟨.pointer 5,[.pointer none],1,8⟩:TI):=by kernel_rfl
theorem Hq:ak Try.prog 111=some (⟨.int .i32,[.int .i32 0],1,4⟩:TI):=by kernel_rfl
theorem Hr:ak Try.prog 112=some (⟨.int .i32,[.int .i32 0],1,4⟩:TI):=by kernel_rfl
theorem Hs:ak Try.prog 113=some (⟨.struct (cA Try.prog 113),[.int .u64 0,.int .u64 0,.int .u32 0,.int .u8 0,.int .u8 0,.int .u8 0,.int .u8 0,.nilFunc,.pointer none,.int .i32 0,.int .i32 0],11,48⟩:TI):=by kernel_rfl
theorem Ht:ak Try.prog 114=some (⟨.struct (cA Try.prog 114),[.int .u64 0,.int .u64 0,.int .u32 0,.int .u8 0,.int .u8 0,.int .u8 0,.int .u8 0,.nilFunc,.pointer none,.int .i32 0,.int .i32 0],11,48⟩:TI):=by kernel_rfl
theorem sz1:cY (ak Try.prog) 1=some (1,false):=by kernel_rfl
theorem sz2:cY (ak Try.prog) 2=some (1,false):=by kernel_rfl
theorem sz3:cY (ak Try.prog) 3=some (1,false):=by kernel_rfl
theorem el22:cG (ak Try.prog) 22=some 2:=by kernel_rfl
theorem gc:cY (ak Try.prog) 23=some (1,false):=by kernel_rfl
theorem el23:cG (ak Try.prog) 23=some 2:=by kernel_rfl
theorem cM:cY (ak Try.prog) 25=some (2,true):=by kernel_rfl
theorem bP:fieldAt (ak Try.prog) 25 0=some (0,1,false):=by kernel_rfl
theorem cj:fieldAt (ak Try.prog) 25 1=some (1,1,false):=by kernel_rfl
theorem zc:cY (ak Try.prog) 36=some (2,true):=by kernel_rfl
theorem iF:fieldAt (ak Try.prog) 36 0=some (0,1,false):=by kernel_rfl
theorem Du:fieldAt (ak Try.prog) 36 1=some (1,1,false):=by kernel_rfl
theorem nr:Try.prog.follows .mixedOrders=true:=by kernel_rfl
theorem ns:vU Try.prog=true:=by kernel_rfl
def xl:Ax:=(aH (λ_=>none) 7 (qF 7))
theorem qC:sY Try.prog xl:=(am (nM _) Io)
def ay:List TD->Option (Kind×List TD):=λ_=>none
def qD:Ax:=(aH (aH (aH (aH (aH (aH (aH (aH (aH (aH (aH (aH (aH (aH (aH (aH (aH (aH xl 4 ay) 27 ay) 32 ay) 40 ay) 45 ay) 48 ay) 53 ay) 54 ay) 55 ay) 56 ay) 57 ay) 58 ay) 59 ay) 60 ay) 64 ay) 67 ay) 68 ay) 70 ay)
theorem ju:sY Try.prog qD:=(am (am (am (am (am (am (am (am (am (am (am (am (am (am (am (am (am (am qC λvs kind rs h=>by simp [ay]at h) λvs kind rs h=>by simp [ay]at h) λvs kind rs h=>by simp [ay]at h) λvs kind rs h=>by simp [ay]at h) λvs kind rs h=>by simp [ay]at h) λvs kind rs h=>by simp [ay]at h) λvs kind rs h=>by simp [ay]at h) λvs kind rs h=>by simp [ay]at h) λvs kind rs h=>by simp [ay]at h) λvs kind rs h=>by simp [ay]at h) λvs kind rs h=>by simp [ay]at h) λvs kind rs h=>by simp [ay]at h) λvs kind rs h=>by simp [ay]at h) λvs kind rs h=>by simp [ay]at h) λvs kind rs h=>by simp [ay]at h) λvs kind rs h=>by simp [ay]at h) λvs kind rs h=>by simp [ay]at h) λvs kind rs h=>by simp [ay]at h)
def E0:Env:=oC Try.prog qD
theorem Hy:E0.Ok:=jx nr ns ju
def E1:Env:=oC Try.prog qD
theorem Dt:E1.Ok:=jx nr ns ju
theorem jb:E1.fn=eY Try.prog:=DN _ _
theorem ax4:E1.ax 4=some λ_=>none:=rfl
theorem ty1:E1.ti 1=some (⟨.func #[] #[] false,[.nilFunc],1,8⟩:TI):=tz1
theorem ze:E1.ti 22=some (⟨.slice 25,[.slice none 0 0],1,24⟩:TI):=Ib
theorem kp:E1.ti 23=some (⟨.slice 36,[.slice none 0 0],1,24⟩:TI):=Ic
theorem fU:E1.ti 25=some (⟨.struct (cA Try.prog 25),[.int .i64 0,.slice none 0 0],2,32⟩:TI):=Id
theorem zf:E1.ti 36=some (⟨.struct (cA Try.prog 36),[.int .i64 0,.int .i64 0],2,16⟩:TI):=Ie
end Ev
end
noncomputable section
namespace Ev
open Go
set_option maxRecDepth 100000
set_option maxHeartbeats 1000000
attribute [local irreducible] cZ StL TnL WpL cP
def r35(x:Int×Int):List T:= [iT .i64 x.1,iT .i64 x.2]
def r24(x:Int×(Sl (Int×Int))):List T:= [iT .i64 x.1,Sl.t r35 x.2]
def FL:Option (Bool):=K.FL7 ()
theorem MM(m:Nat){out:Bool}(h:FL=some out):RunsP E1 (m+1) 7 [] (.fresh,[.one (bT out)]):=xI (F:=qF 7) rfl (hZ (K.In 59 () out h))
def zg(x:Int×(Sl (Int×Int))):List C:= [.p true (iT .i64 x.1),.p false (Sl.t r35 x.2)]
def LV(x:Int×(Sl (Int×Int))):List (Bool×T):= [(true,iT .i64 x.1),(false,Sl.t r35 x.2)]
end Ev
end
noncomputable section
namespace Ev
open Go
set_option maxRecDepth 100000
set_option maxHeartbeats 1000000
attribute [local irreducible] cZ StL TnL WpL cP
theorem xp(x y:Operand)(a0 b0 a1 b1:Int):ae Try.prog (do eqGuard .neq 36 x y (.agg #[.int .i64 a0,.int .i64 a1]) (.agg #[.int .i64 b0,.int .i64 b1]);binOp .neq 36 (.agg #[.int .i64 a0,.int .i64 a1]) (.agg #[.int .i64 b0,.int .i64 b1]))=some (.bool (!(a0==b0 &&(a1==b1 && true)))):=by
 refine rj (by kernel_rfl) ((gE 9999 36 #[.int .i64 a0,.int .i64 a1] #[.int .i64 b0,.int .i64 b1] (fs:=cA Try.prog 35) (by kernel_rfl) (by kernel_rfl)).trans ?_);rw [show(cA Try.prog 35).toList= [fld Try.prog 35 0,fld Try.prog 35 1]by kernel_rfl];exact((dA (k:= .i64) (k':= .i64) (by kernel_rfl) (by kernel_rfl) (by kernel_rfl) (by kernel_rfl)).trans (ia ((dA (k:= .i64) (k':= .i64) (by kernel_rfl) (by kernel_rfl) (by kernel_rfl) (by kernel_rfl)).trans (ia fW))))
theorem zh(x y:Operand){a0 b0 a1 b1:Int}(h:a0=b0/\a1=b1):ae Try.prog (do eqGuard .neq 36 x y (.agg #[.int .i64 a0,.int .i64 a1]) (.agg #[.int .i64 b0,.int .i64 b1]);binOp .neq 36 (.agg #[.int .i64 a0,.int .i64 a1]) (.agg #[.int .i64 b0,.int .i64 b1]))=some (.bool false):=by rw [xp];simp [h]
theorem zi(x y:Operand){a0 b0 a1 b1:Int}(h:¬(a0=b0/\a1=b1)):ae Try.prog (do eqGuard .neq 36 x y (.agg #[.int .i64 a0,.int .i64 a1]) (.agg #[.int .i64 b0,.int .i64 b1]);binOp .neq 36 (.agg #[.int .i64 a0,.int .i64 a1]) (.agg #[.int .i64 b0,.int .i64 b1]))=some (.bool true):=by rw [xp];congr 2;revert h;by_cases e0:a0=b0<;>by_cases e1:a1=b1<;>simp_all
end Ev
end
end Go.Proofs.Ytmlpoegdhcdkcaa
