/- Texts of a claim, joined. -/
import Derived.Test.YthkgcllekhnecaaZS11
import Derived.Test.YthkgcllekhnecaaZS9
import Derived.Test.YthkgcllekhnecaaZS5
set_option linter.unusedVariables false
set_option linter.unusedSimpArgs false
namespace Go.Proofs.Ythkgcllekhnecaa
noncomputable section
open Go.RowKit Go.Sort
namespace Sm
namespace It
theorem vp:∀(L:List Ed) (i:Nat) (v:Int),i<L.length→(ab L).set (i*2+1) (.int .i64 v)=ab (L.set i ((el L i).1,v))
 | [],i,v,h=>by simp at h
 |e::l,0,v,h=>by simp [eb,enc,el]
 |e::l,i+1,v,h=>by
  have ih:=vp l i v (by simpa using h);have e2:(i+1)*2+1=i*2+1+1+1:=by omega
  rw [eb,e2];show(.int .i64 e.1:: .int .i64 e.2::ab l).set (i*2+1+1+1) (.int .i64 v)=_;rw [List.set_cons_succ,List.set_cons_succ,ih];rfl
theorem He(base n i g c:Nat)(L:List Ed)(v:Int)(w:World)(h:w.ownsRow base 30 2 (.slice (some ⟨g,0,none⟩) n c) n (ab L))(hn:n=L.length)(hi:i<n):(w.setCell ⟨g,i*2+1,none⟩ (.int .i64 v)).ownsRow base 30 2 (.slice (some ⟨g,0,none⟩) n c) n (ab (L.set i ((el L i).1,v))):=by
 refine⟨by rw [aQ,List.length_set,hn],?_⟩;rcases h.2 with⟨e,_⟩|⟨g',cap,cur,e,hb,hg,h1,h2,h3,h4⟩
 ·cases e
 ·cases e;refine .inr ⟨g,c,cur.setIfInBounds (i*2+1) (.int .i64 v),rfl,hb,?_,h1,h2,by simpa using h3,?_⟩
  ·rw [setCell_eq_setRow w g (i*2+1) cur _ (0,0) _ hg];exact setRow_heap w g cur _ _ _ hg
  ·rw [←vp L i v (by omega),←h4,Array.toList_setIfInBounds,List.take_set]
set_option maxRecDepth 100000 in
set_option maxHeartbeats 4000000 in
theorem put_walk(n:Int)(a:Option Addr)(k c:Nat)(pl val:Int)(w:World)(N:Int)(nn:Bool)(m:List Ed)(i:Nat)(is:Bool)(hm:m.length≤80000)(hi:if is=true then i<m.length else i≤m.length)
  (hSure:∀W,Below w.heap.size w W→w.heap.size<W.heap.size→Calls Try.prog 47 #[.agg #[.int .i64 n,.slice a k c]] W fun e w'=>∃a2 c2,e= .returned (.agg #[.int .i64 N,.slice a2 m.length c2])∧Sl2 w' a2 c2 m∧nn=a2.isSome∧(∀b,a2=some b→m≠[]→b.block≠w.heap.size)∧Below W.heap.size W w')
  (hFind:∀a2 c2 W,Below w.heap.size w W→Sl2 W a2 c2 m→nn=a2.isSome→Calls Try.prog 48 #[.agg #[.int .i64 N,.slice a2 m.length c2],.int .i64 pl] W fun e w'=>e= .returned (.tuple #[.int .i64 (i:Int),.bool is])∧Below W.heap.size W w'):
  Calls Try.prog 19 #[.agg #[.int .i64 n,.slice a k c],.int .i64 pl,.int .i64 val] w fun e w'=>∃v,e= .returned (.agg #[.int .i64 N,v])∧(∃r,r=(if pl<0∨N≤pl then m else if is=true then m.set i ((el m i).1,val)else m.take i++(pl,val)::m.drop i)∧w'.ownsRow w.heap.size 30 2 v r.length (ab r))∧Below w.heap.size w w'∧(nn=false→m= []→(pl<0∨N≤pl)→v= .slice none 0 0)∧(nn=true→∃k,v.ownBlock=some k):=by
 have HS:=Lib.hid hSure;have HF:=Lib.hid hFind;clear hSure hFind
 go_enter Try.func19,Try.ntmps19
 go_wp2_with fail
 refine(HS.out _ (bl2 w _ _) (by simp;omega)).mono ?_;rintro x w1 ⟨a2,c2,rfl,hs,hnn,hnV,hb1⟩
 have hV1:CellsAt w1 w.heap.size 25 #[.int .i64 n,.slice a k c]:=by
  have h1:CellsAt (w.alloc (.cells #[.int .i64 n,.slice a k c] 25)) w.heap.size 25 #[.int .i64 n,.slice a k c]:=World.alloc_heap_new w _;exact(h1.below (bl1 _ (.cells #[.int .i64 0,.slice none 0 0] 25))).below hb1
 have hR1:CellsAt w1 (w.heap.size+1) 25 #[.int .i64 0,.slice none 0 0]:=by
  have h1:CellsAt ((w.alloc (.cells #[.int .i64 n,.slice a k c] 25)).alloc (.cells #[.int .i64 0,.slice none 0 0] 25)) (w.alloc (.cells #[.int .i64 n,.slice a k c] 25)).heap.size 25 #[.int .i64 0,.slice none 0 0]:=World.alloc_heap_new _ _;rw [World.size_alloc]at h1;exact h1.below hb1
 have hbw1:Below w.heap.size w w1:=(bl2 w _ _).trans (hb1.mono (bl2 w _ _).size);have hV0:w.heap.size≤w.heap.size:=Nat.le_refl _;have hR0:w.heap.size≤w.heap.size+1:=by omega
 have hVR:w.heap.size≠w.heap.size+1:=by omega
 generalize w.heap.size+1=RB at hR1 hR0 hVR ⊢;obtain⟨VB,hVB⟩:∃VB,VB=w.heap.size:=⟨_,rfl⟩;have HVB:=Lib.hid hVB;rw [←hVB]at hV1 hVR hnV ⊢;clear hVB hb1;have v0:w1.cell? ⟨VB,0,none⟩=some (.int .i64 n):=hV1.cell 0;have v1:w1.cell? ⟨VB,1,none⟩=some (.slice a k c):=hV1.cell 1;have f0:=hV1.frozen 0;have f1:=hV1.frozen 1;have kV:=Has.of hV1.lt
 go_wp2_with fail
 have hg1:=ai w1 VB 0 (.int .i64 N);have hg2:=ai (w1.setCell ⟨VB,0,none⟩ (.int .i64 N)) VB 1 (.slice a2 m.length c2);have hV2:CellsAt ((w1.setCell ⟨VB,0,none⟩ (.int .i64 N)).setCell ⟨VB,1,none⟩ (.slice a2 m.length c2)) VB 25 #[.int .i64 N,.slice a2 m.length c2]:=by simpa using (hV1.set 0 (.int .i64 N)).set 1 (.slice a2 m.length c2)
 have hR2:CellsAt ((w1.setCell ⟨VB,0,none⟩ (.int .i64 N)).setCell ⟨VB,1,none⟩ (.slice a2 m.length c2)) RB 25 #[.int .i64 0,.slice none 0 0]:=eF (eF hR1 (Ne.symm hVR) _ _) (Ne.symm hVR) _ _;have hB2:Below w.heap.size w ((w1.setCell ⟨VB,0,none⟩ (.int .i64 N)).setCell ⟨VB,1,none⟩ (.slice a2 m.length c2)):=bls (bls hbw1 (by rw [HVB.out];exact Nat.le_refl _) _) (by rw [HVB.out];exact Nat.le_refl _) _;have hs2:Sl2 ((w1.setCell ⟨VB,0,none⟩ (.int .i64 N)).setCell ⟨VB,1,none⟩ (.slice a2 m.length c2)) a2 c2 m:=⟨(hs.1.grownN hg1 hnV).grownN hg2 hnV,hs.2⟩;generalize (w1.setCell ⟨VB,0,none⟩ (.int .i64 N)).setCell ⟨VB,1,none⟩ (.slice a2 m.length c2)=W2 at hV2 hR2 hB2 hs2 ⊢;have hCL:=fun W (hW:Below W2.heap.size W2 W)=>vl a2 m c2 W (hs2.1.below hW) hs2.2.1 (by omega);have HC:=Lib.hid hCL;have mixed:Try.prog.follows Departure.mixedOrders=true:=by kernel_rfl
 have bd:Below W2.heap.size W2 W2.drew:=⟨rfl,rfl,rfl,Nat.le_refl _,fun _ _=>rfl⟩;have bd2:∀X,Below W2.heap.size W2 (W2.drew.alloc X):=fun X=>bla bd X;have bd3:∀X,Below W2.heap.size W2 ((W2.alloc X).drew):=fun X=>bla bd X;have hlV:=hV2.lt;have c0:W2.cell? ⟨VB,0,none⟩=some (.int .i64 N):=hV2.cell 0;have c1:W2.cell? ⟨VB,1,none⟩=some (.slice a2 m.length c2):=hV2.cell 1;have hkp:∀W,Below W2.heap.size W2 W→W.cell? ⟨VB,0,none⟩=some (.int .i64 N)∧W.cell? ⟨VB,1,none⟩=some (.slice a2 m.length c2):=fun W hW=>⟨(hW.cell (p:=⟨VB,0,none⟩) hlV).trans c0,(hW.cell (p:=⟨VB,1,none⟩) hlV).trans c1⟩;clear v0 v1 f0 f1 kV hg1 hg2 hV1 hR1 hbw1 hs hnV c0 c1
 go_region_held3 (fun W=>W.cell? ⟨VB,0,none⟩=some (.int .i64 N)∧W.cell? ⟨VB,1,none⟩=some (.slice a2 m.length c2)) (first|exact hkp _ bd|exact hkp _ (bd2 _)|exact hkp _ (bd3 _)|exact hkp _ hBX|exact hkp _ (bla hBX _)|exact hkp _ (bls hBX (Nat.le_refl _) _)|exact hkp _ (bls (bls hBX (Nat.le_refl _) _) (Nat.le_refl _) _)|fail) (first|(go_at_call 50;refine(hCL _ (by first|exact bd|exact bd2 _|exact bd3 _)).mono ?_;rintro e w3 ⟨v,rfl,hown,hb3,hv1,hv2⟩;obtain⟨a6,c6,rfl,ha6⟩:=mH hown;have hBX:Below W2.heap.size W2 w3:=(by first|exact bd.trans hb3|exact(bd2 _).trans (hb3.mono (bd2 _).size)|exact(bd3 _).trans (hb3.mono (bd3 _).size));(first|(have hO:CellsAt w3 W2.heap.size 25 #[.int .i64 0,.slice none 0 0]:=CellsAt.below (show CellsAt (W2.alloc (.cells #[.int .i64 0,.slice none 0 0] 25)).drew W2.heap.size 25 #[.int .i64 0,.slice none 0 0]from World.alloc_heap_new W2 _) hb3;have o0:w3.cell? ⟨W2.heap.size,0,none⟩=some (.int .i64 0):=hO.cell 0;have o1:w3.cell? ⟨W2.heap.size,1,none⟩=some (.slice none 0 0):=hO.cell 1;have of0:=hO.frozen 0;have of1:=hO.frozen 1;have kO:=Has.of hO.lt)|skip)))
 all_goals first
  |(have hO4:CellsAt (w3.alloc (.cells #[.int .i64 N,.slice a6 m.length c6] 25)) w3.heap.size 25 #[.int .i64 N,.slice a6 m.length c6]:=World.alloc_heap_new w3 _
    have hown4:=(eY hown (show W2.heap.size≤_ from Nat.le_refl _)).alloc (.cells #[.int .i64 N,.slice a6 m.length c6] 25);have hB4:Below W2.heap.size W2 (w3.alloc (.cells #[.int .i64 N,.slice a6 m.length c6] 25)):=bla hBX _;have hOg:∀q,(Value.slice a6 m.length c6).ownBlock=some q→q≠w3.heap.size:=fun q hq=>by have:=(hown.lt q hq).2;omega
    have hOW:W2.heap.size≤w3.heap.size:=hBX.size;clear hown hb3 hBX;generalize w3.alloc (.cells #[.int .i64 N,.slice a6 m.length c6] 25)=W4 at hO4 hown4 hB4 ⊢
    generalize w3.heap.size=OB at hO4 hOg hOW ⊢)
  |(have hO4:CellsAt ((w3.setCell ⟨W2.heap.size,0,none⟩ (.int .i64 N)).setCell ⟨W2.heap.size,1,none⟩ (.slice a6 m.length c6)) W2.heap.size 25 #[.int .i64 N,.slice a6 m.length c6]:=by simpa using (hO.set 0 (.int .i64 N)).set 1 (.slice a6 m.length c6)
    have hOg:∀q,(Value.slice a6 m.length c6).ownBlock=some q→q≠W2.heap.size:=fun q hq=>by have:=(hown.lt q hq).1;simp at this;omega
    have hown4:=((eY hown (show W2.heap.size≤_ from by simp)).kept (ai w3 W2.heap.size 0 (.int .i64 N)) (.inr (fun e=>hOg _ e rfl))).kept (ai _ W2.heap.size 1 (.slice a6 m.length c6)) (.inr (fun e=>hOg _ e rfl));have hB4:Below W2.heap.size W2 ((w3.setCell ⟨W2.heap.size,0,none⟩ (.int .i64 N)).setCell ⟨W2.heap.size,1,none⟩ (.slice a6 m.length c6)):=bls (bls hBX (Nat.le_refl _) _) (Nat.le_refl _) _;have hOW:W2.heap.size≤W2.heap.size:=Nat.le_refl _;clear hown hb3 hBX hO o0 o1 of0 of1 kO;generalize (w3.setCell ⟨W2.heap.size,0,none⟩ (.int .i64 N)).setCell ⟨W2.heap.size,1,none⟩ (.slice a6 m.length c6)=W4 at hO4 hown4 hB4 ⊢;obtain⟨OB,hOB⟩:∃OB,OB=W2.heap.size:=⟨_,rfl⟩;rw [←hOB]at hO4 hOg ⊢;replace hOW:W2.heap.size≤OB:=by omega
    clear hOB)
 all_goals (
  have hlV:=hV2.lt;have hlR:=hR2.lt;have hV4:=hV2.below hB4;have hR4:=hR2.below hB4;have hs4:Sl2 W4 a2 c2 m:=⟨hs2.1.below hB4,hs2.2⟩;have hBW4:Below w.heap.size w W4:=hB2.trans (hB4.mono hB2.size);have hBS:=hB2.size;have hOV:OB≠VB:=by omega
  have hOR:OB≠RB:=by omega
  have c0:W4.cell? ⟨VB,0,none⟩=some (.int .i64 N):=hV4.cell 0;have c1:W4.cell? ⟨VB,1,none⟩=some (.slice a2 m.length c2):=hV4.cell 1;have kV:=Has.of hV4.lt;have hv2':nn=true→∃k,(Value.slice a6 m.length c6).ownBlock=some k:=fun h=>hv2 (by rintro rfl;rw [hnn]at h;cases h);have hv1':nn=false→Value.slice a6 m.length c6= .slice none 0 0:=fun h=>hv1 (by rw [hnn]at h;simpa using h);have HV1:=Lib.hid hv1';have HV2:=Lib.hid hv2';have HNN:=Lib.hid hnn;have HI:=Lib.hid hi;have o0:W4.cell? ⟨OB,0,none⟩=some (.int .i64 N):=hO4.cell 0;have o1:W4.cell? ⟨OB,1,none⟩=some (.slice a6 m.length c6):=hO4.cell 1;have r0:W4.cell? ⟨RB,0,none⟩=some (.int .i64 0):=hR4.cell 0;have r1:W4.cell? ⟨RB,1,none⟩=some (.slice none 0 0):=hR4.cell 1;have f0:=hR4.frozen 0;have f1:=hR4.frozen 1;have kO:=Has.of hO4.lt;have kR:=Has.of hR4.lt;clear hv1 hv2 hv1' hv2' hnn hi hV2 hR2 hB2 hs2 hkp bd bd2 bd3 hCL;have hRo:∀q,(Value.slice a6 m.length c6).ownBlock=some q→q≠RB:=fun q hq=>by have:=(hown4.lt q hq).1;omega
  by_cases hp1:pl<0
  ·go_wp2_with fail
   refine bodyPost_ret (v:= .agg #[.int .i64 N,.slice a6 m.length c6]) ?_ rfl ⟨_,rfl,?_,?_,?_,?_⟩
   ·have hCF:CellsAt ((W4.setCell ⟨RB,0,none⟩ (.int .i64 N)).setCell ⟨RB,1,none⟩ (.slice a6 m.length c6)) RB 25 #[.int .i64 N,.slice a6 m.length c6]:=by simpa using (hR4.set 0 (.int .i64 N)).set 1 (.slice a6 m.length c6)
    have k0:=hCF.cell 0;have k1:=hCF.cell 1;simp at k0 k1;simp [results,Try.results19,go_sem,k0,k1]
   ·exact eY ((hown4.kept (ai W4 RB 0 (.int .i64 N)) (.inr (fun e=>hRo _ e rfl))).kept (ai _ RB 1 (.slice a6 m.length c6)) (.inr (fun e=>hRo _ e rfl))) hBS
   ·exact bls (bls hBW4 hR0 _) hR0 _
   ·intro h;intros;exact HV1.out h
   ·exact HV2.out
  ·by_cases hp2:N≤pl
   ·go_wp2_with fail
    refine bodyPost_ret (v:= .agg #[.int .i64 N,.slice a6 m.length c6]) ?_ rfl ⟨_,rfl,?_,?_,?_,?_⟩
    ·have hCF:CellsAt ((W4.setCell ⟨RB,0,none⟩ (.int .i64 N)).setCell ⟨RB,1,none⟩ (.slice a6 m.length c6)) RB 25 #[.int .i64 N,.slice a6 m.length c6]:=by simpa using (hR4.set 0 (.int .i64 N)).set 1 (.slice a6 m.length c6)
     have k0:=hCF.cell 0;have k1:=hCF.cell 1;simp at k0 k1;simp [results,Try.results19,go_sem,k0,k1]
    ·exact eY ((hown4.kept (ai W4 RB 0 (.int .i64 N)) (.inr (fun e=>hRo _ e rfl))).kept (ai _ RB 1 (.slice a6 m.length c6)) (.inr (fun e=>hRo _ e rfl))) hBS
    ·exact bls (bls hBW4 hR0 _) hR0 _
    ·intro h;intros;exact HV1.out h
    ·exact HV2.out
   ·go_wp2_with fail
    refine(HF.out a2 c2 W4 hBW4 hs4 HNN.out).mono ?_;rintro x w5 ⟨rfl,hb5⟩;have hO5:=hO4.below hb5;have hR5:=hR4.below hb5;have hown5:=hown4.kept (bV hb5 none) (Classical.em _);have hBW5:Below w.heap.size w w5:=hBW4.trans (hb5.mono hBW4.size);have hW5:=hb5.size;have hOB1:=hO5.lt;clear hO4 hR4 hown4 hBW4 hs4 hV4 c0 c1 kV o0 o1 r0 r1 f0 f1 kO kR;have o0:w5.cell? ⟨OB,0,none⟩=some (.int .i64 N):=hO5.cell 0;have o1:w5.cell? ⟨OB,1,none⟩=some (.slice a6 m.length c6):=hO5.cell 1;have kO:=Has.of hO5.lt;cases is
    ·have hi2:i≤m.length:=by simpa using HI.out
     have HD:=Lib.hid (Fr W2.heap.size m.length i w5.heap.size a6 c6 m (pl,val) (w5.alloc (.cells #[.int .i64 pl,.int .i64 val] 30)) (hown5.alloc _) rfl (by omega) hi2 (by simp;omega) (heap_alloc_new w5 _) (fun e=>by have:=(hown5.lt _ e).2;omega))
     go_wp2_with fail
     refine HD.out.mono ?_;rintro x w6 ⟨v7,rfl,hown6,hg6⟩;obtain⟨g7,c7,rfl,hgb,hgl⟩:=AU hown6 (by omega);have hO6:=(hO5.below (bl1 w5 (.cells #[.int .i64 pl,.int .i64 val] 30))).grown hg6 (fun e=>hOg _ e.symm rfl);have hR6:=(hR5.below (bl1 w5 (.cells #[.int .i64 pl,.int .i64 val] 30))).grown hg6 (fun e=>hRo _ e.symm rfl);have hBW6:Below w.heap.size w w6:=(bla hBW5 _).trans ((jY hg6 (fun q hq=>Nat.le_trans hBS (hown5.lt q hq).1) (bla hBW5 _).size).mono (Nat.le_refl _))
     have hgO:g7≠OB:=by
      rintro rfl;rcases hown6.2 with⟨e,_⟩|⟨g,cap,cur,e,_,hg,_⟩
      ·cases e
      ·cases e;have h9:w6.heap[g7]? =some (.cells #[.int .i64 N,.slice a6 m.length c6] 25 (0,0)):=hO6;rw [hg]at h9;simp at h9
     have hgR:g7≠RB:=by omega
     clear hO5 hR5 hown5 hBW5 o0 o1 kO HD hg6;have o0:w6.cell? ⟨OB,0,none⟩=some (.int .i64 N):=hO6.cell 0;have o1:w6.cell? ⟨OB,1,none⟩=some (.slice a6 m.length c6):=hO6.cell 1;have r0:w6.cell? ⟨RB,0,none⟩=some (.int .i64 0):=hR6.cell 0;have r1:w6.cell? ⟨RB,1,none⟩=some (.slice none 0 0):=hR6.cell 1;have f0:=hR6.frozen 0;have f1:=hR6.frozen 1;have g0:=hO6.frozen 0;have g1:=hO6.frozen 1;have kO:=Has.of hO6.lt;have kR:=Has.of hR6.lt
     go_wp2_with fail
     have hR7:=eF hR6 (Ne.symm hOR) (.slice (some ⟨g7,0,none⟩) (m.length+1) c7) 1;have hO0:w.heap.size≤OB:=by omega
     have h9:=eY (((hown6.kept (ai w6 OB 1 (.slice (some ⟨g7,0,none⟩) (m.length+1) c7)) (.inr (by simpa [Value.ownBlock]using hgO))).kept (ai _ RB 0 (.int .i64 N)) (.inr (by simpa [Value.ownBlock]using hgR))).kept (ai _ RB 1 (.slice (some ⟨g7,0,none⟩) (m.length+1) c7)) (.inr (by simpa [Value.ownBlock]using hgR))) hBS;have hCF:CellsAt (((w6.setCell ⟨OB,1,none⟩ (.slice (some ⟨g7,0,none⟩) (m.length+1) c7)).setCell ⟨RB,0,none⟩ (.int .i64 N)).setCell ⟨RB,1,none⟩ (.slice (some ⟨g7,0,none⟩) (m.length+1) c7)) RB 25 #[.int .i64 N,.slice (some ⟨g7,0,none⟩) (m.length+1) c7]:=by simpa using (hR7.set 0 (.int .i64 N)).set 1 (.slice (some ⟨g7,0,none⟩) (m.length+1) c7)
     have k0:=hCF.cell 0;have k1:=hCF.cell 1;simp at k0 k1;refine bodyPost_ret (v:= .agg #[.int .i64 N,.slice (some ⟨g7,0,none⟩) (m.length+1) c7]) (by simp [results,Try.results19,go_sem,k0,k1]) rfl ?_;have e9:i+(m.length - i+1)=m.length+1:=by omega
     rw [e9];exact⟨_,rfl,h9,bls (bls (bls hBW6 hO0 _) hR0 _) hR0 _,fun _=>⟨g7,rfl⟩⟩
    ·have hi2:i<m.length:=by simpa using HI.out
     obtain⟨g6,c6',e6,hgb,hgl⟩:=AU hown5 (by omega);cases e6;have hgO:g6≠OB:=hOg g6 rfl;have hgR:g6≠RB:=hRo g6 rfl;have t1:w5.cell? ⟨g6,i*2+1,none⟩=some (.int .i64 (el m i).2):=by rw [hown5.cellAt (i*2+1) (by omega),jX m i 1 hi2 (by omega)];rfl
     have tf:=hown5.frozenAt (i*2+1);have kg:=Has.of hgl;have hR6:=hR5.grown (ai w5 g6 (i*2+1) (.int .i64 val)) (by simpa using hgR.symm);have r0:w5.cell? ⟨RB,0,none⟩=some (.int .i64 0):=hR5.cell 0;have r1:w5.cell? ⟨RB,1,none⟩=some (.slice none 0 0):=hR5.cell 1;have f0:=hR5.frozen 0;have f1:=hR5.frozen 1;have kR:=Has.of hR5.lt;have hj0:(0:Int)≤(i:Int):=by omega
     have hj1:(i:Int)<(m.length:Int):=by omega
     go_wp2_with fail
     refine bodyPost_ret (v:= .agg #[.int .i64 N,.slice (some ⟨g6,0,none⟩) m.length c6]) ?_ rfl ⟨_,rfl,?_,?_,fun _=>⟨g6,rfl⟩⟩
     ·have hCF:CellsAt (((w5.setCell ⟨g6,i*2+1,none⟩ (.int .i64 val)).setCell ⟨RB,0,none⟩ (.int .i64 N)).setCell ⟨RB,1,none⟩ (.slice (some ⟨g6,0,none⟩) m.length c6)) RB 25 #[.int .i64 N,.slice (some ⟨g6,0,none⟩) m.length c6]:=by simpa using (hR6.set 0 (.int .i64 N)).set 1 (.slice (some ⟨g6,0,none⟩) m.length c6)
      have k0:=hCF.cell 0;have k1:=hCF.cell 1;simp at k0 k1;simp [results,Try.results19,go_sem,k0,k1]
     ·exact eY (((He W2.heap.size m.length i g6 c6 m val w5 hown5 rfl hi2).kept (ai _ RB 0 (.int .i64 N)) (.inr (by simpa [Value.ownBlock]using hgR))).kept (ai _ RB 1 (.slice (some ⟨g6,0,none⟩) m.length c6)) (.inr (by simpa [Value.ownBlock]using hgR))) hBS
     ·exact bls (bls (bls hBW5 (by show w.heap.size≤g6;omega) _) hR0 _) hR0 _)
end It
end Sm
end
noncomputable section
open Go.RowKit Go.Sort
namespace Sm
namespace Pu
open Ev
abbrev Vc:K.Ty:= .C (.I .i64) (.S It.ety)
abbrev ins:List K.TyD:= [(true,Vc),(false,.I .i64),(false,.I .i64)]
abbrev outs:List K.TyD:= [(true,Vc)]
def out(l:List (Int×Int))(N pl val:Int)(i:Nat)(is:Bool):List (Int×Int):=if pl<0∨N≤pl then l else if is=true then l.set i ((It.el l i).1,val)else l.take i++(pl,val)::l.drop i
def fnO(a:(Int×Sl (Int×Int))×Int×Int):Option (Int×Sl (Int×Int)):=
 (spvec_sure a.1).bind fun s=>(co s a.2.1).bind fun f=>
  if It.okV s.2=true∧s.2.l.length≤80000∧(s.2.nn=true∨s.2.l= [])∧0≤f.1∧(if f.2=true then f.1<s.2.l.length else f.1≤s.2.l.length)then some (s.1,⟨if a.2.1<0∨s.1≤a.2.1 then s.2.nn else true,2,out s.2.l s.1 a.2.1 a.2.2 f.1.toNat f.2⟩)else none
theorem vo(a:K.aE ins)(o:K.aE outs)(h:fnO a=some o):dr Try.prog 19 (K.bp ins a) .fresh (K.bp outs o):=by
 obtain⟨⟨n,x⟩,pl,val⟩:=a;change Int at n;change Sl (Int×Int)at x;change Int at pl;change Int at val;unfold fnO at h;simp only [zbE]at h;obtain⟨⟨N,x2⟩,hs,⟨fi,is⟩,hf,h⟩:=h;simp only at hs hf h;rw [Option.ite_none_right_eq_some]at h;obtain⟨hc,h⟩:=h;obtain⟨hok,h80,hnl,h0,hlt⟩:=hc;cases h;simp only [It.okV,Bool.and_eq_true,Bool.or_eq_true,decide_eq_true_eq,List.isEmpty_iff]at hok;intro w F ys hL hF hr;obtain⟨hlen,hi⟩:=hr
 match ys,hlen with
 | [y0,y1,y2],_=>
  obtain⟨y,e1,e2⟩:=hi 0 _ rfl;simp only [List.getElem?_cons_zero,zsI]at e1;subst e1;obtain⟨y,e1,e4⟩:=hi 1 _ rfl;simp only [List.getElem?_cons_succ,List.getElem?_cons_zero,zsI]at e1;subst e1
  have ey:y1= .int .i64 pl:=by
   cases e4 with
   |one t y h=>cases h with|v x hx=>rfl
  subst ey;obtain⟨y,e1,e5⟩:=hi 2 _ rfl;simp only [List.getElem?_cons_succ,List.getElem?_cons_zero,zsI]at e1;subst e1
  have ey:y2= .int .i64 val:=by
   cases e5 with
   |one t y h=>cases h with|v x hx=>rfl
  subst ey;replace e2:RepTD w F (.agg [iT .i64 n,Sl.t It.ety.row x]) y0:=e2
  cases e2 with
  |agg _ us hh=>
   obtain⟨hl,hi2⟩:=hh
   match us,hl with
   | [u0,u1],_=>
    obtain⟨u,e1,e2⟩:=hi2 0 _ rfl;simp only [List.getElem?_cons_zero,zsI]at e1;subst e1;obtain⟨u,e1,e3⟩:=hi2 1 _ rfl;simp only [List.getElem?_cons_succ,List.getElem?_cons_zero,zsI]at e1;subst e1
    have eu:u0= .int .i64 n:=by cases e2 with|v x hx=>rfl
    subst eu
    obtain⟨ad,k,c,rfl⟩:∃a n c,u1= .slice a n c:=by
     unfold Sl.t at e3
     cases e3 with
     |s _ _ _ a c ys hn=>exact⟨_,_,_,rfl⟩
    obtain⟨i,rfl⟩:∃i:Nat,fi=(i:Int):=⟨fi.toNat,by omega⟩;have hw:=It.put_walk n ad k c pl val w N x2.nn x2.l i is h80 (by split at hlt<;>rename_i hq<;>simp only [hq]<;>simp<;>omega) (fun W hW hlt2=>It.sure_calls e3 hL hs hok.2 W hW hlt2) (fun a2 c2 W hW h2 hn=>It.find_calls hL hf hok.2 a2 c2 W hW h2 hn);refine hw.mono ?_;rintro e w' ⟨v,rfl,⟨r,hr,hown⟩,hbl,hv1,hv2⟩;refine⟨_,rfl,?_,fun hk=>(by cases hk),hbl⟩;have e9:out x2.l N pl val (i:Int).toNat is=r:=by rw [hr];rfl
    refine It.vec (t:=Sl.t It.ety.row ⟨if pl<0∨N≤pl then x2.nn else true,2,out x2.l N pl val (i:Int).toNat is⟩) ?_;rw [e9];obtain⟨_,a',c',e,hcap,hrd,hz⟩:=It.row_rdE hown;subst e
    cases a' with
    |none=>
     have hr0:r= []:=List.eq_nil_of_length_eq_zero (hz rfl).2;by_cases hpl:pl<0∨N≤pl
     ·have hnn:x2.nn=false:=by
       cases hq:x2.nn with
       |false=>rfl
       |true=>obtain⟨k,hk⟩:=hv2 hq;cases hk
      rw [if_pos hpl,hnn,hr0];obtain⟨rfl,_⟩:=hz rfl;exact RepT.s false 2 [] none 0 (fun _ _=> .nilFunc) rfl (Nat.le_refl _) (fun _=>rfl) (fun i e h=>by simp at h) (fun i e j t h=>by simp at h) (fun i e j t h=>by simp at h)
     ·exfalso;rw [if_neg hpl,hr0]at hr;have hl:=congrArg List.length hr;split at hr
      ·rename_i hq;rw [if_pos hq]at hl hlt;simp at hl;rw [←hl]at hlt;simp at hlt;omega
      ·rename_i hq;rw [if_neg hq]at hl;simp at hl
    |some b=>
     have hnn:(if pl<0∨N≤pl then x2.nn else true)=true:=by
      split
      ·rename_i hpl
       cases hq:x2.nn with
       |true=>rfl
       |false=>
        have h8:x2.l= []:=hnl.resolve_left (by rw [hq];simp)
        have:=hv1 hq h8 hpl
        cases this
      ·rfl
     rw [hnn];refine It.rep_of (base:=w.heap.size) ⟨hrd,hz,hcap,fun b' hb'=> ?_⟩ (fun b hb=>hb.1) (.inr (by simp));cases hb';exact(hown.lt b.block rfl).1
def fn(a:(Int×Sl (Int×Int))×Int×Int):Option (Int×Sl (Int×Int)):=
 if(a.1.2.sz=2∨a.1.2.l= [])∧(a.1.2.nn=true∨a.1.2.l= [])∧a.1.2.l.length≤80000 then
  some ((aj a.1).1,⟨if a.2.1<0∨(aj a.1).1≤a.2.1 then(aj a.1).2.nn else true,2,out (aj a.1).2.l (aj a.1).1 a.2.1 a.2.2 (bt (aj a.1).2.l a.2.1) (isI (aj a.1).2.l a.2.1)⟩)else none
theorem MI(a:(Int×Sl (Int×Int))×Int×Int)(o:Int×Sl (Int×Int))(h:fn a=some o):fnO a=some o:=by
 unfold fn at h;rw [Option.ite_none_right_eq_some]at h;obtain⟨⟨h1,h2,h3⟩,h⟩:=h;have hok:okS 2 a.1.2:=h1.elim .inr .inl;have s1:=cW hok;have s2:=Hd h2;have s3:=cC a.1;unfold fnO;rw [ct hok (by omega)];simp only [zbS];rw [fp hok];simp only [zbS,Int.toNat_natCast];refine(if_pos ⟨?_,by omega,s2,by omega,?_⟩).trans h
 ·simp only [It.okV,Bool.and_eq_true,Bool.or_eq_true,decide_eq_true_eq,List.isEmpty_iff];exact⟨by omega,s1.elim .inr .inl⟩
 ·split
  ·have:=rp (by assumption);omega
  ·have:=Bj (aj a.1).2.l a.2.1;omega
theorem pure_ok(a:K.aE ins)(o:K.aE outs)(h:fn a=some o):dr Try.prog 19 (K.bp ins a) .fresh (K.bp outs o):=vo a o (MI a o h)
theorem enters:Ev.Enters Try.prog 19:=⟨_,_,Try.func19,by kernel_rfl,by unfold Try.f19;rfl⟩
end Pu
end Sm
end
noncomputable section
namespace Ev
namespace K
open Go Go.RowKit
set_option maxRecDepth 100000
set_option maxHeartbeats 1000000
def Ob:Ax:=(aJ (aJ (aJ (fun _=>none) 8 (tr Sm.It.ins .fresh Sm.It.outs Sm.It.fn)) 19 (tr Sm.Pu.ins .fresh Sm.Pu.outs Sm.Pu.fn)) 21 (tr Sm.Dr.ins .fresh Sm.Dr.outs Sm.Dr.fn))
theorem Kj:Cf Try.prog Ob:=(ak (ak (ak (rO _) (CX Sm.It.enters Sm.It.pure_ok)) (CX Sm.Pu.enters Sm.Pu.pure_ok)) (CX Sm.Dr.enters Sm.Dr.pure_ok))
def Kk:Ax:=(aJ (aJ (aJ (aJ (aJ (aJ (aJ (aJ (aJ (aJ (aJ (aJ (aJ (aJ (aJ (aJ (aJ (aJ (aJ (aJ Ob 36 aX) 37 aX) 41 aX) 42 aX) 55 aX) 60 aX) 67 aX) 68 aX) 72 aX) 73 aX) 74 aX) 75 aX) 76 aX) 77 aX) 78 aX) 79 aX) 86 aX) 89 aX) 90 aX) 92 aX)
theorem Du:Cf Try.prog Kk:=(ak (ak (ak (ak (ak (ak (ak (ak (ak (ak (ak (ak (ak (ak (ak (ak (ak (ak (ak (ak Kj fun vs kind rs h=>by simp [aX]at h) fun vs kind rs h=>by simp [aX]at h) fun vs kind rs h=>by simp [aX]at h) fun vs kind rs h=>by simp [aX]at h) fun vs kind rs h=>by simp [aX]at h) fun vs kind rs h=>by simp [aX]at h) fun vs kind rs h=>by simp [aX]at h) fun vs kind rs h=>by simp [aX]at h) fun vs kind rs h=>by simp [aX]at h) fun vs kind rs h=>by simp [aX]at h) fun vs kind rs h=>by simp [aX]at h) fun vs kind rs h=>by simp [aX]at h) fun vs kind rs h=>by simp [aX]at h) fun vs kind rs h=>by simp [aX]at h) fun vs kind rs h=>by simp [aX]at h) fun vs kind rs h=>by simp [aX]at h) fun vs kind rs h=>by simp [aX]at h) fun vs kind rs h=>by simp [aX]at h) fun vs kind rs h=>by simp [aX]at h) fun vs kind rs h=>by simp [aX]at h)
def E0:Env:=wJ Try.prog Kk
theorem Rf:E0.Ok:=qk CR CS Du
def zv:List TD→Option (Kind×List TD)
 | []=>some (.fresh,[.one (.v (.bool true))])
 |_=>none
theorem Hg{k:FuncId}(h:(bY E0 300 60).1 k []=some (.fresh,[.one (.v (.bool true))])):∀vs kind rs,zv vs=some (kind,rs)→dr Try.prog k vs kind rs∧Ev.Enters Try.prog k:=fun vs kind rs hf=>by
 unfold zv at hf;split at hf
 ·simp only [zsI,Prod.mk.injEq]at hf;obtain⟨rfl,rfl⟩:=hf;exact(wF Rf 300 60).1 _ _ _ _ h
 ·simp at hf
theorem Kl:(bY E0 300 60).1 10 []=some (.fresh,[.one (.v (.bool true))]):=by kernel_rfl
def E1:Env:=wJ Try.prog (aJ Kk 10 zv)
theorem aO:E1.Ok:=qk CR CS (ak Du (Hg Kl))
def FL10:aE []→Option Bool:=fun _=>some true
def rq:aF:=⟨10,[],.data true [(false,.B)],FL10,1⟩
theorem Bl:af E1 rq:=fun m a out h=>by
 obtain rfl:=Option.some.inj h;exact gf (F:=zv) rfl rfl
def kd:aE Sm.It.ins→Option (aE Sm.It.outs):=Sm.It.fn
def oe:aF:=⟨8,Sm.It.ins,.data true Sm.It.outs,kd,1⟩
theorem sr:af E1 oe:=oZ rfl
def iz:aE Sm.Pu.ins→Option (aE Sm.Pu.outs):=Sm.Pu.fn
def jv:aF:=⟨19,Sm.Pu.ins,.data true Sm.Pu.outs,iz,1⟩
theorem pz:af E1 jv:=oZ rfl
def iM:aE Sm.Dr.ins→Option (aE Sm.Dr.outs):=Sm.Dr.fn
def kK:aF:=⟨21,Sm.Dr.ins,.data true Sm.Dr.outs,iM,1⟩
theorem yj:af E1 kK:=oZ rfl
theorem bA:JB E1 TT:=⟨tz1,⟨tz2,⟨tz3,⟨tz4,⟨tz5,⟨tz6,⟨tz7,⟨tz8,⟨SO,⟨SP,⟨SQ,⟨SR,⟨SS,⟨ST,⟨SU,⟨SV,⟨SW,⟨SX,⟨SY,⟨SZ,⟨Ta,⟨Tb,⟨Tc,⟨Td,⟨Te,⟨Tf,⟨Tg,⟨Ti,⟨Tj,⟨Tk,⟨Tl,⟨Tm,⟨Tn,⟨To,⟨Tp,⟨Tq,⟨Tr,⟨Ts,⟨Tt,⟨Tu,⟨Tv,⟨Tw,⟨Tx,⟨Tz,⟨TA,⟨TB,⟨TC,⟨TE,⟨TF,⟨TG,⟨TH,⟨TJ,⟨TK,⟨TL,⟨TM,⟨TN,⟨TO,⟨TP,⟨TQ,⟨TR,⟨TS,⟨TU,⟨TV,⟨TW,⟨TX,⟨TY,⟨TZ,⟨Ua,⟨Ub,⟨Uc,⟨Ud,⟨Ue,⟨Uf,⟨Ug,⟨Uh,⟨Ui,⟨Uj,⟨Uk,⟨Ul,⟨Um,⟨Un,⟨Uo,⟨Uq,⟨Ur,⟨Us,⟨Ut,⟨Ov,⟨Ow,⟨Ox,⟨Oy,⟨Oz,⟨OA,⟨OC,⟨OD,⟨OE,⟨OF,⟨OG,⟨OH,⟨OJ,⟨OK,⟨OL,⟨OM,⟨ON,⟨OO,⟨OP,⟨OQ,⟨OR,⟨OS,⟨OT,⟨OU,⟨OV,⟨OW,trivial⟩⟩⟩⟩⟩⟩⟩⟩⟩⟩⟩⟩⟩⟩⟩⟩⟩⟩⟩⟩⟩⟩⟩⟩⟩⟩⟩⟩⟩⟩⟩⟩⟩⟩⟩⟩⟩⟩⟩⟩⟩⟩⟩⟩⟩⟩⟩⟩⟩⟩⟩⟩⟩⟩⟩⟩⟩⟩⟩⟩⟩⟩⟩⟩⟩⟩⟩⟩⟩⟩⟩⟩⟩⟩⟩⟩⟩⟩⟩⟩⟩⟩⟩⟩⟩⟩⟩⟩⟩⟩⟩⟩⟩⟩⟩⟩⟩⟩⟩⟩⟩⟩⟩⟩⟩⟩⟩⟩⟩⟩⟩⟩
theorem aV:JC E1.P EQS:=⟨Ih Ii Ij,⟨Ih Ik Il,trivial⟩⟩
theorem fn3:E1.fn 3=some fi3:=aR Try.func3 rfl
theorem fn6:E1.fn 6=some fi6:=aR Try.func6 rfl
theorem fn7:E1.fn 7=some fi7:=aR Try.func7 rfl
theorem fn9:E1.fn 9=some fi9:=aR Try.func9 rfl
theorem Vt:E1.fn 11=some Uu:=aR Try.func11 rfl
theorem Vu:E1.fn 12=some Uv:=aR Try.func12 rfl
theorem Vv:E1.fn 13=some Uw:=aR Try.func13 rfl
theorem Vx:E1.fn 14=some Ux:=aR Try.func14 rfl
theorem Vy:E1.fn 15=some Uy:=aR Try.func15 rfl
theorem Vz:E1.fn 16=some Uz:=aR Try.func16 rfl
theorem VA:E1.fn 17=some Qu:=aR Try.func17 rfl
theorem VC:E1.fn 18=some UA:=aR Try.func18 rfl
theorem VD:E1.fn 20=some UB:=aR Try.func20 rfl
theorem VE:E1.fn 22=some UC:=aR Try.func22 rfl
theorem VF:E1.fn 23=some UD:=aR Try.func23 rfl
theorem VG:E1.fn 24=some UE:=aR Try.func24 rfl
theorem VH:E1.fn 25=some UF:=aR Try.func25 rfl
theorem VI:E1.fn 26=some UG:=aR Try.func26 rfl
theorem VJ:E1.fn 27=some UH:=aR Try.func27 rfl
theorem VK:E1.fn 28=some UI:=aR Try.func28 rfl
theorem VL:E1.fn 29=some UJ:=aR Try.func29 rfl
theorem VM:E1.fn 32=some UK:=aR Try.func32 rfl
theorem VN:E1.fn 33=some UL:=aR Try.func33 rfl
theorem VO:E1.fn 35=some Qv:=aR Try.func35 rfl
theorem VP:E1.fn 44=some UQ:=aR Try.func44 rfl
theorem VQ:E1.fn 45=some UR:=aR Try.func45 rfl
theorem VR:E1.fn 46=some US:=aR Try.func46 rfl
theorem VS:E1.fn 47=some Qw:=aR Try.func47 rfl
theorem VT:E1.fn 48=some Qx:=aR Try.func48 rfl
theorem VU:E1.fn 49=some UT:=aR Try.func49 rfl
theorem VV:E1.fn 53=some UU:=aR Try.func53 rfl
theorem VW:E1.fn 54=some UV:=aR Try.func54 rfl
theorem VX:E1.fn 63=some Vd:=aR Try.func63 rfl
theorem VY:E1.fn 64=some Ve:=aR Try.func64 rfl
theorem VZ:E1.fn 65=some Vf:=aR Try.func65 rfl
theorem Wa:E1.fn 66=some Vg:=aR Try.func66 rfl
theorem Wb:E1.fn 67=some Qy:=aR Try.func67 rfl
theorem Wc:E1.fn 68=some Qz:=aR Try.func68 rfl
theorem Wd:E1.fn 82=some Vi:=aR Try.func82 rfl
theorem We:E1.fn 83=some Vj:=aR Try.func83 rfl
theorem Wf:E1.fn 84=some Vk:=aR Try.func84 rfl
end K
end Ev
end
noncomputable section
namespace Ev
namespace K
open Go Go.RowKit
set_option maxRecDepth 100000
set_option maxHeartbeats 1000000
def Fu:bQ:= []
def vq:KG:=⟨TT,EQS,[],[]⟩
def iN:aE [(false,.I .i64)]→Option (OutK.val (.data true [(false,.B)])):=ce vq Fu UQ 44 0 [(false,.I .i64)] (.data true [(false,.B)])
def og:aF:=⟨44,[(false,.I .i64)],.data true [(false,.B)],iN,1⟩
def yk:bQ:= []
def nl:KG:=⟨TT,EQS,[],[]⟩
def ee:aE [yD2,yD2]→Option (OutK.val (.data true [(false,.B)])):=ce nl yk Vd 63 0 [yD2,yD2] (.data true [(false,.B)])
def nm:aF:=⟨63,[yD2,yD2],.data true [(false,.B)],ee,1⟩
def Fv:bQ:= []
def vr:KG:=⟨TT,EQS,[],[]⟩
def ke:aE [(false,.I .i64)]→Option (OutK.val (.data true [yD4])):=ce vr Fv Ve 64 0 [(false,.I .i64)] (.data true [yD4])
def vt:aF:=⟨64,[(false,.I .i64)],.data true [yD4],ke,1⟩
def tJ:bQ:= []
def ly:KG:=⟨TT,EQS,[],[]⟩
def cS:aE [yD4,yD4]→Option (OutK.val (.data true [(false,.I .i64)])):=ce ly tJ Vi 82 0 [yD4,yD4] (.data true [(false,.I .i64)])
def lz:aF:=⟨82,[yD4,yD4],.data true [(false,.I .i64)],cS,1⟩
def yl:bQ:= []
def np:KG:=⟨TT,EQS,[],[]⟩
def eh:aE [(false,.B)]→Option (OutK.val (.data true [yD4])):=ce np yl Vj 83 0 [(false,.B)] (.data true [yD4])
def nq:aF:=⟨83,[(false,.B)],.data true [yD4],eh,1⟩
def Dv:bQ:= [(84,⟨[⟨true,3,5,[2,4,5],⟨[(6,false,[.d true (.I .i64)])],[],[]⟩,[(.normal,⟨[(6,false,[.d true (.I .i64)])],[],[]⟩)]⟩],[]⟩)]
def ss:KG:=⟨TT,EQS,[],[]⟩
def iA:aE [yD4,yD4]→Option (OutK.val (.data true [yD4])):=ce ss Dv Vk 84 0 [yD4,yD4] (.data true [yD4])
def su:aF:=⟨84,[yD4,yD4],.data true [yD4],iA,1⟩
def Dw:bQ:= [(65,⟨[⟨true,3,9,[4,5,6,7],⟨[],[],[]⟩,[(.normal,⟨[(9,false,[.d true .B])],[],[]⟩)]⟩],[]⟩)]
def sv:KG:=⟨TT,EQS,[lz,nq,su],[]⟩
def iB:aE [(false,.I .i64),yD4,yD4]→Option (OutK.val (.data true [yD4])):=ce sv Dw Vf 65 0 [(false,.I .i64),yD4,yD4] (.data true [yD4])
def sw:aF:=⟨65,[(false,.I .i64),yD4,yD4],.data true [yD4],iB,2⟩
def vu:bQ:= []
def lU:KG:=⟨TT,EQS,[],[]⟩
def du:aE [yD4]→Option (OutK.val (.data true [(false,.I .i64),(false,.B)])):=ce lU vu Vg 66 0 [yD4] (.data true [(false,.I .i64),(false,.B)])
def lV:aF:=⟨66,[yD4],.data true [(false,.I .i64),(false,.B)],du,1⟩
def tK:bQ:= [(45,⟨[⟨false,6,0,[0,1],⟨[(6,false,[.m (.C (.I .i64) (.C (.I .i64) (.I .i64)))]),(7,false,[.m (.C (.I .i64) (.I .u64))]),(8,false,[.d true (.I .i64)])],[],[]⟩,[(.exit 0,⟨[(6,false,[.m (.C (.I .i64) (.C (.I .i64) (.I .i64)))]),(7,false,[.m (.C (.I .i64) (.I .u64))])],[],[]⟩)]⟩,⟨false,9,0,[0,1,6,7,8],⟨[(9,false,[.d true (.I .i64)])],[],[]⟩,[(.exit 2,⟨[(9,false,[.d true (.I .i64)])],[],[]⟩)]⟩,⟨false,17,0,[0,1,6,7,8,9,10],⟨[(11,false,[.d true (.I .i64)])],[],[(.sl 6 0,.C (.I .i64) (.C (.I .i64) (.I .i64))),(.sl 7 0,.C (.I .i64) (.I .u64))]⟩,[(.exit 4,⟨[],[],[(.sl 6 0,.C (.I .i64) (.C (.I .i64) (.I .i64))),(.sl 7 0,.C (.I .i64) (.I .u64))]⟩)]⟩,⟨false,24,0,[7],⟨[(6,false,[.m (.C (.I .i64) (.C (.I .i64) (.I .i64)))]),(12,false,[.d true (.I .i64)])],[],[]⟩,[(.exit 6,⟨[(6,false,[.m (.C (.I .i64) (.C (.I .i64) (.I .i64)))])],[],[]⟩),(.ret,⟨[(4,false,[.m (.C (.I .i64) (.C (.I .i64) (.I .i64)))]),(5,false,[.d true (.I .i64)])],[],[]⟩)]⟩],[(13,⟨[[],[],[],[],[],[],[],[],[],[],[.sl 7 0]],[(false,[]),(false,[]),(false,[]),(false,[]),(false,[]),(false,[]),(false,[]),(false,[]),(false,[]),(false,[]),(false,[])]⟩),(21,⟨[[],[],[],[],[],[],[],[],[],[],[],[],[],[],[.sl 6 0]],[(false,[]),(false,[]),(false,[]),(false,[]),(false,[]),(false,[]),(false,[]),(false,[]),(false,[]),(false,[]),(false,[]),(false,[]),(false,[]),(false,[]),(false,[])]⟩)]⟩)]
def lA:KG:=⟨TT,EQS,[og,nm,vt,sw,lV],[]⟩
def dP:aE [(false,.I .i64),yD0]→Option (OutK.val (.data true [yD0,(false,.I .i64)])):=ce lA tK UR 45 0 [(false,.I .i64),yD0] (.data true [yD0,(false,.I .i64)])
def lB:aF:=⟨45,[(false,.I .i64),yD0],.data true [yD0,(false,.I .i64)],dP,3⟩
def Fw:bQ:= [(9,⟨[⟨false,7,0,[0,1,2,6],⟨[(8,false,[.m (.C (.I .i64) (.C (.I .i64) (.I .i64)))]),(9,false,[.d true (.I .i64)])],[(6,[.d true (.I .i64),.m (.C (.I .i64) (.I .i64))])],[]⟩,[(.exit 0,⟨[(8,false,[.m (.C (.I .i64) (.C (.I .i64) (.I .i64)))])],[(6,[.d true (.I .i64),.m (.C (.I .i64) (.I .i64))])],[]⟩),(.ret,⟨[(7,false,[.d true (.I .i64)])],[(6,[.d true (.I .i64),.m (.C (.I .i64) (.I .i64))])],[]⟩)]⟩,⟨false,17,0,[6,8,11],⟨[(12,false,[.d true (.I .i64)])],[(11,[.d true (.I .i64),.m (.C (.I .i64) (.I .i64))])],[]⟩,[(.exit 2,⟨[],[(11,[.d true (.I .i64),.m (.C (.I .i64) (.I .i64))])],[]⟩)]⟩],[(11,⟨[[],[],[],[],[],[],[],[],[],[],[],[],[],[.sl 8 0],[]],[(false,[]),(false,[]),(false,[]),(false,[]),(false,[]),(false,[]),(false,[]),(false,[]),(false,[]),(false,[]),(false,[]),(false,[]),(true,[]),(true,[]),(false,[])]⟩),(19,⟨[[],[],[],[],[],[],[],[],[],[],[],[],[],[],[.bx 11 1],[],[.sl 11 0]],[(false,[]),(false,[]),(false,[]),(false,[]),(false,[]),(false,[]),(false,[]),(false,[]),(false,[]),(false,[]),(false,[]),(false,[]),(false,[]),(true,[]),(true,[]),(false,[]),(false,[])]⟩)]⟩)]
def vw:KG:=⟨TT,EQS,[og,lB],[]⟩
def iO:aE [(false,.I .i64),(false,.I .i64),yD3]→Option (OutK.val (.data true [yD1,(false,.I .i64)])):=ce vw Fw fi9 9 0 [(false,.I .i64),(false,.I .i64),yD3] (.data true [yD1,(false,.I .i64)])
def oh:aF:=⟨9,[(false,.I .i64),(false,.I .i64),yD3],.data true [yD1,(false,.I .i64)],iO,4⟩
def Dx:bQ:= []
def sx:KG:=⟨TT,EQS,[dH,iy],[]⟩
def gq:aE [yD1,(false,.I .i64)]→Option (OutK.val (.data true [(false,.I .i64),(false,.B)])):=ce sx Dx Uy 15 0 [yD1,(false,.I .i64)] (.data true [(false,.I .i64),(false,.B)])
def jw:aF:=⟨15,[yD1,(false,.I .i64)],.data true [(false,.I .i64),(false,.B)],gq,8⟩
def ym:bQ:= [(53,⟨[⟨false,3,0,[1,5,11,12],⟨[(13,false,[.d true (.I .i64)])],[],[(.sl 5 0,.C (.I .i64) (.I .i64))]⟩,[(.exit 0,⟨[],[],[(.sl 5 0,.C (.I .i64) (.I .i64))]⟩)]⟩],[]⟩)]
def nr:KG:=⟨TT,EQS,[],[]⟩
def spvec_moved:aE [yD3,(false,.I .i64)]→Option (OutK.val (.own (.C (.I .i64) (.I .i64)))):=ce nr ym UU 53 0 [yD3,(false,.I .i64)] (.own (.C (.I .i64) (.I .i64)))
def ns:aF:=⟨53,[yD3,(false,.I .i64)],.own (.C (.I .i64) (.I .i64)),spvec_moved,1⟩
def Bm:bQ:= []
def pA:KG:=⟨TT,EQS,[dH,iy,ns],[]⟩
def cT:aE [yD1,(false,.I .i64),(false,.I .i64)]→Option (OutK.val (.data true [yD1])):=ce pA Bm UI 28 0 [yD1,(false,.I .i64),(false,.I .i64)] (.data true [yD1])
def io:aF:=⟨28,[yD1,(false,.I .i64),(false,.I .i64)],.data true [yD1],cT,8⟩
def pB:bQ:= [(46,⟨[⟨false,4,0,[0,1],⟨[(5,false,[.d true (.I .i64)])],[],[]⟩,[(.exit 0,⟨[],[],[]⟩),(.ret,⟨[(4,false,[.d true .B])],[],[]⟩)]⟩],[]⟩)]
def jx:KG:=⟨TT,EQS,[],[]⟩
def cL:aE [yD3,yD3]→Option (OutK.val (.data true [(false,.B)])):=ce jx pB US 46 0 [yD3,yD3] (.data true [(false,.B)])
def jy:aF:=⟨46,[yD3,yD3],.data true [(false,.B)],cL,1⟩
def Bn:bQ:= []
def pD:KG:=⟨TT,EQS,[jy],[]⟩
def aZ:aE [yD1,yD1]→Option (OutK.val (.data true [(false,.B)])):=ce pD Bn Uu 11 0 [yD1,yD1] (.data true [(false,.B)])
def iq:aF:=⟨11,[yD1,yD1],.data true [(false,.B)],aZ,2⟩
def vy:bQ:= [(24,⟨[⟨false,3,0,[8,9],⟨[(3,false,[.m (.I .i64)]),(10,false,[.d true (.I .i64)])],[],[]⟩,[(.exit 0,⟨[(3,false,[.m (.I .i64)])],[],[]⟩)]⟩],[]⟩)]
def lW:KG:=⟨TT,EQS,[dH],[]⟩
def eM:aE [yD1]→Option (OutK.val (.mown (.I .i64))):=ce lW vy UE 24 0 [yD1] (.mown (.I .i64))
def iP:aF:=⟨24,[yD1],.mown (.I .i64),eM,4⟩
def rt:bQ:= [(23,⟨[⟨false,4,0,[0,1],⟨[(5,false,[.d true (.I .i64)])],[],[]⟩,[(.exit 0,⟨[],[],[]⟩),(.ret,⟨[(4,false,[.d true .B])],[],[]⟩)]⟩],[]⟩)]
def kf:KG:=⟨TT,EQS,[],[]⟩
def cD:aE [(false,.S (.I .i64)),(false,.S (.I .i64))]→Option (OutK.val (.data true [(false,.B)])):=ce kf rt UD 23 0 [(false,.S (.I .i64)),(false,.S (.I .i64))] (.data true [(false,.B)])
def gr:aF:=⟨23,[(false,.S (.I .i64)),(false,.S (.I .i64))],.data true [(false,.B)],cD,1⟩
def yn:bQ:= [(26,⟨[⟨false,4,0,[2,3,12,13],⟨[(14,false,[.d true (.I .i64)])],[(3,[.d true (.I .i64),.m (.C (.I .i64) (.I .i64))])],[]⟩,[(.exit 0,⟨[],[(3,[.d true (.I .i64),.m (.C (.I .i64) (.I .i64))])],[]⟩)]⟩],[]⟩)]
def nu:KG:=⟨TT,EQS,[dH],[]⟩
def fI:aE [yD1]→Option (OutK.val (.data true [yD1])):=ce nu yn UG 26 0 [yD1] (.data true [yD1])
def jL:aF:=⟨26,[yD1],.data true [yD1],fI,4⟩
def Bo:bQ:= [(12,⟨[⟨false,5,0,[1,4,5,15],⟨[(16,false,[.d true (.I .i64)])],[],[(.bx 5 1,.C (.I .i64) (.I .i64))]⟩,[(.exit 0,⟨[],[],[(.bx 5 1,.C (.I .i64) (.I .i64))]⟩)]⟩],[]⟩)]
def pE:KG:=⟨TT,EQS,[iw],[]⟩
def fx:aE [(false,.I .i64),(false,.I .i64)]→Option (OutK.val (.data true [yD1])):=ce pE Bo Uv 12 0 [(false,.I .i64),(false,.I .i64)] (.data true [yD1])
def pF:aF:=⟨12,[(false,.I .i64),(false,.I .i64)],.data true [yD1],fx,2⟩
def fZ:bQ:= [(54,⟨[⟨false,4,0,[0,1,12],⟨[(13,false,[.d true (.I .i64)])],[],[]⟩,[(.exit 0,⟨[],[],[]⟩),(.ret,⟨[(4,false,[.d true .B])],[],[]⟩)]⟩],[]⟩)]
def cM:KG:=⟨TT,EQS,[],[]⟩
def aI:aE [yD3,yD3]→Option (OutK.val (.data true [(false,.B)])):=ce cM fZ UV 54 0 [yD3,yD3] (.data true [(false,.B)])
def cN:aF:=⟨54,[yD3,yD3],.data true [(false,.B)],aI,1⟩
def Bp:bQ:= [(33,⟨[],[(1,⟨[[],[],[],[],[.sl 2 0],[.sl 3 0]],[(false,[]),(false,[]),(false,[]),(false,[]),(false,[]),(false,[])]⟩)]⟩)]
def pG:KG:=⟨TT,EQS,[dH,cN],[]⟩
def cq:aE [yD1,yD1]→Option (OutK.val (.data true [(false,.B)])):=ce pG Bp UL 33 0 [yD1,yD1] (.data true [(false,.B)])
def kL:aF:=⟨33,[yD1,yD1],.data true [(false,.B)],cq,4⟩
def Bq:bQ:= [(13,⟨[⟨false,5,0,[0,1,4,5],⟨[(6,false,[.d true (.I .i64)])],[(5,[.d true (.I .i64),.m (.C (.I .i64) (.I .i64))])],[]⟩,[(.exit 0,⟨[],[(5,[.d true (.I .i64),.m (.C (.I .i64) (.I .i64))])],[]⟩)]⟩],[]⟩)]
def pH:KG:=⟨TT,EQS,[],[]⟩
def fy:aE [(false,.I .i64),(false,.I .i64)]→Option (OutK.val (.data true [yD1])):=ce pH Bq Uw 13 0 [(false,.I .i64),(false,.I .i64)] (.data true [yD1])
def pI:aF:=⟨13,[(false,.I .i64),(false,.I .i64)],.data true [yD1],fy,1⟩
def tL:bQ:= [(3,⟨[⟨true,1,5,[0,1],⟨[(2,false,[.d false (.S (.C (.I .i64) (.I .i64)))])],[],[]⟩,[(.normal,⟨[(2,false,[.d false (.S (.C (.I .i64) (.I .i64)))])],[],[]⟩)]⟩,⟨true,6,5,[1,2,7,8,9,10],⟨[(11,false,[.d true (.I .i64)])],[],[]⟩,[(.normal,⟨[(11,false,[.d true (.I .i64)])],[],[]⟩)]⟩],[]⟩)]
def lC:KG:=⟨TT,EQS,[oe,oh,rq,iq,pF,pI],[]⟩
def eZ:aE [(false,.I .i64),(false,.I .i64),yD3]→Option (OutK.val (.data true [(false,.B)])):=ce lC tL fi3 3 0 [(false,.I .i64),(false,.I .i64),yD3] (.data true [(false,.B)])
def lD:aF:=⟨3,[(false,.I .i64),(false,.I .i64),yD3],.data true [(false,.B)],eZ,5⟩
def Dy:bQ:= []
def sy:KG:=⟨TT,EQS,[],[]⟩
def iE:aE [yD1]→Option (OutK.val (.data false [yD1])):=ce sy Dy Ux 14 0 [yD1] (.data false [yD1])
def lX:aF:=⟨14,[yD1],.data false [yD1],iE,1⟩
def yo:bQ:= [(18,⟨[⟨false,4,0,[1],⟨[(3,false,[.d true (.I .i64)])],[],[]⟩,[(.exit 0,⟨[],[],[]⟩),(.ret,⟨[(2,false,[.d true .B])],[],[]⟩)]⟩],[]⟩)]
def nv:KG:=⟨TT,EQS,[],[]⟩
def eo:aE [yD1]→Option (OutK.val (.data true [(false,.B)])):=ce nv yo UA 18 0 [yD1] (.data true [(false,.B)])
def gI:aF:=⟨18,[yD1],.data true [(false,.B)],eo,1⟩
def Br:bQ:= []
def pJ:KG:=⟨TT,EQS,[gI],[]⟩
def cE:aE [yD1]→Option (OutK.val (.data false [yD1])):=ce pJ Br UT 49 0 [yD1] (.data false [yD1])
def dv:aF:=⟨49,[yD1],.data false [yD1],cE,2⟩
def Dz:bQ:= [(16,⟨[⟨false,3,0,[1,2],⟨[(6,false,[.d true (.I .i64)])],[],[]⟩,[(.exit 0,⟨[],[],[]⟩),(.ret,⟨[(4,false,[.d true (.I .i64)]),(5,false,[.d true .B])],[],[]⟩)]⟩],[]⟩)]
def sA:KG:=⟨TT,EQS,[dv],[]⟩
def gu:aE [yD1,(false,.I .i64)]→Option (OutK.val (.data true [(false,.I .i64),(false,.B)])):=ce sA Dz Uz 16 0 [yD1,(false,.I .i64)] (.data true [(false,.I .i64),(false,.B)])
def jz:aF:=⟨16,[yD1,(false,.I .i64)],.data true [(false,.I .i64),(false,.B)],gu,3⟩
def DA:bQ:= [(20,⟨[⟨false,5,0,[1,2,3,6,7],⟨[(8,false,[.d true .B]),(9,false,[.d true (.I .i64)])],[(7,[.d true (.I .i64),.m (.C (.I .i64) (.I .i64))])],[]⟩,[(.exit 0,⟨[(8,false,[.d true .B])],[(7,[.d true (.I .i64),.m (.C (.I .i64) (.I .i64))])],[]⟩)]⟩,⟨true,7,7,[1,2,3,6,7,9],⟨[(8,false,[.d true .B])],[(7,[.d true (.I .i64),.m (.C (.I .i64) (.I .i64))])],[]⟩,[(.normal,⟨[(8,false,[.d true .B])],[(7,[.d true (.I .i64),.m (.C (.I .i64) (.I .i64))])],[]⟩)]⟩],[(11,⟨[[],[],[],[],[],[],[],[],[.bx 7 1],[],[.sl 7 0]],[(false,[]),(false,[]),(false,[]),(false,[]),(false,[]),(false,[]),(false,[]),(true,[]),(true,[]),(false,[]),(false,[])]⟩)]⟩)]
def sB:KG:=⟨TT,EQS,[dv],[]⟩
def iF:aE [yD1,(false,.I .i64),(false,.I .i64)]→Option (OutK.val (.data true [yD1])):=ce sB DA UB 20 0 [yD1,(false,.I .i64),(false,.I .i64)] (.data true [yD1])
def lY:aF:=⟨20,[yD1,(false,.I .i64),(false,.I .i64)],.data true [yD1],iF,3⟩
def Bs:bQ:= [(22,⟨[⟨false,4,0,[1,2,4,5],⟨[(6,false,[.d true (.I .i64)])],[(5,[.d true (.I .i64),.m (.C (.I .i64) (.I .i64))])],[]⟩,[(.exit 0,⟨[],[(5,[.d true (.I .i64),.m (.C (.I .i64) (.I .i64))])],[]⟩)]⟩],[(7,⟨[[],[],[],[],[],[],[],[],[.bx 5 1],[],[.sl 5 0]],[(false,[]),(false,[]),(false,[]),(false,[]),(false,[]),(false,[]),(false,[]),(true,[]),(true,[]),(false,[]),(false,[])]⟩)]⟩)]
def pK:KG:=⟨TT,EQS,[dv],[]⟩
def gv:aE [yD1,(false,.I .i64)]→Option (OutK.val (.data true [yD1])):=ce pK Bs UC 22 0 [yD1,(false,.I .i64)] (.data true [yD1])
def kM:aF:=⟨22,[yD1,(false,.I .i64)],.data true [yD1],gv,3⟩
def vz:bQ:= [(25,⟨[⟨false,4,0,[1],⟨[(3,false,[.m (.I .i64)]),(4,false,[.d true (.I .i64)])],[],[]⟩,[(.exit 0,⟨[(3,false,[.m (.I .i64)])],[],[]⟩)]⟩],[]⟩)]
def lZ:KG:=⟨TT,EQS,[dv],[]⟩
def eN:aE [yD1]→Option (OutK.val (.mown (.I .i64))):=ce lZ vz UF 25 0 [yD1] (.mown (.I .i64))
def iQ:aF:=⟨25,[yD1],.mown (.I .i64),eN,3⟩
def yp:bQ:= [(27,⟨[⟨false,4,0,[1,2,3],⟨[(4,false,[.d true (.I .i64)])],[(3,[.d true (.I .i64),.m (.C (.I .i64) (.I .i64))])],[]⟩,[(.exit 0,⟨[],[(3,[.d true (.I .i64),.m (.C (.I .i64) (.I .i64))])],[]⟩)]⟩],[(6,⟨[[],[],[],[],[],[],[],[],[],[],[],[],[],[],[],[],[.bx 3 1],[],[.sl 3 0]],[(false,[]),(false,[]),(false,[]),(false,[]),(false,[]),(false,[]),(false,[]),(false,[]),(false,[]),(false,[]),(false,[]),(false,[]),(false,[]),(false,[]),(false,[]),(true,[]),(true,[]),(false,[]),(false,[])]⟩)]⟩)]
def ny:KG:=⟨TT,EQS,[dv],[]⟩
def fJ:aE [yD1]→Option (OutK.val (.data true [yD1])):=ce ny yp UH 27 0 [yD1] (.data true [yD1])
def jM:aF:=⟨27,[yD1],.data true [yD1],fJ,3⟩
def Bt:bQ:= [(29,⟨[⟨false,7,0,[1,2,3,6,7],⟨[(8,false,[.d true (.I .i64)])],[(7,[.d true (.I .i64),.m (.C (.I .i64) (.I .i64))])],[]⟩,[(.exit 0,⟨[],[(7,[.d true (.I .i64),.m (.C (.I .i64) (.I .i64))])],[]⟩)]⟩],[(10,⟨[[],[],[],[],[],[],[],[],[],[],[],[],[],[],[],[],[],[],[.bx 7 1],[],[.sl 7 0]],[(false,[]),(false,[]),(false,[]),(false,[]),(false,[]),(false,[]),(false,[]),(false,[]),(false,[]),(false,[]),(false,[]),(false,[]),(false,[]),(false,[]),(false,[]),(false,[]),(false,[]),(true,[]),(true,[]),(false,[]),(false,[])]⟩)]⟩)]
def pL:KG:=⟨TT,EQS,[dv],[]⟩
def gw:aE [yD1,(false,.I .i64),(false,.I .i64)]→Option (OutK.val (.data true [yD1])):=ce pL Bt UJ 29 0 [yD1,(false,.I .i64),(false,.I .i64)] (.data true [yD1])
def kP:aF:=⟨29,[yD1,(false,.I .i64),(false,.I .i64)],.data true [yD1],gw,3⟩
def Bu:bQ:= [(32,⟨[⟨false,4,0,[1,4,5],⟨[(6,false,[.m (.C (.I .i64) (.I .i64))]),(7,false,[.d true (.I .i64)])],[],[]⟩,[(.exit 0,⟨[(6,false,[.m (.C (.I .i64) (.I .i64))])],[],[]⟩)]⟩],[(7,⟨[[],[],[],[],[],[],[],[],[],[],[],[],[],[],[],[.sl 6 0],[]],[(false,[]),(false,[]),(false,[]),(false,[]),(false,[]),(false,[]),(false,[]),(false,[]),(false,[]),(false,[]),(false,[]),(false,[]),(false,[]),(false,[]),(true,[]),(true,[]),(false,[])]⟩)]⟩)]
def pM:KG:=⟨TT,EQS,[oh],[]⟩
def fB:aE [(false,.I .u8),yD3]→Option (OutK.val (.data true [yD1])):=ce pM Bu UK 32 0 [(false,.I .u8),yD3] (.data true [yD1])
def kQ:aF:=⟨32,[(false,.I .u8),yD3],.data true [yD1],fB,5⟩
def pN:bQ:= [(6,⟨[⟨false,7,0,[5,7,8,9],⟨[(10,false,[.d true (.I .i64)])],[],[]⟩,[(.exit 0,⟨[],[],[]⟩),(.ret,⟨[(6,false,[.d true .B])],[],[]⟩)]⟩,⟨true,3,5,[5,7],⟨[(8,false,[.d true (.I .i64)])],[],[]⟩,[(.normal,⟨[(8,false,[.d true (.I .i64)])],[],[]⟩)]⟩],[]⟩)]
def jA:KG:=⟨TT,EQS,[oe,rq,jw,jz,dU,jv,kQ,kL],[]⟩
def dL:aE [(false,.I .u8),yD3,yD5]→Option (OutK.val (.data true [(false,.B)])):=ce jA pN fi6 6 0 [(false,.I .u8),yD3,yD5] (.data true [(false,.B)])
def jB:aF:=⟨6,[(false,.I .u8),yD3,yD5],.data true [(false,.B)],dL,9⟩
end K
end Ev
end
noncomputable section
namespace Ev
namespace K
open Go Go.RowKit
set_option maxRecDepth 100000
set_option maxHeartbeats 1000000
theorem vA:GOk lu E1 0:=gok aO bA aV trivial trivial
theorem nz:af E1 iw:=aD vA (by kernel_rfl) VO (by kernel_rfl) rfl
theorem tM:GOk jU E1 1:=gok aO bA aV ⟨⟨by decide,nz⟩,trivial⟩ trivial
theorem iR:af E1 dU:=aD tM (by kernel_rfl) VA (by kernel_rfl) rfl
theorem vB:GOk lv E1 2:=gok aO bA aV ⟨⟨by decide,iR⟩,trivial⟩ trivial
theorem dQ:af E1 dH:=aD vB (by kernel_rfl) VS (by kernel_rfl) rfl
theorem vC:GOk lw E1 0:=gok aO bA aV trivial ⟨⟨Wb,rfl⟩,⟨⟨Wc,rfl⟩,trivial⟩⟩
theorem nA:af E1 iy:=aD vC (by kernel_rfl) VT (by kernel_rfl) rfl
theorem Bv:GOk vq E1 0:=gok aO bA aV trivial trivial
theorem sC:af E1 og:=aD Bv (by kernel_rfl) VP (by kernel_rfl) rfl
theorem tN:GOk nl E1 0:=gok aO bA aV trivial trivial
theorem vD:af E1 nm:=aD tN (by kernel_rfl) VX (by kernel_rfl) rfl
theorem Bw:GOk vr E1 0:=gok aO bA aV trivial trivial
theorem DB:af E1 vt:=aD Bw (by kernel_rfl) VY (by kernel_rfl) rfl
theorem pO:GOk ly E1 0:=gok aO bA aV trivial trivial
theorem ru:af E1 lz:=aD pO (by kernel_rfl) Wd (by kernel_rfl) rfl
theorem tO:GOk np E1 0:=gok aO bA aV trivial trivial
theorem vE:af E1 nq:=aD tO (by kernel_rfl) We (by kernel_rfl) rfl
theorem yq:GOk ss E1 0:=gok aO bA aV trivial trivial
theorem Bx:af E1 su:=aD yq (by kernel_rfl) Wf (by kernel_rfl) rfl
theorem yr:GOk sv E1 1:=gok aO bA aV ⟨⟨by decide,ru⟩,⟨⟨by decide,vE⟩,⟨⟨by decide,Bx⟩,trivial⟩⟩⟩ trivial
theorem By:af E1 sw:=aD yr (by kernel_rfl) VZ (by kernel_rfl) rfl
theorem rx:GOk lU E1 0:=gok aO bA aV trivial trivial
theorem tP:af E1 lV:=aD rx (by kernel_rfl) Wa (by kernel_rfl) rfl
theorem pP:GOk lA E1 2:=gok aO bA aV ⟨⟨by decide,sC⟩,⟨⟨by decide,vD⟩,⟨⟨by decide,DB⟩,⟨⟨by decide,By⟩,⟨⟨by decide,tP⟩,trivial⟩⟩⟩⟩⟩ trivial
theorem ry:af E1 lB:=aD pP (by kernel_rfl) VQ (by kernel_rfl) rfl
theorem Bz:GOk vw E1 3:=gok aO bA aV ⟨⟨by decide,sC⟩,⟨⟨by decide,ry⟩,trivial⟩⟩ trivial
theorem sD:af E1 oh:=aD Bz (by kernel_rfl) fn9 (by kernel_rfl) rfl
theorem yu:GOk sx E1 7:=gok aO bA aV ⟨⟨by decide,dQ⟩,⟨⟨by decide,nA⟩,trivial⟩⟩ trivial
theorem pQ:af E1 jw:=aD yu (by kernel_rfl) Vy (by kernel_rfl) rfl
theorem tQ:GOk nr E1 0:=gok aO bA aV trivial trivial
theorem ma:af E1 ns:=aD tQ (by kernel_rfl) VV (by kernel_rfl) rfl
theorem vF:GOk pA E1 7:=gok aO bA aV ⟨⟨by decide,dQ⟩,⟨⟨by decide,nA⟩,⟨⟨by decide,ma⟩,trivial⟩⟩⟩ trivial
theorem nB:af E1 io:=aD vF (by kernel_rfl) VK (by kernel_rfl) rfl
theorem mY:GOk jx E1 0:=gok aO bA aV trivial trivial
theorem ol:af E1 jy:=aD mY (by kernel_rfl) VR (by kernel_rfl) rfl
theorem vG:GOk pD E1 1:=gok aO bA aV ⟨⟨by decide,ol⟩,trivial⟩ trivial
theorem nC:af E1 iq:=aD vG (by kernel_rfl) Vt (by kernel_rfl) rfl
theorem rz:GOk lW E1 3:=gok aO bA aV ⟨⟨by decide,dQ⟩,trivial⟩ trivial
theorem tR:af E1 iP:=aD rz (by kernel_rfl) VG (by kernel_rfl) rfl
theorem om:GOk kf E1 0:=gok aO bA aV trivial trivial
theorem pR:af E1 gr:=aD om (by kernel_rfl) VF (by kernel_rfl) rfl
theorem tS:GOk nu E1 3:=gok aO bA aV ⟨⟨by decide,dQ⟩,trivial⟩ trivial
theorem vH:af E1 jL:=aD tS (by kernel_rfl) VI (by kernel_rfl) rfl
theorem vI:GOk pE E1 1:=gok aO bA aV ⟨⟨by decide,nz⟩,trivial⟩ trivial
theorem yv:af E1 pF:=aD vI (by kernel_rfl) Vu (by kernel_rfl) rfl
theorem fC:GOk cM E1 0:=gok aO bA aV trivial trivial
theorem fO:af E1 cN:=aD fC (by kernel_rfl) VW (by kernel_rfl) rfl
theorem vJ:GOk pG E1 3:=gok aO bA aV ⟨⟨by decide,dQ⟩,⟨⟨by decide,fO⟩,trivial⟩⟩ trivial
theorem nD:af E1 kL:=aD vJ (by kernel_rfl) VN (by kernel_rfl) rfl
theorem vK:GOk pH E1 0:=gok aO bA aV trivial trivial
theorem yw:af E1 pI:=aD vK (by kernel_rfl) Vv (by kernel_rfl) rfl
theorem pS:GOk lC E1 4:=gok aO bA aV ⟨⟨by decide,sr⟩,⟨⟨by decide,sD⟩,⟨⟨by decide,Bl⟩,⟨⟨by decide,nC⟩,⟨⟨by decide,yv⟩,⟨⟨by decide,yw⟩,trivial⟩⟩⟩⟩⟩⟩ trivial
theorem rA:af E1 lD:=aD pS (by kernel_rfl) fn3 (by kernel_rfl) rfl
theorem yx:GOk sy E1 0:=gok aO bA aV trivial trivial
theorem BA:af E1 lX:=aD yx (by kernel_rfl) Vx (by kernel_rfl) rfl
theorem tT:GOk nv E1 0:=gok aO bA aV trivial trivial
theorem mb:af E1 gI:=aD tT (by kernel_rfl) VC (by kernel_rfl) rfl
theorem vL:GOk pJ E1 1:=gok aO bA aV ⟨⟨by decide,mb⟩,trivial⟩ trivial
theorem dR:af E1 dv:=aD vL (by kernel_rfl) VU (by kernel_rfl) rfl
theorem yz:GOk sA E1 2:=gok aO bA aV ⟨⟨by decide,dR⟩,trivial⟩ trivial
theorem pT:af E1 jz:=aD yz (by kernel_rfl) Vz (by kernel_rfl) rfl
theorem yA:GOk sB E1 2:=gok aO bA aV ⟨⟨by decide,dR⟩,trivial⟩ trivial
theorem BB:af E1 lY:=aD yA (by kernel_rfl) VD (by kernel_rfl) rfl
theorem vM:GOk pK E1 2:=gok aO bA aV ⟨⟨by decide,dR⟩,trivial⟩ trivial
theorem yB:af E1 kM:=aD vM (by kernel_rfl) VE (by kernel_rfl) rfl
theorem rB:GOk lZ E1 2:=gok aO bA aV ⟨⟨by decide,dR⟩,trivial⟩ trivial
theorem tU:af E1 iQ:=aD rB (by kernel_rfl) VH (by kernel_rfl) rfl
theorem tV:GOk ny E1 2:=gok aO bA aV ⟨⟨by decide,dR⟩,trivial⟩ trivial
theorem vN:af E1 jM:=aD tV (by kernel_rfl) VJ (by kernel_rfl) rfl
theorem vO:GOk pL E1 2:=gok aO bA aV ⟨⟨by decide,dR⟩,trivial⟩ trivial
theorem yD:af E1 kP:=aD vO (by kernel_rfl) VL (by kernel_rfl) rfl
theorem vP:GOk pM E1 4:=gok aO bA aV ⟨⟨by decide,sD⟩,trivial⟩ trivial
theorem nF:af E1 kQ:=aD vP (by kernel_rfl) VM (by kernel_rfl) rfl
theorem mZ:GOk jA E1 8:=gok aO bA aV ⟨⟨by decide,sr⟩,⟨⟨by decide,Bl⟩,⟨⟨by decide,pQ⟩,⟨⟨by decide,pT⟩,⟨⟨by decide,iR⟩,⟨⟨by decide,pz⟩,⟨⟨by decide,nF⟩,⟨⟨by decide,nD⟩,trivial⟩⟩⟩⟩⟩⟩⟩⟩ trivial
theorem oo:af E1 jB:=aD mZ (by kernel_rfl) fn6 (by kernel_rfl) rfl
end K
end Ev
end
noncomputable section
namespace Ev
namespace L2
open Go
set_option maxRecDepth 100000
set_option maxHeartbeats 1000000
attribute [local irreducible] wS StL TnL WpL ie
theorem Rh:K.E1.fn=Ec Try.prog:=KQ _ _
theorem Pi:K.E1.ti 23=some (⟨.slice 30,[.slice none 0 0],1,24⟩:TI):=by kernel_rfl
theorem IN:K.E1.ti 25=some (⟨.struct (eS Try.prog 25),[.int .i64 0,.slice none 0 0],2,32⟩:TI):=by kernel_rfl
theorem Wg:K.E1.ti 47=some (⟨.slice 25,[.slice none 0 0],1,24⟩:TI):=by kernel_rfl
theorem Pj:lK (au Try.prog) (⟨.struct (eS Try.prog 25),[.int .i64 0,.slice none 0 0],2,32⟩:TI)=some fun i=>([(0,1),(1,1)]:List (Nat×Nat))[i]? :=by kernel_rfl
theorem sz3:fE (au Try.prog) 3=some (1,false):=by kernel_rfl
theorem BC:fE (au Try.prog) 23=some (1,false):=by kernel_rfl
theorem Pk:cU (au Try.prog) 23=some 2:=by kernel_rfl
theorem rC:fE (au Try.prog) 25=some (2,true):=by kernel_rfl
theorem fD:fieldAt (au Try.prog) 25 0=some (0,1,false):=by kernel_rfl
theorem kS:fieldAt (au Try.prog) 25 1=some (1,1,false):=by kernel_rfl
theorem el47:cU (au Try.prog) 47=some 2:=by kernel_rfl
def r29(x:Int×Int):List T:= [iT .i64 x.1,iT .i64 x.2]
def r24(x:Int×(Sl (Int×Int))):List T:= [iT .i64 x.1,Sl.t r29 x.2]
def spvec_sure(x0:Int×(Sl (Int×Int))):Option (Int×(Sl (Int×Int))):=K.spvec_sure (x0)
theorem BD(m:Nat){x0:Int×(Sl (Int×Int))}{out:Int×(Sl (Int×Int))}(h:spvec_sure x0=some out):Ep K.E1 (m+3) 47 [.agg (r24 x0)] [.agg (r24 out)]:=K.dQ m (x0) out h
def spvec_moved(x0:Sl (Int×Int))(x1:Int):Option (List (Int×Int)):=K.spvec_moved (x0,x1)
theorem jN(m:Nat){x0:Sl (Int×Int)}{x1:Int}{out:List (Int×Int)}(h:spvec_moved x0 x1=some out):RunsP K.E1 (m+1) 53 [.one (Sl.t r29 x0),.one (iT .i64 x1)] (.own,[.one (.s true 2 ((out).map r29))]):=K.ma m (x0,x1) out h
def spvec_Glue_b1(s1:Sl (Int×(Sl (Int×Int))))(a:Int×Int×(List (Int×Int))):Option ((Int×Int×(List (Int×Int)))⊕((Int×(List (Int×Int)))⊕((Int×(Sl (Int×Int)))×Int))):=
 match a with
 |(n76,n77,l78)=>(if n76<((s1.l.length:Nat):Int)then((atS 2 s1 n76).bind fun(n83,s84)=>((spvec_sure (n83,s84)).bind fun(n87,s88)=>((spvec_moved s88 n77).bind fun s96=>(match s96 with| []=>(match l78 with| []=>(if(IntKind.i64.wrap (n77+n87))>4096 then some (.inr (.inr ((0,(⟨false,0,[]⟩:Sl (Int×Int))),5)))else some (.inl ((IntKind.i64.wrap (n76+1)),(IntKind.i64.wrap (n77+n87)),([]:List (Int×Int)))))|y101::t102=>((app (y101::t102) ([]:List (Int×Int))).bind fun _=>(if(IntKind.i64.wrap (n77+n87))>4096 then some (.inr (.inr ((0,(⟨false,0,[]⟩:Sl (Int×Int))),5)))else some (.inl ((IntKind.i64.wrap (n76+1)),(IntKind.i64.wrap (n77+n87)),((y101::t102)++([]:List (Int×Int))))))))|y97::t98=>((app l78 (y97::t98)).bind fun _=>(if(IntKind.i64.wrap (n77+n87))>4096 then some (.inr (.inr ((0,(⟨false,0,[]⟩:Sl (Int×Int))),5)))else some (.inl ((IntKind.i64.wrap (n76+1)),(IntKind.i64.wrap (n77+n87)),(l78++(y97::t98))))))))))else some (.inr (.inl (n77,l78))))
def spvec_Glue(s1:Sl (Int×(Sl (Int×Int)))):Option ((Int×(Sl (Int×Int)))×Int):=
 ((aM (spvec_Glue_b1 s1) (0,0,([]:List (Int×Int)))).bind (Sum.elim (fun⟨n115,l116⟩=>some ((n115,(mo 2 l116)),0)) (fun u=>some u)))
theorem spvec_Glue_r(m:Nat){s1:Sl (Int×(Sl (Int×Int)))}{out:(Int×(Sl (Int×Int)))×Int}(h:spvec_Glue s1=some out):RunsP K.E1 (m+4) 30 [.one (Sl.t r24 s1)] (.fresh,[.agg (r24 out.1),.one (iT .i64 out.2)]):=by
 refine Wp rfl (by rw [Rh];exact show Ec Try.prog 30=_ by unfold Ec;rw [Try.func30];unfold Try.f30;rfl) rfl ?_;dsimp only;unfold spvec_Glue at h;refine fc ?_;refine gk ?_;refine Ga rfl rfl rfl (uz IN (row:= [iC .i64 0,.p true (Sl.t r29 (⟨false,0,[]⟩:Sl (Int×Int)))]) rfl rfl) (fun k2=> ?_);refine aA rfl rfl rfl (ky (v:= .one (iC .i64 0)) rfl) ?_;refine cF ?_;refine cV ?_;refine fc ?_;refine gk ?_;refine Ga rfl rfl rfl (uz IN (row:= [iC .i64 0,.p true (Sl.t r29 (⟨false,0,[]⟩:Sl (Int×Int)))]) rfl rfl) (fun k3=> ?_);refine cF ?_;refine cV ?_;refine fc ?_;refine fc ?_;refine gk ?_;refine aA rfl rfl rfl (rR (v:= .one (.p false (Sl.t r24 s1))) rfl) ?_;refine aA rfl rfl rfl (PL rfl Wg rfl rfl rfl rfl) ?_;refine aA rfl rfl rfl (rR (v:= .one (iC .i64 0)) rfl) ?_;refine cF ?_;refine cV ?_;refine Hv ?_;refine Qb (α:=Int×Int) r29 2 ?_
 let S1:(Int×Int×(List (Int×Int)))→Nat→(Nat→D)→Nat→D:=fun a kt g=>ups g [(2,.one (.ptr k2 0 0)),(4,.one (.ptr k3 0 0)),(7,.one (.p false (Sl.t r24 s1))),(8,.one (iC .i64 ((s1.l.length:Nat):Int))),(9,.one (iC .i64 a.1))]
 let SL1:(Int×Int×(List (Int×Int)))→Nat→BL:=fun a kt=>([[(k2,2,[[iC .i64 0,.p true (Sl.t r29 (⟨false,0,[]⟩:Sl (Int×Int)))]])],[(k3,2,[[iC .i64 a.2.1,moC a.2.2 kt]])],moL r29 2 a.2.2 kt]:BL)
 let G1:((Int×(Sl (Int×Int)))×Int)→Ex→St→Prop:=fun u=>wN K.E1 [.cell 2 25,.tmp 3] (.fresh,[.agg (r24 u.1),.one (iT .i64 u.2)])
 let Sx1:(Int×(List (Int×Int)))→Nat→(Nat→D)→Nat→D:=fun a kt g=>ups g [(2,.one (.ptr k2 0 0)),(4,.one (.ptr k3 0 0))]
 let SLx1:(Int×(List (Int×Int)))→Nat→BL:=fun a kt=>([[(k2,2,[[iC .i64 0,.p true (Sl.t r29 (⟨false,0,[]⟩:Sl (Int×Int)))]])],[(k3,2,[[iC .i64 a.1,moC a.2 kt]])],moL r29 2 a.2 kt]:BL)
 let J1:((Int×(List (Int×Int)))⊕((Int×(Sl (Int×Int)))×Int))→Ex→St→Prop:=JX 36 0 Sx1 SLx1 G1
 refine Nn (spvec_Glue_b1 s1) S1 SL1 J1 Nm (0,0,([]:List (Int×Int))) h 1074 (kw ⟨rfl,rfl,rfl,rfl,rfl,trivial⟩) [2,1,0] (by decide) rfl ?_ ?_
 ·rintro⟨n76,n77,l78⟩ k79 g out h;change spvec_Glue_b1 s1 (n76,n77,l78)=some out at h;unfold spvec_Glue_b1 at h;refine fc ?_;refine gk ?_;by_cases c80:n76<((s1.l.length:Nat):Int)
  ·replace h:=ifT c80 h;refine aA rfl rfl rfl (cG rfl rfl (Ns _ _ _ _ _ c80) rfl) ?_;refine cF ?_;refine cV ?_;refine fc ?_;refine ux rfl ?_;refine Cl ?_;refine cV ?_;refine fc ?_;refine Hv ?_;refine fc ?_;refine gk ?_;obtain⟨⟨n83,s84⟩,h82,h⟩:=El h;obtain⟨h82a,h82b,h82⟩:=Em h82;refine aA rfl rfl rfl (Oh rfl rfl h82a h82 (el47.trans (congrArg some h82b.symm))) ?_;refine aA rfl rfl rfl (Hy (v:= .agg [iC .i64 n83,.p false (Sl.t r29 s84)]) rfl rC (uC h82) rfl rfl) ?_;refine Ga rfl rfl rfl (uz IN (row:= [iC .i64 0,.p true (Sl.t r29 (⟨false,0,[]⟩:Sl (Int×Int)))]) rfl rfl) (fun k85=> ?_);refine qq rfl rfl (dC (es':= [[iC .i64 n83,.p false (Sl.t r29 s84)]]) 0 rfl rfl rfl rC rfl rfl rfl rfl rfl) rfl ?_;refine cF ?_;refine cV ?_;refine fc ?_;refine gk ?_;refine aA rfl rfl rfl (bJ (v:= .agg [iC .i64 n83,.p false (Sl.t r29 s84)]) 0 rfl rC rfl rfl rfl rfl) ?_;obtain⟨⟨n87,s88⟩,h86,h⟩:=El h;refine Nl rfl rfl rfl (Nr (v:=fun fr89=> .agg [iC .i64 n87,.p fr89 (Sl.t r29 s88)]) (args:= [.agg [iC .i64 n83,.p false (Sl.t r29 s84)]]) (BD (m+0) h86) rfl rfl (dD (wV (gM ug (gM Gj wU))) mg) rfl rfl (fun fr=>rfl)) (fun fr89=> ?_);refine qq rfl rfl (dC (es':= [[iC .i64 n87,.p fr89 (Sl.t r29 s88)]]) 0 rfl rfl rfl rC rfl rfl rfl rfl rfl) rfl ?_;refine cF ?_;refine cV ?_;refine fc ?_;obtain⟨s96,h95,h⟩:=El h;rcases s96 with _|⟨y97,t98⟩
   ·dsimp only at h;rcases l78 with _|⟨y101,t102⟩
    ·dsimp only at h;refine Gd (L2:=([[(k85,2,[[iC .i64 n87,.p fr89 (Sl.t r29 s88)]])],[(k2,2,[[iC .i64 0,.p true (Sl.t r29 (⟨false,0,[]⟩:Sl (Int×Int)))]])],[(k3,2,[[iC .i64 n77,moC ([]:List (Int×Int)) k79]])],moL r29 2 ([]:List (Int×Int)) k79]:BL)) [0,1,2,3] (by decide) rfl ?_;refine Gc 10 rfl [[],[],[],[],[],[],[],[],[],[k3]] [(false,[]),(false,[]),(false,[]),(false,[]),(false,[]),(false,[]),(true,[]),(false,[]),(false,[]),(false,[])] [[2,3,4,5,6],[2,3,4,5,6],[0,1,4,5],[0,1,4,5],[0,1,2,3],[0,1,2,3],[0,1],[],[],[]] (by kernel_rfl) (by kernel_rfl) (by kernel_rfl) ?_ (fun bb103 hlt hnd=> ?_)
     ·intro bb103 hlt hnd;exact⟨⟨djE,⟨djE,⟨djE,⟨djE,⟨djE,⟨djE,⟨djE,⟨djE,⟨djE,⟨djN,trivial⟩⟩⟩⟩⟩⟩⟩⟩⟩⟩,(bu ck (bu ck (bu ck (bu ck (bu ck (bu ck (bu ck (bu ck (bu ck (bu (wZ (bw hlt 2 rfl) ck) HG))))))))))⟩
     refine cK rfl rfl rfl [] (by decide) rfl hmn rfl (aW rfl kS rfl) ?_;refine cK rfl rfl rfl [2] (by decide) rfl (hmc (wY (dp (bw hlt 2 rfl)) Cu) hmn) rfl (bJ (v:= .one (moC ([]:List (Int×Int)) k79)) 0 rfl BC rfl rfl rfl rfl) ?_;refine cK rfl rfl rfl [] (by decide) rfl (hm0 rfl) rfl (aW rfl kS rfl) ?_;refine cK rfl rfl rfl [0] (by decide) rfl (hm0 rfl) rfl (bJ (v:= .one (.p fr89 (Sl.t r29 s88))) 0 rfl BC rfl rfl rfl rfl) ?_;refine cK rfl rfl rfl [] (by decide) rfl (hm0 rfl) rfl (aW rfl fD rfl) ?_;refine cK rfl rfl rfl [2] (by decide) rfl (hm0 rfl) rfl (bJ (v:= .one (iC .i64 n77)) 0 rfl sz3 rfl rfl rfl rfl) ?_;refine Ck rfl rfl rfl [] (by decide) rfl (hm0 rfl) rfl rfl (hkc (dp (bw hlt 0 rfl)) (hkc (dp (bw hlt 1 rfl)) (hkc (dp (bw hlt 2 rfl)) (hkM (.inl rfl) hkn)))) (Co (args:= [.one (.p fr89 (Sl.t r29 s88)),.one (iC .i64 n77)]) (jN (m+2) h95) rfl rfl (dD (jS Gj) (dD (jS ug) mg)) rfl) ?_;refine cK rfl rfl rfl [4,0] (by decide) rfl (hm0 rfl) rfl (PO rfl rfl (qt (l:=([]:List (Int×Int))) 1 rfl) Pk Pi rfl rfl rfl rfl rfl) ?_;refine cK rfl rfl rfl [] (by decide) rfl (hm0 rfl) rfl (aW rfl kS rfl) ?_;refine Li rfl rfl [3] (by decide) rfl (hm0 rfl) rfl (dC (es':= [[iC .i64 n77,moC ([]:List (Int×Int)) k79]]) 0 rfl rfl rfl BC rfl rfl rfl rfl rfl) (q:=3) rfl rfl ?_;refine Gb ?_;refine cV ?_;refine fc ?_;refine gk ?_;refine aA rfl rfl rfl (aW rfl fD rfl) ?_;refine aA rfl rfl rfl (bJ (v:= .one (iC .i64 n77)) 3 rfl sz3 rfl rfl rfl rfl) ?_;refine aA rfl rfl rfl (aW rfl fD rfl) ?_;refine aA rfl rfl rfl (bJ (v:= .one (iC .i64 n87)) 1 rfl sz3 rfl rfl rfl rfl) ?_;refine aA rfl rfl rfl (cG rfl rfl (wO _ _ _ _ _ _ _) rfl) ?_;refine aA rfl rfl rfl (aW rfl fD rfl) ?_;refine qq rfl rfl (dC (es':= [[iC .i64 (IntKind.i64.wrap (n77+n87)),moC ([]:List (Int×Int)) k79]]) 3 rfl rfl rfl sz3 rfl rfl rfl rfl rfl) rfl ?_;refine cF ?_;refine cV ?_;refine fc ?_;refine gk ?_;refine aA rfl rfl rfl (aW rfl fD rfl) ?_;refine aA rfl rfl rfl (bJ (v:= .one (iC .i64 (IntKind.i64.wrap (n77+n87)))) 3 rfl sz3 rfl rfl rfl rfl) ?_;by_cases c106:(IntKind.i64.wrap (n77+n87))>4096
     ·replace h:=ifT c106 h;refine aA rfl rfl rfl (cG rfl rfl (Cq _ _ _ _ _ c106) rfl) ?_;refine cF ?_;refine cV ?_;refine ux rfl ?_;refine fc ?_;refine gk ?_;refine aA rfl rfl rfl (uB (cs:= [iC .i64 0,.p true (Sl.t r29 (⟨false,0,[]⟩:Sl (Int×Int)))]) IN rfl Pj rfl) ?_;refine qq rfl rfl (dC (es':= [[iC .i64 0,.p true (Sl.t r29 (⟨false,0,[]⟩:Sl (Int×Int)))]]) 2 rfl rfl rfl rC rfl rfl rfl rfl rfl) rfl ?_;refine aA rfl rfl rfl (ky (v:= .one (iC .i64 5)) rfl) ?_;refine cF ?_;refine cV ?_;refine Hu ?_;refine Gg ?_;refine Ge ?_;obtain rfl:=Option.some.inj h;exact Hw (PI (Cp (.inr rfl) (qu (d:= .agg [iC .i64 0,.p true (Sl.t r29 (⟨false,0,[]⟩:Sl (Int×Int)))]) 2 rfl rC rfl rfl rfl rfl (uE rfl uD)) (dD (wV (gM ug (gM Gj wU))) (dD (jS ug) mg)) (fun h hb=>uF) rfl rfl))
     ·replace h:=ifF c106 h;refine aA rfl rfl rfl (cG rfl rfl (Cr _ _ _ _ _ c106) rfl) ?_;refine cF ?_;refine cV ?_;refine uy rfl ?_;refine Cl ?_;refine Gf ?_;refine cV ?_;refine gk ?_;refine aA rfl rfl rfl (cG rfl rfl (wO _ _ _ _ _ _ _) rfl) ?_;refine aA rfl rfl rfl (rR (v:= .one (iC .i64 (IntKind.i64.wrap (n76+1)))) rfl) ?_;refine cF ?_;obtain rfl:=Option.some.inj h;exact Gh k79 (kw ⟨rfl,rfl,rfl,rfl,rfl,trivial⟩) [2,3,4] (by decide) rfl
    ·dsimp only at h;refine Gd (L2:=([[(k85,2,[[iC .i64 n87,.p fr89 (Sl.t r29 s88)]])],[(k2,2,[[iC .i64 0,.p true (Sl.t r29 (⟨false,0,[]⟩:Sl (Int×Int)))]])],[(k3,2,[[iC .i64 n77,.own k79 0 ((y101::t102)).length]])],[(k79,2,((y101::t102)).map (cv r29))]]:BL)) [0,1,2,3] (by decide) rfl ?_;refine Gc 10 rfl [[],[],[],[],[],[],[],[k79],[],[k3]] [(false,[]),(false,[]),(false,[]),(false,[]),(false,[]),(false,[]),(true,[]),(true,[]),(false,[]),(false,[])] [[2,3,4,5,6],[2,3,4,5,6],[0,1,4,5],[0,1,4,5],[0,1,2,3],[0,1,2,3],[0,1],[],[],[]] (by kernel_rfl) (by kernel_rfl) (by kernel_rfl) ?_ (fun bb107 hlt hnd=> ?_)
     ·intro bb107 hlt hnd;exact⟨⟨djE,⟨djE,⟨djE,⟨djE,⟨djE,⟨djE,⟨djE,⟨djN,⟨djE,⟨djN,trivial⟩⟩⟩⟩⟩⟩⟩⟩⟩⟩,(bu ck (bu ck (bu ck (bu ck (bu ck (bu ck (bu ck (bu (wZ (bw hlt 3 rfl) ck) (bu ck (bu (wZ (bw hlt 2 rfl) ck) HG))))))))))⟩
     refine cK rfl rfl rfl [] (by decide) rfl hmn rfl (aW rfl kS rfl) ?_;refine cK rfl rfl rfl [2] (by decide) rfl (hmc (wY (dp (bw hlt 2 rfl)) Cu) hmn) rfl (bJ (v:= .one (.own k79 0 ((y101::t102)).length)) 0 rfl BC rfl rfl rfl rfl) ?_;refine cK rfl rfl rfl [] (by decide) rfl (hm0 rfl) rfl (aW rfl kS rfl) ?_;refine cK rfl rfl rfl [0] (by decide) rfl (hm0 rfl) rfl (bJ (v:= .one (.p fr89 (Sl.t r29 s88))) 0 rfl BC rfl rfl rfl rfl) ?_;refine cK rfl rfl rfl [] (by decide) rfl (hm0 rfl) rfl (aW rfl fD rfl) ?_;refine cK rfl rfl rfl [2] (by decide) rfl (hm0 rfl) rfl (bJ (v:= .one (iC .i64 n77)) 0 rfl sz3 rfl rfl rfl rfl) ?_;refine Ck rfl rfl rfl [] (by decide) rfl (hm0 rfl) rfl rfl (hkc (dp (bw hlt 0 rfl)) (hkc (dp (bw hlt 1 rfl)) (hkc (dp (bw hlt 2 rfl)) (hkc (dp (bw hlt 3 rfl)) hkn)))) (Co (args:= [.one (.p fr89 (Sl.t r29 s88)),.one (iC .i64 n77)]) (jN (m+2) h95) rfl rfl (dD (jS Gj) (dD (jS ug) mg)) rfl) ?_;obtain⟨_,h109,h⟩:=El h;obtain⟨h109b,rfl⟩:=fe h109;refine Lj rfl rfl rfl [0,4] (by decide) rfl (hm0 rfl) rfl rfl (hkc (LC rfl) (hkc (dp (bw hlt 0 rfl)) (hkc (dp (bw hlt 1 rfl)) (hkc (dp (bw hlt 2 rfl)) (hkc (dp (bw hlt 3 rfl)) hkn))))) (Oj 1 rfl rfl (qt (l:=([]:List (Int×Int))) 0 rfl) rfl rfl h109 (fun y=>rfl) Pk Pi rfl rfl rfl rfl rfl) (q:=4) rfl rfl ?_;refine cK rfl rfl rfl [] (by decide) rfl (hm0 rfl) rfl (aW rfl kS rfl) ?_;refine Li rfl rfl [4] (by decide) rfl (hm0 rfl) rfl (dC (es':= [[iC .i64 n77,.own (bb107+7) 0 (((y101::t102)++([]:List (Int×Int)))).length]]) 0 rfl rfl rfl BC rfl rfl rfl rfl rfl) (q:=4) rfl rfl ?_;refine Lw 0 (s':=moL r29 2 ((y101::t102)++([]:List (Int×Int))) (bb107+7)) rfl rfl ?_;refine Lw 4 (s':= [(k3,2,[[iC .i64 n77,moC ((y101::t102)++([]:List (Int×Int))) (bb107+7)]])]) rfl rfl ?_;refine Gb ?_;refine cV ?_;refine fc ?_;refine gk ?_;refine aA rfl rfl rfl (aW rfl fD rfl) ?_;refine aA rfl rfl rfl (bJ (v:= .one (iC .i64 n77)) 4 rfl sz3 rfl rfl rfl rfl) ?_;refine aA rfl rfl rfl (aW rfl fD rfl) ?_;refine aA rfl rfl rfl (bJ (v:= .one (iC .i64 n87)) 2 rfl sz3 rfl rfl rfl rfl) ?_;refine aA rfl rfl rfl (cG rfl rfl (wO _ _ _ _ _ _ _) rfl) ?_;refine aA rfl rfl rfl (aW rfl fD rfl) ?_;refine qq rfl rfl (dC (es':= [[iC .i64 (IntKind.i64.wrap (n77+n87)),moC ((y101::t102)++([]:List (Int×Int))) (bb107+7)]]) 4 rfl rfl rfl sz3 rfl rfl rfl rfl rfl) rfl ?_;refine cF ?_;refine cV ?_;refine fc ?_;refine gk ?_;refine aA rfl rfl rfl (aW rfl fD rfl) ?_;refine aA rfl rfl rfl (bJ (v:= .one (iC .i64 (IntKind.i64.wrap (n77+n87)))) 4 rfl sz3 rfl rfl rfl rfl) ?_;by_cases c110:(IntKind.i64.wrap (n77+n87))>4096
     ·replace h:=ifT c110 h;refine aA rfl rfl rfl (cG rfl rfl (Cq _ _ _ _ _ c110) rfl) ?_;refine cF ?_;refine cV ?_;refine ux rfl ?_;refine fc ?_;refine gk ?_;refine aA rfl rfl rfl (uB (cs:= [iC .i64 0,.p true (Sl.t r29 (⟨false,0,[]⟩:Sl (Int×Int)))]) IN rfl Pj rfl) ?_;refine qq rfl rfl (dC (es':= [[iC .i64 0,.p true (Sl.t r29 (⟨false,0,[]⟩:Sl (Int×Int)))]]) 3 rfl rfl rfl rC rfl rfl rfl rfl rfl) rfl ?_;refine aA rfl rfl rfl (ky (v:= .one (iC .i64 5)) rfl) ?_;refine cF ?_;refine cV ?_;refine Hu ?_;refine Gg ?_;refine Ge ?_;obtain rfl:=Option.some.inj h;exact Hw (PI (Cp (.inr rfl) (qu (d:= .agg [iC .i64 0,.p true (Sl.t r29 (⟨false,0,[]⟩:Sl (Int×Int)))]) 3 rfl rC rfl rfl rfl rfl (uE rfl uD)) (dD (wV (gM ug (gM Gj wU))) (dD (jS ug) mg)) (fun h hb=>uF) rfl rfl))
     ·replace h:=ifF c110 h;refine aA rfl rfl rfl (cG rfl rfl (Cr _ _ _ _ _ c110) rfl) ?_;refine cF ?_;refine cV ?_;refine uy rfl ?_;refine Cl ?_;refine Gf ?_;refine cV ?_;refine gk ?_;refine aA rfl rfl rfl (cG rfl rfl (wO _ _ _ _ _ _ _) rfl) ?_;refine aA rfl rfl rfl (rR (v:= .one (iC .i64 (IntKind.i64.wrap (n76+1)))) rfl) ?_;refine cF ?_;obtain rfl:=Option.some.inj h;exact Gh (bb107+7) (kw ⟨rfl,rfl,rfl,rfl,rfl,trivial⟩) [3,4,0] (by decide) rfl
   ·dsimp only at h;refine Gd (L2:=([[(k85,2,[[iC .i64 n87,.p fr89 (Sl.t r29 s88)]])],[(k2,2,[[iC .i64 0,.p true (Sl.t r29 (⟨false,0,[]⟩:Sl (Int×Int)))]])],[(k3,2,[[iC .i64 n77,moC l78 k79]])],moL r29 2 l78 k79]:BL)) [0,1,2,3] (by decide) rfl ?_;refine Gc 10 rfl [[],[],[],[],[],[],[],moK l78 k79,[],[k3]] [(false,[]),(false,[]),(false,[]),(false,[]),(false,[]),(false,[]),(true,[]),(true,[]),(false,[]),(false,[])] [[2,3,4,5,6],[2,3,4,5,6],[0,1,4,5],[0,1,4,5],[0,1,2,3],[0,1,2,3],[0,1],[],[],[]] (by kernel_rfl) (by kernel_rfl) (by kernel_rfl) ?_ (fun bb111 hlt hnd=> ?_)
    ·intro bb111 hlt hnd;have e_k85:k85<bb111:=bw hlt 0 rfl;have e_k2:k2<bb111:=bw hlt 1 rfl;have e_k3:k3<bb111:=bw hlt 2 rfl;have e_k79:l78= []∨k79<bb111:=HE (r:=r29) (w:=2) hlt 3 rfl;have f_k79:=Lx e_k79;have d_k3_k85:k3≠k85:=wT hnd 2 0 rfl rfl rfl;have d_k3_k2:k3≠k2:=wT hnd 2 1 rfl rfl rfl;have d_k79_k85:k85 ∉ moK l78 k79:=mP (r:=r29) (w:=2) hnd 3 0 rfl rfl rfl;have g_k79_k85:=rT d_k79_k85;have d_k79_k2:k2 ∉ moK l78 k79:=mP (r:=r29) (w:=2) hnd 3 1 rfl rfl rfl;have g_k79_k2:=rT d_k79_k2;have d_k79_k3:k3 ∉ moK l78 k79:=mP (r:=r29) (w:=2) hnd 3 2 rfl rfl rfl;have g_k79_k3:=rT d_k79_k3;exact⟨(by first|(simp [DJ];done)|(simp [DJ];omega)|(simp [DJ];assumption)|(simp_all [DJ];done)|(simp_all [DJ];omega)),(by first|(simp [DJ];done)|(simp [DJ];omega)|(simp [DJ];assumption)|(simp_all [DJ];done)|(simp_all [DJ];omega))⟩
    have e_k85:k85<bb111:=bw hlt 0 rfl;have e_k2:k2<bb111:=bw hlt 1 rfl;have e_k3:k3<bb111:=bw hlt 2 rfl;have e_k79:l78= []∨k79<bb111:=HE (r:=r29) (w:=2) hlt 3 rfl;have f_k79:=Lx e_k79;have d_k3_k85:k3≠k85:=wT hnd 2 0 rfl rfl rfl;have d_k3_k2:k3≠k2:=wT hnd 2 1 rfl rfl rfl;have d_k79_k85:k85 ∉ moK l78 k79:=mP (r:=r29) (w:=2) hnd 3 0 rfl rfl rfl;have g_k79_k85:=rT d_k79_k85;have d_k79_k2:k2 ∉ moK l78 k79:=mP (r:=r29) (w:=2) hnd 3 1 rfl rfl rfl;have g_k79_k2:=rT d_k79_k2;have d_k79_k3:k3 ∉ moK l78 k79:=mP (r:=r29) (w:=2) hnd 3 2 rfl rfl rfl;have g_k79_k3:=rT d_k79_k3;refine cK rfl rfl rfl [] (by decide) rfl hmn rfl (aW rfl kS rfl) ?_;refine cK rfl rfl rfl [2] (by decide) rfl (hmc (wY (dp (bw hlt 2 rfl)) Cu) hmn) rfl (bJ (v:= .one (moC l78 k79)) 0 rfl BC rfl rfl rfl rfl) ?_;refine cK rfl rfl rfl [] (by decide) rfl (hm0 rfl) rfl (aW rfl kS rfl) ?_;refine cK rfl rfl rfl [0] (by decide) rfl (hm0 rfl) rfl (bJ (v:= .one (.p fr89 (Sl.t r29 s88))) 0 rfl BC rfl rfl rfl rfl) ?_;refine cK rfl rfl rfl [] (by decide) rfl (hm0 rfl) rfl (aW rfl fD rfl) ?_;refine cK rfl rfl rfl [2] (by decide) rfl (hm0 rfl) rfl (bJ (v:= .one (iC .i64 n77)) 0 rfl sz3 rfl rfl rfl rfl) ?_;refine Ck rfl rfl rfl [] (by decide) rfl (hm0 rfl) rfl rfl (hkc (dp (bw hlt 0 rfl)) (hkc (dp (bw hlt 1 rfl)) (hkc (dp (bw hlt 2 rfl)) (hkM (e_k79.imp id fun h=>by omega) hkn)))) (Co (args:= [.one (.p fr89 (Sl.t r29 s88)),.one (iC .i64 n77)]) (jN (m+2) h95) rfl rfl (dD (jS Gj) (dD (jS ug) mg)) rfl) ?_;obtain⟨_,h113,h⟩:=El h;obtain⟨h113b,rfl⟩:=fe h113;refine Nz (r:=r29) (l:=l78) 0 4 rfl rfl rfl rfl [4,0] (by decide) rfl (hm0 rfl) rfl rfl (hkc (LC rfl) (hkc (dp (bw hlt 0 rfl)) (hkc (dp (bw hlt 1 rfl)) (hkc (dp (bw hlt 2 rfl)) (hkM (e_k79.imp id fun h=>by omega) hkn))))) rfl rfl (qt (l:=(y97::t98)) 1 rfl) rfl rfl h113 (fun y=>rfl) Pk Pi rfl rfl rfl rfl rfl ?_;refine cK rfl rfl rfl [] (by decide) rfl (hm0 rfl) rfl (aW rfl kS rfl) ?_;refine Li rfl rfl [4] (by decide) rfl (hm0 rfl) rfl (dC (es':= [[iC .i64 n77,moC (l78++(y97::t98)) (bb111+7)]]) 0 rfl rfl rfl BC rfl rfl rfl rfl rfl) (q:=4) rfl rfl ?_;refine Gb ?_;refine cV ?_;refine fc ?_;refine gk ?_;refine aA rfl rfl rfl (aW rfl fD rfl) ?_;refine aA rfl rfl rfl (bJ (v:= .one (iC .i64 n77)) 4 rfl sz3 rfl rfl rfl rfl) ?_;refine aA rfl rfl rfl (aW rfl fD rfl) ?_;refine aA rfl rfl rfl (bJ (v:= .one (iC .i64 n87)) 2 rfl sz3 rfl rfl rfl rfl) ?_;refine aA rfl rfl rfl (cG rfl rfl (wO _ _ _ _ _ _ _) rfl) ?_;refine aA rfl rfl rfl (aW rfl fD rfl) ?_;refine qq rfl rfl (dC (es':= [[iC .i64 (IntKind.i64.wrap (n77+n87)),moC (l78++(y97::t98)) (bb111+7)]]) 4 rfl rfl rfl sz3 rfl rfl rfl rfl rfl) rfl ?_;refine cF ?_;refine cV ?_;refine fc ?_;refine gk ?_;refine aA rfl rfl rfl (aW rfl fD rfl) ?_;refine aA rfl rfl rfl (bJ (v:= .one (iC .i64 (IntKind.i64.wrap (n77+n87)))) 4 rfl sz3 rfl rfl rfl rfl) ?_;by_cases c114:(IntKind.i64.wrap (n77+n87))>4096
    ·replace h:=ifT c114 h;refine aA rfl rfl rfl (cG rfl rfl (Cq _ _ _ _ _ c114) rfl) ?_;refine cF ?_;refine cV ?_;refine ux rfl ?_;refine fc ?_;refine gk ?_;refine aA rfl rfl rfl (uB (cs:= [iC .i64 0,.p true (Sl.t r29 (⟨false,0,[]⟩:Sl (Int×Int)))]) IN rfl Pj rfl) ?_;refine qq rfl rfl (dC (es':= [[iC .i64 0,.p true (Sl.t r29 (⟨false,0,[]⟩:Sl (Int×Int)))]]) 3 rfl rfl rfl rC rfl rfl rfl rfl rfl) rfl ?_;refine aA rfl rfl rfl (ky (v:= .one (iC .i64 5)) rfl) ?_;refine cF ?_;refine cV ?_;refine Hu ?_;refine Gg ?_;refine Ge ?_;obtain rfl:=Option.some.inj h;exact Hw (PI (Cp (.inr rfl) (qu (d:= .agg [iC .i64 0,.p true (Sl.t r29 (⟨false,0,[]⟩:Sl (Int×Int)))]) 3 rfl rC rfl rfl rfl rfl (uE rfl uD)) (dD (wV (gM ug (gM Gj wU))) (dD (jS ug) mg)) (fun h hb=>uF) rfl rfl))
    ·replace h:=ifF c114 h;refine aA rfl rfl rfl (cG rfl rfl (Cr _ _ _ _ _ c114) rfl) ?_;refine cF ?_;refine cV ?_;refine uy rfl ?_;refine Cl ?_;refine Gf ?_;refine cV ?_;refine gk ?_;refine aA rfl rfl rfl (cG rfl rfl (wO _ _ _ _ _ _ _) rfl) ?_;refine aA rfl rfl rfl (rR (v:= .one (iC .i64 (IntKind.i64.wrap (n76+1)))) rfl) ?_;refine cF ?_;obtain rfl:=Option.some.inj h;exact Gh (bb111+7) (kw ⟨rfl,rfl,rfl,rfl,rfl,trivial⟩) [3,4,0] (by decide) rfl
  ·replace h:=ifF c80 h;refine aA rfl rfl rfl (cG rfl rfl (Nt _ _ _ _ _ c80) rfl) ?_;refine cF ?_;refine cV ?_;refine fc ?_;refine uy rfl ?_;refine PC ?_;refine PE ?_;obtain rfl:=Option.some.inj h;refine Hw ?_;exact(PH k79 (kw ⟨rfl,rfl,trivial⟩) [0,1,2] (by decide) rfl)
 ·rintro(⟨n115,l116⟩|u) h
  ·refine J_x (fun k117 g=> ?_);replace h:=RV h;refine PF ?_;refine cV ?_;refine fc ?_;refine gk ?_;refine aA rfl rfl rfl (bJ (v:= .agg [iC .i64 n115,moC l116 k117]) 1 rfl rC rfl rfl rfl rfl) ?_;refine qq rfl rfl (dC (es':= [[iC .i64 n115,moC l116 k117]]) 0 rfl rfl rfl rC rfl rfl rfl rfl rfl) rfl ?_;refine aA rfl rfl rfl (ky (v:= .one (iC .i64 0)) rfl) ?_;refine cF ?_;refine cV ?_;refine Hu ?_;obtain rfl:=Option.some.inj h;exact Cp (.inr rfl) (qu (d:= .agg [iC .i64 n115,moC l116 k117]) 0 rfl rC rfl rfl rfl rfl (uE rfl uD)) (dD (wV (gM ug (gM (Wr (r:=r29) 2 rfl (fun x h m=>rfl)) wU))) (dD (jS ug) mg)) (fun h hb=>uF) rfl rfl
  ·obtain rfl:=Option.some.inj (RX h);exact Wo (fun s hs=>hs)
end L2
namespace K
theorem DC{E:Env}{k:FuncId}{ins ts:List TyD}{f:aE ins→Option (aE ts)}{d:Nat}(h:∀(m:Nat) (a:aE ins) (out:aE ts),f a=some out→RunsP E (m+d) k (bp ins a) (.fresh,bp ts out)):af E ⟨k,ins,.data true ts,f,d⟩:=h
def spvec_Glue:aE [(false,.S (.C (.I .i64) (.S (.C (.I .i64) (.I .i64)))))]→Option (aE [(true,.C (.I .i64) (.S (.C (.I .i64) (.I .i64)))),(false,.I .i64)]):=fun a=>L2.spvec_Glue (a)
def pU:aF:=⟨30,[(false,.S (.C (.I .i64) (.S (.C (.I .i64) (.I .i64)))))],.data true [(true,.C (.I .i64) (.S (.C (.I .i64) (.I .i64)))),(false,.I .i64)],spvec_Glue,4⟩
theorem tW(m:Nat)(a:aE [(false,.S (.C (.I .i64) (.S (.C (.I .i64) (.I .i64)))))])(out:aE [(true,.C (.I .i64) (.S (.C (.I .i64) (.I .i64)))),(false,.I .i64)])(h:spvec_Glue a=some out):RunsP E1 (m+4) 30 (bp [(false,.S (.C (.I .i64) (.S (.C (.I .i64) (.I .i64)))))] a) (.fresh,bp [(true,.C (.I .i64) (.S (.C (.I .i64) (.I .i64)))),(false,.I .i64)] out):=L2.spvec_Glue_r (out:=out) m (show L2.spvec_Glue (a)=some out from h)
theorem yE:af E1 pU:=DC tW
end K
end Ev
end
noncomputable section
namespace Ev
namespace K
open Go Go.RowKit
set_option maxRecDepth 100000
set_option maxHeartbeats 1000000
def oq:bQ:= [(7,⟨[],[(3,⟨[[],[],[],[],[],[],[],[],[],[],[],[]],[(false,[]),(false,[]),(false,[]),(false,[]),(false,[]),(false,[]),(false,[]),(false,[]),(true,[]),(true,[]),(false,[8]),(false,[9])]⟩)]⟩)]
def iS:KG:=⟨TT,EQS,[rq,io,pU,kQ,kL],[]⟩
def cZ:aE [(false,.I .u8),(false,.S (.C (.I .i64) (.I .i64))),(true,.C (.I .u8) (.I .u8))]→Option (OutK.val (.data true [(false,.B)])):=ce iS oq fi7 7 0 [(false,.I .u8),(false,.S (.C (.I .i64) (.I .i64))),(true,.C (.I .u8) (.I .u8))] (.data true [(false,.B)])
def iU:aF:=⟨7,[(false,.I .u8),(false,.S (.C (.I .i64) (.I .i64))),(true,.C (.I .u8) (.I .u8))],.data true [(false,.B)],cZ,9⟩
theorem mc:GOk iS E1 8:=gok aO bA aV ⟨⟨by decide,Bl⟩,⟨⟨by decide,nB⟩,⟨⟨by decide,yE⟩,⟨⟨by decide,nF⟩,⟨⟨by decide,nD⟩,trivial⟩⟩⟩⟩⟩ trivial
theorem nb:af E1 iU:=aD mc (by kernel_rfl) fn7 (by kernel_rfl) rfl
end K
end Ev
end
end Go.Proofs.Ythkgcllekhnecaa
