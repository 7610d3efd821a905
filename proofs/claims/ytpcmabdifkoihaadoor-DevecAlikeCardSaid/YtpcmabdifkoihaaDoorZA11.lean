/- Texts of a claim, joined. -/
import Derived.Test.YtpcmabdifkoihaaDoorZA10
import Derived.Shelf.Spec.SlicesInsertGrow
import Derived.Deep.RegionHeld3
set_option linter.unusedVariables false
set_option linter.unusedSimpArgs false
namespace Go.Proofs.YtpcmabdifkoihaaDoor
noncomputable section
open Go.Shelf Go.RowKit Go.Lib Go.Sort
namespace Sm
namespace It
theorem oB(w:World)(ty:TypeId)(g o dLen dCap:Nat)(a:Addr)(sLen sCap:Nat)(cur:Array Value)(t:TypeId)(cs:List Value)
  (hg:w.heap[g]? =some (.cells cur t (0,0))) (hn:cs.length=Nat.min sLen dLen*2)
  (hsrc:∀j v,cs[j]? =some v->w.cell? (a.add j)=some v) (hfit:o+cs.length<=cur.size) (h1:∀v∈cs,v.oneCell'=true):
  (Builtin.copy_ #[22,22] ty #[.slice (some ⟨g,o,none⟩) dLen dCap,.slice (some a) sLen sCap]).run Tryd.prog w=
   .ok (goInt (Nat.min sLen dLen)) (w.setRow g (cur.toList.take o++cs++cur.toList.drop (o+cs.length)).toArray):=by
 obtain⟨i0,hi0,hz0,hz1,hz2⟩:=lD FG;have hl:=run_loadCells_list (P:=Tryd.prog) w a cs hsrc;have hst:=run_storeCells_at Tryd.prog g o t cs 0 cur w hg (by simpa using hfit) h1;simp [Builtin.copy_,run_underlying Tryd.underlying22,Builtin.lenOf,Builtin.firstCells,sizeOf,typeInfo,hi0,hz1,<-hn,hl,hst]
set_option maxHeartbeats 2000000 in
set_option maxRecDepth 100000 in
theorem DB(base:Nat)(a:Option Addr)(n c vb:Nat)(L:List Ed)(x:Ed)(w:World)(hown:w.ownsRow base 46 2 (.slice a n c) n (au L))(hn:n<=90000)(hb:base<=w.heap.size)(hv:RdE w (some ⟨vb,0,none⟩) [x]):
  Calls Tryd.prog 35 #[.slice a n c,.int .i64 n,.slice (some ⟨vb,0,none⟩) 1 1] w λe w'=>∃v',e= .returned v'/\w'.ownsRow base 46 2 v' (n+1) (au (L++ [x]))/\w.grownBy w' (Value.slice a n c).ownBlock:=by
 have hnc:n<=c:=by
  obtain⟨_,a',c',e,h1,_⟩:=row_rdE hown;cases e;exact h1
 by_cases hce:c=n
 all_goals try subst hce
 all_goals go_enter Tryd.func35,Tryd.ntmps35
 all_goals go_wp2_with (refine lE rfl _ _ rfl base _ _ L rfl hown _ 1 1 [x] rfl rfl hv (by simp) (by omega) hb ?_;intro v' w2 hown2 hg2 hat2)
 all_goals go_ret
 all_goals exact⟨_,rfl,hown2,hg2⟩
theorem GO(w:World)(g vb o cap:Nat)(cur:Array Value)(x:Ed)(hg:w.heap[g]? =some (.cells cur 46 (0,0)))(hk:cur.size≠0)(hv:w.heap[vb]? =some (.cells #[.int .i64 x.1,.int .i64 x.2] 46 (0,0)))(hvb:vb≠g)(lb cb:Nat):
  (callFunc 55 #[.slice (some ⟨vb,0,none⟩) 1 1,.slice (some ⟨g,o,none⟩) lb cb]).run Tryd.prog w= .ok (.value (.bool false)) w:=by
 rw [run_callFunc_extern Tryd.func55 (by kernel_rfl) (by kernel_rfl) (by kernel_rfl) (e:=Extern.SlicesOverlaps.overlaps #[22,22] #[4]) (by kernel_rfl),
  Lib.run_overlaps_apart w 22 4 46 Tryd.underlying22 2 Tryd.sizeOf46 ⟨vb,0,none⟩ ⟨g,o,none⟩ 1 1 lb cb hvb 46 46 2 cur.size (by simp [World.shape?,hv]) (by simp [World.shape?,hg]) hk (by simp [World.frozen?,hv]) (by simp [World.frozen?,hv])]
 rfl
theorem iQ(w:World)(g:Nat)(cs:Array Value):w.grownBy (w.setRow g cs) (some g):=
 ⟨rfl,rfl,rfl,by simp [World.setRow],λk _ hk=>setRow_other w g k _ (λe=>hk (by rw [e]))⟩
theorem qP{w:World}{g:Nat}{cur:Array Value}{t:TypeId}(hg:w.heap[g]? =some (.cells cur t (0,0))){cs:List Value}{n:Nat}(hc:cur.toList.take n=cs)(j:Nat)(v:Value)(hj:cs[j]? =some v):w.cell? ⟨g,j,none⟩=some v:=by
 rw [cell_of_row w g j cur t (0,0) hg];rw [<-hc,List.getElem?_take]at hj;split at hj
 .simpa using hj
 .cases hj
theorem GP(L:List Ed)(x:Ed)(i:Nat)(hi:i<=L.length)(cur:List Value)(hl:L.length*2+2<=cur.length)(htake:cur.take (L.length*2)=au L):
  (((cur.take ((i+1)*2)++(au L).drop (i*2)++cur.drop ((i+1)*2+((au L).drop (i*2)).length)).take (i*2)++enc x++(cur.take ((i+1)*2)++(au L).drop (i*2)++cur.drop ((i+1)*2+((au L).drop (i*2)).length)).drop (i*2+2))).take ((L.length+1)*2)=au (L.take i++x::L.drop i):=by
 have e1:au (L.take i)=cur.take (i*2):=by
  have h1:au L=au (L.take i)++au (L.drop i):=by rw [<-fS,List.take_append_drop]
  have h2:(au (L.take i)).length=i*2:=by rw [bG];simp;omega
  have h3:(au L).take (i*2)=au (L.take i):=by rw [h1,<-h2,List.take_left]
  rw [<-h3,<-htake,List.take_take];congr 1;omega
 have e2:(au L).drop (i*2)=au (L.drop i):=by
  have h1:au L=au (L.take i)++au (L.drop i):=by rw [<-fS,List.take_append_drop]
  have h2:(au (L.take i)).length=i*2:=by rw [bG];simp;omega
  rw [h1,<-h2,List.drop_left]
 rw [e2,fS,gr,e1];have h3:(au (L.drop i)).length=(L.length - i)*2:=by rw [bG];simp
 have h4:(cur.take ((i+1)*2)++au (L.drop i)++cur.drop ((i+1)*2+(au (L.drop i)).length)).take (i*2)=cur.take (i*2):=by
  rw [List.append_assoc,List.take_append_of_le_length (by simp;omega),List.take_take];congr 1;omega
 have h5:(cur.take ((i+1)*2)++au (L.drop i)++cur.drop ((i+1)*2+(au (L.drop i)).length)).drop (i*2+2)=au (L.drop i)++cur.drop ((i+1)*2+(au (L.drop i)).length):=by
  have h6:(cur.take ((i+1)*2)).length=i*2+2:=by simp;omega
  rw [List.append_assoc,<-h6,List.drop_left]
 rw [h4,h5,<-List.append_assoc];rw [List.take_append_of_le_length (by simp [enc,h3];omega),List.take_of_length_le (by simp [enc,h3];omega),List.append_assoc]
set_option maxHeartbeats 2000000 in
set_option maxRecDepth 100000 in
theorem zO(base g cap n i vb:Nat)(cur:Array Value)(L:List Ed)(x:Ed)(w:World)(hbg:base<=g)(hg:w.heap[g]? =some (.cells cur 46 (0,0)))(hcs:cur.size=cap*2)(hcm:cap<=maxLen)(hn:n=L.length)(hi:i<n)(hroom:n+1<=cap)
  (htake:cur.toList.take (n*2)=au L) (hv:w.heap[vb]? =some (.cells #[.int .i64 x.1,.int .i64 x.2] 46 (0,0))) (hvb:vb≠g):
  Calls Tryd.prog 35 #[.slice (some ⟨g,0,none⟩) n cap,.int .i64 i,.slice (some ⟨vb,0,none⟩) 1 1] w λe w'=>∃v',e= .returned v'/\w'.ownsRow base 46 2 v' (n+1) (au (L.take i++x::L.drop i))/\w.grownBy w' (some g):=by
 have hov:=λo lb cb=>GO w g vb o cap cur x hg (by omega) hv hvb lb cb;have hw1:IntKind.i64.wrap ((i:Int)+1)=(i:Int)+1:=by rw [IntKind.wrap_i64];unfold maxLen at hcm;omega
 have hb0:(i:Int)<=(n:Int):=by omega
 have hb1:(0:Int)<=(i:Int)+1:=by omega
 have htn:((i:Int)+1).toNat=i+1:=by omega
 have hb2:¬(cap=i+1):=by omega
 have hb3:(i:Int)<=(n:Int)+1:=by omega
 have hb4:¬(cap=i):=by omega
 have hz2:¬((i:Int)=(n:Int)):=by omega
 have hcm2:cap<=9223372036854775807:=by unfold maxLen at hcm;omega
 obtain⟨ROW1,hR1⟩:∃ROW1:Array Value,ROW1=(cur.toList.take ((i+1)*2)++(au L).drop (i*2)++cur.toList.drop ((i+1)*2+((au L).drop (i*2)).length)).toArray:=⟨_,rfl⟩;obtain⟨ROW2,hR2⟩:∃ROW2:Array Value,ROW2=(ROW1.toList.take (i*2)++enc x++ROW1.toList.drop (i*2+(enc x).length)).toArray:=⟨_,rfl⟩;have hdl:((au L).drop (i*2)).length=(n - i)*2:=by rw [List.length_drop,bG,hn];omega
 have hm1:Nat.min (n+1 - i) (n+1 - (i+1))=n - i:=by simp only [Nat.min_def];split<;>omega
 have hcp1:∀ty dc sc,(Builtin.copy_ #[22,22] ty #[.slice (some ⟨g,(i+1)*2,none⟩) (n+1 - (i+1)) dc,.slice (some ⟨g,i*2,none⟩) (n+1 - i) sc]).run Tryd.prog w.drew= .ok (goInt ((n - i:Nat):Int)) (w.drew.setRow g ROW1):=λty dc sc=>by
  have h:=oB w.drew ty g ((i+1)*2) (n+1 - (i+1)) dc ⟨g,i*2,none⟩ (n+1 - i) sc cur 46 ((au L).drop (i*2)) hg (by rw [hdl,hm1]) (λj v hj=>by
   rw [Addr.add_lit]
   exact qP (w:=w.drew) hg htake _ v (by rwa [List.getElem?_drop]at hj)) (by rw [hdl,hcs];omega) (λv hv=>mR L v (List.mem_of_mem_drop hv))
  rw [hm1]at h;rw [h,hR1]
 have hr1s:ROW1.size=cap*2:=by
  rw [hR1];simp [bG,hcs];omega
 have hcp2:∀W,W.heap[g]? =some (.cells ROW1 46 (0,0))->(∀j,W.cell? ⟨vb,j,none⟩=w.cell? ⟨vb,j,none⟩)->∀ty dc,(Builtin.copy_ #[22,22] ty #[.slice (some ⟨g,i*2,none⟩) (n+1 - i) dc,.slice (some ⟨vb,0,none⟩) 1 1]).run Tryd.prog W= .ok (goInt ((1:Nat):Int)) (W.setRow g ROW2):=λW hW hWv ty dc=>by
  have hm2:Nat.min 1 (n+1 - i)=1:=by simp only [Nat.min_def];split<;>omega
  have h:=oB W ty g (i*2) (n+1 - i) dc ⟨vb,0,none⟩ 1 1 ROW1 46 (enc x) hW (by rw [hm2];rfl) (λj v hj=>by
   rw [FE,hWv,cell_of_row w vb j _ _ (0,0) hv]
   simpa [enc]using hj) (by rw [hr1s];simp [enc];omega) (λv hv=>by simp [enc]at hv;rcases hv with rfl|rfl<;>rfl)
  rw [hm2]at h;rw [h,hR2]
 have hfin:ROW2.toList.take ((n+1)*2)=au (L.take i++x::L.drop i):=by
  rw [hR2,hR1]
  have:=GP L x i (by omega) cur.toList (by have:=hcs;simp;omega) (by rw [<-hn];exact htake)
  rw [<-hn]at this;simpa [enc]using this
 have hr2s:ROW2.size=cap*2:=by
  rw [hR2];simp [enc,hr1s];omega
 have hll:(au (L.take i++x::L.drop i)).length=(n+1)*2:=by rw [bG];simp;omega
 have HN:=Lib.hid hn;have HR1:=Lib.hid hR1;have HR2:=Lib.hid hR2;have mixed:Tryd.prog.follows Departure.mixedOrders=true:=by kernel_rfl
 have HC2:=hcp2 (w.drew.setRow g ROW1) (setRow_heap w.drew g cur _ _ _ hg) (λj=>World.cell?_of_block (setRow_other w.drew g vb ROW1 hvb));clear hn hR1 hR2 hdl hm1
 go_enter Tryd.func35,Tryd.ntmps35
 go_wp2_with (simp only [hov])
 go_region_law_o (refine step_copy_runI rfl _ _ 22 22 rfl _ _ (by simp [Act.eval,Act.put]) (by simp [Act.eval,Act.put]) (hcp1 _ (cap - (i+1)) (cap - i)) ?_)
 go_wp2_with (simp only [HC2,Result.andThen])
 go_ret
 have hgr:=(iQ w.drew g ROW1).trans (iQ (w.drew.setRow g ROW1) g ROW2);exact⟨_,rfl,⟨hll,.inr ⟨g,cap,ROW2,rfl,hbg,setRow_heap _ g ROW1 _ _ _ (setRow_heap w.drew g cur _ _ _ hg),hroom,hcm,hr2s,hfin⟩⟩,⟨hgr.os,hgr.tape,hgr.output,hgr.size,hgr.block⟩⟩
theorem GQ(L:List Ed)(x:Ed)(i:Nat)(hi:i<=L.length)(ROW:List Value)(hl:(L.length+1)*2<=ROW.length)(htake:ROW.take (i*2)=au (L.take i)):
  (((ROW.take (i*2)++enc x++ROW.drop (i*2+2)).take ((i+1)*2)++(au L).drop (i*2)++(ROW.take (i*2)++enc x++ROW.drop (i*2+2)).drop ((i+1)*2+((au L).drop (i*2)).length))).take ((L.length+1)*2)=au (L.take i++x::L.drop i):=by
 have h2:(au (L.take i)).length=i*2:=by rw [bG];simp;omega
 have e2:(au L).drop (i*2)=au (L.drop i):=by
  have h1:au L=au (L.take i)++au (L.drop i):=by rw [<-fS,List.take_append_drop]
  rw [h1,<-h2,List.drop_left]
 rw [e2,fS,gr,htake];have h3:(au (L.drop i)).length=(L.length - i)*2:=by rw [bG];simp
 have h4:(au (L.take i)++enc x++ROW.drop (i*2+2)).take ((i+1)*2)=au (L.take i)++enc x:=by
  have h6:(au (L.take i)++enc x).length=(i+1)*2:=by simp [h2,enc];omega
  rw [<-h6,List.take_left]
 rw [h4,List.take_append_of_le_length (by simp [enc,h3,h2];omega),List.take_of_length_le (by simp [enc,h3,h2];omega),List.append_assoc]
set_option maxHeartbeats 2000000 in
set_option maxRecDepth 100000 in
theorem By(base g cap n i vb:Nat)(cur:Array Value)(L:List Ed)(x:Ed)(w:World)(hb:base<=w.heap.size)(hg:w.heap[g]? =some (.cells cur 46 (0,0)))(hn:n=L.length)(hnl:n<=90000)(hi:i<n)(hnc:n<=cap)(hroom:cap<n+1)
  (htake:cur.toList.take (n*2)=au L) (hv:w.heap[vb]? =some (.cells #[.int .i64 x.1,.int .i64 x.2] 46 (0,0))):
  Calls Tryd.prog 35 #[.slice (some ⟨g,0,none⟩) n cap,.int .i64 i,.slice (some ⟨vb,0,none⟩) 1 1] w λe w'=>∃v',e= .returned v'/\w'.ownsRow base 46 2 v' (n+1) (au (L.take i++x::L.drop i))/\w.grownBy w' none:=by
 obtain⟨i0,hi0,hz0,hzs,hzb⟩:=lD FG;have hgw:g<w.heap.size:=(Array.getElem?_eq_some_iff.1 hg).1;have hvw:vb<w.heap.size:=(Array.getElem?_eq_some_iff.1 hv).1;have hkk:(n:Int)+1 - (i:Int)=((n+1 - i:Nat):Int):=by omega
 have hik:i+(n+1 - i)=n+1:=by omega
 have hti:(au (L.take i)).length=i*2:=by rw [bG];simp;omega
 have hold:(Builtin.firstCells i0.size i (.slice (some ⟨g,0,none⟩) i cap)).run Tryd.prog w.drew= .ok (au (L.take i)).toArray w.drew:=by
  rw [hzs];refine run_firstCells_some w.drew 2 i ⟨g,0,none⟩ i cap (au (L.take i)) hti (λj v hj=> ?_);rw [FE];refine qP (w:=w.drew) hg htake j v ?_;have h1:au L=au (L.take i)++au (L.drop i):=by rw [<-fS,List.take_append_drop]
  rw [h1,List.getElem?_append_left (List.getElem?_eq_some_iff.1 hj).1,hj]
 obtain⟨G,hG⟩:∃G,G=grownCap w (n+1) cap 46:=⟨_,rfl⟩;obtain⟨ROW,hROW⟩:∃ROW:Array Value,ROW=(au (L.take i)).toArray++Builtin.zeroCells (Value.agg #[.int .i64 0,.int .i64 0]).cells (n+1 - i)++Builtin.zeroCells (Value.agg #[.int .i64 0,.int .i64 0]).cells (G - (n+1)):=⟨_,rfl⟩
 have hrz:∀ty,(Builtin.append_ #[22,3] ty #[.slice (some ⟨g,0,none⟩) i cap,.int .i64 ((n:Int)+1 - (i:Int))]).run Tryd.prog w=
   .ok (.slice (some ⟨w.heap.size,0,none⟩) (n+1) G) (w.drew.alloc (.cells ROW 46)):=λty=>by
  have h:=Lib.run_append_grow_zeros w 22 3 ty 46 i0 _ .i64 .i64 Tryd.underlying22 Tryd.underlying3 hi0 hz0 (some ⟨g,0,none⟩) i cap (au (L.take i)) hold (n+1 - i) (by omega) (by omega) (by omega) (by omega) (by rw [hzb];omega) (by rw [hzb,hik];exact growslice_fits hroom (by omega));rw [hik]at h;rw [hkk,h,hROW,hG]
 have hGn:n+1<=G:=by rw [hG];exact grownCap_ge w _ _ _
 have hGm:G<=maxLen:=by rw [hG];exact grownCap_le_maxLen w _ _ _ (by unfold maxLen;omega)
 have hrs:ROW.size=G*2:=by
  rw [hROW];simp [Builtin.zeroCells,Value.cells,hti];omega
 have hrt:ROW.toList.take (i*2)=au (L.take i):=by
  rw [hROW];simp only [Array.toList_append,List.append_assoc];rw [<-hti,List.take_left]
 obtain⟨ROW1,hR1⟩:∃ROW1:Array Value,ROW1=(ROW.toList.take (i*2)++enc x++ROW.toList.drop (i*2+(enc x).length)).toArray:=⟨_,rfl⟩;obtain⟨ROW2,hR2⟩:∃ROW2:Array Value,ROW2=(ROW1.toList.take ((i+1)*2)++(au L).drop (i*2)++ROW1.toList.drop ((i+1)*2+((au L).drop (i*2)).length)).toArray:=⟨_,rfl⟩;have hdl:((au L).drop (i*2)).length=(n - i)*2:=by rw [List.length_drop,bG,hn];omega
 have hr1s:ROW1.size=G*2:=by rw [hR1];simp [enc,hrs];omega
 have hr2s:ROW2.size=G*2:=by rw [hR2];simp [hr1s,bG];omega
 have hfin:ROW2.toList.take ((n+1)*2)=au (L.take i++x::L.drop i):=by
  rw [hR2,hR1]
  have:=GQ L x i (by omega) ROW.toList (by have:=hrs;simp;omega) hrt
  rw [<-hn]at this;simpa [enc]using this
 have hll:(au (L.take i++x::L.drop i)).length=(n+1)*2:=by rw [bG];simp;omega
 have hcpA:∀W,W.heap[w.heap.size]? =some (.cells ROW 46 (0,0))->W.heap[vb]? =w.heap[vb]?->∀ty dc,(Builtin.copy_ #[22,22] ty #[.slice (some ⟨w.heap.size,i*2,none⟩) (n+1 - i) dc,.slice (some ⟨vb,0,none⟩) 1 1]).run Tryd.prog W= .ok (goInt ((1:Nat):Int)) (W.setRow w.heap.size ROW1):=λW hW hWv ty dc=>by
  have hm2:Nat.min 1 (n+1 - i)=1:=by simp only [Nat.min_def];split<;>omega
  have h:=oB W ty w.heap.size (i*2) (n+1 - i) dc ⟨vb,0,none⟩ 1 1 ROW 46 (enc x) hW (by rw [hm2];rfl) (λj v hj=>by
   rw [FE,cell_of_row W vb j _ _ (0,0) (hWv.trans hv)]
   simpa [enc]using hj) (by rw [hrs];simp [enc];omega) (λv hv=>by simp [enc]at hv;rcases hv with rfl|rfl<;>rfl)
  rw [hm2]at h;rw [h,hR1]
 have hcpB:∀W,W.heap[w.heap.size]? =some (.cells ROW1 46 (0,0))->W.heap[g]? =w.heap[g]?->∀ty dc sc,(Builtin.copy_ #[22,22] ty #[.slice (some ⟨w.heap.size,(i+1)*2,none⟩) (n+1 - (i+1)) dc,.slice (some ⟨g,i*2,none⟩) (n - i) sc]).run Tryd.prog W= .ok (goInt ((n - i:Nat):Int)) (W.setRow w.heap.size ROW2):=λW hW hWg ty dc sc=>by
  have hm1:Nat.min (n - i) (n+1 - (i+1))=n - i:=by simp only [Nat.min_def];split<;>omega
  have h:=oB W ty w.heap.size ((i+1)*2) (n+1 - (i+1)) dc ⟨g,i*2,none⟩ (n - i) sc ROW1 46 ((au L).drop (i*2)) hW (by rw [hdl,hm1]) (λj v hj=>by
   rw [Addr.add_lit]
   exact qP (w:=W) (hWg.trans hg) htake _ v (by rwa [List.getElem?_drop]at hj)) (by rw [hdl,hr1s];omega) (λv hv=>mR L v (List.mem_of_mem_drop hv))
  rw [hm1]at h;rw [h,hR2]
 have mixed:Tryd.prog.follows Departure.mixedOrders=true:=by kernel_rfl
 have hw1:IntKind.i64.wrap ((i:Int)+1)=(i:Int)+1:=by rw [IntKind.wrap_i64];omega
 have hb1:(0:Int)<=(i:Int)+1:=by omega
 have hin:i<=n:=by omega
 have htn:((i:Int)+1).toNat=i+1:=by omega
 have hb3:(i:Int)<=(n:Int):=by omega
 have hz2:¬((i:Int)=(n:Int)):=by omega
 have hz3:(cap:Int)<(n:Int)+1:=by omega
 have hGi:¬(G=i):=by omega
 have hGim:¬(G=i+1):=by omega
 have hci:¬(cap=i):=by omega
 have hG63:G<=9223372036854775807:=by unfold maxLen at hGm;omega
 have hn1:((w.alloc (.cells ROW 46)).drew).heap[w.heap.size]? =some (.cells ROW 46 (0,0)):=heap_alloc_new w _;have ho1:∀k,k<w.heap.size->((w.alloc (.cells ROW 46)).drew).heap[k]? =w.heap[k]? :=λk hk=>(World.grownBy_alloc w (.cells ROW 46) none).block k hk (by simp);have HC1:=hcpA ((w.alloc (.cells ROW 46)).drew) hn1 (ho1 vb hvw);have hn2:=setRow_heap ((w.alloc (.cells ROW 46)).drew) w.heap.size ROW ROW1 _ _ hn1
 have ho2:∀k,k<w.heap.size->((((w.alloc (.cells ROW 46)).drew).setRow w.heap.size ROW1).drew).heap[k]? =w.heap[k]? :=λk hk=>by
  have h1:=setRow_other ((w.alloc (.cells ROW 46)).drew) w.heap.size k ROW1 (by omega);exact h1.trans (ho1 k hk)
 have HC2:=hcpB ((((w.alloc (.cells ROW 46)).drew).setRow w.heap.size ROW1).drew) hn2 (ho2 g hgw);have HN:=Lib.hid hn;clear hkk hik hold hROW hG hrt hR1 hR2 hn hdl hcpA hcpB
 go_enter Tryd.func35,Tryd.ntmps35
 go_wp2_with (first|(at_builtin;refine Lib.wpList_append_run _ rfl _ _ _ _ rfl _ _ rfl rfl _ _ (hrz _) ?_)|simp only [HC1,Result.andThen])
 go_region_law_o (refine step_copy_runI rfl _ _ 22 22 rfl (.slice (some ⟨w.heap.size,(i+1)*2,none⟩) (n+1 - (i+1)) (G - (i+1))) (.slice (some ⟨g,i*2,none⟩) (n - i) (cap - i)) (by simp [Act.eval,Act.put]) (by simp [Act.eval,Act.put]) (HC2 _ (G - (i+1)) (cap - i)) ?_)
 go_wp2
 go_ret
 exact⟨_,rfl,⟨hll,.inr ⟨w.heap.size,G,ROW2,rfl,hb,setRow_heap ((((w.alloc (.cells ROW 46)).drew).setRow w.heap.size ROW1).drew) w.heap.size ROW1 ROW2 _ _ hn2,hGn,hGm,hr2s,hfin⟩⟩,⟨rfl,rfl,rfl,by simp [World.setRow],λk hk _=>(setRow_other ((((w.alloc (.cells ROW 46)).drew).setRow w.heap.size ROW1).drew) w.heap.size k ROW2 (by omega)).trans (ho2 k hk)⟩⟩
theorem DC(base n i vb:Nat)(a:Option Addr)(c:Nat)(L:List Ed)(x:Ed)(w:World)(hown:w.ownsRow base 46 2 (.slice a n c) n (au L))(hn:n=L.length)(hnl:n<=90000)(hi:i<=n)(hb:base<=w.heap.size)(hv:w.heap[vb]? =some (.cells #[.int .i64 x.1,.int .i64 x.2] 46 (0,0)))(hvb:(Value.slice a n c).ownBlock≠some vb):
  Calls Tryd.prog 35 #[.slice a n c,.int .i64 i,.slice (some ⟨vb,0,none⟩) 1 1] w λe w'=>∃v',e= .returned v'/\w'.ownsRow base 46 2 v' (n+1) (au (L.take i++x::L.drop i))/\w.grownBy w' (Value.slice a n c).ownBlock:=by
 have hvE:RdE w (some ⟨vb,0,none⟩) [x]:=by
  refine ym (Array.getElem?_eq_some_iff.1 hv).1 (λj hj k hk=> ?_);obtain rfl:j=0:=by simpa using hj
  rw [cell_of_row w vb _ _ _ (0,0) hv];have h3:k=0∨k=1:=by omega
  rcases h3 with rfl|rfl<;>rfl
 by_cases hin:i=n
 .subst hin;have h:=DB base a i c vb L x w hown hnl hb hvE;rw [hn,List.take_length,List.drop_length];rw [hn]at h;exact h
 .rcases hown.2 with⟨e,h0⟩|⟨g,cap,cur,e,hbg,hg,hnc,hcm,hcs,htake⟩
  .omega
  .cases e;by_cases hroom:n+1<=c
   .exact zO base g c n i vb cur L x w hbg hg hcs hcm hn (by omega) hroom htake hv (λh=>hvb (by rw [h];rfl))
   .refine(By base g c n i vb cur L x w hb hg hn hnl (by omega) hnc (by omega) htake hv).mono ?_;rintro e w' ⟨v',h1,h2,h3⟩;exact⟨v',h1,h2,h3.but _⟩
theorem sa{ops:Array Oper}{o:Oper}{a:Act}{w:World}{K:Act->World->Prop}{Q:Exit->Act->World->Prop}{E:Prop}
  (hg:o.guard=none) (d x:Operand) (dT sT:TypeId) (hop:o.op=Op.call {callee:=Callee.builtin Builtin.append,args:=#[d,x],argTypes:=#[dT,sT]})
  (v u:Value) (hd:a.eval d=v) (hx:a.eval x=u) {v':Value} {w':World} (hr:(Builtin.append_ #[dT,sT] o.type #[v,u]).run Tryd.prog w= .ok v' w') (hK:K (a.put o.dst v') w'):
  if Region.wanted o (yielded ops a.tmps)=true then Oper.wp Tryd.prog o a w K Q else E:=by
 have hw:Region.wanted o (yielded ops a.tmps)=true:=by simp [Region.wanted,hg]
 rw [if_pos hw];unfold Oper.wp;simp [execOp,hop,resolve,invoke,builtin,hd,hx,hr,Result.andThen];exact hK
theorem GR(L:List Ed)(i:Nat)(hi:i<L.length)(cur:List Value)(hl:L.length*2<=cur.length)(htake:cur.take (L.length*2)=au L)(r:List Value):
  (((cur.take (i*2)++(au L).drop ((i+1)*2)++cur.drop (i*2+((au L).drop ((i+1)*2)).length)).take ((L.length - 1)*2))++r).take ((L.length - 1)*2)=au (L.take i++L.drop (i+1)):=by
 have h1:∀k,k<=L.length->au L=au (L.take k)++au (L.drop k)/\(au (L.take k)).length=k*2:=λk hk=>⟨by rw [<-fS,List.take_append_drop],by rw [bG];simp;omega⟩
 have e1:au (L.take i)=cur.take (i*2):=by
  have h2:=h1 i (by omega);have h3:(au L).take (i*2)=au (L.take i):=by rw [h2.1,<-h2.2,List.take_left]
  rw [<-h3,<-htake,List.take_take];congr 1;omega
 have e2:(au L).drop ((i+1)*2)=au (L.drop (i+1)):=by
  have h2:=h1 (i+1) (by omega);rw [h2.1,<-h2.2,List.drop_left]
 have h3:(au (L.drop (i+1))).length=(L.length - (i+1))*2:=by rw [bG];simp
 have h4:(cur.take (i*2)++au (L.drop (i+1))).length=(L.length - 1)*2:=by
  rw [List.length_append,<-e1,(h1 i (by omega)).2,h3];omega
 rw [e2,<-h4,List.take_left,List.take_left,fS,e1]
set_option maxHeartbeats 2000000 in
set_option maxRecDepth 100000 in
theorem DD(base g cap n i:Nat)(cur:Array Value)(L:List Ed)(w:World)(hbg:base<=g)(hg:w.heap[g]? =some (.cells cur 46 (0,0)))(hcs:cur.size=cap*2)(hcm:cap<=maxLen)(hn:n=L.length)(hi:i<n)(hnc:n<=cap)
  (htake:cur.toList.take (n*2)=au L):
  Calls Tryd.prog 37 #[.slice (some ⟨g,0,none⟩) n cap,.int .i64 i,.int .i64 ((i:Int)+1)] w λe w'=>∃v',e= .returned v'/\w'.ownsRow base 46 2 v' (n - 1) (au (L.take i++L.drop (i+1)))/\w.grownBy w' (some g)/\v'.ownBlock=some g:=by
 have mixed:Tryd.prog.follows Departure.mixedOrders=true:=by kernel_rfl
 obtain⟨i0,hi0,hz0,hz1,hz2⟩:=lD FG;obtain⟨ROW1,hR1⟩:∃ROW1:Array Value,ROW1=(cur.toList.take (i*2)++(au L).drop ((i+1)*2)++cur.toList.drop (i*2+((au L).drop ((i+1)*2)).length)).toArray:=⟨_,rfl⟩;obtain⟨ROW2,hR2⟩:∃ROW2:Array Value,ROW2=(ROW1.toList.take ((n - 1)*2)++ [Value.int .i64 0,Value.int .i64 0]++ROW1.toList.drop ((n - 1)*2+2)).toArray:=⟨_,rfl⟩;have hdl:((au L).drop ((i+1)*2)).length=(n - (i+1))*2:=by rw [List.length_drop,bG,hn];omega
 obtain⟨A,hA,hsrc⟩:∃A:Addr,(if cap=i+1 then(some (⟨g,0,none⟩:Addr))else some ⟨g,(i+1)*2,none⟩)=some A/\(∀t u,((au L).drop ((i+1)*2))[t]? =some u->w.drew.cell? (A.add t)=some u):=by
  by_cases h:cap=i+1
  .refine⟨⟨g,0,none⟩,by simp [h],λt u hu=> ?_⟩
   have:=(List.getElem?_eq_some_iff.1 hu).1
   rw [hdl]at this;omega
  .refine⟨⟨g,(i+1)*2,none⟩,by simp [h],λt u hu=> ?_⟩;rw [Addr.add_lit];exact qP (w:=w.drew) hg htake _ u (by rwa [List.getElem?_drop]at hu)
 have hap:∀ty,(Builtin.append_ #[22,22] ty #[.slice (some ⟨g,0,none⟩) i cap,.slice (some A) (n - (i+1)) (cap - (i+1))]).run Tryd.prog w.drew= .ok (.slice (some ⟨g,0,none⟩) (n - 1) cap) (w.drew.setRow g ROW1):=λty=>by
  have h:=run_append_room (P:=Tryd.prog) w.drew 22 ty 46 i0 Tryd.underlying22 hi0 g i cap cur hg A (n - (i+1)) (cap - (i+1)) ((au L).drop ((i+1)*2)) (by rw [hz1,hdl]) hsrc (λv hv=>mR L v (List.mem_of_mem_drop hv)) (by omega) (by rw [hz1,hdl,hcs];omega);rw [hz1]at h;rw [h,hR1,show i+(n - (i+1))=n - 1 by omega]
 have hr1s:ROW1.size=cap*2:=by rw [hR1];simp [bG,hcs];omega
 have hr2s:ROW2.size=cap*2:=by rw [hR2];simp [hr1s];omega
 have hfin:ROW2.toList.take ((n - 1)*2)=au (L.take i++L.drop (i+1)):=by
  rw [hR2,hR1]
  have:=GR L i (by omega) cur.toList (by have:=hcs;simp;omega) (by rw [<-hn];exact htake)
  rw [<-hn]at this;rw [List.toList_toArray,List.append_assoc];exact this _
 have hll:(au (L.take i++L.drop (i+1))).length=(n - 1)*2:=by rw [bG];simp;omega
 have hcl:∀ty c',(Builtin.clear_ #[22] ty #[.slice (some ⟨g,(n - 1)*2,none⟩) 1 c']).run Tryd.prog (w.drew.setRow g ROW1)= .ok (.tuple #[]) ((w.drew.setRow g ROW1).setRow g ROW2):=λty c'=>by
  have hst:=run_storeCells_at Tryd.prog g ((n - 1)*2) 46 [Value.int .i64 0,Value.int .i64 0] 0 ROW1 (w.drew.setRow g ROW1) (setRow_heap w.drew g cur _ _ _ hg) (by rw [hr1s];simp;omega) (λv hv=>by simp at hv;rcases hv with rfl|rfl<;>rfl);have hzc:(Builtin.zeroCells (Value.agg #[.int .i64 0,.int .i64 0]).cells 1).toList= [Value.int .i64 0,Value.int .i64 0]:=by kernel_rfl
  simp only [Nat.add_zero]at hst;rw [hR2];simp [Builtin.clear_,run_underlying Tryd.underlying22,Tryd.zeroValue46,hzc,hst]
 have HN:=Lib.hid hn;have HA:=Lib.hid hA;have hic:i<=cap:=by omega
 have hjc:i+1<=cap:=by omega
 have hn1:((n - 1:Nat):Int)=(n:Int) - 1:=by omega
 have hcn:¬(cap=n - 1):=by omega
 have hnn:n - (n - 1)=1:=by omega
 have hcm2:cap<=9223372036854775807:=by unfold maxLen at hcm;omega
 have hw1:IntKind.i64.wrap ((i:Int)+1)=(i:Int)+1:=by rw [IntKind.wrap_i64];omega
 have htn:((i:Int)+1).toNat=i+1:=by omega
 have hb3:(i:Int)+1<=(n:Int):=by omega
 have hb4:(0:Int)<=(i:Int)+1:=by omega
 clear hn hR1 hR2 hdl
 go_enter Tryd.func37,Tryd.ntmps37
 go_wp2_with fail
 go_region_law_o (refine sa rfl (.tmp 22) (.tmp 25) 22 22 rfl (.slice (some ⟨g,0,none⟩) i cap) (.slice (some A) (n - (i+1)) (cap - (i+1))) (by simp [Act.eval,Act.put]) (by simp [Act.eval,Act.put]) (hap _) ?_)
 go_wp2_with (simp only [hcl,Result.andThen])
 go_ret
 have hgr:=(iQ w.drew g ROW1).trans (iQ (w.drew.setRow g ROW1) g ROW2);exact⟨_,rfl,⟨hll,.inr ⟨g,cap,ROW2,rfl,hbg,setRow_heap _ g ROW1 _ _ _ (setRow_heap w.drew g cur _ _ _ hg),by omega,hcm,hr2s,hfin⟩⟩,⟨hgr.os,hgr.tape,hgr.output,hgr.size,hgr.block⟩,rfl⟩
theorem Lu(w:World):(binOp .eql 22 (.slice none 0 0) (.slice none 0 0)).run Tryd.prog w= .ok (.bool true) w:=by kernel_rfl
theorem Lv(w:World)(b:Addr)(n c:Nat):(binOp .eql 22 (.slice (some b) n c) (.slice none 0 0)).run Tryd.prog w= .ok (.bool false) w:=by kernel_rfl
set_option maxRecDepth 100000 in
set_option maxHeartbeats 1000000 in
theorem uY(a:Option Addr)(l:List Ed)(c:Nat)(w:World)(hr:RdE w a l)(hz:a=none->c=0/\l.length=0)(hl:l.length<=90000):Calls Tryd.prog 34 #[.slice a l.length c] w λe w'=>∃v,e= .returned v/\w'.ownsRow w.heap.size 46 2 v l.length (au l)/\Below w.heap.size w w'/\(a=none->v= .slice none 0 0)/\(a≠none->∃k,v.ownBlock=some k):=by
 by_cases ha:a=none
 .obtain⟨rfl,h0⟩:=hz ha;subst ha;obtain rfl:l= []:=List.eq_nil_of_length_eq_zero h0;have hq:=Lu w
  go_enter Tryd.func34,Tryd.ntmps34
  go_wp2
  go_ret
  refine⟨_,rfl,World.ownsRow_nil _ _ _ _,(by repeat (first|with_reducible refine blg ?_ _ _|with_reducible refine bla ?_ _|with_reducible exact Below.refl _ _)),?_⟩
  first|exact⟨λ_=>rfl,λh=>absurd rfl h⟩|rfl|simp
 .obtain⟨b,rfl⟩:=Option.ne_none_iff_exists'.1 ha;obtain⟨n,hn⟩:∃n,n=l.length:=⟨_,rfl⟩;rw [<-hn]at hl hz ⊢;have HN:=Lib.hid hn;clear hn ha;have hq:=Lv w b n c
  go_enter Tryd.func34,Tryd.ntmps34
  have h0:(w.alloc (.cells #[] 46)).ownsRow w.heap.size 46 2 (.slice (some ⟨w.heap.size,0,none⟩) 0 0) 0 (au []):=by
   exact World.ownsRow_lit w #[] 0 (Nat.le_refl _) (by unfold maxLen;omega) rfl
  go_wp2_with (refine lE rfl _ _ rfl w.heap.size _ 0 [] rfl h0 (some b) n c l rfl HN.out (hr.below (bl1 _ _)) (by simp) (by omega) (by simp) ?_;intro v' w' hown hg hat)
  go_ret
  refine⟨_,rfl,by simpa using hown,(bl1 w _).trans (rW (v:= .slice (some ⟨w.heap.size,0,none⟩) 0 0) hg (λk hk=>by cases hk;exact Nat.le_refl _) (by simp)),?_⟩;have hk:=hat.elim (λh=>(⟨_,h⟩:∃k,v'.ownBlock=some k)) λh=>⟨_,h⟩
  first|exact⟨λh=>(by cases h),λ_=>hk⟩|exact hk|simpa using hk
end It
end Sm
end
noncomputable section
open Go.RowKit Go.Sort
namespace Sm
namespace It
theorem RdE.grownN{w w':World}{a:Option Addr}{l:List Ed}{k:Nat}(h:RdE w a l)(hg:w.grownBy w' (some k))(hk:∀b,a=some b->l≠[]->b.block≠k):RdE w' a l:=by
 intro i hi;obtain⟨b,e,hl,h0,h1⟩:=h i hi;have hne:some b.block≠some k:=λh=>hk b e (λe=>by rw [e]at hi;simp at hi) (Option.some.inj h);exact⟨b,e,Nat.lt_of_lt_of_le hl hg.size,hg.cell h0 (by rw [FD];exact hne),hg.cell h1 hne⟩
theorem DE(base n i:Nat)(a:Option Addr)(c:Nat)(L:List Ed)(w:World)(hown:w.ownsRow base 46 2 (.slice a n c) n (au L))(hn:n=L.length)(hi:i<n):
  Calls Tryd.prog 37 #[.slice a n c,.int .i64 i,.int .i64 ((i:Int)+1)] w λe w'=>∃v',e= .returned v'/\w'.ownsRow base 46 2 v' (n - 1) (au (L.take i++L.drop (i+1)))/\w.grownBy w' (Value.slice a n c).ownBlock/\v'.ownBlock=(Value.slice a n c).ownBlock/\∃k,v'.ownBlock=some k:=by
 rcases hown.2 with⟨e,h0⟩|⟨g,cap,cur,e,hbg,hg,hnc,hcm,hcs,htake⟩
 .omega
 .cases e;refine(DD base g c n i cur L w hbg hg hcs hcm hn hi hnc htake).mono ?_;rintro e w' ⟨v',h1,h2,h3,h4⟩;exact⟨v',h1,h2,h3,h4,g,h4⟩
def Sl2(w:World)(a:Option Addr)(c:Nat)(m:List Ed):Prop:=RdE w a m/\(a=none->c=0/\m.length=0)/\m.length<=c
set_option maxRecDepth 100000 in
set_option maxHeartbeats 4000000 in
theorem drop_walk(n:Int)(a:Option Addr)(k c:Nat)(pl:Int)(w:World)(N:Int)(nn:Bool)(m:List Ed)(i:Nat)(is:Bool)(hm:m.length<=90000)(hi:is=true->i<m.length)
  (hSure:∀W,Below w.heap.size w W->w.heap.size<W.heap.size->Calls Tryd.prog 24 #[.agg #[.int .i64 n,.slice a k c]] W λe w'=>∃a2 c2,e= .returned (.agg #[.int .i64 N,.slice a2 m.length c2])/\Sl2 w' a2 c2 m/\nn=a2.isSome/\(∀b,a2=some b->m≠[]->b.block≠w.heap.size)/\Below W.heap.size W w')
  (hFind:∀a2 c2 W,Below w.heap.size w W->Sl2 W a2 c2 m->nn=a2.isSome->Calls Tryd.prog 25 #[.agg #[.int .i64 N,.slice a2 m.length c2],.int .i64 pl] W λe w'=>e= .returned (.tuple #[.int .i64 (i:Int),.bool is])/\Below W.heap.size W w'):
  Calls Tryd.prog 14 #[.agg #[.int .i64 n,.slice a k c],.int .i64 pl] w λe w'=>∃v,e= .returned (.agg #[.int .i64 N,v])/\(∃r,r=(if is=true then m.take i++m.drop (i+1)else m)/\w'.ownsRow w.heap.size 46 2 v r.length (au r))/\Below w.heap.size w w'/\(nn=false->v= .slice none 0 0)/\(nn=true->∃k,v.ownBlock=some k):=by
 have HS:=Lib.hid hSure;have HF:=Lib.hid hFind;clear hSure hFind
 go_enter Tryd.func14,Tryd.ntmps14
 go_wp2_with fail
 refine(HS.out _ (bl2 w _ _) (by simp;omega)).mono ?_;rintro x w1 ⟨a2,c2,rfl,hs,hnn,hnV,hb1⟩
 have hV1:CellsAt w1 w.heap.size 25 #[.int .i64 n,.slice a k c]:=by
  have h1:CellsAt (w.alloc (.cells #[.int .i64 n,.slice a k c] 25)) w.heap.size 25 #[.int .i64 n,.slice a k c]:=World.alloc_heap_new w _;exact(h1.below (bl1 _ (.cells #[.int .i64 0,.slice none 0 0] 25))).below hb1
 have hR1:CellsAt w1 (w.heap.size+1) 25 #[.int .i64 0,.slice none 0 0]:=by
  have h1:CellsAt ((w.alloc (.cells #[.int .i64 n,.slice a k c] 25)).alloc (.cells #[.int .i64 0,.slice none 0 0] 25)) (w.alloc (.cells #[.int .i64 n,.slice a k c] 25)).heap.size 25 #[.int .i64 0,.slice none 0 0]:=World.alloc_heap_new _ _;rw [World.size_alloc]at h1;exact h1.below hb1
 have hbw1:Below w.heap.size w w1:=(bl2 w _ _).trans (hb1.mono (bl2 w _ _).size);have hV0:w.heap.size<=w.heap.size:=Nat.le_refl _;have hR0:w.heap.size<=w.heap.size+1:=by omega
 have hVR:w.heap.size≠w.heap.size+1:=by omega
 generalize w.heap.size+1=RB at hR1 hR0 hVR ⊢;obtain⟨VB,hVB⟩:∃VB,VB=w.heap.size:=⟨_,rfl⟩;have HVB:=Lib.hid hVB;rw [<-hVB]at hV1 hVR hnV ⊢;clear hVB hb1;have v0:w1.cell? ⟨VB,0,none⟩=some (.int .i64 n):=hV1.cell 0;have v1:w1.cell? ⟨VB,1,none⟩=some (.slice a k c):=hV1.cell 1;have f0:=hV1.frozen 0;have f1:=hV1.frozen 1;have kV:=Has.of hV1.lt
 go_wp2_with fail
 have hg1:=aH w1 VB 0 (.int .i64 N);have hg2:=aH (w1.setCell ⟨VB,0,none⟩ (.int .i64 N)) VB 1 (.slice a2 m.length c2);have hV2:CellsAt ((w1.setCell ⟨VB,0,none⟩ (.int .i64 N)).setCell ⟨VB,1,none⟩ (.slice a2 m.length c2)) VB 25 #[.int .i64 N,.slice a2 m.length c2]:=by simpa using (hV1.set 0 (.int .i64 N)).set 1 (.slice a2 m.length c2)
 have hR2:CellsAt ((w1.setCell ⟨VB,0,none⟩ (.int .i64 N)).setCell ⟨VB,1,none⟩ (.slice a2 m.length c2)) RB 25 #[.int .i64 0,.slice none 0 0]:=iw (iw hR1 (Ne.symm hVR) _ _) (Ne.symm hVR) _ _;have hB2:Below w.heap.size w ((w1.setCell ⟨VB,0,none⟩ (.int .i64 N)).setCell ⟨VB,1,none⟩ (.slice a2 m.length c2)):=bls (bls hbw1 (by rw [HVB.out];exact Nat.le_refl _) _) (by rw [HVB.out];exact Nat.le_refl _) _;have hs2:Sl2 ((w1.setCell ⟨VB,0,none⟩ (.int .i64 N)).setCell ⟨VB,1,none⟩ (.slice a2 m.length c2)) a2 c2 m:=⟨(hs.1.grownN hg1 hnV).grownN hg2 hnV,hs.2⟩;generalize (w1.setCell ⟨VB,0,none⟩ (.int .i64 N)).setCell ⟨VB,1,none⟩ (.slice a2 m.length c2)=W2 at hV2 hR2 hB2 hs2 ⊢;have hCL:=λW (hW:Below W2.heap.size W2 W)=>uY a2 m c2 W (hs2.1.below hW) hs2.2.1 hm;have HC:=Lib.hid hCL;have mixed:Tryd.prog.follows Departure.mixedOrders=true:=by kernel_rfl
 have bd:Below W2.heap.size W2 W2.drew:=⟨rfl,rfl,rfl,Nat.le_refl _,λ_ _=>rfl⟩;have bd2:∀X,Below W2.heap.size W2 (W2.drew.alloc X):=λX=>bla bd X;have bd3:∀X,Below W2.heap.size W2 ((W2.alloc X).drew):=λX=>bla bd X;have hlV:=hV2.lt;have c0:W2.cell? ⟨VB,0,none⟩=some (.int .i64 N):=hV2.cell 0;have c1:W2.cell? ⟨VB,1,none⟩=some (.slice a2 m.length c2):=hV2.cell 1;have hkp:∀W,Below W2.heap.size W2 W->W.cell? ⟨VB,0,none⟩=some (.int .i64 N)/\W.cell? ⟨VB,1,none⟩=some (.slice a2 m.length c2):=λW hW=>⟨(hW.cell (p:=⟨VB,0,none⟩) hlV).trans c0,(hW.cell (p:=⟨VB,1,none⟩) hlV).trans c1⟩;clear v0 v1 f0 f1 kV hg1 hg2 hV1 hR1 hbw1 hs hnV c0 c1
 go_region_held3 (λW=>W.cell? ⟨VB,0,none⟩=some (.int .i64 N)/\W.cell? ⟨VB,1,none⟩=some (.slice a2 m.length c2)) (first|exact hkp _ bd|exact hkp _ (bd2 _)|exact hkp _ (bd3 _)|exact hkp _ hBX|exact hkp _ (bla hBX _)|exact hkp _ (bls hBX (Nat.le_refl _) _)|exact hkp _ (bls (bls hBX (Nat.le_refl _) _) (Nat.le_refl _) _)|fail) (first|(go_at_call 34;refine(hCL _ (by first|exact bd|exact bd2 _|exact bd3 _)).mono ?_;rintro e w3 ⟨v,rfl,hown,hb3,hv1,hv2⟩;obtain⟨a6,c6,rfl,ha6⟩:=rX hown;have hBX:Below W2.heap.size W2 w3:=(by first|exact bd.trans hb3|exact(bd2 _).trans (hb3.mono (bd2 _).size)|exact(bd3 _).trans (hb3.mono (bd3 _).size));(first|(have hO:CellsAt w3 W2.heap.size 25 #[.int .i64 0,.slice none 0 0]:=CellsAt.below (show CellsAt (W2.alloc (.cells #[.int .i64 0,.slice none 0 0] 25)).drew W2.heap.size 25 #[.int .i64 0,.slice none 0 0]from World.alloc_heap_new W2 _) hb3;have o0:w3.cell? ⟨W2.heap.size,0,none⟩=some (.int .i64 0):=hO.cell 0;have o1:w3.cell? ⟨W2.heap.size,1,none⟩=some (.slice none 0 0):=hO.cell 1;have of0:=hO.frozen 0;have of1:=hO.frozen 1;have kO:=Has.of hO.lt)|skip)))
 all_goals first
  |(have hO4:CellsAt (w3.alloc (.cells #[.int .i64 N,.slice a6 m.length c6] 25)) w3.heap.size 25 #[.int .i64 N,.slice a6 m.length c6]:=World.alloc_heap_new w3 _
    have hown4:=(gZ hown (show W2.heap.size<=_ from Nat.le_refl _)).alloc (.cells #[.int .i64 N,.slice a6 m.length c6] 25);have hB4:Below W2.heap.size W2 (w3.alloc (.cells #[.int .i64 N,.slice a6 m.length c6] 25)):=bla hBX _;have hOg:∀q,(Value.slice a6 m.length c6).ownBlock=some q->q≠w3.heap.size:=λq hq=>by have:=(hown.lt q hq).2;omega
    have hOW:W2.heap.size<=w3.heap.size:=hBX.size;clear hown hb3 hBX;generalize w3.alloc (.cells #[.int .i64 N,.slice a6 m.length c6] 25)=W4 at hO4 hown4 hB4 ⊢
    generalize w3.heap.size=OB at hO4 hOg hOW ⊢)
  |(have hO4:CellsAt ((w3.setCell ⟨W2.heap.size,0,none⟩ (.int .i64 N)).setCell ⟨W2.heap.size,1,none⟩ (.slice a6 m.length c6)) W2.heap.size 25 #[.int .i64 N,.slice a6 m.length c6]:=by simpa using (hO.set 0 (.int .i64 N)).set 1 (.slice a6 m.length c6)
    have hOg:∀q,(Value.slice a6 m.length c6).ownBlock=some q->q≠W2.heap.size:=λq hq=>by have:=(hown.lt q hq).1;simp at this;omega
    have hown4:=((gZ hown (show W2.heap.size<=_ from by simp)).kept (aH w3 W2.heap.size 0 (.int .i64 N)) (.inr (λe=>hOg _ e rfl))).kept (aH _ W2.heap.size 1 (.slice a6 m.length c6)) (.inr (λe=>hOg _ e rfl));have hB4:Below W2.heap.size W2 ((w3.setCell ⟨W2.heap.size,0,none⟩ (.int .i64 N)).setCell ⟨W2.heap.size,1,none⟩ (.slice a6 m.length c6)):=bls (bls hBX (Nat.le_refl _) _) (Nat.le_refl _) _;have hOW:W2.heap.size<=W2.heap.size:=Nat.le_refl _;clear hown hb3 hBX hO o0 o1 of0 of1 kO;generalize (w3.setCell ⟨W2.heap.size,0,none⟩ (.int .i64 N)).setCell ⟨W2.heap.size,1,none⟩ (.slice a6 m.length c6)=W4 at hO4 hown4 hB4 ⊢;obtain⟨OB,hOB⟩:∃OB,OB=W2.heap.size:=⟨_,rfl⟩;rw [<-hOB]at hO4 hOg ⊢;replace hOW:W2.heap.size<=OB:=by omega
    clear hOB)
 all_goals (
  have hlV:=hV2.lt;have hlR:=hR2.lt;have hV4:=hV2.below hB4;have hR4:=hR2.below hB4;have hs4:Sl2 W4 a2 c2 m:=⟨hs2.1.below hB4,hs2.2⟩;have hBW4:Below w.heap.size w W4:=hB2.trans (hB4.mono hB2.size);have hBS:=hB2.size;have hOV:OB≠VB:=by omega
  have hOR:OB≠RB:=by omega
  have c0:W4.cell? ⟨VB,0,none⟩=some (.int .i64 N):=hV4.cell 0;have c1:W4.cell? ⟨VB,1,none⟩=some (.slice a2 m.length c2):=hV4.cell 1;have kV:=Has.of hV4.lt;clear hV2 hR2 hB2 hs2 hkp bd bd2 bd3 hCL
  go_wp2_with fail
  refine(HF.out a2 c2 W4 hBW4 hs4 hnn).mono ?_;rintro x w5 ⟨rfl,hb5⟩;have hO5:=hO4.below hb5;have hR5:=hR4.below hb5;have hown5:=hown4.kept (mt hb5 none) (Classical.em _);have hBW5:Below w.heap.size w w5:=hBW4.trans (hb5.mono hBW4.size);have hW5:=hb5.size;clear hO4 hR4 hown4 hBW4 hs4 hV4 c0 c1 kV;have o0:w5.cell? ⟨OB,0,none⟩=some (.int .i64 N):=hO5.cell 0;have o1:w5.cell? ⟨OB,1,none⟩=some (.slice a6 m.length c6):=hO5.cell 1;have r0:w5.cell? ⟨RB,0,none⟩=some (.int .i64 0):=hR5.cell 0;have r1:w5.cell? ⟨RB,1,none⟩=some (.slice none 0 0):=hR5.cell 1;have f0:=hR5.frozen 0;have f1:=hR5.frozen 1;have g0:=hO5.frozen 0;have g1:=hO5.frozen 1;have kO:=Has.of hO5.lt;have kR:=Has.of hR5.lt;have hOB1:=hO5.lt;have hRo:∀q,(Value.slice a6 m.length c6).ownBlock=some q->q≠RB:=λq hq=>by have:=(hown5.lt q hq).1;omega
  have hv2':nn=true->∃k,(Value.slice a6 m.length c6).ownBlock=some k:=λh=>hv2 (by rintro rfl;rw [hnn]at h;cases h);have hv1':nn=false->Value.slice a6 m.length c6= .slice none 0 0:=λh=>hv1 (by rw [hnn]at h;simpa using h);have HV1:=Lib.hid hv1';have HV2:=Lib.hid hv2';clear hv1 hv2 hv1' hv2' hnn;cases is
  .go_wp2_with fail
   refine bodyPost_ret (v:= .agg #[.int .i64 N,.slice a6 m.length c6]) ?_ rfl ⟨_,rfl,?_,?_,?_,?_⟩
   .have hCF:CellsAt ((w5.setCell ⟨RB,0,none⟩ (.int .i64 N)).setCell ⟨RB,1,none⟩ (.slice a6 m.length c6)) RB 25 #[.int .i64 N,.slice a6 m.length c6]:=by simpa using (hR5.set 0 (.int .i64 N)).set 1 (.slice a6 m.length c6)
    have k0:=hCF.cell 0;have k1:=hCF.cell 1;simp at k0 k1;simp [results,Tryd.results14,go_sem,k0,k1]
   .exact gZ ((hown5.kept (aH w5 RB 0 (.int .i64 N)) (.inr (λe=>hRo _ e rfl))).kept (aH _ RB 1 (.slice a6 m.length c6)) (.inr (λe=>hRo _ e rfl))) hBS
   .exact bls (bls hBW5 hR0 _) hR0 _
   .exact HV1.out
   .exact HV2.out
  .have hi2:i<m.length:=hi rfl;have hw:Go.RowKit.wrap64 ((i:Int)+1)=(i:Int)+1:=by unfold Go.RowKit.wrap64;omega
   have HD:=Lib.hid (DE W2.heap.size m.length i a6 c6 m w5 hown5 rfl hi2)
   go_wp2_with fail
   refine HD.out.mono ?_;rintro x w6 ⟨v7,rfl,hown6,hg6,hvo,hvk⟩;obtain⟨a7,c7,rfl,ha7⟩:=rX hown6;have hO6:=hO5.grown hg6 (λe=>hOg _ e.symm rfl);have hR6:=hR5.grown hg6 (λe=>hRo _ e.symm rfl);have hBW6:Below w.heap.size w w6:=hBW5.trans ((rW hg6 (λq hq=>Nat.le_trans hBS (hown5.lt q hq).1) hBW5.size).mono (Nat.le_refl _));have hOg6:∀q,(Value.slice a7 (m.length - 1) c7).ownBlock=some q->q≠OB:=λq hq=>hOg q (hvo.symm.trans hq);have hRo6:∀q,(Value.slice a7 (m.length - 1) c7).ownBlock=some q->q≠RB:=λq hq=>hRo q (hvo.symm.trans hq);clear hO5 hR5 hown5 hBW5 o0 o1 r0 r1 f0 f1 g0 g1 kO kR HD hg6 hvo;have o0:w6.cell? ⟨OB,0,none⟩=some (.int .i64 N):=hO6.cell 0;have o1:w6.cell? ⟨OB,1,none⟩=some (.slice a6 m.length c6):=hO6.cell 1;have r0:w6.cell? ⟨RB,0,none⟩=some (.int .i64 0):=hR6.cell 0;have r1:w6.cell? ⟨RB,1,none⟩=some (.slice none 0 0):=hR6.cell 1;have f0:=hR6.frozen 0;have f1:=hR6.frozen 1;have g0:=hO6.frozen 0;have g1:=hO6.frozen 1;have kO:=Has.of hO6.lt;have kR:=Has.of hR6.lt;have HVK:=Lib.hid hvk;clear hvk
   go_wp2_with fail
   have hR7:=iw hR6 (Ne.symm hOR) (.slice a7 (m.length - 1) c7) 1;have hO0:w.heap.size<=OB:=by omega
   have hml:(m.take i++m.drop (i+1)).length=m.length - 1:=by simp;omega
   refine bodyPost_ret (v:= .agg #[.int .i64 N,.slice a7 (m.length - 1) c7]) ?_ rfl ⟨_,rfl,?_,?_,?_,?_⟩
   .have hCF:CellsAt (((w6.setCell ⟨OB,1,none⟩ (.slice a7 (m.length - 1) c7)).setCell ⟨RB,0,none⟩ (.int .i64 N)).setCell ⟨RB,1,none⟩ (.slice a7 (m.length - 1) c7)) RB 25 #[.int .i64 N,.slice a7 (m.length - 1) c7]:=by simpa using (hR7.set 0 (.int .i64 N)).set 1 (.slice a7 (m.length - 1) c7)
    have k0:=hCF.cell 0;have k1:=hCF.cell 1;simp at k0 k1;simp [results,Tryd.results14,go_sem,k0,k1]
   .have h9:=gZ (((hown6.kept (aH w6 OB 1 (.slice a7 (m.length - 1) c7)) (.inr (λe=>hOg6 _ e rfl))).kept (aH _ RB 0 (.int .i64 N)) (.inr (λe=>hRo6 _ e rfl))).kept (aH _ RB 1 (.slice a7 (m.length - 1) c7)) (.inr (λe=>hRo6 _ e rfl))) hBS;have e9:min i m.length+(m.length - (i+1))=m.length - 1:=by simp only [Nat.min_def];split<;>omega
    rw [e9];exact h9
   .exact bls (bls (bls hBW6 hO0 _) hR0 _) hR0 _
   .intro h;have h9:=HV1.out h
    injection h9
    omega
   .exact λ_=>HVK.out)
end It
end Sm
end
noncomputable section
namespace Ev
namespace KM
open Go
def okS{α:Type}(w:Nat)(s:Sl α):Prop:=s.l= []∨s.sz=w
theorem SlW.ok{α:Type}{w:Nat}{Q:α->Prop}{s:Sl α}(h:SlW w Q s):okS w s:= .inr h.1
def sb{α:Type}:Sl α:=⟨false,0,[]⟩
theorem uZ{α:Type}{w:Nat}:okS w (sb:Sl α):= .inl rfl
theorem tr{α:Type}{w:Nat}(l:List α):okS w (mo w l):=by cases l with|nil=>exact .inl rfl|cons x l=>exact .inr rfl
theorem all_range{n:Nat}{p:Nat->Bool}:(List.range n).all p=true↔∀i,i<n->p i=true:=by
 rw [List.all_eq_true];exact⟨λh i hi=>h i (List.mem_range.2 hi),λh i hi=>h i (List.mem_range.1 hi)⟩
theorem yn{n i:Nat}{p:Nat->Bool}(hi:i<n)(h:p i=false):(List.range n).all p=false:=by
 rw [Bool.eq_false_iff];intro ha;rw [all_range.1 ha i hi]at h;cases h
theorem FK{l:List Int}{j:Nat}(h:j<l.length):l.getD j 0=l[j]:=by rw [List.getD_eq_getElem?_getD,List.getElem?_eq_getElem h];rfl
def ld(n:Int):Bool:=decide (0<=n)&& decide (n<=4096)
theorem sizeF_iff{n:Int}:ld n=true↔0<=n/\n<=4096:=by unfold ld;simp
end KM
end Ev
end
noncomputable section
namespace Ev
namespace KM
open Go
abbrev P2:=Int×Int
abbrev Vec:=Int×Sl P2
def asc(a n:Int):List P2->Bool
 | []=>true
 |x::l=>decide (a<x.1)&& decide (x.1<n)&& asc x.1 n l
def bK(v:Vec):Bool:=ld v.1 && asc (-1) v.1 v.2.l
def SX:Vec:=(0,sb)
def bL(v:Vec):Vec:=if bK v=true then v else SX
theorem asc_cons{a n:Int}{x:P2}{l:List P2}:asc a n (x::l)=true↔a<x.1/\x.1<n/\asc x.1 n l=true:=by
 simp only [asc,Bool.and_eq_true,decide_eq_true_eq,and_assoc]
theorem FM{n:Int}:∀{a:Int} {l:List P2},asc a n l=true->∀y∈l,a<y.1/\y.1<n
 |a,[],_=>λy hy=>by simp at hy
 |a,x::l,h=>λy hy=>by
  obtain⟨h1,h2,h3⟩:=asc_cons.1 h;rcases List.mem_cons.1 hy with rfl|hy
  .exact⟨h1,h2⟩
  .have:=FM h3 y hy;omega
theorem mu{n:Int}:∀{a:Int} {l:List P2},asc a n l=true->l.Pairwise λx y=>x.1<y.1
 |a,[],_=>List.Pairwise.nil
 |a,x::l,h=>by
  obtain⟨h1,h2,h3⟩:=asc_cons.1 h;exact List.pairwise_cons.2 ⟨λy hy=>(FM h3 y hy).1,mu h3⟩
theorem qQ{n:Int}:∀{a:Int} {l:List P2},asc a n l=true->l= []∨(l.length:Int)<=n - a - 1
 |a,[],_=> .inl rfl
 |a,x::l,h=>by
  obtain⟨h1,h2,h3⟩:=asc_cons.1 h
  right
  rcases qQ h3 with rfl|h4
  .simp;omega
  .simp only [List.length_cons];omega
theorem GS{v:Vec}(h:bK v=true):0<=v.1/\v.1<=4096:=by
 simp only [bK,Bool.and_eq_true]at h;exact sizeF_iff.1 h.1
theorem sd{v:Vec}(h:bK v=true):asc (-1) v.1 v.2.l=true:=by
 simp only [bK,Bool.and_eq_true]at h;exact h.2
theorem oC{v:Vec}(h:bK v=true):v.2.l.length<=4096:=by
 have h1:=GS h;rcases qQ (sd h)with h2|h2
 .rw [h2];simp
 .omega
theorem vc(v:Vec):bK (bL v)=true:=by
 unfold bL;split
 .assumption
 .rfl
theorem nL(v:Vec):(bL v).2.l.length<=4096:=oC (vc v)
theorem zP{v:Vec}(h:okS 2 v.2):okS 2 (bL v).2:=by
 unfold bL;split
 .exact h
 .exact .inl rfl
theorem Lw{v:Vec}(h:v.2.nn=true∨v.2.l= []):(bL v).2.nn=true∨(bL v).2.l= []:=by
 unfold bL;split
 .exact h
 .exact .inr rfl
theorem oD{v:Vec}(h:bK v=true):bL v=v:=by unfold bL;rw [if_pos h]
theorem zQ(n:Int):dV n=some (ld n):=by
 rw [ma];unfold ld;by_cases h:n >= 0
 .rw [if_pos h,decide_eq_true (show 0<=n from h)];rfl
 .rw [if_neg h,decide_eq_false (show¬0<=n from h)];rfl
theorem IF{n:Int}{l:List P2}{j:Nat}(hj:j<l.length)(a:Int):asc a n (l.drop j)=(decide (a<l[j].1)&& decide (l[j].1<n)&& asc l[j].1 n (l.drop (j+1))):=by
 rw [List.drop_eq_getElem_cons hj];rfl
theorem xw{v:Vec}(hs:okS 2 v.2)(hl:v.2.l.length<=9223372036854775806):cL v=some (bK v):=by
 rw [iN,zQ];unfold bK
 cases ld v.1 with
 |false=>rfl
 |true=>
  simp only [zbS,not_true_eq_false,if_false,Bool.true_and]
  obtain⟨q,q1,q2⟩:=eM (b:=ck v) v.2.l.length (λj st=>st.2=(j:Int)/\asc (-1) v.1 v.2.l=asc st.1 v.1 (v.2.l.drop j)) (λq=>q=if asc (-1) v.1 v.2.l=true then .inl ()else .inr (.inl false))
   (by
    rintro j ⟨a,i⟩ hj ⟨rfl,he⟩;have ej:=ez hs hj;rw [IF hj]at he;simp only [ck,ej,zbS];rw [if_pos (by omega)];by_cases c1:v.2.l[j].1<=a
    .rw [if_pos c1];refine .inr ⟨_,rfl,?_⟩;rw [he,decide_eq_false (by omega)];rfl
    rw [if_neg c1];rw [decide_eq_true (show a<v.2.l[j].1 by omega)]at he;by_cases c2:v.2.l[j].1 >= v.1
    .rw [if_pos c2];refine .inr ⟨_,rfl,?_⟩;rw [he,decide_eq_false (by omega)];rfl
    rw [if_neg c2];rw [decide_eq_true (show v.2.l[j].1<v.1 by omega)]at he
    exact .inl ⟨_,rfl,gg hj (by omega),by simpa using he⟩)
   (by
    rintro⟨a,i⟩ ⟨rfl,he⟩;rw [List.drop_length]at he;simp only [ck];rw [if_neg (by omega)]
    exact⟨_,rfl,by rw [he];rfl⟩) 0 (Nat.zero_le _) (-1,0) ⟨rfl,rfl⟩
  rw [q1,q2];cases asc (-1) v.1 v.2.l<;>rfl
theorem qR{v:Vec}(hs:okS 2 v.2)(hl:v.2.l.length<=9223372036854775806):cj v=some (bL v):=by
 rw [jB,xw hs hl];unfold bL;simp only [zbS];split<;>rfl
def go(l:List P2)(y:Int):Nat:=(l.takeWhile λx=>decide (x.1<y)).length
def isI(l:List P2)(y:Int):Bool:=decide (l[go l y]?.map (·.1)=some y)
theorem Lx(l:List P2)(y:Int):go l y<=l.length:=(List.takeWhile_sublist _).length_le
theorem yo{x:P2}{l:List P2}{y:Int}:go (x::l) y=if x.1<y then go l y+1 else 0:=by
 unfold go;rw [List.takeWhile_cons];by_cases h:x.1<y
 .rw [if_pos h,if_pos (by simpa using h)];rfl
 .rw [if_neg h,if_neg (by simpa using h)];rfl
theorem vd{y:Int}:∀{l:List P2} {k:Nat},k<=l.length->(∀j (hj:j<l.length),j<k->l[j].1<y)->(∀j (hj:j<l.length),k<=j->y<=l[j].1)->k=go l y
 | [],k,hk,_,_=>by simp at hk;subst hk;rfl
 |x::l,k,hk,h1,h2=>by
  rw [yo];by_cases hx:x.1<y
  .rw [if_pos hx]
   cases k with
   |zero=>have:=h2 0 (by simp) (Nat.le_refl _);simp at this;omega
   |succ k=>
    refine congrArg (·+1) (vd (l:=l) (by simpa using hk) (λj hj hjk=> ?_) (λj hj hjk=> ?_))
    .have:=h1 (j+1) (by simpa using hj) (by omega);simpa using this
    .have:=h2 (j+1) (by simpa using hj) (by omega);simpa using this
  .rw [if_neg hx]
   cases k with
   |zero=>rfl
   |succ k=>exact absurd (h1 0 (by simp) (by omega)) hx
theorem zR{v:Vec}(hok:okS 2 v.2)(hl:v.2.l.length<=100000)(hs:v.2.l.Pairwise λa b=>a.1<b.1)(y:Int):bY v y=some (((go v.2.l y:Nat):Int),isI v.2.l y):=by
 have hp:=List.pairwise_iff_getElem.1 hs
 have key:∀d a b:Nat,b - a<=d->a<=b->b<=v.2.l.length->(∀j (hj:j<v.2.l.length),j<a->v.2.l[j].1<y)->(∀j (hj:j<v.2.l.length),b<=j->y<=v.2.l[j].1)->∃k:Nat,k<=v.2.l.length/\bF (bu v y) ((a:Int),(b:Int))=some (.inl (k:Int))/\(∀j (hj:j<v.2.l.length),j<k->v.2.l[j].1<y)/\(∀j (hj:j<v.2.l.length),k<=j->y<=v.2.l[j].1):=by
  intro d
  induction d with
  |zero=>
   intro a b hd hab hb h1 h2;obtain rfl:a=b:=by omega
   refine⟨a,hb,ir ?_,h1,h2⟩;simp only [bu];rw [if_neg (by omega)]
  |succ d ih=>
   intro a b hd hab hb h1 h2;by_cases hlt:a<b
   .have hmid:(a+b)/ 2<v.2.l.length:=by omega
    have e1:IntKind.i64.wrap ((a:Int)+(b:Int))=((a+b:Nat):Int):=by rw [wrap64 (by omega) (by omega)];omega
    have e2:IntKind.u64.wrap ((a+b:Nat):Int)=((a+b:Nat):Int):=by rw [wrap_u64];omega
    have e3:uh .u64 ((a+b:Nat):Int) 1=some (((a+b)/ 2:Nat):Int):=by
     unfold uh Ka;rw [if_pos (by omega),show((2:Int)^(min (1:Int).toNat IntKind.u64.bits))=2 from by decide,Int.fdiv_eq_ediv_of_nonneg _ (by omega)];rfl
    have e4:IntKind.i64.wrap (((a+b)/ 2:Nat):Int)=(((a+b)/ 2:Nat):Int):=by rw [wrap64 (by omega) (by omega)]
    have e5:IntKind.i64.wrap ((((a+b)/ 2:Nat):Int)+1)=(((a+b)/ 2+1:Nat):Int):=by rw [wrap64 (by omega) (by omega)];omega
    have a1:=ez hok hmid;by_cases hc:v.2.l[(a+b)/ 2].1 >= y
    .obtain⟨k,k1,k2,k3,k4⟩:=ih a ((a+b)/ 2) (by omega) (by omega) (by omega) h1 (λj hj hja=>by
      by_cases hjm:j=(a+b)/ 2
      .subst hjm;omega
      .have:=hp ((a+b)/ 2) j hmid hj (by omega);omega)
     refine⟨k,k1,(jv ?_).trans k2,k3,k4⟩;simp only [bu,e1,e2,e3,e4,a1,zbS];rw [if_pos (by omega),if_neg (λh=>h hc)]
    .obtain⟨k,k1,k2,k3,k4⟩:=ih ((a+b)/ 2+1) b (by omega) (by omega) hb (λj hj hja=>by
      by_cases hjm:j=(a+b)/ 2
      .subst hjm;omega
      .have:=hp j ((a+b)/ 2) hj hmid (by omega);omega) h2
     refine⟨k,k1,(jv ?_).trans k2,k3,k4⟩;simp only [bu,e1,e2,e3,e4,a1,zbS];rw [if_pos (by omega),if_pos hc,e5]
   .obtain rfl:a=b:=by omega
    exact ih a a (by omega) hab hb h1 h2
 obtain⟨k,k1,k2,k3,k4⟩:=key v.2.l.length 0 v.2.l.length (by omega) (by omega) (Nat.le_refl _) (λj _ h=>by omega) (λj hj h=>by omega);have hk0:=vd k1 k3 k4;rw [xv,show bF (bu v y) (0,((v.2.l.length:Nat):Int))=some (.inl (k:Int))from k2];unfold isI;rw [<-hk0];simp only [zbS,Sum.elim_inl];by_cases hk:k<v.2.l.length
 .rw [if_pos (by omega),ez hok hk];simp only [zbS,List.getElem?_eq_getElem hk,Option.map_some,zsI]
 .rw [if_neg (by omega),List.getElem?_eq_none (by omega)];simp
theorem nr{v:Vec}(hok:okS 2 v.2)(y:Int):bY (bL v) y=some (((go (bL v).2.l y:Nat):Int),isI (bL v).2.l y):=
 zR (zP hok) (by have:=nL v;omega) (mu (sd (vc v))) y
theorem zS{l:List P2}{y:Int}(h:isI l y=true):go l y<l.length:=by
 unfold isI at h;simp only [decide_eq_true_eq]at h;rw [Option.map_eq_some_iff]at h;obtain⟨x,hx,_⟩:=h;exact(List.getElem?_eq_some_iff.1 hx).1
theorem jI{y:Int}:∀{l:List P2},(l.Pairwise λa b=>a.1<b.1)->l.take (go l y)=l.filter (λx=>decide (x.1<y))/\l.drop (go l y)=l.filter (λx=>decide (y<=x.1))
 | [],_=>⟨rfl,rfl⟩
 |x::l,h=>by
  obtain⟨h1,h2⟩:=List.pairwise_cons.1 h;obtain⟨g1,g2⟩:=jI (y:=y) h2;rw [yo];by_cases hx:x.1<y
  .rw [if_pos hx,List.take_succ_cons,List.drop_succ_cons,g1,g2,List.filter_cons_of_pos (by simpa using hx),List.filter_cons_of_neg (by simp;omega)];exact⟨rfl,rfl⟩
  .rw [if_neg hx,List.filter_cons_of_neg (by simpa using hx),List.filter_cons_of_pos (by simp;omega)];refine⟨?_,?_⟩
   .symm
    rw [List.take_zero,List.filter_eq_nil_iff];intro z hz
    have:=h1 z hz
    simp;omega
   .rw [List.drop_zero];congr 1
    symm
    rw [List.filter_eq_self];intro z hz
    have:=h1 z hz
    simp;omega
theorem FN{l:List P2}{y:Int}(h:l.Pairwise λa b=>a.1<b.1):isI l y=true↔∃x∈l,x.1=y:=by
 constructor
 .intro hi;have hlt:=zS hi;unfold isI at hi;rw [List.getElem?_eq_getElem hlt]at hi;simp only [Option.map_some,zsI,decide_eq_true_eq]at hi;exact⟨_,List.getElem_mem hlt,hi⟩
 .rintro⟨x,hx,rfl⟩;have hd:=(jI (y:=x.1) h).2;have hm:x∈l.drop (go l x.1):=by rw [hd];simp [hx]
  have hlt:go l x.1<l.length:=by
   rcases Nat.lt_or_ge (go l x.1) l.length with h|h
   .exact h
   .rw [List.drop_eq_nil_of_le h]at hm;simp at hm
  unfold isI;rw [List.getElem?_eq_getElem hlt];simp only [Option.map_some,zsI,decide_eq_true_eq];have hmem:l[go l x.1]∈l.drop (go l x.1):=by rw [List.drop_eq_getElem_cons hlt];exact List.mem_cons_self
  rw [hd]at hmem;have hge:x.1<=l[go l x.1].1:=by simpa using (List.mem_filter.1 hmem).2
  rw [List.drop_eq_getElem_cons hlt]at hm;rcases List.mem_cons.1 hm with hm|hm
  .rw [<-hm]
  .have hp:=(List.pairwise_cons.1 (by rw [<-List.drop_eq_getElem_cons hlt];exact h.sublist (List.drop_sublist _ _):(l[go l x.1]::l.drop (go l x.1+1)).Pairwise λa b=>a.1<b.1)).1 x hm;omega
end KM
end Ev
end
noncomputable section
open Go.RowKit Go.Sort
namespace Sm
namespace It
open Ev Ev.KM
def okV(x:Sl (Int×Int)):Bool:=decide (x.l.length<=90000)&&(decide (x.sz=2)||x.l.isEmpty)
theorem Oy{w:World}{F:Nat->Prop}{x:Sl (Int×Int)}{y:Value}(hx:x.sz=2∨x.l= [])(h:RepT w F (Sl.t ety.row x) y):∃a c,y= .slice a x.l.length c/\Sl2 w a c x.l/\x.nn=a.isSome/\(∀b,a=some b->x.l≠[]->¬F b.block):=by
 obtain⟨nn,sz,l⟩:=x;unfold Sl.t at h
 cases h with
 |s _ _ _ a c ys hn hc h0 hl hm hr=>
  rw [List.length_map]at hc ⊢;refine⟨a,c,rfl,⟨?_,λha=>⟨h0 ha,by have:=h0 ha;omega⟩,hc⟩,hn,?_⟩
  .intro i hi
   have hsz:sz=2:=by
    rcases hx with h|h
    .exact h
    .simp only at h;rw [h]at hi;simp at hi
   subst hsz;have hil:(l.map ety.row)[i]? =some (ety.row l[i]):=by simp [hi]
   have he:el l i=l[i]:=by simp [el,List.getD_eq_getElem?_getD,hi]
   rw [he]
   have g:∀j v,(ety.row l[i])[j]? =some (.v v)->∃b,a=some b/\b.block<w.heap.size/\w.cell? (b.add (i*2+j))=some v:=by
    intro j v hj;obtain⟨b,h1,h2,_,h3⟩:=hm i _ j _ hil hj;refine⟨b,h1,h2,?_⟩
    have:=hr i _ j _ hil hj
    rw [h3];generalize ys i j=y at this
    cases this with|v x hx=>rfl
   obtain⟨b,e0,h1,c0⟩:=g 0 (.int .i64 l[i].1) rfl;obtain⟨b1,e1,_,c1⟩:=g 1 (.int .i64 l[i].2) rfl;rw [e0]at e1;cases e1;refine⟨b,e0,h1,by simpa using c0,?_⟩;rw [uT]at c1;exact c1
  .intro b hb hne;have h0:0<l.length:=List.length_pos_iff.2 hne;have hil:(l.map ety.row)[0]? =some (ety.row l[0]):=by simp [h0]
   obtain⟨b',h1,_,h2,_⟩:=hm 0 _ 0 (.v (.int .i64 l[0].1)) hil rfl;rw [hb]at h1;cases h1;exact h2
theorem Ly{w:World}{F:Nat->Prop}{a:Option Addr}{c:Nat}{x:Sl (Int×Int)}(hF:∀b,¬F b)(hx:x.sz=2∨x.l= [])(h:Sl2 w a c x.l)(hn:x.nn=a.isSome):RepT w F (Sl.t ety.row x) (.slice a x.l.length c):=by
 obtain⟨nn,sz,l⟩:=x;simp only at hx h hn ⊢;subst hn;by_cases hl:l= []
 .subst hl;exact RepT.s (w:=w) (F:=F) a.isSome sz [] a c (λ_ _=> .nilFunc) rfl (Nat.zero_le _) (λha=>(h.2.1 ha).1) (λi e h=>by simp at h) (λi e j t h=>by simp at h) (λi e j t h=>by simp at h)
 .obtain rfl:sz=2:=hx.resolve_right hl
  cases a with
  |none=>exact absurd (List.eq_nil_of_length_eq_zero (h.2.1 rfl).2) hl
  |some b=>exact rep_of (base:=0) ⟨h.1,h.2.1,h.2.2,λ_ _=>Nat.zero_le _⟩ (λb hb=>(hF b hb).elim) (.inl hl)
set_option maxRecDepth 100000 in
theorem sure_calls{w:World}{F0:Nat->Prop}{n N:Int}{x x2:Sl (Int×Int)}{y1:Value}(hr:RepT w F0 (Sl.t ety.row x) y1)(hL:LD w.heap.size w)(hs:cj (n,x)=some (N,x2))(hx:x2.sz=2∨x2.l= [])(W:World)(hW:Below w.heap.size w W)(hlt:w.heap.size<W.heap.size):
  Calls Tryd.prog 24 #[.agg #[.int .i64 n,y1]] W λe w'=>∃a2 c2,e= .returned (.agg #[.int .i64 N,.slice a2 x2.l.length c2])/\Sl2 w' a2 c2 x2.l/\x2.nn=a2.isSome/\(∀b,a2=some b->x2.l≠[]->b.block≠w.heap.size)/\Below W.heap.size W w':=by
 obtain⟨fr,hP⟩:=K.uW 0 (n,x) (N,x2) hs;have h:=RunsP.pure K.rY hP;refine(h W (λb=>b=w.heap.size) [.agg #[.int .i64 n,y1]] (LD.below hL hW) (λb hb=>by rw [hb];exact hlt) ⟨rfl,λi t hi=> ?_⟩).mono ?_
 .have h0:i=0:=by
   have h1:i<1:=(List.getElem?_eq_some_iff.1 hi).1;omega
  subst h0;cases hi;exact⟨_,rfl,vec (hr.mono hW.size λb hlt _ hn=>⟨hW.block b hlt,λhf=>by omega⟩)⟩
 .rintro e w' ⟨y,rfl,hres,_,hbl⟩;replace hres:RepTD w' (λb=>b<W.heap.size/\(cond fr Kind.fresh Kind.any≠ .any∨b=w.heap.size)) (.agg [iT .i64 N,Sl.t ety.row x2]) y:=hres
  cases hres with
  |agg _ ys hh=>
   obtain⟨hl,hi⟩:=hh
   match ys,hl with
   | [u0,u1],_=>
    obtain⟨u,e1,e2⟩:=hi 0 _ rfl;simp only [List.getElem?_cons_zero,zsI]at e1;subst e1;obtain⟨u,e1,e3⟩:=hi 1 _ rfl;simp only [List.getElem?_cons_succ,List.getElem?_cons_zero,zsI]at e1;subst e1
    have eu:u0= .int .i64 N:=by cases e2 with|v x hx=>rfl
    subst eu;obtain⟨a2,c2,rfl,h1,h2,h3⟩:=Oy hx e3;exact⟨a2,c2,rfl,h1,h2,λb hb hne he=>h3 b hb hne ⟨by rw [he];exact hlt,.inr he⟩,hbl⟩
set_option maxRecDepth 100000 in
theorem find_calls{w:World}{N pl fi:Int}{is:Bool}{x2:Sl (Int×Int)}(hL:LD w.heap.size w)(hf:bY (N,x2) pl=some (fi,is))(hx:x2.sz=2∨x2.l= [])(a2:Option Addr)(c2:Nat)(W:World)(hW:Below w.heap.size w W)(hs:Sl2 W a2 c2 x2.l)(hn:x2.nn=a2.isSome):
  Calls Tryd.prog 25 #[.agg #[.int .i64 N,.slice a2 x2.l.length c2],.int .i64 pl] W λe w'=>e= .returned (.tuple #[.int .i64 fi,.bool is])/\Below W.heap.size W w':=by
 have h:=RunsP.pure K.rY (K.uX 0 ((N,x2),pl) (fi,is) hf);refine(h W (λ_=>False) [.agg #[.int .i64 N,.slice a2 x2.l.length c2],.int .i64 pl] (LD.below hL hW) (λ_ h=>h.elim) ⟨rfl,λi t hi=> ?_⟩).mono λe w' ⟨y',e1,e2,_,e3⟩=>⟨?_,e3⟩
 .match i,hi with
  |0,hi=>cases hi;exact⟨_,rfl,vec (Ly (λ_ h=>h) hx hs hn)⟩
  |1,hi=>cases hi;exact⟨_,rfl,.one _ _ (.v _ rfl)⟩
  |i+2,hi=>exact absurd hi (by show¬([_,_]:List TD)[i+2]? =some t;simp)
 .rw [e1,Ox (x:= .tuple #[.int .i64 fi,.bool is]) rfl w' _ e2]
end It
namespace Dr
open Ev Ev.KM
abbrev Vc:K.Ty:= .C (.I .i64) (.S It.ety)
abbrev ins:List K.TyD:= [(true,Vc),(false,.I .i64)]
abbrev outs:List K.TyD:= [(true,Vc)]
def fnO(a:(Int×Sl (Int×Int))×Int):Option (Int×Sl (Int×Int)):=
 (cj a.1).bind λs=>(bY s a.2).bind λf=>
  if It.okV s.2=true/\0<=f.1/\(f.2=true->f.1<s.2.l.length)then some (s.1,⟨s.2.nn,2,if f.2=true then s.2.l.take f.1.toNat++s.2.l.drop (f.1.toNat+1)else s.2.l⟩)else none
theorem ve(a:K.vals ins)(o:K.vals outs)(h:fnO a=some o):cY Tryd.prog 14 (K.fp ins a) .fresh (K.fp outs o):=by
 obtain⟨⟨n,x⟩,pl⟩:=a;change Int at n;change Sl (Int×Int)at x;change Int at pl;unfold fnO at h;simp only [zbE]at h;obtain⟨⟨N,x2⟩,hs,⟨fi,is⟩,hf,h⟩:=h;simp only at hs hf h;split at h
 rotate_left
 .cases h
 rename_i hc;obtain⟨hok,h0,hlt⟩:=hc;cases h;simp only [It.okV,Bool.and_eq_true,Bool.or_eq_true,decide_eq_true_eq,List.isEmpty_iff]at hok;intro w F ys hL hF hr;obtain⟨hlen,hi⟩:=hr
 match ys,hlen with
 | [y0,y1],_=>
  obtain⟨y,e1,e2⟩:=hi 0 _ rfl;simp only [List.getElem?_cons_zero,zsI]at e1;subst e1;obtain⟨y,e1,e4⟩:=hi 1 _ rfl;simp only [List.getElem?_cons_succ,List.getElem?_cons_zero,zsI]at e1;subst e1
  have ey:y1= .int .i64 pl:=by
   cases e4 with
   |one t y h=>cases h with|v x hx=>rfl
  subst ey;replace e2:RepTD w F (.agg [iT .i64 n,Sl.t It.ety.row x]) y0:=e2
  cases e2 with
  |agg _ us hh=>
   obtain⟨hl,hi2⟩:=hh
   match us,hl with
   | [u0,u1],_=>
    obtain⟨u,e1,e2⟩:=hi2 0 _ rfl;simp only [List.getElem?_cons_zero,zsI]at e1;subst e1;obtain⟨u,e1,e3⟩:=hi2 1 _ rfl;simp only [List.getElem?_cons_succ,List.getElem?_cons_zero,zsI]at e1;subst e1
    have eu:u0= .int .i64 n:=by cases e2 with|v x hx=>rfl
    subst eu
    obtain⟨ad,k,c,rfl⟩:∃a n c,u1= .slice a n c:=by
     unfold Sl.t at e3
     cases e3 with
     |s _ _ _ a c ys hn=>exact⟨_,_,_,rfl⟩
    obtain⟨i,rfl⟩:∃i:Nat,fi=(i:Int):=⟨fi.toNat,by omega⟩;have hw:=It.drop_walk n ad k c pl w N x2.nn x2.l i is hok.1 (λh=>by have:=hlt h;omega) (λW hW hlt2=>It.sure_calls e3 hL hs hok.2 W hW hlt2) (λa2 c2 W hW h2 hn=>It.find_calls hL hf hok.2 a2 c2 W hW h2 hn);refine hw.mono ?_;rintro e w' ⟨v,rfl,⟨r,hr,hown⟩,hbl,hv1,hv2⟩;refine⟨_,rfl,?_,λhk=>(by cases hk),hbl⟩;have e9:(if is=true then x2.l.take (i:Int).toNat++x2.l.drop ((i:Int).toNat+1)else x2.l)=r:=by rw [hr];rfl
    refine It.vec (t:=Sl.t It.ety.row ⟨x2.nn,2,if is=true then x2.l.take (i:Int).toNat++x2.l.drop ((i:Int).toNat+1)else x2.l⟩) ?_;rw [e9];obtain⟨_,a',c',e,hcap,hrd,hz⟩:=It.row_rdE hown;subst e
    cases a' with
    |none=>
     have hr0:r= []:=List.eq_nil_of_length_eq_zero (hz rfl).2
     have hnn:x2.nn=false:=by
      cases hq:x2.nn with
      |false=>rfl
      |true=>obtain⟨k,hk⟩:=hv2 hq;cases hk
     rw [hnn,hr0];obtain⟨rfl,_⟩:=hz rfl;exact RepT.s false 2 [] none 0 (λ_ _=> .nilFunc) rfl (Nat.le_refl _) (λ_=>rfl) (λi e h=>by simp at h) (λi e j t h=>by simp at h) (λi e j t h=>by simp at h)
    |some b=>
     have hnn:x2.nn=true:=by
      cases hq:x2.nn with
      |true=>rfl
      |false=>have:=hv1 hq;cases this
     rw [hnn];refine It.rep_of (base:=w.heap.size) ⟨hrd,hz,hcap,λb' hb'=> ?_⟩ (λb hb=>hb.1) (.inr (by simp));cases hb';exact(hown.lt b.block rfl).1
def fn(a:(Int×Sl (Int×Int))×Int):Option (Int×Sl (Int×Int)):=
 if(a.1.2.sz=2∨a.1.2.l= [])/\a.1.2.l.length<=80000 then
  some ((bL a.1).1,⟨(bL a.1).2.nn,2,if isI (bL a.1).2.l a.2=true then(bL a.1).2.l.take (go (bL a.1).2.l a.2)++(bL a.1).2.l.drop (go (bL a.1).2.l a.2+1)else(bL a.1).2.l⟩)else none
theorem vh(a:(Int×Sl (Int×Int))×Int)(o:Int×Sl (Int×Int))(h:fn a=some o):fnO a=some o:=by
 unfold fn at h;rw [Option.ite_none_right_eq_some]at h;obtain⟨⟨h1,h3⟩,h⟩:=h;have hok:okS 2 a.1.2:=h1.elim .inr .inl;have s1:=zP hok;have s3:=nL a.1;unfold fnO;rw [qR hok (by omega)];simp only [zbS];rw [nr hok];simp only [zbS,Int.toNat_natCast];refine(if_pos ⟨?_,by omega,?_⟩).trans h
 .simp only [It.okV,Bool.and_eq_true,Bool.or_eq_true,decide_eq_true_eq,List.isEmpty_iff];exact⟨by omega,s1.elim .inr .inl⟩
 .intro hi
  have:=zS hi;omega
theorem pure_ok(a:K.vals ins)(o:K.vals outs)(h:fn a=some o):cY Tryd.prog 14 (K.fp ins a) .fresh (K.fp outs o):=ve a o (vh a o h)
theorem enters:Ev.Enters Tryd.prog 14:=⟨_,_,Tryd.func14,by kernel_rfl,by unfold Tryd.f14;rfl⟩
end Dr
end Sm
end
noncomputable section
open Go.RowKit Go.Sort
namespace Sm
namespace It
theorem vi:∀(L:List Ed) (i:Nat) (v:Int),i<L.length->(au L).set (i*2+1) (.int .i64 v)=au (L.set i ((el L i).1,v))
 | [],i,v,h=>by simp at h
 |e::l,0,v,h=>by simp [gr,enc,el]
 |e::l,i+1,v,h=>by
  have ih:=vi l i v (by simpa using h);have e2:(i+1)*2+1=i*2+1+1+1:=by omega
  rw [gr,e2];show(.int .i64 e.1:: .int .i64 e.2::au l).set (i*2+1+1+1) (.int .i64 v)=_;rw [List.set_cons_succ,List.set_cons_succ,ih];rfl
theorem FO(base n i g c:Nat)(L:List Ed)(v:Int)(w:World)(h:w.ownsRow base 46 2 (.slice (some ⟨g,0,none⟩) n c) n (au L))(hn:n=L.length)(hi:i<n):(w.setCell ⟨g,i*2+1,none⟩ (.int .i64 v)).ownsRow base 46 2 (.slice (some ⟨g,0,none⟩) n c) n (au (L.set i ((el L i).1,v))):=by
 refine⟨by rw [bG,List.length_set,hn],?_⟩;rcases h.2 with⟨e,_⟩|⟨g',cap,cur,e,hb,hg,h1,h2,h3,h4⟩
 .cases e
 .cases e;refine .inr ⟨g,c,cur.setIfInBounds (i*2+1) (.int .i64 v),rfl,hb,?_,h1,h2,by simpa using h3,?_⟩
  .rw [setCell_eq_setRow w g (i*2+1) cur _ (0,0) _ hg];exact setRow_heap w g cur _ _ _ hg
  .rw [<-vi L i v (by omega),<-h4,Array.toList_setIfInBounds,List.take_set]
set_option maxRecDepth 100000 in
set_option maxHeartbeats 4000000 in
theorem put_walk(n:Int)(a:Option Addr)(k c:Nat)(pl val:Int)(w:World)(N:Int)(nn:Bool)(m:List Ed)(i:Nat)(is:Bool)(hm:m.length<=80000)(hi:if is=true then i<m.length else i<=m.length)
  (hSure:∀W,Below w.heap.size w W->w.heap.size<W.heap.size->Calls Tryd.prog 24 #[.agg #[.int .i64 n,.slice a k c]] W λe w'=>∃a2 c2,e= .returned (.agg #[.int .i64 N,.slice a2 m.length c2])/\Sl2 w' a2 c2 m/\nn=a2.isSome/\(∀b,a2=some b->m≠[]->b.block≠w.heap.size)/\Below W.heap.size W w')
  (hFind:∀a2 c2 W,Below w.heap.size w W->Sl2 W a2 c2 m->nn=a2.isSome->Calls Tryd.prog 25 #[.agg #[.int .i64 N,.slice a2 m.length c2],.int .i64 pl] W λe w'=>e= .returned (.tuple #[.int .i64 (i:Int),.bool is])/\Below W.heap.size W w'):
  Calls Tryd.prog 12 #[.agg #[.int .i64 n,.slice a k c],.int .i64 pl,.int .i64 val] w λe w'=>∃v,e= .returned (.agg #[.int .i64 N,v])/\(∃r,r=(if pl<0∨N<=pl then m else if is=true then m.set i ((el m i).1,val)else m.take i++(pl,val)::m.drop i)/\w'.ownsRow w.heap.size 46 2 v r.length (au r))/\Below w.heap.size w w'/\(nn=false->m= []->(pl<0∨N<=pl)->v= .slice none 0 0)/\(nn=true->∃k,v.ownBlock=some k):=by
 have HS:=Lib.hid hSure;have HF:=Lib.hid hFind;clear hSure hFind
 go_enter Tryd.func12,Tryd.ntmps12
 go_wp2_with fail
 refine(HS.out _ (bl2 w _ _) (by simp;omega)).mono ?_;rintro x w1 ⟨a2,c2,rfl,hs,hnn,hnV,hb1⟩
 have hV1:CellsAt w1 w.heap.size 25 #[.int .i64 n,.slice a k c]:=by
  have h1:CellsAt (w.alloc (.cells #[.int .i64 n,.slice a k c] 25)) w.heap.size 25 #[.int .i64 n,.slice a k c]:=World.alloc_heap_new w _;exact(h1.below (bl1 _ (.cells #[.int .i64 0,.slice none 0 0] 25))).below hb1
 have hR1:CellsAt w1 (w.heap.size+1) 25 #[.int .i64 0,.slice none 0 0]:=by
  have h1:CellsAt ((w.alloc (.cells #[.int .i64 n,.slice a k c] 25)).alloc (.cells #[.int .i64 0,.slice none 0 0] 25)) (w.alloc (.cells #[.int .i64 n,.slice a k c] 25)).heap.size 25 #[.int .i64 0,.slice none 0 0]:=World.alloc_heap_new _ _;rw [World.size_alloc]at h1;exact h1.below hb1
 have hbw1:Below w.heap.size w w1:=(bl2 w _ _).trans (hb1.mono (bl2 w _ _).size);have hV0:w.heap.size<=w.heap.size:=Nat.le_refl _;have hR0:w.heap.size<=w.heap.size+1:=by omega
 have hVR:w.heap.size≠w.heap.size+1:=by omega
 generalize w.heap.size+1=RB at hR1 hR0 hVR ⊢;obtain⟨VB,hVB⟩:∃VB,VB=w.heap.size:=⟨_,rfl⟩;have HVB:=Lib.hid hVB;rw [<-hVB]at hV1 hVR hnV ⊢;clear hVB hb1;have v0:w1.cell? ⟨VB,0,none⟩=some (.int .i64 n):=hV1.cell 0;have v1:w1.cell? ⟨VB,1,none⟩=some (.slice a k c):=hV1.cell 1;have f0:=hV1.frozen 0;have f1:=hV1.frozen 1;have kV:=Has.of hV1.lt
 go_wp2_with fail
 have hg1:=aH w1 VB 0 (.int .i64 N);have hg2:=aH (w1.setCell ⟨VB,0,none⟩ (.int .i64 N)) VB 1 (.slice a2 m.length c2);have hV2:CellsAt ((w1.setCell ⟨VB,0,none⟩ (.int .i64 N)).setCell ⟨VB,1,none⟩ (.slice a2 m.length c2)) VB 25 #[.int .i64 N,.slice a2 m.length c2]:=by simpa using (hV1.set 0 (.int .i64 N)).set 1 (.slice a2 m.length c2)
 have hR2:CellsAt ((w1.setCell ⟨VB,0,none⟩ (.int .i64 N)).setCell ⟨VB,1,none⟩ (.slice a2 m.length c2)) RB 25 #[.int .i64 0,.slice none 0 0]:=iw (iw hR1 (Ne.symm hVR) _ _) (Ne.symm hVR) _ _;have hB2:Below w.heap.size w ((w1.setCell ⟨VB,0,none⟩ (.int .i64 N)).setCell ⟨VB,1,none⟩ (.slice a2 m.length c2)):=bls (bls hbw1 (by rw [HVB.out];exact Nat.le_refl _) _) (by rw [HVB.out];exact Nat.le_refl _) _;have hs2:Sl2 ((w1.setCell ⟨VB,0,none⟩ (.int .i64 N)).setCell ⟨VB,1,none⟩ (.slice a2 m.length c2)) a2 c2 m:=⟨(hs.1.grownN hg1 hnV).grownN hg2 hnV,hs.2⟩;generalize (w1.setCell ⟨VB,0,none⟩ (.int .i64 N)).setCell ⟨VB,1,none⟩ (.slice a2 m.length c2)=W2 at hV2 hR2 hB2 hs2 ⊢;have hCL:=λW (hW:Below W2.heap.size W2 W)=>uY a2 m c2 W (hs2.1.below hW) hs2.2.1 (by omega);have HC:=Lib.hid hCL;have mixed:Tryd.prog.follows Departure.mixedOrders=true:=by kernel_rfl
 have bd:Below W2.heap.size W2 W2.drew:=⟨rfl,rfl,rfl,Nat.le_refl _,λ_ _=>rfl⟩;have bd2:∀X,Below W2.heap.size W2 (W2.drew.alloc X):=λX=>bla bd X;have bd3:∀X,Below W2.heap.size W2 ((W2.alloc X).drew):=λX=>bla bd X;have hlV:=hV2.lt;have c0:W2.cell? ⟨VB,0,none⟩=some (.int .i64 N):=hV2.cell 0;have c1:W2.cell? ⟨VB,1,none⟩=some (.slice a2 m.length c2):=hV2.cell 1;have hkp:∀W,Below W2.heap.size W2 W->W.cell? ⟨VB,0,none⟩=some (.int .i64 N)/\W.cell? ⟨VB,1,none⟩=some (.slice a2 m.length c2):=λW hW=>⟨(hW.cell (p:=⟨VB,0,none⟩) hlV).trans c0,(hW.cell (p:=⟨VB,1,none⟩) hlV).trans c1⟩;clear v0 v1 f0 f1 kV hg1 hg2 hV1 hR1 hbw1 hs hnV c0 c1
 go_region_held3 (λW=>W.cell? ⟨VB,0,none⟩=some (.int .i64 N)/\W.cell? ⟨VB,1,none⟩=some (.slice a2 m.length c2)) (first|exact hkp _ bd|exact hkp _ (bd2 _)|exact hkp _ (bd3 _)|exact hkp _ hBX|exact hkp _ (bla hBX _)|exact hkp _ (bls hBX (Nat.le_refl _) _)|exact hkp _ (bls (bls hBX (Nat.le_refl _) _) (Nat.le_refl _) _)|fail) (first|(go_at_call 34;refine(hCL _ (by first|exact bd|exact bd2 _|exact bd3 _)).mono ?_;rintro e w3 ⟨v,rfl,hown,hb3,hv1,hv2⟩;obtain⟨a6,c6,rfl,ha6⟩:=rX hown;have hBX:Below W2.heap.size W2 w3:=(by first|exact bd.trans hb3|exact(bd2 _).trans (hb3.mono (bd2 _).size)|exact(bd3 _).trans (hb3.mono (bd3 _).size));(first|(have hO:CellsAt w3 W2.heap.size 25 #[.int .i64 0,.slice none 0 0]:=CellsAt.below (show CellsAt (W2.alloc (.cells #[.int .i64 0,.slice none 0 0] 25)).drew W2.heap.size 25 #[.int .i64 0,.slice none 0 0]from World.alloc_heap_new W2 _) hb3;have o0:w3.cell? ⟨W2.heap.size,0,none⟩=some (.int .i64 0):=hO.cell 0;have o1:w3.cell? ⟨W2.heap.size,1,none⟩=some (.slice none 0 0):=hO.cell 1;have of0:=hO.frozen 0;have of1:=hO.frozen 1;have kO:=Has.of hO.lt)|skip)))
 all_goals first
  |(have hO4:CellsAt (w3.alloc (.cells #[.int .i64 N,.slice a6 m.length c6] 25)) w3.heap.size 25 #[.int .i64 N,.slice a6 m.length c6]:=World.alloc_heap_new w3 _
    have hown4:=(gZ hown (show W2.heap.size<=_ from Nat.le_refl _)).alloc (.cells #[.int .i64 N,.slice a6 m.length c6] 25);have hB4:Below W2.heap.size W2 (w3.alloc (.cells #[.int .i64 N,.slice a6 m.length c6] 25)):=bla hBX _;have hOg:∀q,(Value.slice a6 m.length c6).ownBlock=some q->q≠w3.heap.size:=λq hq=>by have:=(hown.lt q hq).2;omega
    have hOW:W2.heap.size<=w3.heap.size:=hBX.size;clear hown hb3 hBX;generalize w3.alloc (.cells #[.int .i64 N,.slice a6 m.length c6] 25)=W4 at hO4 hown4 hB4 ⊢
    generalize w3.heap.size=OB at hO4 hOg hOW ⊢)
  |(have hO4:CellsAt ((w3.setCell ⟨W2.heap.size,0,none⟩ (.int .i64 N)).setCell ⟨W2.heap.size,1,none⟩ (.slice a6 m.length c6)) W2.heap.size 25 #[.int .i64 N,.slice a6 m.length c6]:=by simpa using (hO.set 0 (.int .i64 N)).set 1 (.slice a6 m.length c6)
    have hOg:∀q,(Value.slice a6 m.length c6).ownBlock=some q->q≠W2.heap.size:=λq hq=>by have:=(hown.lt q hq).1;simp at this;omega
    have hown4:=((gZ hown (show W2.heap.size<=_ from by simp)).kept (aH w3 W2.heap.size 0 (.int .i64 N)) (.inr (λe=>hOg _ e rfl))).kept (aH _ W2.heap.size 1 (.slice a6 m.length c6)) (.inr (λe=>hOg _ e rfl));have hB4:Below W2.heap.size W2 ((w3.setCell ⟨W2.heap.size,0,none⟩ (.int .i64 N)).setCell ⟨W2.heap.size,1,none⟩ (.slice a6 m.length c6)):=bls (bls hBX (Nat.le_refl _) _) (Nat.le_refl _) _;have hOW:W2.heap.size<=W2.heap.size:=Nat.le_refl _;clear hown hb3 hBX hO o0 o1 of0 of1 kO;generalize (w3.setCell ⟨W2.heap.size,0,none⟩ (.int .i64 N)).setCell ⟨W2.heap.size,1,none⟩ (.slice a6 m.length c6)=W4 at hO4 hown4 hB4 ⊢;obtain⟨OB,hOB⟩:∃OB,OB=W2.heap.size:=⟨_,rfl⟩;rw [<-hOB]at hO4 hOg ⊢;replace hOW:W2.heap.size<=OB:=by omega
    clear hOB)
 all_goals (
  have hlV:=hV2.lt;have hlR:=hR2.lt;have hV4:=hV2.below hB4;have hR4:=hR2.below hB4;have hs4:Sl2 W4 a2 c2 m:=⟨hs2.1.below hB4,hs2.2⟩;have hBW4:Below w.heap.size w W4:=hB2.trans (hB4.mono hB2.size);have hBS:=hB2.size;have hOV:OB≠VB:=by omega
  have hOR:OB≠RB:=by omega
  have c0:W4.cell? ⟨VB,0,none⟩=some (.int .i64 N):=hV4.cell 0;have c1:W4.cell? ⟨VB,1,none⟩=some (.slice a2 m.length c2):=hV4.cell 1;have kV:=Has.of hV4.lt;have hv2':nn=true->∃k,(Value.slice a6 m.length c6).ownBlock=some k:=λh=>hv2 (by rintro rfl;rw [hnn]at h;cases h);have hv1':nn=false->Value.slice a6 m.length c6= .slice none 0 0:=λh=>hv1 (by rw [hnn]at h;simpa using h);have HV1:=Lib.hid hv1';have HV2:=Lib.hid hv2';have HNN:=Lib.hid hnn;have HI:=Lib.hid hi;have o0:W4.cell? ⟨OB,0,none⟩=some (.int .i64 N):=hO4.cell 0;have o1:W4.cell? ⟨OB,1,none⟩=some (.slice a6 m.length c6):=hO4.cell 1;have r0:W4.cell? ⟨RB,0,none⟩=some (.int .i64 0):=hR4.cell 0;have r1:W4.cell? ⟨RB,1,none⟩=some (.slice none 0 0):=hR4.cell 1;have f0:=hR4.frozen 0;have f1:=hR4.frozen 1;have kO:=Has.of hO4.lt;have kR:=Has.of hR4.lt;clear hv1 hv2 hv1' hv2' hnn hi hV2 hR2 hB2 hs2 hkp bd bd2 bd3 hCL;have hRo:∀q,(Value.slice a6 m.length c6).ownBlock=some q->q≠RB:=λq hq=>by have:=(hown4.lt q hq).1;omega
  by_cases hp1:pl<0
  .go_wp2_with fail
   refine bodyPost_ret (v:= .agg #[.int .i64 N,.slice a6 m.length c6]) ?_ rfl ⟨_,rfl,?_,?_,?_,?_⟩
   .have hCF:CellsAt ((W4.setCell ⟨RB,0,none⟩ (.int .i64 N)).setCell ⟨RB,1,none⟩ (.slice a6 m.length c6)) RB 25 #[.int .i64 N,.slice a6 m.length c6]:=by simpa using (hR4.set 0 (.int .i64 N)).set 1 (.slice a6 m.length c6)
    have k0:=hCF.cell 0;have k1:=hCF.cell 1;simp at k0 k1;simp [results,Tryd.results12,go_sem,k0,k1]
   .exact gZ ((hown4.kept (aH W4 RB 0 (.int .i64 N)) (.inr (λe=>hRo _ e rfl))).kept (aH _ RB 1 (.slice a6 m.length c6)) (.inr (λe=>hRo _ e rfl))) hBS
   .exact bls (bls hBW4 hR0 _) hR0 _
   .intro h;intros;exact HV1.out h
   .exact HV2.out
  .by_cases hp2:N<=pl
   .go_wp2_with fail
    refine bodyPost_ret (v:= .agg #[.int .i64 N,.slice a6 m.length c6]) ?_ rfl ⟨_,rfl,?_,?_,?_,?_⟩
    .have hCF:CellsAt ((W4.setCell ⟨RB,0,none⟩ (.int .i64 N)).setCell ⟨RB,1,none⟩ (.slice a6 m.length c6)) RB 25 #[.int .i64 N,.slice a6 m.length c6]:=by simpa using (hR4.set 0 (.int .i64 N)).set 1 (.slice a6 m.length c6)
     have k0:=hCF.cell 0;have k1:=hCF.cell 1;simp at k0 k1;simp [results,Tryd.results12,go_sem,k0,k1]
    .exact gZ ((hown4.kept (aH W4 RB 0 (.int .i64 N)) (.inr (λe=>hRo _ e rfl))).kept (aH _ RB 1 (.slice a6 m.length c6)) (.inr (λe=>hRo _ e rfl))) hBS
    .exact bls (bls hBW4 hR0 _) hR0 _
    .intro h;intros;exact HV1.out h
    .exact HV2.out
   .go_wp2_with fail
    refine(HF.out a2 c2 W4 hBW4 hs4 HNN.out).mono ?_;rintro x w5 ⟨rfl,hb5⟩;have hO5:=hO4.below hb5;have hR5:=hR4.below hb5;have hown5:=hown4.kept (mt hb5 none) (Classical.em _);have hBW5:Below w.heap.size w w5:=hBW4.trans (hb5.mono hBW4.size);have hW5:=hb5.size;have hOB1:=hO5.lt;clear hO4 hR4 hown4 hBW4 hs4 hV4 c0 c1 kV o0 o1 r0 r1 f0 f1 kO kR;have o0:w5.cell? ⟨OB,0,none⟩=some (.int .i64 N):=hO5.cell 0;have o1:w5.cell? ⟨OB,1,none⟩=some (.slice a6 m.length c6):=hO5.cell 1;have kO:=Has.of hO5.lt;cases is
    .have hi2:i<=m.length:=by simpa using HI.out
     have HD:=Lib.hid (DC W2.heap.size m.length i w5.heap.size a6 c6 m (pl,val) (w5.alloc (.cells #[.int .i64 pl,.int .i64 val] 46)) (hown5.alloc _) rfl (by omega) hi2 (by simp;omega) (heap_alloc_new w5 _) (λe=>by have:=(hown5.lt _ e).2;omega))
     go_wp2_with fail
     refine HD.out.mono ?_;rintro x w6 ⟨v7,rfl,hown6,hg6⟩;obtain⟨g7,c7,rfl,hgb,hgl⟩:=FH hown6 (by omega);have hO6:=(hO5.below (bl1 w5 (.cells #[.int .i64 pl,.int .i64 val] 46))).grown hg6 (λe=>hOg _ e.symm rfl);have hR6:=(hR5.below (bl1 w5 (.cells #[.int .i64 pl,.int .i64 val] 46))).grown hg6 (λe=>hRo _ e.symm rfl);have hBW6:Below w.heap.size w w6:=(bla hBW5 _).trans ((rW hg6 (λq hq=>Nat.le_trans hBS (hown5.lt q hq).1) (bla hBW5 _).size).mono (Nat.le_refl _))
     have hgO:g7≠OB:=by
      rintro rfl;rcases hown6.2 with⟨e,_⟩|⟨g,cap,cur,e,_,hg,_⟩
      .cases e
      .cases e;have h9:w6.heap[g7]? =some (.cells #[.int .i64 N,.slice a6 m.length c6] 25 (0,0)):=hO6;rw [hg]at h9;simp at h9
     have hgR:g7≠RB:=by omega
     clear hO5 hR5 hown5 hBW5 o0 o1 kO HD hg6;have o0:w6.cell? ⟨OB,0,none⟩=some (.int .i64 N):=hO6.cell 0;have o1:w6.cell? ⟨OB,1,none⟩=some (.slice a6 m.length c6):=hO6.cell 1;have r0:w6.cell? ⟨RB,0,none⟩=some (.int .i64 0):=hR6.cell 0;have r1:w6.cell? ⟨RB,1,none⟩=some (.slice none 0 0):=hR6.cell 1;have f0:=hR6.frozen 0;have f1:=hR6.frozen 1;have g0:=hO6.frozen 0;have g1:=hO6.frozen 1;have kO:=Has.of hO6.lt;have kR:=Has.of hR6.lt
     go_wp2_with fail
     have hR7:=iw hR6 (Ne.symm hOR) (.slice (some ⟨g7,0,none⟩) (m.length+1) c7) 1;have hO0:w.heap.size<=OB:=by omega
     have h9:=gZ (((hown6.kept (aH w6 OB 1 (.slice (some ⟨g7,0,none⟩) (m.length+1) c7)) (.inr (by simpa [Value.ownBlock]using hgO))).kept (aH _ RB 0 (.int .i64 N)) (.inr (by simpa [Value.ownBlock]using hgR))).kept (aH _ RB 1 (.slice (some ⟨g7,0,none⟩) (m.length+1) c7)) (.inr (by simpa [Value.ownBlock]using hgR))) hBS;have hCF:CellsAt (((w6.setCell ⟨OB,1,none⟩ (.slice (some ⟨g7,0,none⟩) (m.length+1) c7)).setCell ⟨RB,0,none⟩ (.int .i64 N)).setCell ⟨RB,1,none⟩ (.slice (some ⟨g7,0,none⟩) (m.length+1) c7)) RB 25 #[.int .i64 N,.slice (some ⟨g7,0,none⟩) (m.length+1) c7]:=by simpa using (hR7.set 0 (.int .i64 N)).set 1 (.slice (some ⟨g7,0,none⟩) (m.length+1) c7)
     have k0:=hCF.cell 0;have k1:=hCF.cell 1;simp at k0 k1;refine bodyPost_ret (v:= .agg #[.int .i64 N,.slice (some ⟨g7,0,none⟩) (m.length+1) c7]) (by simp [results,Tryd.results12,go_sem,k0,k1]) rfl ?_;have e9:i+(m.length - i+1)=m.length+1:=by omega
     rw [e9];exact⟨_,rfl,h9,bls (bls (bls hBW6 hO0 _) hR0 _) hR0 _,λ_=>⟨g7,rfl⟩⟩
    .have hi2:i<m.length:=by simpa using HI.out
     obtain⟨g6,c6',e6,hgb,hgl⟩:=FH hown5 (by omega);cases e6;have hgO:g6≠OB:=hOg g6 rfl;have hgR:g6≠RB:=hRo g6 rfl;have t1:w5.cell? ⟨g6,i*2+1,none⟩=some (.int .i64 (el m i).2):=by rw [hown5.cellAt (i*2+1) (by omega),oA m i 1 hi2 (by omega)];rfl
     have tf:=hown5.frozenAt (i*2+1);have kg:=Has.of hgl;have hR6:=hR5.grown (aH w5 g6 (i*2+1) (.int .i64 val)) (by simpa using hgR.symm);have r0:w5.cell? ⟨RB,0,none⟩=some (.int .i64 0):=hR5.cell 0;have r1:w5.cell? ⟨RB,1,none⟩=some (.slice none 0 0):=hR5.cell 1;have f0:=hR5.frozen 0;have f1:=hR5.frozen 1;have kR:=Has.of hR5.lt;have hj0:(0:Int)<=(i:Int):=by omega
     have hj1:(i:Int)<(m.length:Int):=by omega
     go_wp2_with fail
     refine bodyPost_ret (v:= .agg #[.int .i64 N,.slice (some ⟨g6,0,none⟩) m.length c6]) ?_ rfl ⟨_,rfl,?_,?_,λ_=>⟨g6,rfl⟩⟩
     .have hCF:CellsAt (((w5.setCell ⟨g6,i*2+1,none⟩ (.int .i64 val)).setCell ⟨RB,0,none⟩ (.int .i64 N)).setCell ⟨RB,1,none⟩ (.slice (some ⟨g6,0,none⟩) m.length c6)) RB 25 #[.int .i64 N,.slice (some ⟨g6,0,none⟩) m.length c6]:=by simpa using (hR6.set 0 (.int .i64 N)).set 1 (.slice (some ⟨g6,0,none⟩) m.length c6)
      have k0:=hCF.cell 0;have k1:=hCF.cell 1;simp at k0 k1;simp [results,Tryd.results12,go_sem,k0,k1]
     .exact gZ (((FO W2.heap.size m.length i g6 c6 m val w5 hown5 rfl hi2).kept (aH _ RB 0 (.int .i64 N)) (.inr (by simpa [Value.ownBlock]using hgR))).kept (aH _ RB 1 (.slice (some ⟨g6,0,none⟩) m.length c6)) (.inr (by simpa [Value.ownBlock]using hgR))) hBS
     .exact bls (bls (bls hBW5 (by show w.heap.size<=g6;omega) _) hR0 _) hR0 _)
end It
end Sm
end
noncomputable section
open Go.RowKit Go.Sort
namespace Sm
namespace Pu
open Ev Ev.KM
abbrev Vc:K.Ty:= .C (.I .i64) (.S It.ety)
abbrev ins:List K.TyD:= [(true,Vc),(false,.I .i64),(false,.I .i64)]
abbrev outs:List K.TyD:= [(true,Vc)]
def out(l:List (Int×Int))(N pl val:Int)(i:Nat)(is:Bool):List (Int×Int):=if pl<0∨N<=pl then l else if is=true then l.set i ((It.el l i).1,val)else l.take i++(pl,val)::l.drop i
def fnO(a:(Int×Sl (Int×Int))×Int×Int):Option (Int×Sl (Int×Int)):=
 (cj a.1).bind λs=>(bY s a.2.1).bind λf=>
  if It.okV s.2=true/\s.2.l.length<=80000/\(s.2.nn=true∨s.2.l= [])/\0<=f.1/\(if f.2=true then f.1<s.2.l.length else f.1<=s.2.l.length)then some (s.1,⟨if a.2.1<0∨s.1<=a.2.1 then s.2.nn else true,2,out s.2.l s.1 a.2.1 a.2.2 f.1.toNat f.2⟩)else none
theorem ve(a:K.vals ins)(o:K.vals outs)(h:fnO a=some o):cY Tryd.prog 12 (K.fp ins a) .fresh (K.fp outs o):=by
 obtain⟨⟨n,x⟩,pl,val⟩:=a;change Int at n;change Sl (Int×Int)at x;change Int at pl;change Int at val;unfold fnO at h;simp only [zbE]at h;obtain⟨⟨N,x2⟩,hs,⟨fi,is⟩,hf,h⟩:=h;simp only at hs hf h;rw [Option.ite_none_right_eq_some]at h;obtain⟨hc,h⟩:=h;obtain⟨hok,h80,hnl,h0,hlt⟩:=hc;cases h;simp only [It.okV,Bool.and_eq_true,Bool.or_eq_true,decide_eq_true_eq,List.isEmpty_iff]at hok;intro w F ys hL hF hr;obtain⟨hlen,hi⟩:=hr
 match ys,hlen with
 | [y0,y1,y2],_=>
  obtain⟨y,e1,e2⟩:=hi 0 _ rfl;simp only [List.getElem?_cons_zero,zsI]at e1;subst e1;obtain⟨y,e1,e4⟩:=hi 1 _ rfl;simp only [List.getElem?_cons_succ,List.getElem?_cons_zero,zsI]at e1;subst e1
  have ey:y1= .int .i64 pl:=by
   cases e4 with
   |one t y h=>cases h with|v x hx=>rfl
  subst ey;obtain⟨y,e1,e5⟩:=hi 2 _ rfl;simp only [List.getElem?_cons_succ,List.getElem?_cons_zero,zsI]at e1;subst e1
  have ey:y2= .int .i64 val:=by
   cases e5 with
   |one t y h=>cases h with|v x hx=>rfl
  subst ey;replace e2:RepTD w F (.agg [iT .i64 n,Sl.t It.ety.row x]) y0:=e2
  cases e2 with
  |agg _ us hh=>
   obtain⟨hl,hi2⟩:=hh
   match us,hl with
   | [u0,u1],_=>
    obtain⟨u,e1,e2⟩:=hi2 0 _ rfl;simp only [List.getElem?_cons_zero,zsI]at e1;subst e1;obtain⟨u,e1,e3⟩:=hi2 1 _ rfl;simp only [List.getElem?_cons_succ,List.getElem?_cons_zero,zsI]at e1;subst e1
    have eu:u0= .int .i64 n:=by cases e2 with|v x hx=>rfl
    subst eu
    obtain⟨ad,k,c,rfl⟩:∃a n c,u1= .slice a n c:=by
     unfold Sl.t at e3
     cases e3 with
     |s _ _ _ a c ys hn=>exact⟨_,_,_,rfl⟩
    obtain⟨i,rfl⟩:∃i:Nat,fi=(i:Int):=⟨fi.toNat,by omega⟩;have hw:=It.put_walk n ad k c pl val w N x2.nn x2.l i is h80 (by split at hlt<;>rename_i hq<;>simp only [hq]<;>simp<;>omega) (λW hW hlt2=>It.sure_calls e3 hL hs hok.2 W hW hlt2) (λa2 c2 W hW h2 hn=>It.find_calls hL hf hok.2 a2 c2 W hW h2 hn);refine hw.mono ?_;rintro e w' ⟨v,rfl,⟨r,hr,hown⟩,hbl,hv1,hv2⟩;refine⟨_,rfl,?_,λhk=>(by cases hk),hbl⟩;have e9:out x2.l N pl val (i:Int).toNat is=r:=by rw [hr];rfl
    refine It.vec (t:=Sl.t It.ety.row ⟨if pl<0∨N<=pl then x2.nn else true,2,out x2.l N pl val (i:Int).toNat is⟩) ?_;rw [e9];obtain⟨_,a',c',e,hcap,hrd,hz⟩:=It.row_rdE hown;subst e
    cases a' with
    |none=>
     have hr0:r= []:=List.eq_nil_of_length_eq_zero (hz rfl).2;by_cases hpl:pl<0∨N<=pl
     .have hnn:x2.nn=false:=by
       cases hq:x2.nn with
       |false=>rfl
       |true=>obtain⟨k,hk⟩:=hv2 hq;cases hk
      rw [if_pos hpl,hnn,hr0];obtain⟨rfl,_⟩:=hz rfl;exact RepT.s false 2 [] none 0 (λ_ _=> .nilFunc) rfl (Nat.le_refl _) (λ_=>rfl) (λi e h=>by simp at h) (λi e j t h=>by simp at h) (λi e j t h=>by simp at h)
     .exfalso;rw [if_neg hpl,hr0]at hr;have hl:=congrArg List.length hr;split at hr
      .rename_i hq;rw [if_pos hq]at hl hlt;simp at hl;rw [<-hl]at hlt;simp at hlt;omega
      .rename_i hq;rw [if_neg hq]at hl;simp at hl
    |some b=>
     have hnn:(if pl<0∨N<=pl then x2.nn else true)=true:=by
      split
      .rename_i hpl
       cases hq:x2.nn with
       |true=>rfl
       |false=>
        have h8:x2.l= []:=hnl.resolve_left (by rw [hq];simp)
        have:=hv1 hq h8 hpl
        cases this
      .rfl
     rw [hnn];refine It.rep_of (base:=w.heap.size) ⟨hrd,hz,hcap,λb' hb'=> ?_⟩ (λb hb=>hb.1) (.inr (by simp));cases hb';exact(hown.lt b.block rfl).1
def fn(a:(Int×Sl (Int×Int))×Int×Int):Option (Int×Sl (Int×Int)):=
 if(a.1.2.sz=2∨a.1.2.l= [])/\(a.1.2.nn=true∨a.1.2.l= [])/\a.1.2.l.length<=80000 then
  some ((bL a.1).1,⟨if a.2.1<0∨(bL a.1).1<=a.2.1 then(bL a.1).2.nn else true,2,out (bL a.1).2.l (bL a.1).1 a.2.1 a.2.2 (go (bL a.1).2.l a.2.1) (isI (bL a.1).2.l a.2.1)⟩)else none
theorem vh(a:(Int×Sl (Int×Int))×Int×Int)(o:Int×Sl (Int×Int))(h:fn a=some o):fnO a=some o:=by
 unfold fn at h;rw [Option.ite_none_right_eq_some]at h;obtain⟨⟨h1,h2,h3⟩,h⟩:=h;have hok:okS 2 a.1.2:=h1.elim .inr .inl;have s1:=zP hok;have s2:=Lw h2;have s3:=nL a.1;unfold fnO;rw [qR hok (by omega)];simp only [zbS];rw [nr hok];simp only [zbS,Int.toNat_natCast];refine(if_pos ⟨?_,by omega,s2,by omega,?_⟩).trans h
 .simp only [It.okV,Bool.and_eq_true,Bool.or_eq_true,decide_eq_true_eq,List.isEmpty_iff];exact⟨by omega,s1.elim .inr .inl⟩
 .split
  .have:=zS (by assumption);omega
  .have:=Lx (bL a.1).2.l a.2.1;omega
theorem pure_ok(a:K.vals ins)(o:K.vals outs)(h:fn a=some o):cY Tryd.prog 12 (K.fp ins a) .fresh (K.fp outs o):=ve a o (vh a o h)
theorem enters:Ev.Enters Tryd.prog 12:=⟨_,_,Tryd.func12,by kernel_rfl,by unfold Tryd.f12;rfl⟩
end Pu
end Sm
end
end Go.Proofs.YtpcmabdifkoihaaDoor
