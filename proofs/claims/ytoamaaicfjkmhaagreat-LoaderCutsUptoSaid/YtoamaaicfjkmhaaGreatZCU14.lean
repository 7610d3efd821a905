/- Texts of a claim, joined. -/
import Derived.Test.YtoamaaicfjkmhaaGreatZCU13
set_option linter.unusedVariables false
set_option linter.unusedSimpArgs false
namespace Go.Proofs.YtoamaaicfjkmhaaGreat
noncomputable section
open Go.RowKit Go.Sort
def StR(o:Except (Int×Int) Nat)(m p:Nat)(e fa:Int):Prop:=p<=m/\match o with
 | .ok q=>e=0/\p=q
 | .error er=>e=er.1/\fa=er.2/\er.1≠0
def aI{α:Type}:Except (Int×Int) (α×Nat)->Except (Int×Int) Nat
 | .ok (_,q)=> .ok q
 | .error er=> .error er
def aZ:Except (Int×Int) (Int×Nat)->Int
 | .ok (x,_)=>x
 | .error _=>0
def aT{α:Type}(o:Except (Int×Int) Nat)(g:Nat->Except (Int×Int) (α×Nat)):Except (Int×Int) (α×Nat):=match o with
 | .ok p=>g p
 | .error er=> .error er
@[go_sem] theorem VB (e fa:Int) (w:World):(Instr.field 33 (.agg #[.int .i64 e,.int .i64 fa]) 0).run Tryz.prog w= .ok (.int .i64 e) w:=by kernel_rfl
set_option maxRecDepth 100000 in
set_option maxHeartbeats 500000 in
theorem oz(R:Nat)(a:Option Addr)(m c p:Nat)(e fa most er:Int)(f:Nat->Int)(w:World)(o:Except (Int×Int) Nat)(hS:StR o m p e fa)(her:¬er=0)(hR:CellsAt w R 105 (rdr (.slice a m c) p e fa))(hb:Rd8 w a m f)(hne:∀b,a=some b->b.block≠R)(hz:a=none->c=0/\m=0)(hc:m<=c)(hm:m<=100000):
  Calls Tryz.prog 38 #[.pointer (some ⟨R,0,none⟩),.int .i64 most,.int .i64 er] w λx w'=>∃p' e' fa',x= .returned (.int .i64 (aZ (aT o λp=>aM f m p most er)))/\StR (aI (aT o λp=>aM f m p most er)) m p' e' fa'/\CellsAt w' R 105 (rdr (.slice a m c) p' e' fa')/\w.grownBy w' (some R):=by
 obtain⟨hp,hS⟩:=hS;obtain⟨O,hO⟩:∃O,O=aT o (λp=>aM f m p most er):=⟨_,rfl⟩;rw [<-hO]
 -- what the number comes to
 obtain⟨n1,hn1⟩:∃n1,n1=(if cP e m p 4=true then le (λi=>f (p+i)) 4 else 0):=⟨_,rfl⟩;obtain⟨p1,hp1⟩:∃p1,p1=nP e m p 4:=⟨_,rfl⟩;obtain⟨e1,he1⟩:∃e1,e1=nE e m p 4:=⟨_,rfl⟩;obtain⟨f1,hf1⟩:∃f1,f1=nF fa e m p 4:=⟨_,rfl⟩
 have key:(0<=n1/\n1<4294967296)/\p1<=m/\((e1=0/\(O=if most<n1 then .error (er,(p:Int))else .ok (n1,p1)))∨(e1≠0/\O= .error (e1,f1))):=by
  by_cases he:e=0
  .subst he
   have ho:o= .ok p:=by
    cases o with
    |ok q=>rw [hS.2]
    |error e2=>exact absurd hS.1.symm hS.2.2
   by_cases h4:p+4<=m
   .obtain⟨s1,s2,s3,s4⟩:=iW fa m p 4 (by decide) (by omega);have bd:=iV (λi=>f (p+i)) 4 (λi hi=>ng hb _ (by omega));rw [s1,if_pos rfl]at hn1;rw [s2]at he1;rw [s4]at hp1;rw [hn1,hp1];refine⟨⟨bd.1,by omega⟩,by omega,.inl ⟨he1,?_⟩⟩;rw [hO,ho];show aM f m p most er=_;unfold aM;rw [if_pos h4];rfl
   .obtain⟨s1,s2,s3,s4⟩:=dA fa m p 4 (by decide) (by omega);rw [s1,if_neg (by decide)]at hn1;rw [s2]at he1;rw [s3]at hf1;rw [s4]at hp1;refine⟨by omega,by omega,.inr ⟨by omega,?_⟩⟩;rw [hO,ho,he1,hf1];show aM f m p most er=_;unfold aM;rw [if_neg h4]
  .obtain⟨s1,s2,s3,s4⟩:=kf fa m p 4 he;rw [s1,if_neg (by decide)]at hn1;rw [s2]at he1;rw [s3]at hf1;rw [s4]at hp1;refine⟨by omega,by omega,.inr ⟨by omega,?_⟩⟩
   cases o with
   |ok q=>exact absurd hS.1 he
   |error e2=>
    rw [hO,he1,hf1,hS.1,hS.2.1];rfl
 have U:=Lib.hid (λw' (h:Below w.heap.size w w')=>HZ R a m c p e fa f w' (hR.below h) (hb.grown (ab h none) (λ_ _=>by simp)) hne hz hc hm hp);rw [<-hn1,<-hp1,<-he1,<-hf1]at U;obtain⟨kn,kp,key⟩:=key;have A1:=Lib.hid (lI R (.slice a m c) p e fa w hR);clear hn1 hp1 he1 hf1 hO hS hb hne hz hR;have HK:=Lib.hid key;clear key
 go_enter Tryz.func38,Tryz.ntmps38
 go_wp2_with fail
 refine A1.out.mono ?_;rintro x w1 ⟨rfl,hB1⟩;have U:=Lib.hid (U.out w1 hB1);clear A1
 go_wp2_with fail
 refine U.out.mono ?_;rintro x w2 ⟨rfl,hR2,hg2⟩;have g2:=ae (ab hB1 (some R)) hg2;have F1:=Lib.hid (ar R (.slice a m c) p1 e1 f1 w2 hR2);clear U hg2 hB1
 go_wp2_with fail
 refine F1.out.mono ?_;rintro x w3 ⟨rfl,hB3⟩;have hR3:=hR2.below hB3;have g3:=ae g2 (ab hB3 (some R));clear F1 hR2 hB3 g2;rcases HK.out with⟨h1,hO⟩|⟨h1,hO⟩
 .subst h1;by_cases h2:most<n1
  .rw [if_pos h2]at hO;have L:=Lib.hid (fv R (.slice a m c) p1 f1 er p w3 hR3 her);have HO:=Lib.hid hO;clear hO HK
   go_wp2_with fail
   refine L.out.mono ?_;rintro x w4 ⟨rfl,hR4,hg4⟩;have g4:=ae g3 hg4;have F2:=Lib.hid (ar R (.slice a m c) p1 er p w4 hR4);clear L hR3 g3 hg4
   go_wp2_with fail
   refine F2.out.mono ?_;rintro x w5 ⟨rfl,hB5⟩;have hR5:=hR4.below hB5;have g5:=ae g4 (ab hB5 (some R));clear F2 hR4 hB5 g4
   go_wp2_with fail
   go_ret
   refine⟨p1,er,p,?_,⟨kp,?_⟩,hR5,g5⟩
   .rw [HO.out];rfl
   .rw [HO.out];exact⟨rfl,rfl,her⟩
  .rw [if_neg h2]at hO;have HO:=Lib.hid hO;have F2:=Lib.hid (ar R (.slice a m c) p1 0 f1 w3 hR3);clear hO HK
   go_wp2_with fail
   refine F2.out.mono ?_;rintro x w5 ⟨rfl,hB5⟩;have hR5:=hR3.below hB5;have g5:=ae g3 (ab hB5 (some R));clear F2 hR3 hB5 g3
   go_wp2_with fail
   go_ret
   refine⟨p1,0,f1,?_,⟨kp,?_⟩,hR5,g5⟩
   .rw [HO.out];rfl
   .rw [HO.out];exact⟨rfl,rfl⟩
 .have HO:=Lib.hid hO;have F2:=Lib.hid (ar R (.slice a m c) p1 e1 f1 w3 hR3);clear hO HK
  go_wp2_with fail
  refine F2.out.mono ?_;rintro x w5 ⟨rfl,hB5⟩;have hR5:=hR3.below hB5;have g5:=ae g3 (ab hB5 (some R));clear F2 hR3 hB5 g3
  go_wp2_with fail
  go_ret
  refine⟨p1,e1,f1,?_,⟨kp,?_⟩,hR5,g5⟩
  .rw [HO.out];rfl
  .rw [HO.out];exact⟨rfl,rfl,h1⟩
def rI(f:Nat->Int)(m:Nat)(s:ByteArray):Except (Int×Int) Nat:=if 4<=m then(if strOfNums (dB f 0 4)=s then .ok 4 else .error (1,0))else .error (2,(m:Int))
set_option maxRecDepth 100000 in
set_option maxHeartbeats 500000 in
theorem tr(R:Nat)(a:Option Addr)(m c:Nat)(fa:Int)(f:Nat->Int)(s:ByteArray)(w:World)(hR:CellsAt w R 105 (rdr (.slice a m c) 0 0 fa))(hb:Rd8 w a m f)(hne:∀b,a=some b->b.block≠R)(hz:a=none->c=0/\m=0)(hc:m<=c)(hm:m<=100000):
  Calls Tryz.prog 34 #[.pointer (some ⟨R,0,none⟩),.string s] w λx w'=>∃p' e' fa',x= .returned (.tuple #[])/\StR (rI f m s) m p' e' fa'/\CellsAt w' R 105 (rdr (.slice a m c) p' e' fa')/\w.grownBy w' (some R):=by
 have T:=Lib.hid (wK R a m c 0 0 fa 4 f w hR hb hne hz hc hm (Nat.zero_le _));obtain⟨O,hO⟩:∃O,O=rI f m s:=⟨_,rfl⟩;rw [<-hO];have HO:=Lib.hid hO;clear hO hR hb hne hz
 go_enter Tryz.func34,Tryz.ntmps34
 by_cases h4:4<=m
 .obtain⟨s1,s2,s3,s4⟩:=iW fa m 0 4 (by decide) (by omega);rw [s1,s2,s3,s4]at T;clear s1 s2 s3 s4
  go_wp2_with fail
  refine T.out.mono ?_;rintro x w1 ⟨a',n',c',rfl,rfl,hn,hb',hR1,g1⟩;have hb4:Rd8 w1 a' 4 (λi=>f (0+i)):=hb';obtain⟨b,e0,_⟩:=hb4 0 (by omega);subst e0
  have cv:(convert 26 9 (.slice (some b) 4 c')).run Tryz.prog w1= .ok (.string (strOfNums (dB f 0 4))) w1:=by
   have hl:=run_loadCells_list (P:=Tryz.prog) w1 b ((dB f 0 4).map (Value.int .u8)) (λj v hj=>by
    rw [List.getElem?_map,Option.map_eq_some_iff]at hj;obtain⟨z,hz,rfl⟩:=hj;have hj4:j<4:=by have:=(List.getElem?_eq_some_iff.1 hz).1;rwa [qd]at this
    obtain⟨b2,e,_,h3,_⟩:=hb4 j hj4;cases e;rw [h3];simp [dB,hj4]at hz
    simp [hz])
   rw [List.length_map,qd]at hl;rw [run_convert_bytes_string w1 _ _ 5 (some b) 4 c' (by kernel_rfl) (by kernel_rfl) (by kernel_rfl),run_bytesToString w1 _ 4 c' (dB f 0 4) hl,foldl_push_bytes];simp [strOfNums,ByteArray.empty,ByteArray.emptyWithCapacity];rfl
  clear hb' hb4 T hn;by_cases hs:strOfNums (dB f 0 4)=s
  .have he:O= .ok 4:=by rw [HO.out];unfold rI;rw [if_pos h4,if_pos hs]
   rw [hs]at cv;clear HO hs;subst he
   go_wp2_with fail
   go_end0
   exact⟨4,0,fa,rfl,⟨h4,rfl,rfl⟩,hR1,g1⟩
  .have he:O= .error (1,0):=by rw [HO.out];unfold rI;rw [if_pos h4,if_neg hs]
   obtain⟨s2,hs2⟩:∃s2,s2=strOfNums (dB f 0 4):=⟨_,rfl⟩;rw [<-hs2]at cv hs;have b1:(s2.toList==s.toList)=false:=beq_false_of_ne λh=>hs (ByteArray.ext (Array.toList_inj.1 (by rwa [ByteArray.toList_eq,ByteArray.toList_eq]at h)));have L:=Lib.hid (fv R (.slice a m c) 4 fa 1 0 w1 hR1 (by decide));clear HO hs2 hs;subst he
   go_wp2_with fail
   refine L.out.mono ?_;rintro x w2 ⟨rfl,hR2,g2⟩
   go_wp2_with fail
   go_end0
   exact⟨4,1,0,rfl,⟨h4,rfl,rfl,by decide⟩,hR2,ae g1 g2⟩
 .have he:O= .error (2,(m:Int)):=by rw [HO.out];unfold rI;rw [if_neg h4]
  obtain⟨s1,s2,s3,s4⟩:=dA fa m 0 4 (by decide) (by omega);rw [s1,s2,s3,s4]at T;clear s1 s2 s3 s4 HO;subst he
  go_wp2_with fail
  refine T.out.mono ?_;rintro x w1 ⟨a',n',c',rfl,rfl,hn,hb',hR1,g1⟩
  go_wp2_with fail
  go_end0
  exact⟨0,2,m,rfl,⟨Nat.zero_le _,rfl,rfl,show(2:Int)≠0 by decide⟩,hR1,g1⟩
end
noncomputable section
open Go.RowKit Go.Sort
set_option maxHeartbeats 1000000 in
theorem wL(a:Option Addr)(k c:Nat)(f:Nat->Int)(w:World)(hr:Rd8 w a k f)(hk:k<=100000)(hc:k<=c)(hz:a=none->c=0/\k=0):
  Calls Tryz.prog 33 #[.slice a k c] w λe w'=>∃R a' c',e= .returned (.pointer (some ⟨R,0,none⟩))/\CellsAt w' R 105 (rdr (.slice a' k c') 0 0 0)/\Rd8 w' a' k f/\k<=c'/\(∀b,a'=some b->b.block≠R/\w.heap.size<=b.block/\b.block<w'.heap.size)/\(a'=none->c'=0/\k=0)/\w.heap.size<=R/\Below w.heap.size w w':=by
 obtain⟨i0,hi0,hz0,hz1,hz2⟩:=info_parts sZ;have hf:∀i,i<k->0<=f i/\f i<=255:=λi hi=>by obtain⟨_,_,_,_,h⟩:=hr i hi;exact h
 have hb1:Below w.heap.size w (w.alloc (.cells #[.slice none 0 0,.int .i64 0,.int .i64 0,.int .i64 0] 105)):=bl1 w _;have hR1:CellsAt (w.alloc (.cells #[.slice none 0 0,.int .i64 0,.int .i64 0,.int .i64 0] 105)) w.heap.size 105 (rdr (.slice none 0 0) 0 0 0):=World.alloc_heap_new w _;have hr1:=lE hr hb1;have hsz:(w.alloc (.cells #[.slice none 0 0,.int .i64 0,.int .i64 0,.int .i64 0] 105)).heap.size=w.heap.size+1:=by simp
 have hN:=World.ownsRow_nil (w.alloc (.cells #[.slice none 0 0,.int .i64 0,.int .i64 0,.int .i64 0] 105)) (w.heap.size+1) 5 1
 go_enter Tryz.func33,Tryz.ntmps33
 cases a with
 |none=>
  obtain⟨rfl,rfl⟩:=hz rfl
  go_wp2_with (refine wpList_append_own_none rfl _ _ 26 rfl (w.heap.size+1) 5 i0 1 Tryz.underlying26 hi0 (.slice none 0 0) 0 [] rfl hN rfl ?_)
  go_ret
  exact⟨w.heap.size,rfl,none,0,hR1,fY _ _ _,(λb hb=>by cases hb),(λ_=>rfl),Nat.le_refl _,hb1⟩
 |some b=>
  have hnews:∀j u,(bZ f k)[j]? =some u->(w.alloc (.cells #[.slice none 0 0,.int .i64 0,.int .i64 0,.int .i64 0] 105)).cell? (b.add j)=some u:=by
   intro j u hj;have hj':j<k:=by have:=(List.getElem?_eq_some_iff.1 hj).1;rwa [dp]at this
   rw [gF _ _ _ hj']at hj;cases hj;obtain⟨b',hb',_,h2,_⟩:=hr1 j hj';cases hb';exact h2
  go_wp2_with (refine wpList_append_own _ rfl _ _ 26 rfl (w.heap.size+1) 5 i0 (.int .u8 0) 1 1 Tryz.underlying26 hi0 hz0 hz1 hz2 rfl (by decide) (.slice none 0 0) 0 [] rfl hN b k c (bZ f k) rfl (by rw [dp];omega) hnews (nd _ _) (by unfold maxLen;omega) (by omega) (by omega) ?_;intro v' V2 hown hgrow _;rw [Nat.zero_add,List.nil_append]at hown;obtain⟨a',c',rfl,hkc,hrd,hbk,hzz⟩:=DV hown (λi hi=>gF _ _ _ hi) hf;have hR4:=hR1.grown hgrow (by simp [Value.ownBlock]);have c0:V2.cell? ⟨w.heap.size,0,none⟩=some (.slice none 0 0):=hR4.cell 0;have f1:=hR4.frozen 0)
  go_ret
  have hR5:=hR4.set 0 (.slice a' k c');have hb2:Below w.heap.size w V2:=hb1.trans ((cC hgrow).mono (by simp));have hs:=hgrow.size;exact⟨w.heap.size,rfl,a',c',by simpa using hR5,hrd.grown (af V2 w.heap.size 0 _) (λb hb=>by have:=hbk b hb;simp;omega),hkc,(λb hb=>by have:=hbk b hb;refine⟨by omega,by omega,?_⟩;have h4:=(af V2 w.heap.size 0 (.slice a' k c')).size;omega),hzz,Nat.le_refl _,hb2.setCell (p:=⟨w.heap.size,0,none⟩) (Nat.le_refl _) _⟩
end
noncomputable section
open Go.RowKit Go.Sort
structure StD(w:World)(R:Nat)(a:Option Addr)(m c:Nat)(f:Nat->Int)(W:World)(p:Nat)(e fa:Int):Prop where
 hR:CellsAt W R 105 (rdr (.slice a m c) p e fa)
 hb:Rd8 W a m f
 r2:CellsAt W w.heap.size 24 #[.int .i64 0,.slice none 0 0]
 r3:CellsAt W (w.heap.size+1) 33 #[.int .i64 0,.int .i64 0]
 bl:Below w.heap.size w W
 l1:w.heap.size+1<R
 n4:∀b,a=some b->b.block≠R
 n5:∀b,a=some b->w.heap.size+1<b.block
 n6:∀b,a=some b->b.block<W.heap.size
 hz:a=none->c=0/\m=0
 hc:m<=c
 hm:m<=100000
section
variable {w : World} {R : Nat} {a : Option Addr} {m c : Nat} {f : Nat → Int} {W : World} {p : Nat} {e fa : Int}
theorem StD.call(h:StD w R a m c f W p e fa){W':World}{p':Nat}{e' fa':Int}(g:W.grownBy W' (some R))(hR:CellsAt W' R 105 (rdr (.slice a m c) p' e' fa')):StD w R a m c f W' p' e' fa':=by
 have l1:=h.l1;exact⟨hR,dU h.hb g h.n4,az h.r2 g (by omega),az h.r3 g (by omega),h.bl.trans (aw g h.bl.size (by omega)),h.l1,h.n4,h.n5,λb hb=>Nat.lt_of_lt_of_le (h.n6 b hb) g.size,h.hz,h.hc,h.hm⟩
theorem StD.below(h:StD w R a m c f W p e fa){W':World}(g:Below W.heap.size W W'):StD w R a m c f W' p e fa:=h.call (ab g _) (h.hR.below g)
theorem StD.store(h:StD w R a m c f W p e fa){G:Nat}(hG:w.heap.size+1<G)(hGR:G≠R)(hGa:∀b,a=some b->b.block≠G)(i:Nat)(v:Value):StD w R a m c f (W.setCell ⟨G,i,none⟩ v) p e fa:=by
 have g:=af W G i v;exact⟨az h.hR g (by omega),dU h.hb g hGa,az h.r2 g (by omega),az h.r3 g (by omega),h.bl.trans (aw g h.bl.size (by omega)),h.l1,h.n4,h.n5,λb hb=>Nat.lt_of_lt_of_le (h.n6 b hb) g.size,h.hz,h.hc,h.hm⟩
theorem StD.grow(h:StD w R a m c f W p e fa){W':World}{row:Option Nat}{B:Nat}(g:W.grownBy W' row)(hk:∀k,row=some k->B<=k)(hR:R<B)(hB:∀b,a=some b->b.block<B):StD w R a m c f W' p e fa:=by
 have l1:=h.l1;have ne:∀k,k<B->some k≠row:=λk hlt he=>by have:=hk k he.symm;omega
 refine⟨h.hR.grown g (ne _ hR),h.hb.grown g (λb hb=>ne _ (hB b hb)),h.r2.grown g (ne _ (by omega)),h.r3.grown g (ne _ (by omega)),h.bl.trans ?_,h.l1,h.n4,h.n5,λb hb=>Nat.lt_of_lt_of_le (h.n6 b hb) g.size,h.hz,h.hc,h.hm⟩
 cases row with
 |none=>exact(cC g).mono h.bl.size
 |some r=>exact aw g h.bl.size (by have:=hk r rfl;omega)
theorem StD.bounded(h:StD w R a m c f W p e fa){o:Except (Int×Int) Nat}(hS:StR o m p e fa)(most er:Int)(her:¬er=0):
  Calls Tryz.prog 38 #[.pointer (some ⟨R,0,none⟩),.int .i64 most,.int .i64 er] W λx W'=>∃p' e' fa',x= .returned (.int .i64 (aZ (aT o λp=>aM f m p most er)))/\StR (aI (aT o λp=>aM f m p most er)) m p' e' fa'/\StD w R a m c f W' p' e' fa'/\W.grownBy W' (some R):=
 (oz R a m c p e fa most er f W o hS her h.hR h.hb h.n4 h.hz h.hc h.hm).mono λx W' ⟨p',e',fa',h1,h2,h3,h4⟩=>⟨p',e',fa',h1,h2,h.call h4 h3,h4⟩
end
def oA(f:Nat->Int)(m p:Nat):Except (Int×Int) (Int×Nat):=if p+1<=m then(if 1<f p then .error (8,(p:Int))else .ok (f p,p+1))else .error (2,(m:Int))
def okK(f:Nat->Int)(m:Nat):Except (Int×Int) (Int×Nat):=aT (rI f m ⟨#[70,82,84,49]⟩) (oA f m)
def okN(f:Nat->Int)(m:Nat):Except (Int×Int) (Int×Nat):=aT (aI (okK f m)) λp=>aM f m p 4096 5
def okM(f:Nat->Int)(m:Nat):Except (Int×Int) (Int×Nat):=aT (aI (okN f m)) λp=>aM f m p 65536 5
def okT(f:Nat->Int)(m:Nat)(wt:Int):Except (Int×Int) (List (Int×Int×Int)×Nat):=match aI (okM f m)with
 | .ok p=>aW f m (aZ (okN f m)) wt (aZ (okM f m)).toNat p
 | .error er=> .error er
def KO(n:Int)(m:Nat)(T:Except (Int×Int) (List (Int×Int×Int)×Nat)):Except (Int×Int) (Int×List (Int×Int×Int)):=match T with
  | .error er=> .error er
  | .ok (l,q)=>if q=m then .ok (n,l)else .error (4,(q:Int))
theorem mr(f:Nat->Int)(m:Nat)(wt:Int)(hw:(∃q,aI (okM f m)= .ok q)->wt=aZ (okK f m)):cg f m=KO (aZ (okN f m)) m (okT f m wt):=by
 unfold KO cg eD;unfold okT okM okN at*;unfold okK rI at*;by_cases h4:4<=m
 .simp only [if_pos h4]at hw ⊢;by_cases hs:strOfNums (dB f 0 4)=⟨#[70,82,84,49]⟩
  .simp only [if_pos hs,aT]at hw ⊢;unfold oA at*;by_cases h5:5<=m
   .simp only [if_pos h5,if_pos (show 4+1<=m from h5)]at hw ⊢;by_cases h1:1<f 4
    .simp only [if_pos h1,aI,aT]at hw ⊢;rfl
    .simp only [if_neg h1,aI,aT]at hw ⊢
     cases q1:aM f m 5 4096 5 with
     |error er=>simp only [show 4+1=5 from rfl,q1,aI,aT]
     |ok r1=>
      obtain⟨n,p1⟩:=r1;simp only [show 4+1=5 from rfl,q1,aI,aT,aZ]at hw ⊢
      cases q2:aM f m p1 65536 5 with
      |error er=>simp only [q2,aI,aZ]
      |ok r2=>
       obtain⟨k,p2⟩:=r2;simp only [q2,aI,aZ]at hw ⊢;rw [hw ⟨p2,rfl⟩];cases aW f m n (f 4) k.toNat p2<;>rfl
   .simp only [if_neg h5,if_neg (show¬4+1<=m from h5),aI,aT]at hw ⊢
  .simp only [if_neg hs,aI,aT]at hw ⊢
 .simp only [if_neg h4,aI,aT]at hw ⊢
theorem Eh{f:Nat->Int}{m q:Nat}(h:aI (okM f m)= .ok q):∃q,aI (okK f m)= .ok q:=by
 unfold okM at h
 cases h1:aI (okN f m)with
 |error er=>rw [h1]at h;cases h
 |ok p=>
  unfold okN at h1
  cases h2:aI (okK f m)with
  |error er=>rw [h2]at h1;cases h1
  |ok p2=>exact⟨p2,rfl⟩
theorem Ib(f:Nat->Int)(m p:Nat)(n:Int):dj f m p n 1=match aI (aT (aI (aT (aI (aT (.ok p) λp=>aM f m p (n - 1) 3)) λp=>aM f m p (n - 1) 3)) λp=>aM f m p 2147483647 7)with
  | .ok q=> .ok ((aZ (aT (.ok p) λp=>aM f m p (n - 1) 3),aZ (aT (aI (aT (.ok p) λp=>aM f m p (n - 1) 3)) λp=>aM f m p (n - 1) 3),aZ (aT (aI (aT (aI (aT (.ok p) λp=>aM f m p (n - 1) 3)) λp=>aM f m p (n - 1) 3)) λp=>aM f m p 2147483647 7)),q)
  | .error er=> .error er:=by
 unfold dj;simp only [aT]
 cases q1:aM f m p (n - 1) 3 with
 |error er=>simp only [aI]
 |ok r1=>
  obtain⟨x,p1⟩:=r1;simp only [aI]
  cases q2:aM f m p1 (n - 1) 3 with
  |error er=>simp only [aI]
  |ok r2=>
   obtain⟨y,p2⟩:=r2;simp only [aI,if_true]
   cases q3:aM f m p2 2147483647 7 with
   |error er=>simp only [aI]
   |ok r3=>obtain⟨z,p3⟩:=r3;simp only [aI,aZ]
theorem wM(f:Nat->Int)(m p:Nat)(n wt:Int)(hw:¬wt=1):dj f m p n wt=match aI (aT (aI (aT (.ok p) λp=>aM f m p (n - 1) 3)) λp=>aM f m p (n - 1) 3)with
  | .ok q=> .ok ((aZ (aT (.ok p) λp=>aM f m p (n - 1) 3),aZ (aT (aI (aT (.ok p) λp=>aM f m p (n - 1) 3)) λp=>aM f m p (n - 1) 3),1),q)
  | .error er=> .error er:=by
 unfold dj;simp only [aT]
 cases q1:aM f m p (n - 1) 3 with
 |error er=>simp only [aI]
 |ok r1=>
  obtain⟨x,p1⟩:=r1;simp only [aI]
  cases q2:aM f m p1 (n - 1) 3 with
  |error er=>simp only [aI]
  |ok r2=>
   obtain⟨y,p2⟩:=r2;simp only [aI,if_neg hw,aZ]
theorem qg{f:Nat->Int}{m k p p':Nat}{n wt e' fa':Int}{es:List (Int×Int×Int)}{t:Int×Int×Int}{T:Except (Int×Int) (List (Int×Int×Int)×Nat)}{o:Except (Int×Int) Nat}(hT:T=dr es (aW f m n wt (k+1) p))(hE:dj f m p n wt=match o with| .ok q=> .ok (t,q)| .error er=> .error er)(hs:StR o m p' e' fa'):
  (e'=0/\T=dr (es++ [t]) (aW f m n wt k p'))∨(e'≠0/\T= .error (e',fa')):=by
 cases o with
 |ok q=>
  obtain⟨_,h1,h2⟩:=hs;subst h2;exact .inl ⟨h1,by rw [hT];exact Ee es hE⟩
 |error er=>
  obtain⟨_,h1,h2,h3⟩:=hs;refine .inr ⟨by rw [h1];exact h3,?_⟩;rw [hT,Ak es hE,h1,h2]
theorem ju{f:Nat->Int}{m:Nat}{o:Except (Int×Int) Nat}{most er:Int}{W:World}{a:Option Addr}(hb:Rd8 W a m f)(h0:0<=most):0<=aZ (aT o λp=>aM f m p most er)/\aZ (aT o λp=>aM f m p most er)<=most:=by
 cases o with
 |error e=>exact⟨Int.le_refl _,h0⟩
 |ok p=>
  show 0<=aZ (aM f m p most er)/\aZ (aM f m p most er)<=most
  cases h:aM f m p most er with
  |error e=>exact⟨Int.le_refl _,h0⟩
  |ok r=>exact⟨js h hb,(dq h).2.2.2⟩
structure StL(w:World)(R G E base:Nat)(a:Option Addr)(m c:Nat)(f:Nat->Int)(n:Int)(v:Value)(i:Nat)(es:List (Int×Int×Int))(W:World)(p:Nat)(e fa:Int)(ed:Array Value):Prop where
 S:StD w R a m c f W p e fa
 hG:CellsAt W G 24 #[.int .i64 n,v]
 hE:CellsAt W E 52 ed
 row:W.ownsRow base 52 3 v i (fu es)
 vb:∀k,v.ownBlock=some k->k≠E
 lR:R<base
 lG:G<base
 gE:base<=E
 RG:R<G
 aE:∀b,a=some b->b.block≠E/\b.block≠G
 bs:base<=W.heap.size
section
variable {w : World} {R G E base : Nat} {a : Option Addr} {m c : Nat} {f : Nat → Int} {n : Int} {v : Value} {i : Nat} {es : List (Int × Int × Int)} {W : World} {p : Nat} {e fa : Int} {ed : Array Value}
theorem StL.call(h:StL w R G E base a m c f n v i es W p e fa ed){W':World}{p':Nat}{e' fa':Int}(g:W.grownBy W' (some R))(S':StD w R a m c f W' p' e' fa'):StL w R G E base a m c f n v i es W' p' e' fa' ed:=by
 have l1:=h.lR;have l2:=h.lG;have l3:=h.gE;have l4:=h.RG;exact⟨S',az h.hG g (by omega),az h.hE g (by omega),bA h.row g h.lR,h.vb,h.lR,h.lG,h.gE,h.RG,h.aE,Nat.le_trans h.bs g.size⟩
theorem StL.store(h:StL w R G E base a m c f n v i es W p e fa ed)(j:Nat)(x:Value):StL w R G E base a m c f n v i es (W.setCell ⟨E,j,none⟩ x) p e fa (ed.setIfInBounds j x):=by
 have l1:=h.lR;have l2:=h.lG;have l3:=h.gE;have l4:=h.RG;have l5:=h.S.l1;have g:=af W E j x;exact⟨h.S.store (by omega) (by omega) (λb hb=>(h.aE b hb).1) j x,az h.hG g (by omega),h.hE.set j x,qe h.row g (λk hk=>by have:=h.vb k hk;simp;omega),h.vb,h.lR,h.lG,h.gE,h.RG,h.aE,Nat.le_trans h.bs g.size⟩
theorem StL.bounded(h:StL w R G E base a m c f n v i es W p e fa ed){o:Except (Int×Int) Nat}(hS:StR o m p e fa)(most er:Int)(her:¬er=0):
  Calls Tryz.prog 38 #[.pointer (some ⟨R,0,none⟩),.int .i64 most,.int .i64 er] W λx W'=>∃p' e' fa',x= .returned (.int .i64 (aZ (aT o λp=>aM f m p most er)))/\StR (aI (aT o λp=>aM f m p most er)) m p' e' fa'/\StL w R G E base a m c f n v i es W' p' e' fa' ed:=
 (h.S.bounded hS most er her).mono λx W' ⟨p',e',fa',h1,h2,h3,h4⟩=>⟨p',e',fa',h1,h2,h.call h4 h3⟩
end
set_option maxRecDepth 100000 in
set_option maxHeartbeats 4000000 in
theorem mt(P:Nat->Int->List (Int×Int×Int)->World->Option Addr->Nat->Nat->Prop)
  (a:Option Addr) (m c:Nat) (f:Nat->Int) (w:World) (hb:Rd8 w a m f) (hc:m<=c) (hm:m<=100000) (hz:a=none->c=0/\m=0)
  (HC:∀(base:Nat) (W:World) (n:Int) (v:Value) (l:List (Int×Int×Int)),cg f m= .ok (n,l)->base<=W.heap.size->0<=n->n<=4096->l.length<=65536->InE n l->W.ownsRow base 52 3 v l.length (fu l)->(l= []->v= .slice none 0 0)->Calls Tryz.prog 24 #[.agg #[.int .i64 n,v]] W λx w'=>∃a' k' c',x= .returned (.agg #[.int .i64 n,.slice a' k' c'])/\P base n l w' a' k' c'/\Below W.heap.size W w')
  (HP:∀base n l w' w'' a' k' c' b,P base n l w' a' k' c'->w'.grownBy w'' (some b)->b<base->P base n l w'' a' k' c'):
  Calls Tryz.prog 13 #[.slice a m c] w λx w'=>
   (match cg f m with
    | .ok (n,l)=>∃base a' k' c',w.heap.size<=base/\x= .returned (.tuple #[.agg #[.int .i64 n,.slice a' k' c'],.agg #[.int .i64 0,.int .i64 0]])/\P base n l w' a' k' c'
    | .error er=>x= .returned (.tuple #[.agg #[.int .i64 0,.slice none 0 0],.agg #[.int .i64 er.1,.int .i64 er.2]]))/\Below w.heap.size w w':=by
 obtain⟨i0,hi,hz0,hz1,hz2⟩:=im HQ;obtain⟨O,hO⟩:∃O,O=cg f m:=⟨_,rfl⟩;rw [<-hO];have HO:=Lib.hid hO;clear hO;have HC:=Lib.hid HC;have HP:=Lib.hid HP;have B2:Below w.heap.size w ((w.alloc (.cells #[.int .i64 0,.slice none 0 0] 24)).alloc (.cells #[.int .i64 0,.int .i64 0] 33)):=bl2 _ _ _;have h2:CellsAt ((w.alloc (.cells #[.int .i64 0,.slice none 0 0] 24)).alloc (.cells #[.int .i64 0,.int .i64 0] 33)) w.heap.size 24 #[.int .i64 0,.slice none 0 0]:=CellsAt.below (World.alloc_heap_new w _) (bl1 _ _)
 have h3:CellsAt ((w.alloc (.cells #[.int .i64 0,.slice none 0 0] 24)).alloc (.cells #[.int .i64 0,.int .i64 0] 33)) (w.heap.size+1) 33 #[.int .i64 0,.int .i64 0]:=by
  have:=World.alloc_heap_new (w.alloc (.cells #[.int .i64 0,.slice none 0 0] 24)) (.cells #[.int .i64 0,.int .i64 0] 33)
  simpa [CellsAt]using this
 have hsz:((w.alloc (.cells #[.int .i64 0,.slice none 0 0] 24)).alloc (.cells #[.int .i64 0,.int .i64 0] 33)).heap.size=w.heap.size+2:=by simp
 have hb0:=hb.grown (ab B2 none) (λ_ _=>by simp);have C0:=Lib.hid (wL a m c f _ hb0 hm hc hz);clear hb hb0
 go_enter Tryz.func13,Tryz.ntmps13
 go_wp2_with fail
 generalize ((w.alloc (.cells #[.int .i64 0,.slice none 0 0] 24)).alloc (.cells #[.int .i64 0,.int .i64 0] 33))=W0 at B2 h2 h3 hsz C0 ⊢;refine C0.out.mono ?_;rintro x w1 ⟨R,a',c',rfl,hR1,hb1,hc1,hn1,hz1,hRn,hB1⟩;have S0:StD w R a' m c' f w1 0 0 0:=⟨hR1,hb1,h2.below hB1,h3.below hB1,B2.trans (hB1.mono B2.size),by omega,λb e=>(hn1 b e).1,λb e=>by have:=(hn1 b e).2.1;omega,λb e=>(hn1 b e).2.2,hz1,hc1,hm⟩;clear C0 h2 h3 hR1 hb1 hc1 hn1 hz1 hRn hB1 B2 hz hc hm hsz;have M0:=Lib.hid (tr R a' m c' 0 f ⟨#[70,82,84,49]⟩ w1 S0.hR S0.hb S0.n4 S0.hz S0.hc S0.hm)
 go_wp2_with fail
 refine M0.out.mono ?_;rintro x w2 ⟨p1,e1,f1,rfl,s1,hR1,g1⟩;have S1:=S0.call g1 hR1;clear M0 S0 hR1 g1;have A1:=Lib.hid (lI R _ p1 e1 f1 w2 S1.hR)
 go_wp2_with fail
 refine A1.out.mono ?_;rintro x w3 ⟨rfl,hB3⟩;have S2:=S1.below hB3;clear A1 S1 hB3;have U:=Lib.hid (KN R a' m c' p1 e1 f1 f w3 S2.hR S2.hb S2.n4 S2.hz S2.hc S2.hm s1.1)
 go_wp2_with fail
 refine U.out.mono ?_;rintro x w4 ⟨rfl,hR4,g4⟩;have S3:=S2.call g4 hR4;clear U hR4 g4;obtain⟨kd,hkd⟩:∃kd,kd=(if cP e1 m p1 1=true then le (λi=>f (p1+i)) 1 else 0):=⟨_,rfl⟩;rw [<-hkd]
 -- the state behind the kind
 obtain⟨p2,hp2⟩:∃p2,p2=nP e1 m p1 1:=⟨_,rfl⟩;obtain⟨e2,he2⟩:∃e2,e2=nE e1 m p1 1:=⟨_,rfl⟩;obtain⟨f2,hf2⟩:∃f2,f2=nF f1 e1 m p1 1:=⟨_,rfl⟩;rw [<-hp2,<-he2,<-hf2]at S3
 have KK:(0<=kd/\kd<=255)/\p2<=m/\((e2≠0/\kd=0/\StR (aI (okK f m)) m p2 e2 f2)∨(e2=0/\(1<kd->StR (aI (okK f m)) m p2 8 p1)/\(¬1<kd->StR (aI (okK f m)) m p2 0 f2/\kd=aZ (okK f m)))):=by
  obtain⟨hp1,s1⟩:=s1;unfold okK
  cases ho:rI f m ⟨#[70,82,84,49]⟩with
  |error er=>
   rw [ho]at s1;obtain⟨h1,h2,h3⟩:=s1;obtain⟨t1,t2,t3,t4⟩:=kf (e:=e1) f1 m p1 1 (by rw [h1];exact h3);rw [t1,if_neg (by decide)]at hkd;rw [t2]at he2;rw [t3]at hf2;rw [t4]at hp2;refine⟨by omega,by omega,.inl ⟨by rw [he2,h1];exact h3,hkd,by omega,?_⟩⟩;show e2=er.1/\f2=er.2/\er.1≠0;exact⟨by rw [he2,h1],by rw [hf2,h2],h3⟩
  |ok q=>
   rw [ho]at s1;obtain⟨h1,h2⟩:=s1;subst h1;subst h2;by_cases h5:p1+1<=m
   .obtain⟨t1,t2,t3,t4⟩:=iW f1 m p1 1 (by decide) (by omega);have hle:le (λi=>f (p1+i)) 1=f p1:=by simp [le]
    rw [t1,if_pos rfl,hle]at hkd;rw [t2]at he2;rw [t3]at hf2;rw [t4]at hp2;have hbd:=ng S3.hb p1 (by omega);have e5:p2=p1+1:=hp2;refine⟨by rw [hkd];exact hbd,by omega,.inr ⟨he2,λh=> ?_,λh=> ?_⟩⟩
    .rw [hkd]at h;show StR (aI (oA f m p1)) m p2 8 p1;unfold oA;rw [if_pos h5,if_pos h];exact⟨by omega,rfl,rfl,show(8:Int)≠0 by decide⟩
    .rw [hkd]at h;show StR (aI (oA f m p1)) m p2 0 f2/\kd=aZ (oA f m p1);unfold oA;rw [if_pos h5,if_neg h];exact⟨⟨by omega,rfl,e5⟩,hkd⟩
   .obtain⟨t1,t2,t3,t4⟩:=dA f1 m p1 1 (by decide) (by omega);rw [t1,if_neg (by decide)]at hkd;rw [t2]at he2;rw [t3]at hf2;rw [t4]at hp2;refine⟨by omega,by omega,.inl ⟨by omega,hkd,?_⟩⟩;show StR (aI (oA f m p1)) m p2 e2 f2;unfold oA;rw [if_neg h5];exact⟨by omega,he2,hf2,show(2:Int)≠0 by decide⟩
 clear hkd hp2 he2 hf2 s1;obtain⟨kb,kp,KK⟩:=KK;by_cases hk1:1<kd
 .obtain⟨s5,hkd3⟩:StR (aI (okK f m)) m p2 8 p1/\Hid ((∃q,aI (okK f m)= .ok q)->(kd<=1/\kd=aZ (okK f m))):=by
   rcases KK with⟨_,h2,_⟩|⟨h1,h2,_⟩
   .omega
   .have s5:=h2 hk1;refine⟨s5,Lib.hid λ⟨q,hq⟩=> ?_⟩;rw [hq]at s5;exact absurd s5.2.1 (by decide)
  have e20:e2=0:=by
   rcases KK with⟨_,h2,_⟩|⟨h1,h2,_⟩
   .omega
   .exact h1
  subst e20;have L:=Lib.hid (fv R _ p2 f2 8 p1 w4 S3.hR (by decide));clear KK
  go_wp2_with fail
  refine L.out.mono ?_;rintro x w5 ⟨rfl,hR5,g5⟩;have S5:=S3.call g5 hR5;clear L hR5 g5 S3;have N1:=Lib.hid (S5.bounded s5 4096 5 (by decide))
  go_wp2_with fail
  refine N1.out.mono ?_;rintro x w6 ⟨p4,e4,f4,rfl,s6,S6,g6⟩;have nb:=ju (f:=f) (m:=m) (o:=aI (okK f m)) (most:=4096) (er:=5) S5.hb (by decide);obtain⟨n,hn⟩:∃n,Hid (n=aZ (okN f m)):=⟨_,Lib.hid rfl⟩;have s6:StR (aI (okN f m)) m p4 e4 f4:=s6;have hn2:aZ (aT (aI (okK f m)) λp=>aM f m p 4096 5)=n:=hn.out.symm;rw [hn2]at nb ⊢;clear N1 S5 s5 g6 hn2;have BA:=bl1 w6 (.cells #[.int .i64 n,.slice none 0 0] 24);have S7:=S6.below BA;have hG:CellsAt (w6.alloc (.cells #[.int .i64 n,.slice none 0 0] 24)) w6.heap.size 24 #[.int .i64 n,.slice none 0 0]:=World.alloc_heap_new w6 _;have lG:R<w6.heap.size:=S6.hR.lt;have lGa:=S6.n6;have N2:=Lib.hid (S7.bounded s6 65536 5 (by decide));clear S6 BA s6
  go_wp2_with fail
  generalize w6.alloc (.cells #[.int .i64 n,.slice none 0 0] 24)=W7 at S7 hG N2 ⊢;generalize w6.heap.size=G at hG lG lGa ⊢;refine N2.out.mono ?_;rintro x w8 ⟨p8,e8,f8,rfl,s8,S8,g8⟩;have hG8:=az hG g8 (by omega);have mb:=ju (f:=f) (m:=m) (o:=aI (okN f m)) (most:=65536) (er:=5) S7.hb (by decide);have s8:StR (aI (okM f m)) m p8 e8 f8:=s8;obtain⟨K0,hK⟩:∃K0,Hid (K0=aZ (okM f m)):=⟨_,Lib.hid rfl⟩;have hK2:aZ (aT (aI (okN f m)) λp=>aM f m p 65536 5)=K0:=hK.out.symm;rw [hK2]at mb ⊢;obtain⟨K,rfl⟩:=Int.eq_ofNat_of_zero_le mb.1;obtain⟨T,hT⟩:∃T,T=okT f m kd:=⟨_,rfl⟩
  have hOT:Hid (O=KO n m T):=Lib.hid (by
   rw [HO.out,hn.out,hT];refine mr f m kd λ⟨q,hq⟩=> ?_;have hk:=Eh hq
   exact(hkd3.out hk).2)
  have hTl:Hid ((e8=0/\T=dr [] (aW f m n kd (K - 0) p8))∨(e8≠0/\T= .error (e8,f8))):=Lib.hid (by
   rw [hT];unfold okT
   cases ho:aI (okM f m)with
   |ok q=>
    rw [ho]at s8;obtain⟨_,h1,h2⟩:=s8;exact .inl ⟨h1,by rw [ko,<-hn.out,<-hK.out,Int.toNat_natCast,h2];rfl⟩
   |error er=>
    rw [ho]at s8;obtain⟨_,h1,h2,h3⟩:=s8
    exact .inr ⟨by rw [h1];exact h3,by rw [h1,h2]⟩)
  have hIn:Hid (∀l q,T= .ok (l,q)->InE n l/\l.length<=65536):=Lib.hid (by
   intro l q hq;rw [hT]at hq;unfold okT at hq;split at hq
   .have h1:=lD S8.hb _ _ hq;have h2:=jt _ _ hq;rw [<-hn.out]at h1;rw [<-hK.out,Int.toNat_natCast]at h2;exact⟨h1,by omega⟩
   .cases hq)
  have p8m:=s8.1;clear N2 S7 hG g8 s8 hT hn hK hK2;have lB:=S8.hR.lt;have lGB:=hG8.lt
  go_wp2_with fail
  go_loopw [9] (λy wr=>∃(i:Nat) (es:List (Int×Int×Int)) (v:Value) (p:Nat) (e fa:Int),y= .int .i64 i/\i<=K/\es.length=i/\StD w R a' m c' f wr p e fa/\CellsAt wr G 24 #[.int .i64 n,v]/\wr.ownsRow w8.heap.size 52 3 v i (fu es)/\(i=0->v= .slice none 0 0)/\p<=m/\w8.heap.size<=wr.heap.size/\Hid ((e=0/\T=dr es (aW f m n kd (K - i) p))∨(e≠0/\T= .error (e,fa)))) (λy _=>K - (intOf y).toNat)
  case atStart=>
   exact⟨0,[],_,p8,e8,f8,rfl,by omega,rfl,S8,hG8,World.ownsRow_nil _ _ _ _,λ_=>rfl,p8m,Nat.le_refl _,hTl⟩
  case round=>
   obtain⟨i,es,v,p,e,fa,rfl,hik,hlen,S,hGr,hrow,hnil,hpm,hsz,hE⟩:=hrel;clear S8 hG8 hTl;have l1:=S.l1;have hb0:w8.heap.size<=wr.heap.size:=hsz;by_cases hlt:i<K
   .have hlt':(i:Int)<(K:Int):=by omega
    have F0:=Lib.hid (ar R _ p e fa wr S.hR);by_cases he:e=0
    .subst he
     have hT1:Hid (T=dr es (aW f m n kd (K - (i+1)+1) p)):=Lib.hid (by
      rcases hE.out with⟨_,h⟩|⟨h,_⟩
      .rw [h,show K - i=K - (i+1)+1 by omega]
      .exact absurd rfl h)
     clear hE
     go_wp2_with fail
     refine F0.out.mono ?_;rintro x v1 ⟨rfl,hB1⟩;have BA:=bl1 v1 (.cells #[.int .i64 0,.int .i64 0,.int .i64 1] 52)
     have L0:StL w R G v1.heap.size w8.heap.size a' m c' f n v i es (v1.alloc (.cells #[.int .i64 0,.int .i64 0,.int .i64 1] 52)) p 0 fa #[.int .i64 0,.int .i64 0,.int .i64 1]:=by
      have z1:=hB1.size;have z2:=hGr.lt;have r1:=bB hrow hB1;exact⟨(S.below hB1).below BA,(hGr.below hB1).below BA,World.alloc_heap_new v1 _,bB r1 BA,λk hk=>by have:=(r1.lt k hk).2;omega,lB,lGB,by omega,lG,λb hb=>⟨by have:=S.n6 b hb;omega,by have:=lGa b hb;omega⟩,by simp;omega⟩
     have s0:StR (.ok p) m p 0 fa:=⟨hpm,rfl,rfl⟩;have N1:=Lib.hid (L0.bounded s0 (n - 1) 3 (by decide));have cG:=L0.hG.cell 0;have kG:Has (v1.alloc (.cells #[.int .i64 0,.int .i64 0,.int .i64 1] 52)) G:=L0.hG.lt;clear F0 S hGr hrow hB1 BA s0
     go_wp2_with fail
     generalize v1.alloc (.cells #[.int .i64 0,.int .i64 0,.int .i64 1] 52)=V1 at L0 N1 cG kG ⊢;generalize v1.heap.size=E at L0 N1 ⊢;refine N1.out.mono ?_;rintro x v2 ⟨q1,e1',f1',rfl,s1',L1⟩;obtain⟨x1,hx1⟩:∃x1,Hid (x1=aZ (aT (.ok p) λp=>aM f m p (n - 1) 3)):=⟨_,Lib.hid rfl⟩;rw [<-hx1.out];have c0:=L1.hE.cell 0;have g0:=L1.hE.frozen 0;have kE:Has v2 E:=L1.hE.lt;have L2:=L1.store 0 (.int .i64 x1);have cG2:=L2.hG.cell 0;have N2:=Lib.hid (L2.bounded s1' (n - 1) 3 (by decide));have kG2:Has v2 G:=L1.hG.lt;clear N1 L0 cG kG L1
     go_wp2_with fail
     generalize v2.setCell {block:=E,off:=0} (Value.int IntKind.i64 x1)=V2 at L2 N2 cG2 ⊢;refine N2.out.mono ?_;rintro x v3 ⟨q2,e2',f2',rfl,s2',L3⟩;obtain⟨x2,hx2⟩:∃x2,Hid (x2=aZ (aT (aI (aT (.ok p) λp=>aM f m p (n - 1) 3)) λp=>aM f m p (n - 1) 3)):=⟨_,Lib.hid rfl⟩;rw [<-hx2.out];have c1:=L3.hE.cell 1;have g1:=L3.hE.frozen 1;have kE3:Has v3 E:=L3.hE.lt;have L4:=L3.store 1 (.int .i64 x2);clear N2 L2 cG2 kG2 c0 g0 kE L3;have hk:¬kd=1:=by omega
     have nx:Hid ((e2'=0/\T=dr (es++ [(x1,x2,1)]) (aW f m n kd (K - (i+1)) q2))∨(e2'≠0/\T= .error (e2',f2'))):=Lib.hid (qg hT1.out (by rw [hx1.out,hx2.out];exact wM f m p n kd hk) s2');have q2m:=s2'.1;clear hT1 hx1 hx2 s1' s2';have d0:=L4.hE.cell 0;have d1:=L4.hE.cell 1;have d2:=L4.hE.cell 2;have cv:=L4.hG.cell 1;obtain⟨bs,cap,rfl⟩:=bL L4.row;have kG6:Has (v3.setCell {block:=E,off:=1} (Value.int IntKind.i64 x2)) G:=L4.hG.lt;have kE6:Has (v3.setCell {block:=E,off:=1} (Value.int IntKind.i64 x2)) E:=L4.hE.lt;have sE:(v3.setCell {block:=E,off:=1} (Value.int IntKind.i64 x2)).heap.size=v3.heap.size:=by simp
     have h3c:=bK (v3.setCell {block:=E,off:=1} (Value.int IntKind.i64 x2)) (.int .i64 x1) (.int .i64 x2) (.int .i64 1) 52;rw [sE]at h3c;have hGx:=L4.hG;have Sx:=L4.S;have rx:=L4.row;have vbx:=rx.lt;have bx:=L4.bs;clear L4
     go_wp2_with (refine wpList_append_own _ rfl _ _ 22 rfl w8.heap.size 52 i0 (.agg #[.int .i64 0,.int .i64 0,.int .i64 0]) 3 24 Tryz.underlying22 hi hz0 hz1 hz2 rfl (by decide) _ _ _ rfl (rx.alloc _) ⟨v3.heap.size,0,none⟩ 1 1 [.int .i64 x1,.int .i64 x2,.int .i64 1] rfl rfl h3c (by simp [Value.oneCell']) (by unfold maxLen;omega) (by omega) (by simp;omega) ?_;intro v' V7 hown' hgrow _;obtain⟨g',cap',rfl⟩:=ownsRow_succ hown';have hgA:=ae (ab (bl1 (v3.setCell {block:=E,off:=1} (Value.int IntKind.i64 x2)) (.cells #[.int .i64 x1,.int .i64 x2,.int .i64 1] 52)) _) hgrow;have hG7:=hGx.grown hgA (λe=>by have:=(vbx G e.symm).1;omega);have z1:=hG7.cell 1;have z2:=hG7.frozen 1;have kG7:=Has.of hG7.lt;clear hgrow h3c)
     refine⟨?_,by simp [intOf];omega⟩;have S9:=(Sx.grow hgA (λk hk=>(vbx k hk).1) lB (λb hb=>by have:=lGa b hb;omega)).store (G:=G) (by omega) (by omega) (λb hb=>by have:=lGa b hb;omega) 1 (.slice (some ⟨g',0,none⟩) (i+1) cap');have R9:=bA hown' (af V7 G 1 (.slice (some ⟨g',0,none⟩) (i+1) cap')) lGB;have C9:=hG7.set 1 (.slice (some ⟨g',0,none⟩) (i+1) cap');have z9:=hgA.size;exact⟨i+1,es++ [(x1,x2,1)],.slice (some ⟨g',0,none⟩) (i+1) cap',q2,e2',f2',by simp,by omega,by simp [hlen],S9,C9,by rw [ep];exact R9,λh=>by omega,q2m,by simp at z9 ⊢;omega,nx⟩
    .have hOf:Hid (O= .error (e,fa)):=Lib.hid (by
      rcases hE.out with⟨h,_⟩|⟨_,h⟩
      .exact absurd h he
      .rw [hOT.out,h];rfl)
     clear hE hrow hGr
     go_wp2_with fail
     refine F0.out.mono ?_;rintro x w9 ⟨rfl,hB9⟩;have S9:=S.below hB9;clear F0 S hB9;have FA:=Lib.hid (ar R _ p e fa w9 S9.hR)
     go_wp2_with fail
     refine FA.out.mono ?_;rintro x wa ⟨rfl,hBa⟩;have Sa:=S9.below hBa;clear FA S9 hBa;have FB:=Lib.hid (ar R _ p e fa wa Sa.hR)
     go_wp2_with fail
     refine FB.out.mono ?_;rintro x wb ⟨rfl,hBb⟩;have Sb:=Sa.below hBb;clear FB Sa hBb;have FC:=Lib.hid (ar R _ p e fa wb Sb.hR)
     go_wp2_with fail
     refine FC.out.mono ?_;rintro x wc ⟨rfl,hBc⟩;have Sc:=Sb.below hBc;clear FC Sb hBc;have l1:=Sc.l1;have o0:=Sc.r2.cell 0;have fo0:=Sc.r2.frozen 0;have P1:=Sc.r2.set 0 (.int .i64 0);have o1:=P1.cell 1;have fo1:=P1.frozen 1;have P2:=P1.set 1 (.slice none 0 0);have F2:=ah (ah Sc.r3 (show w.heap.size+1≠w.heap.size by omega) (.int .i64 0) 0) (show w.heap.size+1≠w.heap.size by omega) (.slice none 0 0) 1;have u0:=F2.cell 0;have fu0:=F2.frozen 0;have F3:=F2.set 0 (.int .i64 e);have u1:=F3.cell 1;have fu1:=F3.frozen 1;have F4:=Lib.hid (F3.set 1 (.int .i64 fa));have O4:=Lib.hid (ah (ah P2 (show w.heap.size≠w.heap.size+1 by omega) (.int .i64 e) 0) (show w.heap.size≠w.heap.size+1 by omega) (.int .i64 fa) 1);have Z:=Lib.hid ((((Sc.bl.setCell (p:=⟨w.heap.size,0,none⟩) (Nat.le_refl _) (.int .i64 0)).setCell (p:=⟨w.heap.size,1,none⟩) (Nat.le_refl _) (.slice none 0 0)).setCell (p:=⟨w.heap.size+1,0,none⟩) (Nat.le_succ _) (.int .i64 e)).setCell (p:=⟨w.heap.size+1,1,none⟩) (Nat.le_succ _) (.int .i64 fa));clear P1 P2 F2 F3 Sc;have hOe:=hOf.out;clear hOf hOT;subst hOe
     go_wp2_with fail
     (try simp only [Exit.inBlock,Exit.then])
     refine bodyPost_ret (aD rfl _ _ w.heap.size (w.heap.size+1) 24 33 _ _ _ _ _ _ rfl O4.out rfl F4.out Tryz.underlying24 rfl (by kernel_rfl) Tryz.underlying33 rfl (by kernel_rfl)) rfl ?_;exact⟨rfl,Z.out⟩
   .obtain rfl:i=K:=by omega
    by_cases he:e=0
    .have hTe:T= .ok (es,p):=by
      rcases hE.out with⟨_,h⟩|⟨h,_⟩
      .rw [h,Nat.sub_self];simp [aW,dr]
      .exact absurd he h
     subst he;have hin:=hIn.out es p hTe;clear hE;have FA:=Lib.hid (ar R _ p 0 fa wr S.hR)
     go_wp2_with fail
     refine FA.out.mono ?_;rintro x wa ⟨rfl,hBa⟩;have Sa:=S.below hBa;have hGa:=hGr.below hBa;have ra:=bB hrow hBa;have za:=hBa.size;clear FA S hBa hGr hrow;by_cases hq:p=m
     .have hOf:Hid (O= .ok (n,es)):=Lib.hid (by rw [hOT.out,hTe];show(if p=m then _ else _)=_;rw [if_pos hq]);have EN:=Lib.hid (lJ R a' m c' p fa wa Sa.hR true (by simp [hq]));clear hq
      go_wp2_with fail
      refine EN.out.mono ?_;rintro x wb ⟨rfl,hBb⟩;have Sb:=Sa.below hBb;have hGb:=hGa.below hBb;have rb:=bB ra hBb;have zb:=hBb.size;clear EN Sa hBb hGa ra;have FC:=Lib.hid (ar R _ p 0 fa wb Sb.hR)
      go_wp2_with fail
      refine FC.out.mono ?_;rintro x wc ⟨rfl,hBc⟩;have Sc:=Sb.below hBc;have hGc:=hGb.below hBc;have rc:=bB rb hBc;have zc:=hBc.size;clear FC Sb hBc hGb rb;have d0:=hGc.cell 0;have d1:=hGc.cell 1;have kGc:Has wc G:=hGc.lt;subst hlen;have CC:=Lib.hid (HC.out w8.heap.size wc n v es (by rw [<-HO.out];exact hOf.out) (by omega) nb.1 nb.2 hin.2 hin.1 rc (λh=>hnil (by rw [h];rfl)));obtain⟨bs,cap,rfl⟩:=bL rc
      go_wp2_with fail
      refine CC.out.mono ?_;rintro x wd ⟨a2,k2,c2,rfl,hP,hBd⟩;have Sd:=Sc.below hBd;have l2:=Sd.l1;clear CC Sc hBd hGc rc d0 d1 kGc;have o0:=Sd.r2.cell 0;have fo0:=Sd.r2.frozen 0;have P1:=Sd.r2.set 0 (.int .i64 n);have o1:=P1.cell 1;have fo1:=P1.frozen 1;have P2:=P1.set 1 (.slice a2 k2 c2);have F2:=ah (ah Sd.r3 (show w.heap.size+1≠w.heap.size by omega) (.int .i64 n) 0) (show w.heap.size+1≠w.heap.size by omega) (.slice a2 k2 c2) 1;have u0:=F2.cell 0;have fu0:=F2.frozen 0;have F3:=F2.set 0 (.int .i64 0);have u1:=F3.cell 1;have fu1:=F3.frozen 1;have F4:=Lib.hid (F3.set 1 (.int .i64 0));have O4:=Lib.hid (ah (ah P2 (show w.heap.size≠w.heap.size+1 by omega) (.int .i64 0) 0) (show w.heap.size≠w.heap.size+1 by omega) (.int .i64 0) 1);have LO:w.heap.size<w8.heap.size:=by omega
      have LB:w.heap.size+1<w8.heap.size:=by omega
      have X1:=HP.out _ _ _ _ _ _ _ _ _ hP (af wd w.heap.size 0 (.int .i64 n)) LO;have X2:=HP.out _ _ _ _ _ _ _ _ _ X1 (af _ w.heap.size 1 (.slice a2 k2 c2)) LO;have X3:=HP.out _ _ _ _ _ _ _ _ _ X2 (af _ (w.heap.size+1) 0 (.int .i64 0)) LB;have X4:=Lib.hid (HP.out _ _ _ _ _ _ _ _ _ X3 (af _ (w.heap.size+1) 1 (.int .i64 0)) LB);have Z:=Lib.hid ((((Sd.bl.setCell (p:=⟨w.heap.size,0,none⟩) (Nat.le_refl _) (.int .i64 n)).setCell (p:=⟨w.heap.size,1,none⟩) (Nat.le_refl _) (.slice a2 k2 c2)).setCell (p:=⟨w.heap.size+1,0,none⟩) (Nat.le_succ _) (.int .i64 0)).setCell (p:=⟨w.heap.size+1,1,none⟩) (Nat.le_succ _) (.int .i64 0));clear P1 P2 F2 F3 Sd X1 X2 X3 hP;have hOe:=hOf.out;clear hOf hOT;subst hOe
      go_wp2_with fail
      (try simp only [Exit.inBlock,Exit.then])
      refine bodyPost_ret (aD rfl _ _ w.heap.size (w.heap.size+1) 24 33 _ _ _ _ _ _ rfl O4.out rfl F4.out Tryz.underlying24 rfl (by kernel_rfl) Tryz.underlying33 rfl (by kernel_rfl)) rfl ?_;have hL:w.heap.size<=w8.heap.size:=by omega
      first|exact⟨⟨w8.heap.size,a2,k2,c2,hL,rfl,X4.out⟩,Z.out⟩|exact⟨⟨w8.heap.size,hL,a2,k2,c2,rfl,X4.out⟩,Z.out⟩
     .have hOf:Hid (O= .error (4,(p:Int))):=Lib.hid (by rw [hOT.out,hTe];show(if p=m then _ else _)=_;rw [if_neg hq]);have EN:=Lib.hid (lJ R a' m c' p fa wa Sa.hR false (by simp [hq]));clear hq
      go_wp2_with fail
      refine EN.out.mono ?_;rintro x wb ⟨rfl,hBb⟩;have Sb:=Sa.below hBb;clear EN Sa hBb hGa ra;have AT:=Lib.hid (lI R _ p 0 fa wb Sb.hR)
      go_wp2_with fail
      refine AT.out.mono ?_;rintro x wc ⟨rfl,hBc⟩;have Sc:=Sb.below hBc;clear AT Sb hBc;have FL:=Lib.hid (fv R _ p fa 4 p wc Sc.hR (by decide))
      go_wp2_with fail
      refine FL.out.mono ?_;rintro x wd ⟨rfl,hRd,gd⟩;have Sd:=Sc.call gd hRd;clear FL Sc hRd gd;have FB:=Lib.hid (ar R _ p 4 p wd Sd.hR)
      go_wp2_with fail
      refine FB.out.mono ?_;rintro x we ⟨rfl,hBe⟩;have Se:=Sd.below hBe;clear FB Sd hBe;have FC:=Lib.hid (ar R _ p 4 p we Se.hR)
      go_wp2_with fail
      refine FC.out.mono ?_;rintro x wf ⟨rfl,hBf⟩;have Sc:=Se.below hBf;have l1:=Sc.l1;clear FC Se hBf;have o0:=Sc.r2.cell 0;have fo0:=Sc.r2.frozen 0;have P1:=Sc.r2.set 0 (.int .i64 0);have o1:=P1.cell 1;have fo1:=P1.frozen 1;have P2:=P1.set 1 (.slice none 0 0);have F2:=ah (ah Sc.r3 (show w.heap.size+1≠w.heap.size by omega) (.int .i64 0) 0) (show w.heap.size+1≠w.heap.size by omega) (.slice none 0 0) 1;have u0:=F2.cell 0;have fu0:=F2.frozen 0;have F3:=F2.set 0 (.int .i64 4);have u1:=F3.cell 1;have fu1:=F3.frozen 1;have F4:=Lib.hid (F3.set 1 (.int .i64 p));have O4:=Lib.hid (ah (ah P2 (show w.heap.size≠w.heap.size+1 by omega) (.int .i64 4) 0) (show w.heap.size≠w.heap.size+1 by omega) (.int .i64 p) 1);have Z:=Lib.hid ((((Sc.bl.setCell (p:=⟨w.heap.size,0,none⟩) (Nat.le_refl _) (.int .i64 0)).setCell (p:=⟨w.heap.size,1,none⟩) (Nat.le_refl _) (.slice none 0 0)).setCell (p:=⟨w.heap.size+1,0,none⟩) (Nat.le_succ _) (.int .i64 4)).setCell (p:=⟨w.heap.size+1,1,none⟩) (Nat.le_succ _) (.int .i64 p));clear P1 P2 F2 F3 Sc;have hOe:=hOf.out;clear hOf hOT;subst hOe
      go_wp2_with fail
      (try simp only [Exit.inBlock,Exit.then])
      refine bodyPost_ret (aD rfl _ _ w.heap.size (w.heap.size+1) 24 33 _ _ _ _ _ _ rfl O4.out rfl F4.out Tryz.underlying24 rfl (by kernel_rfl) Tryz.underlying33 rfl (by kernel_rfl)) rfl ?_;exact⟨rfl,Z.out⟩
    .have hOf:Hid (O= .error (e,fa)):=Lib.hid (by
      rcases hE.out with⟨h,_⟩|⟨_,h⟩
      .exact absurd h he
      .rw [hOT.out,h];rfl)
     clear hE hrow hGr;have FA:=Lib.hid (ar R _ p e fa wr S.hR)
     go_wp2_with fail
     refine FA.out.mono ?_;rintro x wa ⟨rfl,hBa⟩;have Sa:=S.below hBa;clear FA S hBa;have FB:=Lib.hid (ar R _ p e fa wa Sa.hR)
     go_wp2_with fail
     refine FB.out.mono ?_;rintro x wb ⟨rfl,hBb⟩;have Sb:=Sa.below hBb;clear FB Sa hBb;have FC:=Lib.hid (ar R _ p e fa wb Sb.hR)
     go_wp2_with fail
     refine FC.out.mono ?_;rintro x wc ⟨rfl,hBc⟩;have Sc:=Sb.below hBc;clear FC Sb hBc;have l1:=Sc.l1;have o0:=Sc.r2.cell 0;have fo0:=Sc.r2.frozen 0;have P1:=Sc.r2.set 0 (.int .i64 0);have o1:=P1.cell 1;have fo1:=P1.frozen 1;have P2:=P1.set 1 (.slice none 0 0);have F2:=ah (ah Sc.r3 (show w.heap.size+1≠w.heap.size by omega) (.int .i64 0) 0) (show w.heap.size+1≠w.heap.size by omega) (.slice none 0 0) 1;have u0:=F2.cell 0;have fu0:=F2.frozen 0;have F3:=F2.set 0 (.int .i64 e);have u1:=F3.cell 1;have fu1:=F3.frozen 1;have F4:=Lib.hid (F3.set 1 (.int .i64 fa));have O4:=Lib.hid (ah (ah P2 (show w.heap.size≠w.heap.size+1 by omega) (.int .i64 e) 0) (show w.heap.size≠w.heap.size+1 by omega) (.int .i64 fa) 1);have Z:=Lib.hid ((((Sc.bl.setCell (p:=⟨w.heap.size,0,none⟩) (Nat.le_refl _) (.int .i64 0)).setCell (p:=⟨w.heap.size,1,none⟩) (Nat.le_refl _) (.slice none 0 0)).setCell (p:=⟨w.heap.size+1,0,none⟩) (Nat.le_succ _) (.int .i64 e)).setCell (p:=⟨w.heap.size+1,1,none⟩) (Nat.le_succ _) (.int .i64 fa));clear P1 P2 F2 F3 Sc;have hOe:=hOf.out;clear hOf hOT;subst hOe
     go_wp2_with fail
     (try simp only [Exit.inBlock,Exit.then])
     refine bodyPost_ret (aD rfl _ _ w.heap.size (w.heap.size+1) 24 33 _ _ _ _ _ _ rfl O4.out rfl F4.out Tryz.underlying24 rfl (by kernel_rfl) Tryz.underlying33 rfl (by kernel_rfl)) rfl ?_;exact⟨rfl,Z.out⟩
 .obtain⟨s5,hkd3⟩:StR (aI (okK f m)) m p2 e2 f2/\Hid ((∃q,aI (okK f m)= .ok q)->(kd<=1/\kd=aZ (okK f m))):=by
   rcases KK with⟨h1,h2,h3⟩|⟨h1,_,h2⟩
   .refine⟨h3,Lib.hid λ⟨q,hq⟩=> ?_⟩;rw [hq]at h3;exact absurd h3.2.1 h1
   .subst h1;exact⟨(h2 hk1).1,Lib.hid λ_=>⟨by omega,(h2 hk1).2⟩⟩
  have S5:=S3;clear KK S3;have N1:=Lib.hid (S5.bounded s5 4096 5 (by decide))
  go_wp2_with fail
  refine N1.out.mono ?_;rintro x w6 ⟨p4,e4,f4,rfl,s6,S6,g6⟩;have nb:=ju (f:=f) (m:=m) (o:=aI (okK f m)) (most:=4096) (er:=5) S5.hb (by decide);obtain⟨n,hn⟩:∃n,Hid (n=aZ (okN f m)):=⟨_,Lib.hid rfl⟩;have s6:StR (aI (okN f m)) m p4 e4 f4:=s6;have hn2:aZ (aT (aI (okK f m)) λp=>aM f m p 4096 5)=n:=hn.out.symm;rw [hn2]at nb ⊢;clear N1 S5 s5 g6 hn2;have BA:=bl1 w6 (.cells #[.int .i64 n,.slice none 0 0] 24);have S7:=S6.below BA;have hG:CellsAt (w6.alloc (.cells #[.int .i64 n,.slice none 0 0] 24)) w6.heap.size 24 #[.int .i64 n,.slice none 0 0]:=World.alloc_heap_new w6 _;have lG:R<w6.heap.size:=S6.hR.lt;have lGa:=S6.n6;have N2:=Lib.hid (S7.bounded s6 65536 5 (by decide));clear S6 BA s6
  go_wp2_with fail
  generalize w6.alloc (.cells #[.int .i64 n,.slice none 0 0] 24)=W7 at S7 hG N2 ⊢;generalize w6.heap.size=G at hG lG lGa ⊢;refine N2.out.mono ?_;rintro x w8 ⟨p8,e8,f8,rfl,s8,S8,g8⟩;have hG8:=az hG g8 (by omega);have mb:=ju (f:=f) (m:=m) (o:=aI (okN f m)) (most:=65536) (er:=5) S7.hb (by decide);have s8:StR (aI (okM f m)) m p8 e8 f8:=s8;obtain⟨K0,hK⟩:∃K0,Hid (K0=aZ (okM f m)):=⟨_,Lib.hid rfl⟩;have hK2:aZ (aT (aI (okN f m)) λp=>aM f m p 65536 5)=K0:=hK.out.symm;rw [hK2]at mb ⊢;obtain⟨K,rfl⟩:=Int.eq_ofNat_of_zero_le mb.1;obtain⟨T,hT⟩:∃T,T=okT f m kd:=⟨_,rfl⟩
  have hOT:Hid (O=KO n m T):=Lib.hid (by
   rw [HO.out,hn.out,hT];refine mr f m kd λ⟨q,hq⟩=> ?_;have hk:=Eh hq
   exact(hkd3.out hk).2)
  have hTl:Hid ((e8=0/\T=dr [] (aW f m n kd (K - 0) p8))∨(e8≠0/\T= .error (e8,f8))):=Lib.hid (by
   rw [hT];unfold okT
   cases ho:aI (okM f m)with
   |ok q=>
    rw [ho]at s8;obtain⟨_,h1,h2⟩:=s8;exact .inl ⟨h1,by rw [ko,<-hn.out,<-hK.out,Int.toNat_natCast,h2];rfl⟩
   |error er=>
    rw [ho]at s8;obtain⟨_,h1,h2,h3⟩:=s8
    exact .inr ⟨by rw [h1];exact h3,by rw [h1,h2]⟩)
  have hIn:Hid (∀l q,T= .ok (l,q)->InE n l/\l.length<=65536):=Lib.hid (by
   intro l q hq;rw [hT]at hq;unfold okT at hq;split at hq
   .have h1:=lD S8.hb _ _ hq;have h2:=jt _ _ hq;rw [<-hn.out]at h1;rw [<-hK.out,Int.toNat_natCast]at h2;exact⟨h1,by omega⟩
   .cases hq)
  have p8m:=s8.1;clear N2 S7 hG g8 s8 hT hn hK hK2;have lB:=S8.hR.lt;have lGB:=hG8.lt
  go_wp2_with fail
  go_loopw [9] (λy wr=>∃(i:Nat) (es:List (Int×Int×Int)) (v:Value) (p:Nat) (e fa:Int),y= .int .i64 i/\i<=K/\es.length=i/\StD w R a' m c' f wr p e fa/\CellsAt wr G 24 #[.int .i64 n,v]/\wr.ownsRow w8.heap.size 52 3 v i (fu es)/\(i=0->v= .slice none 0 0)/\p<=m/\w8.heap.size<=wr.heap.size/\Hid ((e=0/\T=dr es (aW f m n kd (K - i) p))∨(e≠0/\T= .error (e,fa)))) (λy _=>K - (intOf y).toNat)
  case atStart=>
   exact⟨0,[],_,p8,e8,f8,rfl,by omega,rfl,S8,hG8,World.ownsRow_nil _ _ _ _,λ_=>rfl,p8m,Nat.le_refl _,hTl⟩
  case round=>
   obtain⟨i,es,v,p,e,fa,rfl,hik,hlen,S,hGr,hrow,hnil,hpm,hsz,hE⟩:=hrel;clear S8 hG8 hTl;have l1:=S.l1;have hb0:w8.heap.size<=wr.heap.size:=hsz;by_cases hlt:i<K
   .have hlt':(i:Int)<(K:Int):=by omega
    have F0:=Lib.hid (ar R _ p e fa wr S.hR);by_cases he:e=0
    .subst he
     have hT1:Hid (T=dr es (aW f m n kd (K - (i+1)+1) p)):=Lib.hid (by
      rcases hE.out with⟨_,h⟩|⟨h,_⟩
      .rw [h,show K - i=K - (i+1)+1 by omega]
      .exact absurd rfl h)
     clear hE
     go_wp2_with fail
     refine F0.out.mono ?_;rintro x v1 ⟨rfl,hB1⟩;have BA:=bl1 v1 (.cells #[.int .i64 0,.int .i64 0,.int .i64 1] 52)
     have L0:StL w R G v1.heap.size w8.heap.size a' m c' f n v i es (v1.alloc (.cells #[.int .i64 0,.int .i64 0,.int .i64 1] 52)) p 0 fa #[.int .i64 0,.int .i64 0,.int .i64 1]:=by
      have z1:=hB1.size;have z2:=hGr.lt;have r1:=bB hrow hB1;exact⟨(S.below hB1).below BA,(hGr.below hB1).below BA,World.alloc_heap_new v1 _,bB r1 BA,λk hk=>by have:=(r1.lt k hk).2;omega,lB,lGB,by omega,lG,λb hb=>⟨by have:=S.n6 b hb;omega,by have:=lGa b hb;omega⟩,by simp;omega⟩
     have s0:StR (.ok p) m p 0 fa:=⟨hpm,rfl,rfl⟩;have N1:=Lib.hid (L0.bounded s0 (n - 1) 3 (by decide));have cG:=L0.hG.cell 0;have kG:Has (v1.alloc (.cells #[.int .i64 0,.int .i64 0,.int .i64 1] 52)) G:=L0.hG.lt;clear F0 S hGr hrow hB1 BA s0
     go_wp2_with fail
     generalize v1.alloc (.cells #[.int .i64 0,.int .i64 0,.int .i64 1] 52)=V1 at L0 N1 cG kG ⊢;generalize v1.heap.size=E at L0 N1 ⊢;refine N1.out.mono ?_;rintro x v2 ⟨q1,e1',f1',rfl,s1',L1⟩;obtain⟨x1,hx1⟩:∃x1,Hid (x1=aZ (aT (.ok p) λp=>aM f m p (n - 1) 3)):=⟨_,Lib.hid rfl⟩;rw [<-hx1.out];have c0:=L1.hE.cell 0;have g0:=L1.hE.frozen 0;have kE:Has v2 E:=L1.hE.lt;have L2:=L1.store 0 (.int .i64 x1);have cG2:=L2.hG.cell 0;have N2:=Lib.hid (L2.bounded s1' (n - 1) 3 (by decide));have kG2:Has v2 G:=L1.hG.lt;clear N1 L0 cG kG L1
     go_wp2_with fail
     generalize v2.setCell {block:=E,off:=0} (Value.int IntKind.i64 x1)=V2 at L2 N2 cG2 ⊢;refine N2.out.mono ?_;rintro x v3 ⟨q2,e2',f2',rfl,s2',L3⟩;obtain⟨x2,hx2⟩:∃x2,Hid (x2=aZ (aT (aI (aT (.ok p) λp=>aM f m p (n - 1) 3)) λp=>aM f m p (n - 1) 3)):=⟨_,Lib.hid rfl⟩;rw [<-hx2.out];have c1:=L3.hE.cell 1;have g1:=L3.hE.frozen 1;have kE3:Has v3 E:=L3.hE.lt;have L4:=L3.store 1 (.int .i64 x2);clear N2 L2 cG2 kG2 c0 g0 kE L3;by_cases hk:kd=1
     .have b1:decide (kd=1)=true:=decide_eq_true hk;have b2:(kd==1)=true:=by rw [hk];rfl
      have hkH:=Lib.hid hk;clear hk;have N3:=Lib.hid (L4.bounded s2' 2147483647 7 (by decide))
      go_wp2_with fail
      generalize v3.setCell {block:=E,off:=1} (Value.int IntKind.i64 x2)=V4 at L4 N3 ⊢;refine N3.out.mono ?_;rintro x v5 ⟨q3,e3',f3',rfl,s3',L5⟩;obtain⟨x3,hx3⟩:∃x3,Hid (x3=aZ (aT (aI (aT (aI (aT (.ok p) λp=>aM f m p (n - 1) 3)) λp=>aM f m p (n - 1) 3)) λp=>aM f m p 2147483647 7)):=⟨_,Lib.hid rfl⟩;rw [<-hx3.out];have c2:=L5.hE.cell 2;have g2:=L5.hE.frozen 2;have kE5:Has v5 E:=L5.hE.lt;have L6:=L5.store 2 (.int .i64 x3);have nx:Hid ((e3'=0/\T=dr (es++ [(x1,x2,x3)]) (aW f m n kd (K - (i+1)) q3))∨(e3'≠0/\T= .error (e3',f3'))):=Lib.hid (qg hT1.out (by rw [hx1.out,hx2.out,hx3.out,hkH.out];exact Ib f m p n) s3');have q3m:=s3'.1;clear N3 L4 c1 g1 kE3 L5 hT1 hx1 hx2 hx3 s1' s2' s3';have d0:=L6.hE.cell 0;have d1:=L6.hE.cell 1;have d2:=L6.hE.cell 2;have cv:=L6.hG.cell 1;obtain⟨bs,cap,rfl⟩:=bL L6.row;have kG6:Has (v5.setCell {block:=E,off:=2} (Value.int IntKind.i64 x3)) G:=L6.hG.lt;have kE6:Has (v5.setCell {block:=E,off:=2} (Value.int IntKind.i64 x3)) E:=L6.hE.lt;have sE:(v5.setCell {block:=E,off:=2} (Value.int IntKind.i64 x3)).heap.size=v5.heap.size:=by simp
      have h3c:=bK (v5.setCell {block:=E,off:=2} (Value.int IntKind.i64 x3)) (.int .i64 x1) (.int .i64 x2) (.int .i64 x3) 52;rw [sE]at h3c;have hGx:=L6.hG;have Sx:=L6.S;have rx:=L6.row;have vbx:=rx.lt;have bx:=L6.bs;clear L6
      go_wp2_with (refine wpList_append_own _ rfl _ _ 22 rfl w8.heap.size 52 i0 (.agg #[.int .i64 0,.int .i64 0,.int .i64 0]) 3 24 Tryz.underlying22 hi hz0 hz1 hz2 rfl (by decide) _ _ _ rfl (rx.alloc _) ⟨v5.heap.size,0,none⟩ 1 1 [.int .i64 x1,.int .i64 x2,.int .i64 x3] rfl rfl h3c (by simp [Value.oneCell']) (by unfold maxLen;omega) (by omega) (by simp;omega) ?_;intro v' V7 hown' hgrow _;obtain⟨g',cap',rfl⟩:=ownsRow_succ hown';have hgA:=ae (ab (bl1 (v5.setCell {block:=E,off:=2} (Value.int IntKind.i64 x3)) (.cells #[.int .i64 x1,.int .i64 x2,.int .i64 x3] 52)) _) hgrow;have hG7:=hGx.grown hgA (λe=>by have:=(vbx G e.symm).1;omega);have z1:=hG7.cell 1;have z2:=hG7.frozen 1;have kG7:=Has.of hG7.lt;clear hgrow h3c)
      refine⟨?_,by simp [intOf];omega⟩;have S9:=(Sx.grow hgA (λk hk=>(vbx k hk).1) lB (λb hb=>by have:=lGa b hb;omega)).store (G:=G) (by omega) (by omega) (λb hb=>by have:=lGa b hb;omega) 1 (.slice (some ⟨g',0,none⟩) (i+1) cap');have R9:=bA hown' (af V7 G 1 (.slice (some ⟨g',0,none⟩) (i+1) cap')) lGB;have C9:=hG7.set 1 (.slice (some ⟨g',0,none⟩) (i+1) cap');have z9:=hgA.size;exact⟨i+1,es++ [(x1,x2,x3)],.slice (some ⟨g',0,none⟩) (i+1) cap',q3,e3',f3',by simp,by omega,by simp [hlen],S9,C9,by rw [ep];exact R9,λh=>by omega,q3m,by simp at z9 ⊢;omega,nx⟩
     .have nx:Hid ((e2'=0/\T=dr (es++ [(x1,x2,1)]) (aW f m n kd (K - (i+1)) q2))∨(e2'≠0/\T= .error (e2',f2'))):=Lib.hid (qg hT1.out (by rw [hx1.out,hx2.out];exact wM f m p n kd hk) s2');have q2m:=s2'.1;clear hT1 hx1 hx2 s1' s2';have d0:=L4.hE.cell 0;have d1:=L4.hE.cell 1;have d2:=L4.hE.cell 2;have cv:=L4.hG.cell 1;obtain⟨bs,cap,rfl⟩:=bL L4.row;have kG6:Has (v3.setCell {block:=E,off:=1} (Value.int IntKind.i64 x2)) G:=L4.hG.lt;have kE6:Has (v3.setCell {block:=E,off:=1} (Value.int IntKind.i64 x2)) E:=L4.hE.lt;have sE:(v3.setCell {block:=E,off:=1} (Value.int IntKind.i64 x2)).heap.size=v3.heap.size:=by simp
      have h3c:=bK (v3.setCell {block:=E,off:=1} (Value.int IntKind.i64 x2)) (.int .i64 x1) (.int .i64 x2) (.int .i64 1) 52;rw [sE]at h3c;have hGx:=L4.hG;have Sx:=L4.S;have rx:=L4.row;have vbx:=rx.lt;have bx:=L4.bs;clear L4
      go_wp2_with (refine wpList_append_own _ rfl _ _ 22 rfl w8.heap.size 52 i0 (.agg #[.int .i64 0,.int .i64 0,.int .i64 0]) 3 24 Tryz.underlying22 hi hz0 hz1 hz2 rfl (by decide) _ _ _ rfl (rx.alloc _) ⟨v3.heap.size,0,none⟩ 1 1 [.int .i64 x1,.int .i64 x2,.int .i64 1] rfl rfl h3c (by simp [Value.oneCell']) (by unfold maxLen;omega) (by omega) (by simp;omega) ?_;intro v' V7 hown' hgrow _;obtain⟨g',cap',rfl⟩:=ownsRow_succ hown';have hgA:=ae (ab (bl1 (v3.setCell {block:=E,off:=1} (Value.int IntKind.i64 x2)) (.cells #[.int .i64 x1,.int .i64 x2,.int .i64 1] 52)) _) hgrow;have hG7:=hGx.grown hgA (λe=>by have:=(vbx G e.symm).1;omega);have z1:=hG7.cell 1;have z2:=hG7.frozen 1;have kG7:=Has.of hG7.lt;clear hgrow h3c)
      refine⟨?_,by simp [intOf];omega⟩;have S9:=(Sx.grow hgA (λk hk=>(vbx k hk).1) lB (λb hb=>by have:=lGa b hb;omega)).store (G:=G) (by omega) (by omega) (λb hb=>by have:=lGa b hb;omega) 1 (.slice (some ⟨g',0,none⟩) (i+1) cap');have R9:=bA hown' (af V7 G 1 (.slice (some ⟨g',0,none⟩) (i+1) cap')) lGB;have C9:=hG7.set 1 (.slice (some ⟨g',0,none⟩) (i+1) cap');have z9:=hgA.size;exact⟨i+1,es++ [(x1,x2,1)],.slice (some ⟨g',0,none⟩) (i+1) cap',q2,e2',f2',by simp,by omega,by simp [hlen],S9,C9,by rw [ep];exact R9,λh=>by omega,q2m,by simp at z9 ⊢;omega,nx⟩
    .have hOf:Hid (O= .error (e,fa)):=Lib.hid (by
      rcases hE.out with⟨h,_⟩|⟨_,h⟩
      .exact absurd h he
      .rw [hOT.out,h];rfl)
     clear hE hrow hGr
     go_wp2_with fail
     refine F0.out.mono ?_;rintro x w9 ⟨rfl,hB9⟩;have S9:=S.below hB9;clear F0 S hB9;have FA:=Lib.hid (ar R _ p e fa w9 S9.hR)
     go_wp2_with fail
     refine FA.out.mono ?_;rintro x wa ⟨rfl,hBa⟩;have Sa:=S9.below hBa;clear FA S9 hBa;have FB:=Lib.hid (ar R _ p e fa wa Sa.hR)
     go_wp2_with fail
     refine FB.out.mono ?_;rintro x wb ⟨rfl,hBb⟩;have Sb:=Sa.below hBb;clear FB Sa hBb;have FC:=Lib.hid (ar R _ p e fa wb Sb.hR)
     go_wp2_with fail
     refine FC.out.mono ?_;rintro x wc ⟨rfl,hBc⟩;have Sc:=Sb.below hBc;clear FC Sb hBc;have l1:=Sc.l1;have o0:=Sc.r2.cell 0;have fo0:=Sc.r2.frozen 0;have P1:=Sc.r2.set 0 (.int .i64 0);have o1:=P1.cell 1;have fo1:=P1.frozen 1;have P2:=P1.set 1 (.slice none 0 0);have F2:=ah (ah Sc.r3 (show w.heap.size+1≠w.heap.size by omega) (.int .i64 0) 0) (show w.heap.size+1≠w.heap.size by omega) (.slice none 0 0) 1;have u0:=F2.cell 0;have fu0:=F2.frozen 0;have F3:=F2.set 0 (.int .i64 e);have u1:=F3.cell 1;have fu1:=F3.frozen 1;have F4:=Lib.hid (F3.set 1 (.int .i64 fa));have O4:=Lib.hid (ah (ah P2 (show w.heap.size≠w.heap.size+1 by omega) (.int .i64 e) 0) (show w.heap.size≠w.heap.size+1 by omega) (.int .i64 fa) 1);have Z:=Lib.hid ((((Sc.bl.setCell (p:=⟨w.heap.size,0,none⟩) (Nat.le_refl _) (.int .i64 0)).setCell (p:=⟨w.heap.size,1,none⟩) (Nat.le_refl _) (.slice none 0 0)).setCell (p:=⟨w.heap.size+1,0,none⟩) (Nat.le_succ _) (.int .i64 e)).setCell (p:=⟨w.heap.size+1,1,none⟩) (Nat.le_succ _) (.int .i64 fa));clear P1 P2 F2 F3 Sc;have hOe:=hOf.out;clear hOf hOT;subst hOe
     go_wp2_with fail
     (try simp only [Exit.inBlock,Exit.then])
     refine bodyPost_ret (aD rfl _ _ w.heap.size (w.heap.size+1) 24 33 _ _ _ _ _ _ rfl O4.out rfl F4.out Tryz.underlying24 rfl (by kernel_rfl) Tryz.underlying33 rfl (by kernel_rfl)) rfl ?_;exact⟨rfl,Z.out⟩
   .obtain rfl:i=K:=by omega
    by_cases he:e=0
    .have hTe:T= .ok (es,p):=by
      rcases hE.out with⟨_,h⟩|⟨h,_⟩
      .rw [h,Nat.sub_self];simp [aW,dr]
      .exact absurd he h
     subst he;have hin:=hIn.out es p hTe;clear hE;have FA:=Lib.hid (ar R _ p 0 fa wr S.hR)
     go_wp2_with fail
     refine FA.out.mono ?_;rintro x wa ⟨rfl,hBa⟩;have Sa:=S.below hBa;have hGa:=hGr.below hBa;have ra:=bB hrow hBa;have za:=hBa.size;clear FA S hBa hGr hrow;by_cases hq:p=m
     .have hOf:Hid (O= .ok (n,es)):=Lib.hid (by rw [hOT.out,hTe];show(if p=m then _ else _)=_;rw [if_pos hq]);have EN:=Lib.hid (lJ R a' m c' p fa wa Sa.hR true (by simp [hq]));clear hq
      go_wp2_with fail
      refine EN.out.mono ?_;rintro x wb ⟨rfl,hBb⟩;have Sb:=Sa.below hBb;have hGb:=hGa.below hBb;have rb:=bB ra hBb;have zb:=hBb.size;clear EN Sa hBb hGa ra;have FC:=Lib.hid (ar R _ p 0 fa wb Sb.hR)
      go_wp2_with fail
      refine FC.out.mono ?_;rintro x wc ⟨rfl,hBc⟩;have Sc:=Sb.below hBc;have hGc:=hGb.below hBc;have rc:=bB rb hBc;have zc:=hBc.size;clear FC Sb hBc hGb rb;have d0:=hGc.cell 0;have d1:=hGc.cell 1;have kGc:Has wc G:=hGc.lt;subst hlen;have CC:=Lib.hid (HC.out w8.heap.size wc n v es (by rw [<-HO.out];exact hOf.out) (by omega) nb.1 nb.2 hin.2 hin.1 rc (λh=>hnil (by rw [h];rfl)));obtain⟨bs,cap,rfl⟩:=bL rc
      go_wp2_with fail
      refine CC.out.mono ?_;rintro x wd ⟨a2,k2,c2,rfl,hP,hBd⟩;have Sd:=Sc.below hBd;have l2:=Sd.l1;clear CC Sc hBd hGc rc d0 d1 kGc;have o0:=Sd.r2.cell 0;have fo0:=Sd.r2.frozen 0;have P1:=Sd.r2.set 0 (.int .i64 n);have o1:=P1.cell 1;have fo1:=P1.frozen 1;have P2:=P1.set 1 (.slice a2 k2 c2);have F2:=ah (ah Sd.r3 (show w.heap.size+1≠w.heap.size by omega) (.int .i64 n) 0) (show w.heap.size+1≠w.heap.size by omega) (.slice a2 k2 c2) 1;have u0:=F2.cell 0;have fu0:=F2.frozen 0;have F3:=F2.set 0 (.int .i64 0);have u1:=F3.cell 1;have fu1:=F3.frozen 1;have F4:=Lib.hid (F3.set 1 (.int .i64 0));have O4:=Lib.hid (ah (ah P2 (show w.heap.size≠w.heap.size+1 by omega) (.int .i64 0) 0) (show w.heap.size≠w.heap.size+1 by omega) (.int .i64 0) 1);have LO:w.heap.size<w8.heap.size:=by omega
      have LB:w.heap.size+1<w8.heap.size:=by omega
      have X1:=HP.out _ _ _ _ _ _ _ _ _ hP (af wd w.heap.size 0 (.int .i64 n)) LO;have X2:=HP.out _ _ _ _ _ _ _ _ _ X1 (af _ w.heap.size 1 (.slice a2 k2 c2)) LO;have X3:=HP.out _ _ _ _ _ _ _ _ _ X2 (af _ (w.heap.size+1) 0 (.int .i64 0)) LB;have X4:=Lib.hid (HP.out _ _ _ _ _ _ _ _ _ X3 (af _ (w.heap.size+1) 1 (.int .i64 0)) LB);have Z:=Lib.hid ((((Sd.bl.setCell (p:=⟨w.heap.size,0,none⟩) (Nat.le_refl _) (.int .i64 n)).setCell (p:=⟨w.heap.size,1,none⟩) (Nat.le_refl _) (.slice a2 k2 c2)).setCell (p:=⟨w.heap.size+1,0,none⟩) (Nat.le_succ _) (.int .i64 0)).setCell (p:=⟨w.heap.size+1,1,none⟩) (Nat.le_succ _) (.int .i64 0));clear P1 P2 F2 F3 Sd X1 X2 X3 hP;have hOe:=hOf.out;clear hOf hOT;subst hOe
      go_wp2_with fail
      (try simp only [Exit.inBlock,Exit.then])
      refine bodyPost_ret (aD rfl _ _ w.heap.size (w.heap.size+1) 24 33 _ _ _ _ _ _ rfl O4.out rfl F4.out Tryz.underlying24 rfl (by kernel_rfl) Tryz.underlying33 rfl (by kernel_rfl)) rfl ?_;have hL:w.heap.size<=w8.heap.size:=by omega
      first|exact⟨⟨w8.heap.size,a2,k2,c2,hL,rfl,X4.out⟩,Z.out⟩|exact⟨⟨w8.heap.size,hL,a2,k2,c2,rfl,X4.out⟩,Z.out⟩
     .have hOf:Hid (O= .error (4,(p:Int))):=Lib.hid (by rw [hOT.out,hTe];show(if p=m then _ else _)=_;rw [if_neg hq]);have EN:=Lib.hid (lJ R a' m c' p fa wa Sa.hR false (by simp [hq]));clear hq
      go_wp2_with fail
      refine EN.out.mono ?_;rintro x wb ⟨rfl,hBb⟩;have Sb:=Sa.below hBb;clear EN Sa hBb hGa ra;have AT:=Lib.hid (lI R _ p 0 fa wb Sb.hR)
      go_wp2_with fail
      refine AT.out.mono ?_;rintro x wc ⟨rfl,hBc⟩;have Sc:=Sb.below hBc;clear AT Sb hBc;have FL:=Lib.hid (fv R _ p fa 4 p wc Sc.hR (by decide))
      go_wp2_with fail
      refine FL.out.mono ?_;rintro x wd ⟨rfl,hRd,gd⟩;have Sd:=Sc.call gd hRd;clear FL Sc hRd gd;have FB:=Lib.hid (ar R _ p 4 p wd Sd.hR)
      go_wp2_with fail
      refine FB.out.mono ?_;rintro x we ⟨rfl,hBe⟩;have Se:=Sd.below hBe;clear FB Sd hBe;have FC:=Lib.hid (ar R _ p 4 p we Se.hR)
      go_wp2_with fail
      refine FC.out.mono ?_;rintro x wf ⟨rfl,hBf⟩;have Sc:=Se.below hBf;have l1:=Sc.l1;clear FC Se hBf;have o0:=Sc.r2.cell 0;have fo0:=Sc.r2.frozen 0;have P1:=Sc.r2.set 0 (.int .i64 0);have o1:=P1.cell 1;have fo1:=P1.frozen 1;have P2:=P1.set 1 (.slice none 0 0);have F2:=ah (ah Sc.r3 (show w.heap.size+1≠w.heap.size by omega) (.int .i64 0) 0) (show w.heap.size+1≠w.heap.size by omega) (.slice none 0 0) 1;have u0:=F2.cell 0;have fu0:=F2.frozen 0;have F3:=F2.set 0 (.int .i64 4);have u1:=F3.cell 1;have fu1:=F3.frozen 1;have F4:=Lib.hid (F3.set 1 (.int .i64 p));have O4:=Lib.hid (ah (ah P2 (show w.heap.size≠w.heap.size+1 by omega) (.int .i64 4) 0) (show w.heap.size≠w.heap.size+1 by omega) (.int .i64 p) 1);have Z:=Lib.hid ((((Sc.bl.setCell (p:=⟨w.heap.size,0,none⟩) (Nat.le_refl _) (.int .i64 0)).setCell (p:=⟨w.heap.size,1,none⟩) (Nat.le_refl _) (.slice none 0 0)).setCell (p:=⟨w.heap.size+1,0,none⟩) (Nat.le_succ _) (.int .i64 4)).setCell (p:=⟨w.heap.size+1,1,none⟩) (Nat.le_succ _) (.int .i64 p));clear P1 P2 F2 F3 Sc;have hOe:=hOf.out;clear hOf hOT;subst hOe
      go_wp2_with fail
      (try simp only [Exit.inBlock,Exit.then])
      refine bodyPost_ret (aD rfl _ _ w.heap.size (w.heap.size+1) 24 33 _ _ _ _ _ _ rfl O4.out rfl F4.out Tryz.underlying24 rfl (by kernel_rfl) Tryz.underlying33 rfl (by kernel_rfl)) rfl ?_;exact⟨rfl,Z.out⟩
    .have hOf:Hid (O= .error (e,fa)):=Lib.hid (by
      rcases hE.out with⟨h,_⟩|⟨_,h⟩
      .exact absurd h he
      .rw [hOT.out,h];rfl)
     clear hE hrow hGr;have FA:=Lib.hid (ar R _ p e fa wr S.hR)
     go_wp2_with fail
     refine FA.out.mono ?_;rintro x wa ⟨rfl,hBa⟩;have Sa:=S.below hBa;clear FA S hBa;have FB:=Lib.hid (ar R _ p e fa wa Sa.hR)
     go_wp2_with fail
     refine FB.out.mono ?_;rintro x wb ⟨rfl,hBb⟩;have Sb:=Sa.below hBb;clear FB Sa hBb;have FC:=Lib.hid (ar R _ p e fa wb Sb.hR)
     go_wp2_with fail
     refine FC.out.mono ?_;rintro x wc ⟨rfl,hBc⟩;have Sc:=Sb.below hBc;clear FC Sb hBc;have l1:=Sc.l1;have o0:=Sc.r2.cell 0;have fo0:=Sc.r2.frozen 0;have P1:=Sc.r2.set 0 (.int .i64 0);have o1:=P1.cell 1;have fo1:=P1.frozen 1;have P2:=P1.set 1 (.slice none 0 0);have F2:=ah (ah Sc.r3 (show w.heap.size+1≠w.heap.size by omega) (.int .i64 0) 0) (show w.heap.size+1≠w.heap.size by omega) (.slice none 0 0) 1;have u0:=F2.cell 0;have fu0:=F2.frozen 0;have F3:=F2.set 0 (.int .i64 e);have u1:=F3.cell 1;have fu1:=F3.frozen 1;have F4:=Lib.hid (F3.set 1 (.int .i64 fa));have O4:=Lib.hid (ah (ah P2 (show w.heap.size≠w.heap.size+1 by omega) (.int .i64 e) 0) (show w.heap.size≠w.heap.size+1 by omega) (.int .i64 fa) 1);have Z:=Lib.hid ((((Sc.bl.setCell (p:=⟨w.heap.size,0,none⟩) (Nat.le_refl _) (.int .i64 0)).setCell (p:=⟨w.heap.size,1,none⟩) (Nat.le_refl _) (.slice none 0 0)).setCell (p:=⟨w.heap.size+1,0,none⟩) (Nat.le_succ _) (.int .i64 e)).setCell (p:=⟨w.heap.size+1,1,none⟩) (Nat.le_succ _) (.int .i64 fa));clear P1 P2 F2 F3 Sc;have hOe:=hOf.out;clear hOf hOT;subst hOe
     go_wp2_with fail
     (try simp only [Exit.inBlock,Exit.then])
     refine bodyPost_ret (aD rfl _ _ w.heap.size (w.heap.size+1) 24 33 _ _ _ _ _ _ rfl O4.out rfl F4.out Tryz.underlying24 rfl (by kernel_rfl) Tryz.underlying33 rfl (by kernel_rfl)) rfl ?_;exact⟨rfl,Z.out⟩
end
noncomputable section
open Go.RowKit Go.Sort
namespace Sm
namespace Rd
open Ev Be
abbrev ety:K.Ty:=Eg.ety
abbrev Gr:K.Ty:= .C (.I .i64) (.S ety)
abbrev ins:List K.TyD:= [(false,By)]
abbrev outs:List K.TyD:=Dc.outs
def fn(x:Sl Int):Option ((Int×Sl (Int×Int×Int))×(Int×Int)):=
 if okY x=true then
  match cg (gf x) x.l.length with
  | .error er=>some ((0,⟨false,0,[]⟩),er)
  | .ok (n,l)=>(dh (n,Dc.liS l)).bind λg=>if g.1=n then some (g,(0,0))else none
 else none
set_option maxRecDepth 100000 in
theorem kq(base:Nat)(W:World)(n:Int)(v:Value)(l:List (Int×Int×Int))(s:Sl (Int×Int×Int))(hs:dh (n,Dc.liS l)=some (n,s))(hbase:base<=W.heap.size)(hrow:W.ownsRow base 52 3 v l.length (fu l))(hnil:l= []->v= .slice none 0 0):
  Calls Tryz.prog 24 #[.agg #[.int .i64 n,v]] W λx w'=>∃a' k' c',x= .returned (.agg #[.int .i64 n,.slice a' k' c'])/\RepT w' (λb=>b<base) (Sl.t ety.row s) (.slice a' k' c')/\Below W.heap.size W w':=by
 have hrow2:W.ownsRow base 52 3 v l.length (Eg.cellsE l):=hrow;obtain⟨_,a,c,rfl,hc,hrd,hz⟩:=Eg.row_rdE hrow2
 have hrep:RepT W (λb=>b<base) (Sl.t ety.row (Dc.liS l)) (.slice a l.length c):=by
  cases l with
  |nil=>
   obtain h:=hnil rfl;cases h;exact Eg.nil_rep0 _ _
  |cons e r=>exact Eg.rep_of (base:=base) ⟨hrd,hz,hc,λb hb=>by subst hb;exact(hrow.lt b.block rfl).1⟩ (λb h=>h) (.inl (by simp))
 have hp:=RunsP.pure K.bF (K.rH 0 (n,Dc.liS l) (n,s) hs);refine(hp W (λb=>b<base) [.agg #[.int .i64 n,.slice a l.length c]] trivial (λb hb=>by omega) ⟨rfl,λi t hi=> ?_⟩).mono λe w' h=> ?_
 .have hi2:i<1:=(List.getElem?_eq_some_iff.1 hi).1;obtain rfl:i=0:=by omega
  cases hi;exact⟨_,rfl,Dc.rep_graph hrep⟩
 .obtain⟨y,rfl,h2,_,hB⟩:=h;have h2:RepTD w' (λb=>b<W.heap.size/\(Kind.fresh≠ .any∨b<base)) (.agg (Gr.row (n,s))) y:=h2
  cases h2 with
  |agg ts us hh=>
   obtain⟨hlen,hi⟩:=hh
   match us,hlen with
   | [u0,u1],_=>
    obtain⟨z,e1,e2⟩:=hi 0 _ rfl;simp only [List.getElem?_cons_zero,zsI]at e1;subst e1;obtain⟨z,e1,e3⟩:=hi 1 _ rfl;simp only [List.getElem?_cons_succ,List.getElem?_cons_zero,zsI]at e1;subst e1
    have eu:u0= .int .i64 n:=by cases e2 with|v x hx=>rfl
    subst eu;have e3:RepT w' (λb=>b<W.heap.size/\(Kind.fresh≠ .any∨b<base)) (Sl.t ety.row s) u1:=e3
    obtain⟨a',k',c',rfl⟩:∃a n c,u1= .slice a n c:=by
     unfold Sl.t at e3
     cases e3 with
     |s _ _ _ a c ys hn=>exact⟨_,_,_,rfl⟩
    exact⟨a',k',c',rfl,RepT.weak (λb hb=>⟨by omega,.inl (by decide)⟩) e3,hB⟩
theorem pure_ok(a:K.ba ins)(o:K.ba outs)(h:fn a=some o):dP Tryz.prog 13 (K.bW ins a) .fresh (K.bW outs o):=by
 obtain⟨x,rfl⟩:∃x:Sl Int,x=a:=⟨_,rfl⟩;unfold fn at h;rw [Option.ite_none_right_eq_some]at h;obtain⟨hx,h⟩:=h;intro w F ys hL hF hr;obtain⟨hlen,hi⟩:=hr
 match ys,hlen with
 | [y0],_=>
  obtain⟨z,e1,e2⟩:=hi 0 _ rfl;simp only [List.getElem?_cons_zero,zsI]at e1;subst e1
  have r1:RepT w F (Sl.t (K.Ty.row (.I .u8)) x) y0:=by cases e2 with|one t y h=>exact h
  obtain⟨a1,c1,rfl,g1,g2,_,g4⟩:=lF hx r1;have hz:a1=none->c1=0/\x.l.length=0:=λh=>⟨g4 h,by have:=g4 h;omega⟩
  cases hd:cg (gf x) x.l.length with
  |error er=>
   rw [hd]at h;cases h;have D:=mt (λ_ _ _ _ _ _ _=>True) a1 x.l.length c1 (gf x) w g1 g2 (ow hx) hz (λbase W n v l he=>by rw [hd]at he;cases he) (λ_ _ _ _ _ _ _ _ _ _ _ _=>trivial);rw [hd]at D;exact D.mono λe w' h2=>⟨_,h2.1,Dc.rep_two (Eg.nil_rep _ _),λhk=>(by cases hk),h2.2⟩
  |ok d=>
   obtain⟨n,l⟩:=d;rw [hd]at h;simp only [zbE]at h;obtain⟨⟨n2,s⟩,hs,h⟩:=h;rw [Option.ite_none_right_eq_some]at h;obtain⟨h1,h⟩:=h;have h1:n2=n:=h1;subst h1;cases h
   have D:=mt (λbase _ _ w' a' k' c'=>RepT w' (λb=>b<base) (Sl.t ety.row s) (.slice a' k' c')) a1 x.l.length c1 (gf x) w g1 g2 (ow hx) hz (λbase W n3 v l2 he hbase _ _ _ _ hrow hnil=>by
    rw [hd]at he;cases he
    exact kq base W n2 v l s hs hbase hrow hnil) (λbase _ _ w' w'' a' k' c' b h g hb=>RepT.mono g.size (λq hq _ hn=>⟨g.block q hq (by simp;omega),hn⟩) h)
   rw [hd]at D;refine D.mono λe w' h2=> ?_;obtain⟨⟨base,a',k',c',hb,rfl,hP⟩,hB⟩:=h2;exact⟨_,rfl,Dc.rep_two (RepT.weak (λb hb2=>by have:=hb2.1;omega) hP),λhk=>(by cases hk),hB⟩
theorem enters:Ev.Enters Tryz.prog 13:=⟨_,_,Tryz.func13,by kernel_rfl,by unfold Tryz.f13;rfl⟩
end Rd
end Sm
end
noncomputable section
open Go.RowKit Go.Sort
structure StQ(w:World)(R:Nat)(a:Option Addr)(m c:Nat)(f:Nat->Int)(W:World)(p:Nat)(e fa:Int):Prop where
 hR:CellsAt W R 105 (rdr (.slice a m c) p e fa)
 hb:Rd8 W a m f
 r5:CellsAt W w.heap.size 33 #[.int .i64 0,.int .i64 0]
 bl:Below w.heap.size w W
 l1:w.heap.size<R
 n4:∀b,a=some b->b.block≠R
 n5:∀b,a=some b->w.heap.size<b.block
 n6:∀b,a=some b->b.block<W.heap.size
 hz:a=none->c=0/\m=0
 hc:m<=c
 hm:m<=100000
def qh(f:Nat->Int)(m p:Nat):Except (Int×Int) (Int×Nat):=if p+8<=m then .ok (lw (λj=>f (p+j)) 8,p+8)else .error (2,(m:Int))
theorem Ic(R:Nat)(a:Option Addr)(m c p:Nat)(e fa:Int)(f:Nat->Int)(w:World)(o:Except (Int×Int) Nat)(hS:StR o m p e fa)(hR:CellsAt w R 105 (rdr (.slice a m c) p e fa))(hb:Rd8 w a m f)(hne:∀b,a=some b->b.block≠R)(hz:a=none->c=0/\m=0)(hc:m<=c)(hm:m<=100000):
  Calls Tryz.prog 50 #[.pointer (some ⟨R,0,none⟩)] w λx w'=>∃p' e' fa',x= .returned (.int .i64 (aZ (aT o (qh f m))))/\StR (aI (aT o (qh f m))) m p' e' fa'/\CellsAt w' R 105 (rdr (.slice a m c) p' e' fa')/\w.grownBy w' (some R):=by
 obtain⟨hp,hS⟩:=hS;refine(Ia R a m c p e fa f w hR hb hne hz hc hm hp).mono ?_;rintro x w' ⟨rfl,h2,h3⟩;refine⟨_,_,_,?_,?_,h2,h3⟩
 .cases o with
  |ok q=>
   obtain⟨rfl,rfl⟩:=hS;by_cases h8:p+8<=m
   .obtain⟨s1,s2,s3,s4⟩:=iW fa m p 8 (by decide) (by omega);rw [s1];simp [aT,qh,aZ,h8]
   .obtain⟨s1,s2,s3,s4⟩:=dA fa m p 8 (by decide) (by omega);rw [s1];simp [aT,qh,aZ,h8]
  |error er=>
   obtain⟨h1,h4,h5⟩:=hS;obtain⟨s1,s2,s3,s4⟩:=kf (e:=e) fa m p 8 (by rw [h1];exact h5);rw [s1];simp [aT,aZ]
 .cases o with
  |ok q=>
   obtain⟨rfl,rfl⟩:=hS;by_cases h8:p+8<=m
   .obtain⟨s1,s2,s3,s4⟩:=iW fa m p 8 (by decide) (by omega);rw [s2,s3,s4];show StR (aI (qh f m p)) m _ _ _;unfold qh;rw [if_pos h8];exact⟨h8,rfl,rfl⟩
   .obtain⟨s1,s2,s3,s4⟩:=dA fa m p 8 (by decide) (by omega);rw [s2,s3,s4];show StR (aI (qh f m p)) m _ _ _;unfold qh;rw [if_neg h8];exact⟨hp,rfl,rfl,show(2:Int)≠0 by decide⟩
  |error er=>
   obtain⟨h1,h4,h5⟩:=hS;obtain⟨s1,s2,s3,s4⟩:=kf (e:=e) fa m p 8 (by rw [h1];exact h5);rw [s2,s3,s4];exact⟨hp,h1,h4,h5⟩
section
variable {w : World} {R : Nat} {a : Option Addr} {m c : Nat} {f : Nat → Int} {W : World} {p : Nat} {e fa : Int}
theorem StQ.call(h:StQ w R a m c f W p e fa){W':World}{p':Nat}{e' fa':Int}(g:W.grownBy W' (some R))(hR:CellsAt W' R 105 (rdr (.slice a m c) p' e' fa')):StQ w R a m c f W' p' e' fa':=by
 have l1:=h.l1;exact⟨hR,dU h.hb g h.n4,az h.r5 g (by omega),h.bl.trans (aw g h.bl.size (by omega)),h.l1,h.n4,h.n5,λb hb=>Nat.lt_of_lt_of_le (h.n6 b hb) g.size,h.hz,h.hc,h.hm⟩
theorem StQ.below(h:StQ w R a m c f W p e fa){W':World}(g:Below W.heap.size W W'):StQ w R a m c f W' p e fa:=h.call (ab g _) (h.hR.below g)
theorem StQ.grow(h:StQ w R a m c f W p e fa){W':World}{row:Option Nat}{B:Nat}(g:W.grownBy W' row)(hk:∀k,row=some k->B<=k)(hR:R<B)(hB:∀b,a=some b->b.block<B):StQ w R a m c f W' p e fa:=by
 have l1:=h.l1;have ne:∀k,k<B->some k≠row:=λk hlt he=>by have:=hk k he.symm;omega
 refine⟨h.hR.grown g (ne _ hR),h.hb.grown g (λb hb=>ne _ (hB b hb)),h.r5.grown g (ne _ (by omega)),h.bl.trans ?_,h.l1,h.n4,h.n5,λb hb=>Nat.lt_of_lt_of_le (h.n6 b hb) g.size,h.hz,h.hc,h.hm⟩
 cases row with
 |none=>exact(cC g).mono h.bl.size
 |some r=>exact aw g h.bl.size (by have:=hk r rfl;omega)
theorem StQ.bounded(h:StQ w R a m c f W p e fa){o:Except (Int×Int) Nat}(hS:StR o m p e fa)(most er:Int)(her:¬er=0):
  Calls Tryz.prog 38 #[.pointer (some ⟨R,0,none⟩),.int .i64 most,.int .i64 er] W λx W'=>∃p' e' fa',x= .returned (.int .i64 (aZ (aT o λp=>aM f m p most er)))/\StR (aI (aT o λp=>aM f m p most er)) m p' e' fa'/\StQ w R a m c f W' p' e' fa'/\W.grownBy W' (some R):=
 (oz R a m c p e fa most er f W o hS her h.hR h.hb h.n4 h.hz h.hc h.hm).mono λx W' ⟨p',e',fa',h1,h2,h3,h4⟩=>⟨p',e',fa',h1,h2,h.call h4 h3,h4⟩
end
structure StT2(w:World)(R E base:Nat)(a:Option Addr)(m c:Nat)(f:Nat->Int)(v:Value)(i:Nat)(es:List (Int×Int×Int))(W:World)(p:Nat)(e fa:Int)(ed:Array Value):Prop where
 S:StQ w R a m c f W p e fa
 hE:CellsAt W E 54 ed
 row:W.ownsRow base 54 3 v i (fu es)
 vb:∀k,v.ownBlock=some k->k≠E
 lR:R<base
 gE:base<=E
 aE:∀b,a=some b->b.block<base
 bs:base<=W.heap.size
section
variable {w : World} {R E base : Nat} {a : Option Addr} {m c : Nat} {f : Nat → Int} {v : Value} {i : Nat} {es : List (Int × Int × Int)} {W : World} {p : Nat} {e fa : Int} {ed : Array Value}
theorem StT2.call(h:StT2 w R E base a m c f v i es W p e fa ed){W':World}{p':Nat}{e' fa':Int}(g:W.grownBy W' (some R))(S':StQ w R a m c f W' p' e' fa'):StT2 w R E base a m c f v i es W' p' e' fa' ed:=by
 have l1:=h.lR;have l3:=h.gE;exact⟨S',az h.hE g (by omega),bA h.row g h.lR,h.vb,h.lR,h.gE,h.aE,Nat.le_trans h.bs g.size⟩
theorem StT2.below(h:StT2 w R E base a m c f v i es W p e fa ed){W':World}(g:Below W.heap.size W W'):StT2 w R E base a m c f v i es W' p e fa ed:=h.call (ab g _) (h.S.below g)
theorem StT2.store(h:StT2 w R E base a m c f v i es W p e fa ed)(j:Nat)(x:Value):StT2 w R E base a m c f v i es (W.setCell ⟨E,j,none⟩ x) p e fa (ed.setIfInBounds j x):=by
 have l1:=h.lR;have l3:=h.gE;have g:=af W E j x;exact⟨h.S.grow g (λk hk=>by cases hk;exact h.gE) h.lR h.aE,h.hE.set j x,qe h.row g (λk hk=>by have:=h.vb k hk;simp;omega),h.vb,h.lR,h.gE,h.aE,Nat.le_trans h.bs g.size⟩
theorem StT2.bounded(h:StT2 w R E base a m c f v i es W p e fa ed){o:Except (Int×Int) Nat}(hS:StR o m p e fa)(most er:Int)(her:¬er=0):
  Calls Tryz.prog 38 #[.pointer (some ⟨R,0,none⟩),.int .i64 most,.int .i64 er] W λx W'=>∃p' e' fa',x= .returned (.int .i64 (aZ (aT o λp=>aM f m p most er)))/\StR (aI (aT o λp=>aM f m p most er)) m p' e' fa'/\StT2 w R E base a m c f v i es W' p' e' fa' ed:=
 (h.S.bounded hS most er her).mono λx W' ⟨p',e',fa',h1,h2,h3,h4⟩=>⟨p',e',fa',h1,h2,h.call h4 h3⟩
theorem StT2.i64(h:StT2 w R E base a m c f v i es W p e fa ed){o:Except (Int×Int) Nat}(hS:StR o m p e fa):
  Calls Tryz.prog 50 #[.pointer (some ⟨R,0,none⟩)] W λx W'=>∃p' e' fa',x= .returned (.int .i64 (aZ (aT o (qh f m))))/\StR (aI (aT o (qh f m))) m p' e' fa'/\StT2 w R E base a m c f v i es W' p' e' fa' ed:=
 (Ic R a m c p e fa f W o hS h.S.hR h.S.hb h.S.n4 h.S.hz h.S.hc h.S.hm).mono λx W' ⟨p',e',fa',h1,h2,h3,h4⟩=>⟨p',e',fa',h1,h2,h.call h4 (h.S.call h4 h3)⟩
end
def mR1(f:Nat->Int)(m:Nat):Except (Int×Int) (Int×Nat):=aT (rI f m ⟨#[70,82,77,49]⟩) λp=>aM f m p 4096 5
def mR2(f:Nat->Int)(m:Nat):Except (Int×Int) (Int×Nat):=aT (aI (mR1 f m)) λp=>aM f m p 4096 5
def mR3(f:Nat->Int)(m:Nat):Except (Int×Int) (Int×Nat):=aT (aI (mR2 f m)) λp=>aM f m p 65536 5
def mRT(f:Nat->Int)(m:Nat):Except (Int×Int) (List (Int×Int×Int)×Nat):=match aI (mR3 f m)with
 | .ok p=>cK f m (aZ (mR1 f m)) (aZ (mR2 f m)) (aZ (mR3 f m)).toNat 0 (0,0,0) p
 | .error er=> .error er
def OM(r c:Int)(m:Nat)(T:Except (Int×Int) (List (Int×Int×Int)×Nat)):Except (Int×Int) (Int×Int×List (Int×Int×Int)):=match T with
  | .error er=> .error er
  | .ok (l,q)=>if q=m then .ok (r,c,l)else .error (4,(q:Int))
theorem tu(f:Nat->Int)(m:Nat):dC f m=OM (aZ (mR1 f m)) (aZ (mR2 f m)) m (mRT f m):=by
 unfold OM dC eN;unfold mRT mR3 mR2 mR1 rI;by_cases h4:4<=m
 .simp only [if_pos h4];by_cases hs:strOfNums (dB f 0 4)=⟨#[70,82,77,49]⟩
  .simp only [if_pos hs,aT]
   cases q1:aM f m 4 4096 5 with
   |error er=>simp only [aI,aT]
   |ok r1=>
    obtain⟨n,p1⟩:=r1;simp only [aI,aT,aZ]
    cases q2:aM f m p1 4096 5 with
    |error er=>simp only [q2,aI,aT,aZ]
    |ok r2=>
     obtain⟨k,p2⟩:=r2;simp only [q2,aI,aT,aZ]
     cases q3:aM f m p2 65536 5 with
     |error er=>simp only [q3,aI,aT,aZ]
     |ok r3=>
      obtain⟨z,p3⟩:=r3;simp only [q3,aI,aT,aZ];cases cK f m n k z.toNat 0 (0,0,0) p3<;>rfl
  .simp only [if_neg hs,aI,aT]
 .simp only [if_neg h4,aI,aT]
def tA(f:Nat->Int)(m p:Nat)(rows:Int):=aT (.ok p) λp=>aM f m p (rows - 1) 3
def tB(f:Nat->Int)(m p:Nat)(rows cols:Int):=aT (aI (tA f m p rows)) λp=>aM f m p (cols - 1) 3
def tC(f:Nat->Int)(m p:Nat)(rows cols:Int):=aT (aI (tB f m p rows cols)) (qh f m)
def tV(f:Nat->Int)(m p:Nat)(rows cols:Int):Int×Int×Int:=(aZ (tA f m p rows),aZ (tB f m p rows cols),aZ (tC f m p rows cols))
theorem iY{A B:Type}(o:Except A B):(∃e,o= .error e)∨∃a,o= .ok a:=by
 cases o with
 |error e=>exact .inl ⟨e,rfl⟩
 |ok a=>exact .inr ⟨a,rfl⟩
theorem se(f:Nat->Int)(m p:Nat)(rows cols:Int)(last:Int×Int×Int)(i:Int):iz f m p rows cols last i=match aI (tC f m p rows cols)with
  | .ok q=>if 0<i/\An last (tV f m p rows cols)=false then .error (6,(p:Int))else .ok (tV f m p rows cols,q)
  | .error er=> .error er:=by
 unfold iz tV tC tB tA qh;simp only [aT];rcases iY (aM f m p (rows - 1) 3)with⟨er,q1⟩|⟨⟨x,p1⟩,q1⟩
 .simp only [q1,aI]
 .simp only [q1,aI,aZ];rcases iY (aM f m p1 (cols - 1) 3)with⟨er,q2⟩|⟨⟨y,p2⟩,q2⟩
  .simp only [q2,aI]
  .simp only [q2,aI,aZ];by_cases h8:p2+8<=m
   .simp only [if_pos h8,aI,aZ]
   .simp only [if_neg h8,aI,aZ]
theorem oB{f:Nat->Int}{m k p p' i:Nat}{rows cols e' fa':Int}{es:List (Int×Int×Int)}{t last:Int×Int×Int}{T:Except (Int×Int) (List (Int×Int×Int)×Nat)}{o:Except (Int×Int) Nat}(hT:T=dr es (cK f m rows cols (k+1) i last p))(hE:iz f m p rows cols last i=match o with| .ok q=> .ok (t,q)| .error er=> .error er)(hs:StR o m p' e' fa'):
  (e'=0/\T=dr (es++ [t]) (cK f m rows cols k (i+1) t p'))∨(e'≠0/\T= .error (e',fa')):=by
 cases o with
 |ok q=>
  obtain⟨_,h1,h2⟩:=hs;subst h2;exact .inl ⟨h1,by rw [hT];exact Ap es hE⟩
 |error er=>
  obtain⟨_,h1,h2,h3⟩:=hs;refine .inr ⟨by rw [h1];exact h3,?_⟩;rw [hT,oy es hE,h1,h2]
set_option maxRecDepth 100000 in
theorem FZ(a b:Int×Int×Int)(w:World):
  Calls Tryz.prog 46 #[vE a,vE b] w λx w'=>x= .returned (.bool (An a b))/\Below w.heap.size w w':=by
 obtain⟨a0,a1,a2⟩:=a;obtain⟨b0,b1,b2⟩:=b
 go_enter Tryz.func46,Tryz.ntmps46
 unfold An;by_cases h0:a0<b0
 .go_wp2
  go_ret
  exact⟨by simp [h0],(by repeat (first|with_reducible refine blg ?_ _ _|with_reducible refine bla ?_ _|with_reducible exact Below.refl _ _))⟩
 .by_cases h1:a0=b0
  .subst h1;by_cases h2:a1<b1
   .go_wp2
    go_ret
    exact⟨by simp [h2],(by repeat (first|with_reducible refine blg ?_ _ _|with_reducible refine bla ?_ _|with_reducible exact Below.refl _ _))⟩
   .go_wp2
    go_ret
    exact⟨by simp [h2],(by repeat (first|with_reducible refine blg ?_ _ _|with_reducible refine bla ?_ _|with_reducible exact Below.refl _ _))⟩
  .go_wp2
   go_ret
   exact⟨by simp [h0,h1,Ne.symm h1],(by repeat (first|with_reducible refine blg ?_ _ _|with_reducible refine bla ?_ _|with_reducible exact Below.refl _ _))⟩
end
end Go.Proofs.YtoamaaicfjkmhaaGreat
