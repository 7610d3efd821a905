/- Texts of a claim, joined. -/
import Derived.Test.YtkmbihigeeclbaaZFB11
set_option linter.unusedVariables false
set_option linter.unusedSimpArgs false
namespace Go.Proofs.Ytkmbihigeeclbaa
noncomputable section
open Go.RowKit Go.Sort
@[go_sem] theorem Jz (v:Value) (xT:TypeId) (w:World):(Instr.typeAssert (.iface 75 v) xT 75 true).run Try.prog w= .ok (.tuple #[v,.bool true]) w:=by kernel_rfl
theorem kv(F:Nat)(e fa e2 fa2:Int)(older:List PanicEntry)(w:World)(hF:CellsAt w F 42 #[.int .i64 e,.int .i64 fa]):
  CallsD Try.prog 39 #[.pointer (some ⟨F,0,none⟩)] (.panicking (il e2 fa2::older)) w λx u' w'=>
   x= .returned (.tuple #[])/\u'= .panicking ({il e2 fa2 with recovered:=true}::older)/\CellsAt w' F 42 #[.int .i64 e2,.int .i64 fa2]/\w.grownBy w' (some F):=by
 have c0:w.cell? ⟨F,0,none⟩=some (.int .i64 e):=hF.cell 0;have c1:w.cell? ⟨F,1,none⟩=some (.int .i64 fa):=hF.cell 1;have f0:=hF.frozen 0;have f1:=hF.frozen 1;have kF:Has w F:=hF.lt;refine callsD_of_wpS Try.func39 rfl λc₀ cs hu=> ?_;apply wpS_seq;apply wpS_region;simp [wpOpsS,go_sem,recoverD,hu,Try.ntmps39,Exit.thenS];refine wpS_of_wp ?_;generalize hQ:(λ(e:Exit) (a':Act) (w':World)=>bodyPostS _ _ _ _ _ e a' _ w')=Q;simp only [Array.replicate_succ,Array.replicate_zero,List.push_toArray,List.append_toArray,List.nil_append,List.cons_append,List.setIfInBounds_toArray,List.set_cons_zero,List.set_cons_succ]
 go_wp2_with fail
 subst hQ;have h1:=(hF.set 0 (.int .i64 e2)).set 1 (.int .i64 fa2);have h2:=af (ae w F 0 (.int .i64 e2)) (ae _ F 1 (.int .i64 fa2));refine⟨rfl,_,rfl,_,by simp [results,Try.results39,go_sem],rfl,rfl,h1.below (bl1 _ _),af h2 (ab (bl1 _ _) _)⟩
theorem wF(F:Nat)(w:World):
  CallsD Try.prog 39 #[.pointer (some ⟨F,0,none⟩)] .returning w λx u' w'=>x= .returned (.tuple #[])/\u'= .returning/\w'=w:=by
 refine callsD_of_wpS Try.func39 rfl λc₀ cs hu=> ?_;apply wpS_seq;apply wpS_region;simp [wpOpsS,go_sem,recoverD,hu,Try.ntmps39,Exit.thenS];refine wpS_of_wp ?_;generalize hQ:(λ(e:Exit) (a':Act) (w':World)=>bodyPostS _ _ _ _ _ e a' _ w')=Q;simp only [Array.replicate_succ,Array.replicate_zero,List.push_toArray,List.append_toArray,List.nil_append,List.cons_append,List.setIfInBounds_toArray,List.set_cons_zero,List.set_cons_succ]
 go_wp2_with fail
 subst hQ;cases c₀;simp only at hu;subst hu;exact⟨rfl,_,rfl,_,by simp [results,Try.results39,go_sem],rfl,rfl,rfl⟩
theorem eW{P:Program}{fn:Func}{p u:Tmp}{ty tz:TypeId}(h:fn.results=#[.cell p ty,.cell u tz])(tmps:Array Value)(w:World)(g k:Nat)(t t2:TypeId)(cs cs2:Array Value)(fr fr2:Nat×Nat)(d d2:TypeDesc)
  (hp:tmps.getD p undef= .pointer (some ⟨g,0,none⟩)) (hg:w.heap[g]? =some (.cells cs t fr))
  (hq:tmps.getD u undef= .pointer (some ⟨k,0,none⟩)) (hk:w.heap[k]? =some (.cells cs2 t2 fr2))
  (hu:P.underlying ty=some d) (hd:(match d with| .struct _| .array _ _=>true|_=>false)=true) (hi:(P.info? ty).map (·.size)=some cs.size)
  (hu2:P.underlying tz=some d2) (hd2:(match d2 with| .struct _| .array _ _=>true|_=>false)=true) (hi2:(P.info? tz).map (·.size)=some cs2.size):
  (results fn tmps).run P w= .ok (.tuple #[.agg cs,.agg cs2]) w:=by
 have hp':tmps[p]?.getD undef= .pointer (some ⟨g,0,none⟩):=by simpa using hp
 have hq':tmps[u]?.getD undef= .pointer (some ⟨k,0,none⟩):=by simpa using hq
 simp [results,h,hp',hq',asAddr,run_loadVar_row w g t ty cs fr d hg hu hd hi,run_loadVar_row w k t2 tz cs2 fr2 d2 hk hu2 hd2 hi2]
def dm(f:Nat->Int)(m:Nat):Except (Int×Int) Fr:=
 match gP f m 0 with
 | .error e=> .error e
 | .ok (y,q)=>if q=m then .ok y else .error (4,(q:Int))
set_option maxRecDepth 100000 in
set_option maxHeartbeats 4000000 in
theorem yd(a:Option Addr)(m c:Nat)(f:Nat->Int)(w:World)(hb:Rd8 w a m f)(hc:m<=c)(hm:m<=100000):
  Calls Try.prog 16 #[.slice a m c] w λx w'=>
   (match dm f m with
    | .ok y=>∃v1 v2 v3,x= .returned (.tuple #[vF y v1 v2 v3,.agg #[.int .i64 0,.int .i64 0]])/\OwnL w' w.heap.size 56 2 v1 y.2.2.2.2.2.1.2.length (uV y.2.2.2.2.2.1.2)/\OwnL w' w.heap.size 61 3 v2 y.2.2.2.2.2.2.1.length (mz .i64 .i64 .u64 y.2.2.2.2.2.2.1)/\OwnL w' w.heap.size 63 3 v3 y.2.2.2.2.2.2.2.1.length (mz .i64 .i64 .i64 y.2.2.2.2.2.2.2.1)
    | .error er=>x= .returned (.tuple #[.agg #[.int .i64 0,.int .i64 0,.int .i64 0,.int .i64 0,.int .i64 0,.int .i64 0,.slice none 0 0,.slice none 0 0,.slice none 0 0,.int .i64 0,.bool false],.agg #[.int .i64 er.1,.int .i64 er.2]]))/\Below w.heap.size w w':=by
 obtain⟨O,hO⟩:∃O,O=dm f m:=⟨_,rfl⟩;rw [<-hO];have HO:=Lib.hid hO;clear hO;have hmf:∀(fn:Fn) (first cap:Array Value) (w:World),(Instr.makeFunc fn first cap).run Try.prog w= .ok (.func fn first cap) w:=λ_ _ _ _=>rfl;have B2:Below w.heap.size w ((w.alloc (.cells #[.int .i64 0,.int .i64 0,.int .i64 0,.int .i64 0,.int .i64 0,.int .i64 0,.slice none 0 0,.slice none 0 0,.slice none 0 0,.int .i64 0,.bool false] 29)).alloc (.cells #[.int .i64 0,.int .i64 0] 42)):=bl2 _ _ _;have hOB:CellsAt ((w.alloc (.cells #[.int .i64 0,.int .i64 0,.int .i64 0,.int .i64 0,.int .i64 0,.int .i64 0,.slice none 0 0,.slice none 0 0,.slice none 0 0,.int .i64 0,.bool false] 29)).alloc (.cells #[.int .i64 0,.int .i64 0] 42)) w.heap.size 29 #[.int .i64 0,.int .i64 0,.int .i64 0,.int .i64 0,.int .i64 0,.int .i64 0,.slice none 0 0,.slice none 0 0,.slice none 0 0,.int .i64 0,.bool false]:=CellsAt.below (World.alloc_heap_new w _) (bl1 _ _)
 have hFB:CellsAt ((w.alloc (.cells #[.int .i64 0,.int .i64 0,.int .i64 0,.int .i64 0,.int .i64 0,.int .i64 0,.slice none 0 0,.slice none 0 0,.slice none 0 0,.int .i64 0,.bool false] 29)).alloc (.cells #[.int .i64 0,.int .i64 0] 42)) (w.heap.size+1) 42 #[.int .i64 0,.int .i64 0]:=by
  have:=World.alloc_heap_new (w.alloc (.cells #[.int .i64 0,.int .i64 0,.int .i64 0,.int .i64 0,.int .i64 0,.int .i64 0,.slice none 0 0,.slice none 0 0,.slice none 0 0,.int .i64 0,.bool false] 29)) (.cells #[.int .i64 0,.int .i64 0] 42)
  simpa [CellsAt]using this
 have hb0:=hb.grown (ab B2 none) (λ_ _=>by simp)
 go_enter_defers Try.func16,Try.ntmps16
 go_wp2_with fail
 generalize ((w.alloc (.cells #[.int .i64 0,.int .i64 0,.int .i64 0,.int .i64 0,.int .i64 0,.int .i64 0,.slice none 0 0,.slice none 0 0,.slice none 0 0,.int .i64 0,.bool false] 29)).alloc (.cells #[.int .i64 0,.int .i64 0] 42))=W0 at B2 hOB hFB hb0 ⊢;refine(AT a m c f W0 hb0 hm hc).mono ?_;rintro x w1 ⟨R,g,rfl,hR1,hb1,hgR,hRn,hgn,hgl,hB1⟩;have hOB1:=hOB.below hB1;have hFB1:=hFB.below hB1;have FL:=hFB.lt;have B1:=B2.trans (hB1.mono B2.size);clear hb hb0 hOB hFB B2 hB1;have hR2:=hR1.below (bl1 w1 (.cells #[.pointer (some ⟨R,0,none⟩)] 80));have hb2:=If hb1 (ab (bl1 w1 (.cells #[.pointer (some ⟨R,0,none⟩)] 80)) (some R)) (λb e=>by cases e;exact hgR);have C1:=Lib.hid (AY R _ m m 0 0 f _ hR2 hb2 (λb e=>by cases e;exact hgR) (Nat.le_refl _) hm (Nat.zero_le _))
 go_wp2_with fail
 have hOB2:=hOB1.below (bl1 w1 (.cells #[.pointer (some ⟨R,0,none⟩)] 80));have hFB2:=hFB1.below (bl1 w1 (.cells #[.pointer (some ⟨R,0,none⟩)] 80));have hXB2:CellsAt (w1.alloc (.cells #[.pointer (some ⟨R,0,none⟩)] 80)) w1.heap.size 80 #[.pointer (some ⟨R,0,none⟩)]:=World.alloc_heap_new w1 _;have B2:Below w.heap.size w (w1.alloc (.cells #[.pointer (some ⟨R,0,none⟩)] 80)):=B1.alloc B1.size _;have LX:R<w1.heap.size:=hR1.lt;have LF:w.heap.size+1<w1.heap.size:=hFB1.lt;clear hR1 hb1 hOB1 hFB1 B1 hR2 hb2 hgn hgl hgR;generalize w1.alloc (.cells #[.pointer (some ⟨R,0,none⟩)] 80)=W2 at C1 hOB2 hFB2 hXB2 B2 ⊢;generalize w1.heap.size=RX at hXB2 LX LF ⊢
 cases q1:gP f m 0 with
 |error er=>
  have he:Hid (O= .error er):=Lib.hid (by rw [HO.out];unfold dm;rw [q1]);rw [q1]at C1;refine C1.out.mono ?_;rintro x w3 ⟨rfl,hg⟩;have hOB3:=aW hOB2 hg (by omega);have hFB3:=aW hFB2 hg (by omega);have B3:Below w.heap.size w w3:=B2.trans (bh hg B2.size (by omega));refine leaves_cons (f:=39) (args:=#[.pointer (some ⟨w.heap.size+1,0,none⟩)]) (by simp) (by simp [go_sem]) ?_;refine(kv (w.heap.size+1) 0 0 er.1 er.2 [] w3 hFB3).mono ?_;rintro x u' w4 ⟨rfl,rfl,hF4,hg4⟩;have hO4:=hOB3.grown hg4 (by simp);refine⟨_,eW rfl _ _ w.heap.size (w.heap.size+1) 29 42 _ _ _ _ _ _ rfl hO4 rfl hF4 Try.underlying29 rfl (by kernel_rfl) Try.underlying42 rfl (by kernel_rfl),?_,B3.trans (bh hg4 B3.size (by omega))⟩;rw [he.out]
 |ok r=>
  obtain⟨⟨x0,x1,x2,x3,x4,⟨n,l7⟩,l8,l9,x6,x5⟩,q⟩:=r;rw [q1]at C1;refine C1.out.mono ?_;rintro x w3 ⟨⟨v1,v2,v3,rfl,A7,A8,A9,hR3⟩,hg⟩;obtain⟨bs7,cp7,rfl⟩:=aG A7.1.choose_spec.2;obtain⟨bs8,cp8,rfl⟩:=aG A8.1.choose_spec.2;obtain⟨bs9,cp9,rfl⟩:=aG A9.1.choose_spec.2;have hOB3:=aW hOB2 hg (by omega);have hFB3:=aW hFB2 hg (by omega);have hXB3:=aW hXB2 hg (by omega);have LW:w.heap.size+1<W2.heap.size:=hFB2.lt;have B3:Below w.heap.size w w3:=B2.trans (bh hg B2.size (by omega));have BA:=bl1 w3 (.cells #[.int .i64 x0,.int .i64 x1,.int .i64 x2,.int .i64 x3,.int .i64 x4,.int .i64 n,.slice bs7 l7.length cp7,.slice bs8 l8.length cp8,.slice bs9 l9.length cp9,.int .i64 x6,.bool x5] 29);have hY4:CellsAt (w3.alloc (.cells #[.int .i64 x0,.int .i64 x1,.int .i64 x2,.int .i64 x3,.int .i64 x4,.int .i64 n,.slice bs7 l7.length cp7,.slice bs8 l8.length cp8,.slice bs9 l9.length cp9,.int .i64 x6,.bool x5] 29)) w3.heap.size 29 #[.int .i64 x0,.int .i64 x1,.int .i64 x2,.int .i64 x3,.int .i64 x4,.int .i64 n,.slice bs7 l7.length cp7,.slice bs8 l8.length cp8,.slice bs9 l9.length cp9,.int .i64 x6,.bool x5]:=World.alloc_heap_new w3 _;have cX:=hXB3.cell 0;have kX:Has w3 RX:=hXB3.lt;have A7:=Lib.hid (A7.keep (ab BA none) (λr e=>by cases e));have A8:=Lib.hid (A8.keep (ab BA none) (λr e=>by cases e));have A9:=Lib.hid (A9.keep (ab BA none) (λr e=>by cases e))
  go_wp2_with fail
  have hR4:=hR3.below BA;have hOB4:=hOB3.below BA;have hFB4:=hFB3.below BA;have hXB4:=hXB3.below BA;have B4:Below w.heap.size w (w3.alloc (.cells #[.int .i64 x0,.int .i64 x1,.int .i64 x2,.int .i64 x3,.int .i64 x4,.int .i64 n,.slice bs7 l7.length cp7,.slice bs8 l8.length cp8,.slice bs9 l9.length cp9,.int .i64 x6,.bool x5] 29)):=B3.trans (BA.mono B3.size);have kY:=hFB3.lt;clear cX kX hR3 hOB3 hFB3 hXB3 B3 BA C1;generalize w3.alloc (.cells #[.int .i64 x0,.int .i64 x1,.int .i64 x2,.int .i64 x3,.int .i64 x4,.int .i64 n,.slice bs7 l7.length cp7,.slice bs8 l8.length cp8,.slice bs9 l9.length cp9,.int .i64 x6,.bool x5] 29)=W4 at hY4 hR4 hOB4 hFB4 hXB4 B4 A7 A8 A9 ⊢;generalize w3.heap.size=Y at hY4 kY ⊢;have cX:=hXB4.cell 0;have kX:Has W4 RX:=hXB4.lt;have HA:=Lib.hid (λ(U:World) (hU:Below W4.heap.size W4 U)=>iH R _ q 0 0 U (hR4.below hU));by_cases hq:q=m
  .have HE:=Lib.hid (λ(U:World) (hU:Below W4.heap.size W4 U)=>zu R _ m m q 0 U (hR4.below hU) true (by simp [hq]));have he:Hid (O= .ok (x0,x1,x2,x3,x4,(n,l7),l8,l9,x6,x5)):=Lib.hid (by rw [HO.out];unfold dm;rw [q1];dsimp only;rw [if_pos hq]);clear hq;refine fD 8 (by kernel_rfl) (by kernel_rfl) ?_;simp only [List.take_succ_cons,List.take_zero,List.drop_succ_cons,List.drop_zero]
   repeat (go_big_quiet_step (first
    |(go_at_call 43;exact Calls.regrown_of (HE.out _ (by repeat (first|with_reducible refine blg ?_ _ _|with_reducible refine bla ?_ _|with_reducible exact Below.refl _ _))))
    |(go_at_call 44;exact Calls.regrown_of (HA.out _ (by repeat (first|with_reducible refine blg ?_ _ _|with_reducible refine bla ?_ _|with_reducible exact Below.refl _ _))))))
   refine wpQuiet_nil ?_;rintro _ ⟨⟨d3,o3⟩,rfl⟩;have BU:=below_regrown W4 d3 o3;generalize grow (redrawn W4 d3) o3=U at BU ⊢;have V:=Lib.hid (im R _ q 0 4 q U (hR4.below BU))
   go_wp2_with fail
   refine V.out.mono ?_;rintro x w5 ⟨rfl,hB5⟩;have BW:=BU.trans (hB5.mono BU.size);have hOB5:=hOB4.below BW;have hFB5:=hFB4.below BW;have hY5:=hY4.below BW;have B5:=B4.trans (BW.mono B4.size);have A7:=A7.out.keep (ab BW none) (λr e=>by cases e);have A8:=A8.out.keep (ab BW none) (λr e=>by cases e);have A9:=A9.out.keep (ab BW none) (λr e=>by cases e);have y0:w5.cell? ⟨Y,0,none⟩=some (.int .i64 x0):=hY5.cell 0;have y1:w5.cell? ⟨Y,1,none⟩=some (.int .i64 x1):=hY5.cell 1;have y2:w5.cell? ⟨Y,2,none⟩=some (.int .i64 x2):=hY5.cell 2;have y3:w5.cell? ⟨Y,3,none⟩=some (.int .i64 x3):=hY5.cell 3;have y4:w5.cell? ⟨Y,4,none⟩=some (.int .i64 x4):=hY5.cell 4;have y5:w5.cell? ⟨Y,5,none⟩=some (.int .i64 n):=hY5.cell 5;have y6:w5.cell? ⟨Y,6,none⟩=some (.slice bs7 l7.length cp7):=hY5.cell 6;have y7:w5.cell? ⟨Y,7,none⟩=some (.slice bs8 l8.length cp8):=hY5.cell 7;have y8:w5.cell? ⟨Y,8,none⟩=some (.slice bs9 l9.length cp9):=hY5.cell 8;have y9:w5.cell? ⟨Y,9,none⟩=some (.int .i64 x6):=hY5.cell 9;have y10:w5.cell? ⟨Y,10,none⟩=some (.bool x5):=hY5.cell 10;have kY5:Has w5 Y:=hY5.lt;have P0:=hOB5;have F0:=hFB5;have Z0:=B5;have o0:(w5).cell? ⟨w.heap.size,0,none⟩=some (.int .i64 0):=P0.cell 0;have fo0:=P0.frozen 0;have P1:CellsAt ((w5).setCell ⟨w.heap.size,0,none⟩ (.int .i64 x0)) w.heap.size 29 #[.int .i64 x0,.int .i64 0,.int .i64 0,.int .i64 0,.int .i64 0,.int .i64 0,.slice none 0 0,.slice none 0 0,.slice none 0 0,.int .i64 0,.bool false]:=P0.set 0 (.int .i64 x0);have F1:=au F0 (show w.heap.size+1≠w.heap.size by omega) (.int .i64 x0) 0;have Z1:=Z0.setCell (p:=⟨w.heap.size,0,none⟩) (Nat.le_refl _) (.int .i64 x0);have A7:=A7.keep (ae (w5) w.heap.size 0 (.int .i64 x0)) (λr e=>by cases e;omega);have A8:=A8.keep (ae (w5) w.heap.size 0 (.int .i64 x0)) (λr e=>by cases e;omega);have A9:=A9.keep (ae (w5) w.heap.size 0 (.int .i64 x0)) (λr e=>by cases e;omega);have o1:((w5).setCell ⟨w.heap.size,0,none⟩ (.int .i64 x0)).cell? ⟨w.heap.size,1,none⟩=some (.int .i64 0):=P1.cell 1;have fo1:=P1.frozen 1;have P2:CellsAt (((w5).setCell ⟨w.heap.size,0,none⟩ (.int .i64 x0)).setCell ⟨w.heap.size,1,none⟩ (.int .i64 x1)) w.heap.size 29 #[.int .i64 x0,.int .i64 x1,.int .i64 0,.int .i64 0,.int .i64 0,.int .i64 0,.slice none 0 0,.slice none 0 0,.slice none 0 0,.int .i64 0,.bool false]:=P1.set 1 (.int .i64 x1);have F2:=au F1 (show w.heap.size+1≠w.heap.size by omega) (.int .i64 x1) 1;have Z2:=Z1.setCell (p:=⟨w.heap.size,1,none⟩) (Nat.le_refl _) (.int .i64 x1);have A7:=A7.keep (ae ((w5).setCell ⟨w.heap.size,0,none⟩ (.int .i64 x0)) w.heap.size 1 (.int .i64 x1)) (λr e=>by cases e;omega);have A8:=A8.keep (ae ((w5).setCell ⟨w.heap.size,0,none⟩ (.int .i64 x0)) w.heap.size 1 (.int .i64 x1)) (λr e=>by cases e;omega);have A9:=A9.keep (ae ((w5).setCell ⟨w.heap.size,0,none⟩ (.int .i64 x0)) w.heap.size 1 (.int .i64 x1)) (λr e=>by cases e;omega);have o2:(((w5).setCell ⟨w.heap.size,0,none⟩ (.int .i64 x0)).setCell ⟨w.heap.size,1,none⟩ (.int .i64 x1)).cell? ⟨w.heap.size,2,none⟩=some (.int .i64 0):=P2.cell 2;have fo2:=P2.frozen 2;have P3:CellsAt ((((w5).setCell ⟨w.heap.size,0,none⟩ (.int .i64 x0)).setCell ⟨w.heap.size,1,none⟩ (.int .i64 x1)).setCell ⟨w.heap.size,2,none⟩ (.int .i64 x2)) w.heap.size 29 #[.int .i64 x0,.int .i64 x1,.int .i64 x2,.int .i64 0,.int .i64 0,.int .i64 0,.slice none 0 0,.slice none 0 0,.slice none 0 0,.int .i64 0,.bool false]:=P2.set 2 (.int .i64 x2);have F3:=au F2 (show w.heap.size+1≠w.heap.size by omega) (.int .i64 x2) 2;have Z3:=Z2.setCell (p:=⟨w.heap.size,2,none⟩) (Nat.le_refl _) (.int .i64 x2);have A7:=A7.keep (ae (((w5).setCell ⟨w.heap.size,0,none⟩ (.int .i64 x0)).setCell ⟨w.heap.size,1,none⟩ (.int .i64 x1)) w.heap.size 2 (.int .i64 x2)) (λr e=>by cases e;omega);have A8:=A8.keep (ae (((w5).setCell ⟨w.heap.size,0,none⟩ (.int .i64 x0)).setCell ⟨w.heap.size,1,none⟩ (.int .i64 x1)) w.heap.size 2 (.int .i64 x2)) (λr e=>by cases e;omega);have A9:=A9.keep (ae (((w5).setCell ⟨w.heap.size,0,none⟩ (.int .i64 x0)).setCell ⟨w.heap.size,1,none⟩ (.int .i64 x1)) w.heap.size 2 (.int .i64 x2)) (λr e=>by cases e;omega);have o3:((((w5).setCell ⟨w.heap.size,0,none⟩ (.int .i64 x0)).setCell ⟨w.heap.size,1,none⟩ (.int .i64 x1)).setCell ⟨w.heap.size,2,none⟩ (.int .i64 x2)).cell? ⟨w.heap.size,3,none⟩=some (.int .i64 0):=P3.cell 3;have fo3:=P3.frozen 3;have P4:CellsAt (((((w5).setCell ⟨w.heap.size,0,none⟩ (.int .i64 x0)).setCell ⟨w.heap.size,1,none⟩ (.int .i64 x1)).setCell ⟨w.heap.size,2,none⟩ (.int .i64 x2)).setCell ⟨w.heap.size,3,none⟩ (.int .i64 x3)) w.heap.size 29 #[.int .i64 x0,.int .i64 x1,.int .i64 x2,.int .i64 x3,.int .i64 0,.int .i64 0,.slice none 0 0,.slice none 0 0,.slice none 0 0,.int .i64 0,.bool false]:=P3.set 3 (.int .i64 x3);have F4:=au F3 (show w.heap.size+1≠w.heap.size by omega) (.int .i64 x3) 3;have Z4:=Z3.setCell (p:=⟨w.heap.size,3,none⟩) (Nat.le_refl _) (.int .i64 x3);have A7:=A7.keep (ae ((((w5).setCell ⟨w.heap.size,0,none⟩ (.int .i64 x0)).setCell ⟨w.heap.size,1,none⟩ (.int .i64 x1)).setCell ⟨w.heap.size,2,none⟩ (.int .i64 x2)) w.heap.size 3 (.int .i64 x3)) (λr e=>by cases e;omega);have A8:=A8.keep (ae ((((w5).setCell ⟨w.heap.size,0,none⟩ (.int .i64 x0)).setCell ⟨w.heap.size,1,none⟩ (.int .i64 x1)).setCell ⟨w.heap.size,2,none⟩ (.int .i64 x2)) w.heap.size 3 (.int .i64 x3)) (λr e=>by cases e;omega);have A9:=A9.keep (ae ((((w5).setCell ⟨w.heap.size,0,none⟩ (.int .i64 x0)).setCell ⟨w.heap.size,1,none⟩ (.int .i64 x1)).setCell ⟨w.heap.size,2,none⟩ (.int .i64 x2)) w.heap.size 3 (.int .i64 x3)) (λr e=>by cases e;omega);have o4:(((((w5).setCell ⟨w.heap.size,0,none⟩ (.int .i64 x0)).setCell ⟨w.heap.size,1,none⟩ (.int .i64 x1)).setCell ⟨w.heap.size,2,none⟩ (.int .i64 x2)).setCell ⟨w.heap.size,3,none⟩ (.int .i64 x3)).cell? ⟨w.heap.size,4,none⟩=some (.int .i64 0):=P4.cell 4;have fo4:=P4.frozen 4;have P5:CellsAt ((((((w5).setCell ⟨w.heap.size,0,none⟩ (.int .i64 x0)).setCell ⟨w.heap.size,1,none⟩ (.int .i64 x1)).setCell ⟨w.heap.size,2,none⟩ (.int .i64 x2)).setCell ⟨w.heap.size,3,none⟩ (.int .i64 x3)).setCell ⟨w.heap.size,4,none⟩ (.int .i64 x4)) w.heap.size 29 #[.int .i64 x0,.int .i64 x1,.int .i64 x2,.int .i64 x3,.int .i64 x4,.int .i64 0,.slice none 0 0,.slice none 0 0,.slice none 0 0,.int .i64 0,.bool false]:=P4.set 4 (.int .i64 x4);have F5:=au F4 (show w.heap.size+1≠w.heap.size by omega) (.int .i64 x4) 4;have Z5:=Z4.setCell (p:=⟨w.heap.size,4,none⟩) (Nat.le_refl _) (.int .i64 x4);have A7:=A7.keep (ae (((((w5).setCell ⟨w.heap.size,0,none⟩ (.int .i64 x0)).setCell ⟨w.heap.size,1,none⟩ (.int .i64 x1)).setCell ⟨w.heap.size,2,none⟩ (.int .i64 x2)).setCell ⟨w.heap.size,3,none⟩ (.int .i64 x3)) w.heap.size 4 (.int .i64 x4)) (λr e=>by cases e;omega);have A8:=A8.keep (ae (((((w5).setCell ⟨w.heap.size,0,none⟩ (.int .i64 x0)).setCell ⟨w.heap.size,1,none⟩ (.int .i64 x1)).setCell ⟨w.heap.size,2,none⟩ (.int .i64 x2)).setCell ⟨w.heap.size,3,none⟩ (.int .i64 x3)) w.heap.size 4 (.int .i64 x4)) (λr e=>by cases e;omega);have A9:=A9.keep (ae (((((w5).setCell ⟨w.heap.size,0,none⟩ (.int .i64 x0)).setCell ⟨w.heap.size,1,none⟩ (.int .i64 x1)).setCell ⟨w.heap.size,2,none⟩ (.int .i64 x2)).setCell ⟨w.heap.size,3,none⟩ (.int .i64 x3)) w.heap.size 4 (.int .i64 x4)) (λr e=>by cases e;omega);have o5:((((((w5).setCell ⟨w.heap.size,0,none⟩ (.int .i64 x0)).setCell ⟨w.heap.size,1,none⟩ (.int .i64 x1)).setCell ⟨w.heap.size,2,none⟩ (.int .i64 x2)).setCell ⟨w.heap.size,3,none⟩ (.int .i64 x3)).setCell ⟨w.heap.size,4,none⟩ (.int .i64 x4)).cell? ⟨w.heap.size,5,none⟩=some (.int .i64 0):=P5.cell 5;have fo5:=P5.frozen 5;have P6:CellsAt (((((((w5).setCell ⟨w.heap.size,0,none⟩ (.int .i64 x0)).setCell ⟨w.heap.size,1,none⟩ (.int .i64 x1)).setCell ⟨w.heap.size,2,none⟩ (.int .i64 x2)).setCell ⟨w.heap.size,3,none⟩ (.int .i64 x3)).setCell ⟨w.heap.size,4,none⟩ (.int .i64 x4)).setCell ⟨w.heap.size,5,none⟩ (.int .i64 n)) w.heap.size 29 #[.int .i64 x0,.int .i64 x1,.int .i64 x2,.int .i64 x3,.int .i64 x4,.int .i64 n,.slice none 0 0,.slice none 0 0,.slice none 0 0,.int .i64 0,.bool false]:=P5.set 5 (.int .i64 n);have F6:=au F5 (show w.heap.size+1≠w.heap.size by omega) (.int .i64 n) 5;have Z6:=Z5.setCell (p:=⟨w.heap.size,5,none⟩) (Nat.le_refl _) (.int .i64 n);have A7:=A7.keep (ae ((((((w5).setCell ⟨w.heap.size,0,none⟩ (.int .i64 x0)).setCell ⟨w.heap.size,1,none⟩ (.int .i64 x1)).setCell ⟨w.heap.size,2,none⟩ (.int .i64 x2)).setCell ⟨w.heap.size,3,none⟩ (.int .i64 x3)).setCell ⟨w.heap.size,4,none⟩ (.int .i64 x4)) w.heap.size 5 (.int .i64 n)) (λr e=>by cases e;omega);have A8:=A8.keep (ae ((((((w5).setCell ⟨w.heap.size,0,none⟩ (.int .i64 x0)).setCell ⟨w.heap.size,1,none⟩ (.int .i64 x1)).setCell ⟨w.heap.size,2,none⟩ (.int .i64 x2)).setCell ⟨w.heap.size,3,none⟩ (.int .i64 x3)).setCell ⟨w.heap.size,4,none⟩ (.int .i64 x4)) w.heap.size 5 (.int .i64 n)) (λr e=>by cases e;omega);have A9:=A9.keep (ae ((((((w5).setCell ⟨w.heap.size,0,none⟩ (.int .i64 x0)).setCell ⟨w.heap.size,1,none⟩ (.int .i64 x1)).setCell ⟨w.heap.size,2,none⟩ (.int .i64 x2)).setCell ⟨w.heap.size,3,none⟩ (.int .i64 x3)).setCell ⟨w.heap.size,4,none⟩ (.int .i64 x4)) w.heap.size 5 (.int .i64 n)) (λr e=>by cases e;omega);have o6:(((((((w5).setCell ⟨w.heap.size,0,none⟩ (.int .i64 x0)).setCell ⟨w.heap.size,1,none⟩ (.int .i64 x1)).setCell ⟨w.heap.size,2,none⟩ (.int .i64 x2)).setCell ⟨w.heap.size,3,none⟩ (.int .i64 x3)).setCell ⟨w.heap.size,4,none⟩ (.int .i64 x4)).setCell ⟨w.heap.size,5,none⟩ (.int .i64 n)).cell? ⟨w.heap.size,6,none⟩=some (.slice none 0 0):=P6.cell 6;have fo6:=P6.frozen 6;have P7:CellsAt ((((((((w5).setCell ⟨w.heap.size,0,none⟩ (.int .i64 x0)).setCell ⟨w.heap.size,1,none⟩ (.int .i64 x1)).setCell ⟨w.heap.size,2,none⟩ (.int .i64 x2)).setCell ⟨w.heap.size,3,none⟩ (.int .i64 x3)).setCell ⟨w.heap.size,4,none⟩ (.int .i64 x4)).setCell ⟨w.heap.size,5,none⟩ (.int .i64 n)).setCell ⟨w.heap.size,6,none⟩ (.slice bs7 l7.length cp7)) w.heap.size 29 #[.int .i64 x0,.int .i64 x1,.int .i64 x2,.int .i64 x3,.int .i64 x4,.int .i64 n,.slice bs7 l7.length cp7,.slice none 0 0,.slice none 0 0,.int .i64 0,.bool false]:=P6.set 6 (.slice bs7 l7.length cp7);have F7:=au F6 (show w.heap.size+1≠w.heap.size by omega) (.slice bs7 l7.length cp7) 6;have Z7:=Z6.setCell (p:=⟨w.heap.size,6,none⟩) (Nat.le_refl _) (.slice bs7 l7.length cp7);have A7:=A7.keep (ae (((((((w5).setCell ⟨w.heap.size,0,none⟩ (.int .i64 x0)).setCell ⟨w.heap.size,1,none⟩ (.int .i64 x1)).setCell ⟨w.heap.size,2,none⟩ (.int .i64 x2)).setCell ⟨w.heap.size,3,none⟩ (.int .i64 x3)).setCell ⟨w.heap.size,4,none⟩ (.int .i64 x4)).setCell ⟨w.heap.size,5,none⟩ (.int .i64 n)) w.heap.size 6 (.slice bs7 l7.length cp7)) (λr e=>by cases e;omega);have A8:=A8.keep (ae (((((((w5).setCell ⟨w.heap.size,0,none⟩ (.int .i64 x0)).setCell ⟨w.heap.size,1,none⟩ (.int .i64 x1)).setCell ⟨w.heap.size,2,none⟩ (.int .i64 x2)).setCell ⟨w.heap.size,3,none⟩ (.int .i64 x3)).setCell ⟨w.heap.size,4,none⟩ (.int .i64 x4)).setCell ⟨w.heap.size,5,none⟩ (.int .i64 n)) w.heap.size 6 (.slice bs7 l7.length cp7)) (λr e=>by cases e;omega);have A9:=A9.keep (ae (((((((w5).setCell ⟨w.heap.size,0,none⟩ (.int .i64 x0)).setCell ⟨w.heap.size,1,none⟩ (.int .i64 x1)).setCell ⟨w.heap.size,2,none⟩ (.int .i64 x2)).setCell ⟨w.heap.size,3,none⟩ (.int .i64 x3)).setCell ⟨w.heap.size,4,none⟩ (.int .i64 x4)).setCell ⟨w.heap.size,5,none⟩ (.int .i64 n)) w.heap.size 6 (.slice bs7 l7.length cp7)) (λr e=>by cases e;omega);have o7:((((((((w5).setCell ⟨w.heap.size,0,none⟩ (.int .i64 x0)).setCell ⟨w.heap.size,1,none⟩ (.int .i64 x1)).setCell ⟨w.heap.size,2,none⟩ (.int .i64 x2)).setCell ⟨w.heap.size,3,none⟩ (.int .i64 x3)).setCell ⟨w.heap.size,4,none⟩ (.int .i64 x4)).setCell ⟨w.heap.size,5,none⟩ (.int .i64 n)).setCell ⟨w.heap.size,6,none⟩ (.slice bs7 l7.length cp7)).cell? ⟨w.heap.size,7,none⟩=some (.slice none 0 0):=P7.cell 7;have fo7:=P7.frozen 7;have P8:CellsAt (((((((((w5).setCell ⟨w.heap.size,0,none⟩ (.int .i64 x0)).setCell ⟨w.heap.size,1,none⟩ (.int .i64 x1)).setCell ⟨w.heap.size,2,none⟩ (.int .i64 x2)).setCell ⟨w.heap.size,3,none⟩ (.int .i64 x3)).setCell ⟨w.heap.size,4,none⟩ (.int .i64 x4)).setCell ⟨w.heap.size,5,none⟩ (.int .i64 n)).setCell ⟨w.heap.size,6,none⟩ (.slice bs7 l7.length cp7)).setCell ⟨w.heap.size,7,none⟩ (.slice bs8 l8.length cp8)) w.heap.size 29 #[.int .i64 x0,.int .i64 x1,.int .i64 x2,.int .i64 x3,.int .i64 x4,.int .i64 n,.slice bs7 l7.length cp7,.slice bs8 l8.length cp8,.slice none 0 0,.int .i64 0,.bool false]:=P7.set 7 (.slice bs8 l8.length cp8);have F8:=au F7 (show w.heap.size+1≠w.heap.size by omega) (.slice bs8 l8.length cp8) 7;have Z8:=Z7.setCell (p:=⟨w.heap.size,7,none⟩) (Nat.le_refl _) (.slice bs8 l8.length cp8);have A7:=A7.keep (ae ((((((((w5).setCell ⟨w.heap.size,0,none⟩ (.int .i64 x0)).setCell ⟨w.heap.size,1,none⟩ (.int .i64 x1)).setCell ⟨w.heap.size,2,none⟩ (.int .i64 x2)).setCell ⟨w.heap.size,3,none⟩ (.int .i64 x3)).setCell ⟨w.heap.size,4,none⟩ (.int .i64 x4)).setCell ⟨w.heap.size,5,none⟩ (.int .i64 n)).setCell ⟨w.heap.size,6,none⟩ (.slice bs7 l7.length cp7)) w.heap.size 7 (.slice bs8 l8.length cp8)) (λr e=>by cases e;omega);have A8:=A8.keep (ae ((((((((w5).setCell ⟨w.heap.size,0,none⟩ (.int .i64 x0)).setCell ⟨w.heap.size,1,none⟩ (.int .i64 x1)).setCell ⟨w.heap.size,2,none⟩ (.int .i64 x2)).setCell ⟨w.heap.size,3,none⟩ (.int .i64 x3)).setCell ⟨w.heap.size,4,none⟩ (.int .i64 x4)).setCell ⟨w.heap.size,5,none⟩ (.int .i64 n)).setCell ⟨w.heap.size,6,none⟩ (.slice bs7 l7.length cp7)) w.heap.size 7 (.slice bs8 l8.length cp8)) (λr e=>by cases e;omega);have A9:=A9.keep (ae ((((((((w5).setCell ⟨w.heap.size,0,none⟩ (.int .i64 x0)).setCell ⟨w.heap.size,1,none⟩ (.int .i64 x1)).setCell ⟨w.heap.size,2,none⟩ (.int .i64 x2)).setCell ⟨w.heap.size,3,none⟩ (.int .i64 x3)).setCell ⟨w.heap.size,4,none⟩ (.int .i64 x4)).setCell ⟨w.heap.size,5,none⟩ (.int .i64 n)).setCell ⟨w.heap.size,6,none⟩ (.slice bs7 l7.length cp7)) w.heap.size 7 (.slice bs8 l8.length cp8)) (λr e=>by cases e;omega);have o8:(((((((((w5).setCell ⟨w.heap.size,0,none⟩ (.int .i64 x0)).setCell ⟨w.heap.size,1,none⟩ (.int .i64 x1)).setCell ⟨w.heap.size,2,none⟩ (.int .i64 x2)).setCell ⟨w.heap.size,3,none⟩ (.int .i64 x3)).setCell ⟨w.heap.size,4,none⟩ (.int .i64 x4)).setCell ⟨w.heap.size,5,none⟩ (.int .i64 n)).setCell ⟨w.heap.size,6,none⟩ (.slice bs7 l7.length cp7)).setCell ⟨w.heap.size,7,none⟩ (.slice bs8 l8.length cp8)).cell? ⟨w.heap.size,8,none⟩=some (.slice none 0 0):=P8.cell 8;have fo8:=P8.frozen 8;have P9:CellsAt ((((((((((w5).setCell ⟨w.heap.size,0,none⟩ (.int .i64 x0)).setCell ⟨w.heap.size,1,none⟩ (.int .i64 x1)).setCell ⟨w.heap.size,2,none⟩ (.int .i64 x2)).setCell ⟨w.heap.size,3,none⟩ (.int .i64 x3)).setCell ⟨w.heap.size,4,none⟩ (.int .i64 x4)).setCell ⟨w.heap.size,5,none⟩ (.int .i64 n)).setCell ⟨w.heap.size,6,none⟩ (.slice bs7 l7.length cp7)).setCell ⟨w.heap.size,7,none⟩ (.slice bs8 l8.length cp8)).setCell ⟨w.heap.size,8,none⟩ (.slice bs9 l9.length cp9)) w.heap.size 29 #[.int .i64 x0,.int .i64 x1,.int .i64 x2,.int .i64 x3,.int .i64 x4,.int .i64 n,.slice bs7 l7.length cp7,.slice bs8 l8.length cp8,.slice bs9 l9.length cp9,.int .i64 0,.bool false]:=P8.set 8 (.slice bs9 l9.length cp9);have F9:=au F8 (show w.heap.size+1≠w.heap.size by omega) (.slice bs9 l9.length cp9) 8;have Z9:=Z8.setCell (p:=⟨w.heap.size,8,none⟩) (Nat.le_refl _) (.slice bs9 l9.length cp9);have A7:=A7.keep (ae (((((((((w5).setCell ⟨w.heap.size,0,none⟩ (.int .i64 x0)).setCell ⟨w.heap.size,1,none⟩ (.int .i64 x1)).setCell ⟨w.heap.size,2,none⟩ (.int .i64 x2)).setCell ⟨w.heap.size,3,none⟩ (.int .i64 x3)).setCell ⟨w.heap.size,4,none⟩ (.int .i64 x4)).setCell ⟨w.heap.size,5,none⟩ (.int .i64 n)).setCell ⟨w.heap.size,6,none⟩ (.slice bs7 l7.length cp7)).setCell ⟨w.heap.size,7,none⟩ (.slice bs8 l8.length cp8)) w.heap.size 8 (.slice bs9 l9.length cp9)) (λr e=>by cases e;omega);have A8:=A8.keep (ae (((((((((w5).setCell ⟨w.heap.size,0,none⟩ (.int .i64 x0)).setCell ⟨w.heap.size,1,none⟩ (.int .i64 x1)).setCell ⟨w.heap.size,2,none⟩ (.int .i64 x2)).setCell ⟨w.heap.size,3,none⟩ (.int .i64 x3)).setCell ⟨w.heap.size,4,none⟩ (.int .i64 x4)).setCell ⟨w.heap.size,5,none⟩ (.int .i64 n)).setCell ⟨w.heap.size,6,none⟩ (.slice bs7 l7.length cp7)).setCell ⟨w.heap.size,7,none⟩ (.slice bs8 l8.length cp8)) w.heap.size 8 (.slice bs9 l9.length cp9)) (λr e=>by cases e;omega);have A9:=A9.keep (ae (((((((((w5).setCell ⟨w.heap.size,0,none⟩ (.int .i64 x0)).setCell ⟨w.heap.size,1,none⟩ (.int .i64 x1)).setCell ⟨w.heap.size,2,none⟩ (.int .i64 x2)).setCell ⟨w.heap.size,3,none⟩ (.int .i64 x3)).setCell ⟨w.heap.size,4,none⟩ (.int .i64 x4)).setCell ⟨w.heap.size,5,none⟩ (.int .i64 n)).setCell ⟨w.heap.size,6,none⟩ (.slice bs7 l7.length cp7)).setCell ⟨w.heap.size,7,none⟩ (.slice bs8 l8.length cp8)) w.heap.size 8 (.slice bs9 l9.length cp9)) (λr e=>by cases e;omega);have o9:((((((((((w5).setCell ⟨w.heap.size,0,none⟩ (.int .i64 x0)).setCell ⟨w.heap.size,1,none⟩ (.int .i64 x1)).setCell ⟨w.heap.size,2,none⟩ (.int .i64 x2)).setCell ⟨w.heap.size,3,none⟩ (.int .i64 x3)).setCell ⟨w.heap.size,4,none⟩ (.int .i64 x4)).setCell ⟨w.heap.size,5,none⟩ (.int .i64 n)).setCell ⟨w.heap.size,6,none⟩ (.slice bs7 l7.length cp7)).setCell ⟨w.heap.size,7,none⟩ (.slice bs8 l8.length cp8)).setCell ⟨w.heap.size,8,none⟩ (.slice bs9 l9.length cp9)).cell? ⟨w.heap.size,9,none⟩=some (.int .i64 0):=P9.cell 9;have fo9:=P9.frozen 9;have P10:CellsAt (((((((((((w5).setCell ⟨w.heap.size,0,none⟩ (.int .i64 x0)).setCell ⟨w.heap.size,1,none⟩ (.int .i64 x1)).setCell ⟨w.heap.size,2,none⟩ (.int .i64 x2)).setCell ⟨w.heap.size,3,none⟩ (.int .i64 x3)).setCell ⟨w.heap.size,4,none⟩ (.int .i64 x4)).setCell ⟨w.heap.size,5,none⟩ (.int .i64 n)).setCell ⟨w.heap.size,6,none⟩ (.slice bs7 l7.length cp7)).setCell ⟨w.heap.size,7,none⟩ (.slice bs8 l8.length cp8)).setCell ⟨w.heap.size,8,none⟩ (.slice bs9 l9.length cp9)).setCell ⟨w.heap.size,9,none⟩ (.int .i64 x6)) w.heap.size 29 #[.int .i64 x0,.int .i64 x1,.int .i64 x2,.int .i64 x3,.int .i64 x4,.int .i64 n,.slice bs7 l7.length cp7,.slice bs8 l8.length cp8,.slice bs9 l9.length cp9,.int .i64 x6,.bool false]:=P9.set 9 (.int .i64 x6);have F10:=au F9 (show w.heap.size+1≠w.heap.size by omega) (.int .i64 x6) 9;have Z10:=Z9.setCell (p:=⟨w.heap.size,9,none⟩) (Nat.le_refl _) (.int .i64 x6);have A7:=A7.keep (ae ((((((((((w5).setCell ⟨w.heap.size,0,none⟩ (.int .i64 x0)).setCell ⟨w.heap.size,1,none⟩ (.int .i64 x1)).setCell ⟨w.heap.size,2,none⟩ (.int .i64 x2)).setCell ⟨w.heap.size,3,none⟩ (.int .i64 x3)).setCell ⟨w.heap.size,4,none⟩ (.int .i64 x4)).setCell ⟨w.heap.size,5,none⟩ (.int .i64 n)).setCell ⟨w.heap.size,6,none⟩ (.slice bs7 l7.length cp7)).setCell ⟨w.heap.size,7,none⟩ (.slice bs8 l8.length cp8)).setCell ⟨w.heap.size,8,none⟩ (.slice bs9 l9.length cp9)) w.heap.size 9 (.int .i64 x6)) (λr e=>by cases e;omega);have A8:=A8.keep (ae ((((((((((w5).setCell ⟨w.heap.size,0,none⟩ (.int .i64 x0)).setCell ⟨w.heap.size,1,none⟩ (.int .i64 x1)).setCell ⟨w.heap.size,2,none⟩ (.int .i64 x2)).setCell ⟨w.heap.size,3,none⟩ (.int .i64 x3)).setCell ⟨w.heap.size,4,none⟩ (.int .i64 x4)).setCell ⟨w.heap.size,5,none⟩ (.int .i64 n)).setCell ⟨w.heap.size,6,none⟩ (.slice bs7 l7.length cp7)).setCell ⟨w.heap.size,7,none⟩ (.slice bs8 l8.length cp8)).setCell ⟨w.heap.size,8,none⟩ (.slice bs9 l9.length cp9)) w.heap.size 9 (.int .i64 x6)) (λr e=>by cases e;omega);have A9:=A9.keep (ae ((((((((((w5).setCell ⟨w.heap.size,0,none⟩ (.int .i64 x0)).setCell ⟨w.heap.size,1,none⟩ (.int .i64 x1)).setCell ⟨w.heap.size,2,none⟩ (.int .i64 x2)).setCell ⟨w.heap.size,3,none⟩ (.int .i64 x3)).setCell ⟨w.heap.size,4,none⟩ (.int .i64 x4)).setCell ⟨w.heap.size,5,none⟩ (.int .i64 n)).setCell ⟨w.heap.size,6,none⟩ (.slice bs7 l7.length cp7)).setCell ⟨w.heap.size,7,none⟩ (.slice bs8 l8.length cp8)).setCell ⟨w.heap.size,8,none⟩ (.slice bs9 l9.length cp9)) w.heap.size 9 (.int .i64 x6)) (λr e=>by cases e;omega);have o10:(((((((((((w5).setCell ⟨w.heap.size,0,none⟩ (.int .i64 x0)).setCell ⟨w.heap.size,1,none⟩ (.int .i64 x1)).setCell ⟨w.heap.size,2,none⟩ (.int .i64 x2)).setCell ⟨w.heap.size,3,none⟩ (.int .i64 x3)).setCell ⟨w.heap.size,4,none⟩ (.int .i64 x4)).setCell ⟨w.heap.size,5,none⟩ (.int .i64 n)).setCell ⟨w.heap.size,6,none⟩ (.slice bs7 l7.length cp7)).setCell ⟨w.heap.size,7,none⟩ (.slice bs8 l8.length cp8)).setCell ⟨w.heap.size,8,none⟩ (.slice bs9 l9.length cp9)).setCell ⟨w.heap.size,9,none⟩ (.int .i64 x6)).cell? ⟨w.heap.size,10,none⟩=some (.bool false):=P10.cell 10;have fo10:=P10.frozen 10;have P11:CellsAt ((((((((((((w5).setCell ⟨w.heap.size,0,none⟩ (.int .i64 x0)).setCell ⟨w.heap.size,1,none⟩ (.int .i64 x1)).setCell ⟨w.heap.size,2,none⟩ (.int .i64 x2)).setCell ⟨w.heap.size,3,none⟩ (.int .i64 x3)).setCell ⟨w.heap.size,4,none⟩ (.int .i64 x4)).setCell ⟨w.heap.size,5,none⟩ (.int .i64 n)).setCell ⟨w.heap.size,6,none⟩ (.slice bs7 l7.length cp7)).setCell ⟨w.heap.size,7,none⟩ (.slice bs8 l8.length cp8)).setCell ⟨w.heap.size,8,none⟩ (.slice bs9 l9.length cp9)).setCell ⟨w.heap.size,9,none⟩ (.int .i64 x6)).setCell ⟨w.heap.size,10,none⟩ (.bool x5)) w.heap.size 29 #[.int .i64 x0,.int .i64 x1,.int .i64 x2,.int .i64 x3,.int .i64 x4,.int .i64 n,.slice bs7 l7.length cp7,.slice bs8 l8.length cp8,.slice bs9 l9.length cp9,.int .i64 x6,.bool x5]:=P10.set 10 (.bool x5);have F11:=au F10 (show w.heap.size+1≠w.heap.size by omega) (.bool x5) 10;have Z11:=Z10.setCell (p:=⟨w.heap.size,10,none⟩) (Nat.le_refl _) (.bool x5);have A7:=A7.keep (ae (((((((((((w5).setCell ⟨w.heap.size,0,none⟩ (.int .i64 x0)).setCell ⟨w.heap.size,1,none⟩ (.int .i64 x1)).setCell ⟨w.heap.size,2,none⟩ (.int .i64 x2)).setCell ⟨w.heap.size,3,none⟩ (.int .i64 x3)).setCell ⟨w.heap.size,4,none⟩ (.int .i64 x4)).setCell ⟨w.heap.size,5,none⟩ (.int .i64 n)).setCell ⟨w.heap.size,6,none⟩ (.slice bs7 l7.length cp7)).setCell ⟨w.heap.size,7,none⟩ (.slice bs8 l8.length cp8)).setCell ⟨w.heap.size,8,none⟩ (.slice bs9 l9.length cp9)).setCell ⟨w.heap.size,9,none⟩ (.int .i64 x6)) w.heap.size 10 (.bool x5)) (λr e=>by cases e;omega);have A8:=A8.keep (ae (((((((((((w5).setCell ⟨w.heap.size,0,none⟩ (.int .i64 x0)).setCell ⟨w.heap.size,1,none⟩ (.int .i64 x1)).setCell ⟨w.heap.size,2,none⟩ (.int .i64 x2)).setCell ⟨w.heap.size,3,none⟩ (.int .i64 x3)).setCell ⟨w.heap.size,4,none⟩ (.int .i64 x4)).setCell ⟨w.heap.size,5,none⟩ (.int .i64 n)).setCell ⟨w.heap.size,6,none⟩ (.slice bs7 l7.length cp7)).setCell ⟨w.heap.size,7,none⟩ (.slice bs8 l8.length cp8)).setCell ⟨w.heap.size,8,none⟩ (.slice bs9 l9.length cp9)).setCell ⟨w.heap.size,9,none⟩ (.int .i64 x6)) w.heap.size 10 (.bool x5)) (λr e=>by cases e;omega);have A9:=A9.keep (ae (((((((((((w5).setCell ⟨w.heap.size,0,none⟩ (.int .i64 x0)).setCell ⟨w.heap.size,1,none⟩ (.int .i64 x1)).setCell ⟨w.heap.size,2,none⟩ (.int .i64 x2)).setCell ⟨w.heap.size,3,none⟩ (.int .i64 x3)).setCell ⟨w.heap.size,4,none⟩ (.int .i64 x4)).setCell ⟨w.heap.size,5,none⟩ (.int .i64 n)).setCell ⟨w.heap.size,6,none⟩ (.slice bs7 l7.length cp7)).setCell ⟨w.heap.size,7,none⟩ (.slice bs8 l8.length cp8)).setCell ⟨w.heap.size,8,none⟩ (.slice bs9 l9.length cp9)).setCell ⟨w.heap.size,9,none⟩ (.int .i64 x6)) w.heap.size 10 (.bool x5)) (λr e=>by cases e;omega);have kO5:Has w5 w.heap.size:=hOB5.lt;have kF5:Has w5 (w.heap.size+1):=hFB5.lt;have q10:((((((((((((w5).setCell ⟨w.heap.size,0,none⟩ (.int .i64 x0)).setCell ⟨w.heap.size,1,none⟩ (.int .i64 x1)).setCell ⟨w.heap.size,2,none⟩ (.int .i64 x2)).setCell ⟨w.heap.size,3,none⟩ (.int .i64 x3)).setCell ⟨w.heap.size,4,none⟩ (.int .i64 x4)).setCell ⟨w.heap.size,5,none⟩ (.int .i64 n)).setCell ⟨w.heap.size,6,none⟩ (.slice bs7 l7.length cp7)).setCell ⟨w.heap.size,7,none⟩ (.slice bs8 l8.length cp8)).setCell ⟨w.heap.size,8,none⟩ (.slice bs9 l9.length cp9)).setCell ⟨w.heap.size,9,none⟩ (.int .i64 x6)).setCell ⟨w.heap.size,10,none⟩ (.bool x5)).cell? ⟨w.heap.size+1,0,none⟩=some (.int .i64 0):=F11.cell 0;have fq0:=F11.frozen 0;have F12:CellsAt (((((((((((((w5).setCell ⟨w.heap.size,0,none⟩ (.int .i64 x0)).setCell ⟨w.heap.size,1,none⟩ (.int .i64 x1)).setCell ⟨w.heap.size,2,none⟩ (.int .i64 x2)).setCell ⟨w.heap.size,3,none⟩ (.int .i64 x3)).setCell ⟨w.heap.size,4,none⟩ (.int .i64 x4)).setCell ⟨w.heap.size,5,none⟩ (.int .i64 n)).setCell ⟨w.heap.size,6,none⟩ (.slice bs7 l7.length cp7)).setCell ⟨w.heap.size,7,none⟩ (.slice bs8 l8.length cp8)).setCell ⟨w.heap.size,8,none⟩ (.slice bs9 l9.length cp9)).setCell ⟨w.heap.size,9,none⟩ (.int .i64 x6)).setCell ⟨w.heap.size,10,none⟩ (.bool x5)).setCell ⟨w.heap.size+1,0,none⟩ (.int .i64 0)) (w.heap.size+1) 42 #[.int .i64 0,.int .i64 0]:=F11.set 0 (.int .i64 0);have P12:=au P11 (show w.heap.size≠w.heap.size+1 by omega) (.int .i64 0) 0;have Z12:=Z11.setCell (p:=⟨w.heap.size+1,0,none⟩) (Nat.le_succ _) (.int .i64 0);have A7:=A7.keep (ae ((((((((((((w5).setCell ⟨w.heap.size,0,none⟩ (.int .i64 x0)).setCell ⟨w.heap.size,1,none⟩ (.int .i64 x1)).setCell ⟨w.heap.size,2,none⟩ (.int .i64 x2)).setCell ⟨w.heap.size,3,none⟩ (.int .i64 x3)).setCell ⟨w.heap.size,4,none⟩ (.int .i64 x4)).setCell ⟨w.heap.size,5,none⟩ (.int .i64 n)).setCell ⟨w.heap.size,6,none⟩ (.slice bs7 l7.length cp7)).setCell ⟨w.heap.size,7,none⟩ (.slice bs8 l8.length cp8)).setCell ⟨w.heap.size,8,none⟩ (.slice bs9 l9.length cp9)).setCell ⟨w.heap.size,9,none⟩ (.int .i64 x6)).setCell ⟨w.heap.size,10,none⟩ (.bool x5)) (w.heap.size+1) 0 (.int .i64 0)) (λr e=>by cases e;omega);have A8:=A8.keep (ae ((((((((((((w5).setCell ⟨w.heap.size,0,none⟩ (.int .i64 x0)).setCell ⟨w.heap.size,1,none⟩ (.int .i64 x1)).setCell ⟨w.heap.size,2,none⟩ (.int .i64 x2)).setCell ⟨w.heap.size,3,none⟩ (.int .i64 x3)).setCell ⟨w.heap.size,4,none⟩ (.int .i64 x4)).setCell ⟨w.heap.size,5,none⟩ (.int .i64 n)).setCell ⟨w.heap.size,6,none⟩ (.slice bs7 l7.length cp7)).setCell ⟨w.heap.size,7,none⟩ (.slice bs8 l8.length cp8)).setCell ⟨w.heap.size,8,none⟩ (.slice bs9 l9.length cp9)).setCell ⟨w.heap.size,9,none⟩ (.int .i64 x6)).setCell ⟨w.heap.size,10,none⟩ (.bool x5)) (w.heap.size+1) 0 (.int .i64 0)) (λr e=>by cases e;omega);have A9:=A9.keep (ae ((((((((((((w5).setCell ⟨w.heap.size,0,none⟩ (.int .i64 x0)).setCell ⟨w.heap.size,1,none⟩ (.int .i64 x1)).setCell ⟨w.heap.size,2,none⟩ (.int .i64 x2)).setCell ⟨w.heap.size,3,none⟩ (.int .i64 x3)).setCell ⟨w.heap.size,4,none⟩ (.int .i64 x4)).setCell ⟨w.heap.size,5,none⟩ (.int .i64 n)).setCell ⟨w.heap.size,6,none⟩ (.slice bs7 l7.length cp7)).setCell ⟨w.heap.size,7,none⟩ (.slice bs8 l8.length cp8)).setCell ⟨w.heap.size,8,none⟩ (.slice bs9 l9.length cp9)).setCell ⟨w.heap.size,9,none⟩ (.int .i64 x6)).setCell ⟨w.heap.size,10,none⟩ (.bool x5)) (w.heap.size+1) 0 (.int .i64 0)) (λr e=>by cases e;omega);have q11:(((((((((((((w5).setCell ⟨w.heap.size,0,none⟩ (.int .i64 x0)).setCell ⟨w.heap.size,1,none⟩ (.int .i64 x1)).setCell ⟨w.heap.size,2,none⟩ (.int .i64 x2)).setCell ⟨w.heap.size,3,none⟩ (.int .i64 x3)).setCell ⟨w.heap.size,4,none⟩ (.int .i64 x4)).setCell ⟨w.heap.size,5,none⟩ (.int .i64 n)).setCell ⟨w.heap.size,6,none⟩ (.slice bs7 l7.length cp7)).setCell ⟨w.heap.size,7,none⟩ (.slice bs8 l8.length cp8)).setCell ⟨w.heap.size,8,none⟩ (.slice bs9 l9.length cp9)).setCell ⟨w.heap.size,9,none⟩ (.int .i64 x6)).setCell ⟨w.heap.size,10,none⟩ (.bool x5)).setCell ⟨w.heap.size+1,0,none⟩ (.int .i64 0)).cell? ⟨w.heap.size+1,1,none⟩=some (.int .i64 0):=F12.cell 1;have fq1:=F12.frozen 1;have F13:CellsAt ((((((((((((((w5).setCell ⟨w.heap.size,0,none⟩ (.int .i64 x0)).setCell ⟨w.heap.size,1,none⟩ (.int .i64 x1)).setCell ⟨w.heap.size,2,none⟩ (.int .i64 x2)).setCell ⟨w.heap.size,3,none⟩ (.int .i64 x3)).setCell ⟨w.heap.size,4,none⟩ (.int .i64 x4)).setCell ⟨w.heap.size,5,none⟩ (.int .i64 n)).setCell ⟨w.heap.size,6,none⟩ (.slice bs7 l7.length cp7)).setCell ⟨w.heap.size,7,none⟩ (.slice bs8 l8.length cp8)).setCell ⟨w.heap.size,8,none⟩ (.slice bs9 l9.length cp9)).setCell ⟨w.heap.size,9,none⟩ (.int .i64 x6)).setCell ⟨w.heap.size,10,none⟩ (.bool x5)).setCell ⟨w.heap.size+1,0,none⟩ (.int .i64 0)).setCell ⟨w.heap.size+1,1,none⟩ (.int .i64 0)) (w.heap.size+1) 42 #[.int .i64 0,.int .i64 0]:=F12.set 1 (.int .i64 0);have P13:=au P12 (show w.heap.size≠w.heap.size+1 by omega) (.int .i64 0) 1;have Z13:=Z12.setCell (p:=⟨w.heap.size+1,1,none⟩) (Nat.le_succ _) (.int .i64 0);have A7:=A7.keep (ae (((((((((((((w5).setCell ⟨w.heap.size,0,none⟩ (.int .i64 x0)).setCell ⟨w.heap.size,1,none⟩ (.int .i64 x1)).setCell ⟨w.heap.size,2,none⟩ (.int .i64 x2)).setCell ⟨w.heap.size,3,none⟩ (.int .i64 x3)).setCell ⟨w.heap.size,4,none⟩ (.int .i64 x4)).setCell ⟨w.heap.size,5,none⟩ (.int .i64 n)).setCell ⟨w.heap.size,6,none⟩ (.slice bs7 l7.length cp7)).setCell ⟨w.heap.size,7,none⟩ (.slice bs8 l8.length cp8)).setCell ⟨w.heap.size,8,none⟩ (.slice bs9 l9.length cp9)).setCell ⟨w.heap.size,9,none⟩ (.int .i64 x6)).setCell ⟨w.heap.size,10,none⟩ (.bool x5)).setCell ⟨w.heap.size+1,0,none⟩ (.int .i64 0)) (w.heap.size+1) 1 (.int .i64 0)) (λr e=>by cases e;omega);have A8:=A8.keep (ae (((((((((((((w5).setCell ⟨w.heap.size,0,none⟩ (.int .i64 x0)).setCell ⟨w.heap.size,1,none⟩ (.int .i64 x1)).setCell ⟨w.heap.size,2,none⟩ (.int .i64 x2)).setCell ⟨w.heap.size,3,none⟩ (.int .i64 x3)).setCell ⟨w.heap.size,4,none⟩ (.int .i64 x4)).setCell ⟨w.heap.size,5,none⟩ (.int .i64 n)).setCell ⟨w.heap.size,6,none⟩ (.slice bs7 l7.length cp7)).setCell ⟨w.heap.size,7,none⟩ (.slice bs8 l8.length cp8)).setCell ⟨w.heap.size,8,none⟩ (.slice bs9 l9.length cp9)).setCell ⟨w.heap.size,9,none⟩ (.int .i64 x6)).setCell ⟨w.heap.size,10,none⟩ (.bool x5)).setCell ⟨w.heap.size+1,0,none⟩ (.int .i64 0)) (w.heap.size+1) 1 (.int .i64 0)) (λr e=>by cases e;omega);have A9:=A9.keep (ae (((((((((((((w5).setCell ⟨w.heap.size,0,none⟩ (.int .i64 x0)).setCell ⟨w.heap.size,1,none⟩ (.int .i64 x1)).setCell ⟨w.heap.size,2,none⟩ (.int .i64 x2)).setCell ⟨w.heap.size,3,none⟩ (.int .i64 x3)).setCell ⟨w.heap.size,4,none⟩ (.int .i64 x4)).setCell ⟨w.heap.size,5,none⟩ (.int .i64 n)).setCell ⟨w.heap.size,6,none⟩ (.slice bs7 l7.length cp7)).setCell ⟨w.heap.size,7,none⟩ (.slice bs8 l8.length cp8)).setCell ⟨w.heap.size,8,none⟩ (.slice bs9 l9.length cp9)).setCell ⟨w.heap.size,9,none⟩ (.int .i64 x6)).setCell ⟨w.heap.size,10,none⟩ (.bool x5)).setCell ⟨w.heap.size+1,0,none⟩ (.int .i64 0)) (w.heap.size+1) 1 (.int .i64 0)) (λr e=>by cases e;omega);have X:=Lib.hid (And.intro P13 (And.intro F13 (And.intro (A7.mono B2.size) (And.intro (A8.mono B2.size) (And.intro (A9.mono B2.size) Z13)))));clear P0 P1 P2 P3 P4 P5 P6 P7 P8 P9 P10 P11 P12 P13 F0 F1 F2 F3 F4 F5 F6 F7 F8 F9 F10 F11 F12 F13 Z0 Z1 Z2 Z3 Z4 Z5 Z6 Z7 Z8 Z9 Z10 Z11 Z12 Z13 V hB5 BW hOB5 hFB5 hY5 HA HE hR4 hOB4 hFB4 hXB4 B4 hY4 BU hmf A7 A8 A9 B5;have he:=he.out;clear HO;subst he
   go_wp2_with fail
   refine leaves_cons (f:=39) (args:=#[.pointer (some ⟨w.heap.size+1,0,none⟩)]) (by simp) (by simp [go_sem]) ?_;refine(wF (w.heap.size+1) _).mono ?_;rintro x u' w6 ⟨rfl,rfl,rfl⟩;generalize (((((((((((((w5).setCell ⟨w.heap.size,0,none⟩ (.int .i64 x0)).setCell ⟨w.heap.size,1,none⟩ (.int .i64 x1)).setCell ⟨w.heap.size,2,none⟩ (.int .i64 x2)).setCell ⟨w.heap.size,3,none⟩ (.int .i64 x3)).setCell ⟨w.heap.size,4,none⟩ (.int .i64 x4)).setCell ⟨w.heap.size,5,none⟩ (.int .i64 n)).setCell ⟨w.heap.size,6,none⟩ (.slice bs7 l7.length cp7)).setCell ⟨w.heap.size,7,none⟩ (.slice bs8 l8.length cp8)).setCell ⟨w.heap.size,8,none⟩ (.slice bs9 l9.length cp9)).setCell ⟨w.heap.size,9,none⟩ (.int .i64 x6)).setCell ⟨w.heap.size,10,none⟩ (.bool x5)).setCell ⟨w.heap.size+1,0,none⟩ (.int .i64 0)).setCell ⟨w.heap.size+1,1,none⟩ (.int .i64 0)=WF at X ⊢;refine⟨_,eW rfl _ _ w.heap.size (w.heap.size+1) 29 42 _ _ _ _ _ _ rfl X.out.1 rfl X.out.2.1 Try.underlying29 rfl (by kernel_rfl) Try.underlying42 rfl (by kernel_rfl),?_,X.out.2.2.2.2.2⟩;exact⟨_,_,_,rfl,X.out.2.2.1,X.out.2.2.2.1,X.out.2.2.2.2.1⟩
  .have HE:=Lib.hid (λ(U:World) (hU:Below W4.heap.size W4 U)=>zu R _ m m q 0 U (hR4.below hU) false (by simp [hq]));have he:Hid (O= .error (4,(q:Int))):=Lib.hid (by rw [HO.out];unfold dm;rw [q1];dsimp only;rw [if_neg hq]);refine fD 8 (by kernel_rfl) (by kernel_rfl) ?_;simp only [List.take_succ_cons,List.take_zero,List.drop_succ_cons,List.drop_zero]
   repeat (go_big_quiet_step (first
    |(go_at_call 43;exact Calls.regrown_of (HE.out _ (by repeat (first|with_reducible refine blg ?_ _ _|with_reducible refine bla ?_ _|with_reducible exact Below.refl _ _))))
    |(go_at_call 44;exact Calls.regrown_of (HA.out _ (by repeat (first|with_reducible refine blg ?_ _ _|with_reducible refine bla ?_ _|with_reducible exact Below.refl _ _))))))
   refine wpQuiet_nil ?_;rintro _ ⟨⟨d3,o3⟩,rfl⟩;have BU:=below_regrown W4 d3 o3;generalize grow (redrawn W4 d3) o3=U at BU ⊢;have V:=Lib.hid (jM R _ q 0 4 q U (hR4.below BU) (by decide))
   go_wp2_with fail
   refine V.out.mono ?_;rintro x w5 ⟨rfl,hg5⟩;have hFB5:=aW (hFB4.below BU) hg5 (by omega);have hOB5:=aW (hOB4.below BU) hg5 (by omega);have B5:Below w.heap.size w w5:=(B4.trans (BU.mono B4.size)).trans (bh hg5 (B4.trans (BU.mono B4.size)).size (by omega));refine leaves_cons (f:=39) (args:=#[.pointer (some ⟨w.heap.size+1,0,none⟩)]) (by simp) (by simp [go_sem]) ?_;refine(kv (w.heap.size+1) 0 0 4 q [] w5 hFB5).mono ?_;rintro x u' w6 ⟨rfl,rfl,hF6,hg6⟩;have hO6:=hOB5.grown hg6 (by simp);refine⟨_,eW rfl _ _ w.heap.size (w.heap.size+1) 29 42 _ _ _ _ _ _ rfl hO6 rfl hF6 Try.underlying29 rfl (by kernel_rfl) Try.underlying42 rfl (by kernel_rfl),?_,B5.trans (bh hg6 B5.size (by omega))⟩;rw [he.out]
end
noncomputable section
open Go.RowKit Go.Sort
namespace Sm
namespace Fd
open Ev
abbrev By:K.Ty:= .S (.I .u8)
abbrev Vt:K.Ty:= .C (.I .i64) (.S (.C (.I .i64) (.I .i64)))
abbrev St:K.Ty:= .C (.I .i64) (.C (.I .i64) (.I .u64))
abbrev Tt:K.Ty:= .C (.I .i64) (.C (.I .i64) (.I .i64))
abbrev Ft:K.Ty:= .C (.I .i64) (.C (.I .i64) (.C (.I .i64) (.C (.I .i64) (.C (.I .i64) (.C Vt (.C (.S St) (.C (.S Tt) (.C (.I .i64) .B))))))))
abbrev Er:K.Ty:= .C (.I .i64) (.I .i64)
abbrev ins:List K.TyD:= [(false,By)]
abbrev outs:List K.TyD:= [(true,Ft),(true,Er)]
def okY(x:Sl Int):Bool:=decide (x.l.length<=100000)&&((x.l.all λe=>decide (0<=e)&& decide (e<=255))&&(decide (x.sz=1)||x.l.isEmpty))
def gf(x:Sl Int):Nat->Int:=λi=>x.l.getD i 0
def liS{α:Type}(k:Nat)(l:List α):Sl α:=⟨!l.isEmpty,k,l⟩
abbrev FrS:=Int×Int×Int×Int×Int×(Int×Sl (Int×Int))×Sl (Int×Int×Int)×Sl (Int×Int×Int)×Int×Bool
def frS(y:Fr):FrS:=(y.1,y.2.1,y.2.2.1,y.2.2.2.1,y.2.2.2.2.1,(y.2.2.2.2.2.1.1,liS 2 y.2.2.2.2.2.1.2),liS 3 y.2.2.2.2.2.2.1,liS 3 y.2.2.2.2.2.2.2.1,y.2.2.2.2.2.2.2.2.1,y.2.2.2.2.2.2.2.2.2)
def zero:FrS:=(0,0,0,0,0,(0,⟨false,0,[]⟩),⟨false,0,[]⟩,⟨false,0,[]⟩,0,false)
def fn(x:Sl Int):Option (FrS×(Int×Int)):=
 if okY x=true then
  match dm (gf x) x.l.length with
  | .error er=>some (zero,er)
  | .ok y=>some (frS y,(0,0))
 else none
theorem Fp{w:World}{F:Nat->Prop}{x:Sl Int}{y:Value}(hx:okY x=true)(h:RepT w F (Sl.t (K.Ty.row (.I .u8)) x) y):∃a c,y= .slice a x.l.length c/\Rd8 w a x.l.length (gf x)/\x.l.length<=c/\x.nn=a.isSome/\(a=none->c=0):=by
 obtain⟨nn,sz,l⟩:=x;simp only [okY,Bool.and_eq_true,Bool.or_eq_true,decide_eq_true_eq,List.isEmpty_iff,List.all_eq_true]at hx;unfold Sl.t at h
 cases h with
 |s _ _ _ a c ys hn hc h0 hl hm hr=>
  rw [List.length_map]at hc ⊢;refine⟨a,c,rfl,?_,hc,hn,h0⟩;intro i hi
  have hsz:sz=1:=by
   rcases hx.2.2 with h|h
   .exact h
   .rw [h]at hi;simp at hi
  subst hsz;have hil:(l.map (K.Ty.row (.I .u8)))[i]? =some (K.Ty.row (.I .u8) l[i]):=by simp [hi]
  have he:gf ⟨nn,1,l⟩ i=l[i]:=by simp [gf,List.getD_eq_getElem?_getD,hi]
  rw [he];obtain⟨b,h1,h2,_,h3⟩:=hm i _ 0 (.v (.int .u8 l[i])) hil rfl;have h4:=hr i _ 0 (.v (.int .u8 l[i])) hil rfl;rw [Nat.mul_one,Nat.add_zero]at h3;generalize ys i 0=y at h3 h4
  cases h4 with
  |v z hz=>
   have hb:=hx.2.1 l[i] (List.getElem_mem _);exact⟨b,h1,h2,h3,hb⟩
theorem Fq{x:Sl Int}(h:okY x=true):x.l.length<=100000:=by
 simp only [okY,Bool.and_eq_true,Bool.or_eq_true,decide_eq_true_eq,List.isEmpty_iff,List.all_eq_true]at h;exact h.1
theorem zw{α:Type}{cs:α->List Value}{k:Nat}(hk:∀x,(cs x).length=k):∀(l:List α) (i j:Nat) (hi:i<l.length),j<k->(l.flatMap cs)[i*k+j]? =(cs l[i])[j]?
 | [],i,j,hi,_=>by simp at hi
 |x::l,0,j,hi,hj=>by
  rw [List.flatMap_cons,Nat.zero_mul,Nat.zero_add,List.getElem?_append_left (by rw [hk];exact hj)];rfl
 |x::l,i+1,j,hi,hj=>by
  rw [List.flatMap_cons,List.getElem?_append_right (by rw [hk,Nat.succ_mul];omega),hk,show(i+1)*k+j - k=i*k+j by rw [Nat.succ_mul];omega];exact zw hk l i j (by simpa using hi) hj
theorem pM{α:Type}{w:World}{base:Nat}{e:TypeId}{F:Nat->Prop}{v:Value}{cs:α->List Value}{k:Nat}{l:List α}(hk:∀x,(cs x).length=k)(h1:∀x,∀u∈cs x,u.oneCell'=true)(h:OwnL w base e k v l.length (l.flatMap cs))(hF:∀b,F b->b<base):
  RepT w F (.s (!l.isEmpty) k (l.map λx=>(cs x).map T.v)) v:=by
 obtain⟨⟨b,hb,h⟩,hnil⟩:=h;rcases h.2 with⟨rfl,h0⟩|⟨g,cap,cur,rfl,hbg,hg,hcap,_⟩
 .obtain rfl:l= []:=List.length_eq_zero_iff.1 h0;exact .s false k [] none 0 (λ_ _=> .nilFunc) rfl (Nat.le_refl _) (λ_=>rfl) (λi e h=>by simp at h) (λi e j t h=>by simp at h) λi e j t h=>by simp at h
 .have hne:l≠[]:=λh0=>by
   have:=hnil (by rw [h0];rfl)
   cases this
  have hlt:g<w.heap.size:=(Array.getElem?_eq_some_iff.1 hg).1
  have hget:∀(i:Nat) es,(l.map λx=>(cs x).map T.v)[i]? =some es->∃hi:i<l.length,es=(cs l[i]).map T.v:=λi es hi=>by
   rw [List.getElem?_map,Option.map_eq_some_iff]at hi;obtain⟨x,hx,rfl⟩:=hi;obtain⟨hi,rfl⟩:=List.getElem?_eq_some_iff.1 hx;exact⟨hi,rfl⟩
  have key:∀(i:Nat) es (j:Nat) t,(l.map λx=>(cs x).map T.v)[i]? =some es->es[j]? =some t->∃u,t= .v u/\u.oneCell'=true/\(l.flatMap cs)[i*k+j]? =some u:=λi es j t hi hj=>by
   obtain⟨hil,rfl⟩:=hget i es hi;rw [List.getElem?_map,Option.map_eq_some_iff]at hj;obtain⟨u,hu,rfl⟩:=hj;have hjk:j<k:=by rw [<-hk l[i]];exact(List.getElem?_eq_some_iff.1 hu).1
   exact⟨u,rfl,h1 _ u (List.mem_of_getElem? hu),by rw [zw hk l i j hil hjk];exact hu⟩
  have hs:=RepT.s (w:=w) (F:=F) true k (l.map λx=>(cs x).map T.v) (some ⟨g,0,none⟩) cap (λi j=>(l.flatMap cs).getD (i*k+j) .nilFunc) rfl (by rw [List.length_map];exact hcap) (λh=>by cases h)
   (λi es hi=>by obtain⟨hil,rfl⟩:=hget i es hi;rw [List.length_map,hk])
   (λi es j t hi hj=>by
    obtain⟨u,rfl,hu1,hu2⟩:=key i es j t hi hj;refine⟨⟨g,0,none⟩,rfl,hlt,λhf=>by have:=hF g hf;omega,?_⟩;have hlen:=(List.getElem?_eq_some_iff.1 hu2).1
    have:=h.cellAt (i*k+j) (by have:=h.1;omega)
    rw [List.getD_eq_getElem?_getD,hu2];rw [hu2]at this;rw [show((⟨g,0,none⟩:Addr).add (i*k+j))=⟨g,i*k+j,none⟩by unfold Addr.add;split<;>simp_all]
    simpa using this)
   (λi es j t hi hj=>by
    obtain⟨u,rfl,hu1,hu2⟩:=key i es j t hi hj;rw [List.getD_eq_getElem?_getD,hu2]
    exact .v u hu1)
  rw [List.length_map]at hs;rw [show(!l.isEmpty)=true by cases l with|nil=>exact absurd rfl hne|cons=>rfl];exact hs
theorem pN{w:World}{F:Nat->Prop}{k:Nat}:RepT w F (.s false k []) (.slice none 0 0):=
 .s false k [] none 0 (λ_ _=> .nilFunc) rfl (Nat.le_refl _) (λ_=>rfl) (λi e h=>by simp at h) (λi e j t h=>by simp at h) λi e j t h=>by simp at h
theorem tf{w:World}{F:Nat->Prop}(e1 e2:Int):RepTD w F (.agg (Er.row (e1,e2))) (.agg #[.int .i64 e1,.int .i64 e2]):=by
 refine .agg _ [.int .i64 e1,.int .i64 e2] ⟨rfl,λi t hi=> ?_⟩;have hi2:i<2:=(List.getElem?_eq_some_iff.1 hi).1;rcases(show i=0∨i=1 by omega)with rfl|rfl
 .cases hi;exact⟨_,rfl,.v _ rfl⟩
 .cases hi;exact⟨_,rfl,.v _ rfl⟩
theorem tj{w:World}{F:Nat->Prop}(x0 x1 x2 x3 x4 n x6:Int)(x5:Bool)(s7:Sl (Int×Int))(s8 s9:Sl (Int×Int×Int)){v1 v2 v3:Value}(h1:RepT w F (Sl.t (K.Ty.row (.C (.I .i64) (.I .i64))) s7) v1)(h2:RepT w F (Sl.t St.row s8) v2)(h3:RepT w F (Sl.t Tt.row s9) v3):
  RepTD w F (.agg (Ft.row (x0,x1,x2,x3,x4,(n,s7),s8,s9,x6,x5))) (.agg #[.int .i64 x0,.int .i64 x1,.int .i64 x2,.int .i64 x3,.int .i64 x4,.int .i64 n,v1,v2,v3,.int .i64 x6,.bool x5]):=by
 refine .agg _ [.int .i64 x0,.int .i64 x1,.int .i64 x2,.int .i64 x3,.int .i64 x4,.int .i64 n,v1,v2,v3,.int .i64 x6,.bool x5] ⟨rfl,λi t hi=> ?_⟩;have hi2:i<11:=(List.getElem?_eq_some_iff.1 hi).1;rcases(show i=0∨i=1∨i=2∨i=3∨i=4∨i=5∨i=6∨i=7∨i=8∨i=9∨i=10 by omega)with rfl|rfl|rfl|rfl|rfl|rfl|rfl|rfl|rfl|rfl|rfl
 .cases hi;exact⟨_,rfl,.v _ rfl⟩
 .cases hi;exact⟨_,rfl,.v _ rfl⟩
 .cases hi;exact⟨_,rfl,.v _ rfl⟩
 .cases hi;exact⟨_,rfl,.v _ rfl⟩
 .cases hi;exact⟨_,rfl,.v _ rfl⟩
 .cases hi;exact⟨_,rfl,.v _ rfl⟩
 .cases hi;exact⟨_,rfl,h1⟩
 .cases hi;exact⟨_,rfl,h2⟩
 .cases hi;exact⟨_,rfl,h3⟩
 .cases hi;exact⟨_,rfl,.v _ rfl⟩
 .cases hi;exact⟨_,rfl,.v _ rfl⟩
theorem zx{w:World}{F:Nat->Prop}{t1 t2:TD}{y1 y2:Value}(h1:RepTD w F t1 y1)(h2:RepTD w F t2 y2):lf w F [t1,t2] (.tuple #[y1,y2]):=by
 refine⟨[y1,y2],rfl,rfl,λi t hi=> ?_⟩;have hi2:i<2:=(List.getElem?_eq_some_iff.1 hi).1;rcases(show i=0∨i=1 by omega)with rfl|rfl
 .cases hi;exact⟨_,rfl,h1⟩
 .cases hi;exact⟨_,rfl,h2⟩
theorem pure_ok(a:K.bE ins)(o:K.bE outs)(h:fn a=some o):fY Try.prog 16 (K.cU ins a) .fresh (K.cU outs o):=by
 obtain⟨x,rfl⟩:∃x:Sl Int,x=a:=⟨_,rfl⟩;unfold fn at h;rw [Option.ite_none_right_eq_some]at h;obtain⟨hx,h⟩:=h;intro w F ys hL hF hr;obtain⟨hlen,hi⟩:=hr
 match ys,hlen with
 | [y0],_=>
  obtain⟨z,e1,e2⟩:=hi 0 _ rfl;simp only [List.getElem?_cons_zero,zsI]at e1;subst e1
  have r1:RepT w F (Sl.t (K.Ty.row (.I .u8)) x) y0:=by cases e2 with|one t y h=>exact h
  obtain⟨a1,c1,rfl,g1,g2,_⟩:=Fp hx r1;refine(yd a1 x.l.length c1 (gf x) w g1 g2 (Fq hx)).mono λe w' h2=> ?_;obtain⟨hT,hB⟩:=h2
  cases hd:dm (gf x) x.l.length with
  |ok y=>
   rw [hd]at h hT;cases h;obtain⟨v1,v2,v3,rfl,A7,A8,A9⟩:=hT;refine⟨_,rfl,zx (tj _ _ _ _ _ _ _ _ (liS 2 y.2.2.2.2.2.1.2) (liS 3 y.2.2.2.2.2.2.1) (liS 3 y.2.2.2.2.2.2.2.1) ?_ ?_ ?_) (tf 0 0),λhk=>(by cases hk),hB⟩
   .exact pM (cs:=λe:Int×Int=> [.int .i64 e.1,.int .i64 e.2]) (λ_=>rfl) (λ_ u hu=>by simp only [List.mem_cons,List.not_mem_nil,or_false]at hu;rcases hu with rfl|rfl<;>rfl) A7 (λb hb=>hb.1)
   .exact pM (cs:=λe:Int×Int×Int=> [.int .i64 e.1,.int .i64 e.2.1,.int .u64 e.2.2]) (λ_=>rfl) (λ_ u hu=>by simp only [List.mem_cons,List.not_mem_nil,or_false]at hu;rcases hu with rfl|rfl|rfl<;>rfl) A8 (λb hb=>hb.1)
   .exact pM (cs:=λe:Int×Int×Int=> [.int .i64 e.1,.int .i64 e.2.1,.int .i64 e.2.2]) (λ_=>rfl) (λ_ u hu=>by simp only [List.mem_cons,List.not_mem_nil,or_false]at hu;rcases hu with rfl|rfl|rfl<;>rfl) A9 (λb hb=>hb.1)
  |error er=>
   rw [hd]at h hT;cases h;obtain rfl:=hT;exact⟨_,rfl,zx (tj _ _ _ _ _ _ _ _ ⟨false,0,[]⟩ ⟨false,0,[]⟩ ⟨false,0,[]⟩ pN pN pN) (tf er.1 er.2),λhk=>(by cases hk),hB⟩
theorem enters:Ev.Enters Try.prog 16:=⟨_,_,Try.func16,by kernel_rfl,by unfold Try.f16;rfl⟩
end Fd
end Sm
end
noncomputable section
open Go.RowKit Go.Sort
def bt(n:Int)(i:Nat):Int:=n / 2 ^(8*i)% 256
theorem bt8{n:Int}(hn:0<=n/\n<256){i:Nat}(h:i<1):n / 2 ^(8*i)=bt n i:=by
 obtain rfl:i=0:=by omega
 unfold bt;simp;omega
set_option maxRecDepth 100000 in
set_option maxHeartbeats 2000000 in
theorem AZ(n:Int)(hn:0<=n/\n<256)(w:World):
  Calls Try.prog 55 #[.int .u8 n,.int .i64 1] w λe w'=>∃g,e= .returned (.slice (some ⟨g,0,none⟩) 1 1)/\w.heap.size<=g/\CellsAt w' g 5 (bi (bt n) 1).toArray/\Below w.heap.size w w':=by
 obtain⟨i0,hi0,hz0,hz1,hz2⟩:=info_parts mv;have hmk:=run_makeSlice (P:=Try.prog) w 31 5 i0 (.int .u8 0) Try.underlying31 hi0 hz0 .i64 .i64 1 1 (by omega) (by omega) (by rw [hz1];simp) (by rw [hz2];omega) (by omega);simp only [hz1,Nat.mul_one]at hmk;have hsz:(madeCells (Value.int .u8 0).cells (Int.toNat 1)).size=1:=size_madeCells _ _;generalize madeCells (Value.int .u8 0).cells (Int.toNat 1)=cur at hmk hsz;have hcur:CellsAt (w.alloc (.cells cur 5)) w.heap.size 5 cur:=World.alloc_heap_new w _;have hb1:Below w.heap.size w (w.alloc (.cells cur 5)):=bl1 _ _
 go_enter Try.func55,Try.ntmps55
 have h0:∀j:Nat,j<0->cur[j]? =some (.int .u8 (bt n j)):=λj hj=>absurd hj (Nat.not_lt_zero _);clear hi0 hz0 hz1 hz2
 go_wp2_with fail
 obtain⟨g,hg⟩:∃g,g=w.heap.size:=⟨_,rfl⟩;simp only [<-hg]at hcur hb1 ⊢;generalize w.alloc (.cells cur 5)=V at hcur hb1 ⊢;clear hmk;have HG:=Lib.hid hg;clear hg
 go_loopw [11,6] (λz y wr=>∃(i:Nat) (cur':Array Value),z= .int .i64 i/\i<=1/\CellsAt wr g 5 cur'/\cur'.size=1/\(∀j:Nat,j<i->cur'[j]? =some (.int .u8 (bt n j)))/\Below g w wr) (λz _ _=>1 - (intOf z).toNat)
 case atStart=>exact⟨0,cur,rfl,by omega,hcur,hsz,h0,hb1⟩
 case round=>
  clear hcur hb1 h0 hsz;obtain⟨i,cur',rfl,hi,hC,hs,hj,hB⟩:=hrel;by_cases hlt:i<1
  .have i0:(0:Int)<=(i:Int):=by omega
   have i4:(i:Int)<1:=by omega
   have hh:cur'[i]? =some cur'[i]:=Array.getElem?_eq_getElem (by omega);have hc0:=hC.cell i;rw [hh]at hc0;generalize cur'[i]=old at hc0;have hf0:=hC.frozen i;have hH:Has wr g:=hC.lt
   go_wp2_with fail
   rw [bt8 hn hlt];refine⟨?_,by simp [intOf];omega⟩;refine⟨i+1,cur'.setIfInBounds i (.int .u8 (bt n i)),by simp,by omega,hC.set i _,by simp [hs],?_,hB.trans (bh (ae wr g i _) (Nat.le_of_lt hC.lt) (Nat.le_refl _))⟩;intro j hj';by_cases e:j=i
   .subst e;rw [Array.getElem?_setIfInBounds_self_of_lt (by omega)]
   .rw [Array.getElem?_setIfInBounds_ne (Ne.symm e)];exact hj j (by omega)
  .obtain rfl:i=1:=by omega
   go_wp2
   go_ret
   refine⟨g,rfl,Nat.le_of_eq HG.out.symm,?_,by rw [<-HG.out];exact hB⟩;rw [show(bi (bt n) 1).toArray=cur' from ?_]
   .exact hC
   .refine Array.ext_getElem? (λj=> ?_);by_cases h:j<1
    .rw [hj j h];simpa using ij (bt n) 1 j h
    .have e1:cur'[j]? =none:=Array.getElem?_eq_none (by omega);have e2:(bi (bt n) 1).toArray[j]? =none:=Array.getElem?_eq_none (by simp [bi];omega);rw [e1,e2]
set_option maxRecDepth 100000 in
set_option maxHeartbeats 2000000 in
theorem ye(n:Int)(hn:0<=n/\n<4294967296)(w:World):
  Calls Try.prog 77 #[.int .u32 n,.int .i64 4] w λe w'=>∃g,e= .returned (.slice (some ⟨g,0,none⟩) 4 4)/\w.heap.size<=g/\CellsAt w' g 5 (bi (bt n) 4).toArray/\Below w.heap.size w w':=by
 obtain⟨i0,hi0,hz0,hz1,hz2⟩:=info_parts mv;have hmk:=run_makeSlice (P:=Try.prog) w 31 5 i0 (.int .u8 0) Try.underlying31 hi0 hz0 .i64 .i64 4 4 (by omega) (by omega) (by rw [hz1];simp) (by rw [hz2];omega) (by omega);simp only [hz1,Nat.mul_one]at hmk;have hsz:(madeCells (Value.int .u8 0).cells (Int.toNat 4)).size=4:=size_madeCells _ _;generalize madeCells (Value.int .u8 0).cells (Int.toNat 4)=cur at hmk hsz;have hcur:CellsAt (w.alloc (.cells cur 5)) w.heap.size 5 cur:=World.alloc_heap_new w _;have hb1:Below w.heap.size w (w.alloc (.cells cur 5)):=bl1 _ _
 go_enter Try.func77,Try.ntmps77
 have h0:∀j:Nat,j<0->cur[j]? =some (.int .u8 (bt n j)):=λj hj=>absurd hj (Nat.not_lt_zero _);clear hi0 hz0 hz1 hz2
 go_wp2_with fail
 obtain⟨g,hg⟩:∃g,g=w.heap.size:=⟨_,rfl⟩;simp only [<-hg]at hcur hb1 ⊢;generalize w.alloc (.cells cur 5)=V at hcur hb1 ⊢;clear hmk;have HG:=Lib.hid hg;clear hg
 go_loopw [11,6] (λz y wr=>∃(i:Nat) (cur':Array Value),z= .int .i64 i/\i<=4/\CellsAt wr g 5 cur'/\cur'.size=4/\(∀j:Nat,j<i->cur'[j]? =some (.int .u8 (bt n j)))/\Below g w wr) (λz _ _=>4 - (intOf z).toNat)
 case atStart=>exact⟨0,cur,rfl,by omega,hcur,hsz,h0,hb1⟩
 case round=>
  clear hcur hb1 h0 hsz;obtain⟨i,cur',rfl,hi,hC,hs,hj,hB⟩:=hrel;by_cases hlt:i<4
  .have i0:(0:Int)<=(i:Int):=by omega
   have i4:(i:Int)<4:=by omega
   have hh:cur'[i]? =some cur'[i]:=Array.getElem?_eq_getElem (by omega);have hc0:=hC.cell i;rw [hh]at hc0;generalize cur'[i]=old at hc0;have hf0:=hC.frozen i;have hH:Has wr g:=hC.lt
   go_wp2_with fail
   refine⟨?_,by simp [intOf];omega⟩;refine⟨i+1,cur'.setIfInBounds i (.int .u8 (bt n i)),by simp,by omega,hC.set i _,by simp [hs],?_,hB.trans (bh (ae wr g i _) (Nat.le_of_lt hC.lt) (Nat.le_refl _))⟩;intro j hj';by_cases e:j=i
   .subst e;rw [Array.getElem?_setIfInBounds_self_of_lt (by omega)]
   .rw [Array.getElem?_setIfInBounds_ne (Ne.symm e)];exact hj j (by omega)
  .obtain rfl:i=4:=by omega
   go_wp2
   go_ret
   refine⟨g,rfl,Nat.le_of_eq HG.out.symm,?_,by rw [<-HG.out];exact hB⟩;rw [show(bi (bt n) 4).toArray=cur' from ?_]
   .exact hC
   .refine Array.ext_getElem? (λj=> ?_);by_cases h:j<4
    .rw [hj j h];simpa using ij (bt n) 4 j h
    .have e1:cur'[j]? =none:=Array.getElem?_eq_none (by omega);have e2:(bi (bt n) 4).toArray[j]? =none:=Array.getElem?_eq_none (by simp [bi];omega);rw [e1,e2]
set_option maxRecDepth 100000 in
set_option maxHeartbeats 2000000 in
theorem yf(n:Int)(hn: -9223372036854775808<=n/\n<9223372036854775808)(w:World):
  Calls Try.prog 57 #[.int .i64 n,.int .i64 8] w λe w'=>∃g,e= .returned (.slice (some ⟨g,0,none⟩) 8 8)/\w.heap.size<=g/\CellsAt w' g 5 (bi (bt n) 8).toArray/\Below w.heap.size w w':=by
 obtain⟨i0,hi0,hz0,hz1,hz2⟩:=info_parts mv;have hmk:=run_makeSlice (P:=Try.prog) w 31 5 i0 (.int .u8 0) Try.underlying31 hi0 hz0 .i64 .i64 8 8 (by omega) (by omega) (by rw [hz1];simp) (by rw [hz2];omega) (by omega);simp only [hz1,Nat.mul_one]at hmk;have hsz:(madeCells (Value.int .u8 0).cells (Int.toNat 8)).size=8:=size_madeCells _ _;generalize madeCells (Value.int .u8 0).cells (Int.toNat 8)=cur at hmk hsz;have hcur:CellsAt (w.alloc (.cells cur 5)) w.heap.size 5 cur:=World.alloc_heap_new w _;have hb1:Below w.heap.size w (w.alloc (.cells cur 5)):=bl1 _ _
 go_enter Try.func57,Try.ntmps57
 have h0:∀j:Nat,j<0->cur[j]? =some (.int .u8 (bt n j)):=λj hj=>absurd hj (Nat.not_lt_zero _);clear hi0 hz0 hz1 hz2
 go_wp2_with fail
 obtain⟨g,hg⟩:∃g,g=w.heap.size:=⟨_,rfl⟩;simp only [<-hg]at hcur hb1 ⊢;generalize w.alloc (.cells cur 5)=V at hcur hb1 ⊢;clear hmk;have HG:=Lib.hid hg;clear hg
 go_loopw [11,6] (λz y wr=>∃(i:Nat) (cur':Array Value),z= .int .i64 i/\i<=8/\CellsAt wr g 5 cur'/\cur'.size=8/\(∀j:Nat,j<i->cur'[j]? =some (.int .u8 (bt n j)))/\Below g w wr) (λz _ _=>8 - (intOf z).toNat)
 case atStart=>exact⟨0,cur,rfl,by omega,hcur,hsz,h0,hb1⟩
 case round=>
  clear hcur hb1 h0 hsz;obtain⟨i,cur',rfl,hi,hC,hs,hj,hB⟩:=hrel;by_cases hlt:i<8
  .have i0:(0:Int)<=(i:Int):=by omega
   have i4:(i:Int)<8:=by omega
   have hh:cur'[i]? =some cur'[i]:=Array.getElem?_eq_getElem (by omega);have hc0:=hC.cell i;rw [hh]at hc0;generalize cur'[i]=old at hc0;have hf0:=hC.frozen i;have hH:Has wr g:=hC.lt
   go_wp2_with fail
   refine⟨?_,by simp [intOf];omega⟩;refine⟨i+1,cur'.setIfInBounds i (.int .u8 (bt n i)),by simp,by omega,hC.set i _,by simp [hs],?_,hB.trans (bh (ae wr g i _) (Nat.le_of_lt hC.lt) (Nat.le_refl _))⟩;intro j hj';by_cases e:j=i
   .subst e;rw [Array.getElem?_setIfInBounds_self_of_lt (by omega)]
   .rw [Array.getElem?_setIfInBounds_ne (Ne.symm e)];exact hj j (by omega)
  .obtain rfl:i=8:=by omega
   go_wp2
   go_ret
   refine⟨g,rfl,Nat.le_of_eq HG.out.symm,?_,by rw [<-HG.out];exact hB⟩;rw [show(bi (bt n) 8).toArray=cur' from ?_]
   .exact hC
   .refine Array.ext_getElem? (λj=> ?_);by_cases h:j<8
    .rw [hj j h];simpa using ij (bt n) 8 j h
    .have e1:cur'[j]? =none:=Array.getElem?_eq_none (by omega);have e2:(bi (bt n) 8).toArray[j]? =none:=Array.getElem?_eq_none (by simp [bi];omega);rw [e1,e2]
end
noncomputable section
open Go.RowKit Go.Sort
def iJ(l:List Int):List Value:=l.map (Value.int .u8)
theorem Cz(l:List Int):(iJ l).length=l.length:=by simp [iJ]
def BB(w:World)(a:Addr)(l:List Int):Prop:=a.block<w.heap.size/\∀j u,(iJ l)[j]? =some u->w.cell? (a.add j)=some u
theorem BB.grown{w w':World}{a:Addr}{l:List Int}{row:Option Nat}(h:BB w a l)(g:w.grownBy w' row)(hne:row≠some a.block):BB w' a l:=
 ⟨Nat.lt_of_lt_of_le h.1 g.size,λj u hj=>(World.cell?_of_block (by rw [kf];exact g.block a.block h.1 (λe=>hne e.symm))).trans (h.2 j u hj)⟩
theorem BB.below{w w':World}{a:Addr}{l:List Int}(h:BB w a l)(g:Below w.heap.size w w'):BB w' a l:=h.grown (ab g none) (by simp)
def btl(x:Int)(k:Nat):List Int:=(List.range k).map (bt x)
theorem yg{w:World}{g k:Nat}{x:Int}(h:CellsAt w g 5 (bi (bt x) k).toArray):BB w ⟨g,0,none⟩ (btl x k):=by
 refine⟨h.lt,λj u hj=> ?_⟩;have e:((⟨g,0,none⟩:Addr).add j)=⟨g,j,none⟩:=by unfold Addr.add;split<;>simp_all
 rw [e,h.cell j]
 have:iJ (btl x k)=bi (bt x) k:=by simp [iJ,btl,bi]
 rw [this]at hj;simpa using hj
theorem wG(n:Int)(hn:0<=n/\n<256)(w:World):
  Calls Try.prog 21 #[.int .u8 n] w λe w'=>∃g,e= .returned (.slice (some ⟨g,0,none⟩) 1 1)/\w.heap.size<=g/\BB w' ⟨g,0,none⟩ (btl n 1)/\Below w.heap.size w w':=by
 have H:=Lib.hid (AZ n hn w)
 go_enter Try.func21,Try.ntmps21
 go_wp2_with fail
 refine H.out.mono ?_;rintro x w' ⟨g,rfl,h1,h2,h3⟩
 go_wp2_with fail
 go_ret
 exact⟨g,rfl,h1,yg h2,h3⟩
theorem Ig(n:Int)(hn:0<=n/\n<4294967296)(w:World):
  Calls Try.prog 56 #[.int .u32 n] w λe w'=>∃g,e= .returned (.slice (some ⟨g,0,none⟩) 4 4)/\w.heap.size<=g/\BB w' ⟨g,0,none⟩ (btl n 4)/\Below w.heap.size w w':=by
 have H:=Lib.hid (ye n hn w)
 go_enter Try.func56,Try.ntmps56
 go_wp2_with fail
 refine H.out.mono ?_;rintro x w' ⟨g,rfl,h1,h2,h3⟩
 go_wp2_with fail
 go_ret
 exact⟨g,rfl,h1,yg h2,h3⟩
theorem qt(n:Int)(hn: -9223372036854775808<=n/\n<9223372036854775808)(w:World):
  Calls Try.prog 24 #[.int .i64 n] w λe w'=>∃g,e= .returned (.slice (some ⟨g,0,none⟩) 8 8)/\w.heap.size<=g/\BB w' ⟨g,0,none⟩ (btl n 8)/\Below w.heap.size w w':=by
 have H:=Lib.hid (yf n hn w)
 go_enter Try.func24,Try.ntmps24
 go_wp2_with fail
 refine H.out.mono ?_;rintro x w' ⟨g,rfl,h1,h2,h3⟩
 go_wp2_with fail
 go_ret
 exact⟨g,rfl,h1,yg h2,h3⟩
theorem qu(n:Int)(hn:0<=n/\n<4294967296)(w:World):
  Calls Try.prog 22 #[.int .i64 n] w λe w'=>∃g,e= .returned (.slice (some ⟨g,0,none⟩) 4 4)/\w.heap.size<=g/\BB w' ⟨g,0,none⟩ (btl n 4)/\Below w.heap.size w w':=by
 have H:=Lib.hid (Ig n hn w);have hw:IntKind.u32.wrap n=n:=by simp [IntKind.wrap,IntKind.signed,IntKind.bits];omega
 go_enter Try.func22,Try.ntmps22
 go_wp2_with fail
 refine H.out.mono ?_;rintro x w' ⟨g,rfl,h1,h2,h3⟩
 go_wp2_with fail
 go_ret
 exact⟨g,rfl,h1,h2,h3⟩
theorem CA(b:Bool)(w:World):Calls Try.prog 23 #[.bool b] w λe w'=>e= .returned (.int .u8 (if b then 1 else 0))/\Below w.heap.size w w':=by
 cases b
 .go_enter Try.func23,Try.ntmps23
  go_wp2_with fail
  go_ret
  exact⟨rfl,Below.refl _ _⟩
 .go_enter Try.func23,Try.ntmps23
  go_wp2_with fail
  go_ret
  exact⟨rfl,Below.refl _ _⟩
abbrev Pt:=Addr×Nat×List Int
def ptV(x:Pt):Value:= .slice (some x.1) x.2.2.length x.2.1
def ls(P:List Pt):List Int:=P.flatMap (·.2.2)
theorem Bc:(Try.prog.info? 5).map (λi=>(i.zero,i.size,i.bytes))=some (some (.int .u8 0),1,1):=by kernel_rfl
set_option maxRecDepth 100000 in
set_option maxHeartbeats 1000000 in
theorem CB(base:Nat)(v:Value)(xs:List Int)(LA:Addr)(P:List Pt)(w:World)(hown:w.ownsRow base 5 1 v xs.length (iJ xs))(hLb:LA.block<w.heap.size)(hL:∀(i:Nat) (h:i<P.length),w.cell? (LA.add i)=some (ptV P[i]))
  (hP:∀x∈P,BB w x.1 x.2.2/\x.2.2.length<=8) (hap:∀g,v.ownBlock=some g->g≠LA.block/\∀x∈P,x.1.block≠g) (hbase:base<=w.heap.size) (hk:P.length<=8) (hxs:xs.length<=10000000):
  Calls Try.prog 20 #[v,.slice (some LA) P.length P.length] w λx w'=>∃v',x= .returned v'/\w'.ownsRow base 5 1 v' (xs++ls P).length (iJ (xs++ls P))/\w.grownBy w' v.ownBlock/\(v'.ownBlock=v.ownBlock∨∃g,v'.ownBlock=some g/\w.heap.size<=g):=by
 obtain⟨i0,hi,hz0,hz1,hz2⟩:=gC Bc;obtain⟨k,hkk⟩:∃k,k=P.length:=⟨_,rfl⟩;rw [<-hkk];have HK:=Lib.hid hkk;clear hkk;have hL:=Lib.hid hL;have hP:=Lib.hid hP;have hap:=Lib.hid hap;have hk:=Lib.hid hk;have hk8:k<=8:=by rw [HK.out];exact hk.out
 go_enter Try.func20,Try.ntmps20
 go_wp2_with fail
 go_loopw [0,9] (λu y wr=>∃(i:Nat) (ys:List Int),y= .int .i64 i/\i<=k/\Hid (ys=xs++ls (P.take i))/\ys.length<=xs.length+8*i/\wr.ownsRow base 5 1 u ys.length (iJ ys)/\w.grownBy wr v.ownBlock/\(u.ownBlock=v.ownBlock∨∃g,u.ownBlock=some g/\w.heap.size<=g)) (λ_ y _=>k - (intOf y).toNat)
 case atStart=>
  exact⟨0,xs,rfl,by omega,Lib.hid (by simp [ls]),by omega,hown,ab (Below.refl _ _) _,.inl rfl⟩
 case round=>
  clear hown;obtain⟨i,ys,rfl,hik,hys,hyl,hrow,hg,hat⟩:=hrel;have kV:=hg.size;by_cases hlt:i<k
  .have hlt':(i:Int)<(k:Int):=by omega
   have hiP:i<P.length:=by rw [<-HK.out];exact hlt
   have hvLA:v.ownBlock≠some LA.block:=λe=>(hap.out _ e).1 rfl;have c0:wr.cell? (LA.add i)=some (ptV P[i]):=(World.cell?_of_block (by rw [kf];exact hg.block LA.block hLb (λe=>hvLA e.symm))).trans (hL.out i hiP);have kL:Has wr LA.block:=Nat.lt_of_lt_of_le hLb kV;obtain⟨p,hp⟩:∃p,p=P[i]:=⟨_,rfl⟩;have hpm:p∈P:=by rw [hp];exact List.getElem_mem hiP
   have hpB:=(hP.out p hpm).1.grown hg (λe=>(hap.out _ e).2 p hpm rfl);have hpl:=(hP.out p hpm).2;rw [<-hp]at c0;have hys2:Hid (ys++p.2.2=xs++ls (P.take (i+1))):=Lib.hid (by rw [hys.out,List.take_succ_eq_append_getElem hiP,<-hp];simp [ls]);obtain⟨pa,pc,pl⟩:=p;replace c0:wr.cell? (LA.add i)=some (.slice (some pa) pl.length pc):=c0;have hpl:pl.length<=8:=hpl;clear hp hpm hys;have hpB:=Lib.hid hpB;obtain⟨bs,cap,rfl⟩:=aG hrow;obtain⟨m,hm⟩:∃m,m=pl.length:=⟨_,rfl⟩;rw [<-hm]at c0;have HM:=Lib.hid hm;obtain⟨q,hq⟩:∃q,q=ys.length:=⟨_,rfl⟩;rw [<-hq]at hrow ⊢;have HQ:=Lib.hid hq;have hm8:m<=8:=by omega
   have hq8:q<=xs.length+8*i:=by omega
   clear hm hq
   go_wp2_with (refine wpList_append_own_at _ rfl _ _ 31 rfl base 5 i0 (.int .u8 0) 1 1 Try.underlying31 hi hz0 hz1 hz2 rfl (by decide) _ _ _ rfl hrow pa m pc (iJ pl) rfl (by rw [Cz,HM.out,Nat.mul_one]) hpB.out.2 (by intro u hu;obtain⟨z,_,rfl⟩:=List.mem_map.1 hu;rfl) (by unfold maxLen;omega) (by omega) (by omega) ?_;intro v' V2 hown' hgrow _ hat';obtain⟨bs',cap',rfl⟩:=aG hown')
   refine⟨?_,by simp [intOf];omega⟩;refine⟨i+1,ys++pl,by simp,by omega,hys2,by rw [List.length_append,<-HQ.out,<-HM.out];omega,by rw [List.length_append,<-HQ.out,<-HM.out,iJ,List.map_append];exact hown',?_,?_⟩
   .have hgrow:wr.grownBy V2 (Value.slice bs q cap).ownBlock:=hgrow;have hat:(Value.slice bs q cap).ownBlock=v.ownBlock∨∃g,(Value.slice bs q cap).ownBlock=some g/\w.heap.size<=g:=by rw [HQ.out];exact hat
    rcases hat with e|⟨g,e,hge⟩
    .rw [e]at hgrow;exact af hg hgrow
    .exact⟨hgrow.os.trans hg.os,hgrow.tape.trans hg.tape,hgrow.output.trans hg.output,Nat.le_trans hg.size hgrow.size,λj hj hne=>(hgrow.block j (Nat.lt_of_lt_of_le hj hg.size) (λe2=>by have:=e2.trans e;cases this;omega)).trans (hg.block j hj hne)⟩
   .have hat:(Value.slice bs q cap).ownBlock=v.ownBlock∨∃g,(Value.slice bs q cap).ownBlock=some g/\w.heap.size<=g:=by rw [HQ.out];exact hat
    have hat':(Value.slice bs' (q+m) cap').ownBlock=(Value.slice bs q cap).ownBlock∨(Value.slice bs' (q+m) cap').ownBlock=some wr.heap.size:=hat';rcases hat' with e|e
    .rcases hat with e2|⟨g,e2,hge⟩
     .exact .inl (e.trans e2)
     .exact .inr ⟨g,e.trans e2,hge⟩
    .exact .inr ⟨_,e,kV⟩
  .obtain rfl:i=k:=by omega
   obtain⟨bs,cap,rfl⟩:=aG hrow;have he:Hid (ys=xs++ls P):=Lib.hid (by rw [hys.out,HK.out,List.take_length]);clear hys
   go_wp2_with fail
   go_ret
   exact⟨_,rfl,by rw [<-he.out];exact hrow,hg,hat⟩
end
noncomputable section
open Go.RowKit Go.Sort
structure StJ(V W:World)(L:List Pt):Prop where
 b:Below V.heap.size V W
 r:∀x∈L,BB W x.1 x.2.2/\x.2.2.length<=8/\V.heap.size<=x.1.block
theorem StJ.nil{V W:World}(h:Below V.heap.size V W):StJ V W []:=⟨h,by simp⟩
theorem StJ.snoc{V W W':World}{L:List Pt}{g c:Nat}{l:List Int}(h:StJ V W L)(hb:Below W.heap.size W W')(hg:W.heap.size<=g)(hbb:BB W' ⟨g,0,none⟩ l)(hl:l.length<=8):StJ V W' (L++ [(⟨g,0,none⟩,c,l)]):=by
 have hs:=h.b.size;refine⟨h.b.trans (hb.mono hs),λx hx=> ?_⟩;rcases List.mem_append.1 hx with hx|hx
 .have:=h.r x hx
  exact⟨this.1.below hb,this.2⟩
 .simp only [List.mem_singleton]at hx;subst hx;exact⟨hbb,hl,Nat.le_trans hs hg⟩
theorem StJ.call{V W W':World}{L:List Pt}(h:StJ V W L)(hb:Below W.heap.size W W'):StJ V W' L:=
 ⟨h.b.trans (hb.mono h.b.size),λx hx=>⟨(h.r x hx).1.below hb,(h.r x hx).2⟩⟩
theorem CC(W:World)(L:List Pt)(t:TypeId):∀(i:Nat) (h:i<L.length),(W.alloc (.cells (L.map ptV).toArray t)).cell? ((⟨W.heap.size,0,none⟩:Addr).add i)=some (ptV L[i]):=by
 intro i h;have e:((⟨W.heap.size,0,none⟩:Addr).add i)=⟨W.heap.size,i,none⟩:=by unfold Addr.add;split<;>simp_all
 have hc:CellsAt (W.alloc (.cells (L.map ptV).toArray t)) W.heap.size t (L.map ptV).toArray:=World.alloc_heap_new W _;rw [e,hc.cell i];simp [h]
theorem iK{V W:World}{L:List Pt}{q:Nat}{xs ys:List Int}{base:Nat}{v:Value}(h:StJ V W L)(hL:L.length<=8)(hq:Hid (q=xs.length))(hown:V.ownsRow base 5 1 v q (iJ xs))(hbase:base<=V.heap.size)(hxs:q<=10000000)(hy:xs++ls L=ys):
  Calls Try.prog 20 #[v,.slice (some ⟨W.heap.size,0,none⟩) L.length L.length] (W.alloc (.cells (L.map ptV).toArray 31)) λx w'=>∃v' z,Hid (z=ys.length)/\x= .returned v'/\w'.ownsRow base 5 1 v' z (iJ ys)/\V.grownBy w' v.ownBlock/\∀k,v.ownBlock=some k->base<=k:=by
 have hq:=hq.out;subst hq;subst hy;have hs:=h.b.size;have BA:=bl1 W (.cells (L.map ptV).toArray 31);have g0:V.grownBy (W.alloc (.cells (L.map ptV).toArray 31)) none:=ab (h.b.trans (BA.mono hs)) none;have hl:=λg hg=>(hown.lt g hg).2;refine(CB base v xs ⟨W.heap.size,0,none⟩ L _ (hown.kept g0 (Classical.em _)) (by simp) (CC W L _) (λx hx=>⟨(h.r x hx).1.below BA,(h.r x hx).2.1⟩) (λg hg=>⟨by have:=hl g hg;show g≠W.heap.size;omega,λx hx=>by have:=hl g hg;have:=(h.r x hx).2.2;omega⟩) (by simp;omega) hL hxs).mono ?_;rintro x w' ⟨v',rfl,h1,h2,h3⟩;exact⟨v',_,Lib.hid rfl,rfl,h1,⟨h2.os.trans g0.os,h2.tape.trans g0.tape,h2.output.trans g0.output,Nat.le_trans g0.size h2.size,λk hk hne=>(h2.block k (Nat.lt_of_lt_of_le hk g0.size) hne).trans (g0.block k hk (by simp))⟩,λk hk=>(hown.lt k hk).1⟩
end
end Go.Proofs.Ytkmbihigeeclbaa
