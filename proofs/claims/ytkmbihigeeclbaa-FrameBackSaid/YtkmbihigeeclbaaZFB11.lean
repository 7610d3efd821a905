/- Texts of a claim, joined. -/
import Derived.Test.YtkmbihigeeclbaaZFB10
import Derived.Deep.Cut
import Derived.Deep.RegionHeld3
import Derived.Deep.RegionLaw
set_option linter.unusedVariables false
set_option linter.unusedSimpArgs false
namespace Go.Proofs.Ytkmbihigeeclbaa
noncomputable section
open Go.RowKit Go.Sort
def lr(_:Int):Rd (Int×Int×Int):=az (cE 4095 3) λx=>az (cE 4095 3) λy=>az cm λv=>dF (x,y,v)
def dU:Rd (List (Int×Int×Int)):=az (cE 65536 5) λk=>du lr (λ_=>0) k.toNat 0
theorem Fk{f:Nat->Int}{m p q:Nat}{last:Int}{t:Int×Int×Int}(h:lr last f m p= .ok (t,q)):q=p+16/\q<=m:=by
 unfold lr at h
 cases q1:cE 4095 3 f m p with
 |error er=>rw [ar q1]at h;cases h
 |ok r1=>
  obtain⟨x,p1⟩:=r1;rw [ap q1]at h
  cases q2:cE 4095 3 f m p1 with
  |error er=>rw [ar q2]at h;cases h
  |ok r2=>
   obtain⟨hi,p2⟩:=r2;rw [ap q2]at h
   cases q3:cm f m p2 with
   |error er=>rw [ar q3]at h;cases h
   |ok r3=>
    obtain⟨lo,p3⟩:=r3;rw [ap q3]at h;simp only [dF]at h;cases h
    have:=cO q1;have:=cO q2;have:=dT q3
    omega
theorem Fl:(Try.prog.info? 63).map (λi=>(i.zero,i.size,i.bytes))=some (some (.agg #[.int .i64 0,.int .i64 0,.int .i64 0]),3,24):=by kernel_rfl
structure StT(w:World)(R T:Nat)(a:Option Addr)(m c:Nat)(fa:Int)(v:Value)(i:Nat)(xs:List Value)(W:World)(p:Nat)(e:Array Value):Prop where
 hR:CellsAt W R 101 (rdr (.slice a m c) p 0 fa)
 rb:CellsAt W w.heap.size 80 #[.pointer (some ⟨R,0,none⟩)]
 tb:CellsAt W T 63 e
 g:w.grownBy W (some R)
 row:W.ownsRow (w.heap.size+1) 63 3 v i xs
 l0:w.heap.size<T
 l4:R<w.heap.size
 l5:∀g,v.ownBlock=some g->g<T
section
variable {w : World} {R T : Nat} {a : Option Addr} {m c : Nat} {fa : Int} {v : Value} {i : Nat} {xs : List Value} {W : World} {p : Nat} {e : Array Value}
theorem StT.call(h:StT w R T a m c fa v i xs W p e){W':World}{q:Nat}(g:W.grownBy W' (some R))(hR:CellsAt W' R 101 (rdr (.slice a m c) q 0 fa)):StT w R T a m c fa v i xs W' q e:=by
 have l0:=h.l0;have l4:=h.l4;exact⟨hR,aW h.rb g (by omega),aW h.tb g (by omega),af h.g g,eo h.row g (λg hgg=>by have:=(h.row.lt g hgg).1;simp;omega),h.l0,h.l4,h.l5⟩
theorem StT.store(h:StT w R T a m c fa v i xs W p e)(j:Nat)(x:Value):StT w R T a m c fa v i xs (W.setCell ⟨T,j,none⟩ x) p (e.setIfInBounds j x):=by
 have l0:=h.l0;have l4:=h.l4;have g:=ae W T j x;exact⟨aW h.hR g (by omega),aW h.rb g (by omega),h.tb.set j x,bB h.g T j x (by omega),eo h.row g (λg hgg=>by have:=h.l5 g hgg;simp;omega),h.l0,h.l4,h.l5⟩
end
set_option maxRecDepth 100000 in
set_option maxHeartbeats 2000000 in
theorem wE(R:Nat)(a:Option Addr)(m c p:Nat)(fa:Int)(f:Nat->Int)(w:World)(hR:CellsAt w R 101 (rdr (.slice a m c) p 0 fa))(hb:Rd8 w a m f)(hne:∀b,a=some b->b.block≠R)(hc:m<=c)(hm:m<=100000)(hp:p<=m):
  Calls Try.prog 69 #[ldr R] w λx w'=>
   (match dU f m p with
    | .ok (l,q)=>∃v,x= .returned v/\w'.ownsRow (w.heap.size+1) 63 3 v l.length (mz .i64 .i64 .i64 l)/\CellsAt w' R 101 (rdr (.slice a m c) q 0 fa)/\(l= []->v= .slice none 0 0)
    | .error er=>x= .panicked [il er.1 er.2])/\w.grownBy w' (some R):=by
 obtain⟨i0,hi,hz0,hz1,hz2⟩:=gC Fl;have kR:R<w.heap.size:=hR.lt;obtain⟨O,hO⟩:∃O,O=dU f m p:=⟨_,rfl⟩;rw [<-hO];have HO:=Lib.hid hO;clear hO;have B1:=bl1 w (.cells #[.pointer (some ⟨R,0,none⟩)] 80);have hRB:CellsAt (w.alloc (.cells #[.pointer (some ⟨R,0,none⟩)] 80)) w.heap.size 80 #[.pointer (some ⟨R,0,none⟩)]:=World.alloc_heap_new w _;have hR0:=hR.below B1;have hb0:=hb.grown (ab B1 none) (λ_ _=>by simp);have g0:w.grownBy (w.alloc (.cells #[.pointer (some ⟨R,0,none⟩)] 80)) (some R):=ab B1 _;have N1:=ec R a m c p fa 65536 5 f _ hR0 hb0 hne hc hm hp (by decide);have N:=Lib.hid (λV (g:w.grownBy V (some R)) (q:Nat) (h:CellsAt V R 101 (rdr (.slice a m c) q 0 fa)) (hq:q<=m)=>ec R a m c q fa 4095 3 f V h (hb.grown g (λb hb=>by simpa using hne b hb)) hne hc hm hq (by decide));have L:=Lib.hid (λV (g:w.grownBy V (some R)) (q:Nat) (h:CellsAt V R 101 (rdr (.slice a m c) q 0 fa)) (hq:q<=m)=>my R a m c q fa f V h (hb.grown g (λb hb=>by simpa using hne b hb)) hne hc hm hq);have hb':=Lib.hid hb0;have hl:w.heap.size<(w.alloc (.cells #[.pointer (some ⟨R,0,none⟩)] 80)).heap.size:=by simp
 clear hb hR hne B1 hb0
 go_enter Try.func69,Try.ntmps69
 go_wp2_with fail
 generalize (w.alloc (.cells #[.pointer (some ⟨R,0,none⟩)] 80))=W0 at hRB hR0 hb' g0 N1 hl ⊢
 cases q0:fL f m p 65536 5 with
 |error er=>
  have he:O= .error er:=by rw [HO.out];exact ar (show cE 65536 5 f m p=_ from q0)
  rw [q0]at N1;refine N1.mono ?_;rintro x w1 ⟨rfl,hg⟩;exact⟨rfl,by rw [he],af g0 hg⟩
 |ok r0=>
  obtain⟨kk,p1⟩:=r0;have n1:=cO q0;have k0:=pK q0 hb'.out;obtain⟨k,rfl⟩:=Int.eq_ofNat_of_zero_le k0;have HO2:Hid (O=du lr (λ_=>0) k 0 f m p1):=Lib.hid (by rw [HO.out];exact ap (show cE 65536 5 f m p=_ from q0));have hk:(k:Int)<=65536:=n1.2.2.2;have hp1:p1<=m:=n1.2.1;rw [q0]at N1;clear HO n1 q0;refine N1.mono ?_;rintro x w1 ⟨⟨rfl,hR1⟩,hg⟩;have hRB1:=aW hRB hg (by omega);have g1:=af g0 hg;clear N1 hRB hR0 hb' g0 hg hl
  go_wp2_with fail
  go_loopw [3,7] (λv y wr=>∃(i:Nat) (es:List (Int×Int×Int)) (q:Nat),y= .int .i64 i/\i<=k/\es.length=i/\q<=m/\Hid (O=ga es (du lr (λ_=>0) (k - i) 0 f m q))/\CellsAt wr R 101 (rdr (.slice a m c) q 0 fa)/\CellsAt wr w.heap.size 80 #[.pointer (some ⟨R,0,none⟩)]/\w.grownBy wr (some R)/\wr.ownsRow (w.heap.size+1) 63 3 v i (mz .i64 .i64 .i64 es)/\(i=0->v= .slice none 0 0)) (λ_ y _=>k - (intOf y).toNat)
  case atStart=>
   exact⟨0,[],p1,rfl,by omega,rfl,hp1,Lib.hid (by rw [nQ];exact HO2.out),hR1,hRB1,g1,World.ownsRow_nil _ _ _ _,λ_=>rfl⟩
  case round=>
   clear hR1 hRB1 g1;obtain⟨i,es,q,rfl,hik,hlen,hq,hE,hR,hRB,hg,hrow,hz⟩:=hrel;have kV:=hg.size;by_cases hlt:i<k
   .have hlt':(i:Int)<(k:Int):=by omega
    have cR:=hRB.cell 0;have kRB:Has wr w.heap.size:=hRB.lt;have BA:=bl1 wr (.cells #[.int .i64 0,.int .i64 0,.int .i64 0] 63)
    have S0:StT w R wr.heap.size a m c fa _ i (mz .i64 .i64 .i64 es) (wr.alloc (.cells #[.int .i64 0,.int .i64 0,.int .i64 0] 63)) q #[.int .i64 0,.int .i64 0,.int .i64 0]:=
     ⟨hR.below BA,hRB.below BA,World.alloc_heap_new wr _,af hg (ab BA _),hrow.alloc _,hRB.lt,kR,λg hgg=>(hrow.lt g hgg).2⟩
    have C1:=Lib.hid (N.out _ S0.g q S0.hR hq)
    have hE':Hid (∀er,lr 0 f m q= .error er->O= .error er):=Lib.hid λer he=>by
     have:=hE.out
     rw [show k - i=(k - i - 1)+1 by omega,nR es he]at this;exact this
    have hE2:Hid (∀t q2,lr 0 f m q= .ok (t,q2)->O=ga (es++ [t]) (du lr (λ_=>0) (k - (i+1)) 0 f m q2)):=Lib.hid λt q2 he=>by
     have:=hE.out
     rw [show k - i=(k - (i+1))+1 by omega,qr es he]at this;exact this
    have dR:=S0.rb.cell 0;clear hE hrow hR hRB hg BA
    go_wp2_with fail
    generalize (wr.alloc (.cells #[.int .i64 0,.int .i64 0,.int .i64 0] 63))=W1 at S0 C1 dR ⊢;generalize wr.heap.size=T at S0 kV kRB ⊢;have C1:=C1.out
    cases q1:fL f m q 4095 3 with
    |error er=>
     rw [q1]at C1;refine C1.mono ?_;rintro x w1 ⟨rfl,hg1⟩;exact⟨rfl,by rw [hE'.out er (by unfold lr;exact ar (show cE 4095 3 f m q=_ from q1))],af S0.g hg1⟩
    |ok r1=>
     obtain⟨x1,p2⟩:=r1;rw [q1]at C1;refine C1.mono ?_;rintro x w1 ⟨⟨rfl,hR1⟩,hg1⟩;have n1:=cO q1;have S1:=S0.call hg1 hR1;have cR:=S1.rb.cell 0;have kRB:Has w1 w.heap.size:=S1.rb.lt;have kT:Has w1 T:=S1.tb.lt;have c0:=S1.tb.cell 0;have f0:=S1.tb.frozen 0;have U1:=S1.store 0 (.int .i64 x1);have dR:=U1.rb.cell 0;have C2:=Lib.hid (N.out _ U1.g p2 U1.hR n1.2.1);clear C1 S0 hR1 hg1
     go_wp2_with fail
     generalize w1.setCell ⟨T,0,none⟩ (.int .i64 x1)=W2 at U1 C2 dR ⊢;have C2:=C2.out;clear cR kRB kT c0 f0 S1 dR
     cases q2:fL f m p2 4095 3 with
     |error er=>
      rw [q2]at C2;refine C2.mono ?_;rintro x w2 ⟨rfl,hg1⟩;exact⟨rfl,by rw [hE'.out er (by unfold lr;rw [ap (show cE 4095 3 f m q=_ from q1)];exact ar (show cE 4095 3 f m p2=_ from q2))],af U1.g hg1⟩
     |ok r2=>
      obtain⟨x2,p3⟩:=r2;rw [q2]at C2;refine C2.mono ?_;rintro x w2 ⟨⟨rfl,hR2⟩,hg2⟩;have n2:=cO q2;have S2:=U1.call hg2 hR2;have cR:=S2.rb.cell 0;have kRB:Has w2 w.heap.size:=S2.rb.lt;have kT:Has w2 T:=S2.tb.lt;have c0:=S2.tb.cell 1;have f0:=S2.tb.frozen 1;have U2:=S2.store 1 (.int .i64 x2);have dR:=U2.rb.cell 0;have C3:=Lib.hid (L.out _ U2.g p3 U2.hR n2.2.1);clear C2 U1 hR2 hg2
      go_wp2_with fail
      generalize w2.setCell ⟨T,1,none⟩ (.int .i64 x2)=W3 at U2 C3 dR ⊢;have C3:=C3.out;clear cR kRB kT c0 f0 S2 dR
      cases q3:cm f m p3 with
      |error er=>
       rw [q3]at C3;refine C3.mono ?_;rintro x w3 ⟨rfl,hg1⟩;exact⟨rfl,by rw [hE'.out er (by unfold lr;rw [ap (show cE 4095 3 f m q=_ from q1),ap (show cE 4095 3 f m p2=_ from q2)];exact ar q3)],af U2.g hg1⟩
      |ok r3=>
       obtain⟨x3,p4⟩:=r3;have he:=hE2.out (x1,x2,x3) p4 (by unfold lr;rw [ap (show cE 4095 3 f m q=_ from q1),ap (show cE 4095 3 f m p2=_ from q2),ap q3];rfl);rw [q3]at C3;refine C3.mono ?_;rintro x w3 ⟨⟨rfl,hR3⟩,hg3⟩;have n3:=dT q3;have S3:=U2.call hg3 hR3;have kT:Has w3 T:=S3.tb.lt;have c0:=S3.tb.cell 2;have f0:=S3.tb.frozen 2;have U3:=S3.store 2 (.int .i64 x3);have he:=Lib.hid he;have U3:=Lib.hid U3;clear C3 U2 hR3 hg3 hE' hE2 S3
       go_upto_region 8 with fail
       generalize w3.setCell ⟨T,2,none⟩ (.int .i64 x3)=V at U3 ⊢;have U3:=U3.out;have t0:V.cell? ⟨T,0,none⟩=some (.int .i64 x1):=U3.tb.cell 0;have t1:V.cell? ⟨T,1,none⟩=some (.int .i64 x2):=U3.tb.cell 1;have t2:V.cell? ⟨T,2,none⟩=some (.int .i64 x3):=U3.tb.cell 2;have kT:Has V T:=U3.tb.lt;have kV2:w.heap.size+1<=V.heap.size:=U3.rb.lt;have rV:=U3.row;obtain⟨bs,cap,rfl⟩:=aG rV;have U3:=Lib.hid U3
       go_wp2_with (refine wpList_append_own _ rfl _ _ 27 rfl (w.heap.size+1) 63 i0 (.agg #[.int .i64 0,.int .i64 0,.int .i64 0]) 3 24 Try.underlying27 hi hz0 hz1 hz2 rfl (by decide) _ _ _ rfl (rV.alloc _) ⟨V.heap.size,0,none⟩ 1 1 [.int .i64 x1,.int .i64 x2,.int .i64 x3] rfl rfl (jq _ _ _ _ _) (by simp [Value.oneCell']) (by unfold maxLen;omega) (by omega) (by simp;omega) ?_;intro v' V2 hown' hgrow _;obtain⟨g',cap',rfl⟩:=ownsRow_succ hown')
       refine⟨?_,by simp [intOf];omega⟩;have U3:=U3.out;have hgA:V.grownBy V2 (Value.slice bs i cap).ownBlock:=af (ab (bl1 _ _) _) hgrow;exact⟨i+1,es++ [(x1,x2,x3)],p4,by simp,by omega,by simp [hlen],n3.2,he,U3.hR.grown hgA (λe=>by have:=(rV.lt R e.symm).1;omega),U3.rb.grown hgA (λe=>by have:=(rV.lt _ e.symm).1;omega),ln U3.g hgA (λb e=>by have:=(rV.lt b e).1;omega),by rw [tc];exact hown',λh=>by omega⟩
   .obtain rfl:i=k:=by omega
    have he:O= .ok (es,q):=by
     have:=hE.out
     rw [Nat.sub_self]at this;simpa [du,dF,ga]using this
    obtain⟨bs,cap,rfl⟩:=aG hrow;clear hE HO2;subst he
    go_wp2_with fail
    go_ret
    exact⟨⟨_,rfl,hrow,hR,λh=>hz (by rw [<-hlen,h];rfl)⟩,hg⟩
end
noncomputable section
open Go.RowKit Go.Sort
def eH(n last:Int):Rd (Int×Int):=az (fu last n) λx=>az cm λv=>dF (x,v)
def iI:Rd (Int×List (Int×Int)):=az (cE 4096 5) λn=>az (cE n 5) λk=>az (du (eH n) (·.1) k.toNat (-1)) λl=>dF (n,l)
theorem Cv{f:Nat->Int}{m p q:Nat}{n last:Int}{t:Int×Int}(h:eH n last f m p= .ok (t,q)):q=p+12/\q<=m:=by
 unfold eH at h
 cases q1:fu last n f m p with
 |error er=>rw [ar q1]at h;cases h
 |ok r1=>
  obtain⟨x,p1⟩:=r1;rw [ap q1]at h
  cases q2:cm f m p1 with
  |error er=>rw [ar q2]at h;cases h
  |ok r2=>
   obtain⟨hi,p2⟩:=r2;rw [ap q2]at h;simp only [dF]at h;cases h
   have:=jp q1;have:=dT q2
   omega
theorem Cw:(Try.prog.info? 56).map (λi=>(i.zero,i.size,i.bytes))=some (some (.agg #[.int .i64 0,.int .i64 0]),2,16):=by kernel_rfl
theorem eV{w0 W W':World}{row:Option Nat}(hb:Below w0.heap.size w0 W)(g:W.grownBy W' row)(hk:∀k,row=some k->w0.heap.size<=k):Below w0.heap.size w0 W':=by
 refine hb.trans ?_
 cases row with
 |none=>exact(mf g).mono hb.size
 |some r=>exact bh g hb.size (hk r rfl)
theorem pL{W:World}{base size n OB:Nat}{v:Value}{xs:List Value}{arr:Array Value}(h:W.ownsRow base 56 size v n xs)(hO:CellsAt W OB 25 arr):∀q,v.ownBlock=some q->q≠OB:=by
 intro q hq e;subst e;rcases h.2 with⟨rfl,_⟩|⟨g,cp,cur,rfl,_,hg,_⟩
 .exact absurd (show(none:Option Nat)=some q from hq) (by simp)
 .have hq:g=q:=Option.some.inj hq;subst hq
  have:=hg.symm.trans hO
  simp at this
theorem pq{P:Program}{ops:Array Oper}{w:World}{o:Oper}{a:Act}{K:Act->World->Prop}{Q:Exit->Act->World->Prop}{E:Prop}(hg:o.guard=none)(s x:Operand)(t:TypeId)
  (ho:o.op= .call {callee:= .builtin .append,args:=#[s,x],argTypes:=#[t,t]})
  (base:Nat) (e:TypeId) (i:TypeInfo) (z:Value) (size bytes:Nat) (ht:P.underlying t=some (.slice e)) (hi:P.info? e=some i) (hz:i.zero=some z)
  (hsize:i.size=size) (hby:i.bytes=bytes) (hzs:z.cells.size=size) (hsz:0<size)
  (v:Value) (n:Nat) (xs:List Value) (hs:a.eval s=v) (hown:w.ownsRow base e size v n xs)
  (ad:Addr) (m c:Nat) (news:List Value) (hx:a.eval x= .slice (some ad) m c) (hl:news.length=m*size) (hnews:∀j u,news[j]? =some u->w.cell? (ad.add j)=some u) (h1:∀u∈news,u.oneCell'=true)
  (h63:n+m<=maxLen) (hbytes:(n+m)*bytes<=140737488355328) (hbase:base<=w.heap.size)
  (h:∀v' w',w'.ownsRow base e size v' (n+m) (xs++news)->w.grownBy w' v.ownBlock->(v'= .slice none 0 0↔v= .slice none 0 0/\m=0)->K (a.put o.dst v') w'):if Region.wanted o (yielded ops a.tmps)=true then Oper.wp P o a w K Q else E:=by
 have hw:Region.wanted o (yielded ops a.tmps)=true:=by simp [Region.wanted,hg]
 rw [if_pos hw];exact wp_append_own w s x t ho base e i z size bytes ht hi hz hsize hby hzs hsz v n xs hs hown ad m c news hx hl hnews h1 h63 hbytes hbase h
set_option maxRecDepth 100000 in
set_option maxHeartbeats 4000000 in
theorem Fm(R:Nat)(a:Option Addr)(m c p:Nat)(fa:Int)(f:Nat->Int)(w:World)(hR:CellsAt w R 101 (rdr (.slice a m c) p 0 fa))(hb:Rd8 w a m f)(hne:∀b,a=some b->b.block≠R)(hc:m<=c)(hm:m<=100000)(hp:p<=m):
  Calls Try.prog 67 #[ldr R] w λx w'=>
   (match iI f m p with
    | .ok ((n,l),q)=>∃v,x= .returned (.agg #[.int .i64 n,v])/\w'.ownsRow (w.heap.size+1) 56 2 v l.length (uV l)/\CellsAt w' R 101 (rdr (.slice a m c) q 0 fa)/\(l= []->v= .slice none 0 0)
    | .error er=>x= .panicked [il er.1 er.2])/\w.grownBy w' (some R):=by
 obtain⟨i0,hi,hz0,hz1,hz2⟩:=gC Cw;have kR:R<w.heap.size:=hR.lt;obtain⟨O,hO⟩:∃O,O=iI f m p:=⟨_,rfl⟩;rw [<-hO];have HO:=Lib.hid hO;clear hO;have B2:Below w.heap.size w ((w.alloc (.cells #[.pointer (some ⟨R,0,none⟩)] 80)).alloc (.cells #[.int .i64 0,.slice none 0 0] 25)):=bl2 _ _ _;have hRB:CellsAt ((w.alloc (.cells #[.pointer (some ⟨R,0,none⟩)] 80)).alloc (.cells #[.int .i64 0,.slice none 0 0] 25)) w.heap.size 80 #[.pointer (some ⟨R,0,none⟩)]:=CellsAt.below (World.alloc_heap_new w _) (bl1 _ _)
 have hQB:CellsAt ((w.alloc (.cells #[.pointer (some ⟨R,0,none⟩)] 80)).alloc (.cells #[.int .i64 0,.slice none 0 0] 25)) (w.heap.size+1) 25 #[.int .i64 0,.slice none 0 0]:=by
  have:=World.alloc_heap_new (w.alloc (.cells #[.pointer (some ⟨R,0,none⟩)] 80)) (.cells #[.int .i64 0,.slice none 0 0] 25)
  simpa [CellsAt]using this
 have hR0:=hR.below B2;have hb0:=hb.grown (ab B2 none) (λ_ _=>by simp);have g0:w.grownBy ((w.alloc (.cells #[.pointer (some ⟨R,0,none⟩)] 80)).alloc (.cells #[.int .i64 0,.slice none 0 0] 25)) (some R):=ab B2 _;have N1:=ec R a m c p fa 4096 5 f _ hR0 hb0 hne hc hm hp (by decide);have N:=Lib.hid (λV (g:w.grownBy V (some R)) (q:Nat) (n:Int) (h:CellsAt V R 101 (rdr (.slice a m c) q 0 fa)) (hq:q<=m)=>ec R a m c q fa n 5 f V h (hb.grown g (λb hb=>by simpa using hne b hb)) hne hc hm hq (by decide));have X:=Lib.hid (λV (g:w.grownBy V (some R)) (q:Nat) (last n:Int) (h:CellsAt V R 101 (rdr (.slice a m c) q 0 fa)) (hq:q<=m) (hn:0<=n) (hn2:n<=65536)=>wD R a m c q fa last n f V h (hb.grown g (λb hb=>by simpa using hne b hb)) hne hc hm hq hn hn2);have L:=Lib.hid (λV (g:w.grownBy V (some R)) (q:Nat) (h:CellsAt V R 101 (rdr (.slice a m c) q 0 fa)) (hq:q<=m)=>my R a m c q fa f V h (hb.grown g (λb hb=>by simpa using hne b hb)) hne hc hm hq);have hb':=Lib.hid hb;clear hb hR hne B2 hb0
 go_enter Try.func67,Try.ntmps67
 go_wp2_with fail
 generalize ((w.alloc (.cells #[.pointer (some ⟨R,0,none⟩)] 80)).alloc (.cells #[.int .i64 0,.slice none 0 0] 25))=W0 at hRB hQB hR0 g0 N1 ⊢
 cases q0:fL f m p 4096 5 with
 |error er=>
  have he:O= .error er:=by rw [HO.out];exact ar (show cE 4096 5 f m p=_ from q0)
  rw [q0]at N1;refine N1.mono ?_;rintro x w1 ⟨rfl,hg⟩;exact⟨rfl,by rw [he],af g0 hg⟩
 |ok r0=>
  obtain⟨n,p1⟩:=r0;have n1:=cO q0;have n0:=pK q0 hb'.out;have hn2:n<=4096:=n1.2.2.2;have HO2:Hid (O=(az (cE n 5) λk=>az (du (eH n) (·.1) k.toNat (-1)) λl=>dF (n,l)) f m p1):=Lib.hid (by rw [HO.out];exact ap (show cE 4096 5 f m p=_ from q0));rw [q0]at N1;refine N1.mono ?_;rintro x w1 ⟨⟨rfl,hR1⟩,hg⟩;have BA:=bl1 w1 (.cells #[.int .i64 n,.slice none 0 0] 25);have hRB1:=(aW hRB hg (by omega)).below BA;have hQB1:=(aW hQB hg (by omega)).below BA;have hVB1:CellsAt (w1.alloc (.cells #[.int .i64 n,.slice none 0 0] 25)) w1.heap.size 25 #[.int .i64 n,.slice none 0 0]:=World.alloc_heap_new w1 _;have hRA:=hR1.below BA;have g1:=af (af g0 hg) (ab BA (some R));have lQ:=(aW hQB hg (by omega)).lt;have cR:=(aW hRB hg (by omega)).cell 0;have kRB:Has w1 w.heap.size:=(aW hRB hg (by omega)).lt;have C2:=Lib.hid (N.out _ g1 p1 n hRA n1.2.1);clear N1 hRB hQB hR0 g0 hg hR1 HO BA
  go_wp2_with fail
  have kV:=hVB1.lt;generalize w1.alloc (.cells #[.int .i64 n,.slice none 0 0] 25)=W1 at hRB1 hQB1 hVB1 hRA g1 C2 kV ⊢;generalize w1.heap.size=VB at hVB1 lQ kV ⊢;have C2:=C2.out;clear cR kRB
  cases q1:fL f m p1 n 5 with
  |error er=>
   have he:O= .error er:=by rw [HO2.out];exact ar (show cE n 5 f m p1=_ from q1)
   rw [q1]at C2;refine C2.mono ?_;rintro x w2 ⟨rfl,hg⟩;exact⟨rfl,by rw [he],af g1 hg⟩
  |ok r1=>
   obtain⟨kk,p2⟩:=r1;have n2:=cO q1;have k0:=pK q1 hb'.out;obtain⟨k,rfl⟩:=Int.eq_ofNat_of_zero_le k0;have HO3:Hid (O=(az (du (eH n) (·.1) k (-1)) λl=>dF (n,l)) f m p2):=Lib.hid (by rw [HO2.out];exact ap (show cE n 5 f m p1=_ from q1));have hk:(k:Int)<=4096:=by have:=n2.2.2.2;omega
   have hp2:p2<=m:=n2.2.1;rw [q1]at C2;refine C2.mono ?_;rintro x w2 ⟨⟨rfl,hR2⟩,hg⟩;have hRB2:=aW hRB1 hg (by omega);have hQB2:=aW hQB1 hg (by omega);have hVB2:=aW hVB1 hg (by omega);have g2:=af g1 hg;clear C2 hRB1 hQB1 hVB1 hRA g1 hg HO2 n2 n1 q1 q0 kV
   go_wp2_with fail
   go_loopw [4,12] (λla y wr=>∃(i:Nat) (es:List (Int×Int)) (last:Int) (q:Nat) (bs:Option Addr) (cap:Nat),y= .int .i64 i/\la= .int .i64 last/\i<=k/\es.length=i/\q<=m/\Hid (du (eH n) (·.1) k (-1) f m p2=ga es (du (eH n) (·.1) (k - i) last f m q))/\CellsAt wr R 101 (rdr (.slice a m c) q 0 fa)/\CellsAt wr w.heap.size 80 #[.pointer (some ⟨R,0,none⟩)]/\CellsAt wr (w.heap.size+1) 25 #[.int .i64 0,.slice none 0 0]/\CellsAt wr VB 25 #[.int .i64 n,.slice bs i cap]/\w.grownBy wr (some R)/\wr.ownsRow (w.heap.size+1) 56 2 (.slice bs i cap) i (uV es)/\(i=0->Value.slice bs i cap= .slice none 0 0)) (λ_ y _=>k - (intOf y).toNat)
   case atStart=>
    exact⟨0,[],-1,p2,none,0,rfl,rfl,by omega,rfl,hp2,Lib.hid (by rw [nQ];rfl),hR2,hRB2,hQB2,hVB2,g2,World.ownsRow_nil _ _ _ _,λ_=>rfl⟩
   case round=>
    clear hR2 hRB2 hQB2 hVB2 g2;obtain⟨i,es,last,q,bs,cap,rfl,rfl,hik,hlen,hq,hE,hR,hRB,hQB,hVB,hg,hrow,hz⟩:=hrel;by_cases hlt:i<k
    .have hlt':(i:Int)<(k:Int):=by omega
     have cR:=hRB.cell 0;have kRB:Has wr w.heap.size:=hRB.lt;have v0:=hVB.cell 0;have kVB:Has wr VB:=hVB.lt;have C1:=Lib.hid (X.out wr hg q last n hR hq n0 (by omega))
     have hE':Hid (∀er,eH n last f m q= .error er->O= .error er):=Lib.hid λer he=>by
      have:=hE.out
      rw [show k - i=(k - i - 1)+1 by omega,nR es he]at this;rw [HO3.out];exact ar this
     have hE2:Hid (∀t q2,eH n last f m q= .ok (t,q2)->du (eH n) (·.1) k (-1) f m p2=ga (es++ [t]) (du (eH n) (·.1) (k - (i+1)) t.1 f m q2)):=Lib.hid λt q2 he=>by
      have:=hE.out
      rw [show k - i=(k - (i+1))+1 by omega,qr es he]at this;exact this
     have hrow:=Lib.hid hrow;clear hE
     go_wp2_with fail
     have C1:=C1.out
     cases q1:fu last n f m q with
     |error er=>
      rw [q1]at C1;refine C1.mono ?_;rintro x w1 ⟨rfl,hg1⟩;exact⟨rfl,by rw [hE'.out er (by unfold eH;exact ar q1)],af hg hg1⟩
     |ok r1=>
      obtain⟨x1,p3⟩:=r1;rw [q1]at C1;refine C1.mono ?_;rintro x V1 ⟨⟨rfl,hR1⟩,hg1⟩;have n1:=jp q1;have hRB1:=aW hRB hg1 (by omega);have hQB1:=aW hQB hg1 (by omega);have hVB1:=aW hVB hg1 (by omega);have hrow1:=eo hrow.out hg1 (λg hgg=>by have:=(hrow.out.lt g hgg).1;simp;omega);have gA:=af hg hg1;clear cR kRB v0 kVB C1 hR hRB hQB hVB hg hrow hg1;have cR:=hRB1.cell 0;have kRB:Has V1 w.heap.size:=hRB1.lt;have o1:=hVB1.cell 1;have kVB:Has V1 VB:=hVB1.lt;have bd:Below V1.heap.size V1 V1.drew:=⟨rfl,rfl,rfl,Nat.le_refl _,λ_ _=>rfl⟩;have bdn:∀k,Below V1.heap.size V1 (V1.drewN k):=λk=>⟨rfl,rfl,rfl,Nat.le_refl _,λ_ _=>rfl⟩;have LL:=Lib.hid (λV (hB:Below V1.heap.size V1 V)=>L.out V (af gA (ab hB _)) p3 (hR1.below hB) n1.2.1);have lV:=hVB1.lt
      go_wp2_with fail
      cases q2:cm f m p3 with
      |error er=>
       rw [q2]at LL;have he:=hE'.out er (by unfold eH;rw [ap q1];exact ar q2);clear hE' hE2
       go_region_law (first
        |(go_simp;go_at_call 66;refine(LL.out _ (by first|exact bd|exact bdn _)).mono ?_;rintro x L ⟨rfl,hgL⟩;have hgX:V1.grownBy L (some R):=(by first|exact af (ab bd _) hgL|exact af (ab (bdn _) _) hgL);suffices _h:wpAny Try.prog .any #[] (λ_ _ _=>True) 0 #[] {tmps:=#[],defers:= []} L from⟨rfl,by rw [he],af gA hgX⟩))
       all_goals trivial
      |ok r2=>
       obtain⟨x2,p4⟩:=r2;rw [q2]at LL;have he:=hE2.out (x1,x2) p4 (by unfold eH;rw [ap q1,ap q2];rfl);have n3:=dT q2;have hOg:=pL hrow1 hVB1;have hOQ:=pL hrow1 hQB1;have he:=Lib.hid he;have hz':=Lib.hid hz;clear hE' hE2 hz
       go_region_law (first
        |(go_simp;go_at_call 66;refine(LL.out _ (by first|exact bd|exact bdn _)).mono ?_;rintro x L ⟨⟨rfl,hRL⟩,hgL⟩;have hgX:V1.grownBy L (some R):=(by first|exact af (ab bd _) hgL|exact af (ab (bdn _) _) hgL);have hVL:=aW hVB1 hgX (by omega);have z1:=hVL.cell 1;have z2:=hVL.frozen 1;have kL:=Has.of hVL.lt)
        |(refine pq rfl (.tmp 20) (.tmp 25) 23 rfl (w.heap.size+1) 56 i0 (.agg #[.int .i64 0,.int .i64 0]) 2 16 Try.underlying23 hi hz0 hz1 hz2 rfl (by decide) (.slice bs i cap) i (uV es) (by simp [Act.eval,Act.put]) ((eo hrow1 hgX (λg hgg=>by have:=(hrow1.lt g hgg).1;simp;omega)).alloc _) ⟨L.heap.size,0,none⟩ 1 1 [.int .i64 x1,.int .i64 x2] (by simp [Act.eval,Act.put]) rfl (uU L _ _ 56) (by simp [Value.oneCell']) (by unfold maxLen;omega) (by omega) (by simp;have:=hgX.size;omega) ?_;intro v' V7 hown7 hg7 _;obtain⟨g',cap',rfl⟩:=ownsRow_succ hown7;have hO7:=(hVL.below (bl1 L (.cells #[.int .i64 x1,.int .i64 x2] 56))).grown hg7 (λh=>hOg VB h.symm rfl);have y1:=hO7.cell 1;have y2:=hO7.frozen 1;have kO7:=Has.of hO7.lt))
       all_goals (
        have hrB:=hrow1.lt;have hgA:L.grownBy V7 (Value.slice bs i cap).ownBlock:=af (ab (bl1 L (.cells #[.int .i64 x1,.int .i64 x2] 56)) _) hg7;have hne7:=pL hown7 hO7;have hV9:=hO7.set 1 (.slice (some ⟨g',0,none⟩) (i+1) cap');have hown9:=hown7.kept (ae V7 VB 1 (.slice (some ⟨g',0,none⟩) (i+1) cap')) (.inr (λe=>hne7 _ e rfl));have hR7:=au (hRL.grown hgA (λe=>by have:=(hrB R e.symm).1;omega)) (show R≠VB by omega) (.slice (some ⟨g',0,none⟩) (i+1) cap') 1;have hRB7:=au ((aW hRB1 hgX (by omega)).grown hgA (λe=>by have:=(hrB _ e.symm).1;omega)) (show w.heap.size≠VB by omega) (.slice (some ⟨g',0,none⟩) (i+1) cap') 1;have hQB7:=au ((aW hQB1 hgX (by omega)).grown hgA (λe=>hOQ _ e.symm rfl)) (show w.heap.size+1≠VB by omega) (.slice (some ⟨g',0,none⟩) (i+1) cap') 1;have g9:=bB (ln (af gA hgX) hgA (λb e=>by have:=(hrB b e).1;omega)) VB 1 (.slice (some ⟨g',0,none⟩) (i+1) cap') (by omega);have Z:=Lib.hid (And.intro hV9 (And.intro hown9 (And.intro hR7 (And.intro hRB7 (And.intro hQB7 g9)))));clear hV9 hown9 hR7 hRB7 hQB7 g9 hgA
        go_wp2_with fail
        refine⟨?_,by simp [intOf];omega⟩
        exact⟨i+1,es++ [(x1,x2)],x1,p4,some ⟨g',0,none⟩,cap',by simp,rfl,by omega,by simp [hlen],n3.2,he,Z.out.2.2.1,Z.out.2.2.2.1,Z.out.2.2.2.2.1,Z.out.1,Z.out.2.2.2.2.2,by rw [AX];exact Z.out.2.1,λh=>by omega⟩)
    .obtain rfl:i=k:=by omega
     have he:O= .ok ((n,es),q):=by
      have:=hE.out
      rw [Nat.sub_self]at this;rw [HO3.out];exact ap (by rw [this];simp [du,dF,ga])
     clear hE HO3;subst he;have v0:=hVB.cell 0;have v1:=hVB.cell 1;have kVB:Has wr VB:=hVB.lt;have u0:=hQB.cell 0;have f0:=hQB.frozen 0;have P1:=hQB.set 0 (.int .i64 n);have u1:=P1.cell 1;have f1:=P1.frozen 1;have P2:=P1.set 1 (.slice bs i cap);have kQB:Has wr (w.heap.size+1):=hQB.lt;have hrQ:=pL hrow hQB;have r1:=hrow.kept (ae wr (w.heap.size+1) 0 (.int .i64 n)) (.inr (λe=>hrQ _ e rfl));have r2:=r1.kept (ae _ (w.heap.size+1) 1 (.slice bs i cap)) (.inr (λe=>hrQ _ e rfl));have R2:=au (au hR (show R≠w.heap.size+1 by omega) (.int .i64 n) 0) (show R≠w.heap.size+1 by omega) (.slice bs i cap) 1;have G2:=bB (bB hg (w.heap.size+1) 0 (.int .i64 n) (by omega)) (w.heap.size+1) 1 (.slice bs i cap) (by omega);have P2:=Lib.hid P2;have Z:=Lib.hid (And.intro r2 (And.intro R2 G2));clear P1 r1 r2 R2 G2 hRB
     go_wp2_with fail
     (try simp only [Exit.inBlock,Exit.then])
     refine bodyPost_ret (results_cell_row rfl _ _ (w.heap.size+1) 25 _ _ _ rfl P2.out Try.underlying25 rfl (by kernel_rfl)) rfl ⟨?_,Z.out.2.2⟩;exact⟨_,rfl,Z.out.1,Z.out.2.1,λh=>hz (by rw [<-hlen,h];rfl)⟩
end
noncomputable section
open Go.RowKit Go.Sort
abbrev Fr:=Int×Int×Int×Int×Int×(Int×List (Int×Int))×List (Int×Int×Int)×List (Int×Int×Int)×Int×Bool
def gP:Rd Fr:=az (bg 1 7 8) λx0=>az (bg 0 63 3) λx1=>az (bg 0 63 3) λx2=>az (cE 2147483647 3) λx3=>az (cE 8192 3) λx4=>az (bg 0 1 7) λx5=>az cm λx6=>az iI λx7=>az ep λx8=>az dU λx9=>dF (x0,x1,x2,x3,x4,x7,x8,x9,x6,decide (x5=1))
abbrev vF(y:Fr)(v1 v2 v3:Value):Value:= .agg #[.int .i64 y.1,.int .i64 y.2.1,.int .i64 y.2.2.1,.int .i64 y.2.2.2.1,.int .i64 y.2.2.2.2.1,.int .i64 y.2.2.2.2.2.1.1,v1,v2,v3,.int .i64 y.2.2.2.2.2.2.2.2.1,.bool y.2.2.2.2.2.2.2.2.2]
def OwnL(w:World)(base:Nat)(e:TypeId)(size:Nat)(v:Value)(k:Nat)(xs:List Value):Prop:=(∃b,base<=b/\w.ownsRow b e size v k xs)/\(k=0->v= .slice none 0 0)
theorem OwnL.keep{w w':World}{base:Nat}{e:TypeId}{size:Nat}{v:Value}{k:Nat}{xs:List Value}(h:OwnL w base e size v k xs){row:Option Nat}(g:w.grownBy w' row)(hr:∀r,row=some r->r<base):OwnL w' base e size v k xs:=by
 obtain⟨⟨b,hb,h1⟩,h2⟩:=h;refine⟨⟨b,hb,eo h1 g (λq hq e=> ?_)⟩,h2⟩
 have:=(h1.lt q hq).1
 have:=hr q e
 omega
theorem OwnL.mono{w:World}{base base':Nat}{e:TypeId}{size:Nat}{v:Value}{k:Nat}{xs:List Value}(h:OwnL w base e size v k xs)(hb:base'<=base):OwnL w base' e size v k xs:=by
 obtain⟨⟨b,h0,h1⟩,h2⟩:=h;exact⟨⟨b,Nat.le_trans hb h0,h1⟩,h2⟩
structure StF(w:World)(R:Nat)(a:Option Addr)(m c:Nat)(fa:Int)(W:World)(p:Nat)(e:Array Value):Prop where
 hR:CellsAt W R 101 (rdr (.slice a m c) p 0 fa)
 rb:CellsAt W w.heap.size 80 #[.pointer (some ⟨R,0,none⟩)]
 qb:CellsAt W (w.heap.size+1) 29 #[.int .i64 0,.int .i64 0,.int .i64 0,.int .i64 0,.int .i64 0,.int .i64 0,.slice none 0 0,.slice none 0 0,.slice none 0 0,.int .i64 0,.bool false]
 fb:CellsAt W (w.heap.size+2) 29 e
 g:w.grownBy W (some R)
 l4:R<w.heap.size
section
variable {w : World} {R : Nat} {a : Option Addr} {m c : Nat} {fa : Int} {W : World} {p : Nat} {e : Array Value}
theorem StF.call(h:StF w R a m c fa W p e){W':World}{q:Nat}(g:W.grownBy W' (some R))(hR:CellsAt W' R 101 (rdr (.slice a m c) q 0 fa)):StF w R a m c fa W' q e:=by
 have l4:=h.l4;exact⟨hR,aW h.rb g (by omega),aW h.qb g (by omega),aW h.fb g (by omega),af h.g g,h.l4⟩
theorem StF.store(h:StF w R a m c fa W p e)(j:Nat)(x:Value):StF w R a m c fa (W.setCell ⟨w.heap.size+2,j,none⟩ x) p (e.setIfInBounds j x):=by
 have l4:=h.l4;have g:=ae W (w.heap.size+2) j x;exact⟨aW h.hR g (by omega),aW h.rb g (by omega),aW h.qb g (by omega),h.fb.set j x,bB h.g (w.heap.size+2) j x (by omega),h.l4⟩
end
theorem Fo{f:Nat->Int}{m p q:Nat}{y:Int×List (Int×Int)}(h:iI f m p= .ok (y,q)):q<=m:=by
 unfold iI at h
 cases q1:cE 4096 5 f m p with
 |error er=>rw [ar q1]at h;cases h
 |ok r1=>
  rw [ap q1]at h
  cases q2:cE r1.1 5 f m r1.2 with
  |error er=>rw [ar q2]at h;cases h
  |ok r2=>
   rw [ap q2]at h
   cases q3:du (eH r1.1) (·.1) r2.1.toNat (-1) f m r2.2 with
   |error er=>rw [ar q3]at h;cases h
   |ok r3=>
    rw [ap q3]at h;simp only [dF]at h;cases h;exact pJ (λlast p t q=>Cv) r2.1.toNat (-1) r2.2 (cO q2).2.1 q3
theorem Cx{f:Nat->Int}{m p q:Nat}{y:List (Int×Int×Int)}(h:ep f m p= .ok (y,q)):q<=m:=by
 unfold ep at h
 cases q1:cE 4096 5 f m p with
 |error er=>rw [ar q1]at h;cases h
 |ok r1=>
  rw [ap q1]at h;exact pJ (λlast p t q=>Fi) r1.1.toNat (-1) r1.2 (cO q1).2.1 h
theorem Cy{f:Nat->Int}{m p q:Nat}{y:List (Int×Int×Int)}(h:dU f m p= .ok (y,q)):q<=m:=by
 unfold dU at h
 cases q1:cE 65536 5 f m p with
 |error er=>rw [ar q1]at h;cases h
 |ok r1=>
  rw [ap q1]at h;exact pJ (λlast p t q=>Fk) r1.1.toNat 0 r1.2 (cO q1).2.1 h
set_option maxRecDepth 100000 in
set_option maxHeartbeats 4000000 in
theorem AY(R:Nat)(a:Option Addr)(m c p:Nat)(fa:Int)(f:Nat->Int)(w:World)(hR:CellsAt w R 101 (rdr (.slice a m c) p 0 fa))(hb:Rd8 w a m f)(hne:∀b,a=some b->b.block≠R)(hc:m<=c)(hm:m<=100000)(hp:p<=m):
  Calls Try.prog 41 #[ldr R] w λx w'=>
   (match gP f m p with
    | .ok (y,q)=>∃v1 v2 v3,x= .returned (vF y v1 v2 v3)/\OwnL w' w.heap.size 56 2 v1 y.2.2.2.2.2.1.2.length (uV y.2.2.2.2.2.1.2)/\OwnL w' w.heap.size 61 3 v2 y.2.2.2.2.2.2.1.length (mz .i64 .i64 .u64 y.2.2.2.2.2.2.1)/\OwnL w' w.heap.size 63 3 v3 y.2.2.2.2.2.2.2.1.length (mz .i64 .i64 .i64 y.2.2.2.2.2.2.2.1)/\CellsAt w' R 101 (rdr (.slice a m c) q 0 fa)
    | .error er=>x= .panicked [il er.1 er.2])/\w.grownBy w' (some R):=by
 obtain⟨O,hO⟩:∃O,O=gP f m p:=⟨_,rfl⟩;rw [<-hO];have kR:R<w.heap.size:=hR.lt;have H0:=Lib.hid hO;clear hO;have hb':∀V,w.grownBy V (some R)->Rd8 V a m f:=λV g=>hb.grown g (λb hb=>by simpa using hne b hb);have KS:=Lib.hid (λV (g:w.grownBy V (some R)) (q:Nat) (least most e2:Int) (h:CellsAt V R 101 (rdr (.slice a m c) q 0 fa)) (hq:q<=m) (h2:¬e2=0)=>AW R a m c q fa least most e2 f V h (hb' V g) hne hc hm hq h2);have KN:=Lib.hid (λV (g:w.grownBy V (some R)) (q:Nat) (most e2:Int) (h:CellsAt V R 101 (rdr (.slice a m c) q 0 fa)) (hq:q<=m) (h2:¬e2=0)=>ec R a m c q fa most e2 f V h (hb' V g) hne hc hm hq h2);have KL:=Lib.hid (λV (g:w.grownBy V (some R)) (q:Nat) (h:CellsAt V R 101 (rdr (.slice a m c) q 0 fa)) (hq:q<=m)=>my R a m c q fa f V h (hb' V g) hne hc hm hq);have KV:=Lib.hid (λV (g:w.grownBy V (some R)) (q:Nat) (h:CellsAt V R 101 (rdr (.slice a m c) q 0 fa)) (hq:q<=m)=>Fm R a m c q fa f V h (hb' V g) hne hc hm hq);have KU:=Lib.hid (λV (g:w.grownBy V (some R)) (q:Nat) (h:CellsAt V R 101 (rdr (.slice a m c) q 0 fa)) (hq:q<=m)=>Cu R a m c q fa f V h (hb' V g) hne hc hm hq);have KT:=Lib.hid (λV (g:w.grownBy V (some R)) (q:Nat) (h:CellsAt V R 101 (rdr (.slice a m c) q 0 fa)) (hq:q<=m)=>wE R a m c q fa f V h (hb' V g) hne hc hm hq)
 have S0:StF w R a m c fa (((w.alloc (.cells #[.pointer (some ⟨R,0,none⟩)] 80)).alloc (.cells #[.int .i64 0,.int .i64 0,.int .i64 0,.int .i64 0,.int .i64 0,.int .i64 0,.slice none 0 0,.slice none 0 0,.slice none 0 0,.int .i64 0,.bool false] 29)).alloc (.cells #[.int .i64 0,.int .i64 0,.int .i64 0,.int .i64 0,.int .i64 0,.int .i64 0,.slice none 0 0,.slice none 0 0,.slice none 0 0,.int .i64 0,.bool false] 29)) p #[.int .i64 0,.int .i64 0,.int .i64 0,.int .i64 0,.int .i64 0,.int .i64 0,.slice none 0 0,.slice none 0 0,.slice none 0 0,.int .i64 0,.bool false]:=by
  have B3:Below w.heap.size w (((w.alloc (.cells #[.pointer (some ⟨R,0,none⟩)] 80)).alloc (.cells #[.int .i64 0,.int .i64 0,.int .i64 0,.int .i64 0,.int .i64 0,.int .i64 0,.slice none 0 0,.slice none 0 0,.slice none 0 0,.int .i64 0,.bool false] 29)).alloc (.cells #[.int .i64 0,.int .i64 0,.int .i64 0,.int .i64 0,.int .i64 0,.int .i64 0,.slice none 0 0,.slice none 0 0,.slice none 0 0,.int .i64 0,.bool false] 29)):=(bl2 _ _ _).alloc (bl2 _ _ _).size _;refine⟨hR.below B3,CellsAt.below (World.alloc_heap_new w _) (bl2 _ _ _),?_,?_,ab B3 _,kR⟩
  .have:=World.alloc_heap_new (w.alloc (.cells #[.pointer (some ⟨R,0,none⟩)] 80)) (.cells #[.int .i64 0,.int .i64 0,.int .i64 0,.int .i64 0,.int .i64 0,.int .i64 0,.slice none 0 0,.slice none 0 0,.slice none 0 0,.int .i64 0,.bool false] 29)
   rw [World.size_alloc]at this;exact CellsAt.below this (bl1 _ _)
  .have:=World.alloc_heap_new ((w.alloc (.cells #[.pointer (some ⟨R,0,none⟩)] 80)).alloc (.cells #[.int .i64 0,.int .i64 0,.int .i64 0,.int .i64 0,.int .i64 0,.int .i64 0,.slice none 0 0,.slice none 0 0,.slice none 0 0,.int .i64 0,.bool false] 29)) (.cells #[.int .i64 0,.int .i64 0,.int .i64 0,.int .i64 0,.int .i64 0,.int .i64 0,.slice none 0 0,.slice none 0 0,.slice none 0 0,.int .i64 0,.bool false] 29)
   rw [World.size_alloc,World.size_alloc]at this;exact this
 clear hb hb' hR hne
 go_enter Try.func41,Try.ntmps41
 go_wp2_with fail
 generalize (((w.alloc (.cells #[.pointer (some ⟨R,0,none⟩)] 80)).alloc (.cells #[.int .i64 0,.int .i64 0,.int .i64 0,.int .i64 0,.int .i64 0,.int .i64 0,.slice none 0 0,.slice none 0 0,.slice none 0 0,.int .i64 0,.bool false] 29)).alloc (.cells #[.int .i64 0,.int .i64 0,.int .i64 0,.int .i64 0,.int .i64 0,.int .i64 0,.slice none 0 0,.slice none 0 0,.slice none 0 0,.int .i64 0,.bool false] 29))=W0 at S0 ⊢;have C:=KS.out _ S0.g p 1 7 8 S0.hR hp (by decide);have C:=Lib.hid C
 cases q0:bg 1 7 8 f m p with
 |error er=>
  have he:O= .error er:=by rw [H0.out];exact ar (show(bg 1 7 8) f m p=_ from q0)
  have C:=C.out;rw [q0]at C;refine C.mono ?_;rintro x w1 ⟨rfl,hg1⟩;exact⟨rfl,by rw [he],af S0.g hg1⟩
 |ok r=>
  obtain⟨x0,p0⟩:=r;have hp0:p0<=m:=(io q0).2.1;have H1:Hid (O=(az (bg 0 63 3) λx1=>az (bg 0 63 3) λx2=>az (cE 2147483647 3) λx3=>az (cE 8192 3) λx4=>az (bg 0 1 7) λx5=>az cm λx6=>az iI λx7=>az ep λx8=>az dU λx9=>dF (x0,x1,x2,x3,x4,x7,x8,x9,x6,decide (x5=1))) f m p0):=Lib.hid (by rw [H0.out];exact ap (show(bg 1 7 8) f m p=_ from q0));have C:=C.out;rw [q0]at C;refine C.mono ?_;rintro x w1 ⟨⟨rfl,hR1⟩,hg1⟩;have S:=S0.call hg1 hR1;have cR:=S.rb.cell 0;have kRB:Has w1 w.heap.size:=S.rb.lt;have kFB:Has w1 (w.heap.size+2):=S.fb.lt;have c0:(w1).cell? ⟨w.heap.size+2,0,none⟩=some (.int .i64 0):=S.fb.cell 0;have f0:=S.fb.frozen 0;have U0:StF w R a m c fa ((w1).setCell ⟨w.heap.size+2,0,none⟩ (.int .i64 x0)) p0 #[.int .i64 x0,.int .i64 0,.int .i64 0,.int .i64 0,.int .i64 0,.int .i64 0,.slice none 0 0,.slice none 0 0,.slice none 0 0,.int .i64 0,.bool false]:=S.store 0 (.int .i64 x0);have dR:=U0.rb.cell 0;have S1:=Lib.hid U0;clear C S0 q0 H0 hR1 hg1 S U0
  go_wp2_with fail
  generalize (w1).setCell ⟨w.heap.size+2,0,none⟩ (.int .i64 x0)=W1 at S1 dR ⊢;have S1:=S1.out;clear cR kRB kFB dR c0 f0;have C:=KS.out _ S1.g p0 0 63 3 S1.hR hp0 (by decide);have C:=Lib.hid C
  go_wp2_with fail
  cases q1:bg 0 63 3 f m p0 with
  |error er=>
   have he:O= .error er:=by rw [H1.out];exact ar (show(bg 0 63 3) f m p0=_ from q1)
   have C:=C.out;rw [q1]at C;refine C.mono ?_;rintro x w1 ⟨rfl,hg1⟩;exact⟨rfl,by rw [he],af S1.g hg1⟩
  |ok r=>
   obtain⟨x1,p1⟩:=r;have hp1:p1<=m:=(io q1).2.1;have H2:Hid (O=(az (bg 0 63 3) λx2=>az (cE 2147483647 3) λx3=>az (cE 8192 3) λx4=>az (bg 0 1 7) λx5=>az cm λx6=>az iI λx7=>az ep λx8=>az dU λx9=>dF (x0,x1,x2,x3,x4,x7,x8,x9,x6,decide (x5=1))) f m p1):=Lib.hid (by rw [H1.out];exact ap (show(bg 0 63 3) f m p0=_ from q1));have C:=C.out;rw [q1]at C;refine C.mono ?_;rintro x w1 ⟨⟨rfl,hR1⟩,hg1⟩;have S:=S1.call hg1 hR1;have cR:=S.rb.cell 0;have kRB:Has w1 w.heap.size:=S.rb.lt;have kFB:Has w1 (w.heap.size+2):=S.fb.lt;have c0:(w1).cell? ⟨w.heap.size+2,1,none⟩=some (.int .i64 0):=S.fb.cell 1;have f0:=S.fb.frozen 1;have U0:StF w R a m c fa ((w1).setCell ⟨w.heap.size+2,1,none⟩ (.int .i64 x1)) p1 #[.int .i64 x0,.int .i64 x1,.int .i64 0,.int .i64 0,.int .i64 0,.int .i64 0,.slice none 0 0,.slice none 0 0,.slice none 0 0,.int .i64 0,.bool false]:=S.store 1 (.int .i64 x1);have dR:=U0.rb.cell 0;have S2:=Lib.hid U0;clear C S1 q1 H1 hR1 hg1 S U0
   go_wp2_with fail
   generalize (w1).setCell ⟨w.heap.size+2,1,none⟩ (.int .i64 x1)=W2 at S2 dR ⊢;have S2:=S2.out;clear cR kRB kFB dR c0 f0;have C:=KS.out _ S2.g p1 0 63 3 S2.hR hp1 (by decide);have C:=Lib.hid C
   go_wp2_with fail
   cases q2:bg 0 63 3 f m p1 with
   |error er=>
    have he:O= .error er:=by rw [H2.out];exact ar (show(bg 0 63 3) f m p1=_ from q2)
    have C:=C.out;rw [q2]at C;refine C.mono ?_;rintro x w1 ⟨rfl,hg1⟩;exact⟨rfl,by rw [he],af S2.g hg1⟩
   |ok r=>
    obtain⟨x2,p2⟩:=r;have hp2:p2<=m:=(io q2).2.1;have H3:Hid (O=(az (cE 2147483647 3) λx3=>az (cE 8192 3) λx4=>az (bg 0 1 7) λx5=>az cm λx6=>az iI λx7=>az ep λx8=>az dU λx9=>dF (x0,x1,x2,x3,x4,x7,x8,x9,x6,decide (x5=1))) f m p2):=Lib.hid (by rw [H2.out];exact ap (show(bg 0 63 3) f m p1=_ from q2));have C:=C.out;rw [q2]at C;refine C.mono ?_;rintro x w1 ⟨⟨rfl,hR1⟩,hg1⟩;have S:=S2.call hg1 hR1;have cR:=S.rb.cell 0;have kRB:Has w1 w.heap.size:=S.rb.lt;have kFB:Has w1 (w.heap.size+2):=S.fb.lt;have c0:(w1).cell? ⟨w.heap.size+2,2,none⟩=some (.int .i64 0):=S.fb.cell 2;have f0:=S.fb.frozen 2;have U0:StF w R a m c fa ((w1).setCell ⟨w.heap.size+2,2,none⟩ (.int .i64 x2)) p2 #[.int .i64 x0,.int .i64 x1,.int .i64 x2,.int .i64 0,.int .i64 0,.int .i64 0,.slice none 0 0,.slice none 0 0,.slice none 0 0,.int .i64 0,.bool false]:=S.store 2 (.int .i64 x2);have dR:=U0.rb.cell 0;have S3:=Lib.hid U0;clear C S2 q2 H2 hR1 hg1 S U0
    go_wp2_with fail
    generalize (w1).setCell ⟨w.heap.size+2,2,none⟩ (.int .i64 x2)=W3 at S3 dR ⊢;have S3:=S3.out;clear cR kRB kFB dR c0 f0;have C:=KN.out _ S3.g p2 2147483647 3 S3.hR hp2 (by decide);have C:=Lib.hid C
    go_wp2_with fail
    cases q3:fL f m p2 2147483647 3 with
    |error er=>
     have he:O= .error er:=by rw [H3.out];exact ar (show(cE 2147483647 3) f m p2=_ from q3)
     have C:=C.out;rw [q3]at C;refine C.mono ?_;rintro x w1 ⟨rfl,hg1⟩;exact⟨rfl,by rw [he],af S3.g hg1⟩
    |ok r=>
     obtain⟨x3,p3⟩:=r;have hp3:p3<=m:=(cO q3).2.1;have H4:Hid (O=(az (cE 8192 3) λx4=>az (bg 0 1 7) λx5=>az cm λx6=>az iI λx7=>az ep λx8=>az dU λx9=>dF (x0,x1,x2,x3,x4,x7,x8,x9,x6,decide (x5=1))) f m p3):=Lib.hid (by rw [H3.out];exact ap (show(cE 2147483647 3) f m p2=_ from q3));have C:=C.out;rw [q3]at C;refine C.mono ?_;rintro x w1 ⟨⟨rfl,hR1⟩,hg1⟩;have S:=S3.call hg1 hR1;have cR:=S.rb.cell 0;have kRB:Has w1 w.heap.size:=S.rb.lt;have kFB:Has w1 (w.heap.size+2):=S.fb.lt;have c0:(w1).cell? ⟨w.heap.size+2,3,none⟩=some (.int .i64 0):=S.fb.cell 3;have f0:=S.fb.frozen 3;have U0:StF w R a m c fa ((w1).setCell ⟨w.heap.size+2,3,none⟩ (.int .i64 x3)) p3 #[.int .i64 x0,.int .i64 x1,.int .i64 x2,.int .i64 x3,.int .i64 0,.int .i64 0,.slice none 0 0,.slice none 0 0,.slice none 0 0,.int .i64 0,.bool false]:=S.store 3 (.int .i64 x3);have dR:=U0.rb.cell 0;have S4:=Lib.hid U0;clear C S3 q3 H3 hR1 hg1 S U0
     go_wp2_with fail
     generalize (w1).setCell ⟨w.heap.size+2,3,none⟩ (.int .i64 x3)=W4 at S4 dR ⊢;have S4:=S4.out;clear cR kRB kFB dR c0 f0;have C:=KN.out _ S4.g p3 8192 3 S4.hR hp3 (by decide);have C:=Lib.hid C
     go_wp2_with fail
     cases q4:fL f m p3 8192 3 with
     |error er=>
      have he:O= .error er:=by rw [H4.out];exact ar (show(cE 8192 3) f m p3=_ from q4)
      have C:=C.out;rw [q4]at C;refine C.mono ?_;rintro x w1 ⟨rfl,hg1⟩;exact⟨rfl,by rw [he],af S4.g hg1⟩
     |ok r=>
      obtain⟨x4,p4⟩:=r;have hp4:p4<=m:=(cO q4).2.1;have H5:Hid (O=(az (bg 0 1 7) λx5=>az cm λx6=>az iI λx7=>az ep λx8=>az dU λx9=>dF (x0,x1,x2,x3,x4,x7,x8,x9,x6,decide (x5=1))) f m p4):=Lib.hid (by rw [H4.out];exact ap (show(cE 8192 3) f m p3=_ from q4));have C:=C.out;rw [q4]at C;refine C.mono ?_;rintro x w1 ⟨⟨rfl,hR1⟩,hg1⟩;have S:=S4.call hg1 hR1;have cR:=S.rb.cell 0;have kRB:Has w1 w.heap.size:=S.rb.lt;have kFB:Has w1 (w.heap.size+2):=S.fb.lt;have c0:(w1).cell? ⟨w.heap.size+2,4,none⟩=some (.int .i64 0):=S.fb.cell 4;have f0:=S.fb.frozen 4;have U0:StF w R a m c fa ((w1).setCell ⟨w.heap.size+2,4,none⟩ (.int .i64 x4)) p4 #[.int .i64 x0,.int .i64 x1,.int .i64 x2,.int .i64 x3,.int .i64 x4,.int .i64 0,.slice none 0 0,.slice none 0 0,.slice none 0 0,.int .i64 0,.bool false]:=S.store 4 (.int .i64 x4);have dR:=U0.rb.cell 0;have S5:=Lib.hid U0;clear C S4 q4 H4 hR1 hg1 S U0
      go_wp2_with fail
      generalize (w1).setCell ⟨w.heap.size+2,4,none⟩ (.int .i64 x4)=W5 at S5 dR ⊢;have S5:=S5.out;clear cR kRB kFB dR c0 f0;have C:=KS.out _ S5.g p4 0 1 7 S5.hR hp4 (by decide);have C:=Lib.hid C
      go_wp2_with fail
      cases q5:bg 0 1 7 f m p4 with
      |error er=>
       have he:O= .error er:=by rw [H5.out];exact ar (show(bg 0 1 7) f m p4=_ from q5)
       have C:=C.out;rw [q5]at C;refine C.mono ?_;rintro x w1 ⟨rfl,hg1⟩;exact⟨rfl,by rw [he],af S5.g hg1⟩
      |ok r=>
       obtain⟨x5,p5⟩:=r;have hp5:p5<=m:=(io q5).2.1;have H6:Hid (O=(az cm λx6=>az iI λx7=>az ep λx8=>az dU λx9=>dF (x0,x1,x2,x3,x4,x7,x8,x9,x6,decide (x5=1))) f m p5):=Lib.hid (by rw [H5.out];exact ap (show(bg 0 1 7) f m p4=_ from q5));have C:=C.out;rw [q5]at C;refine C.mono ?_;rintro x w1 ⟨⟨rfl,hR1⟩,hg1⟩;have S:=S5.call hg1 hR1;have cR:=S.rb.cell 0;have kRB:Has w1 w.heap.size:=S.rb.lt;have kFB:Has w1 (w.heap.size+2):=S.fb.lt;have c0:(w1).cell? ⟨w.heap.size+2,10,none⟩=some (.bool false):=S.fb.cell 10;have f0:=S.fb.frozen 10;have U0:StF w R a m c fa ((w1).setCell ⟨w.heap.size+2,10,none⟩ (.bool (decide (x5=1)))) p5 #[.int .i64 x0,.int .i64 x1,.int .i64 x2,.int .i64 x3,.int .i64 x4,.int .i64 0,.slice none 0 0,.slice none 0 0,.slice none 0 0,.int .i64 0,.bool (decide (x5=1))]:=S.store 10 (.bool (decide (x5=1)));have dR:=U0.rb.cell 0;have S6:=Lib.hid U0;clear C S5 q5 H5 hR1 hg1 S U0
       go_wp2_with fail
       generalize (w1).setCell ⟨w.heap.size+2,10,none⟩ (.bool (decide (x5=1)))=W6 at S6 dR ⊢;have S6:=S6.out;clear cR kRB kFB dR c0 f0;have C:=KL.out _ S6.g p5 S6.hR hp5;have C:=Lib.hid C
       go_wp2_with fail
       cases q6:cm f m p5 with
       |error er=>
        have he:O= .error er:=by rw [H6.out];exact ar (show(cm) f m p5=_ from q6)
        have C:=C.out;rw [q6]at C;refine C.mono ?_;rintro x w1 ⟨rfl,hg1⟩;exact⟨rfl,by rw [he],af S6.g hg1⟩
       |ok r=>
        obtain⟨x6,p6⟩:=r;have hp6:p6<=m:=(dT q6).2;have H7:Hid (O=(az iI λx7=>az ep λx8=>az dU λx9=>dF (x0,x1,x2,x3,x4,x7,x8,x9,x6,decide (x5=1))) f m p6):=Lib.hid (by rw [H6.out];exact ap (show(cm) f m p5=_ from q6));have C:=C.out;rw [q6]at C;refine C.mono ?_;rintro x w1 ⟨⟨rfl,hR1⟩,hg1⟩;have S:=S6.call hg1 hR1;have cR:=S.rb.cell 0;have kRB:Has w1 w.heap.size:=S.rb.lt;have kFB:Has w1 (w.heap.size+2):=S.fb.lt;have c0:(w1).cell? ⟨w.heap.size+2,9,none⟩=some (.int .i64 0):=S.fb.cell 9;have f0:=S.fb.frozen 9;have U0:StF w R a m c fa ((w1).setCell ⟨w.heap.size+2,9,none⟩ (.int .i64 x6)) p6 #[.int .i64 x0,.int .i64 x1,.int .i64 x2,.int .i64 x3,.int .i64 x4,.int .i64 0,.slice none 0 0,.slice none 0 0,.slice none 0 0,.int .i64 x6,.bool (decide (x5=1))]:=S.store 9 (.int .i64 x6);have dR:=U0.rb.cell 0;have S7:=Lib.hid U0;clear C S6 q6 H6 hR1 hg1 S U0
        go_wp2_with fail
        generalize (w1).setCell ⟨w.heap.size+2,9,none⟩ (.int .i64 x6)=W7 at S7 dR ⊢;have S7:=S7.out;clear cR kRB kFB dR c0 f0;have C:=KV.out _ S7.g p6 S7.hR hp6;have C:=Lib.hid C
        go_wp2_with fail
        cases q7:iI f m p6 with
        |error er=>
         have he:O= .error er:=by rw [H7.out];exact ar (show(iI) f m p6=_ from q7)
         have C:=C.out;rw [q7]at C;refine C.mono ?_;rintro x w1 ⟨rfl,hg1⟩;exact⟨rfl,by rw [he],af S7.g hg1⟩
        |ok r=>
         obtain⟨⟨n7,l7⟩,p7⟩:=r;have hp7:p7<=m:=Fo q7;have H8:Hid (O=(az ep λx8=>az dU λx9=>dF (x0,x1,x2,x3,x4,(n7,l7),x8,x9,x6,decide (x5=1))) f m p7):=Lib.hid (by rw [H7.out];exact ap (show(iI) f m p6=_ from q7));have C:=C.out;rw [q7]at C;refine C.mono ?_;rintro x w1 ⟨⟨v7,rfl,hO7,hR1,hn7⟩,hg1⟩;have A7:OwnL w1 (w.heap.size+3) 56 2 v7 l7.length (uV l7):=⟨⟨_,by have:=S7.fb.lt;omega,hO7⟩,λh=>hn7 (List.length_eq_zero_iff.1 h)⟩;obtain⟨bs7,cp7,rfl⟩:=aG hO7;clear hO7 hn7;have S:=S7.call hg1 hR1;have cR:=S.rb.cell 0;have kRB:Has w1 w.heap.size:=S.rb.lt;have kFB:Has w1 (w.heap.size+2):=S.fb.lt;have c0:(w1).cell? ⟨w.heap.size+2,5,none⟩=some (.int .i64 0):=S.fb.cell 5;have f0:=S.fb.frozen 5;have U0:StF w R a m c fa ((w1).setCell ⟨w.heap.size+2,5,none⟩ (.int .i64 n7)) p7 #[.int .i64 x0,.int .i64 x1,.int .i64 x2,.int .i64 x3,.int .i64 x4,.int .i64 n7,.slice none 0 0,.slice none 0 0,.slice none 0 0,.int .i64 x6,.bool (decide (x5=1))]:=S.store 5 (.int .i64 n7);have A7:=A7.keep (ae (w1) (w.heap.size+2) 5 (.int .i64 n7)) (λr e=>by cases e;omega);have c1:((w1).setCell ⟨w.heap.size+2,5,none⟩ (.int .i64 n7)).cell? ⟨w.heap.size+2,6,none⟩=some (.slice none 0 0):=U0.fb.cell 6;have f1:=U0.fb.frozen 6;have U1:StF w R a m c fa (((w1).setCell ⟨w.heap.size+2,5,none⟩ (.int .i64 n7)).setCell ⟨w.heap.size+2,6,none⟩ (.slice bs7 l7.length cp7)) p7 #[.int .i64 x0,.int .i64 x1,.int .i64 x2,.int .i64 x3,.int .i64 x4,.int .i64 n7,.slice bs7 l7.length cp7,.slice none 0 0,.slice none 0 0,.int .i64 x6,.bool (decide (x5=1))]:=U0.store 6 (.slice bs7 l7.length cp7);have A7:=A7.keep (ae ((w1).setCell ⟨w.heap.size+2,5,none⟩ (.int .i64 n7)) (w.heap.size+2) 6 (.slice bs7 l7.length cp7)) (λr e=>by cases e;omega);have dR:=U1.rb.cell 0;have S8:=Lib.hid U1;have A7:=Lib.hid A7;clear C S7 q7 H7 hR1 hg1 S U0 U1
         go_wp2_with fail
         generalize ((w1).setCell ⟨w.heap.size+2,5,none⟩ (.int .i64 n7)).setCell ⟨w.heap.size+2,6,none⟩ (.slice bs7 l7.length cp7)=W8 at S8 dR A7 ⊢;have S8:=S8.out;have A7:=A7.out;clear cR kRB kFB dR c0 f0 c1 f1;have C:=KU.out _ S8.g p7 S8.hR hp7;have C:=Lib.hid C
         go_wp2_with fail
         cases q8:ep f m p7 with
         |error er=>
          have he:O= .error er:=by rw [H8.out];exact ar (show(ep) f m p7=_ from q8)
          have C:=C.out;rw [q8]at C;refine C.mono ?_;rintro x w1 ⟨rfl,hg1⟩;exact⟨rfl,by rw [he],af S8.g hg1⟩
         |ok r=>
          obtain⟨l8,p8⟩:=r;have hp8:p8<=m:=Cx q8;have H9:Hid (O=(az dU λx9=>dF (x0,x1,x2,x3,x4,(n7,l7),l8,x9,x6,decide (x5=1))) f m p8):=Lib.hid (by rw [H8.out];exact ap (show(ep) f m p7=_ from q8));have C:=C.out;rw [q8]at C;refine C.mono ?_;rintro x w1 ⟨⟨v8,rfl,hO8,hR1,hn8⟩,hg1⟩;have A8:OwnL w1 (w.heap.size+3) 61 3 v8 l8.length (mz .i64 .i64 .u64 l8):=⟨⟨_,by have:=S8.fb.lt;omega,hO8⟩,λh=>hn8 (List.length_eq_zero_iff.1 h)⟩;obtain⟨bs8,cp8,rfl⟩:=aG hO8;clear hO8 hn8;have A7:=A7.keep hg1 (λr e=>by cases e;omega);have S:=S8.call hg1 hR1;have cR:=S.rb.cell 0;have kRB:Has w1 w.heap.size:=S.rb.lt;have kFB:Has w1 (w.heap.size+2):=S.fb.lt;have c0:(w1).cell? ⟨w.heap.size+2,7,none⟩=some (.slice none 0 0):=S.fb.cell 7;have f0:=S.fb.frozen 7;have U0:StF w R a m c fa ((w1).setCell ⟨w.heap.size+2,7,none⟩ (.slice bs8 l8.length cp8)) p8 #[.int .i64 x0,.int .i64 x1,.int .i64 x2,.int .i64 x3,.int .i64 x4,.int .i64 n7,.slice bs7 l7.length cp7,.slice bs8 l8.length cp8,.slice none 0 0,.int .i64 x6,.bool (decide (x5=1))]:=S.store 7 (.slice bs8 l8.length cp8);have A7:=A7.keep (ae (w1) (w.heap.size+2) 7 (.slice bs8 l8.length cp8)) (λr e=>by cases e;omega);have A8:=A8.keep (ae (w1) (w.heap.size+2) 7 (.slice bs8 l8.length cp8)) (λr e=>by cases e;omega);have dR:=U0.rb.cell 0;have S9:=Lib.hid U0;have A7:=Lib.hid A7;have A8:=Lib.hid A8;clear C S8 q8 H8 hR1 hg1 S U0
          go_wp2_with fail
          generalize (w1).setCell ⟨w.heap.size+2,7,none⟩ (.slice bs8 l8.length cp8)=W9 at S9 dR A7 A8 ⊢;have S9:=S9.out;have A7:=A7.out;have A8:=A8.out;clear cR kRB kFB dR c0 f0;have C:=KT.out _ S9.g p8 S9.hR hp8;have C:=Lib.hid C
          go_wp2_with fail
          cases q9:dU f m p8 with
          |error er=>
           have he:O= .error er:=by rw [H9.out];exact ar (show(dU) f m p8=_ from q9)
           have C:=C.out;rw [q9]at C;refine C.mono ?_;rintro x w1 ⟨rfl,hg1⟩;exact⟨rfl,by rw [he],af S9.g hg1⟩
          |ok r=>
           obtain⟨l9,p9⟩:=r;have hp9:p9<=m:=Cy q9;have H10:Hid (O=(dF (x0,x1,x2,x3,x4,(n7,l7),l8,l9,x6,decide (x5=1))) f m p9):=Lib.hid (by rw [H9.out];exact ap (show(dU) f m p8=_ from q9));have C:=C.out;rw [q9]at C;refine C.mono ?_;rintro x w1 ⟨⟨v9,rfl,hO9,hR1,hn9⟩,hg1⟩;have A9:OwnL w1 (w.heap.size+3) 63 3 v9 l9.length (mz .i64 .i64 .i64 l9):=⟨⟨_,by have:=S9.fb.lt;omega,hO9⟩,λh=>hn9 (List.length_eq_zero_iff.1 h)⟩;obtain⟨bs9,cp9,rfl⟩:=aG hO9;clear hO9 hn9;have A7:=A7.keep hg1 (λr e=>by cases e;omega);have A8:=A8.keep hg1 (λr e=>by cases e;omega);have S:=S9.call hg1 hR1;have cR:=S.rb.cell 0;have kRB:Has w1 w.heap.size:=S.rb.lt;have kFB:Has w1 (w.heap.size+2):=S.fb.lt;have c0:(w1).cell? ⟨w.heap.size+2,8,none⟩=some (.slice none 0 0):=S.fb.cell 8;have f0:=S.fb.frozen 8;have U0:StF w R a m c fa ((w1).setCell ⟨w.heap.size+2,8,none⟩ (.slice bs9 l9.length cp9)) p9 #[.int .i64 x0,.int .i64 x1,.int .i64 x2,.int .i64 x3,.int .i64 x4,.int .i64 n7,.slice bs7 l7.length cp7,.slice bs8 l8.length cp8,.slice bs9 l9.length cp9,.int .i64 x6,.bool (decide (x5=1))]:=S.store 8 (.slice bs9 l9.length cp9);have A7:=A7.keep (ae (w1) (w.heap.size+2) 8 (.slice bs9 l9.length cp9)) (λr e=>by cases e;omega);have A8:=A8.keep (ae (w1) (w.heap.size+2) 8 (.slice bs9 l9.length cp9)) (λr e=>by cases e;omega);have A9:=A9.keep (ae (w1) (w.heap.size+2) 8 (.slice bs9 l9.length cp9)) (λr e=>by cases e;omega);have dR:=U0.rb.cell 0;have S10:=Lib.hid U0;have A7:=Lib.hid A7;have A8:=Lib.hid A8;have A9:=Lib.hid A9;clear C S9 q9 H9 hR1 hg1 S U0
           go_upto_region 12 with fail
           generalize (w1).setCell ⟨w.heap.size+2,8,none⟩ (.slice bs9 l9.length cp9)=W10 at S10 dR A7 A8 A9 ⊢;clear cR kRB kFB dR c0 f0;have S10:=S10.out;have A7:=A7.out;have A8:=A8.out;have A9:=A9.out;have he:O= .ok ((x0,x1,x2,x3,x4,(n7,l7),l8,l9,x6,decide (x5=1)),p9):=by rw [H10.out];rfl
           clear H10;subst he;obtain⟨B5,hB5⟩:∃B5,Hid (B5=decide (x5=1)):=⟨_,Lib.hid rfl⟩;rw [<-hB5.out]at S10;have t0:W10.cell? ⟨w.heap.size+2,0,none⟩=some (.int .i64 x0):=S10.fb.cell 0;have t1:W10.cell? ⟨w.heap.size+2,1,none⟩=some (.int .i64 x1):=S10.fb.cell 1;have t2:W10.cell? ⟨w.heap.size+2,2,none⟩=some (.int .i64 x2):=S10.fb.cell 2;have t3:W10.cell? ⟨w.heap.size+2,3,none⟩=some (.int .i64 x3):=S10.fb.cell 3;have t4:W10.cell? ⟨w.heap.size+2,4,none⟩=some (.int .i64 x4):=S10.fb.cell 4;have t5:W10.cell? ⟨w.heap.size+2,5,none⟩=some (.int .i64 n7):=S10.fb.cell 5;have t6:W10.cell? ⟨w.heap.size+2,6,none⟩=some (.slice bs7 l7.length cp7):=S10.fb.cell 6;have t7:W10.cell? ⟨w.heap.size+2,7,none⟩=some (.slice bs8 l8.length cp8):=S10.fb.cell 7;have t8:W10.cell? ⟨w.heap.size+2,8,none⟩=some (.slice bs9 l9.length cp9):=S10.fb.cell 8;have t9:W10.cell? ⟨w.heap.size+2,9,none⟩=some (.int .i64 x6):=S10.fb.cell 9;have t10:W10.cell? ⟨w.heap.size+2,10,none⟩=some (.bool B5):=S10.fb.cell 10;have P0:=S10.qb;have u0:(W10).cell? ⟨w.heap.size+1,0,none⟩=some (.int .i64 0):=P0.cell 0;have g0:=P0.frozen 0;have P1:CellsAt ((W10).setCell ⟨w.heap.size+1,0,none⟩ (.int .i64 x0)) (w.heap.size+1) 29 #[.int .i64 x0,.int .i64 0,.int .i64 0,.int .i64 0,.int .i64 0,.int .i64 0,.slice none 0 0,.slice none 0 0,.slice none 0 0,.int .i64 0,.bool false]:=P0.set 0 (.int .i64 x0);have u1:((W10).setCell ⟨w.heap.size+1,0,none⟩ (.int .i64 x0)).cell? ⟨w.heap.size+1,1,none⟩=some (.int .i64 0):=P1.cell 1;have g1:=P1.frozen 1;have P2:CellsAt (((W10).setCell ⟨w.heap.size+1,0,none⟩ (.int .i64 x0)).setCell ⟨w.heap.size+1,1,none⟩ (.int .i64 x1)) (w.heap.size+1) 29 #[.int .i64 x0,.int .i64 x1,.int .i64 0,.int .i64 0,.int .i64 0,.int .i64 0,.slice none 0 0,.slice none 0 0,.slice none 0 0,.int .i64 0,.bool false]:=P1.set 1 (.int .i64 x1);have u2:(((W10).setCell ⟨w.heap.size+1,0,none⟩ (.int .i64 x0)).setCell ⟨w.heap.size+1,1,none⟩ (.int .i64 x1)).cell? ⟨w.heap.size+1,2,none⟩=some (.int .i64 0):=P2.cell 2;have g2:=P2.frozen 2;have P3:CellsAt ((((W10).setCell ⟨w.heap.size+1,0,none⟩ (.int .i64 x0)).setCell ⟨w.heap.size+1,1,none⟩ (.int .i64 x1)).setCell ⟨w.heap.size+1,2,none⟩ (.int .i64 x2)) (w.heap.size+1) 29 #[.int .i64 x0,.int .i64 x1,.int .i64 x2,.int .i64 0,.int .i64 0,.int .i64 0,.slice none 0 0,.slice none 0 0,.slice none 0 0,.int .i64 0,.bool false]:=P2.set 2 (.int .i64 x2);have u3:((((W10).setCell ⟨w.heap.size+1,0,none⟩ (.int .i64 x0)).setCell ⟨w.heap.size+1,1,none⟩ (.int .i64 x1)).setCell ⟨w.heap.size+1,2,none⟩ (.int .i64 x2)).cell? ⟨w.heap.size+1,3,none⟩=some (.int .i64 0):=P3.cell 3;have g3:=P3.frozen 3;have P4:CellsAt (((((W10).setCell ⟨w.heap.size+1,0,none⟩ (.int .i64 x0)).setCell ⟨w.heap.size+1,1,none⟩ (.int .i64 x1)).setCell ⟨w.heap.size+1,2,none⟩ (.int .i64 x2)).setCell ⟨w.heap.size+1,3,none⟩ (.int .i64 x3)) (w.heap.size+1) 29 #[.int .i64 x0,.int .i64 x1,.int .i64 x2,.int .i64 x3,.int .i64 0,.int .i64 0,.slice none 0 0,.slice none 0 0,.slice none 0 0,.int .i64 0,.bool false]:=P3.set 3 (.int .i64 x3);have u4:(((((W10).setCell ⟨w.heap.size+1,0,none⟩ (.int .i64 x0)).setCell ⟨w.heap.size+1,1,none⟩ (.int .i64 x1)).setCell ⟨w.heap.size+1,2,none⟩ (.int .i64 x2)).setCell ⟨w.heap.size+1,3,none⟩ (.int .i64 x3)).cell? ⟨w.heap.size+1,4,none⟩=some (.int .i64 0):=P4.cell 4;have g4:=P4.frozen 4;have P5:CellsAt ((((((W10).setCell ⟨w.heap.size+1,0,none⟩ (.int .i64 x0)).setCell ⟨w.heap.size+1,1,none⟩ (.int .i64 x1)).setCell ⟨w.heap.size+1,2,none⟩ (.int .i64 x2)).setCell ⟨w.heap.size+1,3,none⟩ (.int .i64 x3)).setCell ⟨w.heap.size+1,4,none⟩ (.int .i64 x4)) (w.heap.size+1) 29 #[.int .i64 x0,.int .i64 x1,.int .i64 x2,.int .i64 x3,.int .i64 x4,.int .i64 0,.slice none 0 0,.slice none 0 0,.slice none 0 0,.int .i64 0,.bool false]:=P4.set 4 (.int .i64 x4);have u5:((((((W10).setCell ⟨w.heap.size+1,0,none⟩ (.int .i64 x0)).setCell ⟨w.heap.size+1,1,none⟩ (.int .i64 x1)).setCell ⟨w.heap.size+1,2,none⟩ (.int .i64 x2)).setCell ⟨w.heap.size+1,3,none⟩ (.int .i64 x3)).setCell ⟨w.heap.size+1,4,none⟩ (.int .i64 x4)).cell? ⟨w.heap.size+1,5,none⟩=some (.int .i64 0):=P5.cell 5;have g5:=P5.frozen 5;have P6:CellsAt (((((((W10).setCell ⟨w.heap.size+1,0,none⟩ (.int .i64 x0)).setCell ⟨w.heap.size+1,1,none⟩ (.int .i64 x1)).setCell ⟨w.heap.size+1,2,none⟩ (.int .i64 x2)).setCell ⟨w.heap.size+1,3,none⟩ (.int .i64 x3)).setCell ⟨w.heap.size+1,4,none⟩ (.int .i64 x4)).setCell ⟨w.heap.size+1,5,none⟩ (.int .i64 n7)) (w.heap.size+1) 29 #[.int .i64 x0,.int .i64 x1,.int .i64 x2,.int .i64 x3,.int .i64 x4,.int .i64 n7,.slice none 0 0,.slice none 0 0,.slice none 0 0,.int .i64 0,.bool false]:=P5.set 5 (.int .i64 n7);have u6:(((((((W10).setCell ⟨w.heap.size+1,0,none⟩ (.int .i64 x0)).setCell ⟨w.heap.size+1,1,none⟩ (.int .i64 x1)).setCell ⟨w.heap.size+1,2,none⟩ (.int .i64 x2)).setCell ⟨w.heap.size+1,3,none⟩ (.int .i64 x3)).setCell ⟨w.heap.size+1,4,none⟩ (.int .i64 x4)).setCell ⟨w.heap.size+1,5,none⟩ (.int .i64 n7)).cell? ⟨w.heap.size+1,6,none⟩=some (.slice none 0 0):=P6.cell 6;have g6:=P6.frozen 6;have P7:CellsAt ((((((((W10).setCell ⟨w.heap.size+1,0,none⟩ (.int .i64 x0)).setCell ⟨w.heap.size+1,1,none⟩ (.int .i64 x1)).setCell ⟨w.heap.size+1,2,none⟩ (.int .i64 x2)).setCell ⟨w.heap.size+1,3,none⟩ (.int .i64 x3)).setCell ⟨w.heap.size+1,4,none⟩ (.int .i64 x4)).setCell ⟨w.heap.size+1,5,none⟩ (.int .i64 n7)).setCell ⟨w.heap.size+1,6,none⟩ (.slice bs7 l7.length cp7)) (w.heap.size+1) 29 #[.int .i64 x0,.int .i64 x1,.int .i64 x2,.int .i64 x3,.int .i64 x4,.int .i64 n7,.slice bs7 l7.length cp7,.slice none 0 0,.slice none 0 0,.int .i64 0,.bool false]:=P6.set 6 (.slice bs7 l7.length cp7);have u7:((((((((W10).setCell ⟨w.heap.size+1,0,none⟩ (.int .i64 x0)).setCell ⟨w.heap.size+1,1,none⟩ (.int .i64 x1)).setCell ⟨w.heap.size+1,2,none⟩ (.int .i64 x2)).setCell ⟨w.heap.size+1,3,none⟩ (.int .i64 x3)).setCell ⟨w.heap.size+1,4,none⟩ (.int .i64 x4)).setCell ⟨w.heap.size+1,5,none⟩ (.int .i64 n7)).setCell ⟨w.heap.size+1,6,none⟩ (.slice bs7 l7.length cp7)).cell? ⟨w.heap.size+1,7,none⟩=some (.slice none 0 0):=P7.cell 7;have g7:=P7.frozen 7;have P8:CellsAt (((((((((W10).setCell ⟨w.heap.size+1,0,none⟩ (.int .i64 x0)).setCell ⟨w.heap.size+1,1,none⟩ (.int .i64 x1)).setCell ⟨w.heap.size+1,2,none⟩ (.int .i64 x2)).setCell ⟨w.heap.size+1,3,none⟩ (.int .i64 x3)).setCell ⟨w.heap.size+1,4,none⟩ (.int .i64 x4)).setCell ⟨w.heap.size+1,5,none⟩ (.int .i64 n7)).setCell ⟨w.heap.size+1,6,none⟩ (.slice bs7 l7.length cp7)).setCell ⟨w.heap.size+1,7,none⟩ (.slice bs8 l8.length cp8)) (w.heap.size+1) 29 #[.int .i64 x0,.int .i64 x1,.int .i64 x2,.int .i64 x3,.int .i64 x4,.int .i64 n7,.slice bs7 l7.length cp7,.slice bs8 l8.length cp8,.slice none 0 0,.int .i64 0,.bool false]:=P7.set 7 (.slice bs8 l8.length cp8);have u8:(((((((((W10).setCell ⟨w.heap.size+1,0,none⟩ (.int .i64 x0)).setCell ⟨w.heap.size+1,1,none⟩ (.int .i64 x1)).setCell ⟨w.heap.size+1,2,none⟩ (.int .i64 x2)).setCell ⟨w.heap.size+1,3,none⟩ (.int .i64 x3)).setCell ⟨w.heap.size+1,4,none⟩ (.int .i64 x4)).setCell ⟨w.heap.size+1,5,none⟩ (.int .i64 n7)).setCell ⟨w.heap.size+1,6,none⟩ (.slice bs7 l7.length cp7)).setCell ⟨w.heap.size+1,7,none⟩ (.slice bs8 l8.length cp8)).cell? ⟨w.heap.size+1,8,none⟩=some (.slice none 0 0):=P8.cell 8;have g8:=P8.frozen 8;have P9:CellsAt ((((((((((W10).setCell ⟨w.heap.size+1,0,none⟩ (.int .i64 x0)).setCell ⟨w.heap.size+1,1,none⟩ (.int .i64 x1)).setCell ⟨w.heap.size+1,2,none⟩ (.int .i64 x2)).setCell ⟨w.heap.size+1,3,none⟩ (.int .i64 x3)).setCell ⟨w.heap.size+1,4,none⟩ (.int .i64 x4)).setCell ⟨w.heap.size+1,5,none⟩ (.int .i64 n7)).setCell ⟨w.heap.size+1,6,none⟩ (.slice bs7 l7.length cp7)).setCell ⟨w.heap.size+1,7,none⟩ (.slice bs8 l8.length cp8)).setCell ⟨w.heap.size+1,8,none⟩ (.slice bs9 l9.length cp9)) (w.heap.size+1) 29 #[.int .i64 x0,.int .i64 x1,.int .i64 x2,.int .i64 x3,.int .i64 x4,.int .i64 n7,.slice bs7 l7.length cp7,.slice bs8 l8.length cp8,.slice bs9 l9.length cp9,.int .i64 0,.bool false]:=P8.set 8 (.slice bs9 l9.length cp9);have u9:((((((((((W10).setCell ⟨w.heap.size+1,0,none⟩ (.int .i64 x0)).setCell ⟨w.heap.size+1,1,none⟩ (.int .i64 x1)).setCell ⟨w.heap.size+1,2,none⟩ (.int .i64 x2)).setCell ⟨w.heap.size+1,3,none⟩ (.int .i64 x3)).setCell ⟨w.heap.size+1,4,none⟩ (.int .i64 x4)).setCell ⟨w.heap.size+1,5,none⟩ (.int .i64 n7)).setCell ⟨w.heap.size+1,6,none⟩ (.slice bs7 l7.length cp7)).setCell ⟨w.heap.size+1,7,none⟩ (.slice bs8 l8.length cp8)).setCell ⟨w.heap.size+1,8,none⟩ (.slice bs9 l9.length cp9)).cell? ⟨w.heap.size+1,9,none⟩=some (.int .i64 0):=P9.cell 9;have g9:=P9.frozen 9;have P10:CellsAt (((((((((((W10).setCell ⟨w.heap.size+1,0,none⟩ (.int .i64 x0)).setCell ⟨w.heap.size+1,1,none⟩ (.int .i64 x1)).setCell ⟨w.heap.size+1,2,none⟩ (.int .i64 x2)).setCell ⟨w.heap.size+1,3,none⟩ (.int .i64 x3)).setCell ⟨w.heap.size+1,4,none⟩ (.int .i64 x4)).setCell ⟨w.heap.size+1,5,none⟩ (.int .i64 n7)).setCell ⟨w.heap.size+1,6,none⟩ (.slice bs7 l7.length cp7)).setCell ⟨w.heap.size+1,7,none⟩ (.slice bs8 l8.length cp8)).setCell ⟨w.heap.size+1,8,none⟩ (.slice bs9 l9.length cp9)).setCell ⟨w.heap.size+1,9,none⟩ (.int .i64 x6)) (w.heap.size+1) 29 #[.int .i64 x0,.int .i64 x1,.int .i64 x2,.int .i64 x3,.int .i64 x4,.int .i64 n7,.slice bs7 l7.length cp7,.slice bs8 l8.length cp8,.slice bs9 l9.length cp9,.int .i64 x6,.bool false]:=P9.set 9 (.int .i64 x6);have u10:(((((((((((W10).setCell ⟨w.heap.size+1,0,none⟩ (.int .i64 x0)).setCell ⟨w.heap.size+1,1,none⟩ (.int .i64 x1)).setCell ⟨w.heap.size+1,2,none⟩ (.int .i64 x2)).setCell ⟨w.heap.size+1,3,none⟩ (.int .i64 x3)).setCell ⟨w.heap.size+1,4,none⟩ (.int .i64 x4)).setCell ⟨w.heap.size+1,5,none⟩ (.int .i64 n7)).setCell ⟨w.heap.size+1,6,none⟩ (.slice bs7 l7.length cp7)).setCell ⟨w.heap.size+1,7,none⟩ (.slice bs8 l8.length cp8)).setCell ⟨w.heap.size+1,8,none⟩ (.slice bs9 l9.length cp9)).setCell ⟨w.heap.size+1,9,none⟩ (.int .i64 x6)).cell? ⟨w.heap.size+1,10,none⟩=some (.bool false):=P10.cell 10;have g10:=P10.frozen 10;have P11:CellsAt ((((((((((((W10).setCell ⟨w.heap.size+1,0,none⟩ (.int .i64 x0)).setCell ⟨w.heap.size+1,1,none⟩ (.int .i64 x1)).setCell ⟨w.heap.size+1,2,none⟩ (.int .i64 x2)).setCell ⟨w.heap.size+1,3,none⟩ (.int .i64 x3)).setCell ⟨w.heap.size+1,4,none⟩ (.int .i64 x4)).setCell ⟨w.heap.size+1,5,none⟩ (.int .i64 n7)).setCell ⟨w.heap.size+1,6,none⟩ (.slice bs7 l7.length cp7)).setCell ⟨w.heap.size+1,7,none⟩ (.slice bs8 l8.length cp8)).setCell ⟨w.heap.size+1,8,none⟩ (.slice bs9 l9.length cp9)).setCell ⟨w.heap.size+1,9,none⟩ (.int .i64 x6)).setCell ⟨w.heap.size+1,10,none⟩ (.bool B5)) (w.heap.size+1) 29 #[.int .i64 x0,.int .i64 x1,.int .i64 x2,.int .i64 x3,.int .i64 x4,.int .i64 n7,.slice bs7 l7.length cp7,.slice bs8 l8.length cp8,.slice bs9 l9.length cp9,.int .i64 x6,.bool B5]:=P10.set 10 (.bool B5);have kF:Has W10 (w.heap.size+2):=S10.fb.lt;have kQ:Has W10 (w.heap.size+1):=S10.qb.lt;have R0:=S10.hR;have G0:=S10.g;have R1:=au R0 (show R≠w.heap.size+1 by omega) (.int .i64 x0) 0;have G1:=bB G0 (w.heap.size+1) 0 (.int .i64 x0) (by omega);have A7:=A7.keep (ae _ (w.heap.size+1) 0 (.int .i64 x0)) (λr e=>by cases e;omega);have A8:=A8.keep (ae _ (w.heap.size+1) 0 (.int .i64 x0)) (λr e=>by cases e;omega);have A9:=A9.keep (ae _ (w.heap.size+1) 0 (.int .i64 x0)) (λr e=>by cases e;omega);have R2:=au R1 (show R≠w.heap.size+1 by omega) (.int .i64 x1) 1;have G2:=bB G1 (w.heap.size+1) 1 (.int .i64 x1) (by omega);have A7:=A7.keep (ae _ (w.heap.size+1) 1 (.int .i64 x1)) (λr e=>by cases e;omega);have A8:=A8.keep (ae _ (w.heap.size+1) 1 (.int .i64 x1)) (λr e=>by cases e;omega);have A9:=A9.keep (ae _ (w.heap.size+1) 1 (.int .i64 x1)) (λr e=>by cases e;omega);have R3:=au R2 (show R≠w.heap.size+1 by omega) (.int .i64 x2) 2;have G3:=bB G2 (w.heap.size+1) 2 (.int .i64 x2) (by omega);have A7:=A7.keep (ae _ (w.heap.size+1) 2 (.int .i64 x2)) (λr e=>by cases e;omega);have A8:=A8.keep (ae _ (w.heap.size+1) 2 (.int .i64 x2)) (λr e=>by cases e;omega);have A9:=A9.keep (ae _ (w.heap.size+1) 2 (.int .i64 x2)) (λr e=>by cases e;omega);have R4:=au R3 (show R≠w.heap.size+1 by omega) (.int .i64 x3) 3;have G4:=bB G3 (w.heap.size+1) 3 (.int .i64 x3) (by omega);have A7:=A7.keep (ae _ (w.heap.size+1) 3 (.int .i64 x3)) (λr e=>by cases e;omega);have A8:=A8.keep (ae _ (w.heap.size+1) 3 (.int .i64 x3)) (λr e=>by cases e;omega);have A9:=A9.keep (ae _ (w.heap.size+1) 3 (.int .i64 x3)) (λr e=>by cases e;omega);have R5:=au R4 (show R≠w.heap.size+1 by omega) (.int .i64 x4) 4;have G5:=bB G4 (w.heap.size+1) 4 (.int .i64 x4) (by omega);have A7:=A7.keep (ae _ (w.heap.size+1) 4 (.int .i64 x4)) (λr e=>by cases e;omega);have A8:=A8.keep (ae _ (w.heap.size+1) 4 (.int .i64 x4)) (λr e=>by cases e;omega);have A9:=A9.keep (ae _ (w.heap.size+1) 4 (.int .i64 x4)) (λr e=>by cases e;omega);have R6:=au R5 (show R≠w.heap.size+1 by omega) (.int .i64 n7) 5;have G6:=bB G5 (w.heap.size+1) 5 (.int .i64 n7) (by omega);have A7:=A7.keep (ae _ (w.heap.size+1) 5 (.int .i64 n7)) (λr e=>by cases e;omega);have A8:=A8.keep (ae _ (w.heap.size+1) 5 (.int .i64 n7)) (λr e=>by cases e;omega);have A9:=A9.keep (ae _ (w.heap.size+1) 5 (.int .i64 n7)) (λr e=>by cases e;omega);have R7:=au R6 (show R≠w.heap.size+1 by omega) (.slice bs7 l7.length cp7) 6;have G7:=bB G6 (w.heap.size+1) 6 (.slice bs7 l7.length cp7) (by omega);have A7:=A7.keep (ae _ (w.heap.size+1) 6 (.slice bs7 l7.length cp7)) (λr e=>by cases e;omega);have A8:=A8.keep (ae _ (w.heap.size+1) 6 (.slice bs7 l7.length cp7)) (λr e=>by cases e;omega);have A9:=A9.keep (ae _ (w.heap.size+1) 6 (.slice bs7 l7.length cp7)) (λr e=>by cases e;omega);have R8:=au R7 (show R≠w.heap.size+1 by omega) (.slice bs8 l8.length cp8) 7;have G8:=bB G7 (w.heap.size+1) 7 (.slice bs8 l8.length cp8) (by omega);have A7:=A7.keep (ae _ (w.heap.size+1) 7 (.slice bs8 l8.length cp8)) (λr e=>by cases e;omega);have A8:=A8.keep (ae _ (w.heap.size+1) 7 (.slice bs8 l8.length cp8)) (λr e=>by cases e;omega);have A9:=A9.keep (ae _ (w.heap.size+1) 7 (.slice bs8 l8.length cp8)) (λr e=>by cases e;omega);have R9:=au R8 (show R≠w.heap.size+1 by omega) (.slice bs9 l9.length cp9) 8;have G9:=bB G8 (w.heap.size+1) 8 (.slice bs9 l9.length cp9) (by omega);have A7:=A7.keep (ae _ (w.heap.size+1) 8 (.slice bs9 l9.length cp9)) (λr e=>by cases e;omega);have A8:=A8.keep (ae _ (w.heap.size+1) 8 (.slice bs9 l9.length cp9)) (λr e=>by cases e;omega);have A9:=A9.keep (ae _ (w.heap.size+1) 8 (.slice bs9 l9.length cp9)) (λr e=>by cases e;omega);have R10:=au R9 (show R≠w.heap.size+1 by omega) (.int .i64 x6) 9;have G10:=bB G9 (w.heap.size+1) 9 (.int .i64 x6) (by omega);have A7:=A7.keep (ae _ (w.heap.size+1) 9 (.int .i64 x6)) (λr e=>by cases e;omega);have A8:=A8.keep (ae _ (w.heap.size+1) 9 (.int .i64 x6)) (λr e=>by cases e;omega);have A9:=A9.keep (ae _ (w.heap.size+1) 9 (.int .i64 x6)) (λr e=>by cases e;omega);have R11:=au R10 (show R≠w.heap.size+1 by omega) (.bool B5) 10;have G11:=bB G10 (w.heap.size+1) 10 (.bool B5) (by omega);have A7:=A7.keep (ae _ (w.heap.size+1) 10 (.bool B5)) (λr e=>by cases e;omega);have A8:=A8.keep (ae _ (w.heap.size+1) 10 (.bool B5)) (λr e=>by cases e;omega);have A9:=A9.keep (ae _ (w.heap.size+1) 10 (.bool B5)) (λr e=>by cases e;omega);have Y:=Lib.hid (And.intro P11 (And.intro (A7.mono (show w.heap.size<=w.heap.size+3 by omega)) (And.intro (A8.mono (show w.heap.size<=w.heap.size+3 by omega)) (And.intro (A9.mono (show w.heap.size<=w.heap.size+3 by omega)) (And.intro R11 G11)))));clear P0 P1 P2 P3 P4 P5 P6 P7 P8 P9 P10 P11 R0 R1 R2 R3 R4 R5 R6 R7 R8 R9 R10 R11 G0 G1 G2 G3 G4 G5 G6 G7 G8 G9 G10 G11 A7 A8 A9 S10
           go_wp2_with fail
           (try simp only [Exit.inBlock,Exit.then])
           generalize (((((((((((W10).setCell ⟨w.heap.size+1,0,none⟩ (.int .i64 x0)).setCell ⟨w.heap.size+1,1,none⟩ (.int .i64 x1)).setCell ⟨w.heap.size+1,2,none⟩ (.int .i64 x2)).setCell ⟨w.heap.size+1,3,none⟩ (.int .i64 x3)).setCell ⟨w.heap.size+1,4,none⟩ (.int .i64 x4)).setCell ⟨w.heap.size+1,5,none⟩ (.int .i64 n7)).setCell ⟨w.heap.size+1,6,none⟩ (.slice bs7 l7.length cp7)).setCell ⟨w.heap.size+1,7,none⟩ (.slice bs8 l8.length cp8)).setCell ⟨w.heap.size+1,8,none⟩ (.slice bs9 l9.length cp9)).setCell ⟨w.heap.size+1,9,none⟩ (.int .i64 x6)).setCell ⟨w.heap.size+1,10,none⟩ (.bool B5)=WF at Y ⊢;refine bodyPost_ret (results_cell_row rfl _ _ (w.heap.size+1) 29 _ _ _ rfl Y.out.1 Try.underlying29 rfl (by kernel_rfl)) rfl ⟨?_,Y.out.2.2.2.2.2⟩;exact⟨_,_,_,by rw [hB5.out],Y.out.2.1,Y.out.2.2.1,Y.out.2.2.2.1,Y.out.2.2.2.2.1⟩
end
end Go.Proofs.Ytkmbihigeeclbaa
