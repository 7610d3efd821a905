/- Texts of a claim, joined. -/
import Derived.Test.YtoamaaicfjkmhaaGreatZCU11
import Derived.Laws.BytesArg
import Derived.Lib.BufferRead
import Derived.Laws.Rows
import Derived.Laws.AppendOwn
set_option linter.unusedVariables false
set_option linter.unusedSimpArgs false
namespace Go.Proofs.YtoamaaicfjkmhaaGreat
noncomputable section
open Go.RowKit Go.Sort
theorem fq{w w1:World}{v:Value}{t:TypeId}{R:Nat}(hR:R<w.heap.size)(h:(w.alloc (.cells #[v] t)).grownBy w1 (some R)):w1.cell? ⟨w.heap.size,0,none⟩=some v:=
 (World.cell?_of_block (h.block w.heap.size (by simp) (by simp;omega))).trans (by simp [go_sem])
theorem FQ(R:Nat)(a:Option Addr)(m c p:Nat)(fa X most e2:Int)(f:Nat->Int)(w:World)(hR:CellsAt w R 127 (rdr (.slice a m c) p 0 fa))(hb:Rd8 w a m f)(hne:∀b,a=some b->b.block≠R)(hc:m<=c)(hm:m<=100000)(hp:p+4<=m)(hX:X=le (λi=>f (p+i)) 4)(hx0:0<=X)(hx1:X<=4294967295)(hmost:¬most<X):
  Calls Tryz.prog 67 #[ldr R,.int .i64 most,.int .i64 e2] w λx w'=>x= .returned (.int .i64 X)/\CellsAt w' R 127 (rdr (.slice a m c) (p+4:Nat) 0 fa)/\w.grownBy w' (some R):=by
 have U:Hid (∀w,CellsAt w R 127 (rdr (.slice a m c) p 0 fa)->Rd8 w a m f->Calls Tryz.prog 95 #[.pointer (some ⟨R,0,none⟩)] w λx w'=>x= .returned (.int .u32 X)/\CellsAt w' R 127 (rdr (.slice a m c) (p+4:Nat) 0 fa)/\w.grownBy w' (some R)):=by
  refine Lib.hid λw h1 h2=> ?_
  have:=tf R a m c p 0 fa f w h1 h2 hne hc hm (by omega)
  obtain⟨s1,s2,s3,s4⟩:=iW fa m p 4 (by decide) (by omega);rw [s1,s2,s3,s4]at this;rw [hX];simpa using this
 have T:=Lib.hid (λw (h:CellsAt w R 127 (rdr (.slice a m c) p 0 fa))=>lC R (.slice a m c) p 0 fa w h);have V:=Lib.hid (λw (h:CellsAt w R 127 (rdr (.slice a m c) (p+4:Nat) 0 fa))=>fJ R (.slice a m c) (p+4) fa e2 p w h);have kR:R<w.heap.size:=hR.lt;have b1:decide (most<X)=false:=decide_eq_false hmost;have hR0:=hR.below (bl1 w (Obj.cells #[Value.pointer (some {block:=R,off:=0})] 98));have hb0:=hb.grown (ab (bl1 w (Obj.cells #[Value.pointer (some {block:=R,off:=0})] 98)) none) (λ_ _=>by simp);clear hX hb hne
 go_enter Tryz.func67,Tryz.ntmps67
 go_wp2_with fail
 refine(T.out _ hR0).mono ?_;rintro x w1 ⟨rfl,h1⟩;have c0:w1.cell? ⟨w.heap.size,0,none⟩=some (.pointer (some ⟨R,0,none⟩)):=fq kR (ab h1 _)
 go_wp2_with fail
 refine(U.out _ (hR0.below h1) (hb0.grown (ab h1 none) (λ_ _=>by simp))).mono ?_;rintro x w2 ⟨rfl,h2,h3⟩;have c0:w2.cell? ⟨w.heap.size,0,none⟩=some (.pointer (some ⟨R,0,none⟩)):=fq kR (ae (ab h1 _) h3);have g:w.grownBy w2 (some R):=ae (ab (bl1 _ _) _) (ae (ab h1 _) h3)
 go_wp2_with fail
 refine(V.out _ h2).mono ?_;rintro x w3 ⟨rfl,h4⟩
 go_wp2_with fail
 go_ret
 exact⟨rfl,h2.below h4,ae g (ab h4 _)⟩
theorem Ag(R:Nat)(a:Option Addr)(m c p:Nat)(fa X most e2:Int)(f:Nat->Int)(w:World)(hR:CellsAt w R 127 (rdr (.slice a m c) p 0 fa))(hb:Rd8 w a m f)(hne:∀b,a=some b->b.block≠R)(hc:m<=c)(hm:m<=100000)(hp:p+4<=m)(hX:X=le (λi=>f (p+i)) 4)(hx0:0<=X)(hx1:X<=4294967295)(hmost:most<X)(he2:¬e2=0):
  Calls Tryz.prog 67 #[ldr R,.int .i64 most,.int .i64 e2] w λx w'=>x= .panicked [fZ e2 p]/\w.grownBy w' (some R):=by
 have U:Hid (∀w,CellsAt w R 127 (rdr (.slice a m c) p 0 fa)->Rd8 w a m f->Calls Tryz.prog 95 #[.pointer (some ⟨R,0,none⟩)] w λx w'=>x= .returned (.int .u32 X)/\CellsAt w' R 127 (rdr (.slice a m c) (p+4:Nat) 0 fa)/\w.grownBy w' (some R)):=by
  refine Lib.hid λw h1 h2=> ?_
  have:=tf R a m c p 0 fa f w h1 h2 hne hc hm (by omega)
  obtain⟨s1,s2,s3,s4⟩:=iW fa m p 4 (by decide) (by omega);rw [s1,s2,s3,s4]at this;rw [hX];simpa using this
 have T:=Lib.hid (λw (h:CellsAt w R 127 (rdr (.slice a m c) p 0 fa))=>lC R (.slice a m c) p 0 fa w h);have V:=Lib.hid (λw (h:CellsAt w R 127 (rdr (.slice a m c) (p+4:Nat) 0 fa))=>gG R (.slice a m c) (p+4) fa e2 p w h he2);have kR:R<w.heap.size:=hR.lt;have b1:decide (most<X)=true:=decide_eq_true hmost;have hR0:=hR.below (bl1 w (Obj.cells #[Value.pointer (some {block:=R,off:=0})] 98));have hb0:=hb.grown (ab (bl1 w (Obj.cells #[Value.pointer (some {block:=R,off:=0})] 98)) none) (λ_ _=>by simp);clear hX hb hne
 go_enter Tryz.func67,Tryz.ntmps67
 go_wp2_with fail
 refine(T.out _ hR0).mono ?_;rintro x w1 ⟨rfl,h1⟩;have c0:w1.cell? ⟨w.heap.size,0,none⟩=some (.pointer (some ⟨R,0,none⟩)):=fq kR (ab h1 _)
 go_wp2_with fail
 refine(U.out _ (hR0.below h1) (hb0.grown (ab h1 none) (λ_ _=>by simp))).mono ?_;rintro x w2 ⟨rfl,h2,h3⟩;have c0:w2.cell? ⟨w.heap.size,0,none⟩=some (.pointer (some ⟨R,0,none⟩)):=fq kR (ae (ab h1 _) h3);have g:w.grownBy w2 (some R):=ae (ab (bl1 _ _) _) (ae (ab h1 _) h3)
 go_wp2_with fail
 refine(V.out _ h2).mono ?_;rintro x w3 ⟨rfl,h4⟩
 go_wp2_with fail
 exact⟨rfl,rfl,ae g h4⟩
theorem yz(R:Nat)(a:Option Addr)(m c p:Nat)(fa most e2:Int)(f:Nat->Int)(w:World)(hR:CellsAt w R 127 (rdr (.slice a m c) p 0 fa))(hb:Rd8 w a m f)(hne:∀b,a=some b->b.block≠R)(hc:m<=c)(hm:m<=100000)(hp:p<=m)(hs:¬p+4<=m):
  Calls Tryz.prog 67 #[ldr R,.int .i64 most,.int .i64 e2] w λx w'=>x= .panicked [fZ 2 m]/\w.grownBy w' (some R):=by
 have U:Hid (∀w,CellsAt w R 127 (rdr (.slice a m c) p 0 fa)->Rd8 w a m f->Calls Tryz.prog 95 #[.pointer (some ⟨R,0,none⟩)] w λx w'=>x= .returned (.int .u32 0)/\CellsAt w' R 127 (rdr (.slice a m c) p 2 m)/\w.grownBy w' (some R)):=by
  refine Lib.hid λw h1 h2=> ?_
  have:=tf R a m c p 0 fa f w h1 h2 hne hc hm (by omega)
  obtain⟨s1,s2,s3,s4⟩:=dA fa m p 4 (by decide) (by omega);rw [s1,s2,s3,s4]at this;simpa using this
 have T:=Lib.hid (λw (h:CellsAt w R 127 (rdr (.slice a m c) p 0 fa))=>lC R (.slice a m c) p 0 fa w h);have V:=Lib.hid (λw (h:CellsAt w R 127 (rdr (.slice a m c) p 2 m))=>gO R (.slice a m c) p 2 m e2 p (decide (most<0)) w h (by decide));have kR:R<w.heap.size:=hR.lt;obtain⟨B,hB⟩:∃B,B=decide (most<0):=⟨_,rfl⟩;rw [<-hB]at V;have hR0:=hR.below (bl1 w (Obj.cells #[Value.pointer (some {block:=R,off:=0})] 98));have hb0:=hb.grown (ab (bl1 w (Obj.cells #[Value.pointer (some {block:=R,off:=0})] 98)) none) (λ_ _=>by simp);clear hb hne
 go_enter Tryz.func67,Tryz.ntmps67
 go_wp2_with fail
 refine(T.out _ hR0).mono ?_;rintro x w1 ⟨rfl,h1⟩;have c0:w1.cell? ⟨w.heap.size,0,none⟩=some (.pointer (some ⟨R,0,none⟩)):=fq kR (ab h1 _)
 go_wp2_with fail
 refine(U.out _ (hR0.below h1) (hb0.grown (ab h1 none) (λ_ _=>by simp))).mono ?_;rintro x w2 ⟨rfl,h2,h3⟩;have c0:w2.cell? ⟨w.heap.size,0,none⟩=some (.pointer (some ⟨R,0,none⟩)):=fq kR (ae (ab h1 _) h3);have g:w.grownBy w2 (some R):=ae (ab (bl1 _ _) _) (ae (ab h1 _) h3)
 go_wp2_with fail
 rw [<-hB];refine(V.out _ h2).mono ?_;rintro x w3 ⟨rfl,h4⟩
 go_wp2_with fail
 exact⟨rfl,rfl,ae g (ab h4 _)⟩
end
noncomputable section
open Go.RowKit Go.Sort
def dB(f:Nat->Int)(p k:Nat):List Int:=(List.range k).map λi=>f (p+i)
theorem qd(f:Nat->Int)(p k:Nat):(dB f p k).length=k:=by simp [dB]
theorem tj(w:World)(g k c:Nat)(f:Nat->Int)(p:Nat)(h:CellsAt w g 5 (bZ (λi=>f (p+i)) k).toArray):
  (convert 26 9 (.slice (some ⟨g,0,none⟩) k c)).run Tryz.prog w= .ok (.string (strOfNums (dB f p k))) w:=
 run_convert_bytes_arg w 26 5 (by kernel_rfl) (by kernel_rfl) g 0 k c _ (qd f p k) (λi hi=>by
  have:=h.cell i
  simpa [bZ,dB,hi]using this) 9 (by kernel_rfl)
theorem HJ(w:World):(convert 26 9 (.slice none 0 0)).run Tryz.prog w= .ok (.string ⟨#[]⟩) w:=
 Lib.run_convert_nil_bytes w _ _ 5 0 (by kernel_rfl) (by kernel_rfl) (by kernel_rfl)
theorem Ah(R:Nat)(a:Option Addr)(m c p k:Nat)(fa:Int)(f:Nat->Int)(w:World)(hR:CellsAt w R 127 (rdr (.slice a m c) p 0 fa))(hb:Rd8 w a m f)(hne:∀b,a=some b->b.block≠R)(hc:m<=c)(hm:m<=9223372036854775807)(hp:p+k<=m)(hk:k<=100000):
  Calls Tryz.prog 92 #[.pointer (some ⟨R,0,none⟩),.int .i64 (k:Nat)] w λx w'=>∃g,x= .returned (.slice (some ⟨g,0,none⟩) k k)/\w.heap.size<=g/\CellsAt w' g 5 (bZ (λi=>f (p+i)) k).toArray/\CellsAt w' R 127 (rdr (.slice a m c) (p+k:Nat) 0 fa)/\w.grownBy w' (some R):=by
 have H:=Lib.hid (HD R a m c p k fa f w hR hb hne hc hm hp hk);clear hR hb hne
 go_enter Tryz.func92,Tryz.ntmps92
 go_wp2_with fail
 refine H.out.mono ?_;rintro x w' ⟨g,rfl,h1,h2⟩
 go_wp2_with fail
 go_ret
 exact⟨g,rfl,h1,h2⟩
theorem Ai(R:Nat)(a:Option Addr)(m c p:Nat)(fa n:Int)(w:World)(hR:CellsAt w R 127 (rdr (.slice a m c) p 0 fa))(hn:0<=n)(hp:p<=m)(hm:m<=9223372036854775807)(hs:(m:Int) - p<n):
  Calls Tryz.prog 92 #[.pointer (some ⟨R,0,none⟩),.int .i64 n] w λx w'=>x= .returned (.slice none 0 0)/\CellsAt w' R 127 (rdr (.slice a m c) p 2 m)/\w.grownBy w' (some R):=by
 have H:=Lib.hid (Af R a m c p fa n w hR hn hp hm hs);clear hR
 go_enter Tryz.func92,Tryz.ntmps92
 go_wp2_with fail
 refine H.out.mono ?_;rintro x w' ⟨rfl,h1⟩
 go_wp2_with fail
 go_ret
 exact⟨rfl,h1⟩
theorem HL(R:Nat)(a:Option Addr)(m c p k:Nat)(fa:Int)(f:Nat->Int)(s:ByteArray)(w:World)(hR:CellsAt w R 127 (rdr (.slice a m c) p 0 fa))(hb:Rd8 w a m f)(hne:∀b,a=some b->b.block≠R)(hc:m<=c)(hm:m<=100000)(hp:p+k<=m)(hk:s.size=k)(hk2:k<=100000)(hs:strOfNums (dB f p k)=s):
  Calls Tryz.prog 65 #[ldr R,.string s] w λx w'=>x= .returned (.tuple #[])/\CellsAt w' R 127 (rdr (.slice a m c) (p+k:Nat) 0 fa)/\w.grownBy w' (some R):=by
 have U:=Lib.hid λw h1 h2=>Ah R a m c p k fa f w h1 h2 hne hc (by omega) hp hk2;have V:=Lib.hid (λw (h:CellsAt w R 127 (rdr (.slice a m c) (p+k:Nat) 0 fa))=>fJ R (.slice a m c) (p+k) fa 1 0 w h);have kR:R<w.heap.size:=hR.lt;have hR0:=hR.below (bl1 w (Obj.cells #[Value.pointer (some {block:=R,off:=0})] 98));have hb0:=hb.grown (ab (bl1 w (Obj.cells #[Value.pointer (some {block:=R,off:=0})] 98)) none) (λ_ _=>by simp);clear hb hne
 go_enter Tryz.func65,Tryz.ntmps65
 go_wp2_with fail
 refine(U.out _ hR0 hb0).mono ?_;rintro x w1 ⟨g,rfl,h0,h1,h2,h3⟩;have c0:w1.cell? ⟨w.heap.size,0,none⟩=some (.pointer (some ⟨R,0,none⟩)):=fq kR h3;have cv:=tj w1 g k k f p h1;rw [hs]at cv
 go_wp2_with fail
 refine(V.out _ h2).mono ?_;rintro x w2 ⟨rfl,h4⟩
 go_wp2_with fail
 go_end0
 exact⟨rfl,h2.below h4,ae (ab (bl1 _ _) _) (ae h3 (ab h4 _))⟩
theorem FS(R:Nat)(a:Option Addr)(m c p k:Nat)(fa:Int)(f:Nat->Int)(s:ByteArray)(w:World)(hR:CellsAt w R 127 (rdr (.slice a m c) p 0 fa))(hb:Rd8 w a m f)(hne:∀b,a=some b->b.block≠R)(hc:m<=c)(hm:m<=100000)(hp:p+k<=m)(hk:s.size=k)(hk2:k<=100000)(hs:¬strOfNums (dB f p k)=s):
  Calls Tryz.prog 65 #[ldr R,.string s] w λx w'=>x= .panicked [fZ 1 0]/\w.grownBy w' (some R):=by
 have U:=Lib.hid λw h1 h2=>Ah R a m c p k fa f w h1 h2 hne hc (by omega) hp hk2;have V:=Lib.hid (λw (h:CellsAt w R 127 (rdr (.slice a m c) (p+k:Nat) 0 fa))=>gG R (.slice a m c) (p+k) fa 1 0 w h (by decide));have kR:R<w.heap.size:=hR.lt;have hR0:=hR.below (bl1 w (Obj.cells #[Value.pointer (some {block:=R,off:=0})] 98));have hb0:=hb.grown (ab (bl1 w (Obj.cells #[Value.pointer (some {block:=R,off:=0})] 98)) none) (λ_ _=>by simp);clear hb hne
 go_enter Tryz.func65,Tryz.ntmps65
 go_wp2_with fail
 refine(U.out _ hR0 hb0).mono ?_;rintro x w1 ⟨g,rfl,h0,h1,h2,h3⟩;have c0:w1.cell? ⟨w.heap.size,0,none⟩=some (.pointer (some ⟨R,0,none⟩)):=fq kR h3;have cv:=tj w1 g k k f p h1;obtain⟨s2,hs2⟩:∃s2,s2=strOfNums (dB f p k):=⟨_,rfl⟩;rw [<-hs2]at cv hs;have b1:(s2.toList==s.toList)=false:=beq_false_of_ne λh=>hs (ByteArray.ext (Array.toList_inj.1 (by rwa [ByteArray.toList_eq,ByteArray.toList_eq]at h)));clear hs2 hs h1
 go_wp2_with fail
 refine(V.out _ h2).mono ?_;rintro x w2 ⟨rfl,h4⟩
 go_wp2_with fail
 exact⟨rfl,rfl,ae (ab (bl1 _ _) _) (ae h3 h4)⟩
theorem Aj(R:Nat)(a:Option Addr)(m c p k:Nat)(fa:Int)(f:Nat->Int)(s:ByteArray)(w:World)(hR:CellsAt w R 127 (rdr (.slice a m c) p 0 fa))(hb:Rd8 w a m f)(hne:∀b,a=some b->b.block≠R)(hc:m<=c)(hm:m<=100000)(hp:p<=m)(hq:¬p+k<=m)(hk:s.size=k)(hk2:k<=100000):
  Calls Tryz.prog 65 #[ldr R,.string s] w λx w'=>x= .panicked [fZ 2 m]/\w.grownBy w' (some R):=by
 have U:=Lib.hid λw h1=>Ai R a m c p fa k w h1 (by omega) hp (by omega) (by omega);have V:=Lib.hid (λw (h:CellsAt w R 127 (rdr (.slice a m c) p 2 m)) b=>gO R (.slice a m c) p 2 m 1 0 b w h (by decide));have kR:R<w.heap.size:=hR.lt;have hR0:=hR.below (bl1 w (Obj.cells #[Value.pointer (some {block:=R,off:=0})] 98));have hb0:=hb.grown (ab (bl1 w (Obj.cells #[Value.pointer (some {block:=R,off:=0})] 98)) none) (λ_ _=>by simp);clear hb hne
 go_enter Tryz.func65,Tryz.ntmps65
 go_wp2_with fail
 refine(U.out _ hR0).mono ?_;rintro x w1 ⟨rfl,h2,h3⟩;have c0:w1.cell? ⟨w.heap.size,0,none⟩=some (.pointer (some ⟨R,0,none⟩)):=fq kR h3;have cv:=HJ w1;obtain⟨s2,hs2⟩:∃s2,s2=(⟨#[]⟩:ByteArray):=⟨_,rfl⟩;rw [<-hs2]at cv;clear hs2
 go_wp2_with fail
 refine(V.out _ h2 _).mono ?_;rintro x w2 ⟨rfl,h4⟩
 go_wp2_with fail
 exact⟨rfl,rfl,ae (ab (bl1 _ _) _) (ae h3 (ab h4 _))⟩
end
noncomputable section
open Go.RowKit Go.Sort
def aM(f:Nat->Int)(m p:Nat)(most e2:Int):Except (Int×Int) (Int×Nat):=
 if p+4<=m then(if most<le (λi=>f (p+i)) 4 then .error (e2,(p:Int))else .ok (le (λi=>f (p+i)) 4,p+4))else .error (2,(m:Int))
def Ec{α:Type}(v:α->Value)(R:Nat)(a:Option Addr)(m c:Nat)(fa:Int)(w:World)(o:Except (Int×Int) (α×Nat))(x:Ending)(w':World):Prop:=
 (match o with
 | .ok (y,q)=>x= .returned (v y)/\CellsAt w' R 127 (rdr (.slice a m c) q 0 fa)
 | .error er=>x= .panicked [fZ er.1 er.2])/\w.grownBy w' (some R)
abbrev vI(x:Int):Value:= .int .i64 x
abbrev vE(x:Int×Int×Int):Value:= .agg #[.int .i64 x.1,.int .i64 x.2.1,.int .i64 x.2.2]
theorem ng{w:World}{a:Option Addr}{m:Nat}{f:Nat->Int}(hb:Rd8 w a m f)(i:Nat)(hi:i<m):0<=f i/\f i<=255:=by
 obtain⟨_,_,_,_,h⟩:=hb i hi;exact h
theorem gP(R:Nat)(a:Option Addr)(m c p:Nat)(fa most e2:Int)(f:Nat->Int)(w:World)(hR:CellsAt w R 127 (rdr (.slice a m c) p 0 fa))(hb:Rd8 w a m f)(hne:∀b,a=some b->b.block≠R)(hc:m<=c)(hm:m<=100000)(hp:p<=m)(he2:¬e2=0):
  Calls Tryz.prog 67 #[ldr R,.int .i64 most,.int .i64 e2] w (Ec vI R a m c fa w (aM f m p most e2)):=by
 unfold aM;by_cases h:p+4<=m
 .rw [if_pos h];have bd:=iV (λi=>f (p+i)) 4 (λi hi=>ng hb _ (by omega));by_cases h2:most<le (λi=>f (p+i)) 4
  .rw [if_pos h2];exact(Ag R a m c p fa _ most e2 f w hR hb hne hc hm h rfl bd.1 (by omega) h2 he2).mono λx w' h=>⟨h.1,h.2⟩
  .rw [if_neg h2];exact(FQ R a m c p fa _ most e2 f w hR hb hne hc hm h rfl bd.1 (by omega) h2).mono λx w' h=>⟨⟨h.1,h.2.1⟩,h.2.2⟩
 .rw [if_neg h];exact(yz R a m c p fa most e2 f w hR hb hne hc hm hp h).mono λx w' h=>⟨h.1,h.2⟩
theorem dq{f:Nat->Int}{m p:Nat}{most e2 x:Int}{q:Nat}(h:aM f m p most e2= .ok (x,q)):q=p+4/\q<=m/\0<=m/\x<=most:=by
 unfold aM at h;split at h
 .split at h
  .cases h
  .cases h;exact⟨rfl,by omega,by omega,by omega⟩
 .cases h
theorem cI{w W:World}{R:Nat}(g:w.grownBy W (some R))(b i:Nat)(v:Value)(hb:w.heap.size<=b):w.grownBy (W.setCell ⟨b,i,none⟩ v) (some R):=by
 have g2:=af W b i v;exact⟨g2.os.trans g.os,g2.tape.trans g.tape,g2.output.trans g.output,Nat.le_trans g.size g2.size,λk hk hne=>(g2.block k (Nat.lt_of_lt_of_le hk g.size) (by simp;omega)).trans (g.block k hk hne)⟩
def dj(f:Nat->Int)(m p:Nat)(n wt:Int):Except (Int×Int) ((Int×Int×Int)×Nat):=
 match aM f m p (n - 1) 3 with
 | .error e=> .error e
 | .ok (a,p1)=>
  match aM f m p1 (n - 1) 3 with
  | .error e=> .error e
  | .ok (b,p2)=>
   if wt=1 then
    match aM f m p2 2147483647 7 with
    | .error e=> .error e
    | .ok (c,p3)=> .ok ((a,b,c),p3)
   else .ok ((a,b,1),p2)
structure StE(w:World)(R RB NB WB:Nat)(a:Option Addr)(m c:Nat)(fa n wt:Int)(f:Nat->Int)(W:World)(p:Nat)(e:Array Value):Prop where
 hR:CellsAt W R 127 (rdr (.slice a m c) p 0 fa)
 hb:Rd8 W a m f
 rb:CellsAt W RB 98 #[.pointer (some ⟨R,0,none⟩)]
 nb:CellsAt W NB 3 #[.int .i64 n]
 wb:CellsAt W WB 5 #[.int .u8 wt]
 e5:CellsAt W w.heap.size 52 #[.int .i64 0,.int .i64 0,.int .i64 0]
 e6:CellsAt W (w.heap.size+1) 52 e
 g:w.grownBy W (some R)
 l1:RB<w.heap.size
 l2:NB<w.heap.size
 l3:WB<w.heap.size
 l4:R<w.heap.size
 n1:RB≠R
 n2:NB≠R
 n3:WB≠R
 n4:∀b,a=some b->b.block≠R
 n5:∀b,a=some b->0<m->b.block<w.heap.size
theorem StE.call{w:World}{R RB NB WB:Nat}{a:Option Addr}{m c:Nat}{fa n wt:Int}{f:Nat->Int}{W:World}{p:Nat}{e:Array Value}(h:StE w R RB NB WB a m c fa n wt f W p e){W':World}{q:Nat}(g:W.grownBy W' (some R))(hR:CellsAt W' R 127 (rdr (.slice a m c) q 0 fa)):StE w R RB NB WB a m c fa n wt f W' q e:=by
 have:=h.l1;have:=h.l2;have:=h.l3;have:=h.l4
 exact⟨hR,h.hb.grown g (λb hb=>by simpa using h.n4 b hb),h.rb.grown g (by simpa using h.n1),h.nb.grown g (by simpa using h.n2),h.wb.grown g (by simpa using h.n3),h.e5.grown g (by simp;omega),h.e6.grown g (by simp;omega),ae h.g g,h.l1,h.l2,h.l3,h.l4,h.n1,h.n2,h.n3,h.n4,h.n5⟩
theorem StE.store{w:World}{R RB NB WB:Nat}{a:Option Addr}{m c:Nat}{fa n wt:Int}{f:Nat->Int}{W:World}{p:Nat}{e:Array Value}(h:StE w R RB NB WB a m c fa n wt f W p e)(i:Nat)(v:Value):StE w R RB NB WB a m c fa n wt f (W.setCell ⟨w.heap.size+1,i,none⟩ v) p (e.setIfInBounds i v):=by
 have l1:=h.l1;have l2:=h.l2;have l3:=h.l3;have l4:=h.l4;have g:=af W (w.heap.size+1) i v;refine⟨h.hR.grown g (by simp;omega),?_,h.rb.grown g (by simp;omega),h.nb.grown g (by simp;omega),h.wb.grown g (by simp;omega),h.e5.grown g (by simp),h.e6.set i v,?_,h.l1,h.l2,h.l3,h.l4,h.n1,h.n2,h.n3,h.n4,h.n5⟩
 .by_cases hm:0<m
  .exact h.hb.grown g (λb hb=>by have:=h.n5 b hb hm;simp;omega)
  .obtain rfl:m=0:=by omega
   exact fY _ _ _
 .exact⟨g.os.trans h.g.os,g.tape.trans h.g.tape,g.output.trans h.g.output,Nat.le_trans h.g.size g.size,λk hk hne=>(g.block k (Nat.lt_of_lt_of_le hk h.g.size) (by simp;omega)).trans (h.g.block k hk hne)⟩
theorem StE.done{w:World}{R RB NB WB:Nat}{a:Option Addr}{m c:Nat}{fa n wt:Int}{f:Nat->Int}{W:World}{p:Nat}{e:Array Value}(h:StE w R RB NB WB a m c fa n wt f W p e)(x y z:Value):CellsAt (((W.setCell ⟨w.heap.size,0,none⟩ x).setCell ⟨w.heap.size,1,none⟩ y).setCell ⟨w.heap.size,2,none⟩ z) R 127 (rdr (.slice a m c) p 0 fa)/\w.grownBy (((W.setCell ⟨w.heap.size,0,none⟩ x).setCell ⟨w.heap.size,1,none⟩ y).setCell ⟨w.heap.size,2,none⟩ z) (some R):=by
 have hr:=h.l4;exact⟨ah (ah (ah h.hR (by omega) _ _) (by omega) _ _) (by omega) _ _,cI (cI (cI h.g _ _ _ (Nat.le_refl _)) _ _ _ (Nat.le_refl _)) _ _ _ (Nat.le_refl _)⟩
theorem Cy(R RB NB WB:Nat)(a:Option Addr)(m c p:Nat)(i fa n wt:Int)(f:Nat->Int)(w:World)(hR:CellsAt w R 127 (rdr (.slice a m c) p 0 fa))(hb:Rd8 w a m f)(hne:∀b,a=some b->b.block≠R)(hc:m<=c)(hm:m<=100000)(hp:p<=m)
  (hRB:CellsAt w RB 98 #[.pointer (some ⟨R,0,none⟩)]) (hNB:CellsAt w NB 3 #[.int .i64 n]) (hWB:CellsAt w WB 5 #[.int .u8 wt]) (h1:RB≠R) (h2:NB≠R) (h3:WB≠R) (hn:0<=n) (hn2:n<=4096) (hwt:0<=wt/\wt<=1):
  Calls Tryz.prog 69 #[.int .i64 i,.pointer (some ⟨RB,0,none⟩),.pointer (some ⟨NB,0,none⟩),.pointer (some ⟨WB,0,none⟩)] w (Ec vE R a m c fa w (dj f m p n wt)):=by
 have N:=Lib.hid (λw p most e2 h1 h2 h3=>gP R a m c p fa most e2 f w h1 h2 hne hc hm h3)
 have S0:StE w R RB NB WB a m c fa n wt f ((w.alloc (Obj.cells #[Value.int IntKind.i64 0,Value.int IntKind.i64 0,Value.int IntKind.i64 0] 52)).alloc (Obj.cells #[Value.int IntKind.i64 0,Value.int IntKind.i64 0,Value.int IntKind.i64 1] 52)) p #[.int .i64 0,.int .i64 0,.int .i64 1]:=by
  have B:=bl2 w (Obj.cells #[Value.int IntKind.i64 0,Value.int IntKind.i64 0,Value.int IntKind.i64 0] 52) (Obj.cells #[Value.int IntKind.i64 0,Value.int IntKind.i64 0,Value.int IntKind.i64 1] 52);refine⟨hR.below B,hb.grown (ab B none) (λ_ _=>by simp),hRB.below B,hNB.below B,hWB.below B,?_,?_,ab B _,hRB.lt,hNB.lt,hWB.lt,hR.lt,h1,h2,h3,hne,?_⟩
  .exact CellsAt.below (World.alloc_heap_new w _) (bl1 _ _)
  .have:=World.alloc_heap_new (w.alloc (Obj.cells #[Value.int IntKind.i64 0,Value.int IntKind.i64 0,Value.int IntKind.i64 0] 52)) (Obj.cells #[Value.int IntKind.i64 0,Value.int IntKind.i64 0,Value.int IntKind.i64 1] 52)
   simpa [CellsAt]using this
  .intro b hb2 hm0;obtain⟨b',e1,e2,_⟩:=hb 0 hm0;rw [hb2]at e1;cases e1;exact e2
 have cR:w.cell? ⟨RB,0,none⟩=some (.pointer (some ⟨R,0,none⟩)):=hRB.cell 0;have cN:w.cell? ⟨NB,0,none⟩=some (.int .i64 n):=hNB.cell 0;have cW:w.cell? ⟨WB,0,none⟩=some (.int .u8 wt):=hWB.cell 0;have kR:Has w RB:=hRB.lt;have kN:Has w NB:=hNB.lt;have kW:Has w WB:=hWB.lt
 go_enter Tryz.func69,Tryz.ntmps69
 go_wp2_with fail
 generalize hW:((w.alloc (Obj.cells #[Value.int IntKind.i64 0,Value.int IntKind.i64 0,Value.int IntKind.i64 0] 52)).alloc (Obj.cells #[Value.int IntKind.i64 0,Value.int IntKind.i64 0,Value.int IntKind.i64 1] 52))=W at S0 ⊢;clear hW cR cN cW kR kN kW hR hb hRB hNB hWB;have N1:=N.out W p (n - 1) 3 S0.hR S0.hb hp (by decide)
 cases q1:aM f m p (n - 1) 3 with
 |error er=>
  have he:dj f m p n wt= .error er:=by unfold dj;rw [q1]
  rw [q1]at N1;rw [he];refine N1.mono ?_;rintro x w1 ⟨rfl,hg⟩;exact⟨rfl,rfl,ae S0.g hg⟩
 |ok r1=>
  obtain⟨y1,p1⟩:=r1;rw [q1]at N1;refine N1.mono ?_;rintro x w1 ⟨⟨rfl,hR1⟩,hg⟩;have S1:=S0.call hg hR1;have cR:=S1.rb.cell 0;have cN:=S1.nb.cell 0;have cW:=S1.wb.cell 0;have c0:=S1.e6.cell 0;have c1:=S1.e6.cell 1;have c2:=S1.e6.cell 2;have f0:=S1.e6.frozen 0;have k6:Has w1 (w.heap.size+1):=S1.e6.lt;have T1:=S1.store 0 (.int .i64 y1);have dR:=T1.rb.cell 0;have dN:=T1.nb.cell 0;have hp1:=(dq q1).2.1;clear N1 hg S0 hR1 cW c1 c2
  go_wp2_with fail
  have N2:=N.out _ p1 (n - 1) 3 T1.hR T1.hb hp1 (by decide);clear cR cN c0 f0 k6 dR dN S1;generalize w1.setCell {block:=w.heap.size+1,off:=0} (Value.int IntKind.i64 y1)=U1 at T1 N2 ⊢
  cases q2:aM f m p1 (n - 1) 3 with
  |error er=>
   have he:dj f m p n wt= .error er:=by unfold dj;rw [q1];dsimp only;rw [q2]
   rw [q2]at N2;rw [he];refine N2.mono ?_;rintro x w2 ⟨rfl,hg⟩;exact⟨rfl,rfl,ae T1.g hg⟩
  |ok r2=>
   obtain⟨y2,p2⟩:=r2;rw [q2]at N2;refine N2.mono ?_;rintro x w2 ⟨⟨rfl,hR2⟩,hg⟩;have S2:=T1.call hg hR2;have hp2:=(dq q2).2.1;have c1:=S2.e6.cell 1;have f1:=S2.e6.frozen 1;have k6:Has w2 (w.heap.size+1):=S2.e6.lt;have T2:=S2.store 1 (.int .i64 y2);have dW:=T2.wb.cell 0;have dR:=T2.rb.cell 0;clear N2 hg T1 hR2;by_cases hw1:wt=1
   .subst hw1
    go_wp2_with fail
    have N3:=N.out _ p2 2147483647 7 T2.hR T2.hb hp2 (by decide);clear c1 f1 k6 dW dR S2;generalize w2.setCell {block:=w.heap.size+1,off:=1} (Value.int IntKind.i64 y2)=U2 at T2 N3 ⊢
    cases q3:aM f m p2 2147483647 7 with
    |error er=>
     have he:dj f m p n 1= .error er:=by unfold dj;rw [q1];dsimp only;rw [q2];dsimp only;rw [if_pos rfl,q3]
     rw [q3]at N3;rw [he];refine N3.mono ?_;rintro x w3 ⟨rfl,hg⟩;exact⟨rfl,rfl,ae T2.g hg⟩
    |ok r3=>
     obtain⟨y3,p3⟩:=r3;rw [q3]at N3;refine N3.mono ?_;rintro x w3 ⟨⟨rfl,hR3⟩,hg⟩;have S3:=T2.call hg hR3;have c2:=S3.e6.cell 2;have f2:=S3.e6.frozen 2;have k6:Has w3 (w.heap.size+1):=S3.e6.lt;have T3:=S3.store 2 (.int .i64 y3);clear N3 hg T2 hR3 S3;have d0:=T3.e6.cell 0;have d1:=T3.e6.cell 1;have d2:=T3.e6.cell 2;have u0:=T3.e5.cell 0;have g0:=T3.e5.frozen 0;have P1:=T3.e5.set 0 (.int .i64 y1);have u1:=P1.cell 1;have g1:=P1.frozen 1;have P2:=P1.set 1 (.int .i64 y2);have u2:=P2.cell 2;have g2:=P2.frozen 2;have P3:=P2.set 2 (.int .i64 y3);have v0:=P3.cell 0;have v1:=P3.cell 1;have v2:=P3.cell 2;have D:=T3.done (.int .i64 y1) (.int .i64 y2) (.int .i64 y3);have he:dj f m p n 1= .ok ((y1,y2,y3),p3):=by unfold dj;rw [q1];dsimp only;rw [q2];dsimp only;rw [if_pos rfl,q3]
     have he:=Lib.hid he;clear P1 P2
     go_wp2_with fail
     (try simp only [Exit.inBlock,Exit.then])
     refine bodyPost_ret (results_cell_row rfl _ _ w.heap.size 52 _ _ _ rfl P3 Tryz.underlying52 rfl (by kernel_rfl)) rfl ⟨by rw [he.out];exact⟨rfl,D.1⟩,D.2⟩
   .obtain rfl:wt=0:=by omega
    have d0:=T2.e6.cell 0;have d1:=T2.e6.cell 1;have d2:=T2.e6.cell 2;have u0:=T2.e5.cell 0;have g0:=T2.e5.frozen 0;have P1:=T2.e5.set 0 (.int .i64 y1);have u1:=P1.cell 1;have g1:=P1.frozen 1;have P2:=P1.set 1 (.int .i64 y2);have u2:=P2.cell 2;have g2:=P2.frozen 2;have P3:=P2.set 2 (.int .i64 1);have v0:=P3.cell 0;have v1:=P3.cell 1;have v2:=P3.cell 2;have D:=T2.done (.int .i64 y1) (.int .i64 y2) (.int .i64 1);have he:dj f m p n 0= .ok ((y1,y2,1),p2):=by unfold dj;rw [q1];dsimp only;rw [q2];rfl
    have he:=Lib.hid he;clear P1 P2
    go_wp2_with fail
    (try simp only [Exit.inBlock,Exit.then])
    refine bodyPost_ret (results_cell_row rfl _ _ w.heap.size 52 _ _ _ rfl P3 Tryz.underlying52 rfl (by kernel_rfl)) rfl ⟨by rw [he.out];exact⟨rfl,D.1⟩,D.2⟩
end
noncomputable section
open Go.RowKit Go.Sort
def fu(l:List (Int×Int×Int)):List Value:=l.flatMap λe=> [.int .i64 e.1,.int .i64 e.2.1,.int .i64 e.2.2]
theorem ep(l:List (Int×Int×Int))(e:Int×Int×Int):fu (l++ [e])=fu l++ [.int .i64 e.1,.int .i64 e.2.1,.int .i64 e.2.2]:=by simp [fu]
def aW(f:Nat->Int)(m:Nat)(n wt:Int):Nat->Nat->Except (Int×Int) (List (Int×Int×Int)×Nat)
 |0,p=> .ok ([],p)
 |k+1,p=>
  match dj f m p n wt with
  | .error e=> .error e
  | .ok (e,q)=>
   match aW f m n wt k q with
   | .error e=> .error e
   | .ok (l,r)=> .ok (e::l,r)
def dr(es:List (Int×Int×Int)):Except (Int×Int) (List (Int×Int×Int)×Nat)->Except (Int×Int) (List (Int×Int×Int)×Nat)
 | .error e=> .error e
 | .ok (l,r)=> .ok (es++l,r)
theorem ko(o:Except (Int×Int) (List (Int×Int×Int)×Nat)):dr [] o=o:=by
 cases o<;>simp [dr]
theorem Ee{f:Nat->Int}{m:Nat}{n wt:Int}{k q q2:Nat}{e:Int×Int×Int}(es:List (Int×Int×Int))(h:dj f m q n wt= .ok (e,q2)):dr es (aW f m n wt (k+1) q)=dr (es++ [e]) (aW f m n wt k q2):=by
 simp only [aW,h];cases aW f m n wt k q2<;>simp [dr]
theorem Ak{f:Nat->Int}{m:Nat}{n wt:Int}{k q:Nat}{er:Int×Int}(es:List (Int×Int×Int))(h:dj f m q n wt= .error er):dr es (aW f m n wt (k+1) q)= .error er:=by
 simp only [aW,h];rfl
theorem HM{f:Nat->Int}{m p:Nat}{n wt:Int}{e:Int×Int×Int}{q:Nat}(h:dj f m p n wt= .ok (e,q)):q<=m:=by
 unfold dj at h;split at h
 .cases h
 .split at h
  .cases h
  .rename_i h2;split at h
   .split at h
    .cases h
    .rename_i h3;cases h;exact(dq h3).2.1
   .cases h;exact(dq h2).2.1
theorem bK(w:World)(a b c:Value)(t:TypeId):∀j u,[a,b,c][j]? =some u->(w.alloc (.cells #[a,b,c] t)).cell? ((⟨w.heap.size,0,none⟩:Addr).add j)=some u:=by
 intro j u hj
 match j,hj with
 |0,hj=>simp at hj;subst hj;simp [Addr.add]
 |1,hj=>simp at hj;subst hj;simp [Addr.add]
 |2,hj=>simp at hj;subst hj;simp [Addr.add]
theorem HQ:(Tryz.prog.info? 52).map (λi=>(i.zero,i.size,i.bytes))=some (some (.agg #[.int .i64 0,.int .i64 0,.int .i64 0]),3,24):=by kernel_rfl
theorem im{P:Program}{e:TypeId}{z:Value}{s b:Nat}(h:(P.info? e).map (λi=>(i.zero,i.size,i.bytes))=some (some z,s,b)):∃i,P.info? e=some i/\i.zero=some z/\i.size=s/\i.bytes=b:=by
 cases hi:P.info? e with
 |none=>rw [hi]at h;cases h
 |some i=>rw [hi]at h;simp at h;exact⟨i,rfl,h.1,h.2.1,h.2.2⟩
theorem qe{W W':World}{base k:Nat}{e:TypeId}{size:Nat}{v:Value}{xs:List Value}{row:Option Nat}(h:W.ownsRow base e size v k xs)(hg:W.grownBy W' row)(hne:∀g,v.ownBlock=some g->row≠some g):W'.ownsRow base e size v k xs:=by
 refine h.kept hg ?_
 cases hb:v.ownBlock with
 |none=>exact .inl rfl
 |some g=>exact .inr (λe=>hne g hb e.symm)
theorem bL{W:World}{base k:Nat}{e:TypeId}{size:Nat}{v:Value}{xs:List Value}(h:W.ownsRow base e size v k xs):∃bs cap,v= .slice bs k cap:=by
 rcases h.2 with⟨rfl,h0⟩|⟨g,cap,_,rfl,_⟩
 .exact⟨none,0,by rw [h0]⟩
 .exact⟨_,cap,rfl⟩
theorem Cz{w V V':World}{R:Nat}{row:Option Nat}(g:w.grownBy V (some R))(h:V.grownBy V' row)(hr:∀b,row=some b->w.heap.size<=b):w.grownBy V' (some R):=
 ⟨h.os.trans g.os,h.tape.trans g.tape,h.output.trans g.output,Nat.le_trans g.size h.size,λk hk hne=>(h.block k (Nat.lt_of_lt_of_le hk g.size) (λe=>by have:=hr k e.symm;omega)).trans (g.block k hk hne)⟩
set_option maxRecDepth 100000 in
set_option maxHeartbeats 2000000 in
theorem FT(R RB NB WB:Nat)(a:Option Addr)(m c p k:Nat)(fa n wt:Int)(f:Nat->Int)(w:World)(hR:CellsAt w R 127 (rdr (.slice a m c) p 0 fa))(hb:Rd8 w a m f)(hne:∀b,a=some b->b.block≠R)(hc:m<=c)(hm:m<=100000)(hp:p<=m)
  (hRB:CellsAt w RB 98 #[.pointer (some ⟨R,0,none⟩)]) (hNB:CellsAt w NB 3 #[.int .i64 n]) (hWB:CellsAt w WB 5 #[.int .u8 wt]) (h1:RB≠R) (h2:NB≠R) (h3:WB≠R) (hn:0<=n) (hn2:n<=4096) (hwt:0<=wt/\wt<=1) (hk:k<=65536):
  Calls Tryz.prog 68 #[.int .i64 k,.func (.func 69) #[] #[.pointer (some ⟨RB,0,none⟩),.pointer (some ⟨NB,0,none⟩),.pointer (some ⟨WB,0,none⟩)]] w λx w'=>
   (match aW f m n wt k p with
    | .ok (l,q)=>∃v,x= .returned v/\w'.ownsRow w.heap.size 52 3 v l.length (fu l)/\CellsAt w' R 127 (rdr (.slice a m c) q 0 fa)/\(l= []->v= .slice none 0 0)
    | .error er=>x= .panicked [fZ er.1 er.2])/\w.grownBy w' (some R):=by
 obtain⟨i0,hi,hz0,hz1,hz2⟩:=im HQ;have kR:R<w.heap.size:=hR.lt;obtain⟨O,hO⟩:∃O,O=aW f m n wt k p:=⟨_,rfl⟩;rw [<-hO];have HO:=Lib.hid hO;clear hO;have G:=Lib.hid (λV (g:w.grownBy V (some R)) (q:Nat) (i:Int) (h:CellsAt V R 127 (rdr (.slice a m c) q 0 fa)) (hq:q<=m)=>Cy R RB NB WB a m c q i fa n wt f V h (hb.grown g (λb hb=>by simpa using hne b hb)) hne hc hm hq (hRB.grown g (by simpa using h1)) (hNB.grown g (by simpa using h2)) (hWB.grown g (by simpa using h3)) h1 h2 h3 hn hn2 hwt);clear hb hRB hNB hWB hne h1 h2 h3
 go_enter Tryz.func68,Tryz.ntmps68
 go_wp2_with fail
 go_loopw [5,8] (λv y wr=>∃(i:Nat) (es:List (Int×Int×Int)) (q:Nat),y= .int .i64 i/\i<=k/\es.length=i/\q<=m/\Hid (O=dr es (aW f m n wt (k - i) q))/\CellsAt wr R 127 (rdr (.slice a m c) q 0 fa)/\w.grownBy wr (some R)/\wr.ownsRow w.heap.size 52 3 v i (fu es)/\(i=0->v= .slice none 0 0)) (λ_ y _=>k - (intOf y).toNat)
 case atStart=>
  exact⟨0,[],p,rfl,by omega,rfl,hp,Lib.hid (by rw [ko];exact HO.out),hR,ab (Below.refl _ _) _,World.ownsRow_nil _ _ _ _,λ_=>rfl⟩
 case round=>
  clear hR;obtain⟨i,es,q,rfl,hik,hlen,hq,hE,hR,hg,hrow,hz⟩:=hrel;have kV:=hg.size;by_cases hlt:i<k
  .have hlt':(i:Int)<(k:Int):=by omega
   have C1:=G.out wr hg q i hR hq
   cases q1:dj f m q n wt with
   |error er=>
    have he:O= .error er:=by
     have:=hE.out
     rw [show k - i=(k - i - 1)+1 by omega,Ak es q1]at this;exact this
    rw [q1]at C1;have C1:=Lib.hid C1;have he:=Lib.hid he;clear hE
    go_wp2_with fail
    refine C1.out.mono ?_;rintro x w1 ⟨rfl,hg1⟩
    (try simp only [Exit.inBlock,Exit.then])
    refine⟨rfl,?_,ae hg hg1⟩;rw [he.out]
   |ok r1=>
    obtain⟨e,q2⟩:=r1
    have he:O=dr (es++ [e]) (aW f m n wt (k - (i+1)) q2):=by
     have:=hE.out
     rw [show k - i=(k - (i+1))+1 by omega,Ee es q1]at this;exact this
    have hq2:=HM q1;rw [q1]at C1;have C1:=Lib.hid C1;have he:=Lib.hid he;clear hE;obtain⟨bs,cap,rfl⟩:=bL hrow
    go_wp2_with fail
    refine C1.out.mono ?_;rintro x V ⟨⟨rfl,hR1⟩,hg1⟩;have hg2:=ae hg hg1;have rV:=qe hrow hg1 (λg hgg=>by have:=(hrow.lt g hgg).1;simp;omega);have kV2:=hg2.size;clear hrow hg hg1 hR hz
    go_wp2_with (refine wpList_append_own _ rfl _ _ 22 rfl w.heap.size 52 i0 (.agg #[.int .i64 0,.int .i64 0,.int .i64 0]) 3 24 Tryz.underlying22 hi hz0 hz1 hz2 rfl (by decide) _ _ _ rfl (rV.alloc _) ⟨V.heap.size,0,none⟩ 1 1 [.int .i64 e.1,.int .i64 e.2.1,.int .i64 e.2.2] rfl rfl (bK _ _ _ _ _) (by simp [Value.oneCell']) (by unfold maxLen;omega) (by omega) (by simp;omega) ?_;intro v' V2 hown' hgrow _;obtain⟨g',cap',rfl⟩:=ownsRow_succ hown')
    refine⟨?_,by simp [intOf];omega⟩;have hgA:V.grownBy V2 (Value.slice bs i cap).ownBlock:=ae (ab (bl1 V _) _) hgrow;exact⟨i+1,es++ [e],q2,by simp,by omega,by simp [hlen],hq2,he,hR1.grown hgA (λe=>by have:=(rV.lt R e.symm).1;omega),Cz hg2 hgA (λb e=>(rV.lt b e).1),by rw [ep];exact hown',λh=>by omega⟩
  .obtain rfl:i=k:=by omega
   have he:O= .ok (es,q):=by
    have:=hE.out
    rw [Nat.sub_self]at this;simpa [aW,dr]using this
   obtain⟨bs,cap,rfl⟩:=bL hrow;clear hE HO;subst he
   go_wp2_with fail
   go_ret
   exact⟨⟨_,rfl,hrow,hR,λh=>hz (by rw [<-hlen,h];rfl)⟩,hg⟩
end
noncomputable section
open Go.RowKit Go.Sort
theorem js{f:Nat->Int}{m p:Nat}{most e2 x:Int}{q:Nat}{W:World}{a:Option Addr}(h:aM f m p most e2= .ok (x,q))(hb:Rd8 W a m f):0<=x:=by
 unfold aM at h;split at h
 .split at h
  .cases h
  .cases h;exact(iV _ 4 (λi hi=>ng hb _ (by omega))).1
 .cases h
def InE(n:Int)(l:List (Int×Int×Int)):Prop:=∀e∈l,(0<=e.1/\e.1<n)/\(0<=e.2.1/\e.2.1<n)/\0<=e.2.2/\e.2.2<=2147483647
theorem HR{f:Nat->Int}{m p:Nat}{n wt:Int}{W:World}{a:Option Addr}(hb:Rd8 W a m f){e:Int×Int×Int}{q:Nat}(h:dj f m p n wt= .ok (e,q)):(0<=e.1/\e.1<n)/\(0<=e.2.1/\e.2.1<n)/\0<=e.2.2/\e.2.2<=2147483647:=by
 unfold dj at h;split at h
 .cases h
 .rename_i h1;split at h
  .cases h
  .rename_i h2;have a1:=js h1 hb;have a2:=js h2 hb;have b1:=(dq h1).2.2.2;have b2:=(dq h2).2.2.2;split at h
   .split at h
    .cases h
    .rename_i h3;have a3:=js h3 hb;have b3:=(dq h3).2.2.2;cases h;exact⟨⟨a1,Int.lt_of_le_sub_one b1⟩,⟨a2,Int.lt_of_le_sub_one b2⟩,a3,b3⟩
   .cases h;exact⟨⟨a1,Int.lt_of_le_sub_one b1⟩,⟨a2,Int.lt_of_le_sub_one b2⟩,show(0:Int)<=1 by decide,show(1:Int)<=2147483647 by decide⟩
theorem lD{f:Nat->Int}{m:Nat}{n wt:Int}{W:World}{a:Option Addr}(hb:Rd8 W a m f):∀(k p:Nat) {l:List (Int×Int×Int)} {q:Nat},aW f m n wt k p= .ok (l,q)->InE n l
 |0,p,l,q,h=>by simp only [aW]at h;cases h;intro e he;simp at he
 |k+1,p,l,q,h=>by
  simp only [aW]at h;split at h
  .cases h
  .rename_i h1;split at h
   .cases h
   .rename_i h2;cases h;intro e he;rcases List.mem_cons.1 he with rfl|he
    .exact HR hb h1
    .exact lD hb k _ h2 e he
def eD(f:Nat->Int)(m:Nat):Except (Int×Int) ((Int×List (Int×Int×Int))×Nat):=
 if 4<=m then
  if strOfNums (dB f 0 4)=⟨#[70,82,84,49]⟩then
   if 5<=m then
    if 1<f 4 then .error (8,4)
    else
     match aM f m 5 4096 5 with
     | .error e=> .error e
     | .ok (n,p1)=>
      match aM f m p1 65536 5 with
      | .error e=> .error e
      | .ok (k,p2)=>
       match aW f m n (f 4) k.toNat p2 with
       | .error e=> .error e
       | .ok (l,q)=> .ok ((n,l),q)
   else .error (2,(m:Int))
  else .error (1,0)
 else .error (2,(m:Int))
theorem az{W W':World}{B R:Nat}{t:TypeId}{cs:Array Value}(h:CellsAt W B t cs)(g:W.grownBy W' (some R))(hne:B≠R):CellsAt W' B t cs:=h.grown g (by simpa using hne)
theorem dU{W W':World}{a:Option Addr}{n R:Nat}{f:Nat->Int}(h:Rd8 W a n f)(g:W.grownBy W' (some R))(hne:∀b,a=some b->b.block≠R):Rd8 W' a n f:=h.grown g (λb hb=>by simpa using hne b hb)
theorem wF(R:Nat)(a:Option Addr)(m c:Nat)(fa:Int)(f:Nat->Int)(s:ByteArray)(w:World)(hR:CellsAt w R 127 (rdr (.slice a m c) 0 0 fa))(hb:Rd8 w a m f)(hne:∀b,a=some b->b.block≠R)(hc:m<=c)(hm:m<=100000)(hs:s.size=4):
  Calls Tryz.prog 65 #[ldr R,.string s] w (Ec (λ(_:Unit)=> .tuple #[]) R a m c fa w (if 4<=m then(if strOfNums (dB f 0 4)=s then .ok ((),4)else .error (1,0))else .error (2,(m:Int)))):=by
 by_cases h4:4<=m
 .rw [if_pos h4];by_cases h5:strOfNums (dB f 0 4)=s
  .rw [if_pos h5];exact(HL R a m c 0 4 fa f s w hR hb hne hc hm (by omega) hs (by decide) h5).mono λx w' h=>⟨⟨h.1,h.2.1⟩,h.2.2⟩
  .rw [if_neg h5];exact(FS R a m c 0 4 fa f s w hR hb hne hc hm (by omega) hs (by decide) h5).mono λx w' h=>⟨h.1,h.2⟩
 .rw [if_neg h4];exact(Aj R a m c 0 4 fa f s w hR hb hne hc hm (by omega) (by omega) hs (by decide)).mono λx w' h=>⟨h.1,h.2⟩
theorem jt{f:Nat->Int}{m:Nat}{n wt:Int}:∀(k p:Nat) {l:List (Int×Int×Int)} {q:Nat},aW f m n wt k p= .ok (l,q)->l.length=k
 |0,p,l,q,h=>by simp only [aW]at h;cases h;rfl
 |k+1,p,l,q,h=>by
  simp only [aW]at h;split at h
  .cases h
  .split at h
   .cases h
   .rename_i h2;cases h;simp [jt k _ h2]
set_option maxRecDepth 100000 in
set_option maxHeartbeats 500000 in
theorem FU(P:Nat->Int->List (Int×Int×Int)->World->Option Addr->Nat->Nat->Prop)
  (HC:∀(base:Nat) (W:World) (n:Int) (v:Value) (l:List (Int×Int×Int)),base<=W.heap.size->0<=n->n<=4096->l.length<=65536->InE n l->W.ownsRow base 52 3 v l.length (fu l)->(l= []->v= .slice none 0 0)->Calls Tryz.prog 70 #[.agg #[.int .i64 n,v]] W λx w'=>∃a' k' c',x= .returned (.agg #[.int .i64 n,.slice a' k' c'])/\P base n l w' a' k' c'/\Below W.heap.size W w')
  (HP:∀base n l w' w'' a' k' c' b,P base n l w' a' k' c'->w'.grownBy w'' (some b)->b<base->P base n l w'' a' k' c')
  (R:Nat) (a:Option Addr) (m c:Nat) (fa:Int) (f:Nat->Int) (w:World) (hR:CellsAt w R 127 (rdr (.slice a m c) 0 0 fa)) (hb:Rd8 w a m f) (hne:∀b,a=some b->b.block≠R) (hc:m<=c) (hm:m<=100000):
  Calls Tryz.prog 32 #[ldr R] w λx w'=>
   (match eD f m with
    | .ok ((n,l),q)=>∃base a' k' c',w.heap.size<=base/\x= .returned (.agg #[.int .i64 n,.slice a' k' c'])/\P base n l w' a' k' c'/\CellsAt w' R 127 (rdr (.slice a m c) q 0 fa)
    | .error er=>x= .panicked [fZ er.1 er.2])/\w.grownBy w' (some R):=by
 obtain⟨O,hO⟩:∃O,O=eD f m:=⟨_,rfl⟩;rw [<-hO];have HC:=Lib.hid HC;have HP:=Lib.hid HP;have kR:R<w.heap.size:=hR.lt;have B2:Below w.heap.size w ((w.alloc (.cells #[.pointer (some ⟨R,0,none⟩)] 98)).alloc (.cells #[.int .i64 0,.slice none 0 0] 24)):=bl2 _ _ _;have hRB:CellsAt ((w.alloc (.cells #[.pointer (some ⟨R,0,none⟩)] 98)).alloc (.cells #[.int .i64 0,.slice none 0 0] 24)) w.heap.size 98 #[.pointer (some ⟨R,0,none⟩)]:=CellsAt.below (World.alloc_heap_new w _) (bl1 _ _)
 have hGB:CellsAt ((w.alloc (.cells #[.pointer (some ⟨R,0,none⟩)] 98)).alloc (.cells #[.int .i64 0,.slice none 0 0] 24)) (w.heap.size+1) 24 #[.int .i64 0,.slice none 0 0]:=by
  have:=World.alloc_heap_new (w.alloc (.cells #[.pointer (some ⟨R,0,none⟩)] 98)) (.cells #[.int .i64 0,.slice none 0 0] 24)
  simpa [CellsAt]using this
 have hR0:=hR.below B2;have hb0:=hb.grown (ab B2 none) (λ_ _=>by simp);have g0:w.grownBy ((w.alloc (.cells #[.pointer (some ⟨R,0,none⟩)] 98)).alloc (.cells #[.int .i64 0,.slice none 0 0] 24)) (some R):=ab B2 _
 go_enter Tryz.func32,Tryz.ntmps32
 go_wp2_with fail
 generalize ((w.alloc (.cells #[.pointer (some ⟨R,0,none⟩)] 98)).alloc (.cells #[.int .i64 0,.slice none 0 0] 24))=W0 at hRB hGB hR0 hb0 g0 ⊢;clear B2 hR hb;have C1:=wF R a m c fa f ⟨#[70,82,84,49]⟩ W0 hR0 hb0 hne hc hm rfl;by_cases h4:4<=m
 .rw [if_pos h4]at C1;by_cases h5:strOfNums (dB f 0 4)=⟨#[70,82,84,49]⟩
  .rw [if_pos h5]at C1;refine C1.mono ?_;rintro x w1 ⟨⟨rfl,hR1⟩,hg⟩;have hRB1:=az hRB hg (by omega);have hGB1:=az hGB hg (by omega);have hb1:=dU hb0 hg hne;have g1:=ae g0 hg;have cR:=hRB1.cell 0;have kRB:Has w1 w.heap.size:=hRB1.lt;clear C1 hRB hGB hR0 hb0 g0 hg
   go_wp2_with fail
   by_cases h6:5<=m
   .have U:=Eb R a m c 4 0 fa f w1 hR1 hb1 hne hc hm (by omega);obtain⟨s1,s2,s3,s4⟩:=iW fa m 4 1 (by decide) (by omega);rw [s1,s2,s3,s4,if_pos rfl,show le (λi=>f (4+i)) 1=f 4 by simp [le]]at U;have bf:=ng hb1 4 (by omega);obtain⟨wt,hwt⟩:∃wt,wt=f 4:=⟨_,rfl⟩;rw [<-hwt]at U bf;refine U.mono ?_;rintro x w2 ⟨rfl,hR2,hg⟩;have hRB2:=az hRB1 hg (by omega);have hGB2:=az hGB1 hg (by omega);have hb2:=dU hb1 hg hne;have g2:=ae g1 hg;have cR:=hRB2.cell 0;have kRB:Has w2 w.heap.size:=hRB2.lt;have L2:=hGB2.lt;have hWB:CellsAt (w2.alloc (.cells #[.int .u8 wt] 5)) w2.heap.size 5 #[.int .u8 wt]:=World.alloc_heap_new w2 _;have BA:=bl1 w2 (.cells #[.int .u8 wt] 5);have hRB3:=hRB2.below BA;have hGB3:=hGB2.below BA;have hb3:=dU hb2 (ab BA _) hne;have hR3:=hR2.below BA;have g3:=ae g2 (ab BA _);clear U hRB1 hGB1 hb1 g1 hg hR1;by_cases h7:1<f 4
    .have he:O= .error (8,4):=by rw [hO];unfold eD;rw [if_pos h4,if_pos h5,if_pos h6,if_pos h7]
     have b1:decide (1<wt)=true:=by rw [hwt];exact decide_eq_true h7
     have V:=Lib.hid (gG R (.slice a m c) 5 fa 8 4 _ hR3 (by decide));clear hwt hO s1 s2 s3 s4
     go_wp2_with fail
     refine V.out.mono ?_;rintro x w4 ⟨rfl,hg⟩;exact⟨rfl,by rw [he],ae g3 hg⟩
    .have b1:decide (1<wt)=false:=by rw [hwt];exact decide_eq_false h7
     have V:=Lib.hid (fJ R (.slice a m c) 5 fa 8 4 _ hR3);have HO:=Lib.hid hO;have HW:=Lib.hid hwt;clear hwt hO s1 s2 s3 s4
     go_wp2_with fail
     refine V.out.mono ?_;rintro x w4 ⟨rfl,hB4⟩;have gB:(w2.alloc (.cells #[.int .u8 wt] 5)).grownBy w4 (some R):=ab hB4 _;have hRB4:=hRB3.below hB4;have hGB4:=hGB3.below hB4;have hWB4:=hWB.below hB4;have hb4:=dU hb3 gB hne;have hR4:=hR3.below hB4;have g4:=ae g3 gB;have cR:=hRB4.cell 0;have kRB:Has w4 w.heap.size:=hRB4.lt;have nW:w2.heap.size≠R:=by omega
     have L4:=hWB4.lt;generalize w2.heap.size=WB at hWB4 nW L2 L4 ⊢;clear hRB2 hGB2 hb2 g2 hWB BA hRB3 hGB3 hb3 hR3 g3 V hB4 gB hR2;have C2:=gP R a m c 5 fa 4096 5 f w4 hR4 hb4 hne hc hm h6 (by decide)
     go_wp2_with fail
     cases q1:aM f m 5 4096 5 with
     |error er=>
      have he:O= .error er:=by rw [HO.out];unfold eD;rw [if_pos h4,if_pos h5,if_pos h6,if_neg (by omega),q1]
      rw [q1]at C2;refine C2.mono ?_;rintro x w5 ⟨rfl,hg⟩;exact⟨rfl,by rw [he],ae g4 hg⟩
     |ok r1=>
      obtain⟨n,p1⟩:=r1;have n1:=dq q1
      have n0:0<=n:=by
       have q1':=q1;unfold aM at q1';rw [if_pos (by omega)]at q1';split at q1'
       .cases q1'
       .cases q1';exact(iV _ 4 (λi hi=>ng hb4 _ (by omega))).1
      rw [q1]at C2;refine C2.mono ?_;rintro x w5 ⟨⟨rfl,hR5⟩,hg⟩;have BA:=bl1 w5 (.cells #[.int .i64 n] 3);have hNB6:CellsAt (w5.alloc (.cells #[.int .i64 n] 3)) w5.heap.size 3 #[.int .i64 n]:=World.alloc_heap_new w5 _;have hRB6:=(az hRB4 hg (by omega)).below BA;have hGB6:=(az hGB4 hg (by omega)).below BA;have hWB6:=(az hWB4 hg (by omega)).below BA;have hb6:=dU (dU hb4 hg hne) (ab BA _) hne;have hR6:=hR5.below BA;have g6:=ae (ae g4 hg) (ab BA (some R));have cR:=(az hRB4 hg (by omega)).cell 0;have kRB:Has w5 w.heap.size:=(az hRB4 hg (by omega)).lt;have L5:=(az hWB4 hg (by omega)).lt;clear C2 hRB4 hGB4 hWB4 hb4 hR4 g4 hg hR5 BA;have C3:=gP R a m c p1 fa 65536 5 f _ hR6 hb6 hne hc hm n1.2.1 (by decide)
      go_wp2_with fail
      have kN:=hNB6.lt;have nN:w5.heap.size≠R:=by omega
      generalize w5.alloc (.cells #[.int .i64 n] 3)=w6 at hNB6 hRB6 hGB6 hWB6 hb6 hR6 g6 C3 kN ⊢;generalize w5.heap.size=NB at hNB6 nN L5 kN ⊢;clear cR kRB
      cases q2:aM f m p1 65536 5 with
      |error er=>
       have he:O= .error er:=by rw [HO.out];unfold eD;rw [if_pos h4,if_pos h5,if_pos h6,if_neg (by omega),q1];dsimp only;rw [q2]
       rw [q2]at C3;refine C3.mono ?_;rintro x w7 ⟨rfl,hg⟩;exact⟨rfl,by rw [he],ae g6 hg⟩
      |ok r2=>
       obtain⟨k,p2⟩:=r2;have n2:=dq q2
       have k0:0<=k:=by
        have q2':=q2;unfold aM at q2';rw [if_pos (by omega)]at q2';split at q2'
        .cases q2'
        .cases q2';exact(iV _ 4 (λi hi=>ng hb6 _ (by omega))).1
       obtain⟨K,rfl⟩:=Int.eq_ofNat_of_zero_le k0;rw [q2]at C3;refine C3.mono ?_;rintro x w7 ⟨⟨rfl,hR7⟩,hg⟩;have hRB7:=az hRB6 hg (by omega);have hGB7:=az hGB6 hg (by omega);have hWB7:=az hWB6 hg nW;have hNB7:=az hNB6 hg nN;have hb7:=dU hb6 hg hne;have g7:=ae g6 hg;clear C3 hRB6 hGB6 hWB6 hNB6 hb6 hR6 g6 hg;have C4:=FT R w.heap.size NB WB a m c p2 K fa n wt f w7 hR7 hb7 hne hc hm n2.2.1 hRB7 hNB7 hWB7 (by omega) nN nW n0 n1.2.2.2 ⟨bf.1,by have:=of_decide_eq_false b1;omega⟩ (by omega);have hmf:∀(fn:Fn) (first cap:Array Value) (w:World),(Instr.makeFunc fn first cap).run Tryz.prog w= .ok (.func fn first cap) w:=λ_ _ _ _=>rfl;have C4:=Lib.hid C4
       go_wp2_with fail
       cases q3:aW f m n wt K p2 with
       |error er=>
        have he:O= .error er:=by rw [HO.out];unfold eD;rw [if_pos h4,if_pos h5,if_pos h6,if_neg (by omega),q1];dsimp only;rw [q2];dsimp only;rw [<-HW.out,Int.toNat_natCast,q3]
        rw [q3]at C4;refine C4.out.mono ?_;rintro x w8 ⟨rfl,hg⟩;exact⟨rfl,by rw [he],ae g7 hg⟩
       |ok r3=>
        obtain⟨l,q⟩:=r3;have he:O= .ok ((n,l),q):=by rw [HO.out];unfold eD;rw [if_pos h4,if_pos h5,if_pos h6,if_neg (by omega),q1];dsimp only;rw [q2];dsimp only;rw [<-HW.out,Int.toNat_natCast,q3]
        have hl:=jt K p2 q3;rw [q3]at C4;refine C4.out.mono ?_;rintro x w8 ⟨⟨v,rfl,hrow,hR8,hnil⟩,hg⟩;have hGB8:=az hGB7 hg (by omega);have hNB8:=az hNB7 hg nN;have g8:=ae g7 hg;have cN:=hNB8.cell 0;have kN8:Has w8 NB:=hNB8.lt;have GL:=hGB7.lt;have C5:=Lib.hid (HC.out w7.heap.size w8 n v l hg.size n0 n1.2.2.2 (by omega) (lD hb7 K p2 q3) hrow hnil);clear hnil;rw [hl]at hrow;obtain⟨bs,cap,rfl⟩:=bL hrow;clear C4 hRB7 hGB7 hWB7 hNB7 hb7 hR7 g7 hg
        go_wp2_with fail
        refine C5.out.mono ?_;rintro x w9 ⟨a',k',c',rfl,hP,hB⟩;have gB:w8.grownBy w9 (some R):=ab hB _;have hGB9:=hGB8.below hB;have hR9:=hR8.below hB;have g9:=ae g8 gB;have e0:=hGB9.cell 0;have f0:=hGB9.frozen 0;have P1:=hGB9.set 0 (.int .i64 n);have e1:=P1.cell 1;have f1:=P1.frozen 1;have P2:=P1.set 1 (.slice a' k' c');clear HO;subst he;have X1:=HP.out _ _ _ _ _ _ _ _ _ hP (af w9 (w.heap.size+1) 0 (.int .i64 n)) GL;have X2:=HP.out _ _ _ _ _ _ _ _ _ X1 (af _ (w.heap.size+1) 1 (.slice a' k' c')) GL;have R2:=ah (ah hR9 (show R≠w.heap.size+1 by omega) (.int .i64 n) 0) (show R≠w.heap.size+1 by omega) (.slice a' k' c') 1;have G2:=cI (cI g9 (w.heap.size+1) 0 (.int .i64 n) (by omega)) (w.heap.size+1) 1 (.slice a' k' c') (by omega);have Z:=Lib.hid (And.intro X2 (And.intro R2 G2));clear C5 hGB8 hNB8 g8 cN kN8 hP hB gB hR8 hR9 g9 P1 X1 X2 R2 G2 hrow hmf;have P2:=Lib.hid P2
        go_wp2_with fail
        (try simp only [Exit.inBlock,Exit.then])
        refine bodyPost_ret (results_cell_row rfl _ _ (w.heap.size+1) 24 _ _ _ rfl P2.out Tryz.underlying24 rfl (by kernel_rfl)) rfl ⟨?_,Z.out.2.2⟩;exact⟨w7.heap.size,by omega,a',k',c',rfl,Z.out.1,Z.out.2.1⟩
   .have he:O= .error (2,(m:Int)):=by rw [hO];unfold eD;rw [if_pos h4,if_pos h5,if_neg h6]
    have U:=Eb R a m c 4 0 fa f w1 hR1 hb1 hne hc hm (by omega);obtain⟨s1,s2,s3,s4⟩:=dA fa m 4 1 (by decide) (by omega);rw [s1,s2,s3,s4,if_neg (by decide)]at U;refine U.mono ?_;rintro x w2 ⟨rfl,hR2,hg⟩;have hRB2:=az hRB1 hg (by omega);have g2:=ae g1 hg;have cR:=hRB2.cell 0;have kRB:Has w2 w.heap.size:=hRB2.lt;have V:=Lib.hid (gO R (.slice a m c) 4 2 m 8 4 false _ (hR2.below (bl1 w2 (.cells #[.int .u8 0] 5))) (by decide));clear U hRB1 hGB1 hb1 g1 hg hR1 hO s1 s2 s3 s4
    go_wp2_with fail
    refine V.out.mono ?_;rintro x w4 ⟨rfl,hB4⟩;exact⟨rfl,by rw [he],ae (ae g2 (ab (bl1 w2 (.cells #[.int .u8 0] 5)) _)) (ab hB4 _)⟩
  .rw [if_neg h5]at C1;have he:O= .error (1,0):=by rw [hO];unfold eD;rw [if_pos h4,if_neg h5]
   refine C1.mono ?_;rintro x w1 ⟨rfl,hg⟩;exact⟨rfl,by rw [he],ae g0 hg⟩
 .rw [if_neg h4]at C1;have he:O= .error (2,(m:Int)):=by rw [hO];unfold eD;rw [if_neg h4]
  refine C1.mono ?_;rintro x w1 ⟨rfl,hg⟩;exact⟨rfl,by rw [he],ae g0 hg⟩
end
noncomputable section
open Go.RowKit Go.Sort
@[go_sem] theorem Qs (v:Value) (xT:TypeId) (w:World):(Instr.typeAssert (.iface 93 v) xT 93 true).run Tryz.prog w= .ok (.tuple #[v,.bool true]) w:=by kernel_rfl
theorem mn(F:Nat)(e fa e2 fa2:Int)(older:List PanicEntry)(w:World)(hF:CellsAt w F 33 #[.int .i64 e,.int .i64 fa]):
  CallsD Tryz.prog 60 #[.pointer (some ⟨F,0,none⟩)] (.panicking (fZ e2 fa2::older)) w λx u' w'=>
   x= .returned (.tuple #[])/\u'= .panicking ({fZ e2 fa2 with recovered:=true}::older)/\CellsAt w' F 33 #[.int .i64 e2,.int .i64 fa2]/\w.grownBy w' (some F):=by
 have c0:w.cell? ⟨F,0,none⟩=some (.int .i64 e):=hF.cell 0;have c1:w.cell? ⟨F,1,none⟩=some (.int .i64 fa):=hF.cell 1;have f0:=hF.frozen 0;have f1:=hF.frozen 1;have kF:Has w F:=hF.lt;refine callsD_of_wpS Tryz.func60 rfl λc₀ cs hu=> ?_;apply wpS_seq;apply wpS_region;simp [wpOpsS,go_sem,recoverD,hu,Tryz.ntmps60,Exit.thenS];refine wpS_of_wp ?_;generalize hQ:(λ(e:Exit) (a':Act) (w':World)=>bodyPostS _ _ _ _ _ e a' _ w')=Q;simp only [Array.replicate_succ,Array.replicate_zero,List.push_toArray,List.append_toArray,List.nil_append,List.cons_append,List.setIfInBounds_toArray,List.set_cons_zero,List.set_cons_succ]
 go_wp2_with fail
 subst hQ;have h1:=(hF.set 0 (.int .i64 e2)).set 1 (.int .i64 fa2);have h2:=ae (af w F 0 (.int .i64 e2)) (af _ F 1 (.int .i64 fa2));refine⟨rfl,_,rfl,_,by simp [results,Tryz.results60,go_sem],rfl,rfl,h1.below (bl1 _ _),ae h2 (ab (bl1 _ _) _)⟩
theorem Al(F:Nat)(w:World):
  CallsD Tryz.prog 60 #[.pointer (some ⟨F,0,none⟩)] .returning w λx u' w'=>x= .returned (.tuple #[])/\u'= .returning/\w'=w:=by
 refine callsD_of_wpS Tryz.func60 rfl λc₀ cs hu=> ?_;apply wpS_seq;apply wpS_region;simp [wpOpsS,go_sem,recoverD,hu,Tryz.ntmps60,Exit.thenS];refine wpS_of_wp ?_;generalize hQ:(λ(e:Exit) (a':Act) (w':World)=>bodyPostS _ _ _ _ _ e a' _ w')=Q;simp only [Array.replicate_succ,Array.replicate_zero,List.push_toArray,List.append_toArray,List.nil_append,List.cons_append,List.setIfInBounds_toArray,List.set_cons_zero,List.set_cons_succ]
 go_wp2_with fail
 subst hQ;cases c₀;simp only at hu;subst hu;exact⟨rfl,_,rfl,_,by simp [results,Tryz.results60,go_sem],rfl,rfl,rfl⟩
end
noncomputable section
open Go.RowKit Go.Sort
theorem lE{W W':World}{a:Option Addr}{n:Nat}{f:Nat->Int}(h:Rd8 W a n f)(hb:Below W.heap.size W W'):Rd8 W' a n f:=h.grown (ab hb none) (λ_ _=>by simp)
set_option maxHeartbeats 1000000 in
theorem qf(a:Option Addr)(k c:Nat)(f:Nat->Int)(w:World)(hr:Rd8 w a k f)(hk:k<=100000)(hc:k<=c):
  Calls Tryz.prog 61 #[.slice a k c] w λe w'=>∃R g,e= .returned (.pointer (some ⟨R,0,none⟩))/\CellsAt w' R 127 (rdr (.slice (some ⟨g,0,none⟩) k k) 0 0 0)/\Rd8 w' (some ⟨g,0,none⟩) k f/\g≠R/\w.heap.size<=R/\w.heap.size<=g/\g<w'.heap.size/\Below w.heap.size w w':=by
 go_enter Tryz.func61,Tryz.ntmps61
 go_wp2_with fail
 refine(qc a k c f _ hr hk hc).mono ?_;rintro x w1 ⟨g,rfl,hg,hgc,hb1⟩;have hf:∀i,i<k->0<=f i/\f i<=255:=λi hi=>by obtain⟨_,_,_,_,h⟩:=hr i hi;exact h
 have hgl:=hgc.lt;have hrd:=tc hgc hf;clear hgc hr
 go_wp2
 go_ret
 refine⟨w1.heap.size,g,rfl,World.alloc_heap_new w1 _,lE hrd (bl1 w1 _),by omega,hb1.size,hg,by simp;omega,hb1.trans ((bl1 w1 _).mono hb1.size)⟩
def cg(f:Nat->Int)(m:Nat):Except (Int×Int) (Int×List (Int×Int×Int)):=
 match eD f m with
 | .error e=> .error e
 | .ok (y,q)=>if q=m then .ok y else .error (4,(q:Int))
theorem aD{P:Program}{fn:Func}{p u:Tmp}{ty tz:TypeId}(h:fn.results=#[.cell p ty,.cell u tz])(tmps:Array Value)(w:World)(g k:Nat)(t t2:TypeId)(cs cs2:Array Value)(fr fr2:Nat×Nat)(d d2:TypeDesc)
  (hp:tmps.getD p undef= .pointer (some ⟨g,0,none⟩)) (hg:w.heap[g]? =some (.cells cs t fr))
  (hq:tmps.getD u undef= .pointer (some ⟨k,0,none⟩)) (hk:w.heap[k]? =some (.cells cs2 t2 fr2))
  (hu:P.underlying ty=some d) (hd:(match d with| .struct _| .array _ _=>true|_=>false)=true) (hi:(P.info? ty).map (·.size)=some cs.size)
  (hu2:P.underlying tz=some d2) (hd2:(match d2 with| .struct _| .array _ _=>true|_=>false)=true) (hi2:(P.info? tz).map (·.size)=some cs2.size):
  (results fn tmps).run P w= .ok (.tuple #[.agg cs,.agg cs2]) w:=by
 have hp':tmps[p]?.getD undef= .pointer (some ⟨g,0,none⟩):=by simpa using hp
 have hq':tmps[u]?.getD undef= .pointer (some ⟨k,0,none⟩):=by simpa using hq
 simp [results,h,hp',hq',asAddr,run_loadVar_row w g t ty cs fr d hg hu hd hi,run_loadVar_row w k t2 tz cs2 fr2 d2 hk hu2 hd2 hi2]
set_option maxRecDepth 100000 in
set_option maxHeartbeats 500000 in
theorem Am(P:Nat->Int->List (Int×Int×Int)->World->Option Addr->Nat->Nat->Prop)
  (HG:∀(R:Nat) (a:Option Addr) (m c:Nat) (fa:Int) (f:Nat->Int) (w:World),CellsAt w R 127 (rdr (.slice a m c) 0 0 fa)->Rd8 w a m f->(∀b,a=some b->b.block≠R)->m<=c->m<=100000->Calls Tryz.prog 32 #[ldr R] w λx w'=>
   (match eD f m with
    | .ok ((n,l),q)=>∃base a' k' c',w.heap.size<=base/\x= .returned (.agg #[.int .i64 n,.slice a' k' c'])/\P base n l w' a' k' c'/\CellsAt w' R 127 (rdr (.slice a m c) q 0 fa)
    | .error er=>x= .panicked [fZ er.1 er.2])/\w.grownBy w' (some R))
  (HP:∀base n l w' w'' a' k' c' b,P base n l w' a' k' c'->w'.grownBy w'' (some b)->b<base->P base n l w'' a' k' c')
  (a:Option Addr) (m c:Nat) (f:Nat->Int) (w:World) (hb:Rd8 w a m f) (hc:m<=c) (hm:m<=100000):
  Calls Tryz.prog 31 #[.slice a m c,.func (.func 32) #[] #[]] w λx w'=>
   (match cg f m with
    | .ok (n,l)=>∃base a' k' c',w.heap.size<=base/\x= .returned (.tuple #[.agg #[.int .i64 n,.slice a' k' c'],.agg #[.int .i64 0,.int .i64 0]])/\P base n l w' a' k' c'
    | .error er=>x= .returned (.tuple #[.agg #[.int .i64 0,.slice none 0 0],.agg #[.int .i64 er.1,.int .i64 er.2]]))/\Below w.heap.size w w':=by
 obtain⟨O,hO⟩:∃O,O=cg f m:=⟨_,rfl⟩;rw [<-hO];have HO:=Lib.hid hO;have HG:=Lib.hid HG;have HP:=Lib.hid HP;clear hO;have hmf:∀(fn:Fn) (first cap:Array Value) (w:World),(Instr.makeFunc fn first cap).run Tryz.prog w= .ok (.func fn first cap) w:=λ_ _ _ _=>rfl;have B2:Below w.heap.size w ((w.alloc (.cells #[.int .i64 0,.slice none 0 0] 24)).alloc (.cells #[.int .i64 0,.int .i64 0] 33)):=bl2 _ _ _;have hOB:CellsAt ((w.alloc (.cells #[.int .i64 0,.slice none 0 0] 24)).alloc (.cells #[.int .i64 0,.int .i64 0] 33)) w.heap.size 24 #[.int .i64 0,.slice none 0 0]:=CellsAt.below (World.alloc_heap_new w _) (bl1 _ _)
 have hFB:CellsAt ((w.alloc (.cells #[.int .i64 0,.slice none 0 0] 24)).alloc (.cells #[.int .i64 0,.int .i64 0] 33)) (w.heap.size+1) 33 #[.int .i64 0,.int .i64 0]:=by
  have:=World.alloc_heap_new (w.alloc (.cells #[.int .i64 0,.slice none 0 0] 24)) (.cells #[.int .i64 0,.int .i64 0] 33)
  simpa [CellsAt]using this
 have hb0:=hb.grown (ab B2 none) (λ_ _=>by simp)
 go_enter_defers Tryz.func31,Tryz.ntmps31
 go_wp2_with fail
 generalize ((w.alloc (.cells #[.int .i64 0,.slice none 0 0] 24)).alloc (.cells #[.int .i64 0,.int .i64 0] 33))=W0 at B2 hOB hFB hb0 ⊢;refine(qf a m c f W0 hb0 hm hc).mono ?_;rintro x w1 ⟨R,g,rfl,hR1,hb1,hgR,hRn,hgn,hgl,hB1⟩;have hOB1:=hOB.below hB1;have hFB1:=hFB.below hB1;have FL:=hFB.lt;have B1:=B2.trans (hB1.mono B2.size);clear hb hb0 hOB hFB B2 hB1;have hR2:=hR1.below (bl1 w1 (.cells #[.pointer (some ⟨R,0,none⟩)] 98));have hb2:=dU hb1 (ab (bl1 w1 (.cells #[.pointer (some ⟨R,0,none⟩)] 98)) (some R)) (λb e=>by cases e;exact hgR);have C1:=Lib.hid (HG.out R _ m m 0 f _ hR2 hb2 (λb e=>by cases e;exact hgR) (Nat.le_refl _) hm)
 go_wp2_with fail
 have hOB2:=hOB1.below (bl1 w1 (.cells #[.pointer (some ⟨R,0,none⟩)] 98));have hFB2:=hFB1.below (bl1 w1 (.cells #[.pointer (some ⟨R,0,none⟩)] 98));have hXB2:CellsAt (w1.alloc (.cells #[.pointer (some ⟨R,0,none⟩)] 98)) w1.heap.size 98 #[.pointer (some ⟨R,0,none⟩)]:=World.alloc_heap_new w1 _;have B2:Below w.heap.size w (w1.alloc (.cells #[.pointer (some ⟨R,0,none⟩)] 98)):=B1.alloc B1.size _;have LX:R<w1.heap.size:=hR1.lt;have LF:w.heap.size+1<w1.heap.size:=hFB1.lt;clear hR1 hb1 hOB1 hFB1 B1 hR2 hb2 hgn hgl hgR;generalize w1.alloc (.cells #[.pointer (some ⟨R,0,none⟩)] 98)=W2 at C1 hOB2 hFB2 hXB2 B2 ⊢;generalize w1.heap.size=RX at hXB2 LX LF ⊢
 cases q1:eD f m with
 |error er=>
  have he:Hid (O= .error er):=Lib.hid (by rw [HO.out];unfold cg;rw [q1]);rw [q1]at C1;refine C1.out.mono ?_;rintro x w3 ⟨rfl,hg⟩;have hOB3:=az hOB2 hg (by omega);have hFB3:=az hFB2 hg (by omega);have B3:Below w.heap.size w w3:=B2.trans (aw hg B2.size (by omega));refine leaves_cons (f:=60) (args:=#[.pointer (some ⟨w.heap.size+1,0,none⟩)]) (by simp) (by simp [go_sem]) ?_;refine(mn (w.heap.size+1) 0 0 er.1 er.2 [] w3 hFB3).mono ?_;rintro x u' w4 ⟨rfl,rfl,hF4,hg4⟩;have hO4:=hOB3.grown hg4 (by simp);refine⟨_,aD rfl _ _ w.heap.size (w.heap.size+1) 24 33 _ _ _ _ _ _ rfl hO4 rfl hF4 Tryz.underlying24 rfl (by kernel_rfl) Tryz.underlying33 rfl (by kernel_rfl),?_,B3.trans (aw hg4 B3.size (by omega))⟩;rw [he.out]
 |ok r=>
  obtain⟨⟨n,l⟩,q⟩:=r;rw [q1]at C1;refine C1.out.mono ?_;rintro x w3 ⟨⟨base,a',k',c',hbase,rfl,hP,hR3⟩,hg⟩;have hOB3:=az hOB2 hg (by omega);have hFB3:=az hFB2 hg (by omega);have hXB3:=az hXB2 hg (by omega);have B3:Below w.heap.size w w3:=B2.trans (aw hg B2.size (by omega));have BA:=bl1 w3 (.cells #[.int .i64 n,.slice a' k' c'] 24);have hY4:CellsAt (w3.alloc (.cells #[.int .i64 n,.slice a' k' c'] 24)) w3.heap.size 24 #[.int .i64 n,.slice a' k' c']:=World.alloc_heap_new w3 _;have cX:=hXB3.cell 0;have kX:Has w3 RX:=hXB3.lt
  go_wp2_with fail
  have hR4:=hR3.below BA;have hOB4:=hOB3.below BA;have hFB4:=hFB3.below BA;have hXB4:=hXB3.below BA;have B4:Below w.heap.size w (w3.alloc (.cells #[.int .i64 n,.slice a' k' c'] 24)):=B3.trans (BA.mono B3.size);have hP4:=HP.out _ _ _ _ _ _ _ _ w.heap.size hP (ab BA _) (by have:=B2.size;have:=hFB2.lt;omega);have kY:=hFB3.lt;clear cX kX hR3 hOB3 hFB3 hXB3 B3 BA hP C1;generalize w3.alloc (.cells #[.int .i64 n,.slice a' k' c'] 24)=W4 at hY4 hR4 hOB4 hFB4 hXB4 B4 hP4 ⊢;generalize w3.heap.size=Y at hY4 kY ⊢;have cX:=hXB4.cell 0;have kX:Has W4 RX:=hXB4.lt;have HA:=Lib.hid (λ(U:World) (hU:Below W4.heap.size W4 U)=>lC R _ q 0 0 U (hR4.below hU));by_cases hq:q=m
  .have HE:=Lib.hid (λ(U:World) (hU:Below W4.heap.size W4 U)=>sd R _ m m q 0 U (hR4.below hU) true (by simp [hq]));have he:Hid (O= .ok (n,l)):=Lib.hid (by rw [HO.out];unfold cg;rw [q1];dsimp only;rw [if_pos hq]);clear hq;refine av 8 (by kernel_rfl) (by kernel_rfl) ?_;simp only [List.take_succ_cons,List.take_zero,List.drop_succ_cons,List.drop_zero]
   repeat (go_big_quiet_step (first
    |(go_at_call 63;exact Calls.regrown_of (HE.out _ (by repeat (first|with_reducible refine blg ?_ _ _|with_reducible refine bla ?_ _|with_reducible exact Below.refl _ _))))
    |(go_at_call 64;exact Calls.regrown_of (HA.out _ (by repeat (first|with_reducible refine blg ?_ _ _|with_reducible refine bla ?_ _|with_reducible exact Below.refl _ _))))))
   refine wpQuiet_nil ?_;rintro _ ⟨⟨d3,o3⟩,rfl⟩;have BU:=below_regrown W4 d3 o3;generalize grow (redrawn W4 d3) o3=U at BU ⊢;have V:=Lib.hid (fJ R _ q 0 4 q U (hR4.below BU))
   go_wp2_with fail
   refine V.out.mono ?_;rintro x w5 ⟨rfl,hB5⟩;have BW:=BU.trans (hB5.mono BU.size);have hOB5:=hOB4.below BW;have hFB5:=hFB4.below BW;have hY5:=hY4.below BW;have B5:=B4.trans (BW.mono B4.size);have LO:w.heap.size<base:=by have:=B2.size;have:=hFB2.lt;omega
   have LB:w.heap.size+1<base:=by have:=hFB2.lt;omega
   have X0:=HP.out _ _ _ _ _ _ _ _ w.heap.size hP4 (ab BW _) LO;have y0:=hY5.cell 0;have y1:=hY5.cell 1;have kY5:Has w5 Y:=hY5.lt;have o0:=hOB5.cell 0;have fo0:=hOB5.frozen 0;have P1:=hOB5.set 0 (.int .i64 n);have o1:=P1.cell 1;have fo1:=P1.frozen 1;have P2:=P1.set 1 (.slice a' k' c');have F2:=ah (ah hFB5 (show w.heap.size+1≠w.heap.size by omega) (.int .i64 n) 0) (show w.heap.size+1≠w.heap.size by omega) (.slice a' k' c') 1;have q0:=F2.cell 0;have fq0:=F2.frozen 0;have F3:=F2.set 0 (.int .i64 0);have q1':=F3.cell 1;have fq1:=F3.frozen 1;have F4:=Lib.hid (F3.set 1 (.int .i64 0));have O4:=Lib.hid (ah (ah P2 (show w.heap.size≠w.heap.size+1 by omega) (.int .i64 0) 0) (show w.heap.size≠w.heap.size+1 by omega) (.int .i64 0) 1);have X1:=HP.out _ _ _ _ _ _ _ _ _ X0 (af w5 w.heap.size 0 (.int .i64 n)) LO;have X2:=HP.out _ _ _ _ _ _ _ _ _ X1 (af _ w.heap.size 1 (.slice a' k' c')) LO;have X3:=HP.out _ _ _ _ _ _ _ _ _ X2 (af _ (w.heap.size+1) 0 (.int .i64 0)) LB;have X4:=Lib.hid (HP.out _ _ _ _ _ _ _ _ _ X3 (af _ (w.heap.size+1) 1 (.int .i64 0)) LB);have Z:=Lib.hid ((((B5.setCell (p:=⟨w.heap.size,0,none⟩) (Nat.le_refl _) (.int .i64 n)).setCell (p:=⟨w.heap.size,1,none⟩) (Nat.le_refl _) (.slice a' k' c')).setCell (p:=⟨w.heap.size+1,0,none⟩) (Nat.le_succ _) (.int .i64 0)).setCell (p:=⟨w.heap.size+1,1,none⟩) (Nat.le_succ _) (.int .i64 0));clear X0 X1 X2 X3 P1 P2 F2 F3 V hB5 BW hOB5 hFB5 hY5 HA HE hR4 hOB4 hFB4 hXB4 B4 hP4 hY4 BU hmf;have he:=he.out;clear HO;subst he
   go_wp2_with fail
   refine leaves_cons (f:=60) (args:=#[.pointer (some ⟨w.heap.size+1,0,none⟩)]) (by simp) (by simp [go_sem]) ?_;refine(Al (w.heap.size+1) _).mono ?_;rintro x u' w6 ⟨rfl,rfl,rfl⟩;refine⟨_,aD rfl _ _ w.heap.size (w.heap.size+1) 24 33 _ _ _ _ _ _ rfl O4.out rfl F4.out Tryz.underlying24 rfl (by kernel_rfl) Tryz.underlying33 rfl (by kernel_rfl),?_,Z.out⟩;have hL:w.heap.size<=base:=by omega
   first|exact⟨base,a',k',c',hL,rfl,X4.out⟩|exact⟨base,hL,a',k',c',rfl,X4.out⟩
  .have HE:=Lib.hid (λ(U:World) (hU:Below W4.heap.size W4 U)=>sd R _ m m q 0 U (hR4.below hU) false (by simp [hq]));have he:Hid (O= .error (4,(q:Int))):=Lib.hid (by rw [HO.out];unfold cg;rw [q1];dsimp only;rw [if_neg hq]);refine av 8 (by kernel_rfl) (by kernel_rfl) ?_;simp only [List.take_succ_cons,List.take_zero,List.drop_succ_cons,List.drop_zero]
   repeat (go_big_quiet_step (first
    |(go_at_call 63;exact Calls.regrown_of (HE.out _ (by repeat (first|with_reducible refine blg ?_ _ _|with_reducible refine bla ?_ _|with_reducible exact Below.refl _ _))))
    |(go_at_call 64;exact Calls.regrown_of (HA.out _ (by repeat (first|with_reducible refine blg ?_ _ _|with_reducible refine bla ?_ _|with_reducible exact Below.refl _ _))))))
   refine wpQuiet_nil ?_;rintro _ ⟨⟨d3,o3⟩,rfl⟩;have BU:=below_regrown W4 d3 o3;generalize grow (redrawn W4 d3) o3=U at BU ⊢;have V:=Lib.hid (gG R _ q 0 4 q U (hR4.below BU) (by decide))
   go_wp2_with fail
   refine V.out.mono ?_;rintro x w5 ⟨rfl,hg5⟩;have hFB5:=az (hFB4.below BU) hg5 (by omega);have hOB5:=az (hOB4.below BU) hg5 (by omega);have B5:Below w.heap.size w w5:=(B4.trans (BU.mono B4.size)).trans (aw hg5 (B4.trans (BU.mono B4.size)).size (by omega));refine leaves_cons (f:=60) (args:=#[.pointer (some ⟨w.heap.size+1,0,none⟩)]) (by simp) (by simp [go_sem]) ?_;refine(mn (w.heap.size+1) 0 0 4 q [] w5 hFB5).mono ?_;rintro x u' w6 ⟨rfl,rfl,hF6,hg6⟩;have hO6:=hOB5.grown hg6 (by simp);refine⟨_,aD rfl _ _ w.heap.size (w.heap.size+1) 24 33 _ _ _ _ _ _ rfl hO6 rfl hF6 Tryz.underlying24 rfl (by kernel_rfl) Tryz.underlying33 rfl (by kernel_rfl),?_,B5.trans (aw hg6 B5.size (by omega))⟩;rw [he.out]
end
noncomputable section
open Go.RowKit Go.Sort
set_option maxRecDepth 100000 in
set_option maxHeartbeats 500000 in
theorem CA(P:Nat->Int->List (Int×Int×Int)->World->Option Addr->Nat->Nat->Prop)
  (HC:∀(base:Nat) (W:World) (n:Int) (v:Value) (l:List (Int×Int×Int)),base<=W.heap.size->0<=n->n<=4096->l.length<=65536->InE n l->W.ownsRow base 52 3 v l.length (fu l)->(l= []->v= .slice none 0 0)->Calls Tryz.prog 70 #[.agg #[.int .i64 n,v]] W λx w'=>∃a' k' c',x= .returned (.agg #[.int .i64 n,.slice a' k' c'])/\P base n l w' a' k' c'/\Below W.heap.size W w')
  (HP:∀base n l w' w'' a' k' c' b,P base n l w' a' k' c'->w'.grownBy w'' (some b)->b<base->P base n l w'' a' k' c')
  (a:Option Addr) (m c:Nat) (f:Nat->Int) (w:World) (hb:Rd8 w a m f) (hc:m<=c) (hm:m<=100000):
  Calls Tryz.prog 12 #[.slice a m c] w λx w'=>
   (match cg f m with
    | .ok (n,l)=>∃base a' k' c',w.heap.size<=base/\x= .returned (.tuple #[.agg #[.int .i64 n,.slice a' k' c'],.agg #[.int .i64 0,.int .i64 0]])/\P base n l w' a' k' c'
    | .error er=>x= .returned (.tuple #[.agg #[.int .i64 0,.slice none 0 0],.agg #[.int .i64 er.1,.int .i64 er.2]]))/\Below w.heap.size w w':=by
 have G:=Lib.hid (λW h=>Am P (λR a m c fa f w h1 h2 h3 h4 h5=>FU P HC HP R a m c fa f w h1 h2 h3 h4 h5) HP a m c f W h hc hm);have HP:=Lib.hid HP;clear HC;have B2:Below w.heap.size w ((w.alloc (.cells #[.int .i64 0,.slice none 0 0] 24)).alloc (.cells #[.int .i64 0,.int .i64 0] 33)):=bl2 _ _ _;have hOB:CellsAt ((w.alloc (.cells #[.int .i64 0,.slice none 0 0] 24)).alloc (.cells #[.int .i64 0,.int .i64 0] 33)) w.heap.size 24 #[.int .i64 0,.slice none 0 0]:=CellsAt.below (World.alloc_heap_new w _) (bl1 _ _)
 have hFB:CellsAt ((w.alloc (.cells #[.int .i64 0,.slice none 0 0] 24)).alloc (.cells #[.int .i64 0,.int .i64 0] 33)) (w.heap.size+1) 33 #[.int .i64 0,.int .i64 0]:=by
  have:=World.alloc_heap_new (w.alloc (.cells #[.int .i64 0,.slice none 0 0] 24)) (.cells #[.int .i64 0,.int .i64 0] 33)
  simpa [CellsAt]using this
 have hb0:=hb.grown (ab B2 none) (λ_ _=>by simp);have FL:=hFB.lt;have C1:=G.out _ hb0;obtain⟨O,hO⟩:∃O,O=cg f m:=⟨_,rfl⟩;rw [<-hO]at C1 ⊢;clear hO G hb0 hb
 go_enter Tryz.func12,Tryz.ntmps12
 cases O with
 |error er=>
  have C1:=Lib.hid C1
  go_wp2_with fail
  generalize ((w.alloc (.cells #[.int .i64 0,.slice none 0 0] 24)).alloc (.cells #[.int .i64 0,.int .i64 0] 33))=W0 at B2 hOB hFB FL C1 ⊢;refine C1.out.mono ?_;rintro x w1 ⟨rfl,hB1⟩;have hOB1:=hOB.below hB1;have hFB1:=hFB.below hB1;have B1:=B2.trans (hB1.mono B2.size);have o0:=hOB1.cell 0;have fo0:=hOB1.frozen 0;have P1:=hOB1.set 0 (.int .i64 0);have o1:=P1.cell 1;have fo1:=P1.frozen 1;have P2:=P1.set 1 (.slice none 0 0);have F2:=ah (ah hFB1 (show w.heap.size+1≠w.heap.size by omega) (.int .i64 0) 0) (show w.heap.size+1≠w.heap.size by omega) (.slice none 0 0) 1;have q0:=F2.cell 0;have fq0:=F2.frozen 0;have F3:=F2.set 0 (.int .i64 er.1);have q1:=F3.cell 1;have fq1:=F3.frozen 1;have F4:=Lib.hid (F3.set 1 (.int .i64 er.2));have O4:=Lib.hid (ah (ah P2 (show w.heap.size≠w.heap.size+1 by omega) (.int .i64 er.1) 0) (show w.heap.size≠w.heap.size+1 by omega) (.int .i64 er.2) 1);have Z:=Lib.hid ((((B1.setCell (p:=⟨w.heap.size,0,none⟩) (Nat.le_refl _) (.int .i64 0)).setCell (p:=⟨w.heap.size,1,none⟩) (Nat.le_refl _) (.slice none 0 0)).setCell (p:=⟨w.heap.size+1,0,none⟩) (Nat.le_succ _) (.int .i64 er.1)).setCell (p:=⟨w.heap.size+1,1,none⟩) (Nat.le_succ _) (.int .i64 er.2));clear P1 P2 F2 F3 hB1 hOB1 hFB1 hOB hFB
  go_wp2_with fail
  (try simp only [Exit.inBlock,Exit.then])
  refine bodyPost_ret (aD rfl _ _ w.heap.size (w.heap.size+1) 24 33 _ _ _ _ _ _ rfl O4.out rfl F4.out Tryz.underlying24 rfl (by kernel_rfl) Tryz.underlying33 rfl (by kernel_rfl)) rfl ?_;exact⟨rfl,Z.out⟩
 |ok y=>
  obtain⟨n,l⟩:=y;have C1:=Lib.hid C1
  go_wp2_with fail
  generalize ((w.alloc (.cells #[.int .i64 0,.slice none 0 0] 24)).alloc (.cells #[.int .i64 0,.int .i64 0] 33))=W0 at B2 hOB hFB FL C1 ⊢;refine C1.out.mono ?_;rintro x w1 ⟨⟨base,a',k',c',hbase,rfl,hP⟩,hB1⟩;have hOB1:=hOB.below hB1;have hFB1:=hFB.below hB1;have B1:=B2.trans (hB1.mono B2.size);have o0:=hOB1.cell 0;have fo0:=hOB1.frozen 0;have P1:=hOB1.set 0 (.int .i64 n);have o1:=P1.cell 1;have fo1:=P1.frozen 1;have P2:=P1.set 1 (.slice a' k' c');have F2:=ah (ah hFB1 (show w.heap.size+1≠w.heap.size by omega) (.int .i64 n) 0) (show w.heap.size+1≠w.heap.size by omega) (.slice a' k' c') 1;have q0:=F2.cell 0;have fq0:=F2.frozen 0;have F3:=F2.set 0 (.int .i64 0);have q1:=F3.cell 1;have fq1:=F3.frozen 1;have F4:=Lib.hid (F3.set 1 (.int .i64 0));have O4:=Lib.hid (ah (ah P2 (show w.heap.size≠w.heap.size+1 by omega) (.int .i64 0) 0) (show w.heap.size≠w.heap.size+1 by omega) (.int .i64 0) 1);have Z:=Lib.hid ((((B1.setCell (p:=⟨w.heap.size,0,none⟩) (Nat.le_refl _) (.int .i64 n)).setCell (p:=⟨w.heap.size,1,none⟩) (Nat.le_refl _) (.slice a' k' c')).setCell (p:=⟨w.heap.size+1,0,none⟩) (Nat.le_succ _) (.int .i64 0)).setCell (p:=⟨w.heap.size+1,1,none⟩) (Nat.le_succ _) (.int .i64 0));have LO:w.heap.size<base:=by omega
  have LB:w.heap.size+1<base:=by omega
  have X1:=HP.out _ _ _ _ _ _ _ _ _ hP (af w1 w.heap.size 0 (.int .i64 n)) LO;have X2:=HP.out _ _ _ _ _ _ _ _ _ X1 (af _ w.heap.size 1 (.slice a' k' c')) LO;have X3:=HP.out _ _ _ _ _ _ _ _ _ X2 (af _ (w.heap.size+1) 0 (.int .i64 0)) LB;have X4:=Lib.hid (HP.out _ _ _ _ _ _ _ _ _ X3 (af _ (w.heap.size+1) 1 (.int .i64 0)) LB);clear X1 X2 X3 hP;clear P1 P2 F2 F3 hB1 hOB1 hFB1 hOB hFB
  go_wp2_with fail
  (try simp only [Exit.inBlock,Exit.then])
  refine bodyPost_ret (aD rfl _ _ w.heap.size (w.heap.size+1) 24 33 _ _ _ _ _ _ rfl O4.out rfl F4.out Tryz.underlying24 rfl (by kernel_rfl) Tryz.underlying33 rfl (by kernel_rfl)) rfl ?_;have hL:w.heap.size<=base:=by omega
  first|exact⟨⟨base,a',k',c',hL,rfl,X4.out⟩,Z.out⟩|exact⟨⟨base,hL,a',k',c',rfl,X4.out⟩,Z.out⟩
end
noncomputable section
open Go.RowKit Go.Sort
namespace Sm
namespace Be
open Ev
abbrev By:K.Ty:= .S (.I .u8)
def okY(x:Sl Int):Bool:=decide (x.l.length<=100000)&&((x.l.all λe=>decide (0<=e)&& decide (e<=255))&&(decide (x.sz=1)||x.l.isEmpty))
def gf(x:Sl Int):Nat->Int:=λi=>x.l.getD i 0
theorem lF{w:World}{F:Nat->Prop}{x:Sl Int}{y:Value}(hx:okY x=true)(h:RepT w F (Sl.t (K.Ty.row (.I .u8)) x) y):∃a c,y= .slice a x.l.length c/\Rd8 w a x.l.length (gf x)/\x.l.length<=c/\x.nn=a.isSome/\(a=none->c=0):=by
 obtain⟨nn,sz,l⟩:=x;simp only [okY,Bool.and_eq_true,Bool.or_eq_true,decide_eq_true_eq,List.isEmpty_iff,List.all_eq_true]at hx;unfold Sl.t at h
 cases h with
 |s _ _ _ a c ys hn hc h0 hl hm hr=>
  rw [List.length_map]at hc ⊢;refine⟨a,c,rfl,?_,hc,hn,h0⟩;intro i hi
  have hsz:sz=1:=by
   rcases hx.2.2 with h|h
   .exact h
   .rw [h]at hi;simp at hi
  subst hsz;have hil:(l.map (K.Ty.row (.I .u8)))[i]? =some (K.Ty.row (.I .u8) l[i]):=by simp [hi]
  have he:gf ⟨nn,1,l⟩ i=l[i]:=by simp [gf,List.getD_eq_getElem?_getD,hi]
  rw [he];obtain⟨b,h1,h2,_,h3⟩:=hm i _ 0 (.v (.int .u8 l[i])) hil rfl;have h4:=hr i _ 0 (.v (.int .u8 l[i])) hil rfl;rw [Nat.mul_one,Nat.add_zero]at h3;generalize ys i 0=y at h3 h4
  cases h4 with
  |v z hz=>
   have hb:=hx.2.1 l[i] (List.getElem_mem _);exact⟨b,h1,h2,h3,hb⟩
abbrev ins:List K.TyD:= [(false,By),(false,By)]
abbrev outs:List K.TyD:= [(false,.B)]
def fn(a:Sl Int×Sl Int):Option Bool:=if okY a.1=true/\okY a.2=true then some (decide (a.1.l=a.2.l))else none
theorem tk{w:World}{a:Option Addr}{c:Nat}{x:Sl Int}(h:Rd8 w a x.l.length (gf x)):(convert 26 9 (.slice a x.l.length c)).run Tryz.prog w= .ok (.string (strOfNums x.l)) w:=by
 have e0:strOfNums []=⟨#[]⟩:=rfl
 cases a with
 |none=>
  have h0:x.l= []:=by
   cases hl:x.l with
   |nil=>rfl
   |cons z r=>
    obtain⟨b,e,_⟩:=h 0 (by rw [hl];simp);cases e
  rw [h0];exact Lib.run_convert_nil_bytes w _ _ 5 c (by kernel_rfl) (by kernel_rfl) (by kernel_rfl)
 |some b=>
  have hl:=run_loadCells_list (P:=Tryz.prog) w b (x.l.map (Value.int .u8)) (λj v hj=>by
   rw [List.getElem?_map,Option.map_eq_some_iff]at hj;obtain⟨z,hz,rfl⟩:=hj;have hj:=(List.getElem?_eq_some_iff.1 hz).1;obtain⟨b2,e,_,h3,_⟩:=h j hj;cases e;rw [h3]
   simp [gf,List.getD_eq_getElem?_getD,hz])
  rw [List.length_map]at hl;rw [run_convert_bytes_string w _ _ 5 (some b) x.l.length c (by kernel_rfl) (by kernel_rfl) (by kernel_rfl),run_bytesToString w _ _ c x.l hl,foldl_push_bytes];simp [strOfNums,ByteArray.empty,ByteArray.emptyWithCapacity];rfl
theorem Mf{x:Sl Int}(h:okY x=true):∀e∈x.l,0<=e/\e<=255:=by
 simp only [okY,Bool.and_eq_true,Bool.or_eq_true,decide_eq_true_eq,List.isEmpty_iff,List.all_eq_true]at h;exact h.2.1
theorem ow{x:Sl Int}(h:okY x=true):x.l.length<=100000:=by
 simp only [okY,Bool.and_eq_true,Bool.or_eq_true,decide_eq_true_eq,List.isEmpty_iff,List.all_eq_true]at h;exact h.1
theorem wG:∀{l k:List Int},(∀e∈l,0<=e/\e<=255)->(∀e∈k,0<=e/\e<=255)->(l.map λn=>UInt8.ofNat n.toNat)=(k.map λn=>UInt8.ofNat n.toNat)->l=k
 | [],[],_,_,_=>rfl
 | [],_::_,_,_,h=>by simp at h
 |_::_,[],_,_,h=>by simp at h
 |x::l,y::k,h1,h2,h=>by
  simp only [List.map_cons,List.cons.injEq]at h;have hx:=h1 x (List.mem_cons_self);have hy:=h2 y (List.mem_cons_self);have e:=congrArg UInt8.toNat h.1;simp only [UInt8.toNat_ofNat',Nat.reducePow]at e;have e1:x=y:=by omega
  rw [e1,wG (λe he=>h1 e (List.mem_cons_of_mem _ he)) (λe he=>h2 e (List.mem_cons_of_mem _ he)) h.2]
theorem OL{x y:Sl Int}(hx:okY x=true)(hy:okY y=true):((strOfNums x.l).toList==(strOfNums y.l).toList)=decide (x.l=y.l):=by
 by_cases h:x.l=y.l
 .rw [h];simp
 .rw [decide_eq_false h];refine beq_false_of_ne λe=>h (wG (Mf hx) (Mf hy) ?_);rw [ByteArray.toList_eq,ByteArray.toList_eq]at e;exact e
theorem pure_ok(a:K.ba ins)(o:K.ba outs)(h:fn a=some o):dP Tryz.prog 42 (K.bW ins a) .fresh (K.bW outs o):=by
 obtain⟨x,y⟩:=a;change Sl Int at x;change Sl Int at y;unfold fn at h;rw [Option.ite_none_right_eq_some]at h;obtain⟨⟨hx,hy⟩,h⟩:=h;cases h;intro w F ys hL hF hr;obtain⟨hlen,hi⟩:=hr
 match ys,hlen with
 | [y0,y1],_=>
  obtain⟨z,e1,e2⟩:=hi 0 _ rfl;simp only [List.getElem?_cons_zero,zsI]at e1;subst e1;obtain⟨z,e1,e3⟩:=hi 1 _ rfl;simp only [List.getElem?_cons_succ,List.getElem?_cons_zero,zsI]at e1;subst e1
  have r1:RepT w F (Sl.t (K.Ty.row (.I .u8)) x) y0:=by cases e2 with|one t y h=>exact h
  have r2:RepT w F (Sl.t (K.Ty.row (.I .u8)) y) y1:=by cases e3 with|one t y h=>exact h
  obtain⟨a1,c1,rfl,g1,_,_⟩:=lF hx r1;obtain⟨a2,c2,rfl,g2,_,_⟩:=lF hy r2;have v1:=tk (c:=c1) g1;have v2:=tk (c:=c2) g2;have he:=OL hx hy;refine Calls.mono (R:=λe w'=>e= .returned (.bool (decide (x.l=y.l)))/\Below w.heap.size w w') ?_ λe w' h=>⟨_,h.1,.one _ _ (.v _ rfl),λhk=>(by cases hk),h.2⟩;obtain⟨B,hB⟩:∃B,B=decide (x.l=y.l):=⟨_,rfl⟩;rw [<-hB]at he ⊢;clear hB e2 e3 r1 r2 g1 g2 hi hx hy;generalize strOfNums x.l=s1 at v1 he;generalize strOfNums y.l=s2 at v2 he;generalize x.l.length=n1 at v1 ⊢;generalize y.l.length=n2 at v2 ⊢
  go_enter Tryz.func42,Tryz.ntmps42
  go_wp2_with fail
  go_ret
  exact⟨rfl,(by repeat (first|with_reducible refine blg ?_ _ _|with_reducible refine bla ?_ _|with_reducible exact Below.refl _ _))⟩
theorem enters:Ev.Enters Tryz.prog 42:=⟨_,_,Tryz.func42,by kernel_rfl,by unfold Tryz.f42;rfl⟩
end Be
end Sm
end
noncomputable section
open Go.RowKit Go.Sort
namespace Sm
namespace Dc
open Ev Be
abbrev ety:K.Ty:=Eg.ety
abbrev Gr:K.Ty:= .C (.I .i64) (.S ety)
abbrev Ft:K.Ty:= .C (.I .i64) (.I .i64)
abbrev ins:List K.TyD:= [(false,By)]
abbrev outs:List K.TyD:= [(true,Gr),(true,Ft)]
def liS(l:List (Int×Int×Int)):Sl (Int×Int×Int):=⟨!l.isEmpty,3,l⟩
def canonS(l:List (Int×Int×Int)):Sl (Int×Int×Int):=if iU l=true then liS l else(let o:=dQ (Eg.RG 1) l;if o.2=0 then⟨true,3,o.1⟩else⟨false,0,[]⟩)
theorem HS{n:Int}{l:List (Int×Int×Int)}(hn:n<=4096)(hl:l.length<=65536)(hin:InE n l):∃e,Eg.fn (1,liS l)=some (canonS l,e):=by
 have hok:Eg.okB (liS l)=true:=by
  simp only [Eg.okB,liS,Bool.and_eq_true,Bool.or_eq_true,decide_eq_true_eq,List.isEmpty_iff,List.all_eq_true];refine⟨⟨⟨decide_eq_true (by omega),λe he=> ?_⟩,.inl trivial⟩,?_⟩
  .have:=hin e he
   refine⟨?_,?_,?_⟩<;>simp only [Eg.inB,Bool.and_eq_true,decide_eq_true_eq]<;>omega
  .cases l<;>simp
 unfold Eg.fn canonS;rw [if_pos (show iy 1=true by decide),if_pos hok];show∃e,(if iU l=true then some ((⟨!l.isEmpty,3,l⟩:Sl (Int×Int×Int)),(0:Int))else _)=_;by_cases h:iU l=true
 .rw [if_pos h,if_pos h];exact⟨0,rfl⟩
 .rw [if_neg h,if_neg h];show∃e,some (if(dQ (Eg.RG 1) l).2=0 then((⟨true,3,(dQ (Eg.RG 1) l).1⟩:Sl (Int×Int×Int)),(0:Int))else(⟨false,0,[]⟩,(dQ (Eg.RG 1) l).2))=some (if(dQ (Eg.RG 1) l).2=0 then(⟨true,3,(dQ (Eg.RG 1) l).1⟩:Sl (Int×Int×Int))else⟨false,0,[]⟩,e);by_cases h0:(dQ (Eg.RG 1) l).2=0
  .rw [if_pos h0,if_pos h0];exact⟨0,rfl⟩
  .rw [if_neg h0,if_neg h0];exact⟨_,rfl⟩
def PC(base:Nat)(n:Int)(l:List (Int×Int×Int))(W:World)(a:Option Addr)(k c:Nat):Prop:=RepT W (λb=>b<base) (Sl.t ety.row (canonS l)) (.slice a k c)
theorem PC.keep{base:Nat}{n:Int}{l:List (Int×Int×Int)}{w' w'':World}{a:Option Addr}{k c b:Nat}(h:PC base n l w' a k c)(g:w'.grownBy w'' (some b))(hb:b<base):PC base n l w'' a k c:=
 RepT.mono g.size (λq hq _ hn=>⟨g.block q hq (by simp;omega),hn⟩) h
set_option maxRecDepth 100000 in
set_option maxHeartbeats 1000000 in
theorem kq(base:Nat)(W:World)(n:Int)(v:Value)(l:List (Int×Int×Int))(hbase:base<=W.heap.size)(hn0:0<=n)(hn:n<=4096)(hl:l.length<=65536)(hin:InE n l)(hrow:W.ownsRow base 52 3 v l.length (fu l))(hnil:l= []->v= .slice none 0 0):
  Calls Tryz.prog 70 #[.agg #[.int .i64 n,v]] W λx w'=>∃a' k' c',x= .returned (.agg #[.int .i64 n,.slice a' k' c'])/\PC base n l w' a' k' c'/\Below W.heap.size W w':=by
 have hrow2:W.ownsRow base 52 3 v l.length (Eg.cellsE l):=hrow;obtain⟨_,a,c,rfl,hc,hrd,hz⟩:=Eg.row_rdE hrow2
 have hrep:RepT W (λb=>b<base) (Sl.t ety.row (liS l)) (.slice a l.length c):=by
  cases l with
  |nil=>
   obtain h:=hnil rfl;cases h;exact Eg.nil_rep0 _ _
  |cons e r=>exact Eg.rep_of (base:=base) ⟨hrd,hz,hc,λb hb=>by subst hb;exact(hrow.lt b.block rfl).1⟩ (λb h=>h) (.inl (by simp))
 obtain⟨er,hfn⟩:=HS hn hl hin
 have HE:=Lib.hid (λ(V:World) (hV:Below W.heap.size W V)=>Eg.pure_ok (1,liS l) (canonS l,er) hfn V (λb=>b<base) [.int .i64 1,.slice a l.length c] trivial (λb hb=>by have:=hV.size;omega) ⟨rfl,λi t hi=>by
  have hi2:i<2:=(List.getElem?_eq_some_iff.1 hi).1;rcases(show i=0∨i=1 by omega)with rfl|rfl
  .cases hi;exact⟨_,rfl,.one _ _ (.v _ rfl)⟩
  .cases hi;exact⟨_,rfl,.one _ _ (Eg.RepT.below hrep hV (λ_ h=>h))⟩⟩)
 have B2:Below W.heap.size W ((W.alloc (.cells #[.int .i64 n,.slice a l.length c] 24)).alloc (.cells #[.int .i64 0,.slice none 0 0] 24)):=bl2 _ _ _;have hGB:CellsAt ((W.alloc (.cells #[.int .i64 n,.slice a l.length c] 24)).alloc (.cells #[.int .i64 0,.slice none 0 0] 24)) W.heap.size 24 #[.int .i64 n,.slice a l.length c]:=CellsAt.below (World.alloc_heap_new W _) (bl1 _ _)
 have hRB:CellsAt ((W.alloc (.cells #[.int .i64 n,.slice a l.length c] 24)).alloc (.cells #[.int .i64 0,.slice none 0 0] 24)) (W.heap.size+1) 24 #[.int .i64 0,.slice none 0 0]:=by
  have:=World.alloc_heap_new (W.alloc (.cells #[.int .i64 n,.slice a l.length c] 24)) (.cells #[.int .i64 0,.slice none 0 0] 24)
  simpa [CellsAt]using this
 clear hrow hrow2 hrd hz hnil hc hrep hfn hin;have C1:=HE.out _ B2;clear HE;have C1:=Lib.hid C1;generalize l.length=ln at hGB hRB B2 C1 ⊢
 go_enter Tryz.func70,Tryz.ntmps70
 go_wp2_with fail
 generalize ((W.alloc (.cells #[.int .i64 n,.slice a ln c] 24)).alloc (.cells #[.int .i64 0,.slice none 0 0] 24))=W0 at hGB hRB B2 C1 ⊢;refine C1.out.mono ?_;rintro x w1 ⟨y,rfl,⟨ys,rfl,hlen,hi⟩,_,hB1⟩;obtain⟨z,e1,e2⟩:=hi 0 _ rfl;obtain⟨z2,e3,e4⟩:=hi 1 _ rfl
 match ys,hlen,e1,e3 with
 | [y0,y1],_,e1,e3=>
 simp only [List.getElem?_cons_zero,zsI]at e1;simp only [List.getElem?_cons_succ,List.getElem?_cons_zero,zsI]at e3;subst e1;subst e3
 have ey:y1= .int .i64 er:=by
  cases e4 with
  |one t y h=>cases h with|v x hx=>rfl
 subst ey
 have r0:RepT w1 (λb=>b<W0.heap.size) (Sl.t ety.row (canonS l)) y0:=by
  cases e2 with
  |one t y h=>exact RepT.weak (λb hb=>⟨hb,.inl (by decide)⟩) h
 obtain⟨a',k',c',rfl⟩:∃a n c,y0= .slice a n c:=by
  unfold Sl.t at r0
  cases r0 with
  |s _ _ _ a c ys hn=>exact⟨_,_,_,rfl⟩
 have hG1:=hGB.below hB1;have hR1:=hRB.below hB1;have B3:=B2.trans (hB1.mono B2.size);have g0:=hG1.cell 0;have kG:Has w1 W.heap.size:=hG1.lt;have o0:=hR1.cell 0;have fo0:=hR1.frozen 0;have P1:=hR1.set 0 (.int .i64 n);have o1:=P1.cell 1;have fo1:=P1.frozen 1;have P2:=P1.set 1 (.slice a' k' c');have kR:Has w1 (W.heap.size+1):=hR1.lt;have lR:=hRB.lt;have X1:=RepT.mono (F':=λb=>b<W0.heap.size) (af w1 (W.heap.size+1) 0 (.int .i64 n)).size (λq hq _ hn=>⟨(af w1 (W.heap.size+1) 0 (.int .i64 n)).block q hq (by simp;intro e;exact hn (by omega)),hn⟩) r0;have X2:=RepT.mono (F':=λb=>b<base) (af (w1.setCell ⟨W.heap.size+1,0,none⟩ (.int .i64 n)) (W.heap.size+1) 1 (.slice a' k' c')).size (λq hq _ hn=>⟨(af (w1.setCell ⟨W.heap.size+1,0,none⟩ (.int .i64 n)) (W.heap.size+1) 1 (.slice a' k' c')).block q hq (by simp;intro e;exact hn (by omega)),λhb=>hn (by have:=B2.size;omega)⟩) X1;have B4:=(B3.setCell (p:=⟨W.heap.size+1,0,none⟩) (Nat.le_succ _) (.int .i64 n)).setCell (p:=⟨W.heap.size+1,1,none⟩) (Nat.le_succ _) (.slice a' k' c');have Z:=Lib.hid (And.intro P2 (And.intro X2 B4));clear e2 e4 hi C1 hGB hRB hG1 hR1 P1 P2 X1 X2 r0 B3 B4 hB1 B2
 go_wp2_with fail
 (try simp only [Exit.inBlock,Exit.then])
 refine bodyPost_ret (results_cell_row rfl _ _ (W.heap.size+1) 24 _ _ _ rfl Z.out.1 Tryz.underlying24 rfl (by kernel_rfl)) rfl ?_;exact⟨a',k',c',rfl,Z.out.2.1,Z.out.2.2⟩
theorem KI:∀base n l w' w'' a' k' c' b,PC base n l w' a' k' c'->w'.grownBy w'' (some b)->b<base->PC base n l w'' a' k' c':=λ_ _ _ _ _ _ _ _ _ h g hb=>h.keep g hb
def fn(x:Sl Int):Option ((Int×Sl (Int×Int×Int))×(Int×Int)):=
 if okY x=true then
  match cg (gf x) x.l.length with
  | .error er=>some ((0,⟨false,0,[]⟩),er)
  | .ok (n,l)=>some ((n,canonS l),(0,0))
 else none
theorem rep_graph{w:World}{F:Nat->Prop}{n:Int}{x:Sl (Int×Int×Int)}{y:Value}(h:RepT w F (Sl.t ety.row x) y):RepTD w F (.agg (Gr.row (n,x))) (.agg #[.int .i64 n,y]):=by
 refine RepTD.agg _ [.int .i64 n,y] ⟨rfl,λi t hi=> ?_⟩;have hi2:i<2:=(List.getElem?_eq_some_iff.1 hi).1;rcases(show i=0∨i=1 by omega)with rfl|rfl
 .cases hi;exact⟨_,rfl,.v _ rfl⟩
 .cases hi;exact⟨_,rfl,h⟩
theorem rep_fault{w:World}{F:Nat->Prop}(e1 e2:Int):RepTD w F (.agg (Ft.row (e1,e2))) (.agg #[.int .i64 e1,.int .i64 e2]):=by
 refine RepTD.agg _ [.int .i64 e1,.int .i64 e2] ⟨rfl,λi t hi=> ?_⟩;have hi2:i<2:=(List.getElem?_eq_some_iff.1 hi).1;rcases(show i=0∨i=1 by omega)with rfl|rfl
 .cases hi;exact⟨_,rfl,.v _ rfl⟩
 .cases hi;exact⟨_,rfl,.v _ rfl⟩
theorem rep_two{w:World}{F:Nat->Prop}{n e1 e2:Int}{x:Sl (Int×Int×Int)}{y:Value}(h:RepT w F (Sl.t ety.row x) y):jT w F (K.bW outs ((n,x),(e1,e2))) (.tuple #[.agg #[.int .i64 n,y],.agg #[.int .i64 e1,.int .i64 e2]]):=by
 refine⟨[.agg #[.int .i64 n,y],.agg #[.int .i64 e1,.int .i64 e2]],rfl,rfl,λi t hi=> ?_⟩;have hi2:i<2:=(List.getElem?_eq_some_iff.1 hi).1;rcases(show i=0∨i=1 by omega)with rfl|rfl
 .cases hi;exact⟨_,rfl,rep_graph h⟩
 .cases hi;exact⟨_,rfl,rep_fault e1 e2⟩
theorem pure_ok(a:K.ba ins)(o:K.ba outs)(h:fn a=some o):dP Tryz.prog 12 (K.bW ins a) .fresh (K.bW outs o):=by
 obtain⟨x,rfl⟩:∃x:Sl Int,x=a:=⟨_,rfl⟩;unfold fn at h;rw [Option.ite_none_right_eq_some]at h;obtain⟨hx,h⟩:=h;intro w F ys hL hF hr;obtain⟨hlen,hi⟩:=hr
 match ys,hlen with
 | [y0],_=>
  obtain⟨z,e1,e2⟩:=hi 0 _ rfl;simp only [List.getElem?_cons_zero,zsI]at e1;subst e1
  have r1:RepT w F (Sl.t (K.Ty.row (.I .u8)) x) y0:=by cases e2 with|one t y h=>exact h
  obtain⟨a1,c1,rfl,g1,g2,_⟩:=lF hx r1;have D:=CA PC (λbase W n v l h1 h2 h3 h4 h5 h6 h7=>kq base W n v l h1 h2 h3 h4 h5 h6 h7) KI a1 x.l.length c1 (gf x) w g1 g2 (ow hx);refine D.mono λe w' h2=> ?_;obtain⟨h2,hB⟩:=h2;split at h2
  .rename_i n l hd;rw [hd]at h;cases h;obtain⟨base,a',k',c',hb,rfl,hP⟩:=h2;exact⟨_,rfl,rep_two (RepT.weak (λb hb2=>by have:=hb2.1;omega) hP),λhk=>(by cases hk),hB⟩
  .rename_i er hd;rw [hd]at h;cases h;subst h2;exact⟨_,rfl,rep_two (Eg.nil_rep _ _),λhk=>(by cases hk),hB⟩
theorem enters:Ev.Enters Tryz.prog 12:=⟨_,_,Tryz.func12,by kernel_rfl,by unfold Tryz.f12;rfl⟩
end Dc
end Sm
end
noncomputable section
open Go.RowKit Go.Sort
def An(a b:Int×Int×Int):Bool:=decide (a.1<b.1)||(b.1==a.1 && decide (a.2.1<b.2.1))
set_option maxRecDepth 100000 in
theorem nh(a b:Int×Int×Int)(w:World):
  Calls Tryz.prog 75 #[vE a,vE b] w λx w'=>x= .returned (.bool (An a b))/\Below w.heap.size w w':=by
 obtain⟨a0,a1,a2⟩:=a;obtain⟨b0,b1,b2⟩:=b
 go_enter Tryz.func75,Tryz.ntmps75
 unfold An;by_cases h0:a0<b0
 .go_wp2
  go_ret
  exact⟨by simp [h0],(by repeat (first|with_reducible refine blg ?_ _ _|with_reducible refine bla ?_ _|with_reducible exact Below.refl _ _))⟩
 .by_cases h1:b0=a0
  .subst h1;by_cases h2:a1<b1
   .go_wp2
    go_ret
    exact⟨by simp [h2],(by repeat (first|with_reducible refine blg ?_ _ _|with_reducible refine bla ?_ _|with_reducible exact Below.refl _ _))⟩
   .go_wp2
    go_ret
    exact⟨by simp [h2],(by repeat (first|with_reducible refine blg ?_ _ _|with_reducible refine bla ?_ _|with_reducible exact Below.refl _ _))⟩
  .go_wp2
   go_ret
   exact⟨by simp [h0,h1],(by repeat (first|with_reducible refine blg ?_ _ _|with_reducible refine bla ?_ _|with_reducible exact Below.refl _ _))⟩
end
end Go.Proofs.YtoamaaicfjkmhaaGreat
