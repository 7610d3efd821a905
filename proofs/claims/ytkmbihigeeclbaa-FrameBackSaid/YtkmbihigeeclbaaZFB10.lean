/- Texts of a claim, joined. -/
import Derived.Test.YtkmbihigeeclbaaZFB9
import Derived.Laws.CopyOwn
import Derived.Lib.EndianBits
import Derived.Laws.AppendOwnNone
import Derived.Laws.Rows
import Derived.Laws.AppendOwn
set_option linter.unusedVariables false
set_option linter.unusedSimpArgs false
namespace Go.Proofs.Ytkmbihigeeclbaa
noncomputable section
open Go.RowKit Go.Sort
@[go_sem] theorem Nx (v:Value) (xT:TypeId) (w:World):(Instr.typeAssert (.iface 122 v) xT 122 true).run Try.prog w= .ok (.tuple #[v,.bool true]) w:=by kernel_rfl
theorem su(B R:Nat)(v:Value)(p e fa e2 fa2:Int)(older:List PanicEntry)(w:World)(hB:CellsAt w B 77 #[.pointer (some ⟨R,0,none⟩)])(hR:CellsAt w R 101 (rdr v p e fa)):
  CallsD Try.prog 89 #[.pointer (some ⟨B,0,none⟩)] (.panicking (mg e2 fa2::older)) w λx u' w'=>
   x= .returned (.tuple #[])/\u'= .panicking ({mg e2 fa2 with recovered:=true}::older)/\CellsAt w' R 101 (rdr v p e2 fa2)/\w.grownBy w' (some R):=by
 have c0:w.cell? ⟨B,0,none⟩=some (.pointer (some ⟨R,0,none⟩)):=hB.cell 0;have c2:w.cell? ⟨R,2,none⟩=some (.int .i64 e):=hR.cell 2;have c3:w.cell? ⟨R,3,none⟩=some (.int .i64 fa):=hR.cell 3;have f2:=hR.frozen 2;have f3:=hR.frozen 3;have kB:Has w B:=hB.lt;have kR:Has w R:=hR.lt;refine callsD_of_wpS Try.func89 rfl λc₀ cs hu=> ?_;apply wpS_seq;apply wpS_region;simp [wpOpsS,go_sem,recoverD,hu,Try.ntmps89,Exit.thenS];refine wpS_of_wp ?_;generalize hQ:(λ(e:Exit) (a':Act) (w':World)=>bodyPostS _ _ _ _ _ e a' _ w')=Q;simp only [Array.replicate_succ,Array.replicate_zero,List.push_toArray,List.append_toArray,List.nil_append,List.cons_append,List.setIfInBounds_toArray,List.set_cons_zero,List.set_cons_succ]
 go_wp2_with fail
 subst hQ;have h1:=(hR.set 2 (.int .i64 e2)).set 3 (.int .i64 fa2);have h2:=af (ae w R 2 (.int .i64 e2)) (ae _ R 3 (.int .i64 fa2));refine⟨rfl,_,rfl,_,by simp [results,Try.results89,go_sem],rfl,rfl,h1.below (bl1 _ _),af h2 (ab (bl1 _ _) _)⟩
theorem wx(B:Nat)(w:World):
  CallsD Try.prog 89 #[.pointer (some ⟨B,0,none⟩)] .returning w λx u' w'=>x= .returned (.tuple #[])/\u'= .returning/\w'=w:=by
 refine callsD_of_wpS Try.func89 rfl λc₀ cs hu=> ?_;apply wpS_seq;apply wpS_region;simp [wpOpsS,go_sem,recoverD,hu,Try.ntmps89,Exit.thenS];refine wpS_of_wp ?_;generalize hQ:(λ(e:Exit) (a':Act) (w':World)=>bodyPostS _ _ _ _ _ e a' _ w')=Q;simp only [Array.replicate_succ,Array.replicate_zero,List.push_toArray,List.append_toArray,List.nil_append,List.cons_append,List.setIfInBounds_toArray,List.set_cons_zero,List.set_cons_succ]
 go_wp2_with fail
 subst hQ;cases c₀;simp only at hu;subst hu;exact⟨rfl,_,rfl,_,by simp [results,Try.results89,go_sem],rfl,rfl,rfl⟩
theorem qo(B R:Nat)(v:Value)(p e fa e2 fa2:Int)(older:List PanicEntry)(w:World)(hB:CellsAt w B 77 #[.pointer (some ⟨R,0,none⟩)])(hR:CellsAt w R 101 (rdr v p e fa)):
  CallsD Try.prog 91 #[.pointer (some ⟨B,0,none⟩)] (.panicking (mg e2 fa2::older)) w λx u' w'=>
   x= .returned (.tuple #[])/\u'= .panicking ({mg e2 fa2 with recovered:=true}::older)/\CellsAt w' R 101 (rdr v p e2 fa2)/\w.grownBy w' (some R):=by
 have c0:w.cell? ⟨B,0,none⟩=some (.pointer (some ⟨R,0,none⟩)):=hB.cell 0;have c2:w.cell? ⟨R,2,none⟩=some (.int .i64 e):=hR.cell 2;have c3:w.cell? ⟨R,3,none⟩=some (.int .i64 fa):=hR.cell 3;have f2:=hR.frozen 2;have f3:=hR.frozen 3;have kB:Has w B:=hB.lt;have kR:Has w R:=hR.lt;refine callsD_of_wpS Try.func91 rfl λc₀ cs hu=> ?_;apply wpS_seq;apply wpS_region;simp [wpOpsS,go_sem,recoverD,hu,Try.ntmps91,Exit.thenS];refine wpS_of_wp ?_;generalize hQ:(λ(e:Exit) (a':Act) (w':World)=>bodyPostS _ _ _ _ _ e a' _ w')=Q;simp only [Array.replicate_succ,Array.replicate_zero,List.push_toArray,List.append_toArray,List.nil_append,List.cons_append,List.setIfInBounds_toArray,List.set_cons_zero,List.set_cons_succ]
 go_wp2_with fail
 subst hQ;have h1:=(hR.set 2 (.int .i64 e2)).set 3 (.int .i64 fa2);have h2:=af (ae w R 2 (.int .i64 e2)) (ae _ R 3 (.int .i64 fa2));refine⟨rfl,_,rfl,_,by simp [results,Try.results91,go_sem],rfl,rfl,h1.below (bl1 _ _),af h2 (ab (bl1 _ _) _)⟩
theorem uL(B:Nat)(w:World):
  CallsD Try.prog 91 #[.pointer (some ⟨B,0,none⟩)] .returning w λx u' w'=>x= .returned (.tuple #[])/\u'= .returning/\w'=w:=by
 refine callsD_of_wpS Try.func91 rfl λc₀ cs hu=> ?_;apply wpS_seq;apply wpS_region;simp [wpOpsS,go_sem,recoverD,hu,Try.ntmps91,Exit.thenS];refine wpS_of_wp ?_;generalize hQ:(λ(e:Exit) (a':Act) (w':World)=>bodyPostS _ _ _ _ _ e a' _ w')=Q;simp only [Array.replicate_succ,Array.replicate_zero,List.push_toArray,List.append_toArray,List.nil_append,List.cons_append,List.setIfInBounds_toArray,List.set_cons_zero,List.set_cons_succ]
 go_wp2_with fail
 subst hQ;cases c₀;simp only at hu;subst hu;exact⟨rfl,_,rfl,_,by simp [results,Try.results91,go_sem],rfl,rfl,rfl⟩
theorem qp(B R:Nat)(v:Value)(p e fa e2 fa2:Int)(older:List PanicEntry)(w:World)(hB:CellsAt w B 77 #[.pointer (some ⟨R,0,none⟩)])(hR:CellsAt w R 101 (rdr v p e fa)):
  CallsD Try.prog 92 #[.pointer (some ⟨B,0,none⟩)] (.panicking (mg e2 fa2::older)) w λx u' w'=>
   x= .returned (.tuple #[])/\u'= .panicking ({mg e2 fa2 with recovered:=true}::older)/\CellsAt w' R 101 (rdr v p e2 fa2)/\w.grownBy w' (some R):=by
 have c0:w.cell? ⟨B,0,none⟩=some (.pointer (some ⟨R,0,none⟩)):=hB.cell 0;have c2:w.cell? ⟨R,2,none⟩=some (.int .i64 e):=hR.cell 2;have c3:w.cell? ⟨R,3,none⟩=some (.int .i64 fa):=hR.cell 3;have f2:=hR.frozen 2;have f3:=hR.frozen 3;have kB:Has w B:=hB.lt;have kR:Has w R:=hR.lt;refine callsD_of_wpS Try.func92 rfl λc₀ cs hu=> ?_;apply wpS_seq;apply wpS_region;simp [wpOpsS,go_sem,recoverD,hu,Try.ntmps92,Exit.thenS];refine wpS_of_wp ?_;generalize hQ:(λ(e:Exit) (a':Act) (w':World)=>bodyPostS _ _ _ _ _ e a' _ w')=Q;simp only [Array.replicate_succ,Array.replicate_zero,List.push_toArray,List.append_toArray,List.nil_append,List.cons_append,List.setIfInBounds_toArray,List.set_cons_zero,List.set_cons_succ]
 go_wp2_with fail
 subst hQ;have h1:=(hR.set 2 (.int .i64 e2)).set 3 (.int .i64 fa2);have h2:=af (ae w R 2 (.int .i64 e2)) (ae _ R 3 (.int .i64 fa2));refine⟨rfl,_,rfl,_,by simp [results,Try.results92,go_sem],rfl,rfl,h1.below (bl1 _ _),af h2 (ab (bl1 _ _) _)⟩
theorem uM(B:Nat)(w:World):
  CallsD Try.prog 92 #[.pointer (some ⟨B,0,none⟩)] .returning w λx u' w'=>x= .returned (.tuple #[])/\u'= .returning/\w'=w:=by
 refine callsD_of_wpS Try.func92 rfl λc₀ cs hu=> ?_;apply wpS_seq;apply wpS_region;simp [wpOpsS,go_sem,recoverD,hu,Try.ntmps92,Exit.thenS];refine wpS_of_wp ?_;generalize hQ:(λ(e:Exit) (a':Act) (w':World)=>bodyPostS _ _ _ _ _ e a' _ w')=Q;simp only [Array.replicate_succ,Array.replicate_zero,List.push_toArray,List.append_toArray,List.nil_append,List.cons_append,List.setIfInBounds_toArray,List.set_cons_zero,List.set_cons_succ]
 go_wp2_with fail
 subst hQ;cases c₀;simp only at hu;subst hu;exact⟨rfl,_,rfl,_,by simp [results,Try.results92,go_sem],rfl,rfl,rfl⟩
end
noncomputable section
open Go.RowKit Go.Sort
theorem mv:(Try.prog.info? 5).map (λi=>(i.zero,i.size,i.bytes))=some (some (.int .u8 0),1,1):=by kernel_rfl
theorem Co:(Try.prog.info? 5).map (·.size)=some 1:=by kernel_rfl
def bi(f:Nat->Int)(k:Nat):List Value:=(List.range k).map λi=> .int .u8 (f i)
theorem fZ(f:Nat->Int)(k:Nat):(bi f k).length=k:=by simp [bi]
theorem ij(f:Nat->Int)(k j:Nat)(h:j<k):(bi f k)[j]? =some (.int .u8 (f j)):=by simp [bi,h]
theorem xV(f:Nat->Int)(k:Nat):∀v∈bi f k,v.oneCell'=true:=by
 intro v hv;obtain⟨i,_,rfl⟩:=List.mem_map.1 hv;rfl
theorem xW{W:World}{g k:Nat}{t:TypeId}{f:Nat->Int}(h:CellsAt W g t (bi f k).toArray)(hf:∀i,i<k->0<=f i/\f i<=255):Rd8 W (some ⟨g,0,none⟩) k f:=by
 intro i hi;refine⟨_,rfl,h.lt,?_,hf i hi⟩
 have:((⟨g,0,none⟩:Addr).add i)=⟨g,i,none⟩:=by unfold Addr.add;split<;>simp_all
 rw [this,h.cell i];simpa using ij f k i hi
set_option maxRecDepth 100000 in
set_option maxHeartbeats 1000000 in
theorem AK(a:Option Addr)(k c:Nat)(f:Nat->Int)(w:World)(hr:Rd8 w a k f)(hk:k<=100000)(hc:k<=c):
  Calls Try.prog 63 #[.slice a k c] w λe w'=>∃g,e= .returned (.slice (some ⟨g,0,none⟩) k k)/\w.heap.size<=g/\CellsAt w' g 5 (bi f k).toArray/\Below w.heap.size w w':=by
 obtain⟨i0,hi0,hz0,hz1,hz2⟩:=info_parts mv;have hmk:=run_makeSlice (P:=Try.prog) w 31 5 i0 (.int .u8 0) Try.underlying31 hi0 hz0 .i64 .i64 (k:Int) (k:Int) (by omega) (by omega) (by rw [hz1];simp;omega) (by rw [hz2];omega) (by omega);simp only [Int.toNat_natCast,hz1,Nat.mul_one]at hmk;have hsz:(madeCells (Value.int .u8 0).cells k).size=k:=size_madeCells _ _;generalize madeCells (Value.int .u8 0).cells k=cur at hmk hsz;have hcur:CellsAt (w.alloc (.cells cur 5)) w.heap.size 5 cur:=World.alloc_heap_new w _;have hb1:Below w.heap.size w (w.alloc (.cells cur 5)):=bl1 _ _;have hr1:Rd8 (w.alloc (.cells cur 5)) a k f:=hr.grown (ab hb1 none) (λ_ _=>by simp);obtain⟨cs,hcs⟩:∃cs,cs=bi f k:=⟨_,rfl⟩;have hl:cs.length=k:=by rw [hcs];exact fZ f k
 have h1:∀v∈cs,v.oneCell'=true:=by rw [hcs];exact xV f k
 have hsp:splice cur.toList 0 cs=cs:=by
  unfold splice;simp [hl,hsz]
 have hat:0<cs.length->∃ad,a=some ad/\∀j v,cs[j]? =some v->(w.alloc (.cells cur 5)).cell? (ad.add j)=some v:=by
  intro h0;obtain⟨b,hb,_⟩:=hr1 0 (by omega);refine⟨b,hb,λj v hj=> ?_⟩;have hj':j<k:=by have:=(List.getElem?_eq_some_iff.1 hj).1;omega
  obtain⟨b',hb',_,h2,_⟩:=hr1 j hj';rw [hb]at hb';cases hb';rw [hcs,ij f k j hj']at hj;cases hj;exact h2
 have hg0:(w.alloc (.cells cur 5)).heap[w.heap.size]? =some (.cells cur.toList.toArray 5 (0,0)):=by unfold CellsAt at hcur;simpa using hcur
 have hn0:cs.length=Nat.min k k:=by rw [hl];exact(Nat.min_self k).symm
 have hf0:0+cs.length<=cur.toList.length:=by simp [hl,hsz]
 have HCS:=Lib.hid hcs;clear hcs hr hr1
 go_enter Try.func63,Try.ntmps63
 go_wp2_with (refine wpList_copy_splice rfl (.tmp 7) (.tmp 8) 31 31 rfl 5 Try.underlying31 Co _ _ _ _ _ _ rfl rfl w.heap.size 0 cur.toList 5 hg0 cs hn0 (λh0=>⟨rfl,hat h0⟩) hf0 h1 w.heap.size w hb1 (Nat.le_refl _) ?_;intro w2 HG2 hB2)
 go_ret
 exact⟨_,rfl,Nat.le_refl _,by have:=HG2.out;rw [hsp,HCS.out]at this;exact this,hB2⟩
end
noncomputable section
open Go.RowKit Go.Sort
def le(f:Nat->Int):Nat->Int
 |0=>0
 |n+1=>le f n+f n*2 ^(8*n)
theorem p8(n:Nat):(2:Int)^(8*(n+1))=2 ^(8*n)*256:=by
 rw [show 8*(n+1)=8*n+8 from rfl,Int.pow_add];rfl
theorem uN(n:Nat):(0:Int)<2 ^(8*n):=Int.pow_pos (by decide)
theorem sZ(f:Nat->Int):∀(n:Nat),(∀i,i<n->0<=f i/\f i<=255)->0<=le f n/\le f n<2 ^(8*n):=by
 intro n
 induction n with
 |zero=>intro _;simp [le]
 |succ n ih=>
  intro h;have h1:=ih (λi hi=>h i (by omega));have h2:=h n (by omega);have h3:=uN n;have h4:0<=f n*2 ^(8*n):=Int.mul_nonneg h2.1 (by omega);have h5:f n*2 ^(8*n)<=255*2 ^(8*n):=Int.mul_le_mul_of_nonneg_right h2.2 (by omega);rw [p8];unfold le;omega
theorem GM(n m:Nat)(h:n<=m):(2:Int)^(8*n)<=2 ^(8*m):=by
 induction m with
 |zero=>
  obtain rfl:n=0:=by omega
  exact Int.le_refl _
 |succ m ih=>
  by_cases e:n=m+1
  .rw [e];exact Int.le_refl _
  .have:=ih (by omega)
   have:=uN m
   rw [p8];omega
theorem Cp(f:Nat->Int)(n J:Nat)(hj:n+1<=J)(h:∀i,i<n+1->0<=f i/\f i<=255)(k:IntKind)(hk:∀m:Int,0<=m->m<2 ^(8*J)->k.wrap m=m)(hb:8*J<=k.bits):
  bits .or k (le f n) (f n*2 ^(8*n))=le f (n+1):=by
 have h1:=sZ f n (λi hi=>h i (by omega));have h2:=h n (by omega);have h3:=uN n;have h4:0<=f n*2 ^(8*n):=Int.mul_nonneg h2.1 (by omega);have h6:=sZ f (n+1) h;have h7:=GM (n+1) J hj;have h8:le f (n+1)=le f n+f n*2 ^(8*n):=rfl;rw [h8];exact bits_join_low k (8*J) hb hk (8*n) _ _ h1.1 h1.2 (by omega) h4 (Int.mul_emod_left _ _) (by omega)
def lw(f:Nat->Int)(n:Nat):Int:=wrap64 (le f n)
theorem Cq(f:Nat->Int)(n:Nat)(hn:n<1)(h:∀i,i<n+1->0<=f i/\f i<=255):bits .or .u8 (le f n) (f n*2 ^(8*n)% 256)=le f (n+1):=by
 obtain rfl:n=0:=by omega
 have h0:=h 0 (by omega);rw [show f 0*2 ^(8*0)% 256=f 0*2 ^(8*0)by simp;omega];exact Cp f 0 1 (by omega) h .u8 (λm h0 h1=>by simp [IntKind.wrap,IntKind.bits,IntKind.signed];omega) (by decide)
theorem AL(f:Nat->Int)(n:Nat)(hn:n<4)(h:∀i,i<n+1->0<=f i/\f i<=255):bits .or .u32 (le f n) (f n*2 ^(8*n)% 4294967296)=le f (n+1):=by
 have h6:=sZ f (n+1) h;have h1:=sZ f n (λi hi=>h i (by omega));have h2:=h n (by omega);have h4:0<=f n*2 ^(8*n):=Int.mul_nonneg h2.1 (by have:=uN n;omega);have h7:(2:Int)^(8*(n+1))<=4294967296:=GM (n+1) 4 (by omega);have h8:le f (n+1)=le f n+f n*2 ^(8*n):=rfl;rw [Int.emod_eq_of_lt h4 (by omega)];exact Cp f n 4 (by omega) h .u32 wraps_u32 (by decide)
theorem mw(x:Int):BitVec.ofInt 64 (wrap64 x)=BitVec.ofInt 64 x:=by
 apply BitVec.eq_of_toInt_eq;simp only [BitVec.toInt_ofInt,wrap64];simp [Int.bmod]
theorem AM(f:Nat->Int)(n:Nat)(hn:n<8)(h:∀i,i<n+1->0<=f i/\f i<=255):bits .or .i64 (lw f n) (wrap64 (f n*2 ^(8*n)))=lw f (n+1):=by
 have e:IntKind.u64.wrap ((BitVec.ofInt 64 (le f n)|||BitVec.ofInt 64 (f n*2 ^(8*n))).toNat:Int)=le f (n+1):=Cp f n 8 (by omega) h .u64 wraps_u64 (by decide);show IntKind.i64.wrap ((BitVec.ofInt 64 (wrap64 (le f n))|||BitVec.ofInt 64 (wrap64 (f n*2 ^(8*n)))).toNat:Int)=wrap64 (le f (n+1));rw [mw,mw];generalize (BitVec.ofInt 64 (le f n)|||BitVec.ofInt 64 (f n*2 ^(8*n)))=b at e ⊢;have hb:=b.isLt;rw [IntKind.wrap_u64]at e;have e2:(b.toNat:Int)=le f (n+1):=by omega
 rw [e2];simp [IntKind.wrap,IntKind.bits,IntKind.signed,wrap64];split<;>omega
set_option maxRecDepth 100000 in
set_option maxHeartbeats 1000000 in
theorem wy(a:Option Addr)(c:Nat)(f:Nat->Int)(w:World)(hr:Rd8 w a 1 f):
  Calls Try.prog 84 #[.slice a 1 c] w λe w'=>e= .returned (.int .u8 (le f 1))/\Below w.heap.size w w':=by
 go_enter Try.func84,Try.ntmps84
 go_wp2_with fail
 go_loopw [3,8] (λv z wr=>∃i:Nat,z= .int .i64 i/\i<=1/\v= .int .u8 (le f i)/\wr=w) (λ_ z _=>1 - (intOf z).toNat)
 case atStart=>
  exact⟨0,rfl,by omega,by simp [le],rfl⟩
 case round=>
  obtain⟨i,rfl,hi,rfl,rfl⟩:=hrel;by_cases hlt:i<1
  .have e1:=Cq f i hlt (λj hj=>by obtain⟨_,_,_,_,h⟩:=hr j (by omega);exact h);obtain⟨b,rfl,hb,cb,b0,b1⟩:=hr i hlt;have i0:(0:Int)<=(i:Int):=by omega
   have i4:(i:Int)<1:=by omega
   have E1:=Lib.hid e1;clear e1
   go_wp2_with fail
   refine⟨?_,by simp [intOf];omega⟩;exact⟨i+1,by simp,by omega,by rw [<-E1.out],trivial⟩
  .obtain rfl:i=1:=by omega
   go_wp2
   go_ret
   exact⟨rfl,Below.refl _ _⟩
set_option maxRecDepth 100000 in
set_option maxHeartbeats 1000000 in
theorem uO(a:Option Addr)(c:Nat)(f:Nat->Int)(w:World)(hr:Rd8 w a 4 f):
  Calls Try.prog 86 #[.slice a 4 c] w λe w'=>e= .returned (.int .u32 (le f 4))/\Below w.heap.size w w':=by
 go_enter Try.func86,Try.ntmps86
 go_wp2_with fail
 go_loopw [3,8] (λv z wr=>∃i:Nat,z= .int .i64 i/\i<=4/\v= .int .u32 (le f i)/\wr=w) (λ_ z _=>4 - (intOf z).toNat)
 case atStart=>
  exact⟨0,rfl,by omega,by simp [le],rfl⟩
 case round=>
  obtain⟨i,rfl,hi,rfl,rfl⟩:=hrel;by_cases hlt:i<4
  .have e1:=AL f i hlt (λj hj=>by obtain⟨_,_,_,_,h⟩:=hr j (by omega);exact h);obtain⟨b,rfl,hb,cb,b0,b1⟩:=hr i hlt;have i0:(0:Int)<=(i:Int):=by omega
   have i4:(i:Int)<4:=by omega
   have E1:=Lib.hid e1;clear e1
   go_wp2_with fail
   refine⟨?_,by simp [intOf];omega⟩;exact⟨i+1,by simp,by omega,by rw [<-E1.out],trivial⟩
  .obtain rfl:i=4:=by omega
   go_wp2
   go_ret
   exact⟨rfl,Below.refl _ _⟩
set_option maxRecDepth 100000 in
set_option maxHeartbeats 1000000 in
theorem uP(a:Option Addr)(c:Nat)(f:Nat->Int)(w:World)(hr:Rd8 w a 8 f):
  Calls Try.prog 88 #[.slice a 8 c] w λe w'=>e= .returned (.int .i64 (lw f 8))/\Below w.heap.size w w':=by
 go_enter Try.func88,Try.ntmps88
 go_wp2_with fail
 go_loopw [3,8] (λv z wr=>∃i:Nat,z= .int .i64 i/\i<=8/\v= .int .i64 (lw f i)/\wr=w) (λ_ z _=>8 - (intOf z).toNat)
 case atStart=>
  exact⟨0,rfl,by omega,by simp [le,lw,wrap64],rfl⟩
 case round=>
  obtain⟨i,rfl,hi,rfl,rfl⟩:=hrel;by_cases hlt:i<8
  .have e1:=AM f i hlt (λj hj=>by obtain⟨_,_,_,_,h⟩:=hr j (by omega);exact h);obtain⟨b,rfl,hb,cb,b0,b1⟩:=hr i hlt;have i0:(0:Int)<=(i:Int):=by omega
   have i4:(i:Int)<8:=by omega
   have E1:=Lib.hid e1;clear e1
   go_wp2_with fail
   refine⟨?_,by simp [intOf];omega⟩;exact⟨i+1,by simp,by omega,by rw [<-E1.out],trivial⟩
  .obtain rfl:i=8:=by omega
   go_wp2
   go_ret
   exact⟨rfl,Below.refl _ _⟩
end
noncomputable section
open Go.RowKit Go.Sort
theorem AN(R:Nat)(v:Value)(p e fa n:Int)(w:World)(hR:CellsAt w R 101 (rdr v p e fa))(he:¬e=0):
  Calls Try.prog 83 #[.pointer (some ⟨R,0,none⟩),.int .i64 n,.func (.func 84) #[] #[]] w λx w'=>x= .returned (.int .u8 0)/\Below w.heap.size w w':=by
 have c2:w.cell? ⟨R,2,none⟩=some (.int .i64 e):=hR.cell 2;have kR:Has w R:=hR.lt;have hmf:∀(fn:Fn) (first cap:Array Value) (w:World),(Instr.makeFunc fn first cap).run Try.prog w= .ok (.func fn first cap) w:=λ_ _ _ _=>rfl
 go_enter_defers Try.func83,Try.ntmps83
 go_wp2_with fail
 exact⟨_,results_tmp rfl _ _ _,rfl,bl1 _ _⟩
theorem wz(R:Nat)(a:Option Addr)(m c p:Nat)(fa n:Int)(w:World)(hR:CellsAt w R 101 (rdr (.slice a m c) p 0 fa))(hn:0<=n)(hp:p<=m)(hm:m<=9223372036854775807)(hs:(m:Int) - p<n):
  Calls Try.prog 83 #[.pointer (some ⟨R,0,none⟩),.int .i64 n,.func (.func 84) #[] #[]] w λx w'=>x= .returned (.int .u8 0)/\CellsAt w' R 101 (rdr (.slice a m c) p 2 m)/\w.grownBy w' (some R):=by
 have c2:w.cell? ⟨R,2,none⟩=some (.int .i64 0):=hR.cell 2;have kR:Has w R:=hR.lt;have hmf:∀(fn:Fn) (first cap:Array Value) (w:World),(Instr.makeFunc fn first cap).run Try.prog w= .ok (.func fn first cap) w:=λ_ _ _ _=>rfl
 go_enter_defers Try.func83,Try.ntmps83
 go_wp2_with fail
 have hR1:=hR.below (bl1 w (.cells #[.pointer (some ⟨R,0,none⟩)] 77));refine(mh R a m c p 0 fa n _ hR1 hn hp hm hs).mono ?_;rintro x w2 ⟨rfl,hb2⟩;have hB:=CellsAt.below (show CellsAt (w.alloc (.cells #[.pointer (some ⟨R,0,none⟩)] 77)) w.heap.size 77 #[.pointer (some ⟨R,0,none⟩)]from World.alloc_heap_new w _) hb2;have hR2:=hR1.below hb2;have hb3:Below w.heap.size w w2:=(bl1 w _).trans (hb2.mono (by simp));refine leaves_cons (f:=89) (args:=#[.pointer (some ⟨w.heap.size,0,none⟩)]) (by simp) (by simp [go_sem]) ?_;refine(su w.heap.size R _ _ _ _ 2 m [] w2 hB hR2).mono ?_;rintro x u' w3 ⟨rfl,rfl,hR3,hg3⟩;exact⟨_,results_tmp rfl _ _ _,rfl,hR3,af (ab hb3 _) hg3⟩
theorem Cr(R:Nat)(a:Option Addr)(m c p:Nat)(fa:Int)(f:Nat->Int)(w:World)(hR:CellsAt w R 101 (rdr (.slice a m c) p 0 fa))(hb:Rd8 w a m f)(hne:∀b,a=some b->b.block≠R)(hc:m<=c)(hm:m<=9223372036854775807)(hp:p+1<=m):
  Calls Try.prog 83 #[.pointer (some ⟨R,0,none⟩),.int .i64 1,.func (.func 84) #[] #[]] w λx w'=>x= .returned (.int .u8 (le (λi=>f (p+i)) 1))/\CellsAt w' R 101 (rdr (.slice a m c) (p+1:Nat) 0 fa)/\w.grownBy w' (some R):=by
 have c2:w.cell? ⟨R,2,none⟩=some (.int .i64 0):=hR.cell 2;have kR:Has w R:=hR.lt;have hmf:∀(fn:Fn) (first cap:Array Value) (w:World),(Instr.makeFunc fn first cap).run Try.prog w= .ok (.func fn first cap) w:=λ_ _ _ _=>rfl
 go_enter_defers Try.func83,Try.ntmps83
 go_wp2_with fail
 have hR1:=hR.below (bl1 w (.cells #[.pointer (some ⟨R,0,none⟩)] 77));have hb1:=hb.grown (ab (bl1 w (.cells #[.pointer (some ⟨R,0,none⟩)] 77)) none) (λ_ _=>by simp);refine(wg R a m c p 1 0 fa f _ hR1 hb1 hne hc hm hp).mono ?_;rintro x w2 ⟨a',c',rfl,hkc,hR3,hq,hg2⟩;have hg:=af (ab (bl1 w (.cells #[.pointer (some ⟨R,0,none⟩)] 77)) (some R)) hg2
 go_wp2_with fail
 refine(wy a' c' _ w2 hq).mono ?_;rintro x w4 ⟨rfl,hb4⟩
 go_wp2_with fail
 refine leaves_cons (f:=89) (args:=#[.pointer (some ⟨w.heap.size,0,none⟩)]) (by simp) (by simp [go_sem]) ?_;refine(wx w.heap.size w4).mono ?_;rintro x u' w3 ⟨rfl,rfl,rfl⟩;exact⟨_,results_tmp rfl _ _ _,rfl,(hR3.below hb4),af hg (ab hb4 _)⟩
theorem xX(R:Nat)(v:Value)(p e fa n:Int)(w:World)(hR:CellsAt w R 101 (rdr v p e fa))(he:¬e=0):
  Calls Try.prog 85 #[.pointer (some ⟨R,0,none⟩),.int .i64 n,.func (.func 86) #[] #[]] w λx w'=>x= .returned (.int .u32 0)/\Below w.heap.size w w':=by
 have c2:w.cell? ⟨R,2,none⟩=some (.int .i64 e):=hR.cell 2;have kR:Has w R:=hR.lt;have hmf:∀(fn:Fn) (first cap:Array Value) (w:World),(Instr.makeFunc fn first cap).run Try.prog w= .ok (.func fn first cap) w:=λ_ _ _ _=>rfl
 go_enter_defers Try.func85,Try.ntmps85
 go_wp2_with fail
 exact⟨_,results_tmp rfl _ _ _,rfl,bl1 _ _⟩
theorem uQ(R:Nat)(a:Option Addr)(m c p:Nat)(fa n:Int)(w:World)(hR:CellsAt w R 101 (rdr (.slice a m c) p 0 fa))(hn:0<=n)(hp:p<=m)(hm:m<=9223372036854775807)(hs:(m:Int) - p<n):
  Calls Try.prog 85 #[.pointer (some ⟨R,0,none⟩),.int .i64 n,.func (.func 86) #[] #[]] w λx w'=>x= .returned (.int .u32 0)/\CellsAt w' R 101 (rdr (.slice a m c) p 2 m)/\w.grownBy w' (some R):=by
 have c2:w.cell? ⟨R,2,none⟩=some (.int .i64 0):=hR.cell 2;have kR:Has w R:=hR.lt;have hmf:∀(fn:Fn) (first cap:Array Value) (w:World),(Instr.makeFunc fn first cap).run Try.prog w= .ok (.func fn first cap) w:=λ_ _ _ _=>rfl
 go_enter_defers Try.func85,Try.ntmps85
 go_wp2_with fail
 have hR1:=hR.below (bl1 w (.cells #[.pointer (some ⟨R,0,none⟩)] 77));refine(mh R a m c p 0 fa n _ hR1 hn hp hm hs).mono ?_;rintro x w2 ⟨rfl,hb2⟩;have hB:=CellsAt.below (show CellsAt (w.alloc (.cells #[.pointer (some ⟨R,0,none⟩)] 77)) w.heap.size 77 #[.pointer (some ⟨R,0,none⟩)]from World.alloc_heap_new w _) hb2;have hR2:=hR1.below hb2;have hb3:Below w.heap.size w w2:=(bl1 w _).trans (hb2.mono (by simp));refine leaves_cons (f:=91) (args:=#[.pointer (some ⟨w.heap.size,0,none⟩)]) (by simp) (by simp [go_sem]) ?_;refine(qo w.heap.size R _ _ _ _ 2 m [] w2 hB hR2).mono ?_;rintro x u' w3 ⟨rfl,rfl,hR3,hg3⟩;exact⟨_,results_tmp rfl _ _ _,rfl,hR3,af (ab hb3 _) hg3⟩
theorem AO(R:Nat)(a:Option Addr)(m c p:Nat)(fa:Int)(f:Nat->Int)(w:World)(hR:CellsAt w R 101 (rdr (.slice a m c) p 0 fa))(hb:Rd8 w a m f)(hne:∀b,a=some b->b.block≠R)(hc:m<=c)(hm:m<=9223372036854775807)(hp:p+4<=m):
  Calls Try.prog 85 #[.pointer (some ⟨R,0,none⟩),.int .i64 4,.func (.func 86) #[] #[]] w λx w'=>x= .returned (.int .u32 (le (λi=>f (p+i)) 4))/\CellsAt w' R 101 (rdr (.slice a m c) (p+4:Nat) 0 fa)/\w.grownBy w' (some R):=by
 have c2:w.cell? ⟨R,2,none⟩=some (.int .i64 0):=hR.cell 2;have kR:Has w R:=hR.lt;have hmf:∀(fn:Fn) (first cap:Array Value) (w:World),(Instr.makeFunc fn first cap).run Try.prog w= .ok (.func fn first cap) w:=λ_ _ _ _=>rfl
 go_enter_defers Try.func85,Try.ntmps85
 go_wp2_with fail
 have hR1:=hR.below (bl1 w (.cells #[.pointer (some ⟨R,0,none⟩)] 77));have hb1:=hb.grown (ab (bl1 w (.cells #[.pointer (some ⟨R,0,none⟩)] 77)) none) (λ_ _=>by simp);refine(wg R a m c p 4 0 fa f _ hR1 hb1 hne hc hm hp).mono ?_;rintro x w2 ⟨a',c',rfl,hkc,hR3,hq,hg2⟩;have hg:=af (ab (bl1 w (.cells #[.pointer (some ⟨R,0,none⟩)] 77)) (some R)) hg2
 go_wp2_with fail
 refine(uO a' c' _ w2 hq).mono ?_;rintro x w4 ⟨rfl,hb4⟩
 go_wp2_with fail
 refine leaves_cons (f:=91) (args:=#[.pointer (some ⟨w.heap.size,0,none⟩)]) (by simp) (by simp [go_sem]) ?_;refine(uL w.heap.size w4).mono ?_;rintro x u' w3 ⟨rfl,rfl,rfl⟩;exact⟨_,results_tmp rfl _ _ _,rfl,(hR3.below hb4),af hg (ab hb4 _)⟩
theorem xY(R:Nat)(v:Value)(p e fa n:Int)(w:World)(hR:CellsAt w R 101 (rdr v p e fa))(he:¬e=0):
  Calls Try.prog 87 #[.pointer (some ⟨R,0,none⟩),.int .i64 n,.func (.func 88) #[] #[]] w λx w'=>x= .returned (.int .i64 0)/\Below w.heap.size w w':=by
 have c2:w.cell? ⟨R,2,none⟩=some (.int .i64 e):=hR.cell 2;have kR:Has w R:=hR.lt;have hmf:∀(fn:Fn) (first cap:Array Value) (w:World),(Instr.makeFunc fn first cap).run Try.prog w= .ok (.func fn first cap) w:=λ_ _ _ _=>rfl
 go_enter_defers Try.func87,Try.ntmps87
 go_wp2_with fail
 exact⟨_,results_tmp rfl _ _ _,rfl,bl1 _ _⟩
theorem uR(R:Nat)(a:Option Addr)(m c p:Nat)(fa n:Int)(w:World)(hR:CellsAt w R 101 (rdr (.slice a m c) p 0 fa))(hn:0<=n)(hp:p<=m)(hm:m<=9223372036854775807)(hs:(m:Int) - p<n):
  Calls Try.prog 87 #[.pointer (some ⟨R,0,none⟩),.int .i64 n,.func (.func 88) #[] #[]] w λx w'=>x= .returned (.int .i64 0)/\CellsAt w' R 101 (rdr (.slice a m c) p 2 m)/\w.grownBy w' (some R):=by
 have c2:w.cell? ⟨R,2,none⟩=some (.int .i64 0):=hR.cell 2;have kR:Has w R:=hR.lt;have hmf:∀(fn:Fn) (first cap:Array Value) (w:World),(Instr.makeFunc fn first cap).run Try.prog w= .ok (.func fn first cap) w:=λ_ _ _ _=>rfl
 go_enter_defers Try.func87,Try.ntmps87
 go_wp2_with fail
 have hR1:=hR.below (bl1 w (.cells #[.pointer (some ⟨R,0,none⟩)] 77));refine(mh R a m c p 0 fa n _ hR1 hn hp hm hs).mono ?_;rintro x w2 ⟨rfl,hb2⟩;have hB:=CellsAt.below (show CellsAt (w.alloc (.cells #[.pointer (some ⟨R,0,none⟩)] 77)) w.heap.size 77 #[.pointer (some ⟨R,0,none⟩)]from World.alloc_heap_new w _) hb2;have hR2:=hR1.below hb2;have hb3:Below w.heap.size w w2:=(bl1 w _).trans (hb2.mono (by simp));refine leaves_cons (f:=92) (args:=#[.pointer (some ⟨w.heap.size,0,none⟩)]) (by simp) (by simp [go_sem]) ?_;refine(qp w.heap.size R _ _ _ _ 2 m [] w2 hB hR2).mono ?_;rintro x u' w3 ⟨rfl,rfl,hR3,hg3⟩;exact⟨_,results_tmp rfl _ _ _,rfl,hR3,af (ab hb3 _) hg3⟩
theorem AP(R:Nat)(a:Option Addr)(m c p:Nat)(fa:Int)(f:Nat->Int)(w:World)(hR:CellsAt w R 101 (rdr (.slice a m c) p 0 fa))(hb:Rd8 w a m f)(hne:∀b,a=some b->b.block≠R)(hc:m<=c)(hm:m<=9223372036854775807)(hp:p+8<=m):
  Calls Try.prog 87 #[.pointer (some ⟨R,0,none⟩),.int .i64 8,.func (.func 88) #[] #[]] w λx w'=>x= .returned (.int .i64 (lw (λi=>f (p+i)) 8))/\CellsAt w' R 101 (rdr (.slice a m c) (p+8:Nat) 0 fa)/\w.grownBy w' (some R):=by
 have c2:w.cell? ⟨R,2,none⟩=some (.int .i64 0):=hR.cell 2;have kR:Has w R:=hR.lt;have hmf:∀(fn:Fn) (first cap:Array Value) (w:World),(Instr.makeFunc fn first cap).run Try.prog w= .ok (.func fn first cap) w:=λ_ _ _ _=>rfl
 go_enter_defers Try.func87,Try.ntmps87
 go_wp2_with fail
 have hR1:=hR.below (bl1 w (.cells #[.pointer (some ⟨R,0,none⟩)] 77));have hb1:=hb.grown (ab (bl1 w (.cells #[.pointer (some ⟨R,0,none⟩)] 77)) none) (λ_ _=>by simp);refine(wg R a m c p 8 0 fa f _ hR1 hb1 hne hc hm hp).mono ?_;rintro x w2 ⟨a',c',rfl,hkc,hR3,hq,hg2⟩;have hg:=af (ab (bl1 w (.cells #[.pointer (some ⟨R,0,none⟩)] 77)) (some R)) hg2
 go_wp2_with fail
 refine(uP a' c' _ w2 hq).mono ?_;rintro x w4 ⟨rfl,hb4⟩
 go_wp2_with fail
 refine leaves_cons (f:=92) (args:=#[.pointer (some ⟨w.heap.size,0,none⟩)]) (by simp) (by simp [go_sem]) ?_;refine(uM w.heap.size w4).mono ?_;rintro x u' w3 ⟨rfl,rfl,rfl⟩;exact⟨_,results_tmp rfl _ _ _,rfl,(hR3.below hb4),af hg (ab hb4 _)⟩
end
noncomputable section
open Go.RowKit Go.Sort
def lh(e:Int)(m p:Nat)(n:Int):Bool:=decide (e=0/\0<=n/\n<=(m:Int) - p)
def nE(e:Int)(m p:Nat)(n:Int):Int:=if e=0 then(if n<0 then 3 else if(m:Int) - p<n then 2 else 0)else e
def nF(fa e:Int)(m p:Nat)(n:Int):Int:=if e=0 then(if n<0 then p else if(m:Int) - p<n then m else fa)else fa
def nP(e:Int)(m p:Nat)(n:Int):Nat:=if lh e m p n=true then p+n.toNat else p
theorem Ie{e:Int}{m p:Nat}{n:Int}(h:e=0)(h0:0<=n)(h1:n<=(m:Int) - p):lh e m p n=true:=decide_eq_true ⟨h,h0,h1⟩
theorem Cs{e:Int}{m p:Nat}{n:Int}(h:¬(e=0/\0<=n/\n<=(m:Int) - p)):lh e m p n=false:=decide_eq_false h
theorem xZ{e:Int}(fa:Int)(m p:Nat)(n:Int)(h:¬e=0):lh e m p n=false/\nE e m p n=e/\nF fa e m p n=fa/\nP e m p n=p:=by
 have g:=Cs (e:=e) (m:=m) (p:=p) (n:=n) (λhh=>h hh.1);exact⟨g,by unfold nE;rw [if_neg h],by unfold nF;rw [if_neg h],by unfold nP;rw [g];simp⟩
theorem ik(fa:Int)(m p:Nat)(n:Int)(h0:0<=n)(h:(m:Int) - p<n):lh 0 m p n=false/\nE 0 m p n=2/\nF fa 0 m p n=m/\nP 0 m p n=p:=by
 have g:=Cs (e:=0) (m:=m) (p:=p) (n:=n) (λhh=>by omega);exact⟨g,by unfold nE;rw [if_pos rfl,if_neg (by omega),if_pos h],by unfold nF;rw [if_pos rfl,if_neg (by omega),if_pos h],by unfold nP;rw [g];simp⟩
theorem oI(fa:Int)(m p:Nat)(n:Int)(h0:0<=n)(h:n<=(m:Int) - p):lh 0 m p n=true/\nE 0 m p n=0/\nF fa 0 m p n=fa/\nP 0 m p n=p+n.toNat:=by
 have g:=Ie (e:=0) (m:=m) (p:=p) (n:=n) rfl h0 h;exact⟨g,by unfold nE;rw [if_pos rfl,if_neg (by omega),if_neg (by omega)],by unfold nF;rw [if_pos rfl,if_neg (by omega),if_neg (by omega)],by unfold nP;rw [g];simp⟩
theorem AQ(R:Nat)(a:Option Addr)(m c p:Nat)(e fa:Int)(f:Nat->Int)(w:World)(hR:CellsAt w R 101 (rdr (.slice a m c) p e fa))(hb:Rd8 w a m f)(hne:∀b,a=some b->b.block≠R)(hc:m<=c)(hm:m<=100000)(hp:p<=m):
  Calls Try.prog 83 #[.pointer (some ⟨R,0,none⟩),.int .i64 1,.func (.func 84) #[] #[]] w λx w'=>x= .returned (.int .u8 (if lh e m p 1=true then le (λi=>f (p+i)) 1 else 0))/\CellsAt w' R 101 (rdr (.slice a m c) (nP e m p 1) (nE e m p 1) (nF fa e m p 1))/\w.grownBy w' (some R):=by
 by_cases he:e=0
 .subst he;by_cases hs:(m:Int) - p<1
  .obtain⟨s1,s2,s3,s4⟩:=ik fa m p 1 (by decide) hs;rw [s1,s2,s3,s4];exact wz R a m c p fa 1 w hR (by decide) hp (by omega) hs
  .obtain⟨s1,s2,s3,s4⟩:=oI fa m p 1 (by decide) (by omega);rw [s1,s2,s3,s4];exact Cr R a m c p fa f w hR hb hne hc (by omega) (by omega)
 .obtain⟨s1,s2,s3,s4⟩:=xZ fa m p 1 he;rw [s1,s2,s3,s4];exact(AN R _ _ e fa 1 w hR he).mono λx w' ⟨h1,h2⟩=>⟨h1,hR.below h2,ab h2 _⟩
theorem uS(R:Nat)(a:Option Addr)(m c p:Nat)(e fa:Int)(f:Nat->Int)(w:World)(hR:CellsAt w R 101 (rdr (.slice a m c) p e fa))(hb:Rd8 w a m f)(hne:∀b,a=some b->b.block≠R)(hc:m<=c)(hm:m<=100000)(hp:p<=m):
  Calls Try.prog 78 #[.pointer (some ⟨R,0,none⟩)] w λx w'=>x= .returned (.int .u8 (if lh e m p 1=true then le (λi=>f (p+i)) 1 else 0))/\CellsAt w' R 101 (rdr (.slice a m c) (nP e m p 1) (nE e m p 1) (nF fa e m p 1))/\w.grownBy w' (some R):=by
 have H:=Lib.hid (AQ R a m c p e fa f w hR hb hne hc hm hp);clear hR hb hne;obtain⟨V,hV⟩:∃V,V=(if lh e m p 1=true then le (λi=>f (p+i)) 1 else 0):=⟨_,rfl⟩;rw [<-hV]at H ⊢;clear hV
 go_enter Try.func78,Try.ntmps78
 go_wp2_with fail
 refine H.out.mono ?_;rintro x w' ⟨rfl,h1,h2⟩
 go_wp2
 go_ret
 exact⟨rfl,h1,h2⟩
theorem ya(R:Nat)(a:Option Addr)(m c p:Nat)(e fa:Int)(f:Nat->Int)(w:World)(hR:CellsAt w R 101 (rdr (.slice a m c) p e fa))(hb:Rd8 w a m f)(hne:∀b,a=some b->b.block≠R)(hc:m<=c)(hm:m<=100000)(hp:p<=m):
  Calls Try.prog 85 #[.pointer (some ⟨R,0,none⟩),.int .i64 4,.func (.func 86) #[] #[]] w λx w'=>x= .returned (.int .u32 (if lh e m p 4=true then le (λi=>f (p+i)) 4 else 0))/\CellsAt w' R 101 (rdr (.slice a m c) (nP e m p 4) (nE e m p 4) (nF fa e m p 4))/\w.grownBy w' (some R):=by
 by_cases he:e=0
 .subst he;by_cases hs:(m:Int) - p<4
  .obtain⟨s1,s2,s3,s4⟩:=ik fa m p 4 (by decide) hs;rw [s1,s2,s3,s4];exact uQ R a m c p fa 4 w hR (by decide) hp (by omega) hs
  .obtain⟨s1,s2,s3,s4⟩:=oI fa m p 4 (by decide) (by omega);rw [s1,s2,s3,s4];exact AO R a m c p fa f w hR hb hne hc (by omega) (by omega)
 .obtain⟨s1,s2,s3,s4⟩:=xZ fa m p 4 he;rw [s1,s2,s3,s4];exact(xX R _ _ e fa 4 w hR he).mono λx w' ⟨h1,h2⟩=>⟨h1,hR.below h2,ab h2 _⟩
theorem qq(R:Nat)(a:Option Addr)(m c p:Nat)(e fa:Int)(f:Nat->Int)(w:World)(hR:CellsAt w R 101 (rdr (.slice a m c) p e fa))(hb:Rd8 w a m f)(hne:∀b,a=some b->b.block≠R)(hc:m<=c)(hm:m<=100000)(hp:p<=m):
  Calls Try.prog 79 #[.pointer (some ⟨R,0,none⟩)] w λx w'=>x= .returned (.int .u32 (if lh e m p 4=true then le (λi=>f (p+i)) 4 else 0))/\CellsAt w' R 101 (rdr (.slice a m c) (nP e m p 4) (nE e m p 4) (nF fa e m p 4))/\w.grownBy w' (some R):=by
 have H:=Lib.hid (ya R a m c p e fa f w hR hb hne hc hm hp);clear hR hb hne;obtain⟨V,hV⟩:∃V,V=(if lh e m p 4=true then le (λi=>f (p+i)) 4 else 0):=⟨_,rfl⟩;rw [<-hV]at H ⊢;clear hV
 go_enter Try.func79,Try.ntmps79
 go_wp2_with fail
 refine H.out.mono ?_;rintro x w' ⟨rfl,h1,h2⟩
 go_wp2
 go_ret
 exact⟨rfl,h1,h2⟩
theorem yb(R:Nat)(a:Option Addr)(m c p:Nat)(e fa:Int)(f:Nat->Int)(w:World)(hR:CellsAt w R 101 (rdr (.slice a m c) p e fa))(hb:Rd8 w a m f)(hne:∀b,a=some b->b.block≠R)(hc:m<=c)(hm:m<=100000)(hp:p<=m):
  Calls Try.prog 87 #[.pointer (some ⟨R,0,none⟩),.int .i64 8,.func (.func 88) #[] #[]] w λx w'=>x= .returned (.int .i64 (if lh e m p 8=true then lw (λi=>f (p+i)) 8 else 0))/\CellsAt w' R 101 (rdr (.slice a m c) (nP e m p 8) (nE e m p 8) (nF fa e m p 8))/\w.grownBy w' (some R):=by
 by_cases he:e=0
 .subst he;by_cases hs:(m:Int) - p<8
  .obtain⟨s1,s2,s3,s4⟩:=ik fa m p 8 (by decide) hs;rw [s1,s2,s3,s4];exact uR R a m c p fa 8 w hR (by decide) hp (by omega) hs
  .obtain⟨s1,s2,s3,s4⟩:=oI fa m p 8 (by decide) (by omega);rw [s1,s2,s3,s4];exact AP R a m c p fa f w hR hb hne hc (by omega) (by omega)
 .obtain⟨s1,s2,s3,s4⟩:=xZ fa m p 8 he;rw [s1,s2,s3,s4];exact(xY R _ _ e fa 8 w hR he).mono λx w' ⟨h1,h2⟩=>⟨h1,hR.below h2,ab h2 _⟩
theorem wA(R:Nat)(a:Option Addr)(m c p:Nat)(e fa:Int)(f:Nat->Int)(w:World)(hR:CellsAt w R 101 (rdr (.slice a m c) p e fa))(hb:Rd8 w a m f)(hne:∀b,a=some b->b.block≠R)(hc:m<=c)(hm:m<=100000)(hp:p<=m):
  Calls Try.prog 80 #[.pointer (some ⟨R,0,none⟩)] w λx w'=>x= .returned (.int .i64 (if lh e m p 8=true then lw (λi=>f (p+i)) 8 else 0))/\CellsAt w' R 101 (rdr (.slice a m c) (nP e m p 8) (nE e m p 8) (nF fa e m p 8))/\w.grownBy w' (some R):=by
 have H:=Lib.hid (yb R a m c p e fa f w hR hb hne hc hm hp);clear hR hb hne;obtain⟨V,hV⟩:∃V,V=(if lh e m p 8=true then lw (λi=>f (p+i)) 8 else 0):=⟨_,rfl⟩;rw [<-hV]at H ⊢;clear hV
 go_enter Try.func80,Try.ntmps80
 go_wp2_with fail
 refine H.out.mono ?_;rintro x w' ⟨rfl,h1,h2⟩
 go_wp2
 go_ret
 exact⟨rfl,h1,h2⟩
end
noncomputable section
open Go.RowKit Go.Sort
theorem iH(R:Nat)(v:Value)(p:Nat)(e fa:Int)(w:World)(hR:CellsAt w R 101 (rdr v p e fa)):
  Calls Try.prog 44 #[.pointer (some ⟨R,0,none⟩)] w λx w'=>x= .returned (.int .i64 p)/\Below w.heap.size w w':=by
 have c1:w.cell? ⟨R,1,none⟩=some (.int .i64 p):=hR.cell 1
 go_enter Try.func44,Try.ntmps44
 go_wp2
 go_ret
 exact⟨rfl,Below.refl _ _⟩
theorem zu(R:Nat)(a:Option Addr)(m c p:Nat)(fa:Int)(w:World)(hR:CellsAt w R 101 (rdr (.slice a m c) p 0 fa))(b:Bool)(hbp:b=decide (p=m)):
  Calls Try.prog 43 #[.pointer (some ⟨R,0,none⟩)] w λx w'=>x= .returned (.bool b)/\Below w.heap.size w w':=by
 have c0:w.cell? ⟨R,0,none⟩=some (.slice a m c):=hR.cell 0;have c1:w.cell? ⟨R,1,none⟩=some (.int .i64 p):=hR.cell 1;have c2:w.cell? ⟨R,2,none⟩=some (.int .i64 0):=hR.cell 2;have kR:Has w R:=hR.lt;have b1:((p:Int)==(m:Int))=b:=by rw [hbp];by_cases h:p=m<;>simp [h]<;>omega
 clear hbp;have HB:=Lib.hid b1;clear b1
 go_enter Try.func43,Try.ntmps43
 go_wp2_with fail
 refine wp_region_quiet_below (by kernel_rfl) (by kernel_rfl) ?_
 repeat (go_big_quiet_step (fail))
 refine wpQuiet_nil ?_;rintro _ ⟨⟨d2,o2⟩,rfl⟩
 go_wp2_with fail
 go_ret
 exact⟨by rw [<-HB.out];rfl,(by repeat (first|with_reducible refine blg ?_ _ _|with_reducible refine bla ?_ _|with_reducible exact Below.refl _ _))⟩
theorem lk(R:Nat)(v:Value)(p:Nat)(e fa:Int)(w:World)(hR:CellsAt w R 101 (rdr v p e fa)):
  Calls Try.prog 71 #[.pointer (some ⟨R,0,none⟩)] w λx w'=>x= .returned (.agg #[.int .i64 e,.int .i64 fa])/\Below w.heap.size w w':=by
 have c2:w.cell? ⟨R,2,none⟩=some (.int .i64 e):=hR.cell 2;have c3:w.cell? ⟨R,3,none⟩=some (.int .i64 fa):=hR.cell 3;have kR:Has w R:=hR.lt
 go_enter Try.func71,Try.ntmps71
 go_wp2
 refine bodyPost_ret (v:= .agg #[.int .i64 e,.int .i64 fa]) ?_ rfl ⟨rfl,(by repeat (first|with_reducible refine blg ?_ _ _|with_reducible refine bla ?_ _|with_reducible exact Below.refl _ _))⟩;simp [results,Try.results71,go_sem]
theorem AR(R:Nat)(v:Value)(p:Nat)(e fa e2 f2:Int)(w:World)(hR:CellsAt w R 101 (rdr v p e fa))(he:¬(e=0/\¬e2=0)):
  Calls Try.prog 70 #[.pointer (some ⟨R,0,none⟩),.int .i64 e2,.int .i64 f2] w λx w'=>x= .returned (.tuple #[])/\Below w.heap.size w w':=by
 by_cases h:e=0
 .obtain rfl:e2=0:=Classical.byContradiction λhh=>he ⟨h,hh⟩;subst h;clear he;have c2:w.cell? ⟨R,2,none⟩=some (.int .i64 0):=hR.cell 2
  go_enter Try.func70,Try.ntmps70
  go_wp2_with fail
  go_end0
  exact⟨rfl,(by repeat (first|with_reducible refine blg ?_ _ _|with_reducible refine bla ?_ _|with_reducible exact Below.refl _ _))⟩
 .have he:=h;clear h;have b1:(e==0)=false:=by simpa using he
  have c2:w.cell? ⟨R,2,none⟩=some (.int .i64 e):=hR.cell 2
  go_enter Try.func70,Try.ntmps70
  go_wp2_with fail
  go_end0
  exact⟨rfl,(by repeat (first|with_reducible refine blg ?_ _ _|with_reducible refine bla ?_ _|with_reducible exact Below.refl _ _))⟩
theorem Ct(R:Nat)(v:Value)(p:Nat)(fa e2 f2:Int)(w:World)(hR:CellsAt w R 101 (rdr v p 0 fa))(he:¬e2=0):
  Calls Try.prog 70 #[.pointer (some ⟨R,0,none⟩),.int .i64 e2,.int .i64 f2] w λx w'=>x= .returned (.tuple #[])/\CellsAt w' R 101 (rdr v p e2 f2)/\w.grownBy w' (some R):=by
 have c2:w.cell? ⟨R,2,none⟩=some (.int .i64 0):=hR.cell 2;have b1:(e2 !=0)=true:=by simpa using he
 have c3:w.cell? ⟨R,3,none⟩=some (.int .i64 fa):=hR.cell 3;have f2':=hR.frozen 2;have f3':=hR.frozen 3;have kR:Has w R:=hR.lt
 go_enter Try.func70,Try.ntmps70
 go_wp2_with fail
 have h1:=(hR.set 2 (.int .i64 e2)).set 3 (.int .i64 f2);have h2:=af (ae w R 2 (.int .i64 e2)) (ae _ R 3 (.int .i64 f2))
 go_end0
 exact⟨rfl,h1,h2⟩
end
noncomputable section
open Go.RowKit Go.Sort
end
noncomputable section
open Go.RowKit Go.Sort
end
noncomputable section
open Go.RowKit Go.Sort
end
noncomputable section
open Go.RowKit Go.Sort
theorem AS{W W':World}{a:Option Addr}{n:Nat}{f:Nat->Int}(h:Rd8 W a n f)(hb:Below W.heap.size W W'):Rd8 W' a n f:=h.grown (ab hb none) (λ_ _=>by simp)
set_option maxHeartbeats 1000000 in
theorem AT(a:Option Addr)(k c:Nat)(f:Nat->Int)(w:World)(hr:Rd8 w a k f)(hk:k<=100000)(hc:k<=c):
  Calls Try.prog 40 #[.slice a k c] w λe w'=>∃R g,e= .returned (.pointer (some ⟨R,0,none⟩))/\CellsAt w' R 101 (rdr (.slice (some ⟨g,0,none⟩) k k) 0 0 0)/\Rd8 w' (some ⟨g,0,none⟩) k f/\g≠R/\w.heap.size<=R/\w.heap.size<=g/\g<w'.heap.size/\Below w.heap.size w w':=by
 go_enter Try.func40,Try.ntmps40
 go_wp2_with fail
 refine(AK a k c f _ hr hk hc).mono ?_;rintro x w1 ⟨g,rfl,hg,hgc,hb1⟩;have hf:∀i,i<k->0<=f i/\f i<=255:=λi hi=>by obtain⟨_,_,_,_,h⟩:=hr i hi;exact h
 have hgl:=hgc.lt;have hrd:=xW hgc hf;clear hgc hr
 go_wp2
 go_ret
 refine⟨w1.heap.size,g,rfl,World.alloc_heap_new w1 _,AS hrd (bl1 w1 _),by omega,hb1.size,hg,by simp;omega,hb1.trans ((bl1 w1 _).mono hb1.size)⟩
end
noncomputable section
open Go.RowKit Go.Sort
abbrev ldr(R:Nat):Value:= .agg #[.pointer (some ⟨R,0,none⟩)]
abbrev il(e fa:Int):PanicEntry:={v:= .iface 75 (.agg #[.int .i64 e,.int .i64 fa]),recovered:=false}
theorem el{w w1:World}{a:Obj}(h:Below (w.alloc a).heap.size (w.alloc a) w1):Below w.heap.size w w1:=
 (bl1 w a).trans (h.mono (by simp))
theorem im(R:Nat)(v:Value)(p:Nat)(fa e2 f2:Int)(w:World)(hR:CellsAt w R 101 (rdr v p 0 fa)):
  Calls Try.prog 42 #[ldr R,.bool false,.int .i64 e2,.int .i64 f2] w λx w'=>x= .returned (.tuple #[])/\Below w.heap.size w w':=by
 have H:=Lib.hid (λw (h:CellsAt w R 101 (rdr v p 0 fa))=>lk R v p 0 fa w h)
 go_enter Try.func42,Try.ntmps42
 go_wp2_with fail
 refine(H.out _ (hR.below (by repeat (first|with_reducible refine blg ?_ _ _|with_reducible refine bla ?_ _|with_reducible exact Below.refl _ _)))).mono ?_;rintro x w1 ⟨rfl,h1⟩
 go_wp2_with fail
 go_end0
 exact⟨rfl,(el h1).alloc (el h1).size _⟩
theorem ll(R:Nat)(v:Value)(p:Nat)(e fa e2 f2:Int)(b:Bool)(w:World)(hR:CellsAt w R 101 (rdr v p e fa))(he:¬e=0):
  Calls Try.prog 42 #[ldr R,.bool b,.int .i64 e2,.int .i64 f2] w λx w'=>x= .panicked [il e fa]/\Below w.heap.size w w':=by
 have H:=Lib.hid (λw (h:CellsAt w R 101 (rdr v p e fa))=>lk R v p e fa w h);have G:=Lib.hid (λw (h:CellsAt w R 101 (rdr v p e fa))=>AR R v p e fa e2 f2 w h (λh=>he h.1));have b1:(e !=0)=true:=by simpa using he
 go_enter Try.func42,Try.ntmps42
 cases b
 .go_wp2_with fail
  refine(H.out _ (hR.below (by repeat (first|with_reducible refine blg ?_ _ _|with_reducible refine bla ?_ _|with_reducible exact Below.refl _ _)))).mono ?_;rintro x w1 ⟨rfl,h1⟩
  go_wp2_with fail
  exact⟨rfl,rfl,(el h1).alloc (el h1).size _⟩
 .go_wp2_with fail
  have hR0:=hR.below (bl1 w (Obj.cells #[Value.pointer (some {block:=R,off:=0})] 80));refine(G.out _ hR0).mono ?_;rintro x w1 ⟨rfl,h0⟩;have c0:w1.cell? ⟨w.heap.size,0,none⟩=some (.pointer (some ⟨R,0,none⟩)):=(h0.cell (by simp)).trans (by simp [go_sem])
  go_wp2_with fail
  refine(H.out _ (hR0.below h0)).mono ?_;rintro x w2 ⟨rfl,h1⟩
  go_wp2_with fail
  exact⟨rfl,rfl,((el h0).trans (h1.mono (el h0).size)).alloc ((el h0).trans (h1.mono (el h0).size)).size _⟩
theorem jM(R:Nat)(v:Value)(p:Nat)(fa e2 f2:Int)(w:World)(hR:CellsAt w R 101 (rdr v p 0 fa))(he:¬e2=0):
  Calls Try.prog 42 #[ldr R,.bool true,.int .i64 e2,.int .i64 f2] w λx w'=>x= .panicked [il e2 f2]/\w.grownBy w' (some R):=by
 have H:=Lib.hid (λw (h:CellsAt w R 101 (rdr v p e2 f2))=>lk R v p e2 f2 w h);have G:=Lib.hid (λw (h:CellsAt w R 101 (rdr v p 0 fa))=>Ct R v p fa e2 f2 w h he);have b1:(e2 !=0)=true:=by simpa using he
 have kR:R<w.heap.size:=hR.lt
 go_enter Try.func42,Try.ntmps42
 go_wp2_with fail
 have hR0:=hR.below (bl1 w (Obj.cells #[Value.pointer (some {block:=R,off:=0})] 80));refine(G.out _ hR0).mono ?_;rintro x w1 ⟨rfl,h2,h0⟩;have h00:w.grownBy w1 (some R):=af (ab (bl1 w (Obj.cells #[Value.pointer (some {block:=R,off:=0})] 80)) _) h0;have c0:w1.cell? ⟨w.heap.size,0,none⟩=some (.pointer (some ⟨R,0,none⟩)):=(World.cell?_of_block (h0.block w.heap.size (by simp) (by simp;omega))).trans (by simp [go_sem])
 go_wp2_with fail
 refine(H.out _ h2).mono ?_;rintro x w2 ⟨rfl,h1⟩
 go_wp2_with fail
 exact⟨rfl,rfl,af h00 (ab (h1.alloc h1.size _) _)⟩
end
noncomputable section
open Go.RowKit Go.Sort
theorem bO{w w1:World}{v:Value}{t:TypeId}{R:Nat}(hR:R<w.heap.size)(h:(w.alloc (.cells #[v] t)).grownBy w1 (some R)):w1.cell? ⟨w.heap.size,0,none⟩=some v:=
 (World.cell?_of_block (h.block w.heap.size (by simp) (by simp;omega))).trans (by simp [go_sem])
theorem AU(R:Nat)(a:Option Addr)(m c p:Nat)(fa X most e2:Int)(f:Nat->Int)(w:World)(hR:CellsAt w R 101 (rdr (.slice a m c) p 0 fa))(hb:Rd8 w a m f)(hne:∀b,a=some b->b.block≠R)(hc:m<=c)(hm:m<=100000)(hp:p+4<=m)(hX:X=le (λi=>f (p+i)) 4)(hx0:0<=X)(hx1:X<=4294967295)(hmost:¬most<X):
  Calls Try.prog 65 #[ldr R,.int .i64 most,.int .i64 e2] w λx w'=>x= .returned (.int .i64 X)/\CellsAt w' R 101 (rdr (.slice a m c) (p+4:Nat) 0 fa)/\w.grownBy w' (some R):=by
 have U:Hid (∀w,CellsAt w R 101 (rdr (.slice a m c) p 0 fa)->Rd8 w a m f->Calls Try.prog 79 #[.pointer (some ⟨R,0,none⟩)] w λx w'=>x= .returned (.int .u32 X)/\CellsAt w' R 101 (rdr (.slice a m c) (p+4:Nat) 0 fa)/\w.grownBy w' (some R)):=by
  refine Lib.hid λw h1 h2=> ?_
  have:=qq R a m c p 0 fa f w h1 h2 hne hc hm (by omega)
  obtain⟨s1,s2,s3,s4⟩:=oI fa m p 4 (by decide) (by omega);rw [s1,s2,s3,s4]at this;rw [hX];simpa using this
 have T:=Lib.hid (λw (h:CellsAt w R 101 (rdr (.slice a m c) p 0 fa))=>iH R (.slice a m c) p 0 fa w h);have V:=Lib.hid (λw (h:CellsAt w R 101 (rdr (.slice a m c) (p+4:Nat) 0 fa))=>im R (.slice a m c) (p+4) fa e2 p w h);have kR:R<w.heap.size:=hR.lt;have b1:decide (most<X)=false:=decide_eq_false hmost;have hR0:=hR.below (bl1 w (Obj.cells #[Value.pointer (some {block:=R,off:=0})] 80));have hb0:=hb.grown (ab (bl1 w (Obj.cells #[Value.pointer (some {block:=R,off:=0})] 80)) none) (λ_ _=>by simp);clear hX hb hne
 go_enter Try.func65,Try.ntmps65
 go_wp2_with fail
 refine(T.out _ hR0).mono ?_;rintro x w1 ⟨rfl,h1⟩;have c0:w1.cell? ⟨w.heap.size,0,none⟩=some (.pointer (some ⟨R,0,none⟩)):=bO kR (ab h1 _)
 go_wp2_with fail
 refine(U.out _ (hR0.below h1) (hb0.grown (ab h1 none) (λ_ _=>by simp))).mono ?_;rintro x w2 ⟨rfl,h2,h3⟩;have c0:w2.cell? ⟨w.heap.size,0,none⟩=some (.pointer (some ⟨R,0,none⟩)):=bO kR (af (ab h1 _) h3);have g:w.grownBy w2 (some R):=af (ab (bl1 _ _) _) (af (ab h1 _) h3)
 go_wp2_with fail
 refine(V.out _ h2).mono ?_;rintro x w3 ⟨rfl,h4⟩
 go_wp2_with fail
 go_ret
 exact⟨rfl,h2.below h4,af g (ab h4 _)⟩
theorem wB(R:Nat)(a:Option Addr)(m c p:Nat)(fa X most e2:Int)(f:Nat->Int)(w:World)(hR:CellsAt w R 101 (rdr (.slice a m c) p 0 fa))(hb:Rd8 w a m f)(hne:∀b,a=some b->b.block≠R)(hc:m<=c)(hm:m<=100000)(hp:p+4<=m)(hX:X=le (λi=>f (p+i)) 4)(hx0:0<=X)(hx1:X<=4294967295)(hmost:most<X)(he2:¬e2=0):
  Calls Try.prog 65 #[ldr R,.int .i64 most,.int .i64 e2] w λx w'=>x= .panicked [il e2 p]/\w.grownBy w' (some R):=by
 have U:Hid (∀w,CellsAt w R 101 (rdr (.slice a m c) p 0 fa)->Rd8 w a m f->Calls Try.prog 79 #[.pointer (some ⟨R,0,none⟩)] w λx w'=>x= .returned (.int .u32 X)/\CellsAt w' R 101 (rdr (.slice a m c) (p+4:Nat) 0 fa)/\w.grownBy w' (some R)):=by
  refine Lib.hid λw h1 h2=> ?_
  have:=qq R a m c p 0 fa f w h1 h2 hne hc hm (by omega)
  obtain⟨s1,s2,s3,s4⟩:=oI fa m p 4 (by decide) (by omega);rw [s1,s2,s3,s4]at this;rw [hX];simpa using this
 have T:=Lib.hid (λw (h:CellsAt w R 101 (rdr (.slice a m c) p 0 fa))=>iH R (.slice a m c) p 0 fa w h);have V:=Lib.hid (λw (h:CellsAt w R 101 (rdr (.slice a m c) (p+4:Nat) 0 fa))=>jM R (.slice a m c) (p+4) fa e2 p w h he2);have kR:R<w.heap.size:=hR.lt;have b1:decide (most<X)=true:=decide_eq_true hmost;have hR0:=hR.below (bl1 w (Obj.cells #[Value.pointer (some {block:=R,off:=0})] 80));have hb0:=hb.grown (ab (bl1 w (Obj.cells #[Value.pointer (some {block:=R,off:=0})] 80)) none) (λ_ _=>by simp);clear hX hb hne
 go_enter Try.func65,Try.ntmps65
 go_wp2_with fail
 refine(T.out _ hR0).mono ?_;rintro x w1 ⟨rfl,h1⟩;have c0:w1.cell? ⟨w.heap.size,0,none⟩=some (.pointer (some ⟨R,0,none⟩)):=bO kR (ab h1 _)
 go_wp2_with fail
 refine(U.out _ (hR0.below h1) (hb0.grown (ab h1 none) (λ_ _=>by simp))).mono ?_;rintro x w2 ⟨rfl,h2,h3⟩;have c0:w2.cell? ⟨w.heap.size,0,none⟩=some (.pointer (some ⟨R,0,none⟩)):=bO kR (af (ab h1 _) h3);have g:w.grownBy w2 (some R):=af (ab (bl1 _ _) _) (af (ab h1 _) h3)
 go_wp2_with fail
 refine(V.out _ h2).mono ?_;rintro x w3 ⟨rfl,h4⟩
 go_wp2_with fail
 exact⟨rfl,rfl,af g h4⟩
theorem uT(R:Nat)(a:Option Addr)(m c p:Nat)(fa most e2:Int)(f:Nat->Int)(w:World)(hR:CellsAt w R 101 (rdr (.slice a m c) p 0 fa))(hb:Rd8 w a m f)(hne:∀b,a=some b->b.block≠R)(hc:m<=c)(hm:m<=100000)(hp:p<=m)(hs:¬p+4<=m):
  Calls Try.prog 65 #[ldr R,.int .i64 most,.int .i64 e2] w λx w'=>x= .panicked [il 2 m]/\w.grownBy w' (some R):=by
 have U:Hid (∀w,CellsAt w R 101 (rdr (.slice a m c) p 0 fa)->Rd8 w a m f->Calls Try.prog 79 #[.pointer (some ⟨R,0,none⟩)] w λx w'=>x= .returned (.int .u32 0)/\CellsAt w' R 101 (rdr (.slice a m c) p 2 m)/\w.grownBy w' (some R)):=by
  refine Lib.hid λw h1 h2=> ?_
  have:=qq R a m c p 0 fa f w h1 h2 hne hc hm (by omega)
  obtain⟨s1,s2,s3,s4⟩:=ik fa m p 4 (by decide) (by omega);rw [s1,s2,s3,s4]at this;simpa using this
 have T:=Lib.hid (λw (h:CellsAt w R 101 (rdr (.slice a m c) p 0 fa))=>iH R (.slice a m c) p 0 fa w h);have V:=Lib.hid (λw (h:CellsAt w R 101 (rdr (.slice a m c) p 2 m))=>ll R (.slice a m c) p 2 m e2 p (decide (most<0)) w h (by decide));have kR:R<w.heap.size:=hR.lt;obtain⟨B,hB⟩:∃B,B=decide (most<0):=⟨_,rfl⟩;rw [<-hB]at V;have hR0:=hR.below (bl1 w (Obj.cells #[Value.pointer (some {block:=R,off:=0})] 80));have hb0:=hb.grown (ab (bl1 w (Obj.cells #[Value.pointer (some {block:=R,off:=0})] 80)) none) (λ_ _=>by simp);clear hb hne
 go_enter Try.func65,Try.ntmps65
 go_wp2_with fail
 refine(T.out _ hR0).mono ?_;rintro x w1 ⟨rfl,h1⟩;have c0:w1.cell? ⟨w.heap.size,0,none⟩=some (.pointer (some ⟨R,0,none⟩)):=bO kR (ab h1 _)
 go_wp2_with fail
 refine(U.out _ (hR0.below h1) (hb0.grown (ab h1 none) (λ_ _=>by simp))).mono ?_;rintro x w2 ⟨rfl,h2,h3⟩;have c0:w2.cell? ⟨w.heap.size,0,none⟩=some (.pointer (some ⟨R,0,none⟩)):=bO kR (af (ab h1 _) h3);have g:w.grownBy w2 (some R):=af (ab (bl1 _ _) _) (af (ab h1 _) h3)
 go_wp2_with fail
 rw [<-hB];refine(V.out _ h2).mono ?_;rintro x w3 ⟨rfl,h4⟩
 go_wp2_with fail
 exact⟨rfl,rfl,af g (ab h4 _)⟩
end
noncomputable section
open Go.RowKit Go.Sort
def fL(f:Nat->Int)(m p:Nat)(most e2:Int):Except (Int×Int) (Int×Nat):=
 if p+4<=m then(if most<le (λi=>f (p+i)) 4 then .error (e2,(p:Int))else .ok (le (λi=>f (p+i)) 4,p+4))else .error (2,(m:Int))
def zv{α:Type}(v:α->Value)(R:Nat)(a:Option Addr)(m c:Nat)(fa:Int)(w:World)(o:Except (Int×Int) (α×Nat))(x:Ending)(w':World):Prop:=
 (match o with
 | .ok (y,q)=>x= .returned (v y)/\CellsAt w' R 101 (rdr (.slice a m c) q 0 fa)
 | .error er=>x= .panicked [il er.1 er.2])/\w.grownBy w' (some R)
abbrev vI(x:Int):Value:= .int .i64 x
theorem yc{w:World}{a:Option Addr}{m:Nat}{f:Nat->Int}(hb:Rd8 w a m f)(i:Nat)(hi:i<m):0<=f i/\f i<=255:=by
 obtain⟨_,_,_,_,h⟩:=hb i hi;exact h
theorem ec(R:Nat)(a:Option Addr)(m c p:Nat)(fa most e2:Int)(f:Nat->Int)(w:World)(hR:CellsAt w R 101 (rdr (.slice a m c) p 0 fa))(hb:Rd8 w a m f)(hne:∀b,a=some b->b.block≠R)(hc:m<=c)(hm:m<=100000)(hp:p<=m)(he2:¬e2=0):
  Calls Try.prog 65 #[ldr R,.int .i64 most,.int .i64 e2] w (zv vI R a m c fa w (fL f m p most e2)):=by
 unfold fL;by_cases h:p+4<=m
 .rw [if_pos h];have bd:=sZ (λi=>f (p+i)) 4 (λi hi=>yc hb _ (by omega));by_cases h2:most<le (λi=>f (p+i)) 4
  .rw [if_pos h2];exact(wB R a m c p fa _ most e2 f w hR hb hne hc hm h rfl bd.1 (by omega) h2 he2).mono λx w' h=>⟨h.1,h.2⟩
  .rw [if_neg h2];exact(AU R a m c p fa _ most e2 f w hR hb hne hc hm h rfl bd.1 (by omega) h2).mono λx w' h=>⟨⟨h.1,h.2.1⟩,h.2.2⟩
 .rw [if_neg h];exact(uT R a m c p fa most e2 f w hR hb hne hc hm hp h).mono λx w' h=>⟨h.1,h.2⟩
theorem cO{f:Nat->Int}{m p:Nat}{most e2 x:Int}{q:Nat}(h:fL f m p most e2= .ok (x,q)):q=p+4/\q<=m/\0<=m/\x<=most:=by
 unfold fL at h;split at h
 .split at h
  .cases h
  .cases h;exact⟨rfl,by omega,by omega,by omega⟩
 .cases h
theorem bB{w W:World}{R:Nat}(g:w.grownBy W (some R))(b i:Nat)(v:Value)(hb:w.heap.size<=b):w.grownBy (W.setCell ⟨b,i,none⟩ v) (some R):=by
 have g2:=ae W b i v;exact⟨g2.os.trans g.os,g2.tape.trans g.tape,g2.output.trans g.output,Nat.le_trans g.size g2.size,λk hk hne=>(g2.block k (Nat.lt_of_lt_of_le hk g.size) (by simp;omega)).trans (g.block k hk hne)⟩
end
noncomputable section
open Go.RowKit Go.Sort
abbrev Rd(α:Type):=(Nat->Int)->Nat->Nat->Except (Int×Int) (α×Nat)
def az{α β:Type}(r:Rd α)(s:α->Rd β):Rd β:=λf m p=>
 match r f m p with
 | .error e=> .error e
 | .ok (x,q)=>s x f m q
def dF{α:Type}(x:α):Rd α:=λ_ _ p=> .ok (x,p)
def cE(most e2:Int):Rd Int:=λf m p=>fL f m p most e2
def bg(least most e2:Int):Rd Int:=λf m p=>if p+1<=m then(if f p<least∨most<f p then .error (e2,(p:Int))else .ok (f p,p+1))else .error (2,(m:Int))
def cm:Rd Int:=λf m p=>if p+8<=m then .ok (lw (λi=>f (p+i)) 8,p+8)else .error (2,(m:Int))
def fu(last n:Int):Rd Int:=λf m p=>
 match fL f m p (n - 1) 3 with
 | .error e=> .error e
 | .ok (x,q)=>if x<=last then .error (6,(p:Int))else .ok (x,q)
section
variable {α β : Type} {r : Rd α} {s : α → Rd β} {f : Nat → Int} {m p q : Nat} {x : α} {er : Int × Int}
theorem ap(h:r f m p= .ok (x,q)):az r s f m p=s x f m q:=by unfold az;rw [h]
theorem ar(h:r f m p= .error er):az r s f m p= .error er:=by unfold az;rw [h]
end
theorem io{f:Nat->Int}{m p q:Nat}{least most e2 x:Int}(h:bg least most e2 f m p= .ok (x,q)):q=p+1/\q<=m/\least<=x/\x<=most:=by
 unfold bg at h;split at h
 .split at h
  .cases h
  .cases h;exact⟨rfl,by omega,by omega,by omega⟩
 .cases h
theorem dT{f:Nat->Int}{m p q:Nat}{x:Int}(h:cm f m p= .ok (x,q)):q=p+8/\q<=m:=by
 unfold cm at h;split at h
 .cases h;exact⟨rfl,by omega⟩
 .cases h
theorem jp{f:Nat->Int}{m p q:Nat}{last n x:Int}(h:fu last n f m p= .ok (x,q)):q=p+4/\q<=m/\last<x/\x<=n - 1:=by
 unfold fu at h;split at h
 .cases h
 .rename_i h1;split at h
  .cases h
  .cases h
   have:=cO h1
   exact⟨this.1,this.2.1,by omega,this.2.2.2⟩
end
noncomputable section
open Go.RowKit Go.Sort
theorem AV(R:Nat)(a:Option Addr)(m c p:Nat)(fa X least most e2:Int)(f:Nat->Int)(w:World)(hR:CellsAt w R 101 (rdr (.slice a m c) p 0 fa))(hb:Rd8 w a m f)(hne:∀b,a=some b->b.block≠R)(hc:m<=c)(hm:m<=100000)(hp:p+1<=m)(hX:X=f p)(hx0:0<=X)(hx1:X<=255)(h1:¬X<least)(h2:¬most<X):
  Calls Try.prog 64 #[ldr R,.int .i64 least,.int .i64 most,.int .i64 e2] w λx w'=>x= .returned (.int .i64 X)/\CellsAt w' R 101 (rdr (.slice a m c) (p+1:Nat) 0 fa)/\w.grownBy w' (some R):=by
 have U:Hid (∀w,CellsAt w R 101 (rdr (.slice a m c) p 0 fa)->Rd8 w a m f->Calls Try.prog 78 #[.pointer (some ⟨R,0,none⟩)] w λx w'=>x= .returned (.int .u8 X)/\CellsAt w' R 101 (rdr (.slice a m c) (p+1:Nat) 0 fa)/\w.grownBy w' (some R)):=by
  refine Lib.hid λw h1 h2=> ?_
  have:=uS R a m c p 0 fa f w h1 h2 hne hc hm (by omega)
  obtain⟨s1,s2,s3,s4⟩:=oI fa m p 1 (by decide) (by omega);rw [s1,s2,s3,s4,if_pos rfl,show le (λi=>f (p+i)) 1=f p by simp [le]]at this;rw [hX];simpa using this
 have T:=Lib.hid (λw (h:CellsAt w R 101 (rdr (.slice a m c) p 0 fa))=>iH R (.slice a m c) p 0 fa w h);have V:=Lib.hid (λw (h:CellsAt w R 101 (rdr (.slice a m c) (p+1:Nat) 0 fa))=>im R (.slice a m c) (p+1) fa e2 p w h);have kR:R<w.heap.size:=hR.lt;have b1:decide (X<least)=false:=decide_eq_false h1;have b2:decide (most<X)=false:=decide_eq_false h2;have hR0:=hR.below (bl1 w (Obj.cells #[Value.pointer (some {block:=R,off:=0})] 80));have hb0:=hb.grown (ab (bl1 w (Obj.cells #[Value.pointer (some {block:=R,off:=0})] 80)) none) (λ_ _=>by simp);clear hX hb hne
 go_enter Try.func64,Try.ntmps64
 go_wp2_with fail
 refine(T.out _ hR0).mono ?_;rintro x w1 ⟨rfl,h1⟩;have c0:w1.cell? ⟨w.heap.size,0,none⟩=some (.pointer (some ⟨R,0,none⟩)):=bO kR (ab h1 _)
 go_wp2_with fail
 refine(U.out _ (hR0.below h1) (hb0.grown (ab h1 none) (λ_ _=>by simp))).mono ?_;rintro x w2 ⟨rfl,h2,h3⟩;have c0:w2.cell? ⟨w.heap.size,0,none⟩=some (.pointer (some ⟨R,0,none⟩)):=bO kR (af (ab h1 _) h3);have g:w.grownBy w2 (some R):=af (ab (bl1 _ _) _) (af (ab h1 _) h3)
 go_wp2_with fail
 refine(V.out _ h2).mono ?_;rintro x w3 ⟨rfl,h4⟩
 go_wp2_with fail
 go_ret
 exact⟨rfl,h2.below h4,af g (ab h4 _)⟩
theorem ta(R:Nat)(a:Option Addr)(m c p p':Nat)(e' fa' er1 er2 fa X least most e2:Int)(f:Nat->Int)(B:Bool)(w:World)(hR:CellsAt w R 101 (rdr (.slice a m c) p 0 fa))(hb:Rd8 w a m f)
  (hx0:0<=X) (hx1:X<=255) (hB:B=(decide (X<least)||decide (most<X)))
  (U:Hid (∀w,CellsAt w R 101 (rdr (.slice a m c) p 0 fa)->Rd8 w a m f->Calls Try.prog 78 #[.pointer (some ⟨R,0,none⟩)] w λx w'=>x= .returned (.int .u8 X)/\CellsAt w' R 101 (rdr (.slice a m c) p' e' fa')/\w.grownBy w' (some R)))
  (V:Hid (∀w,CellsAt w R 101 (rdr (.slice a m c) p' e' fa')->Calls Try.prog 42 #[ldr R,.bool B,.int .i64 e2,.int .i64 p] w λx w'=>x= .panicked [il er1 er2]/\w.grownBy w' (some R))):
  Calls Try.prog 64 #[ldr R,.int .i64 least,.int .i64 most,.int .i64 e2] w λx w'=>x= .panicked [il er1 er2]/\w.grownBy w' (some R):=by
 have T:=Lib.hid (λw (h:CellsAt w R 101 (rdr (.slice a m c) p 0 fa))=>iH R (.slice a m c) p 0 fa w h);have kR:R<w.heap.size:=hR.lt;have hR0:=hR.below (bl1 w (Obj.cells #[Value.pointer (some {block:=R,off:=0})] 80));have hb0:=hb.grown (ab (bl1 w (Obj.cells #[Value.pointer (some {block:=R,off:=0})] 80)) none) (λ_ _=>by simp);clear hb;obtain⟨B1,b1⟩:∃B1,decide (X<least)=B1:=⟨_,rfl⟩;obtain⟨B2,b2⟩:∃B2,decide (most<X)=B2:=⟨_,rfl⟩;rw [b1,b2]at hB
 go_enter Try.func64,Try.ntmps64
 go_wp2_with fail
 refine(T.out _ hR0).mono ?_;rintro x w1 ⟨rfl,h1⟩;have c0:w1.cell? ⟨w.heap.size,0,none⟩=some (.pointer (some ⟨R,0,none⟩)):=bO kR (ab h1 _)
 go_wp2_with fail
 refine(U.out _ (hR0.below h1) (hb0.grown (ab h1 none) (λ_ _=>by simp))).mono ?_;rintro x w2 ⟨rfl,h2,h3⟩;have c0:w2.cell? ⟨w.heap.size,0,none⟩=some (.pointer (some ⟨R,0,none⟩)):=bO kR (af (ab h1 _) h3);have g:w.grownBy w2 (some R):=af (ab (bl1 _ _) _) (af (ab h1 _) h3);cases B1
 .simp only [Bool.false_or]at hB;subst hB;cases B
  .go_wp2_with fail
   refine(V.out _ h2).mono ?_;rintro x w3 ⟨rfl,h4⟩
   go_wp2_with fail
   exact⟨rfl,rfl,af g h4⟩
  .go_wp2_with fail
   refine(V.out _ h2).mono ?_;rintro x w3 ⟨rfl,h4⟩
   go_wp2_with fail
   exact⟨rfl,rfl,af g h4⟩
 .simp only [Bool.true_or]at hB;subst hB
  go_wp2_with fail
  refine(V.out _ h2).mono ?_;rintro x w3 ⟨rfl,h4⟩
  go_wp2_with fail
  exact⟨rfl,rfl,af g h4⟩
theorem AW(R:Nat)(a:Option Addr)(m c p:Nat)(fa least most e2:Int)(f:Nat->Int)(w:World)(hR:CellsAt w R 101 (rdr (.slice a m c) p 0 fa))(hb:Rd8 w a m f)(hne:∀b,a=some b->b.block≠R)(hc:m<=c)(hm:m<=100000)(hp:p<=m)(he2:¬e2=0):
  Calls Try.prog 64 #[ldr R,.int .i64 least,.int .i64 most,.int .i64 e2] w (zv vI R a m c fa w (bg least most e2 f m p)):=by
 unfold bg;by_cases h:p+1<=m
 .rw [if_pos h];have bd:=yc hb p (by omega);by_cases h2:f p<least∨most<f p
  .rw [if_pos h2];have hB:(decide (f p<least)||decide (most<f p))=true:=by simpa using h2
   refine(ta R a m c p (p+1) 0 fa e2 p fa (f p) least most e2 f true w hR hb bd.1 bd.2 hB.symm (Lib.hid λw h1 h2=> ?_) (Lib.hid λw h1=>jM R (.slice a m c) (p+1) fa e2 p w h1 he2)).mono λx w' h=>⟨h.1,h.2⟩
   have:=uS R a m c p 0 fa f w h1 h2 hne hc hm (by omega)
   obtain⟨s1,s2,s3,s4⟩:=oI fa m p 1 (by decide) (by omega);rw [s1,s2,s3,s4,if_pos rfl,show le (λi=>f (p+i)) 1=f p by simp [le]]at this;simpa using this
  .rw [if_neg h2];exact(AV R a m c p fa _ least most e2 f w hR hb hne hc hm h rfl bd.1 bd.2 (λh=>h2 (.inl h)) (λh=>h2 (.inr h))).mono λx w' h=>⟨⟨h.1,h.2.1⟩,h.2.2⟩
 .rw [if_neg h];refine(ta R a m c p p 2 m 2 m fa 0 least most e2 f _ w hR hb (Int.le_refl _) (by decide) rfl (Lib.hid λw h1 h2=> ?_) (Lib.hid λw h1=>(ll R (.slice a m c) p 2 m e2 p _ w h1 (by decide)).mono λx w' h=>⟨h.1,ab h.2 _⟩)).mono λx w' h=>⟨h.1,h.2⟩
  have:=uS R a m c p 0 fa f w h1 h2 hne hc hm (by omega)
  obtain⟨s1,s2,s3,s4⟩:=ik fa m p 1 (by decide) (by omega);rw [s1,s2,s3,s4]at this;simpa using this
theorem my(R:Nat)(a:Option Addr)(m c p:Nat)(fa:Int)(f:Nat->Int)(w:World)(hR:CellsAt w R 101 (rdr (.slice a m c) p 0 fa))(hb:Rd8 w a m f)(hne:∀b,a=some b->b.block≠R)(hc:m<=c)(hm:m<=100000)(hp:p<=m):
  Calls Try.prog 66 #[ldr R] w (zv vI R a m c fa w (cm f m p)):=by
 have kR:R<w.heap.size:=hR.lt;have hR0:=hR.below (bl1 w (Obj.cells #[Value.pointer (some {block:=R,off:=0})] 80));have hb0:=hb.grown (ab (bl1 w (Obj.cells #[Value.pointer (some {block:=R,off:=0})] 80)) none) (λ_ _=>by simp);unfold cm;by_cases h:p+8<=m
 .rw [if_pos h];obtain⟨X,hX⟩:∃X,X=lw (λi=>f (p+i)) 8:=⟨_,rfl⟩;rw [<-hX]
  have U:Hid (∀w,CellsAt w R 101 (rdr (.slice a m c) p 0 fa)->Rd8 w a m f->Calls Try.prog 80 #[.pointer (some ⟨R,0,none⟩)] w λx w'=>x= .returned (.int .i64 X)/\CellsAt w' R 101 (rdr (.slice a m c) (p+8:Nat) 0 fa)/\w.grownBy w' (some R)):=by
   refine Lib.hid λw h1 h2=> ?_
   have:=wA R a m c p 0 fa f w h1 h2 hne hc hm (by omega)
   obtain⟨s1,s2,s3,s4⟩:=oI fa m p 8 (by decide) (by omega);rw [s1,s2,s3,s4]at this;rw [hX];simpa using this
  have V:=Lib.hid (λw (h:CellsAt w R 101 (rdr (.slice a m c) (p+8:Nat) 0 fa))=>im R (.slice a m c) (p+8) fa 0 0 w h);clear hX hb hne
  go_enter Try.func66,Try.ntmps66
  go_wp2_with fail
  refine(U.out _ hR0 hb0).mono ?_;rintro x w2 ⟨rfl,h2,h3⟩;have c0:w2.cell? ⟨w.heap.size,0,none⟩=some (.pointer (some ⟨R,0,none⟩)):=bO kR h3;have g:w.grownBy w2 (some R):=af (ab (bl1 _ _) _) h3
  go_wp2_with fail
  refine(V.out _ h2).mono ?_;rintro x w3 ⟨rfl,h4⟩
  go_wp2_with fail
  go_ret
  exact⟨⟨rfl,h2.below h4⟩,af g (ab h4 _)⟩
 .rw [if_neg h]
  have U:Hid (∀w,CellsAt w R 101 (rdr (.slice a m c) p 0 fa)->Rd8 w a m f->Calls Try.prog 80 #[.pointer (some ⟨R,0,none⟩)] w λx w'=>x= .returned (.int .i64 0)/\CellsAt w' R 101 (rdr (.slice a m c) p 2 m)/\w.grownBy w' (some R)):=by
   refine Lib.hid λw h1 h2=> ?_
   have:=wA R a m c p 0 fa f w h1 h2 hne hc hm (by omega)
   obtain⟨s1,s2,s3,s4⟩:=ik fa m p 8 (by decide) (by omega);rw [s1,s2,s3,s4]at this;simpa using this
  have V:=Lib.hid (λw (h:CellsAt w R 101 (rdr (.slice a m c) p 2 m))=>ll R (.slice a m c) p 2 m 0 0 false w h (by decide));clear hb hne
  go_enter Try.func66,Try.ntmps66
  go_wp2_with fail
  refine(U.out _ hR0 hb0).mono ?_;rintro x w2 ⟨rfl,h2,h3⟩;have c0:w2.cell? ⟨w.heap.size,0,none⟩=some (.pointer (some ⟨R,0,none⟩)):=bO kR h3;have g:w.grownBy w2 (some R):=af (ab (bl1 _ _) _) h3
  go_wp2_with fail
  refine(V.out _ h2).mono ?_;rintro x w3 ⟨rfl,h4⟩
  go_wp2_with fail
  exact⟨rfl,rfl,af g (ab h4 _)⟩
theorem wD(R:Nat)(a:Option Addr)(m c p:Nat)(fa last n:Int)(f:Nat->Int)(w:World)(hR:CellsAt w R 101 (rdr (.slice a m c) p 0 fa))(hb:Rd8 w a m f)(hne:∀b,a=some b->b.block≠R)(hc:m<=c)(hm:m<=100000)(hp:p<=m)(hn:0<=n)(hn2:n<=65536):
  Calls Try.prog 81 #[ldr R,.int .i64 last,.int .i64 n] w (zv vI R a m c fa w (fu last n f m p)):=by
 have kR:R<w.heap.size:=hR.lt;have hR0:=hR.below (bl1 w (Obj.cells #[Value.pointer (some {block:=R,off:=0})] 80));have hb0:=hb.grown (ab (bl1 w (Obj.cells #[Value.pointer (some {block:=R,off:=0})] 80)) none) (λ_ _=>by simp);have T:=Lib.hid (λw (h:CellsAt w R 101 (rdr (.slice a m c) p 0 fa))=>iH R (.slice a m c) p 0 fa w h);have N:=Lib.hid (λw (h1:CellsAt w R 101 (rdr (.slice a m c) p 0 fa)) (h2:Rd8 w a m f)=>ec R a m c p fa (n - 1) 3 f w h1 h2 hne hc hm hp (by decide));obtain⟨O,hO⟩:∃O,O=fu last n f m p:=⟨_,rfl⟩;rw [<-hO];unfold fu at hO
 cases q1:fL f m p (n - 1) 3 with
 |error er=>
  rw [q1]at N hO;dsimp only at hO;subst hO;clear hb hne q1
  go_enter Try.func81,Try.ntmps81
  go_wp2_with fail
  refine(T.out _ hR0).mono ?_;rintro x w1 ⟨rfl,h1⟩;have c0:w1.cell? ⟨w.heap.size,0,none⟩=some (.pointer (some ⟨R,0,none⟩)):=bO kR (ab h1 _)
  go_wp2_with fail
  refine(N.out _ (hR0.below h1) (hb0.grown (ab h1 none) (λ_ _=>by simp))).mono ?_;rintro x w2 ⟨rfl,h3⟩
  go_wp2_with fail
  exact⟨rfl,rfl,af (ab (bl1 _ _) _) (af (ab h1 _) h3)⟩
 |ok r1=>
  obtain⟨X,q⟩:=r1;rw [q1]at N hO;dsimp only at hO;have n1:=cO q1;clear hb hne;by_cases hl:X<=last
  .rw [if_pos hl]at hO;subst hO;have b1:decide (X<=last)=true:=decide_eq_true hl;have V:=Lib.hid (λw (h:CellsAt w R 101 (rdr (.slice a m c) q 0 fa))=>jM R (.slice a m c) q fa 6 p w h (by decide))
   go_enter Try.func81,Try.ntmps81
   go_wp2_with fail
   refine(T.out _ hR0).mono ?_;rintro x w1 ⟨rfl,h1⟩;have c0:w1.cell? ⟨w.heap.size,0,none⟩=some (.pointer (some ⟨R,0,none⟩)):=bO kR (ab h1 _)
   go_wp2_with fail
   refine(N.out _ (hR0.below h1) (hb0.grown (ab h1 none) (λ_ _=>by simp))).mono ?_;rintro x w2 ⟨⟨rfl,h2⟩,h3⟩;have c0:w2.cell? ⟨w.heap.size,0,none⟩=some (.pointer (some ⟨R,0,none⟩)):=bO kR (af (ab h1 _) h3);have g:w.grownBy w2 (some R):=af (ab (bl1 _ _) _) (af (ab h1 _) h3)
   go_wp2_with fail
   refine(V.out _ h2).mono ?_;rintro x w3 ⟨rfl,h4⟩
   go_wp2_with fail
   exact⟨rfl,rfl,af g h4⟩
  .rw [if_neg hl]at hO;subst hO;have b1:decide (X<=last)=false:=decide_eq_false hl;have V:=Lib.hid (λw (h:CellsAt w R 101 (rdr (.slice a m c) q 0 fa))=>im R (.slice a m c) q fa 6 p w h)
   go_enter Try.func81,Try.ntmps81
   go_wp2_with fail
   refine(T.out _ hR0).mono ?_;rintro x w1 ⟨rfl,h1⟩;have c0:w1.cell? ⟨w.heap.size,0,none⟩=some (.pointer (some ⟨R,0,none⟩)):=bO kR (ab h1 _)
   go_wp2_with fail
   refine(N.out _ (hR0.below h1) (hb0.grown (ab h1 none) (λ_ _=>by simp))).mono ?_;rintro x w2 ⟨⟨rfl,h2⟩,h3⟩;have c0:w2.cell? ⟨w.heap.size,0,none⟩=some (.pointer (some ⟨R,0,none⟩)):=bO kR (af (ab h1 _) h3);have g:w.grownBy w2 (some R):=af (ab (bl1 _ _) _) (af (ab h1 _) h3)
   go_wp2_with fail
   refine(V.out _ h2).mono ?_;rintro x w3 ⟨rfl,h4⟩
   go_wp2_with fail
   go_ret
   exact⟨⟨rfl,h2.below h4⟩,af g (ab h4 _)⟩
end
noncomputable section
open Go.RowKit Go.Sort
def du{τ:Type}(item:Int->Rd τ)(key:τ->Int):Nat->Int->Rd (List τ)
 |0,_=>dF []
 |k+1,last=>az (item last) λt=>az (du item key k (key t)) λl=>dF (t::l)
def ga{τ:Type}(es:List τ):Except (Int×Int) (List τ×Nat)->Except (Int×Int) (List τ×Nat)
 | .error e=> .error e
 | .ok (l,r)=> .ok (es++l,r)
section
variable {τ : Type} {item : Int → Rd τ} {key : τ → Int} {f : Nat → Int} {m k q q2 : Nat} {last : Int} {t : τ} {er : Int × Int}
theorem nQ(o:Except (Int×Int) (List τ×Nat)):ga [] o=o:=by
 cases o<;>simp [ga]
theorem qr(es:List τ)(h:item last f m q= .ok (t,q2)):ga es (du item key (k+1) last f m q)=ga (es++ [t]) (du item key k (key t) f m q2):=by
 simp only [du];rw [ap h];unfold az
 cases du item key k (key t) f m q2 with
 |error e=>rfl
 |ok r=>obtain⟨l,z⟩:=r;simp [ga,dF]
theorem nR(es:List τ)(h:item last f m q= .error er):ga es (du item key (k+1) last f m q)= .error er:=by
 simp only [du];rw [ar h];rfl
theorem pJ{item:Int->Rd τ}{key:τ->Int}{s:Nat}(hi:∀(last:Int) (p:Nat) (t:τ) (q:Nat),item last f m p= .ok (t,q)->q=p+s/\q<=m):∀(k:Nat) (last:Int) (q:Nat) {l:List τ} {z:Nat},q<=m->du item key k last f m q= .ok (l,z)->z<=m
 |0,_,_,l,z,hq,h=>by simp only [du,dF]at h;cases h;exact hq
 |k+1,last,q,l,z,hq,h=>by
  simp only [du]at h
  cases h1:item last f m q with
  |error e=>rw [ar h1]at h;cases h
  |ok r1=>
   obtain⟨t,q1⟩:=r1;rw [ap h1]at h
   cases h2:du item key k (key t) f m q1 with
   |error e=>rw [ar h2]at h;cases h
   |ok r2=>
    obtain⟨l1,q2⟩:=r2;rw [ap h2]at h;simp only [dF]at h;cases h;exact pJ hi k _ _ (hi _ _ _ _ h1).2 h2
end
theorem jq(w:World)(a b c:Value)(t:TypeId):∀j u,[a,b,c][j]? =some u->(w.alloc (.cells #[a,b,c] t)).cell? ((⟨w.heap.size,0,none⟩:Addr).add j)=some u:=by
 intro j u hj
 match j,hj with
 |0,hj=>simp at hj;subst hj;simp [Addr.add]
 |1,hj=>simp at hj;subst hj;simp [Addr.add]
 |2,hj=>simp at hj;subst hj;simp [Addr.add]
theorem uU(w:World)(a b:Value)(t:TypeId):∀j u,[a,b][j]? =some u->(w.alloc (.cells #[a,b] t)).cell? ((⟨w.heap.size,0,none⟩:Addr).add j)=some u:=by
 intro j u hj
 match j,hj with
 |0,hj=>simp at hj;subst hj;simp [Addr.add]
 |1,hj=>simp at hj;subst hj;simp [Addr.add]
theorem gC{P:Program}{e:TypeId}{z:Value}{s b:Nat}(h:(P.info? e).map (λi=>(i.zero,i.size,i.bytes))=some (some z,s,b)):∃i,P.info? e=some i/\i.zero=some z/\i.size=s/\i.bytes=b:=by
 cases hi:P.info? e with
 |none=>rw [hi]at h;cases h
 |some i=>rw [hi]at h;simp at h;exact⟨i,rfl,h.1,h.2.1,h.2.2⟩
theorem eo{W W':World}{base k:Nat}{e:TypeId}{size:Nat}{v:Value}{xs:List Value}{row:Option Nat}(h:W.ownsRow base e size v k xs)(hg:W.grownBy W' row)(hne:∀g,v.ownBlock=some g->row≠some g):W'.ownsRow base e size v k xs:=by
 refine h.kept hg ?_
 cases hb:v.ownBlock with
 |none=>exact .inl rfl
 |some g=>exact .inr (λe=>hne g hb e.symm)
theorem aG{W:World}{base k:Nat}{e:TypeId}{size:Nat}{v:Value}{xs:List Value}(h:W.ownsRow base e size v k xs):∃bs cap,v= .slice bs k cap:=by
 rcases h.2 with⟨rfl,h0⟩|⟨g,cap,_,rfl,_⟩
 .exact⟨none,0,by rw [h0]⟩
 .exact⟨_,cap,rfl⟩
theorem ln{w V V':World}{R:Nat}{row:Option Nat}(g:w.grownBy V (some R))(h:V.grownBy V' row)(hr:∀b,row=some b->w.heap.size<=b):w.grownBy V' (some R):=
 ⟨h.os.trans g.os,h.tape.trans g.tape,h.output.trans g.output,Nat.le_trans g.size h.size,λk hk hne=>(h.block k (Nat.lt_of_lt_of_le hk g.size) (λe=>by have:=hr k e.symm;omega)).trans (g.block k hk hne)⟩
theorem aW{W W':World}{B R:Nat}{t:TypeId}{cs:Array Value}(h:CellsAt W B t cs)(g:W.grownBy W' (some R))(hne:B≠R):CellsAt W' B t cs:=h.grown g (by simpa using hne)
theorem If{W W':World}{a:Option Addr}{n R:Nat}{f:Nat->Int}(h:Rd8 W a n f)(g:W.grownBy W' (some R))(hne:∀b,a=some b->b.block≠R):Rd8 W' a n f:=h.grown g (λb hb=>by simpa using hne b hb)
theorem pK{f:Nat->Int}{m p:Nat}{most e2 x:Int}{q:Nat}{W:World}{a:Option Addr}(h:fL f m p most e2= .ok (x,q))(hb:Rd8 W a m f):0<=x:=by
 unfold fL at h;split at h
 .split at h
  .cases h
  .cases h;exact(sZ _ 4 (λi hi=>yc hb _ (by omega))).1
 .cases h
def mz(k1 k2 k3:IntKind)(l:List (Int×Int×Int)):List Value:=l.flatMap λe=> [.int k1 e.1,.int k2 e.2.1,.int k3 e.2.2]
theorem tc(k1 k2 k3:IntKind)(l:List (Int×Int×Int))(e:Int×Int×Int):mz k1 k2 k3 (l++ [e])=mz k1 k2 k3 l++ [.int k1 e.1,.int k2 e.2.1,.int k3 e.2.2]:=by simp [mz]
def uV(l:List (Int×Int)):List Value:=l.flatMap λe=> [.int .i64 e.1,.int .i64 e.2]
theorem AX(l:List (Int×Int))(e:Int×Int):uV (l++ [e])=uV l++ [.int .i64 e.1,.int .i64 e.2]:=by simp [uV]
end
noncomputable section
open Go.RowKit Go.Sort
def lq(last:Int):Rd (Int×Int×Int):=az (fu last 4096) λx=>az cm λh=>az cm λlo=>dF (x,h,IntKind.u64.wrap lo)
def ep:Rd (List (Int×Int×Int)):=az (cE 4096 5) λk=>du lq (·.1) k.toNat (-1)
theorem Fi{f:Nat->Int}{m p q:Nat}{last:Int}{t:Int×Int×Int}(h:lq last f m p= .ok (t,q)):q=p+20/\q<=m:=by
 unfold lq at h
 cases q1:fu last 4096 f m p with
 |error er=>rw [ar q1]at h;cases h
 |ok r1=>
  obtain⟨x,p1⟩:=r1;rw [ap q1]at h
  cases q2:cm f m p1 with
  |error er=>rw [ar q2]at h;cases h
  |ok r2=>
   obtain⟨hi,p2⟩:=r2;rw [ap q2]at h
   cases q3:cm f m p2 with
   |error er=>rw [ar q3]at h;cases h
   |ok r3=>
    obtain⟨lo,p3⟩:=r3;rw [ap q3]at h;simp only [dF]at h;cases h
    have:=jp q1;have:=dT q2;have:=dT q3
    omega
theorem Fj:(Try.prog.info? 61).map (λi=>(i.zero,i.size,i.bytes))=some (some (.agg #[.int .i64 0,.int .i64 0,.int .u64 0]),3,24):=by kernel_rfl
set_option maxRecDepth 100000 in
set_option maxHeartbeats 2000000 in
theorem Cu(R:Nat)(a:Option Addr)(m c p:Nat)(fa:Int)(f:Nat->Int)(w:World)(hR:CellsAt w R 101 (rdr (.slice a m c) p 0 fa))(hb:Rd8 w a m f)(hne:∀b,a=some b->b.block≠R)(hc:m<=c)(hm:m<=100000)(hp:p<=m):
  Calls Try.prog 68 #[ldr R] w λx w'=>
   (match ep f m p with
    | .ok (l,q)=>∃v,x= .returned v/\w'.ownsRow (w.heap.size+1) 61 3 v l.length (mz .i64 .i64 .u64 l)/\CellsAt w' R 101 (rdr (.slice a m c) q 0 fa)/\(l= []->v= .slice none 0 0)
    | .error er=>x= .panicked [il er.1 er.2])/\w.grownBy w' (some R):=by
 obtain⟨i0,hi,hz0,hz1,hz2⟩:=gC Fj;have kR:R<w.heap.size:=hR.lt;obtain⟨O,hO⟩:∃O,O=ep f m p:=⟨_,rfl⟩;rw [<-hO];have HO:=Lib.hid hO;clear hO;have B1:=bl1 w (.cells #[.pointer (some ⟨R,0,none⟩)] 80);have hRB:CellsAt (w.alloc (.cells #[.pointer (some ⟨R,0,none⟩)] 80)) w.heap.size 80 #[.pointer (some ⟨R,0,none⟩)]:=World.alloc_heap_new w _;have hR0:=hR.below B1;have hb0:=hb.grown (ab B1 none) (λ_ _=>by simp);have g0:w.grownBy (w.alloc (.cells #[.pointer (some ⟨R,0,none⟩)] 80)) (some R):=ab B1 _;have N1:=ec R a m c p fa 4096 5 f _ hR0 hb0 hne hc hm hp (by decide);have X:=Lib.hid (λV (g:w.grownBy V (some R)) (q:Nat) (last:Int) (h:CellsAt V R 101 (rdr (.slice a m c) q 0 fa)) (hq:q<=m)=>wD R a m c q fa last 4096 f V h (hb.grown g (λb hb=>by simpa using hne b hb)) hne hc hm hq (by decide) (by decide));have L:=Lib.hid (λV (g:w.grownBy V (some R)) (q:Nat) (h:CellsAt V R 101 (rdr (.slice a m c) q 0 fa)) (hq:q<=m)=>my R a m c q fa f V h (hb.grown g (λb hb=>by simpa using hne b hb)) hne hc hm hq);have hb':=Lib.hid hb0;have hl:w.heap.size<(w.alloc (.cells #[.pointer (some ⟨R,0,none⟩)] 80)).heap.size:=by simp
 clear hb hR hne B1 hb0
 go_enter Try.func68,Try.ntmps68
 go_wp2_with fail
 generalize (w.alloc (.cells #[.pointer (some ⟨R,0,none⟩)] 80))=W0 at hRB hR0 hb' g0 N1 hl ⊢
 cases q0:fL f m p 4096 5 with
 |error er=>
  have he:O= .error er:=by rw [HO.out];exact ar (show cE 4096 5 f m p=_ from q0)
  rw [q0]at N1;refine N1.mono ?_;rintro x w1 ⟨rfl,hg⟩;exact⟨rfl,by rw [he],af g0 hg⟩
 |ok r0=>
  obtain⟨kk,p1⟩:=r0;have n1:=cO q0;have k0:=pK q0 hb'.out;obtain⟨k,rfl⟩:=Int.eq_ofNat_of_zero_le k0;have HO2:Hid (O=du lq (·.1) k (-1) f m p1):=Lib.hid (by rw [HO.out];exact ap (show cE 4096 5 f m p=_ from q0));have hk:(k:Int)<=4096:=n1.2.2.2;have hp1:p1<=m:=n1.2.1;rw [q0]at N1;clear HO n1 q0;refine N1.mono ?_;rintro x w1 ⟨⟨rfl,hR1⟩,hg⟩;have hRB1:=aW hRB hg (by omega);have g1:=af g0 hg;clear N1 hRB hR0 hb' g0 hg hl
  go_wp2_with fail
  go_loopw [3,4,9] (λv la y wr=>∃(i:Nat) (es:List (Int×Int×Int)) (last:Int) (q:Nat),y= .int .i64 i/\la= .int .i64 last/\i<=k/\es.length=i/\q<=m/\Hid (O=ga es (du lq (·.1) (k - i) last f m q))/\CellsAt wr R 101 (rdr (.slice a m c) q 0 fa)/\CellsAt wr w.heap.size 80 #[.pointer (some ⟨R,0,none⟩)]/\w.grownBy wr (some R)/\wr.ownsRow (w.heap.size+1) 61 3 v i (mz .i64 .i64 .u64 es)/\(i=0->v= .slice none 0 0)) (λ_ _ y _=>k - (intOf y).toNat)
  case atStart=>
   exact⟨0,[],-1,p1,rfl,rfl,by omega,rfl,hp1,Lib.hid (by rw [nQ];exact HO2.out),hR1,hRB1,g1,World.ownsRow_nil _ _ _ _,λ_=>rfl⟩
  case round=>
   clear hR1 hRB1 g1;obtain⟨i,es,last,q,rfl,rfl,hik,hlen,hq,hE,hR,hRB,hg,hrow,hz⟩:=hrel;have kV:=hg.size;by_cases hlt:i<k
   .have hlt':(i:Int)<(k:Int):=by omega
    have cR:=hRB.cell 0;have kRB:Has wr w.heap.size:=hRB.lt;have C1:=Lib.hid (X.out wr hg q last hR hq)
    have hE':Hid (∀er,lq last f m q= .error er->O= .error er):=Lib.hid λer he=>by
     have:=hE.out
     rw [show k - i=(k - i - 1)+1 by omega,nR es he]at this;exact this
    have hE2:Hid (∀t q2,lq last f m q= .ok (t,q2)->O=ga (es++ [t]) (du lq (·.1) (k - (i+1)) t.1 f m q2)):=Lib.hid λt q2 he=>by
     have:=hE.out
     rw [show k - i=(k - (i+1))+1 by omega,qr es he]at this;exact this
    have hrow:=Lib.hid hrow;clear hE
    go_wp2_with fail
    have C1:=C1.out
    cases q1:fu last 4096 f m q with
    |error er=>
     rw [q1]at C1;refine C1.mono ?_;rintro x w1 ⟨rfl,hg1⟩
     (try simp only [Exit.inBlock,Exit.then])
     exact⟨rfl,by rw [hE'.out er (ar q1)],af hg hg1⟩
    |ok r1=>
     obtain⟨x1,p1⟩:=r1;rw [q1]at C1;refine C1.mono ?_;rintro x w1 ⟨⟨rfl,hR1⟩,hg1⟩;have n1:=jp q1;have hRB1:=aW hRB hg1 (by omega);have rV:=eo hrow.out hg1 (λg hgg=>by have:=(hrow.out.lt g hgg).1;simp;omega);have hgA:=af hg hg1;have cR:=hRB1.cell 0;have kRB:Has w1 w.heap.size:=hRB1.lt;have C2:=Lib.hid (L.out w1 hgA p1 hR1 n1.2.1);have rV:=Lib.hid rV;clear C1 hR hRB hg hrow hg1 kV hR1
     go_wp2_with fail
     have C2:=C2.out
     cases q2:cm f m p1 with
     |error er=>
      rw [q2]at C2;refine C2.mono ?_;rintro x w2 ⟨rfl,hg1⟩;exact⟨rfl,by rw [hE'.out er (by unfold lq;rw [ap q1];exact ar q2)],af hgA hg1⟩
     |ok r2=>
      obtain⟨x2,p2⟩:=r2;rw [q2]at C2;refine C2.mono ?_;rintro x w2 ⟨⟨rfl,hR2⟩,hg2⟩;have n2:=dT q2;have hRB2:=aW hRB1 hg2 (by omega);have rV2:=eo rV.out hg2 (λg hgg=>by have:=(rV.out.lt g hgg).1;simp;omega);have hgB:=af hgA hg2;have cR:=hRB2.cell 0;have kRB:Has w2 w.heap.size:=hRB2.lt;have C3:=Lib.hid (L.out w2 hgB p2 hR2 n2.2);have rV2:=Lib.hid rV2;clear C2 hRB1 hgA rV hg2 hR2
      go_wp2_with fail
      have C3:=C3.out
      cases q3:cm f m p2 with
      |error er=>
       rw [q3]at C3;refine C3.mono ?_;rintro x w3 ⟨rfl,hg1⟩;exact⟨rfl,by rw [hE'.out er (by unfold lq;rw [ap q1,ap q2];exact ar q3)],af hgB hg1⟩
      |ok r3=>
       obtain⟨x3,p3⟩:=r3;have he:=hE2.out (x1,x2,IntKind.u64.wrap x3) p3 (by unfold lq;rw [ap q1,ap q2,ap q3];rfl);rw [q3]at C3;refine C3.mono ?_;rintro x V ⟨⟨rfl,hR3⟩,hg3⟩;have n3:=dT q3;have hRB3:=aW hRB2 hg3 (by omega);have rV:=eo rV2.out hg3 (λg hgg=>by have:=(rV2.out.lt g hgg).1;simp;omega);have hgC:=af hgB hg3;have he:=Lib.hid he;have kV2:=hgC.size;obtain⟨bs,cap,rfl⟩:=aG rV;clear C3 hRB2 hgB rV2 hg3 hE' hE2
       go_wp2_with (refine wpList_append_own _ rfl _ _ 26 rfl (w.heap.size+1) 61 i0 (.agg #[.int .i64 0,.int .i64 0,.int .u64 0]) 3 24 Try.underlying26 hi hz0 hz1 hz2 rfl (by decide) _ _ _ rfl (rV.alloc _) ⟨V.heap.size,0,none⟩ 1 1 [.int .i64 x1,.int .i64 x2,.int .u64 (IntKind.u64.wrap x3)] rfl rfl (jq _ _ _ _ _) (by simp [Value.oneCell']) (by unfold maxLen;omega) (by omega) (by simp;omega) ?_;intro v' V2 hown' hgrow _;obtain⟨g',cap',rfl⟩:=ownsRow_succ hown')
       refine⟨?_,by simp [intOf];omega⟩;have hgA:V.grownBy V2 (Value.slice bs i cap).ownBlock:=af (ab (bl1 V _) _) hgrow;exact⟨i+1,es++ [(x1,x2,IntKind.u64.wrap x3)],x1,p3,by simp,rfl,by omega,by simp [hlen],n3.2,he,hR3.grown hgA (λe=>by have:=(rV.lt R e.symm).1;omega),hRB3.grown hgA (λe=>by have:=(rV.lt _ e.symm).1;omega),ln hgC hgA (λb e=>by have:=(rV.lt b e).1;omega),by rw [tc];exact hown',λh=>by omega⟩
   .obtain rfl:i=k:=by omega
    have he:O= .ok (es,q):=by
     have:=hE.out
     rw [Nat.sub_self]at this;simpa [du,dF,ga]using this
    obtain⟨bs,cap,rfl⟩:=aG hrow;clear hE HO2;subst he
    go_wp2_with fail
    go_ret
    exact⟨⟨_,rfl,hrow,hR,λh=>hz (by rw [<-hlen,h];rfl)⟩,hg⟩
end
end Go.Proofs.Ytkmbihigeeclbaa
