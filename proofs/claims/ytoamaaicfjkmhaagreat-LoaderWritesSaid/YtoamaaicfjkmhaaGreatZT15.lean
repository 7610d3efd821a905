/- Texts of a claim, joined. -/
import Derived.Test.YtoamaaicfjkmhaaGreatZT14
set_option linter.unusedVariables false
set_option linter.unusedSimpArgs false
namespace Go.Proofs.YtoamaaicfjkmhaaGreat
noncomputable section
namespace Ev
open Go Sm
def bts(x:Int)(k:Nat):List Int:=(List.range k).map λi=>x / 256 ^ i % 256
theorem bB(x:Int)(k:Nat):(bts x k).length=k:=by simp [bts]
theorem PV(x:Int)(k i:Nat)(h:i<k):(bts x k)[i]? =some (x / 256 ^ i % 256):=by simp [bts,h]
theorem BP(x:Int)(k:Nat):bts x (k+1)=bts x k++ [x / 256 ^ k % 256]:=by simp [bts,List.range_succ]
theorem pq{x:Int}{k:Nat}{y:Int}(h:y∈bts x k):0<=y/\y<=255:=by
 simp only [bts,List.mem_map]at h;obtain⟨i,_,rfl⟩:=h;omega
theorem BQ{b:Int×List Int->Option (Int×List Int ⊕ List Int ⊕ Empty)}{x:Int}{k:Nat}
  (hb:∀(i:Nat) (L:List Int),i<k->L.length=k->b ((i:Int),L)=some (.inl (((i+1:Nat):Int),L.set i (x / 256 ^ i % 256))))
  (he:∀L,b ((k:Int),L)=some (.inr (.inl L))):aR b (0,List.replicate k 0)=some (.inl (bts x k)):=by
 refine eW k (λi=>((i:Int),bts x i++List.replicate (k - i) 0)) (by simp [bts]) (λi hi=> ?_) ?_
 .rw [hb i _ hi (by simp [bB];omega)];congr 3;rw [BP];obtain⟨d,rfl⟩:∃d,k=i+1+d:=⟨k - (i+1),by omega⟩;rw [show i+1+d - i=d+1 by omega,show i+1+d - (i+1)=d by omega,List.replicate_succ,List.set_append_right _ _ (by rw [bB];exact Nat.le_refl _),bB,Nat.sub_self,List.set_cons_zero,List.append_assoc];rfl
 .rw [Nat.sub_self,List.replicate_zero,List.append_nil,he]
theorem Jq(i:Nat)(h:i<8):IntKind.u64.wrap (IntKind.i64.wrap (8*(i:Int)))=((8*i:Nat):Int):=by
 rw [wrap64 (by omega) (by omega),wrap_u64];omega
theorem BS{k:IntKind}{x:Int}{i:Nat}(h:8*i<=k.bits):Ad k x ((8*i:Nat):Int)=some (x / 256 ^ i):=by
 unfold Ad MC;rw [if_pos (by omega),Int.toNat_natCast,Nat.min_eq_left h,Int.fdiv_eq_ediv_of_nonneg _ (Int.le_of_lt (Int.pow_pos (by decide))),Int.pow_mul];rfl
theorem Fu(n:Int):IntKind.u8.wrap n=n % 256:=by
 simp [IntKind.wrap,IntKind.signed,IntKind.bits]
theorem BT{n:Int}(h:0<=n/\n<4294967296):IntKind.u32.wrap n=n:=by
 have:IntKind.u32.wrap n=n % 4294967296:=by simp [IntKind.wrap,IntKind.signed,IntKind.bits]
 rw [this,Int.emod_eq_of_lt h.1 h.2]
theorem Md(x:Int):eS x=some (bts x 4):=by
 rw [uK,mC,vp];have h1:vo 4=some ():=rfl;rw [h1];simp only [zbS]
 have q:=BQ (b:=cI x 4) (x:=x) (k:=4) (λi L hi hL=>by
  simp only [cI];rw [if_pos (by simp;omega),Jq i (by omega),BS (by show 8*i<=32;omega),bF (List.getElem?_eq_getElem (by omega))];simp only [zbS];rw [wrap64 (by omega) (by omega),Fu]
  rfl) (λL=>by
  simp only [cI]
  rw [if_neg (by simp)])
 rw [show Int.toNat 4=4 from rfl,q];rfl
theorem PX{x:Int}(h:0<=x/\x<256):fR x=some [x]:=by
 rw [xe,nT,vp];have h1:vo 1=some ():=rfl;rw [h1];simp only [zbS]
 have q:=BQ (b:=dh x 1) (x:=x) (k:=1) (λi L hi hL=>by
  obtain rfl:i=0:=by omega
  simp only [dh];rw [if_pos (by simp),Jq 0 (by omega),BS (by show 8*0<=8;omega),bF (List.getElem?_eq_getElem (by omega))];simp only [zbS];rw [wrap64 (by omega) (by omega)];rw [show x / 256 ^ 0 % 256=x / 256 ^ 0 by rw [Int.pow_zero,Int.ediv_one];omega]
  rfl) (λL=>by
  simp only [dh]
  rw [if_neg (by simp)])
 rw [show Int.toNat 1=1 from rfl,q];simp only [zbS,Sum.elim_inl];simp [bts];omega
def b4s(l:List Int):List Int:=l.flatMap λn=>bts n 4
theorem lY(l:List Int):(b4s l).length=4*l.length:=by
 induction l with
 |nil=>rfl
 |cons a r ih=>simp only [b4s,List.flatMap_cons,List.length_append,bB,List.length_cons]at*;omega
theorem Jr{s:Sl Int}(hs:okS 1 s)(hl:s.l.length<=1000)(h:∀y∈s.l,0<=y/\y<4294967296):dL s=some (b4s s.l):=by
 rw [xf]
 have q:aR (gd s) ([],0)=some (.inl (b4s s.l)):=by
  rw [show b4s s.l=b4s (s.l.take s.l.length)by rw [List.take_length]];refine eW s.l.length (λi=>(b4s (s.l.take i),(i:Int))) (by simp [b4s]) (λi hi=> ?_) ?_
  .simp only [gd];rw [if_pos (by omega),eB hs hi];simp only [zbS];rw [BT (h _ (List.getElem_mem hi)),Md];simp only [zbS];rw [fL (by rw [lY,bB];simp;unfold bO;omega),dQ hi (by omega)];simp only [zbS];rw [List.take_succ_eq_append_getElem hi];simp only [b4s,List.flatMap_append,List.flatMap_cons,List.flatMap_nil,List.append_nil]
  .simp only [gd];rw [if_neg (by omega)]
 rw [q];rfl
end Ev
end
noncomputable section
namespace Ev
open Go Sm
theorem Js{n:Int}{g:Nat->Int}:∀(k:Nat),(∀i,i<k->g i=n / 256 ^ i % 256)->le g k=n % 256 ^ k
 |0,_=>by simp [le,Int.emod_one]
 |k+1,h=>by
  rw [le,Js k λi hi=>h i (by omega),h k (by omega)];have hp:(0:Int)<256 ^ k:=Int.pow_pos (by decide);have e1:(2:Int)^(8*k)=256 ^ k:=by rw [Int.pow_mul];rfl
  rw [e1];have e2:n /(256 ^ k*256)=n / 256 ^ k / 256:=(Int.ediv_ediv_of_nonneg (Int.le_of_lt hp)).symm;rw [Int.pow_succ];generalize (256:Int)^ k=M at hp e2 ⊢;rw [Int.emod_def n (M*256),e2,Int.emod_def n M,Int.emod_def (n / M) 256];generalize n / M / 256=q;generalize n / M=r;rw [Int.sub_mul,Int.mul_comm r M,Int.mul_comm 256 q,Int.mul_assoc q 256 M,Int.mul_comm 256 M,Int.mul_comm q (M*256)];omega
theorem pr{f:Nat->Int}{m:Nat}{B pre post:List Int}{n most e:Int}(hB:B=pre++(bts n 4++post))(hf:∀i,i<m->f i=B.getD i 0)(h0:0<=n)(h1:n<=most)(h2:most<=2147483647):
  eO f m pre.length most e=if pre.length+4<=m then .ok (n,pre.length+4)else .error (2,(m:Int)):=by
 unfold eO;by_cases h:pre.length+4<=m
 .have hl:le (λi=>f (pre.length+i)) 4=n:=by
   rw [Js (n:=n) 4 λi hi=>by
    rw [hf _ (by omega),hB,List.getD_eq_getElem?_getD,List.getElem?_append_right (by omega),Nat.add_sub_cancel_left,List.getElem?_append_left (by rw [bB];exact hi),PV _ _ _ hi]
    rfl]
   omega
  rw [if_pos h,if_pos h,hl,if_neg (by omega)]
 .rw [if_neg h,if_neg h]
theorem Jt{f:Nat->Int}{m k:Nat}{B A post:List Int}(hB:B=A++post)(hf:∀i,i<m->f i=B.getD i 0)(hk:A.length=k)(hm:k<=m):gJ f 0 k=A:=by
 unfold gJ;apply List.ext_getElem?;intro i;simp only [List.getElem?_map];by_cases h:i<k
 .rw [List.getElem?_range h];simp only [Option.map_some,Nat.zero_add];rw [hf i (by omega),hB,List.getD_eq_getElem?_getD,List.getElem?_append_left (by omega)];rw [List.getElem?_eq_getElem (by omega)];rfl
 .rw [List.getElem?_eq_none (by simpa using h),List.getElem?_eq_none (by omega)];rfl
end Ev
end
noncomputable section
namespace Ev
open Go Sm
end Ev
end
noncomputable section
namespace Ev
open Go Sm
end Ev
end
noncomputable section
namespace Ev
open Go Sm
theorem Ju{z:Sl Int}(h:K.W (.S (.I .u8)) z):okS 1 z/\(∀e∈z.l,0<=e/\e<=255)/\(z.l.length<=100000->Sm.Be.okY z=true):=by
 have hb:∀e∈z.l,0<=e/\e<=255:=λe he=>by
  have:inK .u8 e:=h.2.2.2 e he
  simpa [inK,Lit.wf,IntKind.min,IntKind.max,IntKind.signed,IntKind.bits]using this
 refine⟨.inr h.1,hb,λhl=> ?_⟩;simp only [Sm.Be.okY,Bool.and_eq_true,Bool.or_eq_true,decide_eq_true_eq,List.isEmpty_iff,List.all_eq_true];exact⟨hl,hb,.inl h.1⟩
theorem Jv{α:Type}{g:α->List Int}(hg:∀a,∀e∈g a,0<=e/\e<=255)(l:List α):∀e∈l.flatMap g,0<=e/\e<=255:=λe he=>by
 obtain⟨a,_,h⟩:=List.mem_flatMap.1 he;exact hg a e h
theorem DO{L:List Int}(h:∀e∈L,0<=e/\e<=255)(hl:L.length<=100000):Sm.Be.okY ⟨true,1,L⟩=true:=by
 simp only [Sm.Be.okY,Bool.and_eq_true,Bool.or_eq_true,decide_eq_true_eq,List.isEmpty_iff,List.all_eq_true];exact⟨hl,h,.inl trivial⟩
theorem Jw(l:List E3):okS 3 (Sm.Dc.liS l):= .inr rfl
end Ev
end
noncomputable section
namespace Ev
open Go Sm
def wtO(l:List E3):Int:=if l.all (λe=>decide (e.2.2=1))=true then 0 else 1
def fF(wt:Int)(e:E3):List Int:=bts e.1 4++(bts e.2.1 4++(if wt=1 then bts e.2.2 4 else []))
def gv(n:Int)(l:List E3):List Int:= [70,82,84,49]++([wtO l]++(bts n 4++(bts (l.length:Int) 4++l.flatMap (fF (wtO l)))))
def szE(wt:Int):Nat:=if wt=1 then 12 else 8
theorem DP(l:List E3):wtO l=0∨wtO l=1:=by unfold wtO;split<;>simp
theorem Ro{l:List E3}(h:¬wtO l=1):∀e∈l,e.2.2=1:=by
 unfold wtO at h;split at h
 .rename_i hq;exact λe he=>of_decide_eq_true (List.all_eq_true.1 hq e he)
 .exact absurd rfl h
theorem BV(wt:Int)(e:E3):(fF wt e).length=szE wt:=by
 unfold fF szE;split<;>simp [bB]
theorem qQ(wt:Int)(l:List E3):(l.flatMap (fF wt)).length=szE wt*l.length:=by
 induction l with
 |nil=>rfl
 |cons a r ih=>rw [List.flatMap_cons,List.length_append,BV,ih,List.length_cons,Nat.mul_add];omega
theorem jm(n:Int)(l:List E3):(gv n l).length=13+szE (wtO l)*l.length:=by
 simp only [gv,List.length_append,bB,qQ,List.length_cons,List.length_nil];omega
theorem lr(wt:Int):8<=szE wt/\szE wt<=12:=by unfold szE;split<;>omega
theorem Jx{f:Nat->Int}{m:Nat}{B pre post:List Int}{n wt:Int}{e:E3}(hB:B=pre++(fF wt e++post))(hf:∀i,i<m->f i=B.getD i 0)(hn:n<=4096)(he:inM n n e=true)(hw:wOk e=true)(h1:¬wt=1->e.2.2=1):
  dJ f m pre.length n wt=if pre.length+szE wt<=m then .ok (e,pre.length+szE wt)else .error (2,(m:Int)):=by
 have he2:0<=e.1/\e.1<n/\0<=e.2.1/\e.2.1<n:=of_decide_eq_true he;have hw2:0<=e.2.2/\e.2.2<=2147483647:=of_decide_eq_true hw;have n1:=pr (pre:=pre) (most:=n - 1) (e:=3) (post:=bts e.2.1 4++((if wt=1 then bts e.2.2 4 else [])++post)) (by rw [hB,fF];simp only [List.append_assoc]) hf he2.1 (by omega) (by omega);have n2:=pr (pre:=pre++bts e.1 4) (most:=n - 1) (e:=3) (post:=(if wt=1 then bts e.2.2 4 else [])++post) (by rw [hB,fF];simp only [List.append_assoc]) hf he2.2.2.1 (by omega) (by omega);simp only [List.length_append,bB]at n2;unfold dJ;rw [n1];by_cases c1:pre.length+4<=m
 .rw [if_pos c1];dsimp only;rw [n2];by_cases c2:pre.length+4+4<=m
  .rw [if_pos c2];dsimp only;by_cases hwt:wt=1
   .rw [if_pos hwt];have n3:=pr (pre:=pre++(bts e.1 4++bts e.2.1 4)) (most:=2147483647) (e:=7) (post:=post) (by rw [hB,fF,if_pos hwt];simp only [List.append_assoc]) hf hw2.1 hw2.2 (by omega);simp only [List.length_append,bB]at n3
    have n3:eO f m (pre.length+4+4) 2147483647 7=if pre.length+4+4+4<=m then .ok (e.2.2,pre.length+4+4+4)else .error (2,(m:Int)):=n3
    have hs:szE wt=12:=by unfold szE;rw [if_pos hwt]
    rw [n3,hs];by_cases c3:pre.length+4+4+4<=m
    .rw [if_pos c3,if_pos (show pre.length+12<=m by omega)]
    .rw [if_neg c3,if_neg (show¬pre.length+12<=m by omega)]
   .have hs:szE wt=8:=by unfold szE;rw [if_neg hwt]
    rw [if_neg hwt,hs,if_pos (show pre.length+8<=m by omega),<-h1 hwt]
  .have:=lr wt
   rw [if_neg c2,if_neg (by omega)]
 .have:=lr wt
  rw [if_neg c1,if_neg (by omega)]
theorem xS{f:Nat->Int}{m:Nat}{B post:List Int}{n wt:Int}(hf:∀i,i<m->f i=B.getD i 0)(hn:n<=4096):∀(l:List E3) (pre:List Int),B=pre++(l.flatMap (fF wt)++post)->(∀e∈l,inM n n e=true/\wOk e=true/\(¬wt=1->e.2.2=1))->pre.length<=m->
  bP f m n wt l.length pre.length=if pre.length+szE wt*l.length<=m then .ok (l,pre.length+szE wt*l.length)else .error (2,(m:Int))
 | [],pre,_,_,hm=>by simp [bP,hm]
 |e::r,pre,hB,hl,hm=>by
  have he:=hl e List.mem_cons_self;have h1:=Jx (pre:=pre) (post:=r.flatMap (fF wt)++post) (by rw [hB];simp only [List.flatMap_cons,List.append_assoc]) hf hn he.1 he.2.1 he.2.2;have el:(pre++fF wt e).length=pre.length+szE wt:=by rw [List.length_append,BV]
  simp only [List.length_cons,bP];rw [h1];have hmul:szE wt*(r.length+1)=szE wt+szE wt*r.length:=by rw [Nat.mul_add];omega
  rw [hmul];by_cases h:pre.length+szE wt<=m
  .rw [if_pos h];dsimp only;have h2:=xS (post:=post) (n:=n) (wt:=wt) hf hn r (pre++fF wt e) (by rw [hB];simp only [List.flatMap_cons,List.append_assoc]) (λz hz=>hl z (List.mem_cons_of_mem _ hz)) (by rw [el];exact h);rw [el]at h2;rw [h2];by_cases h3:pre.length+szE wt+szE wt*r.length<=m
   .rw [if_pos h3];dsimp only;rw [if_pos (by omega)];exact congrArg (λq=>Except.ok (e::r,q)) (Nat.add_assoc _ _ _)
   .rw [if_neg h3];dsimp only;rw [if_neg (by omega)]
  .rw [if_neg h,if_neg (by omega)]
theorem Hg{f:Nat->Int}{m:Nat}{post:List Int}{n:Int}{l:List E3}(hf:∀i,i<m->f i=(gv n l++post).getD i 0)(hn0:0<=n)(hn:n<=4096)(hl:l.length<=65536)(hin:∀e∈l,inM n n e=true/\wOk e=true):
  ez f m=if 13+szE (wtO l)*l.length<=m then .ok ((n,l),13+szE (wtO l)*l.length)else .error (2,(m:Int)):=by
 unfold ez;have hw0:=Ro (l:=l);have hw1:=DP l;by_cases h4:4<=m
 .rw [if_pos h4];have e0:=Jt (k:=4) (A:= [70,82,84,49]) (B:=gv n l++post) (post:=([wtO l]++(bts n 4++(bts (l.length:Int) 4++l.flatMap (fF (wtO l)))))++post) (by rw [gv,List.append_assoc]) hf rfl h4;rw [e0,if_pos (by rfl)];by_cases h5:5<=m
  .have f4:f 4=wtO l:=by
    rw [hf 4 (by omega),gv];rfl
   rw [if_pos h5,f4,if_neg (by omega)];have n2:=pr (pre:= [70,82,84,49]++ [wtO l]) (n:=n) (most:=4096) (e:=5) (post:=bts (l.length:Int) 4++(l.flatMap (fF (wtO l))++post)) (B:=gv n l++post) (by rw [gv];simp only [List.append_assoc]) hf hn0 hn (by omega);have n3:=pr (pre:= [70,82,84,49]++([wtO l]++bts n 4)) (n:=(l.length:Int)) (most:=65536) (e:=5) (post:=l.flatMap (fF (wtO l))++post) (B:=gv n l++post) (by rw [gv];simp only [List.append_assoc]) hf (by omega) (by omega) (by omega);have n4:=xS (post:=post) (n:=n) (wt:=wtO l) hf hn l ([70,82,84,49]++([wtO l]++(bts n 4++bts (l.length:Int) 4))) (by rw [gv];simp only [List.append_assoc]) (λe he=>⟨(hin e he).1,(hin e he).2,λh=>hw0 h e he⟩);simp only [List.length_append,bB,List.length_cons,List.length_nil,Nat.reduceAdd]at n2 n3 n4;rw [n2];by_cases h2:9<=m
   .rw [if_pos h2];dsimp only;rw [n3];by_cases h3:13<=m
    .rw [if_pos h3];dsimp only;rw [Int.toNat_natCast,n4 h3];by_cases h6:13+szE (wtO l)*l.length<=m
     .rw [if_pos h6,if_pos h6]
     .rw [if_neg h6,if_neg h6]
    .rw [if_neg h3,if_neg (by omega)]
   .rw [if_neg h2,if_neg (by omega)]
  .rw [if_neg h5,if_neg (by omega)]
 .rw [if_neg h4,if_neg (by omega)]
theorem wrongG_iff{g:Gr}:dB g=0↔(0<=g.1/\g.1<=4096)/\g.2.l.length<=65536/\g.2.l.all (inM g.1 g.1)=true/\g.2.l.all wOk=true:=by
 unfold dB;constructor
 .intro hw;split at hw<;>(try (exact absurd hw (by decide)));split at hw<;>(try (exact absurd hw (by decide)));split at hw<;>(try (exact absurd hw (by decide)));split at hw<;>(try (exact absurd hw (by decide)));split at hw<;>(try (exact absurd hw (by decide)));rename_i h1 h2 h3 h4 h5;exact⟨⟨by omega,by omega⟩,by omega,h4,h5⟩
 .rintro⟨⟨h1,h2⟩,h3,h4,h5⟩;rw [if_neg (by omega),if_neg (by omega),if_neg (by omega),if_pos h4,if_pos h5]
theorem DQ{f:Nat->Int}{m:Nat}{post:List Int}{n:Int}{s:Sl E3}(hf:∀i,i<m->f i=(gv n s.l++post).getD i 0)(hw:dB (n,s)=0):
  cY f m=if 13+szE (wtO s.l)*s.l.length<=m then(if 13+szE (wtO s.l)*s.l.length=m then .ok (n,s.l)else .error (4,((13+szE (wtO s.l)*s.l.length:Nat):Int)))else .error (2,(m:Int)):=by
 obtain⟨⟨a1,a2⟩,a3,a4,a5⟩:=wrongG_iff.1 hw;have h:=Hg hf a1 a2 a3 (λe he=>⟨List.all_eq_true.1 a4 e he,List.all_eq_true.1 a5 e he⟩);unfold cY;rw [h];by_cases c:13+szE (wtO s.l)*s.l.length<=m
 .rw [if_pos c,if_pos c]
 .rw [if_neg c,if_neg c]
theorem Jy{s:Sl E3}(hs:okS 3 s)(hl:s.l.length<=65536):dv s=some (wtO s.l):=by
 rw [qL];unfold wtO
 rcases lq (l:=s.l) (b:=ec s) (λe=>decide (e.2.2=1)) (λ_=>1) (λj hj=>by
  unfold ec;rw [if_pos (by omega),eB hs hj];simp only [zbS];rw [dQ hj (by omega)];by_cases h:s.l[j].2.2=1
  .rw [if_neg (by simp [h]),if_pos (decide_eq_true h)]
  .rw [if_pos h,if_neg (by simp [h])]) (by unfold ec;rw [if_neg (by omega)])with⟨a,q⟩|⟨a,j,q⟩
 .rw [q,if_pos a];rfl
 .rw [q,if_neg (by rw [a];decide)];rfl
theorem Hh{n:Int}{s:Sl E3}(hs:okS 3 s)(hl:s.l.length<=65536)(hn:n<=4096)(hin:∀e∈s.l,inM n n e=true/\wOk e=true)(wt:Int){H:List Int}(hH:H.length<=1000):
  aR (ee (n,s) wt) (H,0)=some (.inl (H++s.l.flatMap (fF wt))):=by
 rw [show s.l.flatMap (fF wt)=(s.l.take s.l.length).flatMap (fF wt)by rw [List.take_length]];refine eW s.l.length (λi=>(H++(s.l.take i).flatMap (fF wt),(i:Int))) (by simp) (λi hi=> ?_) ?_
 .have hb:=hin s.l[i] (List.getElem_mem hi);have hb2:0<=s.l[i].1/\s.l[i].1<n/\0<=s.l[i].2.1/\s.l[i].2.1<n:=of_decide_eq_true hb.1;have hb3:0<=s.l[i].2.2/\s.l[i].2.2<=2147483647:=of_decide_eq_true hb.2;have hlen:=qQ wt (s.l.take i);rw [List.length_take,Nat.min_eq_left (by omega)]at hlen;have hsz:=lr wt;have hle:szE wt*i<=12*i:=Nat.mul_le_mul_right _ hsz.2;simp only [ee];rw [if_pos (by omega),eB hs hi];simp only [zbS];rw [Jr (.inr rfl) (by simp) (λy hy=>by simp at hy;omega)];simp only [zbS];rw [fL (by rw [List.length_append,lY,hlen];simp;unfold bO;omega)];simp only [zbS];rw [dQ hi (by omega),List.take_succ_eq_append_getElem hi];by_cases hwt:wt=1
  .rw [if_pos hwt,Jr (.inr rfl) (by simp) (λy hy=>by simp at hy;omega)];simp only [zbS];rw [fL (by rw [List.length_append,List.length_append,lY,lY,hlen];simp;unfold bO;omega)];simp only [zbS,b4s,fF,if_pos hwt,List.flatMap_append,List.flatMap_cons,List.flatMap_nil,List.append_nil,List.append_assoc]
  .rw [if_neg hwt];simp only [b4s,fF,if_neg hwt,List.flatMap_append,List.flatMap_cons,List.flatMap_nil,List.append_nil,List.append_assoc]
 .simp only [ee];rw [if_neg (by omega)]
def nX(g:Gr):Sl Int×Int:=if dB g=0 then if gm g.2.l=true then(⟨true,1,gv g.1 g.2.l⟩,0)else(⟨false,0,[]⟩,6)else(⟨false,0,[]⟩,dB g)
theorem pu{g:Gr}(hs:okS 3 g.2):bp g=some (nX g):=by
 obtain⟨n,s⟩:=g;rw [qM,xi hs];simp only [zbS];unfold nX;by_cases h:dB (n,s)=0
 .rw [if_neg (by simp [h]),if_pos h];obtain⟨⟨a1,a2⟩,a3,a4,a5⟩:=wrongG_iff.1 h;have a3:s.l.length<=65536:=a3;have a1:0<=n:=a1;have a2:n<=4096:=a2;rw [mI hs (by omega)];simp only [zbS];by_cases hr:gm s.l=true
  .rw [if_neg (by simp [hr]),if_pos hr,Jy hs (by omega)];simp only [zbS];have h01:=DP s.l;rw [PX (by omega)];simp only [zbS];rw [fL (by simp;unfold bO;omega)];simp only [zbS];rw [Jr (.inr rfl) (by simp) (λy hy=>by simp at hy;omega)];simp only [zbS];rw [fL (by rw [lY];simp;unfold bO;omega)];simp only [zbS];rw [Hh hs a3 a2 (λe he=>⟨List.all_eq_true.1 a4 e he,List.all_eq_true.1 a5 e he⟩) _ (by rw [List.length_append,lY];simp)];simp only [zbS,Sum.elim_inl,b4s,gv,List.flatMap_cons,List.flatMap_nil,List.append_nil,List.append_assoc]
  .rw [if_pos hr,if_neg hr]
 .rw [if_pos h,if_neg h]
theorem Jz(wt:Int)(e:E3):∀z∈fF wt e,0<=z/\z<=255:=λz hz=>by
 unfold fF at hz;rcases List.mem_append.1 hz with hz|hz
 .exact pq hz
 .rcases List.mem_append.1 hz with hz|hz
  .exact pq hz
  .split at hz
   .exact pq hz
   .simp at hz
theorem uT(n:Int)(l:List E3):∀e∈gv n l,0<=e/\e<=255:=λe he=>by
 unfold gv at he;rcases List.mem_append.1 he with he|he
 .simp at he;omega
 .rcases List.mem_append.1 he with he|he
  .have:=DP l;simp at he;omega
  .rcases List.mem_append.1 he with he|he
   .exact pq he
   .rcases List.mem_append.1 he with he|he
    .exact pq he
    .exact Jv (Jz _) l e he
theorem JA{z:Sl Int}(hz:Sm.Be.okY z=true){er:Int×Int}(h:cY (Sm.Be.gf z) z.l.length= .error er):bh z=some ((0,⟨false,0,[]⟩),er):=by
 show Sm.Dc.fn z=_;unfold Sm.Dc.fn;rw [if_pos hz,h]
theorem Fv{z:Sl Int}(hz:Sm.Be.okY z=true){n:Int}{l:List E3}(h:cY (Sm.Be.gf z) z.l.length= .ok (n,l)):bh z=some ((n,Sm.Dc.canonS l),(0,0)):=by
 show Sm.Dc.fn z=_;unfold Sm.Dc.fn;rw [if_pos hz,h]
theorem DR{l:List E3}(h:gm l=true):Sm.Dc.canonS l=Sm.Dc.liS l:=by
 unfold Sm.Dc.canonS;rw [if_pos h]
theorem BX{n:Int}{s:Sl E3}(hw:dB (n,s)=0)(hr:gm s.l=true)(hl:s.l.length<=5000):bh ⟨true,1,gv n s.l⟩=some ((n,Sm.Dc.liS s.l),(0,0)):=by
 have hsz:=lr (wtO s.l);have hle:szE (wtO s.l)*s.l.length<=12*s.l.length:=Nat.mul_le_mul_right _ hsz.2;have h:=DQ (f:=Sm.Be.gf ⟨true,1,gv n s.l⟩) (m:=(gv n s.l).length) (post:= []) (by intro i _;rw [List.append_nil];rfl) hw;rw [jm,if_pos (Nat.le_refl _),if_pos rfl,<-jm]at h;rw [Fv (DO (uT n s.l) (by rw [jm];omega)) h,DR hr]
theorem JB{n:Int}{s t:Sl E3}(h:s.l=t.l):dB (n,s)=dB (n,t):=by unfold dB;simp only [h]
theorem xU{a b:Sl Int}(ha:Sm.Be.okY a=true)(hb:Sm.Be.okY b=true):gq a b=some (decide (a.l=b.l)):=by
 show Sm.Be.fn (a,b)=_;unfold Sm.Be.fn;rw [if_pos ⟨ha,hb⟩]
theorem Hi{n:Int}{s:Sl E3}(hw:dB (n,s)=0)(hr:gm s.l=true)(hl:s.l.length<=5000):ci ⟨true,1,gv n s.l⟩=some true:=by
 have hsz:=lr (wtO s.l);have hle:szE (wtO s.l)*s.l.length<=12*s.l.length:=Nat.mul_le_mul_right _ hsz.2;have hy:=DO (uT n s.l) (by rw [jm];omega);rw [jY,BX hw hr hl];simp only [zbS]
 have e:nX (n,Sm.Dc.liS s.l)=(⟨true,1,gv n s.l⟩,0):=by
  unfold nX;rw [if_pos (show dB (n,Sm.Dc.liS s.l)=0 from(JB (t:=s) rfl).trans hw),if_pos (show gm (Sm.Dc.liS s.l).l=true from hr)];rfl
 rw [if_neg (by simp),pu (g:=(n,Sm.Dc.liS s.l)) (Jw _),e];simp only [zbS];rw [if_pos trivial,xU hy hy];simp
end Ev
end
noncomputable section
namespace Ev
open Go Sm
theorem rE{x y:Sl Int}(hx:okS 1 x)(hy:okS 1 y)(hl:x.l.length<=9223372036854775806):bq x y=some (decide (x.l=y.l)):=by
 rw [nV];exact xR hl hx hy (P:=λu v=>u=v) (λu v=>Iff.rfl) λa=>by unfold im;rfl
theorem Me{x:Int}{k:Nat}(h0:0<=x)(h1:x<18446744073709551616)(hk:k<=8):gR x (k:Int)=some (bts x k):=by
 rw [zP]
 have q:aR (gN (k:Int)) (x,[],0)=some (.inl (bts x k)):=by
  refine eW k (λi=>(x / 256 ^ i,bts x i,(i:Int))) (by simp [bts]) (λi hi=> ?_) ?_
  .have hp:(0:Int)<256 ^ i:=Int.pow_pos (by decide);have hd0:0<=x / 256 ^ i:=Int.ediv_nonneg h0 (by omega);have hd1:x / 256 ^ i<=x:=Int.ediv_le_self _ h0;have e0:x / 256 ^(i+1)=x / 256 ^ i / 256:=by rw [Int.pow_succ];exact(Int.ediv_ediv_of_nonneg (by omega)).symm
   simp only [gN];rw [if_pos (by omega),BP,e0];generalize x / 256 ^ i=d at hd0 hd1 ⊢;unfold Ks Kr;rw [if_pos (by decide),if_pos (by decide),Int.tmod_eq_emod_of_nonneg hd0,Int.tdiv_eq_ediv_of_nonneg hd0];simp only [zbS];rw [fL (by rw [bB];simp;unfold bO;omega),Fu,wrap_u64,dQ hi (by omega)];simp only [zbS];rw [Int.emod_emod_of_dvd d (by decide:(256:Int)∣ 256),show d / 256 % 18446744073709551616=d / 256 by omega]
  .simp only [gN];rw [if_neg (by omega)]
 rw [q];rfl
theorem pw{y:Int}(h:0<=y/\y<4294967296):ck (IntKind.u32.wrap y)=some (bts y 4):=by
 rw [uN,BT h,wrap_u64,Int.emod_eq_of_lt h.1 (by omega)]
 have:=Me (k:=4) h.1 (by omega) (by omega)
 rw [show((4:Nat):Int)=4 from rfl]at this;rw [this];rfl
theorem Hj{g:Int×Sl E3}(hs:okS 3 g.2)(hl:g.2.l.length<=65536):aR (eJ g) (0,0)=some (.inl (wtO g.2.l)):=by
 rw [show wtO g.2.l=wtO (g.2.l.take g.2.l.length)by rw [List.take_length]];refine eW g.2.l.length (λi=>(wtO (g.2.l.take i),(i:Int))) (by simp [wtO]) (λi hi=> ?_) ?_
 .simp only [eJ];rw [if_pos (by omega),eB hs hi];simp only [zbS];rw [dQ hi (by omega),List.take_succ_eq_append_getElem hi];by_cases h:g.2.l[i].2.2=1
  .rw [if_neg (by simp [h])]
   have:wtO (g.2.l.take i++ [g.2.l[i]])=wtO (g.2.l.take i):=by
    unfold wtO;rw [List.all_append,List.all_cons,List.all_nil,decide_eq_true h,Bool.and_self,Bool.and_true]
   rw [this]
  .rw [if_pos h]
   have:wtO (g.2.l.take i++ [g.2.l[i]])=1:=by
    unfold wtO;rw [List.all_append,List.all_cons,List.all_nil,decide_eq_false h,Bool.false_and,Bool.and_false];rfl
   rw [this]
 .simp only [eJ];rw [if_neg (by omega)]
theorem Hk{n:Int}{s:Sl E3}(hs:okS 3 s)(hl:s.l.length<=65536)(hn:n<=4096)(hin:∀e∈s.l,inM n n e=true/\wOk e=true)(wt:Int){H:List Int}(hH:H.length<=1000):
  aR (eK (n,s) wt) (H,0)=some (.inl (H++s.l.flatMap (fF wt))):=by
 rw [show s.l.flatMap (fF wt)=(s.l.take s.l.length).flatMap (fF wt)by rw [List.take_length]];refine eW s.l.length (λi=>(H++(s.l.take i).flatMap (fF wt),(i:Int))) (by simp) (λi hi=> ?_) ?_
 .have hb:=hin s.l[i] (List.getElem_mem hi);have hb2:0<=s.l[i].1/\s.l[i].1<n/\0<=s.l[i].2.1/\s.l[i].2.1<n:=of_decide_eq_true hb.1;have hb3:0<=s.l[i].2.2/\s.l[i].2.2<=2147483647:=of_decide_eq_true hb.2;have hlen:=qQ wt (s.l.take i);rw [List.length_take,Nat.min_eq_left (by omega)]at hlen;have hsz:=lr wt;have hle:szE wt*i<=12*i:=Nat.mul_le_mul_right _ hsz.2;simp only [eK];rw [if_pos (by omega),eB hs hi];simp only [zbS];rw [pw (by omega)];simp only [zbS];rw [fL (by rw [List.length_append,bB,hlen];unfold bO;omega)];simp only [zbS];rw [pw (by omega)];simp only [zbS];rw [fL (by rw [List.length_append,List.length_append,bB,bB,hlen];unfold bO;omega)];simp only [zbS];rw [dQ hi (by omega),List.take_succ_eq_append_getElem hi];by_cases hwt:wt=1
  .rw [if_pos hwt,pw (by omega)];simp only [zbS];rw [fL (by rw [List.length_append,List.length_append,List.length_append,bB,bB,bB,hlen];unfold bO;omega)];simp only [zbS,fF,if_pos hwt,List.flatMap_append,List.flatMap_cons,List.flatMap_nil,List.append_nil,List.append_assoc]
  .rw [if_neg hwt];simp only [fF,if_neg hwt,List.flatMap_append,List.flatMap_cons,List.flatMap_nil,List.append_nil,List.append_assoc]
 .simp only [eK];rw [if_neg (by omega)]
theorem Mf(a b:E3):cD a b=some (klt (key a) (key b)):=by
 rw [ll];unfold klt key;by_cases h:a.1<b.1
 .rw [if_pos h];simp [h]
 .rw [if_neg h];by_cases h2:a.1=b.1
  .rw [if_pos h2];simp [h2]
  .rw [if_neg h2];simp [h,h2]
theorem Mg{x:Sl E3}(hs:okS 3 x)(hn:x.l.length<=9223372036854775807):eU x=some (gm x.l):=by
 rw [uM]
 have H:=AZ (b:=fE x) hn (λj h0 hj=>by
  unfold fE;rw [if_pos (by omega),show IntKind.i64.wrap ((j:Int) - 1)=((j - 1:Nat):Int)by rw [wrap64 (by omega) (by omega)];omega,eB hs (by omega),eB hs hj];simp only [zbS,Mf,dQ hj hn]
  cases klt (key x.l[j - 1]) (key x.l[j])<;>rfl) (λj hj=>by
  unfold fE
  rw [if_neg (by omega)])
 rcases H with⟨h1,h2⟩|⟨h1,h2⟩
 .rw [h2,h1];rfl
 .rw [h2,h1];rfl
theorem BY{g:Gr}(hs:okS 3 g.2):eb g=some (nX g):=by
 obtain⟨n,s⟩:=g;rw [sL,xj hs];simp only [zbS];unfold nX;by_cases h:dB (n,s)=0
 .rw [if_neg (by simp [h]),if_pos h];obtain⟨⟨a1,a2⟩,a3,a4,a5⟩:=wrongG_iff.1 h;have a3:s.l.length<=65536:=a3;have a1:0<=n:=a1;have a2:n<=4096:=a2;rw [Mg hs (by omega)];simp only [zbS];by_cases hr:gm s.l=true
  .rw [if_neg (by simp [hr]),if_pos hr,Hj hs (by omega)];simp only [zbS,Sum.elim_inl];rw [fL (by simp;unfold bO;omega)];simp only [zbS];rw [pw (by omega)];simp only [zbS];rw [fL (by rw [List.length_append,bB];simp;unfold bO;omega)];simp only [zbS];rw [pw (by omega)];simp only [zbS];rw [fL (by rw [List.length_append,List.length_append,bB,bB];simp;unfold bO;omega)];simp only [zbS];rw [Hk hs a3 a2 (λe he=>⟨List.all_eq_true.1 a4 e he,List.all_eq_true.1 a5 e he⟩) _ (by rw [List.length_append,List.length_append,List.length_append,bB,bB];simp)];simp only [zbS,Sum.elim_inl,gv,List.append_assoc]
  .rw [if_pos hr,if_neg hr]
 .rw [if_pos h,if_neg h]
theorem JC{f:Nat->Int}{m p:Nat}{n wt:Int}{e:E3}{q:Nat}(h:dJ f m p n wt= .ok (e,q)):p+8<=q/\q<=m:=by
 unfold dJ at h;split at h
 .cases h
 .rename_i h1;have l1:=cC h1;split at h
  .cases h
  .rename_i h2;have l2:=cC h2;split at h
   .split at h
    .cases h
    .rename_i h3;have l3:=cC h3;cases h;omega
   .cases h;omega
theorem xV{f:Nat->Int}{m:Nat}{n wt:Int}:∀(k p:Nat) {l:List E3} {q:Nat},bP f m n wt k p= .ok (l,q)->p+8*l.length<=q
 |0,p,l,q,h=>by simp only [bP]at h;cases h;simp
 |k+1,p,l,q,h=>by
  simp only [bP]at h;split at h
  .cases h
  .rename_i h1;have l1:=JC h1;split at h
   .cases h
   .rename_i h2;have l2:=xV k _ h2;cases h;simp only [List.length_cons];omega
theorem DS{f:Nat->Int}{m:Nat}{n:Int}{l:List E3}(h:cY f m= .ok (n,l)):8*l.length<=m:=by
 unfold cY at h;split at h
 .cases h
 .rename_i y q h1;split at h
  .rename_i hq;cases h;unfold ez at h1;split at h1
   .split at h1
    .split at h1
     .split at h1
      .cases h1
      .split at h1
       .cases h1
       .split at h1
        .cases h1
        .split at h1
         .cases h1
         .rename_i h5
          have:=xV _ _ h5
          cases h1;omega
     .cases h1
    .cases h1
   .cases h1
  .cases h
theorem Fw(g:Gr):okS 1 (nX g).1:=by
 unfold nX;split
 .split
  .exact .inr rfl
  .exact .inl rfl
 .exact .inl rfl
end Ev
end
end Go.Proofs.YtoamaaicfjkmhaaGreat
