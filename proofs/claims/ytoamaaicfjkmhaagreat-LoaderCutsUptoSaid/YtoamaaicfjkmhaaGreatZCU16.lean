/- Texts of a claim, joined. -/
import Derived.Test.YtoamaaicfjkmhaaGreatZCU15
set_option linter.unusedVariables false
set_option linter.unusedSimpArgs false
namespace Go.Proofs.YtoamaaicfjkmhaaGreat
noncomputable section
namespace Ev
open Go Sm
theorem Ir{n:Int}{g:Nat->Int}:∀(k:Nat),(∀i,i<k->g i=n / 256 ^ i % 256)->le g k=n % 256 ^ k
 |0,_=>by simp [le,Int.emod_one]
 |k+1,h=>by
  rw [le,Ir k λi hi=>h i (by omega),h k (by omega)];have hp:(0:Int)<256 ^ k:=Int.pow_pos (by decide);have e1:(2:Int)^(8*k)=256 ^ k:=by rw [Int.pow_mul];rfl
  rw [e1];have e2:n /(256 ^ k*256)=n / 256 ^ k / 256:=(Int.ediv_ediv_of_nonneg (Int.le_of_lt hp)).symm;rw [Int.pow_succ];generalize (256:Int)^ k=M at hp e2 ⊢;rw [Int.emod_def n (M*256),e2,Int.emod_def n M,Int.emod_def (n / M) 256];generalize n / M / 256=q;generalize n / M=r;rw [Int.sub_mul,Int.mul_comm r M,Int.mul_comm 256 q,Int.mul_assoc q 256 M,Int.mul_comm 256 M,Int.mul_comm q (M*256)];omega
theorem oF{f:Nat->Int}{m:Nat}{B pre post:List Int}{n most e:Int}(hB:B=pre++(bts n 4++post))(hf:∀i,i<m->f i=B.getD i 0)(h0:0<=n)(h1:n<=most)(h2:most<=2147483647):
  aM f m pre.length most e=if pre.length+4<=m then .ok (n,pre.length+4)else .error (2,(m:Int)):=by
 unfold aM;by_cases h:pre.length+4<=m
 .have hl:le (λi=>f (pre.length+i)) 4=n:=by
   rw [Ir (n:=n) 4 λi hi=>by
    rw [hf _ (by omega),hB,List.getD_eq_getElem?_getD,List.getElem?_append_right (by omega),Nat.add_sub_cancel_left,List.getElem?_append_left (by rw [cF];exact hi),OS _ _ _ hi]
    rfl]
   omega
  rw [if_pos h,if_pos h,hl,if_neg (by omega)]
 .rw [if_neg h,if_neg h]
theorem It{f:Nat->Int}{m k:Nat}{B A post:List Int}(hB:B=A++post)(hf:∀i,i<m->f i=B.getD i 0)(hk:A.length=k)(hm:k<=m):dB f 0 k=A:=by
 unfold dB;apply List.ext_getElem?;intro i;simp only [List.getElem?_map];by_cases h:i<k
 .rw [List.getElem?_range h];simp only [Option.map_some,Nat.zero_add];rw [hf i (by omega),hB,List.getD_eq_getElem?_getD,List.getElem?_append_left (by omega)];rw [List.getElem?_eq_getElem (by omega)];rfl
 .rw [List.getElem?_eq_none (by simpa using h),List.getElem?_eq_none (by omega)];rfl
end Ev
end
noncomputable section
namespace Ev
open Go Sm
end Ev
end
noncomputable section
namespace Ev
open Go Sm
end Ev
end
noncomputable section
namespace Ev
open Go Sm
theorem Iu{z:Sl Int}(h:K.W (.S (.I .u8)) z):okS 1 z/\(∀e∈z.l,0<=e/\e<=255)/\(z.l.length<=100000->Sm.Be.okY z=true):=by
 have hb:∀e∈z.l,0<=e/\e<=255:=λe he=>by
  have:inK .u8 e:=h.2.2.2 e he
  simpa [inK,Lit.wf,IntKind.min,IntKind.max,IntKind.signed,IntKind.bits]using this
 refine⟨.inr h.1,hb,λhl=> ?_⟩;simp only [Sm.Be.okY,Bool.and_eq_true,Bool.or_eq_true,decide_eq_true_eq,List.isEmpty_iff,List.all_eq_true];exact⟨hl,hb,.inl h.1⟩
theorem Iv{α:Type}{g:α->List Int}(hg:∀a,∀e∈g a,0<=e/\e<=255)(l:List α):∀e∈l.flatMap g,0<=e/\e<=255:=λe he=>by
 obtain⟨a,_,h⟩:=List.mem_flatMap.1 he;exact hg a e h
theorem Iw{L:List Int}(h:∀e∈L,0<=e/\e<=255)(hl:L.length<=100000):Sm.Be.okY ⟨true,1,L⟩=true:=by
 simp only [Sm.Be.okY,Bool.and_eq_true,Bool.or_eq_true,decide_eq_true_eq,List.isEmpty_iff,List.all_eq_true];exact⟨hl,h,.inl trivial⟩
end Ev
end
noncomputable section
namespace Ev
open Go Sm
def wtO(l:List E3):Int:=if l.all (λe=>decide (e.2.2=1))=true then 0 else 1
def gT(wt:Int)(e:E3):List Int:=bts e.1 4++(bts e.2.1 4++(if wt=1 then bts e.2.2 4 else []))
def eS(n:Int)(l:List E3):List Int:= [70,82,84,49]++([wtO l]++(bts n 4++(bts (l.length:Int) 4++l.flatMap (gT (wtO l)))))
def szE(wt:Int):Nat:=if wt=1 then 12 else 8
theorem Ix(l:List E3):wtO l=0∨wtO l=1:=by unfold wtO;split<;>simp
theorem Qz{l:List E3}(h:¬wtO l=1):∀e∈l,e.2.2=1:=by
 unfold wtO at h;split at h
 .rename_i hq;exact λe he=>of_decide_eq_true (List.all_eq_true.1 hq e he)
 .exact absurd rfl h
theorem AI(wt:Int)(e:E3):(gT wt e).length=szE wt:=by
 unfold gT szE;split<;>simp [cF]
theorem wP(wt:Int)(l:List E3):(l.flatMap (gT wt)).length=szE wt*l.length:=by
 induction l with
 |nil=>rfl
 |cons a r ih=>rw [List.flatMap_cons,List.length_append,AI,ih,List.length_cons,Nat.mul_add];omega
theorem tQ(n:Int)(l:List E3):(eS n l).length=13+szE (wtO l)*l.length:=by
 simp only [eS,List.length_append,cF,wP,List.length_cons,List.length_nil];omega
theorem qo(wt:Int):8<=szE wt/\szE wt<=12:=by unfold szE;split<;>omega
theorem Iy{f:Nat->Int}{m:Nat}{B pre post:List Int}{n wt:Int}{e:E3}(hB:B=pre++(gT wt e++post))(hf:∀i,i<m->f i=B.getD i 0)(hn:n<=4096)(he:inM n n e=true)(hw:wOk e=true)(h1:¬wt=1->e.2.2=1):
  dj f m pre.length n wt=if pre.length+szE wt<=m then .ok (e,pre.length+szE wt)else .error (2,(m:Int)):=by
 have he2:0<=e.1/\e.1<n/\0<=e.2.1/\e.2.1<n:=of_decide_eq_true he;have hw2:0<=e.2.2/\e.2.2<=2147483647:=of_decide_eq_true hw;have n1:=oF (pre:=pre) (most:=n - 1) (e:=3) (post:=bts e.2.1 4++((if wt=1 then bts e.2.2 4 else [])++post)) (by rw [hB,gT];simp only [List.append_assoc]) hf he2.1 (by omega) (by omega);have n2:=oF (pre:=pre++bts e.1 4) (most:=n - 1) (e:=3) (post:=(if wt=1 then bts e.2.2 4 else [])++post) (by rw [hB,gT];simp only [List.append_assoc]) hf he2.2.2.1 (by omega) (by omega);simp only [List.length_append,cF]at n2;unfold dj;rw [n1];by_cases c1:pre.length+4<=m
 .rw [if_pos c1];dsimp only;rw [n2];by_cases c2:pre.length+4+4<=m
  .rw [if_pos c2];dsimp only;by_cases hwt:wt=1
   .rw [if_pos hwt];have n3:=oF (pre:=pre++(bts e.1 4++bts e.2.1 4)) (most:=2147483647) (e:=7) (post:=post) (by rw [hB,gT,if_pos hwt];simp only [List.append_assoc]) hf hw2.1 hw2.2 (by omega);simp only [List.length_append,cF]at n3
    have n3:aM f m (pre.length+4+4) 2147483647 7=if pre.length+4+4+4<=m then .ok (e.2.2,pre.length+4+4+4)else .error (2,(m:Int)):=n3
    have hs:szE wt=12:=by unfold szE;rw [if_pos hwt]
    rw [n3,hs];by_cases c3:pre.length+4+4+4<=m
    .rw [if_pos c3,if_pos (show pre.length+12<=m by omega)]
    .rw [if_neg c3,if_neg (show¬pre.length+12<=m by omega)]
   .have hs:szE wt=8:=by unfold szE;rw [if_neg hwt]
    rw [if_neg hwt,hs,if_pos (show pre.length+8<=m by omega),<-h1 hwt]
  .have:=qo wt
   rw [if_neg c2,if_neg (by omega)]
 .have:=qo wt
  rw [if_neg c1,if_neg (by omega)]
theorem wQ{f:Nat->Int}{m:Nat}{B post:List Int}{n wt:Int}(hf:∀i,i<m->f i=B.getD i 0)(hn:n<=4096):∀(l:List E3) (pre:List Int),B=pre++(l.flatMap (gT wt)++post)->(∀e∈l,inM n n e=true/\wOk e=true/\(¬wt=1->e.2.2=1))->pre.length<=m->
  aW f m n wt l.length pre.length=if pre.length+szE wt*l.length<=m then .ok (l,pre.length+szE wt*l.length)else .error (2,(m:Int))
 | [],pre,_,_,hm=>by simp [aW,hm]
 |e::r,pre,hB,hl,hm=>by
  have he:=hl e List.mem_cons_self;have h1:=Iy (pre:=pre) (post:=r.flatMap (gT wt)++post) (by rw [hB];simp only [List.flatMap_cons,List.append_assoc]) hf hn he.1 he.2.1 he.2.2;have el:(pre++gT wt e).length=pre.length+szE wt:=by rw [List.length_append,AI]
  simp only [List.length_cons,aW];rw [h1];have hmul:szE wt*(r.length+1)=szE wt+szE wt*r.length:=by rw [Nat.mul_add];omega
  rw [hmul];by_cases h:pre.length+szE wt<=m
  .rw [if_pos h];dsimp only;have h2:=wQ (post:=post) (n:=n) (wt:=wt) hf hn r (pre++gT wt e) (by rw [hB];simp only [List.flatMap_cons,List.append_assoc]) (λz hz=>hl z (List.mem_cons_of_mem _ hz)) (by rw [el];exact h);rw [el]at h2;rw [h2];by_cases h3:pre.length+szE wt+szE wt*r.length<=m
   .rw [if_pos h3];dsimp only;rw [if_pos (by omega)];exact congrArg (λq=>Except.ok (e::r,q)) (Nat.add_assoc _ _ _)
   .rw [if_neg h3];dsimp only;rw [if_neg (by omega)]
  .rw [if_neg h,if_neg (by omega)]
theorem Gb{f:Nat->Int}{m:Nat}{post:List Int}{n:Int}{l:List E3}(hf:∀i,i<m->f i=(eS n l++post).getD i 0)(hn0:0<=n)(hn:n<=4096)(hl:l.length<=65536)(hin:∀e∈l,inM n n e=true/\wOk e=true):
  eD f m=if 13+szE (wtO l)*l.length<=m then .ok ((n,l),13+szE (wtO l)*l.length)else .error (2,(m:Int)):=by
 unfold eD;have hw0:=Qz (l:=l);have hw1:=Ix l;by_cases h4:4<=m
 .rw [if_pos h4];have e0:=It (k:=4) (A:= [70,82,84,49]) (B:=eS n l++post) (post:=([wtO l]++(bts n 4++(bts (l.length:Int) 4++l.flatMap (gT (wtO l)))))++post) (by rw [eS,List.append_assoc]) hf rfl h4;rw [e0,if_pos (by rfl)];by_cases h5:5<=m
  .have f4:f 4=wtO l:=by
    rw [hf 4 (by omega),eS];rfl
   rw [if_pos h5,f4,if_neg (by omega)];have n2:=oF (pre:= [70,82,84,49]++ [wtO l]) (n:=n) (most:=4096) (e:=5) (post:=bts (l.length:Int) 4++(l.flatMap (gT (wtO l))++post)) (B:=eS n l++post) (by rw [eS];simp only [List.append_assoc]) hf hn0 hn (by omega);have n3:=oF (pre:= [70,82,84,49]++([wtO l]++bts n 4)) (n:=(l.length:Int)) (most:=65536) (e:=5) (post:=l.flatMap (gT (wtO l))++post) (B:=eS n l++post) (by rw [eS];simp only [List.append_assoc]) hf (by omega) (by omega) (by omega);have n4:=wQ (post:=post) (n:=n) (wt:=wtO l) hf hn l ([70,82,84,49]++([wtO l]++(bts n 4++bts (l.length:Int) 4))) (by rw [eS];simp only [List.append_assoc]) (λe he=>⟨(hin e he).1,(hin e he).2,λh=>hw0 h e he⟩);simp only [List.length_append,cF,List.length_cons,List.length_nil,Nat.reduceAdd]at n2 n3 n4;rw [n2];by_cases h2:9<=m
   .rw [if_pos h2];dsimp only;rw [n3];by_cases h3:13<=m
    .rw [if_pos h3];dsimp only;rw [Int.toNat_natCast,n4 h3];by_cases h6:13+szE (wtO l)*l.length<=m
     .rw [if_pos h6,if_pos h6]
     .rw [if_neg h6,if_neg h6]
    .rw [if_neg h3,if_neg (by omega)]
   .rw [if_neg h2,if_neg (by omega)]
  .rw [if_neg h5,if_neg (by omega)]
 .rw [if_neg h4,if_neg (by omega)]
theorem wrongG_iff{g:Gr}:gS g=0↔(0<=g.1/\g.1<=4096)/\g.2.l.length<=65536/\g.2.l.all (inM g.1 g.1)=true/\g.2.l.all wOk=true:=by
 unfold gS;constructor
 .intro hw;split at hw<;>(try (exact absurd hw (by decide)));split at hw<;>(try (exact absurd hw (by decide)));split at hw<;>(try (exact absurd hw (by decide)));split at hw<;>(try (exact absurd hw (by decide)));split at hw<;>(try (exact absurd hw (by decide)));rename_i h1 h2 h3 h4 h5;exact⟨⟨by omega,by omega⟩,by omega,h4,h5⟩
 .rintro⟨⟨h1,h2⟩,h3,h4,h5⟩;rw [if_neg (by omega),if_neg (by omega),if_neg (by omega),if_pos h4,if_pos h5]
theorem tR{f:Nat->Int}{m:Nat}{post:List Int}{n:Int}{s:Sl E3}(hf:∀i,i<m->f i=(eS n s.l++post).getD i 0)(hw:gS (n,s)=0):
  cg f m=if 13+szE (wtO s.l)*s.l.length<=m then(if 13+szE (wtO s.l)*s.l.length=m then .ok (n,s.l)else .error (4,((13+szE (wtO s.l)*s.l.length:Nat):Int)))else .error (2,(m:Int)):=by
 obtain⟨⟨a1,a2⟩,a3,a4,a5⟩:=wrongG_iff.1 hw;have h:=Gb hf a1 a2 a3 (λe he=>⟨List.all_eq_true.1 a4 e he,List.all_eq_true.1 a5 e he⟩);unfold cg;rw [h];by_cases c:13+szE (wtO s.l)*s.l.length<=m
 .rw [if_pos c,if_pos c]
 .rw [if_neg c,if_neg c]
def Gc(g:Gr):Sl Int×Int:=if gS g=0 then if iU g.2.l=true then(⟨true,1,eS g.1 g.2.l⟩,0)else(⟨false,0,[]⟩,6)else(⟨false,0,[]⟩,gS g)
theorem Iz(wt:Int)(e:E3):∀z∈gT wt e,0<=z/\z<=255:=λz hz=>by
 unfold gT at hz;rcases List.mem_append.1 hz with hz|hz
 .exact oE hz
 .rcases List.mem_append.1 hz with hz|hz
  .exact oE hz
  .split at hz
   .exact oE hz
   .simp at hz
theorem AJ(n:Int)(l:List E3):∀e∈eS n l,0<=e/\e<=255:=λe he=>by
 unfold eS at he;rcases List.mem_append.1 he with he|he
 .simp at he;omega
 .rcases List.mem_append.1 he with he|he
  .have:=Ix l;simp at he;omega
  .rcases List.mem_append.1 he with he|he
   .exact oE he
   .rcases List.mem_append.1 he with he|he
    .exact oE he
    .exact Iv (Iz _) l e he
theorem AK{z:Sl Int}(hz:Sm.Be.okY z=true){er:Int×Int}(h:cg (Sm.Be.gf z) z.l.length= .error er):bY z=some ((0,⟨false,0,[]⟩),er):=by
 show Sm.Dc.fn z=_;unfold Sm.Dc.fn;rw [if_pos hz,h]
theorem KX{z:Sl Int}(hz:Sm.Be.okY z=true){n:Int}{l:List E3}(h:cg (Sm.Be.gf z) z.l.length= .ok (n,l)):bY z=some ((n,Sm.Dc.canonS l),(0,0)):=by
 show Sm.Dc.fn z=_;unfold Sm.Dc.fn;rw [if_pos hz,h]
end Ev
end
noncomputable section
namespace Ev
open Go Sm
theorem KY{x:Int}{k:Nat}(h0:0<=x)(h1:x<18446744073709551616)(hk:k<=8):gH x (k:Int)=some (bts x k):=by
 rw [yJ]
 have q:bO (gy (k:Int)) (x,[],0)=some (.inl (bts x k)):=by
  refine iZ k (λi=>(x / 256 ^ i,bts x i,(i:Int))) (by simp [bts]) (λi hi=> ?_) ?_
  .have hp:(0:Int)<256 ^ i:=Int.pow_pos (by decide);have hd0:0<=x / 256 ^ i:=Int.ediv_nonneg h0 (by omega);have hd1:x / 256 ^ i<=x:=Int.ediv_le_self _ h0;have e0:x / 256 ^(i+1)=x / 256 ^ i / 256:=by rw [Int.pow_succ];exact(Int.ediv_ediv_of_nonneg (by omega)).symm
   simp only [gy];rw [if_pos (by omega),Ip,e0];generalize x / 256 ^ i=d at hd0 hd1 ⊢;unfold yX Jo;rw [if_pos (by decide),if_pos (by decide),Int.tmod_eq_emod_of_nonneg hd0,Int.tdiv_eq_ediv_of_nonneg hd0];simp only [zbS];rw [gX (by rw [cF];simp;unfold ct;omega),KU,wrap_u64,gY hi (by omega)];simp only [zbS];rw [Int.emod_emod_of_dvd d (by decide:(256:Int)∣ 256),show d / 256 % 18446744073709551616=d / 256 by omega]
  .simp only [gy];rw [if_neg (by omega)]
 rw [q];rfl
theorem oG{y:Int}(h:0<=y/\y<4294967296):cz (IntKind.u32.wrap y)=some (bts y 4):=by
 rw [tM,Iq h,wrap_u64,Int.emod_eq_of_lt h.1 (by omega)]
 have:=KY (k:=4) h.1 (by omega) (by omega)
 rw [show((4:Nat):Int)=4 from rfl]at this;rw [this];rfl
theorem Gd{g:Int×Sl E3}(hs:okS 3 g.2)(hl:g.2.l.length<=65536):bO (eO g) (0,0)=some (.inl (wtO g.2.l)):=by
 rw [show wtO g.2.l=wtO (g.2.l.take g.2.l.length)by rw [List.take_length]];refine iZ g.2.l.length (λi=>(wtO (g.2.l.take i),(i:Int))) (by simp [wtO]) (λi hi=> ?_) ?_
 .simp only [eO];rw [if_pos (by omega),iF hs hi];simp only [zbS];rw [gY hi (by omega),List.take_succ_eq_append_getElem hi];by_cases h:g.2.l[i].2.2=1
  .rw [if_neg (by simp [h])]
   have:wtO (g.2.l.take i++ [g.2.l[i]])=wtO (g.2.l.take i):=by
    unfold wtO;rw [List.all_append,List.all_cons,List.all_nil,decide_eq_true h,Bool.and_self,Bool.and_true]
   rw [this]
  .rw [if_pos h]
   have:wtO (g.2.l.take i++ [g.2.l[i]])=1:=by
    unfold wtO;rw [List.all_append,List.all_cons,List.all_nil,decide_eq_false h,Bool.false_and,Bool.and_false];rfl
   rw [this]
 .simp only [eO];rw [if_neg (by omega)]
theorem Ge{n:Int}{s:Sl E3}(hs:okS 3 s)(hl:s.l.length<=65536)(hn:n<=4096)(hin:∀e∈s.l,inM n n e=true/\wOk e=true)(wt:Int){H:List Int}(hH:H.length<=1000):
  bO (eP (n,s) wt) (H,0)=some (.inl (H++s.l.flatMap (gT wt))):=by
 rw [show s.l.flatMap (gT wt)=(s.l.take s.l.length).flatMap (gT wt)by rw [List.take_length]];refine iZ s.l.length (λi=>(H++(s.l.take i).flatMap (gT wt),(i:Int))) (by simp) (λi hi=> ?_) ?_
 .have hb:=hin s.l[i] (List.getElem_mem hi);have hb2:0<=s.l[i].1/\s.l[i].1<n/\0<=s.l[i].2.1/\s.l[i].2.1<n:=of_decide_eq_true hb.1;have hb3:0<=s.l[i].2.2/\s.l[i].2.2<=2147483647:=of_decide_eq_true hb.2;have hlen:=wP wt (s.l.take i);rw [List.length_take,Nat.min_eq_left (by omega)]at hlen;have hsz:=qo wt;have hle:szE wt*i<=12*i:=Nat.mul_le_mul_right _ hsz.2;simp only [eP];rw [if_pos (by omega),iF hs hi];simp only [zbS];rw [oG (by omega)];simp only [zbS];rw [gX (by rw [List.length_append,cF,hlen];unfold ct;omega)];simp only [zbS];rw [oG (by omega)];simp only [zbS];rw [gX (by rw [List.length_append,List.length_append,cF,cF,hlen];unfold ct;omega)];simp only [zbS];rw [gY hi (by omega),List.take_succ_eq_append_getElem hi];by_cases hwt:wt=1
  .rw [if_pos hwt,oG (by omega)];simp only [zbS];rw [gX (by rw [List.length_append,List.length_append,List.length_append,cF,cF,cF,hlen];unfold ct;omega)];simp only [zbS,gT,if_pos hwt,List.flatMap_append,List.flatMap_cons,List.flatMap_nil,List.append_nil,List.append_assoc]
  .rw [if_neg hwt];simp only [gT,if_neg hwt,List.flatMap_append,List.flatMap_cons,List.flatMap_nil,List.append_nil,List.append_assoc]
 .simp only [eP];rw [if_neg (by omega)]
theorem KZ(a b:E3):cJ a b=some (klt (key a) (key b)):=by
 rw [jY];unfold klt key;by_cases h:a.1<b.1
 .rw [if_pos h];simp [h]
 .rw [if_neg h];by_cases h2:a.1=b.1
  .rw [if_pos h2];simp [h2]
  .rw [if_neg h2];simp [h,h2]
theorem La{x:Sl E3}(hs:okS 3 x)(hn:x.l.length<=9223372036854775807):eW x=some (iU x.l):=by
 rw [tL]
 have H:=zY (b:=fy x) hn (λj h0 hj=>by
  unfold fy;rw [if_pos (by omega),show IntKind.i64.wrap ((j:Int) - 1)=((j - 1:Nat):Int)by rw [wrap64 (by omega) (by omega)];omega,iF hs (by omega),iF hs hj];simp only [zbS,KZ,gY hj hn]
  cases klt (key x.l[j - 1]) (key x.l[j])<;>rfl) (λj hj=>by
  unfold fy
  rw [if_neg (by omega)])
 rcases H with⟨h1,h2⟩|⟨h1,h2⟩
 .rw [h2,h1];rfl
 .rw [h2,h1];rfl
theorem AL{g:Gr}(hs:okS 3 g.2):ew g=some (Gc g):=by
 obtain⟨n,s⟩:=g;rw [rR,vV hs];simp only [zbS];unfold Gc;by_cases h:gS (n,s)=0
 .rw [if_neg (by simp [h]),if_pos h];obtain⟨⟨a1,a2⟩,a3,a4,a5⟩:=wrongG_iff.1 h;have a3:s.l.length<=65536:=a3;have a1:0<=n:=a1;have a2:n<=4096:=a2;rw [La hs (by omega)];simp only [zbS];by_cases hr:iU s.l=true
  .rw [if_neg (by simp [hr]),if_pos hr,Gd hs (by omega)];simp only [zbS,Sum.elim_inl];rw [gX (by simp;unfold ct;omega)];simp only [zbS];rw [oG (by omega)];simp only [zbS];rw [gX (by rw [List.length_append,cF];simp;unfold ct;omega)];simp only [zbS];rw [oG (by omega)];simp only [zbS];rw [gX (by rw [List.length_append,List.length_append,cF,cF];simp;unfold ct;omega)];simp only [zbS];rw [Ge hs a3 a2 (λe he=>⟨List.all_eq_true.1 a4 e he,List.all_eq_true.1 a5 e he⟩) _ (by rw [List.length_append,List.length_append,List.length_append,cF,cF];simp)];simp only [zbS,Sum.elim_inl,eS,List.append_assoc]
  .rw [if_pos hr,if_neg hr]
 .rw [if_pos h,if_neg h]
end Ev
end
end Go.Proofs.YtoamaaicfjkmhaaGreat
