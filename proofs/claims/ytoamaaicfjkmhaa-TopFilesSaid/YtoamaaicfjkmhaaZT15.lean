/- Texts of a claim, joined. -/
import Derived.Test.YtoamaaicfjkmhaaZT14
set_option linter.unusedVariables false
set_option linter.unusedSimpArgs false
namespace Go.Proofs.Ytoamaaicfjkmhaa
noncomputable section
namespace Ev
open Go Sm
def wtO(l:List E3):Int:=if l.all (λe=>decide (e.2.2=1))=true then 0 else 1
def gS(wt:Int)(e:E3):List Int:=bts e.1 4++(bts e.2.1 4++(if wt=1 then bts e.2.2 4 else []))
def ib(n:Int)(l:List E3):List Int:= [70,82,84,49]++([wtO l]++(bts n 4++(bts (l.length:Int) 4++l.flatMap (gS (wtO l)))))
def szE(wt:Int):Nat:=if wt=1 then 12 else 8
theorem BS(l:List E3):wtO l=0∨wtO l=1:=by unfold wtO;split<;>simp
theorem OW{l:List E3}(h:¬wtO l=1):∀e∈l,e.2.2=1:=by
 unfold wtO at h;split at h
 .rename_i hq;exact λe he=>of_decide_eq_true (List.all_eq_true.1 hq e he)
 .exact absurd rfl h
theorem zX(wt:Int)(e:E3):(gS wt e).length=szE wt:=by
 unfold gS szE;split<;>simp [fx]
theorem wy(wt:Int)(l:List E3):(l.flatMap (gS wt)).length=szE wt*l.length:=by
 induction l with
 |nil=>rfl
 |cons a r ih=>rw [List.flatMap_cons,List.length_append,zX,ih,List.length_cons,Nat.mul_add];omega
theorem oo(n:Int)(l:List E3):(ib n l).length=13+szE (wtO l)*l.length:=by
 simp only [ib,List.length_append,fx,wy,List.length_cons,List.length_nil];omega
theorem tD(wt:Int):8<=szE wt/\szE wt<=12:=by unfold szE;split<;>omega
theorem HD{f:Nat->Int}{m:Nat}{B pre post:List Int}{n wt:Int}{e:E3}(hB:B=pre++(gS wt e++post))(hf:∀i,i<m->f i=B.getD i 0)(hn:n<=4096)(he:inM n n e=true)(hw:wOk e=true)(h1:¬wt=1->e.2.2=1):
  eb f m pre.length n wt=if pre.length+szE wt<=m then .ok (e,pre.length+szE wt)else .error (2,(m:Int)):=by
 have he2:0<=e.1/\e.1<n/\0<=e.2.1/\e.2.1<n:=of_decide_eq_true he;have hw2:0<=e.2.2/\e.2.2<=2147483647:=of_decide_eq_true hw;have n1:=om (pre:=pre) (most:=n - 1) (e:=3) (post:=bts e.2.1 4++((if wt=1 then bts e.2.2 4 else [])++post)) (by rw [hB,gS];simp only [List.append_assoc]) hf he2.1 (by omega) (by omega);have n2:=om (pre:=pre++bts e.1 4) (most:=n - 1) (e:=3) (post:=(if wt=1 then bts e.2.2 4 else [])++post) (by rw [hB,gS];simp only [List.append_assoc]) hf he2.2.2.1 (by omega) (by omega);simp only [List.length_append,fx]at n2;unfold eb;rw [n1];by_cases c1:pre.length+4<=m
 .rw [if_pos c1];dsimp only;rw [n2];by_cases c2:pre.length+4+4<=m
  .rw [if_pos c2];dsimp only;by_cases hwt:wt=1
   .rw [if_pos hwt];have n3:=om (pre:=pre++(bts e.1 4++bts e.2.1 4)) (most:=2147483647) (e:=7) (post:=post) (by rw [hB,gS,if_pos hwt];simp only [List.append_assoc]) hf hw2.1 hw2.2 (by omega);simp only [List.length_append,fx]at n3
    have n3:eB f m (pre.length+4+4) 2147483647 7=if pre.length+4+4+4<=m then .ok (e.2.2,pre.length+4+4+4)else .error (2,(m:Int)):=n3
    have hs:szE wt=12:=by unfold szE;rw [if_pos hwt]
    rw [n3,hs];by_cases c3:pre.length+4+4+4<=m
    .rw [if_pos c3,if_pos (show pre.length+12<=m by omega)]
    .rw [if_neg c3,if_neg (show¬pre.length+12<=m by omega)]
   .have hs:szE wt=8:=by unfold szE;rw [if_neg hwt]
    rw [if_neg hwt,hs,if_pos (show pre.length+8<=m by omega),<-h1 hwt]
  .have:=tD wt
   rw [if_neg c2,if_neg (by omega)]
 .have:=tD wt
  rw [if_neg c1,if_neg (by omega)]
theorem wz{f:Nat->Int}{m:Nat}{B post:List Int}{n wt:Int}(hf:∀i,i<m->f i=B.getD i 0)(hn:n<=4096):∀(l:List E3) (pre:List Int),B=pre++(l.flatMap (gS wt)++post)->(∀e∈l,inM n n e=true/\wOk e=true/\(¬wt=1->e.2.2=1))->pre.length<=m->
  ce f m n wt l.length pre.length=if pre.length+szE wt*l.length<=m then .ok (l,pre.length+szE wt*l.length)else .error (2,(m:Int))
 | [],pre,_,_,hm=>by simp [ce,hm]
 |e::r,pre,hB,hl,hm=>by
  have he:=hl e List.mem_cons_self;have h1:=HD (pre:=pre) (post:=r.flatMap (gS wt)++post) (by rw [hB];simp only [List.flatMap_cons,List.append_assoc]) hf hn he.1 he.2.1 he.2.2;have el:(pre++gS wt e).length=pre.length+szE wt:=by rw [List.length_append,zX]
  simp only [List.length_cons,ce];rw [h1];have hmul:szE wt*(r.length+1)=szE wt+szE wt*r.length:=by rw [Nat.mul_add];omega
  rw [hmul];by_cases h:pre.length+szE wt<=m
  .rw [if_pos h];dsimp only;have h2:=wz (post:=post) (n:=n) (wt:=wt) hf hn r (pre++gS wt e) (by rw [hB];simp only [List.flatMap_cons,List.append_assoc]) (λz hz=>hl z (List.mem_cons_of_mem _ hz)) (by rw [el];exact h);rw [el]at h2;rw [h2];by_cases h3:pre.length+szE wt+szE wt*r.length<=m
   .rw [if_pos h3];dsimp only;rw [if_pos (by omega)];exact congrArg (λq=>Except.ok (e::r,q)) (Nat.add_assoc _ _ _)
   .rw [if_neg h3];dsimp only;rw [if_neg (by omega)]
  .rw [if_neg h,if_neg (by omega)]
theorem Fk{f:Nat->Int}{m:Nat}{post:List Int}{n:Int}{l:List E3}(hf:∀i,i<m->f i=(ib n l++post).getD i 0)(hn0:0<=n)(hn:n<=4096)(hl:l.length<=65536)(hin:∀e∈l,inM n n e=true/\wOk e=true):
  eC f m=if 13+szE (wtO l)*l.length<=m then .ok ((n,l),13+szE (wtO l)*l.length)else .error (2,(m:Int)):=by
 unfold eC;have hw0:=OW (l:=l);have hw1:=BS l;by_cases h4:4<=m
 .rw [if_pos h4];have e0:=Hx (k:=4) (A:= [70,82,84,49]) (B:=ib n l++post) (post:=([wtO l]++(bts n 4++(bts (l.length:Int) 4++l.flatMap (gS (wtO l)))))++post) (by rw [ib,List.append_assoc]) hf rfl h4;rw [e0,if_pos (by rfl)];by_cases h5:5<=m
  .have f4:f 4=wtO l:=by
    rw [hf 4 (by omega),ib];rfl
   rw [if_pos h5,f4,if_neg (by omega)];have n2:=om (pre:= [70,82,84,49]++ [wtO l]) (n:=n) (most:=4096) (e:=5) (post:=bts (l.length:Int) 4++(l.flatMap (gS (wtO l))++post)) (B:=ib n l++post) (by rw [ib];simp only [List.append_assoc]) hf hn0 hn (by omega);have n3:=om (pre:= [70,82,84,49]++([wtO l]++bts n 4)) (n:=(l.length:Int)) (most:=65536) (e:=5) (post:=l.flatMap (gS (wtO l))++post) (B:=ib n l++post) (by rw [ib];simp only [List.append_assoc]) hf (by omega) (by omega) (by omega);have n4:=wz (post:=post) (n:=n) (wt:=wtO l) hf hn l ([70,82,84,49]++([wtO l]++(bts n 4++bts (l.length:Int) 4))) (by rw [ib];simp only [List.append_assoc]) (λe he=>⟨(hin e he).1,(hin e he).2,λh=>hw0 h e he⟩);simp only [List.length_append,fx,List.length_cons,List.length_nil,Nat.reduceAdd]at n2 n3 n4;rw [n2];by_cases h2:9<=m
   .rw [if_pos h2];dsimp only;rw [n3];by_cases h3:13<=m
    .rw [if_pos h3];dsimp only;rw [Int.toNat_natCast,n4 h3];by_cases h6:13+szE (wtO l)*l.length<=m
     .rw [if_pos h6,if_pos h6]
     .rw [if_neg h6,if_neg h6]
    .rw [if_neg h3,if_neg (by omega)]
   .rw [if_neg h2,if_neg (by omega)]
  .rw [if_neg h5,if_neg (by omega)]
 .rw [if_neg h4,if_neg (by omega)]
theorem wrongG_iff{g:Gr}:eF g=0↔(0<=g.1/\g.1<=4096)/\g.2.l.length<=65536/\g.2.l.all (inM g.1 g.1)=true/\g.2.l.all wOk=true:=by
 unfold eF;constructor
 .intro hw;split at hw<;>(try (exact absurd hw (by decide)));split at hw<;>(try (exact absurd hw (by decide)));split at hw<;>(try (exact absurd hw (by decide)));split at hw<;>(try (exact absurd hw (by decide)));split at hw<;>(try (exact absurd hw (by decide)));rename_i h1 h2 h3 h4 h5;exact⟨⟨by omega,by omega⟩,by omega,h4,h5⟩
 .rintro⟨⟨h1,h2⟩,h3,h4,h5⟩;rw [if_neg (by omega),if_neg (by omega),if_neg (by omega),if_pos h4,if_pos h5]
theorem BT{f:Nat->Int}{m:Nat}{post:List Int}{n:Int}{s:Sl E3}(hf:∀i,i<m->f i=(ib n s.l++post).getD i 0)(hw:eF (n,s)=0):
  ew f m=if 13+szE (wtO s.l)*s.l.length<=m then(if 13+szE (wtO s.l)*s.l.length=m then .ok (n,s.l)else .error (4,((13+szE (wtO s.l)*s.l.length:Nat):Int)))else .error (2,(m:Int)):=by
 obtain⟨⟨a1,a2⟩,a3,a4,a5⟩:=wrongG_iff.1 hw;have h:=Fk hf a1 a2 a3 (λe he=>⟨List.all_eq_true.1 a4 e he,List.all_eq_true.1 a5 e he⟩);unfold ew;rw [h];by_cases c:13+szE (wtO s.l)*s.l.length<=m
 .rw [if_pos c,if_pos c]
 .rw [if_neg c,if_neg c]
theorem HF{s:Sl E3}(hs:okS 3 s)(hl:s.l.length<=65536):de s=some (wtO s.l):=by
 rw [pQ];unfold wtO
 rcases tw (l:=s.l) (b:=dQ s) (λe=>decide (e.2.2=1)) (λ_=>1) (λj hj=>by
  unfold dQ;rw [if_pos (by omega),iA hs hj];simp only [zbS];rw [jg hj (by omega)];by_cases h:s.l[j].2.2=1
  .rw [if_neg (by simp [h]),if_pos (decide_eq_true h)]
  .rw [if_pos h,if_neg (by simp [h])]) (by unfold dQ;rw [if_neg (by omega)])with⟨a,q⟩|⟨a,j,q⟩
 .rw [q,if_pos a];rfl
 .rw [q,if_neg (by rw [a];decide)];rfl
theorem Fl{n:Int}{s:Sl E3}(hs:okS 3 s)(hl:s.l.length<=65536)(hn:n<=4096)(hin:∀e∈s.l,inM n n e=true/\wOk e=true)(wt:Int){H:List Int}(hH:H.length<=1000):
  bu (dS (n,s) wt) (H,0)=some (.inl (H++s.l.flatMap (gS wt))):=by
 rw [show s.l.flatMap (gS wt)=(s.l.take s.l.length).flatMap (gS wt)by rw [List.take_length]];refine lk s.l.length (λi=>(H++(s.l.take i).flatMap (gS wt),(i:Int))) (by simp) (λi hi=> ?_) ?_
 .have hb:=hin s.l[i] (List.getElem_mem hi);have hb2:0<=s.l[i].1/\s.l[i].1<n/\0<=s.l[i].2.1/\s.l[i].2.1<n:=of_decide_eq_true hb.1;have hb3:0<=s.l[i].2.2/\s.l[i].2.2<=2147483647:=of_decide_eq_true hb.2;have hlen:=wy wt (s.l.take i);rw [List.length_take,Nat.min_eq_left (by omega)]at hlen;have hsz:=tD wt;have hle:szE wt*i<=12*i:=Nat.mul_le_mul_right _ hsz.2;simp only [dS];rw [if_pos (by omega),iA hs hi];simp only [zbS];rw [Hv (.inr rfl) (by simp) (λy hy=>by simp at hy;omega)];simp only [zbS];rw [jf (by rw [List.length_append,lq,hlen];simp;unfold ck;omega)];simp only [zbS];rw [jg hi (by omega),List.take_succ_eq_append_getElem hi];by_cases hwt:wt=1
  .rw [if_pos hwt,Hv (.inr rfl) (by simp) (λy hy=>by simp at hy;omega)];simp only [zbS];rw [jf (by rw [List.length_append,List.length_append,lq,lq,hlen];simp;unfold ck;omega)];simp only [zbS,b4s,gS,if_pos hwt,List.flatMap_append,List.flatMap_cons,List.flatMap_nil,List.append_nil,List.append_assoc]
  .rw [if_neg hwt];simp only [b4s,gS,if_neg hwt,List.flatMap_append,List.flatMap_cons,List.flatMap_nil,List.append_nil,List.append_assoc]
 .simp only [dS];rw [if_neg (by omega)]
def Fm(g:Gr):Sl Int×Int:=if eF g=0 then if fg g.2.l=true then(⟨true,1,ib g.1 g.2.l⟩,0)else(⟨false,0,[]⟩,6)else(⟨false,0,[]⟩,eF g)
theorem zY{g:Gr}(hs:okS 3 g.2):cB g=some (Fm g):=by
 obtain⟨n,s⟩:=g;rw [pR,vJ hs];simp only [zbS];unfold Fm;by_cases h:eF (n,s)=0
 .rw [if_neg (by simp [h]),if_pos h];obtain⟨⟨a1,a2⟩,a3,a4,a5⟩:=wrongG_iff.1 h;have a3:s.l.length<=65536:=a3;have a1:0<=n:=a1;have a2:n<=4096:=a2;rw [iw hs (by omega)];simp only [zbS];by_cases hr:fg s.l=true
  .rw [if_neg (by simp [hr]),if_pos hr,HF hs (by omega)];simp only [zbS];have h01:=BS s.l;rw [Nu (by omega)];simp only [zbS];rw [jf (by simp;unfold ck;omega)];simp only [zbS];rw [Hv (.inr rfl) (by simp) (λy hy=>by simp at hy;omega)];simp only [zbS];rw [jf (by rw [lq];simp;unfold ck;omega)];simp only [zbS];rw [Fl hs a3 a2 (λe he=>⟨List.all_eq_true.1 a4 e he,List.all_eq_true.1 a5 e he⟩) _ (by rw [List.length_append,lq];simp)];simp only [zbS,Sum.elim_inl,b4s,ib,List.flatMap_cons,List.flatMap_nil,List.append_nil,List.append_assoc]
  .rw [if_pos hr,if_neg hr]
 .rw [if_pos h,if_neg h]
theorem HH(wt:Int)(e:E3):∀z∈gS wt e,0<=z/\z<=255:=λz hz=>by
 unfold gS at hz;rcases List.mem_append.1 hz with hz|hz
 .exact ol hz
 .rcases List.mem_append.1 hz with hz|hz
  .exact ol hz
  .split at hz
   .exact ol hz
   .simp at hz
theorem zZ(n:Int)(l:List E3):∀e∈ib n l,0<=e/\e<=255:=λe he=>by
 unfold ib at he;rcases List.mem_append.1 he with he|he
 .simp at he;omega
 .rcases List.mem_append.1 he with he|he
  .have:=BS l;simp at he;omega
  .rcases List.mem_append.1 he with he|he
   .exact ol he
   .rcases List.mem_append.1 he with he|he
    .exact ol he
    .exact Hy (HH _) l e he
theorem HJ{z:Sl Int}(hz:Sm.Be.okY z=true){er:Int×Int}(h:ew (Sm.Be.gf z) z.l.length= .error er):bq z=some ((0,⟨false,0,[]⟩),er):=by
 show Sm.Dc.fn z=_;unfold Sm.Dc.fn;rw [if_pos hz,h]
theorem Kf{z:Sl Int}(hz:Sm.Be.okY z=true){n:Int}{l:List E3}(h:ew (Sm.Be.gf z) z.l.length= .ok (n,l)):bq z=some ((n,Sm.Dc.canonS l),(0,0)):=by
 show Sm.Dc.fn z=_;unfold Sm.Dc.fn;rw [if_pos hz,h]
theorem BV{l:List E3}(h:fg l=true):Sm.Dc.canonS l=Sm.Dc.liS l:=by
 unfold Sm.Dc.canonS;rw [if_pos h]
theorem Aa{n:Int}{s:Sl E3}(hw:eF (n,s)=0)(hr:fg s.l=true)(hl:s.l.length<=5000):bq ⟨true,1,ib n s.l⟩=some ((n,Sm.Dc.liS s.l),(0,0)):=by
 have hsz:=tD (wtO s.l);have hle:szE (wtO s.l)*s.l.length<=12*s.l.length:=Nat.mul_le_mul_right _ hsz.2;have h:=BT (f:=Sm.Be.gf ⟨true,1,ib n s.l⟩) (m:=(ib n s.l).length) (post:= []) (by intro i _;rw [List.append_nil];rfl) hw;rw [oo,if_pos (Nat.le_refl _),if_pos rfl,<-oo]at h;rw [Kf (Hz (zZ n s.l) (by rw [oo];omega)) h,BV hr]
theorem HK{n:Int}{s t:Sl E3}(h:s.l=t.l):eF (n,s)=eF (n,t):=by unfold eF;simp only [h]
theorem Fo{a b:Sl Int}(ha:Sm.Be.okY a=true)(hb:Sm.Be.okY b=true):gg a b=some (decide (a.l=b.l)):=by
 show Sm.Be.fn (a,b)=_;unfold Sm.Be.fn;rw [if_pos ⟨ha,hb⟩]
theorem Fp{n:Int}{s:Sl E3}(hw:eF (n,s)=0)(hr:fg s.l=true)(hl:s.l.length<=5000):dO ⟨true,1,ib n s.l⟩=some true:=by
 have hsz:=tD (wtO s.l);have hle:szE (wtO s.l)*s.l.length<=12*s.l.length:=Nat.mul_le_mul_right _ hsz.2;have hy:=Hz (zZ n s.l) (by rw [oo];omega);rw [ru,Aa hw hr hl];simp only [zbS]
 have e:Fm (n,Sm.Dc.liS s.l)=(⟨true,1,ib n s.l⟩,0):=by
  unfold Fm;rw [if_pos (show eF (n,Sm.Dc.liS s.l)=0 from(HK (t:=s) rfl).trans hw),if_pos (show fg (Sm.Dc.liS s.l).l=true from hr)];rfl
 rw [if_neg (by simp),zY (g:=(n,Sm.Dc.liS s.l)) (tC _),e];simp only [zbS];rw [if_pos trivial,Fo hy hy];simp
end Ev
end
end Go.Proofs.Ytoamaaicfjkmhaa
