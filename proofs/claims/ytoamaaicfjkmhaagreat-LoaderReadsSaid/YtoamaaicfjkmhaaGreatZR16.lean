/- Texts of a claim, joined. -/
import Derived.Test.YtoamaaicfjkmhaaGreatZR15
set_option linter.unusedVariables false
set_option linter.unusedSimpArgs false
namespace Go.Proofs.YtoamaaicfjkmhaaGreat
noncomputable section
namespace Ev
open Go Sm
theorem CV{x y:Sl Int}(hx:okS 1 x)(hy:okS 1 y)(hl:x.l.length<=9223372036854775806):cL x y=some (decide (x.l=y.l)):=by
 rw [oQ];exact yV hl hx hy (P:=λu v=>u=v) (λu v=>Iff.rfl) λa=>by unfold iF;rfl
theorem No{x:Int}{k:Nat}(h0:0<=x)(h1:x<18446744073709551616)(hk:k<=8):il x (k:Int)=some (bts x k):=by
 rw [AQ]
 have q:aW (ia (k:Int)) (x,[],0)=some (.inl (bts x k)):=by
  refine fB k (λi=>(x / 256 ^ i,bts x i,(i:Int))) (by simp [bts]) (λi hi=> ?_) ?_
  .have hp:(0:Int)<256 ^ i:=Int.pow_pos (by decide);have hd0:0<=x / 256 ^ i:=Int.ediv_nonneg h0 (by omega);have hd1:x / 256 ^ i<=x:=Int.ediv_le_self _ h0;have e0:x / 256 ^(i+1)=x / 256 ^ i / 256:=by rw [Int.pow_succ];exact(Int.ediv_ediv_of_nonneg (by omega)).symm
   simp only [ia];rw [if_pos (by omega),CR,e0];generalize x / 256 ^ i=d at hd0 hd1 ⊢;unfold LP LN;rw [if_pos (by decide),if_pos (by decide),Int.tmod_eq_emod_of_nonneg hd0,Int.tdiv_eq_ediv_of_nonneg hd0];simp only [zbS];rw [fZ (by rw [cq];simp;unfold bU;omega),Gy,wrap_u64,ew hi (by omega)];simp only [zbS];rw [Int.emod_emod_of_dvd d (by decide:(256:Int)∣ 256),show d / 256 % 18446744073709551616=d / 256 by omega]
  .simp only [ia];rw [if_neg (by omega)]
 rw [q];rfl
theorem qi{y:Int}(h:0<=y/\y<4294967296):ct (IntKind.u32.wrap y)=some (bts y 4):=by
 rw [vO,CU h,wrap_u64,Int.emod_eq_of_lt h.1 (by omega)]
 have:=No (k:=4) h.1 (by omega) (by omega)
 rw [show((4:Nat):Int)=4 from rfl]at this;rw [this];rfl
theorem Iu{g:Int×Sl E3}(hs:okS 3 g.2)(hl:g.2.l.length<=65536):aW (fg g) (0,0)=some (.inl (wtO g.2.l)):=by
 rw [show wtO g.2.l=wtO (g.2.l.take g.2.l.length)by rw [List.take_length]];refine fB g.2.l.length (λi=>(wtO (g.2.l.take i),(i:Int))) (by simp [wtO]) (λi hi=> ?_) ?_
 .simp only [fg];rw [if_pos (by omega),eU hs hi];simp only [zbS];rw [ew hi (by omega),List.take_succ_eq_append_getElem hi];by_cases h:g.2.l[i].2.2=1
  .rw [if_neg (by simp [h])]
   have:wtO (g.2.l.take i++ [g.2.l[i]])=wtO (g.2.l.take i):=by
    unfold wtO;rw [List.all_append,List.all_cons,List.all_nil,decide_eq_true h,Bool.and_self,Bool.and_true]
   rw [this]
  .rw [if_pos h]
   have:wtO (g.2.l.take i++ [g.2.l[i]])=1:=by
    unfold wtO;rw [List.all_append,List.all_cons,List.all_nil,decide_eq_false h,Bool.false_and,Bool.and_false];rfl
   rw [this]
 .simp only [fg];rw [if_neg (by omega)]
theorem Iv{n:Int}{s:Sl E3}(hs:okS 3 s)(hl:s.l.length<=65536)(hn:n<=4096)(hin:∀e∈s.l,inM n n e=true/\wOk e=true)(wt:Int){H:List Int}(hH:H.length<=1000):
  aW (fh (n,s) wt) (H,0)=some (.inl (H++s.l.flatMap (lh wt))):=by
 rw [show s.l.flatMap (lh wt)=(s.l.take s.l.length).flatMap (lh wt)by rw [List.take_length]];refine fB s.l.length (λi=>(H++(s.l.take i).flatMap (lh wt),(i:Int))) (by simp) (λi hi=> ?_) ?_
 .have hb:=hin s.l[i] (List.getElem_mem hi);have hb2:0<=s.l[i].1/\s.l[i].1<n/\0<=s.l[i].2.1/\s.l[i].2.1<n:=of_decide_eq_true hb.1;have hb3:0<=s.l[i].2.2/\s.l[i].2.2<=2147483647:=of_decide_eq_true hb.2;have hlen:=rS wt (s.l.take i);rw [List.length_take,Nat.min_eq_left (by omega)]at hlen;have hsz:=EP wt;have hle:szE wt*i<=12*i:=Nat.mul_le_mul_right _ hsz.2;simp only [fh];rw [if_pos (by omega),eU hs hi];simp only [zbS];rw [qi (by omega)];simp only [zbS];rw [fZ (by rw [List.length_append,cq,hlen];unfold bU;omega)];simp only [zbS];rw [qi (by omega)];simp only [zbS];rw [fZ (by rw [List.length_append,List.length_append,cq,cq,hlen];unfold bU;omega)];simp only [zbS];rw [ew hi (by omega),List.take_succ_eq_append_getElem hi];by_cases hwt:wt=1
  .rw [if_pos hwt,qi (by omega)];simp only [zbS];rw [fZ (by rw [List.length_append,List.length_append,List.length_append,cq,cq,cq,hlen];unfold bU;omega)];simp only [zbS,lh,if_pos hwt,List.flatMap_append,List.flatMap_cons,List.flatMap_nil,List.append_nil,List.append_assoc]
  .rw [if_neg hwt];simp only [lh,if_neg hwt,List.flatMap_append,List.flatMap_cons,List.flatMap_nil,List.append_nil,List.append_assoc]
 .simp only [fh];rw [if_neg (by omega)]
theorem Np(a b:E3):cO a b=some (klt (key a) (key b)):=by
 rw [lA];unfold klt key;by_cases h:a.1<b.1
 .rw [if_pos h];simp [h]
 .rw [if_neg h];by_cases h2:a.1=b.1
  .rw [if_pos h2];simp [h2]
  .rw [if_neg h2];simp [h,h2]
theorem Gz{x:Sl E3}(hs:okS 3 x)(hn:x.l.length<=9223372036854775807):eo x=some (gD x.l):=by
 rw [vN]
 have H:=Cm (b:=fT x) hn (λj h0 hj=>by
  unfold fT;rw [if_pos (by omega),show IntKind.i64.wrap ((j:Int) - 1)=((j - 1:Nat):Int)by rw [wrap64 (by omega) (by omega)];omega,eU hs (by omega),eU hs hj];simp only [zbS,Np,ew hj hn]
  cases klt (key x.l[j - 1]) (key x.l[j])<;>rfl) (λj hj=>by
  unfold fT
  rw [if_neg (by omega)])
 rcases H with⟨h1,h2⟩|⟨h1,h2⟩
 .rw [h2,h1];rfl
 .rw [h2,h1];rfl
theorem CW{g:Gr}(hs:okS 3 g.2):eK g=some (rT g):=by
 obtain⟨n,s⟩:=g;rw [tX,nO hs];simp only [zbS];unfold rT;by_cases h:fq (n,s)=0
 .rw [if_neg (by simp [h]),if_pos h];obtain⟨⟨a1,a2⟩,a3,a4,a5⟩:=wrongG_iff.1 h;have a3:s.l.length<=65536:=a3;have a1:0<=n:=a1;have a2:n<=4096:=a2;rw [Gz hs (by omega)];simp only [zbS];by_cases hr:gD s.l=true
  .rw [if_neg (by simp [hr]),if_pos hr,Iu hs (by omega)];simp only [zbS,Sum.elim_inl];rw [fZ (by simp;unfold bU;omega)];simp only [zbS];rw [qi (by omega)];simp only [zbS];rw [fZ (by rw [List.length_append,cq];simp;unfold bU;omega)];simp only [zbS];rw [qi (by omega)];simp only [zbS];rw [fZ (by rw [List.length_append,List.length_append,cq,cq];simp;unfold bU;omega)];simp only [zbS];rw [Iv hs a3 a2 (λe he=>⟨List.all_eq_true.1 a4 e he,List.all_eq_true.1 a5 e he⟩) _ (by rw [List.length_append,List.length_append,List.length_append,cq,cq];simp)];simp only [zbS,Sum.elim_inl,tZ,List.append_assoc]
  .rw [if_pos hr,if_neg hr]
 .rw [if_pos h,if_neg h]
theorem KN{f:Nat->Int}{m p:Nat}{n wt:Int}{e:E3}{q:Nat}(h:cF f m p n wt= .ok (e,q)):p+8<=q/\q<=m:=by
 unfold cF at h;split at h
 .cases h
 .rename_i h1;have l1:=cE h1;split at h
  .cases h
  .rename_i h2;have l2:=cE h2;split at h
   .split at h
    .cases h
    .rename_i h3;have l3:=cE h3;cases h;omega
   .cases h;omega
theorem yW{f:Nat->Int}{m:Nat}{n wt:Int}:∀(k p:Nat) {l:List E3} {q:Nat},aM f m n wt k p= .ok (l,q)->p+8*l.length<=q
 |0,p,l,q,h=>by simp only [aM]at h;cases h;simp
 |k+1,p,l,q,h=>by
  simp only [aM]at h;split at h
  .cases h
  .rename_i h1;have l1:=KN h1;split at h
   .cases h
   .rename_i h2;have l2:=yW k _ h2;cases h;simp only [List.length_cons];omega
theorem EQ{f:Nat->Int}{m:Nat}{n:Int}{l:List E3}(h:bA f m= .ok (n,l)):8*l.length<=m:=by
 unfold bA at h;split at h
 .cases h
 .rename_i y q h1;split at h
  .rename_i hq;cases h;unfold dA at h1;split at h1
   .split at h1
    .split at h1
     .split at h1
      .cases h1
      .split at h1
       .cases h1
       .split at h1
        .cases h1
        .split at h1
         .cases h1
         .rename_i h5
          have:=yW _ _ h5
          cases h1;omega
     .cases h1
    .cases h1
   .cases h1
  .cases h
end Ev
end
noncomputable section
namespace Ev
open Go Sm
theorem KO{n:Int}{x y:Sl E3}(hl:x.l.length<=65536)(hx:okS 3 x)(hy:okS 3 y)(h:x.l=y.l):gk (n,x) (n,y)=some true:=by
 rw [yf];simp only;rw [if_pos trivial]
 have e:cK x y=some (decide (x.l=y.l)):=by
  rw [oP];exact yV (by omega) hx hy (P:=λu v=>u.fst=v.fst/\u.snd.fst=v.snd.fst/\u.snd.snd=v.snd.snd) (λu v=>by rw [Prod.ext_iff,Prod.ext_iff]) λa=>by unfold iE;rfl
 rw [e,decide_eq_true h];simp
theorem Ro{g:Gr}(h:(rT g).2=0):fq g=0/\gD g.2.l=true/\rT g=(⟨true,1,tZ g.1 g.2.l⟩,0):=by
 unfold rT at h ⊢;split
 .rename_i c1;rw [if_pos c1]at h;split
  .rename_i c2;exact⟨c1,c2,rfl⟩
  .rename_i c2;rw [if_neg c2]at h;exact absurd h (by decide)
 .rename_i c1;rw [if_neg c1]at h;exact absurd h c1
theorem KP{l:List E3}:(Sm.Dc.canonS l).l.length<=l.length∨(Sm.Dc.canonS l).l= []:=by
 unfold Sm.Dc.canonS;split
 .exact .inl (Nat.le_refl _)
 .dsimp only;split
  .exact .inl (CP (r:=1) (l:=l)).2.1
  .exact .inr rfl
theorem mP(l:List E3):okS 3 (Sm.Dc.canonS l):=by
 unfold Sm.Dc.canonS;split
 .exact .inr rfl
 .dsimp only;split
  .exact .inr rfl
  .exact .inl rfl
end Ev
end
end Go.Proofs.YtoamaaicfjkmhaaGreat
