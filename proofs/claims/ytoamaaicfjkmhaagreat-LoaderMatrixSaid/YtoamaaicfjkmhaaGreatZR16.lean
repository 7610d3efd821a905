/- Texts of a claim, joined. -/
import Derived.Test.YtoamaaicfjkmhaaGreatZR15
set_option linter.unusedVariables false
set_option linter.unusedSimpArgs false
namespace Go.Proofs.YtoamaaicfjkmhaaGreat
noncomputable section
namespace Ev
open Go Sm
theorem Gy{x:Sl E3}{v:Int}(hn:x.l.length<=9223372036854775807){b:Int->Option (Int ⊕ PUnit ⊕ Int ⊕ Empty)}(h1:∀j:Nat,0<j->(hj:j<x.l.length)->b j=some (if klt (key x.l[j - 1]) (key x.l[j])=true then .inl ((j+1:Nat):Int)else .inr (.inr (.inl v))))(h2:∀j:Nat,x.l.length<=j->b j=some (.inr (.inl ()))):
  (dY x.l=true/\bu b 1=some (.inl ()))∨(dY x.l=false/\bu b 1=some (.inr (.inl v))):=by
 by_cases hl:x.l.length<=1
 .refine .inl ⟨?_,eT (h2 1 hl)⟩
  match x.l,hl with
  | [],_=>rfl
  | [a],_=>rfl
  |a::b::r,hl=>simp at hl
 obtain⟨r,e1,e2⟩:=jG (b:=b) x.l.length (λj a=>0<j/\a=(j:Int)/\dY x.l=dY (x.l.drop (j - 1))) (λr=>(dY x.l=true/\r= .inl ())∨(dY x.l=false/\r= .inr (.inl v)))
  (by
   rintro j _ hj ⟨h0,rfl,hr⟩;rw [h1 j h0 hj];rw [qD _ j h0 hj]at hr
   cases hk:klt (key x.l[j - 1]) (key x.l[j])with
   |true=>rw [hk]at hr;exact .inl ⟨_,rfl,by omega,rfl,by rw [hr];simp⟩
   |false=>rw [hk]at hr;exact .inr ⟨_,rfl,.inr ⟨by rw [hr];rfl,rfl⟩⟩)
  (by
   rintro _ ⟨h0,rfl,hr⟩;refine⟨_,h2 _ (Nat.le_refl _),.inl ⟨?_,rfl⟩⟩;rw [hr,List.drop_eq_getElem_cons (by omega),show x.l.length - 1+1=x.l.length by omega,List.drop_length]
   rfl)
  1 (by omega) ((1:Nat):Int) ⟨by omega,rfl,by simp⟩
 rcases e2 with⟨g1,rfl⟩|⟨g1,rfl⟩
 .exact .inl ⟨g1,e1⟩
 .exact .inr ⟨g1,e1⟩
theorem Bj(a b:E3):pm a b=klt (key a) (key b):=by
 unfold pm klt key;rw [Bool.eq_iff_iff];simp;omega
theorem IL(a b:E3):dH a b=some (klt (key a) (key b)):=by
 rw [qX,<-Bj];unfold pm;by_cases h:b.1>a.1
 .rw [if_pos h];simp [h]
 .rw [if_neg h];by_cases h2:b.1=a.1
  .rw [if_pos h2];simp [h2]
  .rw [if_neg h2];simp [h2];omega
def fB(rows cols:Int)(l:List E3):Int:=
 if rows<0 then 3 else if cols<0 then 3 else if rows>4096 then 5 else if cols>4096 then 5 else if(l.length:Int)>65536 then 5 else if l.all (inM rows cols)=true then if dY l=true then 0 else 6 else 3
theorem Li(rows cols:Int){s:Sl E3}(hs:okS 3 s):eB rows cols s=some (fB rows cols s.l):=by
 rw [sL];unfold fB;split
 .rfl
 split
 .rfl
 split
 .rfl
 split
 .rfl
 split
 .rfl
 rename_i hl
 have step:∀j:Nat,(h:j<s.l.length)->eO rows cols s j=some (if inM rows cols s.l[j]=true then .inl ((j+1:Nat):Int)else .inr (.inr (.inl 3))):=λj hj=>by
  unfold eO;rw [if_pos (by omega),gz hs hj];simp only [zbS];generalize s.l[j]=y;rw [iM hj (by omega)];unfold inM;by_cases h1:y.1<0
  .rw [if_pos h1,if_neg (by simp;omega)]
  .rw [if_neg h1];by_cases h2:y.1 >= rows
   .rw [if_pos h2,if_neg (by simp;omega)]
   .rw [if_neg h2];by_cases h3:y.2.1<0
    .rw [if_pos h3,if_neg (by simp;omega)]
    .rw [if_neg h3];by_cases h4:y.2.1 >= cols
     .rw [if_pos h4,if_neg (by simp;omega)]
     .rw [if_neg h4,if_pos (by simp;omega)]
 rcases II (l:=s.l) (inM rows cols) (λ_=>3) step (by unfold eO;rw [if_neg (by omega)])with⟨a,q⟩|⟨a,j,q⟩
 .rw [q,if_pos a];simp only [zbS,Sum.elim_inl]
  rcases Gy (x:=s) (v:=6) (b:=eP s) (by omega) (λj h0 hj=>by
   unfold eP;rw [if_pos (by omega),show IntKind.i64.wrap ((j:Int) - 1)=((j - 1:Nat):Int)by rw [wrap64 (by omega) (by omega)];omega,gz hs (by omega),gz hs hj];simp only [zbS,IL,iM hj (by omega)]
   cases klt (key s.l[j - 1]) (key s.l[j])<;>rfl) (λj hj=>by
   unfold eP
   rw [if_neg (by omega)])with⟨b,q2⟩|⟨b,q2⟩
  .rw [q2,if_pos b];rfl
  .rw [q2,if_neg (by rw [b];decide)];rfl
 .rw [q,if_neg (by rw [a];decide)];rfl
theorem Gz{s:Sl E3}{rows cols:Int}(hs:okS 3 s)(hl:s.l.length<=65536)(hin:s.l.all (inM rows cols)=true)(hr:rows<=4096)(hc:cols<=4096){H:List Int}(hH:H.length<=1000):
  bu (cD s) (H,0)=some (.inl (H++s.l.flatMap iY)):=by
 rw [show s.l.flatMap iY=(s.l.take s.l.length).flatMap iY by rw [List.take_length]];refine mt s.l.length (λi=>(H++(s.l.take i).flatMap iY,(i:Int))) (by simp) (λi hi=> ?_) ?_
 .have hb:=List.all_eq_true.1 hin s.l[i] (List.getElem_mem hi);have hb2:0<=s.l[i].1/\s.l[i].1<rows/\0<=s.l[i].2.1/\s.l[i].2.1<cols:=of_decide_eq_true hb;have hlen:=qY (s.l.take i);rw [List.length_take]at hlen;simp only [cD];rw [if_pos (by omega),gz hs hi];simp only [zbS];rw [Mu (.inr rfl) (by simp) (λy hy=>by simp at hy;omega)];simp only [zbS];rw [fH (by rw [List.length_append,pB,hlen];simp;unfold ck;omega)];simp only [zbS];rw [Lh];simp only [zbS];rw [fH (by rw [List.length_append,List.length_append,pB,aZ,hlen];simp;unfold ck;omega),iM hi (by omega)];simp only [zbS];rw [List.take_succ_eq_append_getElem hi];simp only [b4s,iY,List.flatMap_append,List.flatMap_cons,List.flatMap_nil,List.append_nil,List.append_assoc]
 .simp only [cD];rw [if_neg (by omega)]
theorem uI(rows cols:Int){s:Sl E3}(hs:okS 3 s):bS rows cols s=some (if fB rows cols s.l=0 then(⟨true,1,wX rows cols s.l⟩,0)else(⟨false,0,[]⟩,fB rows cols s.l)):=by
 rw [jB,Li rows cols hs];simp only [zbS];by_cases h:fB rows cols s.l=0
 .rw [if_neg (by simp [h]),if_pos h];have hw:=h;unfold fB at hw;split at hw<;>(try (exact absurd hw (by decide)));split at hw<;>(try (exact absurd hw (by decide)));split at hw<;>(try (exact absurd hw (by decide)));split at hw<;>(try (exact absurd hw (by decide)));split at hw<;>(try (exact absurd hw (by decide)));split at hw<;>(try (exact absurd hw (by decide)));rename_i h1 h2 h3 h4 h5 h6;rw [Mu (.inr rfl) (by simp) (λy hy=>by simp at hy;omega)];simp only [zbS];rw [fH (by rw [pB];simp;unfold ck;omega)];simp only [zbS];rw [Gz hs (by omega) h6 (by omega) (by omega) (by rw [List.length_append,pB];simp)];simp only [zbS,Sum.elim_inl,b4s,wX,List.flatMap_cons,List.flatMap_nil,List.append_nil,List.append_assoc]
 .rw [if_pos h,if_neg h]
theorem wrongM_iff{rows cols:Int}{l:List E3}:fB rows cols l=0↔(0<=rows/\rows<=4096)/\(0<=cols/\cols<=4096)/\l.length<=65536/\l.all (inM rows cols)=true/\dY l=true:=by
 unfold fB;constructor
 .intro hw;split at hw<;>(try (exact absurd hw (by decide)));split at hw<;>(try (exact absurd hw (by decide)));split at hw<;>(try (exact absurd hw (by decide)));split at hw<;>(try (exact absurd hw (by decide)));split at hw<;>(try (exact absurd hw (by decide)));split at hw<;>(try (exact absurd hw (by decide)));split at hw<;>(try (exact absurd hw (by decide)));rename_i h1 h2 h3 h4 h5 h6 h7;exact⟨⟨by omega,by omega⟩,⟨by omega,by omega⟩,by omega,h6,h7⟩
 .rintro⟨⟨h1,h2⟩,⟨h3,h4⟩,h5,h6,h7⟩;rw [if_neg (by omega),if_neg (by omega),if_neg (by omega),if_neg (by omega),if_neg (by omega),if_pos h6,if_pos h7]
theorem Bk:∀(r:List E3) (i:Nat) (a:E3),Bh (i+1) a r↔dY (a::r)=true
 | [],i,a=>by simp [Bh,dY]
 |b::r,i,a=>by
  rw [Bh,ua,Bool.and_eq_true,<-Bk r (i+1) b,Bj];simp
theorem risT_zero{l:List E3}{a:E3}:Bh 0 a l↔dY l=true:=by
 cases l with
 |nil=>simp [Bh,dY]
 |cons t r=>rw [Bh,Bk];simp
end Ev
end
noncomputable section
namespace Ev
open Go Sm
def Byt(f:Nat->Int)(m:Nat):Prop:=∀i,i<m->0<=f i/\f i<=255
theorem fO(f:Nat->Int)(p a b:Nat):bK f p (a+b)=bK f p a++bK f (p+a) b:=by
 unfold bK;rw [List.range_add,List.map_append,List.map_map];congr 1;apply List.map_congr_left;intro i _;simp only [Function.comp];rw [Nat.add_assoc]
theorem lA{f:Nat->Int}{m p:Nat}{most e x:Int}{q:Nat}(hb:Byt f m)(h:aM f m p most e= .ok (x,q)):bK f p 4=bts x 4/\q=p+4/\q<=m/\0<=x/\x<=most:=by
 unfold aM at h;split at h
 .rename_i hm;split at h
  .cases h
  .rename_i hle;cases h;have b0:=hb (p+0) (by omega);have b1:=hb (p+1) (by omega);have b2:=hb (p+2) (by omega);have b3:=hb (p+3) (by omega)
   have e1:le (λi=>f (p+i)) 4=f (p+0)+f (p+1)*256+f (p+2)*65536+f (p+3)*16777216:=by
    simp [le]
   refine⟨?_,rfl,hm,?_,by omega⟩
   .rw [e1];simp only [bK,bts,List.range_succ,List.range_zero,List.nil_append,List.cons_append,List.map_cons,List.map_nil,List.cons.injEq,and_true];refine⟨by omega,by omega,by omega,by omega⟩
   .rw [e1];omega
 .cases h
theorem Bl(x c:Int):bts (x - 18446744073709551616*c) 8=bts x 8:=by
 simp only [bts,List.range_succ,List.range_zero,List.nil_append,List.cons_append,List.map_cons,List.map_nil,List.cons.injEq,and_true];refine⟨?_,?_,?_,?_,?_,?_,?_,?_⟩<;>omega
theorem Lj{x0 x1 x2 x3 x4 x5 x6 x7:Int}(b0:0<=x0/\x0<=255)(b1:0<=x1/\x1<=255)(b2:0<=x2/\x2<=255)(b3:0<=x3/\x3<=255)(b4:0<=x4/\x4<=255)(b5:0<=x5/\x5<=255)(b6:0<=x6/\x6<=255)(b7:0<=x7/\x7<=255):
  bts (x0+x1*256+x2*65536+x3*16777216+x4*4294967296+x5*1099511627776+x6*281474976710656+x7*72057594037927936) 8= [x0,x1,x2,x3,x4,x5,x6,x7]:=by
 simp only [bts,List.range_succ,List.range_zero,List.nil_append,List.cons_append,List.map_cons,List.map_nil,List.cons.injEq,and_true];refine⟨?_,?_,?_,?_,?_,?_,?_,?_⟩<;>omega
theorem Pd{f:Nat->Int}{m p:Nat}(hb:Byt f m)(hm:p+8<=m):bK f p 8=bts (lw (λj=>f (p+j)) 8) 8/\jq (lw (λj=>f (p+j)) 8):=by
 have b0:=hb (p+0) (by omega);have b1:=hb (p+1) (by omega);have b2:=hb (p+2) (by omega);have b3:=hb (p+3) (by omega);have b4:=hb (p+4) (by omega);have b5:=hb (p+5) (by omega);have b6:=hb (p+6) (by omega);have b7:=hb (p+7) (by omega)
 have e1:le (λi=>f (p+i)) 8=f (p+0)+f (p+1)*256+f (p+2)*65536+f (p+3)*16777216+f (p+4)*4294967296+f (p+5)*1099511627776+f (p+6)*281474976710656+f (p+7)*72057594037927936:=by
  simp [le]
 unfold lw;rw [e1];have h64:∀x:Int,∃c:Int,Go.RowKit.wrap64 x=x - 18446744073709551616*c/\jq (Go.RowKit.wrap64 x):=λx=>⟨(x+9223372036854775808)/ 18446744073709551616,by unfold Go.RowKit.wrap64;omega,by unfold Go.RowKit.wrap64 jq;omega⟩;obtain⟨c,hc,hi⟩:=h64 (f (p+0)+f (p+1)*256+f (p+2)*65536+f (p+3)*16777216+f (p+4)*4294967296+f (p+5)*1099511627776+f (p+6)*281474976710656+f (p+7)*72057594037927936);refine⟨?_,hi⟩;rw [hc,Bl,Lj b0 b1 b2 b3 b4 b5 b6 b7];rfl
theorem IM{f:Nat->Int}{m p:Nat}{rows cols i:Int}{last t:E3}{q:Nat}(hb:Byt f m)(h:gX f m p rows cols last i= .ok (t,q)):q=p+16/\q<=m/\bK f p 16=iY t/\inM rows cols t=true/\jq t.2.2/\(0<i->pm last t=true):=by
 unfold gX at h;split at h
 .cases h
 .rename_i r p1 h1;obtain⟨a1,rfl,a3,a4,a5⟩:=lA hb h1;split at h
  .cases h
  .rename_i c p2 h2;obtain⟨c1,rfl,c3,c4,c5⟩:=lA hb h2;split at h
   .rename_i h8;split at h
    .cases h
    .rename_i ho;cases h;obtain⟨d1,d2⟩:=Pd hb h8;refine⟨rfl,h8,?_,?_,d2,λhi=> ?_⟩
     .rw [show(16:Nat)=4+(4+8)from rfl,fO,fO,a1,c1,d1];rfl
     .unfold inM;exact decide_eq_true ⟨a4,by show r<rows;omega,c4,by show c<cols;omega⟩
     .cases hq:pm last (r,c,lw (λj=>f (p+4+4+j)) 8)with
      |true=>rfl
      |false=>exact absurd ⟨hi,hq⟩ ho
   .cases h
theorem xI{f:Nat->Int}{m:Nat}{rows cols:Int}(hb:Byt f m):∀(k i:Nat) (last:E3) (p:Nat) {l:List E3} {q:Nat},cF f m rows cols k i last p= .ok (l,q)->p<=m->l.length=k/\q=p+16*k/\q<=m/\bK f p (16*k)=l.flatMap iY/\(∀t∈l,inM rows cols t=true/\jq t.2.2)/\Bh i last l
 |0,i,last,p,l,q,h,hp=>by
  simp only [cF]at h;cases h;exact⟨rfl,rfl,hp,rfl,by simp,trivial⟩
 |k+1,i,last,p,l,q,h,hp=>by
  simp only [cF]at h;split at h
  .cases h
  .rename_i t q1 h1;obtain⟨rfl,a2,a3,a4,a5,a6⟩:=IM hb h1;split at h
   .cases h
   .rename_i l2 q2 h2;cases h;obtain⟨c1,c2,c3,c4,c5,c6⟩:=xI hb k (i+1) t (p+16) h2 a2;refine⟨by simp [c1],by omega,c3,?_,λz hz=> ?_,λhi=>a6 (by omega),c6⟩
    .rw [show 16*(k+1)=16+16*k by omega,fO,a3,c4];rfl
    .rcases List.mem_cons.1 hz with rfl|hz
     .exact⟨a4,a5⟩
     .exact c5 z hz
theorem GA{f:Nat->Int}{m p k:Nat}(hb:Byt f m)(hm:p+k<=m):∀e∈bK f p k,0<=e/\e<=255:=by
 intro e he;simp only [bK,List.mem_map,List.mem_range]at he;obtain⟨i,hi,rfl⟩:=he;exact hb _ (by omega)
theorem GB{f:Nat->Int}{m:Nat}{A:List Int}{s:ByteArray}(hb:Byt f m)(h4:4<=m)(hA:∀e∈A,0<=e/\e<=255)(hs:s=strOfNums A)(h:strOfNums (bK f 0 4)=s):bK f 0 4=A:=by
 rw [hs]at h;refine Sm.Be.bytes_inj (GA hb (by omega)) hA ?_
 have:=congrArg (λz:ByteArray=>z.data.toList) h
 simpa [strOfNums]using this
theorem Bm{f:Nat->Int}{m:Nat}{rows cols:Int}{l:List E3}{q:Nat}(hb:Byt f m)(h:dO f m= .ok ((rows,cols,l),q)):q=16+16*l.length/\q<=m/\bK f 0 q=wX rows cols l/\fB rows cols l=0/\∀t∈l,jq t.2.2:=by
 unfold dO at h;split at h
 .rename_i h4;split at h
  .rename_i hs;have e0:=GB (A:= [70,82,77,49]) hb h4 (by decide) rfl hs;split at h
   .cases h
   .rename_i r p1 h1;obtain⟨a1,rfl,a3,a4,a5⟩:=lA hb h1;split at h
    .cases h
    .rename_i c p2 h2;obtain⟨c1,rfl,c3,c4,c5⟩:=lA hb h2;split at h
     .cases h
     .rename_i k p3 h3;obtain⟨d1,rfl,d3,d4,d5⟩:=lA hb h3;split at h
      .cases h
      .rename_i l2 q2 h5;cases h;obtain⟨f1,f2,f3,f4,f5,f6⟩:=xI hb _ 0 (0,0,0) _ h5 d3;obtain⟨K,rfl⟩:=Int.eq_ofNat_of_zero_le d4;rw [Int.toNat_natCast]at f1 f2 f4;subst f1;refine⟨by omega,f3,?_,wrongM_iff.2 ⟨⟨a4,a5⟩,⟨c4,c5⟩,by omega,List.all_eq_true.2 λt ht=>(f5 t ht).1,risT_zero.1 f6⟩,λt ht=>(f5 t ht).2⟩;rw [f2,show 4+4+4+4+16*l.length=4+(4+(4+(4+16*l.length)))by omega,fO,fO,fO,fO,e0,show 0+4=4 from rfl,a1,c1,d1,f4];rfl
  .cases h
 .cases h
theorem zB{f:Nat->Int}{m:Nat}{rows cols:Int}{l:List E3}(hb:Byt f m)(h:cn f m= .ok (rows,cols,l)):bK f 0 m=wX rows cols l/\fB rows cols l=0/\∀t∈l,jq t.2.2:=by
 unfold cn at h;split at h
 .cases h
 .rename_i y q h1;split at h
  .rename_i hq;cases h;subst hq;exact(Bm hb h1).2.2
  .cases h
end Ev
end
noncomputable section
namespace Ev
open Go Sm
theorem wY{x y:Sl E3}(hx:okS 3 x)(hy:okS 3 y)(hl:x.l.length<=9223372036854775806):cr x y=some (decide (x.l=y.l)):=by
 rw [lz];exact xH hl hx hy (P:=λu v=>u.fst=v.fst/\u.snd.fst=v.snd.fst/\u.snd.snd=v.snd.snd) (λu v=>by rw [Prod.ext_iff,Prod.ext_iff]) λa=>by unfold gp;rfl
theorem IN{z:Sl Int}(h:K.W (.S (.I .u8)) z):okS 1 z/\(∀e∈z.l,0<=e/\e<=255)/\(z.l.length<=100000->Sm.Be.okY z=true):=by
 have hb:∀e∈z.l,0<=e/\e<=255:=λe he=>by
  have:inK .u8 e:=h.2.2.2 e he
  simpa [inK,Lit.wf,IntKind.min,IntKind.max,IntKind.signed,IntKind.bits]using this
 refine⟨.inr h.1,hb,λhl=> ?_⟩;simp only [Sm.Be.okY,Bool.and_eq_true,Bool.or_eq_true,decide_eq_true_eq,List.isEmpty_iff,List.all_eq_true];exact⟨hl,hb,.inl h.1⟩
theorem Pe{z:Sl Int}(h:∀e∈z.l,0<=e/\e<=255):Byt (Sm.Be.gf z) z.l.length:=λi hi=>by
 unfold Sm.Be.gf;rw [List.getD_eq_getElem?_getD,List.getElem?_eq_getElem hi];exact h _ (List.getElem_mem _)
theorem IP(z:Sl Int):bK (Sm.Be.gf z) 0 z.l.length=z.l:=by
 unfold bK Sm.Be.gf;apply List.ext_getElem?;intro i;simp only [List.getElem?_map];by_cases h:i<z.l.length
 .rw [List.getElem?_range h];simp only [Option.map_some,Nat.zero_add];rw [List.getD_eq_getElem?_getD,List.getElem?_eq_getElem h];rfl
 .rw [List.getElem?_eq_none (by simpa using h),List.getElem?_eq_none (by omega)];rfl
theorem Lk{z:Sl Int}(hz:Sm.Be.okY z=true){er:Int×Int}(h:cn (Sm.Be.gf z) z.l.length= .error er):be z=some (0,0,⟨false,0,[]⟩,er):=by
 show Sm.Dm.fn z=_;unfold Sm.Dm.fn;rw [if_pos hz,h]
theorem Pf{z:Sl Int}(hz:Sm.Be.okY z=true){r c:Int}{l:List E3}(h:cn (Sm.Be.gf z) z.l.length= .ok (r,c,l)):be z=some (r,c,Sm.Dc.liS l,(0,0)):=by
 show Sm.Dm.fn z=_;unfold Sm.Dm.fn;rw [if_pos hz,h]
theorem Pg(l:List E3):okS 3 (Sm.Dc.liS l):= .inr rfl
end Ev
end
noncomputable section
namespace Ev
open Go Sm
end Ev
end
noncomputable section
namespace Ev
open Go Sm
theorem rH{x y:Sl Int}(hx:okS 1 x)(hy:okS 1 y)(hl:x.l.length<=9223372036854775806):cY x y=some (decide (x.l=y.l)):=by
 rw [ol];exact xH hl hx hy (P:=λu v=>u=v) (λu v=>Iff.rfl) λa=>by unfold hZ;rfl
theorem EI{x:Int}{k:Nat}(h0:0<=x)(h1:x<18446744073709551616)(hk:k<=8):fN x (k:Int)=some (bts x k):=by
 rw [zy]
 have q:bu (gK (k:Int)) (x,[],0)=some (.inl (bts x k)):=by
  refine mt k (λi=>(x / 256 ^ i,bts x i,(i:Int))) (by simp [bts]) (λi hi=> ?_) ?_
  .have hp:(0:Int)<256 ^ i:=Int.pow_pos (by decide);have hd0:0<=x / 256 ^ i:=Int.ediv_nonneg h0 (by omega);have hd1:x / 256 ^ i<=x:=Int.ediv_le_self _ h0;have e0:x / 256 ^(i+1)=x / 256 ^ i / 256:=by rw [Int.pow_succ];exact(Int.ediv_ediv_of_nonneg (by omega)).symm
   simp only [gK];rw [if_pos (by omega),Bc,e0];generalize x / 256 ^ i=d at hd0 hd1 ⊢;unfold JF JE;rw [if_pos (by decide),if_pos (by decide),Int.tmod_eq_emod_of_nonneg hd0,Int.tdiv_eq_ediv_of_nonneg hd0];simp only [zbS];rw [fH (by rw [aZ];simp;unfold ck;omega),zA,wrap_u64,iM hi (by omega)];simp only [zbS];rw [Int.emod_emod_of_dvd d (by decide:(256:Int)∣ 256),show d / 256 % 18446744073709551616=d / 256 by omega]
  .simp only [gK];rw [if_neg (by omega)]
 rw [q];rfl
theorem jC{y:Int}(h:0<=y/\y<4294967296):bV (IntKind.u32.wrap y)=some (bts y 4):=by
 rw [uF,Bg h,wrap_u64,Int.emod_eq_of_lt h.1 (by omega)]
 have:=EI (k:=4) h.1 (by omega) (by omega)
 rw [show((4:Nat):Int)=4 from rfl]at this;rw [this];rfl
end Ev
end
noncomputable section
namespace Ev
open Go Sm
theorem EJ(y:Int):ea y=some (bts y 8):=by
 rw [uH,wrap_u64];have h0:=Int.emod_nonneg y (show(18446744073709551616:Int)≠0 by decide);have h1:=Int.emod_lt_of_pos y (show(0:Int)<18446744073709551616 by decide)
 have:=EI (k:=8) h0 h1 (by omega)
 rw [show((8:Nat):Int)=8 from rfl]at this;rw [this,Int.emod_def,Bl];rfl
theorem Ll(a b:E3):eY a b=some (klt (key a) (key b)):=by
 rw [uG];unfold klt key;by_cases h:a.1<b.1
 .rw [if_pos h];simp [h]
 .rw [if_neg h];by_cases h2:a.1=b.1
  .rw [if_pos h2];simp [h2]
  .rw [if_neg h2];simp [h,h2]
theorem VE{l:List E3}{V:Type}(p:E3->Bool)(v:V){b:Int->Option (Int ⊕ PUnit ⊕ V ⊕ Empty)}(h1:∀j:Nat,(h:j<l.length)->b j=some (if p l[j]=true then .inl ((j+1:Nat):Int)else .inr (.inr (.inl v))))(h2:b (l.length:Nat)=some (.inr (.inl ()))):
  (l.all p=true/\bu b 0=some (.inl ()))∨(l.all p=false/\bu b 0=some (.inr (.inl v))):=by
 obtain⟨q,q1,q2⟩:=jG (b:=b) l.length (λj a=>a=(j:Int)/\(l.take j).all p=true) (λq=>(l.all p=true/\q= .inl ())∨(l.all p=false/\q= .inr (.inl v)))
  (by
   rintro j _ hj ⟨rfl,g⟩;rw [h1 j hj];by_cases hp:p l[j]=true
   .refine .inl ⟨_,by rw [if_pos hp],rfl,?_⟩;rw [List.take_succ_eq_append_getElem hj,List.all_append,g];simp [hp]
   .refine .inr ⟨_,by rw [if_neg hp],.inr ⟨Mt hj (by simpa using hp),rfl⟩⟩)
  (by
   rintro _ ⟨rfl,g⟩;rw [List.take_length]at g
   exact⟨_,h2,.inl ⟨g,rfl⟩⟩) 0 (Nat.zero_le _) 0 ⟨rfl,rfl⟩
 rw [q1];rcases q2 with⟨a,rfl⟩|⟨a,rfl⟩
 .exact .inl ⟨a,rfl⟩
 .exact .inr ⟨a,rfl⟩
theorem Bn{s:Sl E3}{rows cols:Int}(hs:okS 3 s)(hl:s.l.length<=65536)(hin:s.l.all (inM rows cols)=true)(hr:rows<=4096)(hc:cols<=4096){H:List Int}(hH:H.length<=1000):
  (dY s.l=true/\bu (bB s) (H,0)=some (.inl (H++s.l.flatMap iY)))∨(dY s.l=false/\bu (bB s) (H,0)=some (.inr (.inl ([],6)))):=by
 obtain⟨q,q1,q2⟩:=jG (b:=bB s) s.l.length (λj a=>a=(H++(s.l.take j).flatMap iY,(j:Int))/\dY s.l=dY (s.l.drop (j - 1))) (λq=>(dY s.l=true/\q= .inl (H++s.l.flatMap iY))∨(dY s.l=false/\q= .inr (.inl ([],6))))
  (by
   rintro j _ hj ⟨rfl,hr⟩;have hb:=List.all_eq_true.1 hin s.l[j] (List.getElem_mem hj);have hb2:0<=s.l[j].1/\s.l[j].1<rows/\0<=s.l[j].2.1/\s.l[j].2.1<cols:=of_decide_eq_true hb;have hlen:=qY (s.l.take j);rw [List.length_take,Nat.min_eq_left (by omega)]at hlen
   have hnx:H++(s.l.take (j+1)).flatMap iY=H++(s.l.take j).flatMap iY++bts s.l[j].1 4++bts s.l[j].2.1 4++bts s.l[j].2.2 8:=by
    rw [List.take_succ_eq_append_getElem hj];simp only [iY,List.flatMap_append,List.flatMap_cons,List.flatMap_nil,List.append_nil,List.append_assoc]
   simp only [bB];rw [if_pos (by omega)];by_cases h0:0<j
   .rw [if_pos (by omega),show IntKind.i64.wrap ((j:Int) - 1)=((j - 1:Nat):Int)by rw [wrap64 (by omega) (by omega)];omega,gz hs (by omega),gz hs hj];simp only [zbS,Ll];rw [qD _ j h0 hj]at hr
    cases hk:klt (key s.l[j - 1]) (key s.l[j])with
    |false=>
     rw [if_pos (by simp)];rw [hk]at hr;exact .inr ⟨_,rfl,.inr ⟨by rw [hr];rfl,rfl⟩⟩
    |true=>
     rw [if_neg (by simp)];rw [hk]at hr;refine .inl ⟨(H++(s.l.take (j+1)).flatMap iY,((j+1:Nat):Int)),?_,rfl,by rw [hr];simp⟩;rw [jC (by omega)];simp only [zbS];rw [fH (by rw [List.length_append,aZ,hlen];unfold ck;omega)];simp only [zbS];rw [jC (by omega)];simp only [zbS];rw [fH (by rw [List.length_append,List.length_append,aZ,aZ,hlen];unfold ck;omega)];simp only [zbS];rw [EJ];simp only [zbS];rw [fH (by rw [List.length_append,List.length_append,List.length_append,aZ,aZ,aZ,hlen];unfold ck;omega)];simp only [zbS];rw [iM hj (by omega)];rw [hnx]
   .obtain rfl:j=0:=by omega
    rw [if_neg (by omega),gz hs hj];simp only [zbS];refine .inl ⟨(H++(s.l.take (0+1)).flatMap iY,((0+1:Nat):Int)),?_,rfl,by simp⟩;rw [jC (by omega)];simp only [zbS];rw [fH (by rw [List.length_append,aZ,hlen];unfold ck;omega)];simp only [zbS];rw [jC (by omega)];simp only [zbS];rw [fH (by rw [List.length_append,List.length_append,aZ,aZ,hlen];unfold ck;omega)];simp only [zbS];rw [EJ];simp only [zbS];rw [fH (by rw [List.length_append,List.length_append,List.length_append,aZ,aZ,aZ,hlen];unfold ck;omega)];simp only [zbS];rw [iM hj (by omega)]
    rw [hnx])
  (by
   rintro _ ⟨rfl,hr⟩;refine⟨.inl (H++s.l.flatMap iY),?_,.inl ⟨?_,rfl⟩⟩
   .simp only [bB];rw [if_neg (by omega),List.take_length]
   .rw [hr];by_cases h0:s.l.length=0
    .rw [List.length_eq_zero_iff.1 h0];rfl
    .rw [List.drop_eq_getElem_cons (by omega),show s.l.length - 1+1=s.l.length by omega,List.drop_length]
     rfl)
  0 (Nat.zero_le _) (H,0) ⟨by simp,by simp⟩
 rw [q1];rcases q2 with⟨g1,rfl⟩|⟨g1,rfl⟩
 .exact .inl ⟨g1,rfl⟩
 .exact .inr ⟨g1,rfl⟩
theorem pD(rows cols:Int){s:Sl E3}(hs:okS 3 s):∃r,bZ rows cols s=some (r,fB rows cols s.l)/\r.l=(if fB rows cols s.l=0 then wX rows cols s.l else [])/\okS 1 r:=by
 rw [ku];have nil:okS 1 (⟨false,0,[]⟩:Sl Int):= .inl rfl;unfold fB;split
 .exact⟨_,rfl,rfl,nil⟩
 split
 .exact⟨_,rfl,rfl,nil⟩
 split
 .exact⟨_,rfl,rfl,nil⟩
 split
 .exact⟨_,rfl,rfl,nil⟩
 split
 .exact⟨_,rfl,rfl,nil⟩
 rename_i hr0 hc0 hr hc hl
 have step:∀j:Nat,(h:j<s.l.length)->cT rows cols s j=some (if inM rows cols s.l[j]=true then .inl ((j+1:Nat):Int)else .inr (.inr (.inl ([],3)))):=λj hj=>by
  unfold cT;rw [if_pos (by omega)];simp only [gz hs hj,zbS,dK];generalize s.l[j]=y;rw [iM hj (by omega)];unfold inM;by_cases h1:y.1<0
  .rw [if_pos h1,if_neg (by simp;omega)]
  .rw [if_neg h1];by_cases h2:y.1 >= rows
   .rw [if_pos h2,if_neg (by simp;omega)]
   .rw [if_neg h2];by_cases h3:y.2.1<0
    .rw [if_pos h3,if_neg (by simp;omega)]
    .rw [if_neg h3];by_cases h4:y.2.1 >= cols
     .rw [if_pos h4,if_neg (by simp;omega)]
     .rw [if_neg h4,if_pos (by simp;omega)]
 rcases VE (l:=s.l) (inM rows cols) (([],3):List Int×Int) step (by unfold cT;rw [if_neg (by omega)])with⟨a,q⟩|⟨a,q⟩
 .rw [q,if_pos a];simp only [zbS,Sum.elim_inl];rw [jC (by omega)];simp only [zbS];rw [fH (by rw [aZ];simp;unfold ck;omega)];simp only [zbS];rw [jC (by omega)];simp only [zbS];rw [fH (by rw [List.length_append,aZ,aZ];simp;unfold ck;omega)];simp only [zbS];rw [jC (by omega)];simp only [zbS];rw [fH (by rw [List.length_append,List.length_append,aZ,aZ,aZ];simp;unfold ck;omega)];simp only [zbS];rcases Bn hs (by omega) a (by omega) (by omega) (H:= [70,82,77,49]++bts rows 4++bts cols 4++bts (s.l.length:Int) 4) (by rw [List.length_append,List.length_append,List.length_append,aZ,aZ,aZ];simp)with⟨b,q2⟩|⟨b,q2⟩
  .rw [q2,if_pos b];refine⟨⟨true,1,wX rows cols s.l⟩,?_,rfl,.inr rfl⟩;simp only [zbS,Sum.elim_inl,wX,List.append_assoc]
  .rw [q2,if_neg (by rw [b];decide)];exact⟨mo 1 [],rfl,QV _ _,Ms _⟩
 .rw [q,if_neg (by rw [a];decide)];exact⟨mo 1 [],rfl,QV _ _,Ms _⟩
theorem Lm(z:Sl Int):cL z=be z:=rfl
end Ev
end
end Go.Proofs.YtoamaaicfjkmhaaGreat
