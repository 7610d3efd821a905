/- Texts of a claim, joined. -/
import Derived.Test.YtpcmabdifkoihaaDoorZA16
set_option linter.unusedVariables false
set_option linter.unusedSimpArgs false
namespace Go.Proofs.YtpcmabdifkoihaaDoor
noncomputable section
namespace Ev
open Go
theorem Eh{n:Nat}{f g:Nat->Option Int}(h:∀p,p<n->f p=g p):ko n f=ko n g:=lM λp _ hp=>h p (by omega)
theorem nilD_dv:DV ((0,sb,sb):Dn) 0 λ_=>none:=
 ⟨rfl,by omega,uZ,λx hx=>by simp [sb]at hx,rfl,uZ,rfl,λp=>rfl,λp _=>rfl,λp x h=>by simp at h⟩
theorem hC{d:Dn}(h:OkD d):fT d=some (lk d):=by
 have e:=vN h;obtain⟨n,s,t⟩:=d;unfold fT lk;simp only [e,zbS];split<;>rfl
theorem xR{s:Sl Int}(hok:okS 1 s)(hu:mf s.l)(hl:s.l.length<=15000){p:Int}(hp:iP p):eU s p=some (decide (0<=p)&& eE s.l p.toNat):=by
 by_cases h0:0<=p
 .obtain⟨k,rfl⟩:=Int.eq_ofNat_of_zero_le h0;rw [decide_eq_true h0,Bool.true_and,Int.toNat_natCast];by_cases hk:k<1000000
  .exact rd s k hok hu hk
  .have hw:bJ s (k:Int)=some false:=by
    unfold bJ qf;have e1:((k:Nat):Int).tdiv 64=((k / 64:Nat):Int):=by rw [Int.tdiv_eq_ediv_of_nonneg (by omega)];rfl
    have:=hp.2
    rw [if_pos (by omega),if_pos (by decide),e1,wrap64 (by omega) (by omega)];simp only [zbS];rw [if_neg (by omega)]
   unfold eU;rw [hw,nT (by omega)];rfl
 .unfold eU bJ;rw [if_neg (by omega),decide_eq_false h0];rfl
theorem oI{d:Dn}{n:Nat}{f:Nat->Option Int}(h:DV d n f):d.2.1.l.length<=64:=by have:=h.len;have:=h.le;omega
theorem DV.has_eq{d:Dn}{n:Nat}{f:Nat->Option Int}(h:DV d n f){p:Int}(hp:iP p):eU d.2.1 p=some (decide (0<=p)&&(f p.toNat).isSome):=by
 rw [xR h.has h.bits (by have:=oI h;omega) hp,h.at_]
theorem DV.val_at{d:Dn}{n:Nat}{f:Nat->Option Int}(h:DV d n f){k:Nat}(hk:k<n):atS 1 d.2.2 (k:Int)=some ((f k).getD 0):=Tf h.vals (by rw [h.vl,iU _ hk])
theorem DV.vlen{d:Dn}{n:Nat}{f:Nat->Option Int}(h:DV d n f):d.2.2.l.length=n:=by rw [h.vl,jQ]
theorem mg{d:Dn}(h:OkD d){n:Nat}{f:Nat->Option Int}(hd:DV (lk d) n f):fx d=some ((n:Int),mo 2 (ko n f)):=by
 have e:=hC h;obtain⟨n1,s1,t1⟩:=d;unfold fx;simp only [e,zbS];generalize lk (n1,s1,t1)=u at hd;obtain⟨m,s,t⟩:=u;have hle:=hd.le;have hvl:=hd.vlen;have hnum:=hd.num;simp only at hvl hnum
 obtain⟨q,q1,q2⟩:=eM (b:=gc s t) n (λj a=>a=((j:Int),bm 0 j f)) (λq=>q= .inl (ko n f))
  (by
   rintro j _ hj rfl;have ha:=hd.val_at hj;have hh:=hd.has_eq (p:=(j:Int)) (by unfold iP;omega);simp only [Int.toNat_natCast]at ha hh;have hlen:=oH 0 j f;simp only [gc,ha,hh,zbS,gg hj (by omega)];rw [if_pos (by omega),Ea,Nat.zero_add,decide_eq_true (show(0:Int)<=(j:Int)by omega),Bool.true_and]
   cases hf:f j with
   |none=>exact .inl ⟨_,rfl,by simp⟩
   |some x=>
    have hap:app (bm 0 j f) [((j:Int),x)]=some (bm 0 j f++ [((j:Int),x)]):=qh (by simp;unfold cE;omega);simp only [Option.isSome_some,if_true,Option.getD_some,hap,zbS]
    exact .inl ⟨_,rfl,rfl⟩)
  (by
   rintro _ rfl
   exact⟨_,if_neg (by omega),rfl⟩) 0 (Nat.zero_le _) (0,[]) rfl
 rw [q1,q2,hnum];rfl
theorem kH{n:Nat}(h:n<=4096):fE (n:Int)=some (List.replicate ((n+63)/ 64) 0):=by
 unfold fE;have e:(((n:Int)+63)/ 64).toNat=(n+63)/ 64:=by omega
 have hlo:eP (((n:Int)+63)/ 64)=some ():=by unfold eP cE;rw [if_pos ⟨by omega,by omega⟩]
 simp only [nU (n:=(n:Int)) ⟨by omega,by omega⟩,hlo,zbS,e]
theorem kI(p:Nat):eC (p:Int)=some ((2 ^(p % 64):Nat):Int):=by
 unfold eC;simp only [Ef,zbS,LH]
theorem vP{ws:List Int}{p:Nat}(hu:mf ws)(hp:p / 64<ws.length):∃w,atL ws ((p / 64:Nat):Int)=some w/\(ws.set (p / 64) (orI .u64 w ((2 ^(p % 64):Nat):Int))).length=ws.length/\mf (ws.set (p / 64) (orI .u64 w ((2 ^(p % 64):Nat):Int)))/\∀i,eE (ws.set (p / 64) (orI .u64 w ((2 ^(p % 64):Nat):Int))) i=(eE ws i||decide (i=p)):=by
 have hw:=hu _ (List.getElem_mem hp);have hat:=rq hp;obtain⟨w,hw2⟩:=Int.eq_ofNat_of_zero_le hw.1;rw [hw2]at hw hat;have hwlt:w<18446744073709551616:=by have:=hw.2;omega
 have hk:p % 64<64:=Nat.mod_lt _ (by decide);have hpow:=Ao hk;have hor:=OI hwlt hpow;have horl:w|||2 ^(p % 64)<2 ^ 64:=Nat.or_lt_two_pow (by omega) (by omega);refine⟨(w:Int),hat,by simp,λx hx=> ?_,λi=> ?_⟩
 .rcases List.mem_or_eq_of_mem_set hx with hx|rfl
  .exact hu x hx
  .rw [hor];unfold gu;omega
 .rw [hor];by_cases e:i / 64=p / 64
  .rw [gN (ws:=ws.set _ _) e rfl (by rw [List.getElem?_set,if_pos rfl,if_pos hp]),gN e rfl (by rw [List.getElem?_eq_getElem hp,hw2])];simp only [Int.toNat_natCast];rw [Nat.testBit_or,Nat.testBit_two_pow];congr 1;by_cases e2:i=p
   .subst e2;simp
   .rw [decide_eq_false e2,decide_eq_false (by omega)]
  .have hne:(ws.set (p / 64) ((w|||2 ^(p % 64):Nat):Int))[i / 64]? =ws[i / 64]? :=by rw [List.getElem?_set,if_neg (Ne.symm e)]
   have e2:i≠p:=λh=>e (by rw [h]);rw [decide_eq_false e2,Bool.or_false];unfold eE;rw [hne]
theorem Cn{n:Nat}(hn:n<=4096){s:Sl Int}(hs:okS 1 s)(hl:s.l.length<=9223372036854775807):∃q,ga (n:Int) s=some q/\q.length=(n+63)/ 64/\mf q/\∀i,eE q i=(decide (i<n)&& decide ((i:Int)∈s.l)):=by
 unfold ga;rw [kH hn];simp only [zbS]
 obtain⟨q,q1,w,rfl,w1,w2,w3⟩:=eM (b:=gy (n:Int) s) s.l.length (λj st=>∃w:List Int,st=(w,(j:Int))/\w.length=(n+63)/ 64/\mf w/\∀i,eE w i=(decide (i<n)&& decide ((i:Int)∈s.l.take j))) (λq=>∃w:List Int,q= .inl w/\w.length=(n+63)/ 64/\mf w/\∀i,eE w i=(decide (i<n)&& decide ((i:Int)∈s.l)))
  (by
   rintro j _ hj ⟨w,rfl,g1,g2,g3⟩;have ej:=ez hs hj;have htk:s.l.take (j+1)=s.l.take j++ [s.l[j]]:=by rw [List.take_succ_eq_append_getElem hj]
   rw [htk];generalize s.l[j]=x at ej;simp only [gy,ej,zbS,gg hj hl];rw [if_pos (by omega)]
   have same:¬(0<=x/\x<(n:Int))->∀i,eE w i=(decide (i<n)&& decide ((i:Int)∈s.l.take j++ [x])):=λh i=>by
    rw [g3 i];by_cases hi:i<n
    .rw [decide_eq_true hi];simp only [Bool.true_and];congr 1;simp only [List.mem_append,List.mem_cons,List.not_mem_nil,or_false,eq_iff_iff];exact⟨.inl,λh1=>h1.resolve_right λe=>h (by omega)⟩
    .rw [decide_eq_false hi];rfl
   by_cases c1:x >= 0
   .rw [if_pos c1];by_cases c2:x<(n:Int)
    .rw [if_pos c2,if_pos (by omega)];obtain⟨p,rfl⟩:=Int.eq_ofNat_of_zero_le c1;obtain⟨v,v1,v2,v3,v4⟩:=vP (p:=p) g2 (by omega);simp only [pV (j:=p) (by omega),v1,kI,zbS,Int.toNat_natCast];refine .inl ⟨_,rfl,_,rfl,by rw [v2];exact g1,v3,λi=> ?_⟩;rw [v4 i,g3 i];by_cases hi:i<n
     .rw [decide_eq_true hi];simp only [Bool.true_and,List.mem_append,List.mem_cons,List.not_mem_nil,or_false,Bool.decide_or];congr 1;by_cases e:i=p
      .subst e;simp
      .rw [decide_eq_false e,decide_eq_false (by omega)]
     .rw [decide_eq_false hi,decide_eq_false (show¬i=p by omega)];rfl
    .rw [if_neg c2];exact .inl ⟨_,rfl,w,rfl,g1,g2,same (by omega)⟩
   .rw [if_neg c1]
    exact .inl ⟨_,rfl,w,rfl,g1,g2,same (by omega)⟩)
  (by
   rintro _ ⟨w,rfl,g1,g2,g3⟩;rw [List.take_length]at g3;refine⟨.inl w,?_,w,rfl,g1,g2,g3⟩;simp only [gy]
   rw [if_neg (by omega)]) 0 (Nat.zero_le _) (List.replicate ((n+63)/ 64) 0,0) ⟨_,rfl,by simp,λx hx=>by rw [List.eq_of_mem_replicate hx];unfold gu;omega,λi=>by rw [Cm];simp⟩
 exact⟨w,by rw [q1];rfl,w1,w2,w3⟩
theorem jB(v:Int×Sl It)(hok:okS 2 v.2)(hl:v.2.l.length<=9223372036854775807):cj v=some (bL v):=by
 have e:=iN v hok hl;obtain⟨n,s⟩:=v;unfold cj bL;simp only [e,zbS];split<;>rfl
theorem ug{v:Int×Sl It}(hok:okS 2 v.2)(hl:v.2.l.length<=9223372036854775807):eY v=some ((bL v).2.l.map (·.1)):=by
 have e:=jB v hok hl;have k1:=nL v;have k2:=Jb hok;obtain⟨n,s⟩:=v;unfold eY;simp only [e,zbS];generalize bL (n,s)=u at k1 k2;obtain⟨m,t⟩:=u;simp only at k1 k2 ⊢
 obtain⟨q,q1,q2⟩:=eM (b:=eV t) t.l.length (λj a=>a=((t.l.take j).map (·.1),(j:Int))) (λq=>q= .inl (t.l.map (·.1)))
  (by
   rintro j _ hj rfl;have ej:=ez k2 hj;have ap:app ((t.l.take j).map (·.1)) [t.l[j].1]=some ((t.l.take j).map (·.1)++ [t.l[j].1]):=qh (by simp;unfold cE;omega);simp only [eV,ej,ap,zbS,gg hj (by omega)];rw [if_pos (by omega)]
   exact .inl ⟨_,rfl,by rw [List.take_succ_eq_append_getElem hj,List.map_append];rfl⟩)
  (by
   rintro _ rfl
   exact⟨_,if_neg (by omega),by rw [List.take_length]⟩) 0 (Nat.zero_le _) ([],0) rfl
 rw [q1,q2];rfl
theorem Ei{k:Nat}{t:Sl It}(h:bK ((k:Int),t)=true)(p:Nat):(decide (p<k)&& decide ((p:Int)∈t.l.map (·.1)))=(dm (p:Int) t.l).isSome:=by
 cases hg:dm (p:Int) t.l with
 |none=>
  rw [decide_eq_false (p:=(p:Int)∈t.l.map (·.1)) (λhm=>by obtain⟨y,hy⟩:=mem_places.1 hm;rw [hg]at hy;simp at hy)];simp
 |some y=>
  have:=Ji h hg
  rw [decide_eq_true (mem_places.2 ⟨y,hg⟩),decide_eq_true (show p<k by omega)];rfl
theorem LK{n:Nat}{t:Sl It}(h:bK ((n:Int),t)=true)(hok:okS 2 t):bF (eZ t) (0,List.replicate n 0)=some (.inl (mz n λp=>(dm (p:Int) t.l).getD 0)):=by
 have hlen:=oC h;simp only at hlen;rw [Hv]
 obtain⟨q,q1,q2⟩:=eM (b:=eZ t) t.l.length (λj st=>st=((j:Int),mz n λp=>(dm (p:Int) (t.l.take j)).getD 0)) (λq=>q= .inl (mz n λp=>(dm (p:Int) t.l).getD 0))
  (by
   rintro j _ hj rfl;have ej:=ez hok hj;have hx:=Ci h hj;have htk:=Hr h hj;rw [List.take_succ_eq_append_getElem hj];generalize t.l[j]=x at ej hx htk;obtain⟨x1,x2⟩:=x;simp only at hx htk;obtain⟨p,rfl⟩:=Int.eq_ofNat_of_zero_le hx.1
   have hat:atL (mz n λp=>(dm (p:Int) (t.l.take j)).getD 0) (p:Int)=some ((dm (p:Int) (t.l.take j)).getD 0):=by
    unfold atL;rw [if_pos (by omega),Int.toNat_natCast,iU _ (by omega)]
   simp only [eZ,ej,zbS,hat,Int.toNat_natCast,gg hj (by omega)];rw [if_pos (by omega),vO _ _ (by omega)];refine .inl ⟨_,rfl,?_⟩;simp only [Prod.mk.injEq,true_and];refine pW λi hi=> ?_;rw [nS];by_cases e:i=p
   .subst e;rw [if_pos rfl,htk];simp [dm]
   .rw [if_neg e]
    have:dm (i:Int) [((p:Int),x2)]=none:=by unfold dm;rw [if_neg (by omega)];rfl
    rw [this]
    cases dm (i:Int) (t.l.take j)<;>rfl)
  (by
   rintro _ rfl;refine⟨_,?_,rfl⟩;simp only [eZ]
   rw [if_neg (by omega),List.take_length]) 0 (Nat.zero_le _) (0,mz n λ_=>0) rfl
 rw [q1,q2]
theorem Aq{v:Int×Sl It}(hok:okS 2 v.2)(hl:v.2.l.length<=9223372036854775807)(hi:∀x∈v.2.l,iP x.2):∃d:Dn,mw v=some d/\DV d (bL v).1.toNat λp=>dm (p:Int) (bL v).2.l:=by
 have e1:=iN v hok hl;have e2:=ug hok hl;by_cases hr:bK v=true
 .have es:bL v=v:=oD hr;rw [es]at e2 ⊢;have hz:=vK hr;obtain⟨m,t⟩:=v;simp only at hz hok hl e2 hi ⊢;obtain⟨n,rfl⟩:=Int.eq_ofNat_of_zero_le hz.1;have hlo:eP (n:Int)=some ():=by unfold eP cE;rw [if_pos ⟨by omega,by omega⟩]
  have hloop:=LK hr hok;have h56:jN t=eZ t:=rfl
  have fin:∀(s:Sl Int),okS 1 s->s.l=t.l.map (·.1)->∃q,ga (n:Int) s=some q/\DV ((n:Int),(⟨true,1,q⟩:Sl Int),(⟨true,1,mz n λp=>(dm (p:Int) t.l).getD 0⟩:Sl Int)) n λp=>dm (p:Int) t.l:=λs hs hsl=>by
   obtain⟨q,q1,q2,q3,q4⟩:=Cn (n:=n) (by omega) hs (by rw [hsl];simp;omega);refine⟨q,q1,rfl,by omega,.inr rfl,q3,q2,.inr rfl,rfl,λp=> ?_,λp hp=> ?_,λp x hx=>hi _ (Ap hx)⟩
   .rw [q4 p,hsl];exact Ei hr p
   .cases hg:dm (p:Int) t.l with
    |none=>rfl
    |some y=>have:=Ji hr hg;omega
  unfold mw;simp only [e1,hr,zbS,if_true];rw [if_neg (by omega),if_neg (by omega),kH (by omega)];simp only [hlo,zbS,e2,Int.toNat_natCast]
  cases hL:t.l.map (·.1)with
  |nil=>
   obtain⟨q,q1,q2⟩:=fin (⟨false,0,[]⟩:Sl Int) (.inl rfl) hL.symm;simp only [q1,hloop,zbS,Sum.elim_inl];exact⟨_,rfl,q2⟩
  |cons y z=>
   obtain⟨q,q1,q2⟩:=fin (⟨true,1,y::z⟩:Sl Int) (.inr rfl) hL.symm;simp only [q1,h56,hloop,zbS,Sum.elim_inl];exact⟨_,rfl,q2⟩
 .have es:bL v=(0,sb):=by unfold bL;rw [if_neg hr]
  rw [es];obtain⟨n,s⟩:=v;unfold mw;have hf:bK (n,s)=false:=by simpa using hr
  simp only [e1,hf,zbS,Bool.false_eq_true,if_false];exact⟨_,rfl,nilD_dv.congr λp=>rfl⟩
end Ev
end
noncomputable section
namespace Ev
open Go
theorem DV.sureD_eq{d:Dn}{n:Nat}{f:Nat->Option Int}(h:DV d n f):DV (lk d) n f:=by rw [Jh h.right];exact h
theorem xS{d:Dn}(h:OkD d){n:Nat}{f:Nat->Option Int}(hd:DV (lk d) n f){p:Int}(hp:iP p):kS d p=some (Jc (if 0<=p then f p.toNat else none)):=by
 have e:=hC h;obtain⟨n1,s1,t1⟩:=d;unfold kS;simp only [e,zbS];generalize lk (n1,s1,t1)=u at hd;have hh:=hd.has_eq hp;have hv:= @DV.val_at _ _ _ hd;have hno:=hd.none_;obtain⟨m,s,t⟩:=u;simp only at hh hv ⊢;rw [hh];simp only [zbS];by_cases h0:0<=p
 .rw [decide_eq_true h0,if_pos h0,Bool.true_and]
  cases hf:f p.toNat with
  |none=>rfl
  |some y=>
   have hlt:p.toNat<n:=by
    by_cases c:p.toNat<n
    .exact c
    .rw [hno _ (by omega)]at hf;simp at hf
   have:=hv hlt
   rw [Int.toNat_of_nonneg h0,hf]at this;simp only [Option.isSome_some,if_true,this,zbS];rfl
 .rw [decide_eq_false h0,if_neg h0];rfl
theorem DV.get{d:Dn}{n:Nat}{f:Nat->Option Int}(h:DV d n f){p:Int}(hp:iP p):kS d p=some (Jc (if 0<=p then f p.toNat else none)):=xS h.ok h.sureD_eq hp
end Ev
end
noncomputable section
namespace Ev
open Go
theorem GoodV.vec{v:Int×Sl It}(h:GoodV v):ko v.1.toNat (λp=>dm (p:Int) v.2.l)=v.2.l:=(Eb (n:=v.1) (s:=v.2) h.1).symm
end Ev
end
noncomputable section
namespace Ev
open Go
end Ev
end
noncomputable section
namespace Ev
open Go
theorem Co{n:Nat}{f:Nat->Option Int}{x:It}(h:x∈ko n f):∃p:Nat,p<n/\x.1=(p:Int)/\f p=some x.2:=by
 obtain⟨p,_,h2,h3,h4⟩:=oF h;exact⟨p,by omega,h3,h4⟩
theorem Cp{s:Sl Int}(hl:s.l.length<=15000):fQ s=some s.l:=by
 have hlo:eP ((s.l.length:Nat):Int)=some ():=by unfold eP cE;rw [if_pos ⟨by omega,by omega⟩]
 have hc:cpL (List.replicate s.l.length (0:Int)) s.l=some s.l:=by
  unfold cpL;rw [if_pos (by simp)];simp
 unfold fQ;simp only [hlo,zbS,Int.toNat_natCast,hc]
theorem su{s:Sl Int}{p:Nat}(hp:p<1000000):bJ s (p:Int)=some (decide (p / 64<s.l.length)):=by
 unfold bJ;rw [if_pos (by omega),pV hp];simp only [zbS];by_cases h:p / 64<s.l.length
 .rw [if_pos (by omega),decide_eq_true h]
 .rw [if_neg (by omega),decide_eq_false h]
theorem Ar{s:Sl Int}(hu:mf s.l)(hl:s.l.length<=15000){p:Nat}(hp:p / 64<s.l.length):∃q,kQ s (p:Int)=some q/\q.length=s.l.length/\mf q/\∀i,eE q i=(eE s.l i||decide (i=p)):=by
 obtain⟨w,w1,w2,w3,w4⟩:=vP hu hp;unfold kQ;rw [Cp hl];simp only [zbS];rw [su (by omega),decide_eq_true hp];simp only [zbS,if_true,pV (j:=p) (by omega),w1,kI,Int.toNat_natCast];exact⟨_,rfl,w2,w3,w4⟩
theorem Ej{a b:Nat}(ha:a<18446744073709551616)(hb:b<18446744073709551616):∃c:Nat,fW .u64 (a:Int) (b:Int)=(c:Int)/\c<18446744073709551616/\∀i,c.testBit i=(a.testBit i && !b.testBit i):=by
 have ea:(BitVec.ofInt 64 (a:Int)).toNat=a:=by rw [BitVec.toNat_ofInt];omega
 have eb:(BitVec.ofInt 64 (b:Int)).toNat=b:=by rw [BitVec.toNat_ofInt];omega
 refine⟨(BitVec.ofInt 64 (a:Int)&&& ~~~ BitVec.ofInt 64 (b:Int)).toNat,?_,?_,λi=> ?_⟩
 .unfold fW;have hb':IntKind.u64.bits=64:=rfl;rw [hb',wrap_u64]
  have:=(BitVec.ofInt 64 (a:Int)&&& ~~~ BitVec.ofInt 64 (b:Int)).isLt
  omega
 .have:=(BitVec.ofInt 64 (a:Int)&&& ~~~ BitVec.ofInt 64 (b:Int)).isLt
  omega
 .rw [BitVec.testBit_toNat,BitVec.getLsbD_and,BitVec.getLsbD_not,<-BitVec.testBit_toNat,<-BitVec.testBit_toNat,ea,eb];by_cases hi:i<64
  .rw [decide_eq_true hi,Bool.true_and]
  .have:a.testBit i=false:=Nat.testBit_lt_two_pow (Nat.lt_of_lt_of_le (show a<2 ^ 64 by omega) (Nat.pow_le_pow_right (by decide) (by omega)))
   rw [this];simp
theorem Hw{ws:List Int}{p:Nat}(hu:mf ws)(hp:p / 64<ws.length):∃w,atL ws ((p / 64:Nat):Int)=some w/\(ws.set (p / 64) (fW .u64 w ((2 ^(p % 64):Nat):Int))).length=ws.length/\mf (ws.set (p / 64) (fW .u64 w ((2 ^(p % 64):Nat):Int)))/\∀i,eE (ws.set (p / 64) (fW .u64 w ((2 ^(p % 64):Nat):Int))) i=(eE ws i && !decide (i=p)):=by
 have hw:=hu _ (List.getElem_mem hp);have hat:=rq hp;obtain⟨w,hw2⟩:=Int.eq_ofNat_of_zero_le hw.1;rw [hw2]at hw hat;have hk:p % 64<64:=Nat.mod_lt _ (by decide);obtain⟨c,c1,c2,c3⟩:=Ej (a:=w) (by have:=hw.2;omega) (Ao hk);refine⟨(w:Int),hat,by simp,λx hx=> ?_,λi=> ?_⟩
 .rcases List.mem_or_eq_of_mem_set hx with hx|rfl
  .exact hu x hx
  .rw [c1];unfold gu;omega
 .rw [c1];by_cases e:i / 64=p / 64
  .rw [gN (ws:=ws.set _ _) e rfl (by rw [List.getElem?_set,if_pos rfl,if_pos hp]),gN e rfl (by rw [List.getElem?_eq_getElem hp,hw2])];simp only [Int.toNat_natCast];rw [c3,Nat.testBit_two_pow];congr 2;by_cases e2:i=p
   .subst e2;simp
   .rw [decide_eq_false e2,decide_eq_false (by omega)]
  .have hne:(ws.set (p / 64) (c:Int))[i / 64]? =ws[i / 64]? :=by rw [List.getElem?_set,if_neg (Ne.symm e)]
   have e2:i≠p:=λh=>e (by rw [h]);rw [decide_eq_false e2,Bool.not_false,Bool.and_true];unfold eE;rw [hne]
theorem xT{s:Sl Int}(hu:mf s.l)(hl:s.l.length<=15000){p:Nat}(hp:p / 64<s.l.length):∃q,jn s (p:Int)=some q/\q.length=s.l.length/\mf q/\∀i,eE q i=(eE s.l i && !decide (i=p)):=by
 obtain⟨w,w1,w2,w3,w4⟩:=Hw hu hp;unfold jn;rw [Cp hl];simp only [zbS];rw [su (by omega),decide_eq_true hp];simp only [zbS,if_true,pV (j:=p) (by omega),w1,kI,Int.toNat_natCast];exact⟨_,rfl,w2,w3,w4⟩
def oZ(n:Nat)(f:Nat->Option Int)(p:Int)(v:Option Int):Nat->Option Int:=if 0<=p/\p<(n:Int)then nR f p.toNat v else f
theorem xU{d:Dn}(h:OkD d){n:Nat}{f:Nat->Option Int}(hd:DV (lk d) n f){p x:Int}(hx:iP x):∃e:Dn,kT d p x=some e/\DV e n (oZ n f p (some x)):=by
 have e:=hC h;obtain⟨n1,s1,t1⟩:=d;unfold kT;simp only [e,zbS];generalize lk (n1,s1,t1)=u at hd;have hle:=hd.le;have hnum:=hd.num;have hwl:=oI hd;have hvl:=hd.vlen;have hb:=hd.bits;have hat:=hd.at_;have hlen:=hd.len;have hnone:=hd.none_;have hv64:=hd.v64;have hvv:=hd.vl;obtain⟨m,a,t⟩:=u;simp only at hnum hwl hvl hb hat hlen hvv ⊢;subst hnum;have lo1:eP ((a.l.length:Nat):Int)=some ():=by unfold eP cE;rw [if_pos ⟨by omega,by omega⟩]
 have lo2:eP ((t.l.length:Nat):Int)=some ():=by unfold eP cE;rw [if_pos ⟨by omega,by omega⟩]
 have c1:cpL (List.replicate a.l.length (0:Int)) a.l=some a.l:=by unfold cpL;rw [if_pos (by simp)];simp
 have c2:cpL (List.replicate t.l.length (0:Int)) t.l=some t.l:=by unfold cpL;rw [if_pos (by simp)];simp
 simp only [lo1,lo2,zbS,Int.toNat_natCast,c1,c2];unfold oZ;have same:DV ((n:Int),(⟨true,1,a.l⟩:Sl Int),(⟨true,1,t.l⟩:Sl Int)) n f:=⟨rfl,hle,.inr rfl,hb,hlen,.inr rfl,hvv,hat,hnone,hv64⟩;by_cases z1:p >= 0
 .rw [if_pos z1];by_cases z2:p<(n:Int)
  .rw [if_pos z2,if_pos ⟨z1,z2⟩];obtain⟨k,rfl⟩:=Int.eq_ofNat_of_zero_le z1;obtain⟨q,q1,q2,q3,q4⟩:=Ar (s:=⟨true,1,a.l⟩) hb (by show a.l.length<=_;omega) (p:=k) (by show k / 64<a.l.length;omega);have ht:=rq (l:=t.l) (j:=k) (by omega);simp only [q1,ht,zbS,Int.toNat_natCast];refine⟨_,rfl,rfl,hle,.inr rfl,q3,by show q.length=_;rw [q2];exact hlen,.inr rfl,?_,λi=> ?_,λi hi=> ?_,λi y hy=> ?_⟩
   .show t.l.set k x=_;rw [hvv,vO _ _ (by omega)];refine pW λi hi=> ?_;unfold nR;split<;>rfl
   .show eE q i=_;rw [q4,hat];unfold nR;by_cases e:i=k
    .rw [if_pos e,decide_eq_true e];simp
    .rw [if_neg e,decide_eq_false e,Bool.or_false]
   .unfold nR;rw [if_neg (by omega),hnone i hi]
   .unfold nR at hy;split at hy
    .simp only [zsI]at hy;rw [<-hy];exact hx
    .exact hv64 i y hy
  .rw [if_neg z2,if_neg (λh=>z2 h.2)];exact⟨_,rfl,same⟩
 .rw [if_neg z1,if_neg (λh=>z1 h.1)];exact⟨_,rfl,same⟩
theorem vQ{d:Dn}(h:OkD d){n:Nat}{f:Nat->Option Int}(hd:DV (lk d) n f){p:Int}:∃e:Dn,jp d p=some e/\DV e n (oZ n f p none):=by
 have e:=hC h;obtain⟨n1,s1,t1⟩:=d;unfold jp;simp only [e,zbS];generalize lk (n1,s1,t1)=u at hd;have hle:=hd.le;have hnum:=hd.num;have hwl:=oI hd;have hvl:=hd.vlen;have hb:=hd.bits;have hat:=hd.at_;have hlen:=hd.len;have hnone:=hd.none_;have hv64:=hd.v64;have hvv:=hd.vl;obtain⟨m,a,t⟩:=u;simp only at hnum hwl hvl hb hat hlen hvv ⊢;subst hnum;have lo1:eP ((a.l.length:Nat):Int)=some ():=by unfold eP cE;rw [if_pos ⟨by omega,by omega⟩]
 have lo2:eP ((t.l.length:Nat):Int)=some ():=by unfold eP cE;rw [if_pos ⟨by omega,by omega⟩]
 have c1:cpL (List.replicate a.l.length (0:Int)) a.l=some a.l:=by unfold cpL;rw [if_pos (by simp)];simp
 have c2:cpL (List.replicate t.l.length (0:Int)) t.l=some t.l:=by unfold cpL;rw [if_pos (by simp)];simp
 simp only [lo1,lo2,zbS,Int.toNat_natCast,c1,c2];unfold oZ;have same:DV ((n:Int),(⟨true,1,a.l⟩:Sl Int),(⟨true,1,t.l⟩:Sl Int)) n f:=⟨rfl,hle,.inr rfl,hb,hlen,.inr rfl,hvv,hat,hnone,hv64⟩;by_cases z1:p >= 0
 .rw [if_pos z1];by_cases z2:p<(n:Int)
  .rw [if_pos z2,if_pos ⟨z1,z2⟩];obtain⟨k,rfl⟩:=Int.eq_ofNat_of_zero_le z1;obtain⟨q,q1,q2,q3,q4⟩:=xT (s:=⟨true,1,a.l⟩) hb (by show a.l.length<=_;omega) (p:=k) (by show k / 64<a.l.length;omega);have ht:=rq (l:=t.l) (j:=k) (by omega);simp only [q1,ht,zbS,Int.toNat_natCast];refine⟨_,rfl,rfl,hle,.inr rfl,q3,by show q.length=_;rw [q2];exact hlen,.inr rfl,?_,λi=> ?_,λi hi=> ?_,λi y hy=> ?_⟩
   .show t.l.set k 0=_;rw [hvv,vO _ _ (by omega)];refine pW λi hi=> ?_;unfold nR;split<;>rfl
   .show eE q i=_;rw [q4,hat];unfold nR;by_cases e:i=k
    .rw [if_pos e,decide_eq_true e];simp
    .rw [if_neg e,decide_eq_false e,Bool.not_false,Bool.and_true]
   .unfold nR;rw [if_neg (by omega),hnone i hi]
   .unfold nR at hy;split at hy
    .simp at hy
    .exact hv64 i y hy
  .rw [if_neg z2,if_neg (λh=>z2 h.2)];exact⟨_,rfl,same⟩
 .rw [if_neg z1,if_neg (λh=>z1 h.1)];exact⟨_,rfl,same⟩
end Ev
end
noncomputable section
namespace Ev
open Go
theorem LL{x:Nat}(h0:x≠0)(h:x<18446744073709551616):∃k:Nat,TZ (x:Int)=some (k:Int)/\k<64/\x.testBit k=true/\(∀i,i<k->x.testBit i=false)/\sK .u64 (x:Int) (IntKind.u64.wrap ((x:Int) - 1))=((x &&&(x - 1):Nat):Int)/\∀i,(x &&&(x - 1)).testBit i=(x.testBit i && !decide (i=k)):=by
 obtain⟨m,e1,e2⟩:=Lib.ctzFrom_spec 64 x (by omega) (by omega);have ec:Lib.ctz 64 x=Lib.ctzFrom 64 x:=by unfold Lib.ctz;rw [if_neg h0]
 generalize hk:Lib.ctzFrom 64 x=k at e1 e2 ec;have hpos:0<2 ^ k:=Nat.two_pow_pos k;have hx:∀i,x.testBit i=(decide (i >= k)&&(2*m+1).testBit (i - k)):=λi=>by rw [e1,Nat.testBit_two_pow_mul]
 have hx1:x - 1=2 ^ k*(2*m)+(2 ^ k - 1):=by
  rw [e1,Nat.mul_add,Nat.mul_one];omega
 have hy:∀i,(x - 1).testBit i=if i<k then(2 ^ k - 1).testBit i else(2*m).testBit (i - k):=λi=>by
  rw [hx1,Nat.testBit_two_pow_mul_add _ (by omega)]
 have odd:∀j,(2*m+1).testBit j=if j=0 then true else m.testBit (j - 1):=λj=>by
  cases j with
  |zero=>rw [if_pos rfl,Nat.testBit_zero];simp
  |succ j=>rw [if_neg (by omega),Nat.testBit_succ,show(2*m+1)/ 2=m by omega];rfl
 have even:∀j,(2*m).testBit j=if j=0 then false else m.testBit (j - 1):=λj=>by
  cases j with
  |zero=>rw [if_pos rfl,Nat.testBit_zero];simp
  |succ j=>rw [if_neg (by omega),Nat.testBit_succ,show(2*m)/ 2=m by omega];rfl
 refine⟨k,?_,e2,?_,λi hi=> ?_,?_,λi=> ?_⟩
 .unfold TZ;rw [if_pos (by omega),Int.toNat_natCast,ec]
 .rw [hx,decide_eq_true (by omega),odd,if_pos (by omega)];rfl
 .rw [hx,decide_eq_false (by omega)];rfl
 .have e3:IntKind.u64.wrap ((x:Int) - 1)=((x - 1:Nat):Int):=by rw [wrap_u64];omega
  rw [e3,FT h (by omega)]
 .rw [Nat.testBit_and,hx,hy];rcases Nat.lt_trichotomy i k with c|c|c
  .rw [decide_eq_false (show¬i >= k by omega)];rfl
  .subst c;rw [if_neg (by omega),even,if_pos (by omega),decide_eq_true (show i=i from rfl)];simp
  .rw [decide_eq_true (show i >= k by omega),if_neg (by omega),odd,even,if_neg (by omega),if_neg (by omega),decide_eq_false (show¬i=k by omega)];cases m.testBit (i - k - 1)<;>rfl
def vR(ws:List Int)(F T B:Nat)(l:List Int):Prop:=l.length=(T+63)/ 64/\mf l/\∀q,eE l q=(decide (q<T)&&(eE ws (q+F)&& decide (q+F<B)))
theorem LM{ws:List Int}{F To i w:Nat}(hFT:F<To)(hTo:To<=4096)(hi:i<64)(hw:w<18446744073709551616)(hws:∀k,k<64->eE ws (64*i+k)=w.testBit k){l:List Int}(hl:vR ws F (To - F) (64*i) l):
  ∃r,bF (dJ (F:Int) (To:Int) (i:Int)) ((w:Int),l)=some r/\((∃l',r= .inl l'/\∃B,To<=B/\vR ws F (To - F) B l')∨∃l',r= .inr (.inl l')/\vR ws F (To - F) (64*(i+1)) l'):=by
 have hmax:aT (F:Int) 0=(F:Int):=by unfold aT;rw [if_neg (by omega)]
 refine eM (b:=dJ (F:Int) (To:Int) (i:Int)) 64 (λj a=>∃t w':Nat,∃l:List Int,j<=t/\t<=64/\a=((w':Int),l)/\w'<18446744073709551616/\(∀k,w'.testBit k=(w.testBit k && decide (t<=k)))/\vR ws F (To - F) (64*i+t) l) _ ?_ ?_ 0 (Nat.zero_le _) _ ⟨0,w,l,Nat.le_refl _,by omega,rfl,hw,λk=>by simp,hl⟩
 .rintro j _ hj ⟨t,w',l,t1,t2,rfl,w1,w2,l1,l2,l3⟩;by_cases h0:w'=0
  .subst h0;refine .inr ⟨.inr (.inl l),by unfold dJ;simp only;rw [if_neg (by omega)],.inr ⟨l,rfl,l1,l2,λq=> ?_⟩⟩;rw [l3 q];by_cases c:64*i+t<=q+F/\q+F<64*(i+1)
   .have e:=hws (q+F - 64*i) (by omega);rw [show 64*i+(q+F - 64*i)=q+F by omega]at e;have e2:=w2 (q+F - 64*i);rw [Nat.zero_testBit,decide_eq_true (show t<=q+F - 64*i by omega),Bool.and_true]at e2;rw [e,<-e2];simp
   .rw [show decide (q+F<64*i+t)=decide (q+F<64*(i+1))by simp only [decide_eq_decide];omega]
  .obtain⟨k,k1,k2,k3,k4,k5,k6⟩:=LL h0 w1;have hk3:=w2 k;rw [k3]at hk3
   have hwk:w.testBit k=true:=by cases hb:w.testBit k with|true=>rfl|false=>rw [hb]at hk3;simp at hk3
   have htk:t<=k:=by
    rw [hwk]at hk3;simpa using hk3.symm
   have hlow:∀k',t<=k'->k'<k->w.testBit k'=false:=λk' c1 c2=>by
    have:=w2 k'
    rw [k4 k' c2,decide_eq_true c1,Bool.and_true]at this;exact this.symm
   have hgap:∀p,64*i+t<=p->p<64*i+k->eE ws p=false:=λp c1 c2=>by
    have e:=hws (p - 64*i) (by omega);rw [show 64*i+(p - 64*i)=p by omega]at e;rw [e];exact hlow _ (by omega) (by omega)
   have e1:IntKind.i64.wrap ((i:Int)*64)=((64*i:Nat):Int):=by rw [wrap64 (by omega) (by omega)];omega
   have e2:IntKind.i64.wrap (((64*i:Nat):Int)+(k:Int))=((64*i+k:Nat):Int):=by rw [wrap64 (by omega) (by omega)];omega
   have hle2:w' &&&(w' - 1)<=w':=Nat.and_le_left
   have w2':∀k',(w' &&&(w' - 1)).testBit k'=(w.testBit k' && decide (k+1<=k')):=λk'=>by
    rw [k6,w2];rcases Nat.lt_trichotomy k' k with c|c|c
    .rw [decide_eq_false (show¬k+1<=k' by omega)];by_cases c2:t<=k'
     .rw [hlow k' c2 c];simp
     .rw [decide_eq_false c2];simp
    .subst c;simp
    .rw [decide_eq_true (show t<=k' by omega),decide_eq_true (show k+1<=k' by omega),decide_eq_false (show¬k'=k by omega)];simp
   unfold dJ;simp only [k1,zbS,e1,e2,hmax];rw [if_pos (by omega)];by_cases z1:To<=64*i+k
   .rw [if_pos (by omega)];refine .inr ⟨_,rfl,.inl ⟨l,rfl,64*i+k,z1,l1,l2,λq=> ?_⟩⟩;rw [l3 q];by_cases c:64*i+t<=q+F/\q+F<64*i+k
    .rw [hgap _ c.1 c.2];simp
    .rw [show decide (q+F<64*i+t)=decide (q+F<64*i+k)by simp only [decide_eq_decide];omega]
   .rw [if_neg (by omega)];by_cases z2:F<=64*i+k
    .have e3:IntKind.i64.wrap (((64*i+k:Nat):Int) - (F:Int))=((64*i+k - F:Nat):Int):=by rw [wrap64 (by omega) (by omega)];omega
     rw [if_pos (by omega),e3];have hin:(64*i+k - F)/ 64<l.length:=by rw [l1];omega
     obtain⟨v,v1,v2,v3,v4⟩:=vP (p:=64*i+k - F) l2 hin;rw [su (s:=⟨true,1,l⟩) (by omega)];simp only [decide_eq_true hin,zbS,if_true,pV (j:=64*i+k - F) (by omega),v1,kI,k5,Int.toNat_natCast];refine .inl ⟨_,rfl,k+1,_,_,by omega,by omega,rfl,by omega,w2',by rw [v2];exact l1,v3,λq=> ?_⟩;rw [v4,l3 q];by_cases c:q=64*i+k - F
     .have e:=hws k k2;rw [hwk]at e;rw [decide_eq_true c,show q+F=64*i+k by omega,e,decide_eq_true (show q<To - F by omega),decide_eq_true (show 64*i+k<64*i+(k+1)by omega)];simp
     .rw [decide_eq_false c,Bool.or_false];by_cases c2:64*i+t<=q+F/\q+F<64*i+k
      .rw [hgap _ c2.1 c2.2];simp
      .rw [show decide (q+F<64*i+t)=decide (q+F<64*i+(k+1))by simp only [decide_eq_decide];omega]
    .rw [if_neg (by omega),k5];refine .inl ⟨_,rfl,k+1,_,l,by omega,by omega,rfl,by omega,w2',l1,l2,λq=> ?_⟩;rw [l3 q,show decide (q+F<64*i+t)=decide (q+F<64*i+(k+1))by simp only [decide_eq_decide];omega]
 .rintro _ ⟨t,w',l,t1,t2,rfl,w1,w2,l1,l2,l3⟩
  have h0:w'=0:=Nat.eq_of_testBit_eq λk=>by
   rw [w2,Nat.zero_testBit];by_cases hk:k<64
   .rw [decide_eq_false (by omega)];simp
   .have:w.testBit k=false:=by
     cases hb:w.testBit k with
     |false=>rfl
     |true=>exact absurd (Eg hw hb) hk
    rw [this];rfl
  subst h0;obtain rfl:t=64:=by omega
  exact⟨.inr (.inl l),by unfold dJ;simp only;rw [if_neg (by omega)],.inr ⟨l,rfl,l1,l2,l3⟩⟩
theorem xV{s:Sl Int}(hs:okS 1 s)(hu:mf s.l)(hl:s.l.length<=64){F To:Nat}(hFT:F<To)(hTo:To<=4096):∃q,iq s (F:Int) (To:Int)=some q/\q.length=(To - F+63)/ 64/\mf q/\∀i,eE q i=(decide (i<To - F)&& eE s.l (i+F)):=by
 have hmax:aT (F:Int) 0=(F:Int):=by unfold aT;rw [if_neg (by omega)]
 have e1:IntKind.i64.wrap ((To:Int) - (F:Int))=((To - F:Nat):Int):=by rw [wrap64 (by omega) (by omega)];omega
 unfold iq;rw [hmax,if_neg (by omega),e1,kH (by omega)];simp only [zbS]
 have done:∀l B,(To<=B∨64*s.l.length<=B)->vR s.l F (To - F) B l->l.length=(To - F+63)/ 64/\mf l/\∀i,eE l i=(decide (i<To - F)&& eE s.l (i+F)):=λl B hB ⟨h1,h2,h3⟩=>by
  refine⟨h1,h2,λi=> ?_⟩;rw [h3 i];by_cases c:i<To - F
  .by_cases c2:i+F<B
   .rw [decide_eq_true c2,Bool.and_true]
   .rw [nT (ws:=s.l) (p:=i+F) (by omega)];simp
  .rw [decide_eq_false c];rfl
 obtain⟨r,r1,r2⟩:=eM (b:=fy s (F:Int) (To:Int)) s.l.length (λj a=>∃l,a=((j:Int),l)/\vR s.l F (To - F) (64*j) l) (λr=>∃l B,(r= .inl l∨r= .inr (.inl l))/\(To<=B∨64*s.l.length<=B)/\vR s.l F (To - F) B l)
  (by
   rintro j _ hj ⟨l,rfl,hP⟩;have ej:=ez hs hj;have hw:=hu _ (List.getElem_mem hj);obtain⟨w,hw2⟩:=Int.eq_ofNat_of_zero_le hw.1;have hwlt:=hw.2;rw [hw2]at ej hwlt;obtain⟨q,q1,q2⟩:=LM (ws:=s.l) hFT hTo (i:=j) (w:=w) (by omega) (by omega) (λk hk=>by rw [gN (i:=j) (k:=k) (by omega) (by omega) (List.getElem?_eq_getElem hj),hw2,Int.toNat_natCast]) hP;simp only [fy,ej,q1,zbS];rw [if_pos (by omega)];rcases q2 with⟨l',rfl,B,b1,b2⟩|⟨l',rfl,b2⟩
   .exact .inr ⟨_,rfl,l',B,.inl rfl,.inl b1,b2⟩
   .refine .inl ⟨_,?_,l',rfl,b2⟩
    simp only [Sum.elim_inr,Sum.elim_inl,gg hj (by omega)])
  (by
   rintro _ ⟨l,rfl,hP⟩;refine⟨.inr (.inl l),?_,l,_,.inr rfl,.inr (Nat.le_refl _),hP⟩;simp only [fy]
   rw [if_neg (by omega)]) 0 (Nat.zero_le _) (0,List.replicate ((To - F+63)/ 64) 0) ⟨_,rfl,by simp,λx hx=>by rw [List.eq_of_mem_replicate hx];unfold gu;omega,λq=>by rw [Cm];simp⟩
 rw [r1];obtain⟨l,B,hr,hB,hP⟩:=r2;refine⟨l,?_,done l B hB hP⟩;rcases hr with rfl|rfl<;>rfl
def lP(n:Nat)(a b:Int):Nat:=min b.toNat n - a.toNat
def mA(n:Nat)(f:Nat->Option Int)(a b:Int):Nat->Option Int:=λp=>if p<lP n a b then f (p+a.toNat)else none
theorem vS(n:Nat)(f:Nat->Option Int)(a b:Int):∀p,lP n a b<=p->mA n f a b p=none:=λp hp=>by unfold mA;rw [if_neg (by omega)]
theorem Hx{n:Nat}{f:Nat->Option Int}(h:∀p x,f p=some x->iP x)(a b:Int):∀p x,mA n f a b p=some x->iP x:=λp x hx=>by
 unfold mA at hx;split at hx
 .exact h _ x hx
 .simp at hx
theorem Hy{n:Nat}{f:Nat->Option Int}{a b:Int}(h:lP n a b=0):mA n f a b=λ_=>none:=funext λp=>vS n f a b p (by omega)
theorem vT(n:Nat)(a b:Int):(bM b (n:Int)<=aT a 0/\lP n a b=0)∨(¬bM b (n:Int)<=aT a 0/\∃F To:Nat,aT a 0=(F:Int)/\bM b (n:Int)=(To:Int)/\F<To/\To<=n/\a.toNat=F/\lP n a b=To - F):=by
 unfold bM aT lP;by_cases c:(if(n:Int)<b then(n:Int)else b)<=(if 0>a then 0 else a)
 .refine .inl ⟨c,?_⟩;split at c<;>split at c<;>omega
 .refine .inr ⟨c,a.toNat,min b.toNat n,?_,?_,?_,by omega,rfl,rfl⟩
  .split<;>omega
  .split at c<;>split at c<;>split<;>omega
  .split at c<;>split at c<;>omega
theorem vU{d:Dn}(h:OkD d){n:Nat}{f:Nat->Option Int}(hd:DV (lk d) n f)(a b:Int):∃e:Dn,jq d a b=some e/\DV e (lP n a b) (mA n f a b):=by
 have e:=hC h;obtain⟨n1,s1,t1⟩:=d;unfold jq;simp only [e,zbS];generalize lk (n1,s1,t1)=u at hd;have hle:=hd.le;have hnum:=hd.num;have hwl:=oI hd;have hvl:=hd.vlen;have hb:=hd.bits;have hat:=hd.at_;have hhas:=hd.has;have hvals:=hd.vals;have hv64:=hd.v64;have hvv:=hd.vl;obtain⟨m,s,t⟩:=u;simp only at hnum hwl hvl hb hat hvv hhas hvals ⊢;subst hnum;rcases vT n a b with⟨c1,c2⟩|⟨c1,F,To,c2,c3,c4,c5,c6,c7⟩
 .rw [if_pos c1,Hy c2,c2];exact⟨_,rfl,nilD_dv⟩
 .rw [if_neg c1,c2,c3,c7];have e1:IntKind.i64.wrap ((To:Int) - (F:Int))=((To - F:Nat):Int):=by rw [wrap64 (by omega) (by omega)];omega
  have hlo:eP ((To - F:Nat):Int)=some ():=by unfold eP cE;rw [if_pos ⟨by omega,by omega⟩]
  obtain⟨q,q1,q2,q3,q4⟩:=xV hhas hb hwl c4 (by omega);have hsz:t.sz=1:=hvals.resolve_left (by intro h;rw [h]at hvl;simp at hvl;omega)
  have hcut:pc 1 t (F:Int) (To:Int)=some ⟨t.nn,t.sz,(t.l.drop F).take (To - F)⟩:=by
   unfold pc;rw [if_pos ⟨by omega,by omega,by omega,.inl hsz⟩,Int.toNat_natCast,Int.toNat_natCast]
  have hlen:((t.l.drop F).take (To - F)).length=To - F:=by simp;omega
  have hcp:cpL (List.replicate (To - F) (0:Int)) ((t.l.drop F).take (To - F))=some ((t.l.drop F).take (To - F)):=by
   unfold cpL;rw [if_pos (by rw [hlen];simp),hlen];simp
  rw [e1,if_neg (by omega),if_neg (by omega),kH (by omega)];simp only [hlo,q1,hcut,zbS,Int.toNat_natCast,hcp]
  have hpf:∀p,mA n f a b p=if p<To - F then f (p+F)else none:=λp=>by unfold mA;rw [c7,c6]
  refine⟨_,rfl,rfl,by omega,.inr rfl,q3,by exact q2,.inr rfl,?_,λp=> ?_,?_,Hx hv64 a b⟩
  .show(t.l.drop F).take (To - F)=_;refine List.ext_getElem? λi=> ?_;by_cases hi:i<To - F
   .rw [List.getElem?_take,if_pos hi,List.getElem?_drop,hvv,iU _ (by omega),iU _ hi,hpf,if_pos hi,Nat.add_comm F i]
   .rw [List.getElem?_eq_none (by rw [hlen];omega),List.getElem?_eq_none (by rw [jQ];omega)]
  .show eE q p=_;rw [q4,hpf,hat];by_cases hi:p<To - F
   .rw [decide_eq_true hi,if_pos hi];rfl
   .rw [decide_eq_false hi,if_neg hi];rfl
  .have:=vS n f a b
   rwa [c7]at this
end Ev
end
noncomputable section
namespace Ev
open Go
theorem Jj{n:Int}(h1:0<=n)(h2:n<=18446744073709551615):IntKind.u64.wrap n=n:=by rw [wrap_u64];omega
theorem Hz(n:Nat):uh .u64 (n:Int) 1=some ((n / 2:Nat):Int):=by
 unfold uh Ka;rw [if_pos (by omega),show((2:Int)^(min (1:Int).toNat IntKind.u64.bits))=2 from by decide,Int.fdiv_eq_ediv_of_nonneg _ (by omega)];rfl
theorem mu{n:Int}:∀{a:Int} {l:List It},asc a n l=true->l.Pairwise λx y=>x.1<y.1
 |a,[],_=>List.Pairwise.nil
 |a,x::l,h=>by
  have h2:asc x.1 n l=true:=by simp only [asc,Bool.and_eq_true]at h;exact h.2
  exact List.pairwise_cons.2 ⟨λy hy=>(vH h2 y hy).1,mu h2⟩
theorem re{v:Int×Sl It}(hok:okS 2 v.2)(hl:v.2.l.length<=5000)(hs:v.2.l.Pairwise λa b=>a.1<b.1)(y:Int):∃k:Nat,k<=v.2.l.length/\bY v y=some ((k:Int),decide (v.2.l[k]?.map (·.1)=some y))/\(∀j (hj:j<v.2.l.length),j<k->v.2.l[j].1<y)/\(∀j (hj:j<v.2.l.length),k<=j->y<=v.2.l[j].1):=by
 obtain⟨n,s⟩:=v;simp only at hok hl hs;have hp:=List.pairwise_iff_getElem.1 hs
 have key:∀d a b:Nat,b - a<=d->a<=b->b<=s.l.length->(∀j (hj:j<s.l.length),j<a->s.l[j].1<y)->(∀j (hj:j<s.l.length),b<=j->y<=s.l[j].1)->∃k:Nat,k<=s.l.length/\bF (bu s y) ((a:Int),(b:Int))=some (.inl (k:Int))/\(∀j (hj:j<s.l.length),j<k->s.l[j].1<y)/\(∀j (hj:j<s.l.length),k<=j->y<=s.l[j].1):=by
  intro d
  induction d with
  |zero=>
   intro a b hd hab hb h1 h2;obtain rfl:a=b:=by omega
   refine⟨a,hb,ir ?_,h1,h2⟩;simp only [bu];rw [if_neg (by omega)]
  |succ d ih=>
   intro a b hd hab hb h1 h2;by_cases hlt:a<b
   .have hmid:(a+b)/ 2<s.l.length:=by omega
    have e1:IntKind.i64.wrap ((a:Int)+(b:Int))=((a+b:Nat):Int):=by rw [wrap64 (by omega) (by omega)];omega
    have e2:IntKind.u64.wrap ((a+b:Nat):Int)=((a+b:Nat):Int):=by rw [Jj (by omega) (by omega)]
    have e3:=Hz (a+b);have e4:IntKind.i64.wrap (((a+b)/ 2:Nat):Int)=(((a+b)/ 2:Nat):Int):=by rw [wrap64 (by omega) (by omega)]
    have e5:IntKind.i64.wrap ((((a+b)/ 2:Nat):Int)+1)=(((a+b)/ 2+1:Nat):Int):=by rw [wrap64 (by omega) (by omega)];omega
    have a1:=ez hok hmid;by_cases hc:s.l[(a+b)/ 2].1 >= y
    .obtain⟨k,k1,k2,k3,k4⟩:=ih a ((a+b)/ 2) (by omega) (by omega) (by omega) h1 (λj hj hja=>by
      by_cases hjm:j=(a+b)/ 2
      .subst hjm;omega
      .have:=hp ((a+b)/ 2) j hmid hj (by omega);omega)
     refine⟨k,k1,(jv ?_).trans k2,k3,k4⟩;simp only [bu,e1,e2,e3,e4,a1,zbS];rw [if_pos (by omega),if_pos hc]
    .obtain⟨k,k1,k2,k3,k4⟩:=ih ((a+b)/ 2+1) b (by omega) (by omega) hb (λj hj hja=>by
      by_cases hjm:j=(a+b)/ 2
      .subst hjm;omega
      .have:=hp j ((a+b)/ 2) hj hmid (by omega);omega) h2
     refine⟨k,k1,(jv ?_).trans k2,k3,k4⟩;simp only [bu,e1,e2,e3,e4,a1,zbS];rw [if_pos (by omega),if_neg hc,e5]
   .obtain rfl:a=b:=by omega
    exact ih a a (by omega) hab hb h1 h2
 obtain⟨k,k1,k2,k3,k4⟩:=key s.l.length 0 s.l.length (by omega) (by omega) (Nat.le_refl _) (λj _ h=>by omega) (λj hj h=>by omega);refine⟨k,k1,?_,k3,k4⟩;unfold bY;simp only;rw [show bF (bu s y) (0,((s.l.length:Nat):Int))=some (.inl (k:Int))from k2];simp only [zbS,Sum.elim_inl];by_cases hk:k<s.l.length
 .rw [if_pos (by omega),ez hok hk];simp only [zbS,List.getElem?_eq_getElem hk,Option.map_some,zsI];by_cases he:s.l[k].1=y
  .rw [if_pos he,decide_eq_true he]
  .rw [if_neg he,decide_eq_false he]
 .rw [if_neg (by omega),List.getElem?_eq_none (by omega)];simp
theorem mB{v:Int×Sl It}(hok:okS 2 v.2)(hl:v.2.l.length<=5000)(hs:v.2.l.Pairwise λa b=>a.1<b.1){y:Int}{A B:List It}(e:v.2.l=A++B)(hA:∀x∈A,x.1<y)(hB:∀x∈B,y<=x.1):∃b,bY v y=some ((A.length:Int),b):=by
 obtain⟨k,k1,k2,k3,k4⟩:=re hok hl hs y
 have:k=A.length:=by
  rcases Nat.lt_trichotomy k A.length with h|h|h
  .have h1:=k4 k (by rw [e,List.length_append];omega) (Nat.le_refl _)
   have h2:v.2.l[k]'(by rw [e,List.length_append];omega)=A[k]:=by
    simp only [e];exact List.getElem_append_left h
   rw [h2]at h1
   have:=hA _ (List.getElem_mem h)
   omega
  .exact h
  .have hB0:0<B.length:=by rw [e,List.length_append]at k1;omega
   have h1:=k3 A.length (by rw [e,List.length_append];omega) h
   have h2:v.2.l[A.length]'(by rw [e,List.length_append];omega)=B[0]:=by
    simp only [e];rw [List.getElem_append_right (Nat.le_refl _)];simp
   rw [h2]at h1
   have:=hB _ (List.getElem_mem hB0)
   omega
 subst this;exact⟨_,k2⟩
theorem LN{α:Type}{A:List α}{z x:α}{m:Nat}:(A++List.replicate (m+1) z).set A.length x=(A++ [x])++List.replicate m z:=by
 rw [List.set_append_right _ _ (Nat.le_refl _),Nat.sub_self,List.replicate_succ];simp
theorem xW{s:Sl It}(hok:okS 2 s)(hl:s.l.length<=5000)(d:Int):gw s d=some (s.l.map λx=>(IntKind.i64.wrap (x.1+d),x.2)):=by
 unfold gw;rw [show eP ((s.l.length:Nat):Int)=some ()by unfold eP cE;rw [if_pos ⟨by omega,by omega⟩]];simp only [zbS,Int.toNat_natCast]
 obtain⟨q,q1,rfl⟩:=eM (b:=fK s d) s.l.length (λj a=>a=((s.l.take j).map (λx=>(IntKind.i64.wrap (x.1+d),x.2))++List.replicate (s.l.length - j) ((0,0):Int×Int),(j:Int))) (λq=>q= .inl (s.l.map λx=>(IntKind.i64.wrap (x.1+d),x.2)))
  (by
   rintro j _ hj rfl;have a1:=ez hok hj;have hm:s.l.length - j=(s.l.length - (j+1))+1:=by omega
   have hA:((s.l.take j).map (λx=>(IntKind.i64.wrap (x.1+d),x.2))).length=j:=by rw [List.length_map,List.length_take];omega
   have a2:atL ((s.l.take j).map (λx=>(IntKind.i64.wrap (x.1+d),x.2))++List.replicate (s.l.length - j) ((0,0):Int×Int)) (j:Int)=some (0,0):=by
    have hlt:j<((s.l.take j).map (λx=>(IntKind.i64.wrap (x.1+d),x.2))++List.replicate (s.l.length - j) ((0,0):Int×Int)).length:=by rw [List.length_append,hA,List.length_replicate];omega
    rw [rq hlt,List.getElem_append_right (by omega)];simp
   refine .inl ⟨_,?_,rfl⟩;simp only [fK];rw [if_pos (by omega),a1];simp only [zbS];rw [a2];simp only [zbS,Int.toNat_natCast];rw [gg hj (by omega),hm,List.take_succ_eq_append_getElem hj,List.map_append];refine congrArg some (congrArg Sum.inl (Prod.ext ?_ rfl))
   have:=LN (A:=(s.l.take j).map (λx=>(IntKind.i64.wrap (x.1+d),x.2))) (z:=((0,0):Int×Int)) (x:=(IntKind.i64.wrap (s.l[j].1+d),s.l[j].2)) (m:=s.l.length - (j+1))
   rw [hA]at this
   exact this)
  (by
   rintro _ rfl;refine⟨_,if_neg (show¬((s.l.length:Nat):Int)<((s.l.length:Nat):Int)by omega),?_⟩
   simp) 0 (Nat.zero_le _) (List.replicate s.l.length ((0,0):Int×Int),0) (by simp)
 rw [q1];rfl
structure VS(v:Int×Sl It)(n:Nat)(f:Nat->Option Int):Prop where
 num:v.1=(n:Int)
 le:n<=4096
 ok:okS 2 v.2
 l:v.2.l=ko n f
 v64:∀p x,f p=some x->iP x
section
variable {v w : Int × Sl It} {n m : Nat} {f g : Nat → Option Int}
theorem VS.len(h:VS v n f):v.2.l.length<=4096:=by
 rw [h.l]
 have:=oH 0 n f
 have:=h.le
 unfold ko;omega
theorem VS.right(h:VS v n f):bK v=true:=by
 have:=Ec (n:=v.1) (s:=v.2) (g:=f) (by rw [h.num];omega) (by have:=h.le;rw [h.num];omega) (by rw [h.num,Int.toNat_natCast];exact h.l)
 exact this
theorem VS.sure(h:VS v n f):cj v=some v:=by
 have:=h.len
 rw [jB v h.ok (by omega),oD h.right]
theorem VS.asc(h:VS v n f):v.2.l.Pairwise λa b=>a.1<b.1:=by
 have:=h.right
 simp only [bK,Bool.and_eq_true]at this;exact mu this.2
theorem GoodV.vs(h:GoodV v):VS v v.1.toNat λp=>dm (p:Int) v.2.l:=by
 have hz:=vK h.1;exact⟨by omega,by omega,h.2.1,h.vec.symm,λp x hp=>h.2.2 _ (Ap hp)⟩
theorem Ek{F T n:Nat}(h1:F<=T)(h2:T<=n)(f:Nat->Option Int):ko n f=bm 0 F f++bm F (T - F) f++bm T (n - T) f:=by
 have a:=my 0 F (n - F) f;have b:=my F (T - F) (n - T) f;rw [show F+(n - F)=n by omega,Nat.zero_add]at a;rw [show T - F+(n - T)=n - F by omega,show F+(T - F)=T by omega]at b;show bm 0 n f=_;rw [a,b,List.append_assoc]
theorem El(a k d:Nat)(f:Nat->Option Int):(bm (a+d) k f).map (λx=>(x.1 - (d:Int),x.2))=bm a k λp=>f (p+d):=by
 induction k generalizing a with
 |zero=>rfl
 |succ k ih=>
  rw [fU,fU,List.map_append,show a+d+1=(a+1)+d by omega,ih];congr 1
  cases f (a+d)with
  |none=>rfl
  |some x=>simp
theorem As(h:VS v n f){F T:Nat}(h1:F<=T)(h2:T<=n):∃w,dX v (F:Int) (T:Int)=some w/\VS w (T - F) λp=>f (p+F):=by
 have hs:=h.sure;have hle:=h.le;have hlen:=h.len;have hnum:=h.num;obtain⟨n1,s⟩:=v;simp only at hnum;unfold dX;simp only [hs,zbS];rw [show bM (T:Int) n1=(T:Int)by unfold bM;split<;>omega,show aT (F:Int) 0=(F:Int)by unfold aT;split<;>omega];by_cases hFT:(T:Int)<=(F:Int)
 .rw [if_pos hFT];obtain rfl:F=T:=by omega
  refine⟨_,rfl,?_,by omega,.inl rfl,?_,λp x hp=>h.v64 _ x hp⟩
  .rw [Nat.sub_self];rfl
  .rw [Nat.sub_self];rfl
 .rw [if_neg hFT];have hsp:=h.l;rw [Ek h1 h2 f]at hsp
  have gm:∀{a k:Nat} {x:It},x∈bm a k f->(a:Int)<=x.1/\x.1<((a+k:Nat):Int):=λ{a k x} hx=>by
   obtain⟨p,p1,p2,p3,_⟩:=oF hx;omega
  obtain⟨b1,f1⟩:=mB h.ok (by omega) h.asc (y:=(F:Int)) (A:=bm 0 F f) (B:=bm F (T - F) f++bm T (n - T) f) (by rw [hsp,List.append_assoc]) (λx hx=>by have:=gm hx;omega) (λx hx=>by
   rcases List.mem_append.1 hx with hx|hx
   .have:=gm hx;omega
   .have:=gm hx;omega)
  obtain⟨b2,f2⟩:=mB h.ok (by omega) h.asc (y:=(T:Int)) (A:=bm 0 F f++bm F (T - F) f) (B:=bm T (n - T) f) hsp (λx hx=>by
   rcases List.mem_append.1 hx with hx|hx
   .have:=gm hx;omega
   .have:=gm hx;omega) (λx hx=>by have:=gm hx;omega)
  rw [f1];simp only [zbS];rw [f2];simp only [zbS];have hs2:s.l=bm 0 F f++bm F (T - F) f++bm T (n - T) f:=hsp
  have hcut:pc 2 s (((bm 0 F f).length:Nat):Int) (((bm 0 F f++bm F (T - F) f).length:Nat):Int)=some ⟨s.nn,s.sz,bm F (T - F) f⟩:=by
   unfold pc
   have hz:s.sz=2∨(((bm 0 F f).length:Nat):Int)=0:=by
    rcases h.ok with h0|h0
    .right
     have h0:s.l= []:=h0;rw [hs2]at h0;simp only [List.append_eq_nil_iff]at h0;rw [h0.1.1];rfl
    .exact .inl h0
   rw [if_pos ⟨by omega,by rw [List.length_append];omega,by rw [hs2];simp only [List.length_append];omega,hz⟩];refine congrArg some ?_;rw [Int.toNat_natCast]
   have e:∀{A B C:List It},((A++B++C).drop A.length).take ((A++B).length - A.length)=B:=λ{A B C}=>by
    rw [List.append_assoc,List.drop_left,List.length_append,Nat.add_sub_cancel_left,List.take_left]
   have e2:=e (A:=bm 0 F f) (B:=bm F (T - F) f) (C:=bm T (n - T) f);rw [hs2];simp only [Int.toNat_natCast];rw [e2]
  rw [hcut];simp only [zbS]
  have hok2:okS 2 (⟨s.nn,s.sz,bm F (T - F) f⟩:Sl It):=by
   rcases h.ok with h0|h0
   .have h0:s.l= []:=h0;rw [hs2]at h0;simp only [List.append_eq_nil_iff]at h0;exact .inl h0.1.2
   .exact .inr h0
  have hgl:=oH F (T - F) f;rw [xW hok2 (by show(bm F (T - F) f).length<=5000;omega)];simp only [zbS];refine⟨_,rfl,?_,by omega,.inr rfl,?_,λp x hp=>h.v64 _ x hp⟩
  .show IntKind.i64.wrap ((T:Int) - (F:Int))=((T - F:Nat):Int);rw [wrap64 (by omega) (by omega)];omega
  .show(bm F (T - F) f).map _=bm 0 (T - F) _
   have:=El 0 (T - F) F f
   rw [Nat.zero_add]at this;rw [<-this];refine List.map_congr_left λx hx=> ?_
   have:=gm hx
   rw [show IntKind.i64.wrap (0 - (F:Int))= -(F:Int)by rw [wrap64 (by omega) (by omega)];omega,wrap64 (by omega) (by omega)];exact Prod.ext (by show x.1+ -(F:Int)=x.1 - (F:Int);omega) rfl
end
end Ev
end
noncomputable section
namespace Ev
open Go
theorem Jk:FL=some true:=rfl
theorem RV{w:Nat}(l:List It):(mo w l).nn=true∨(mo w l).l= []:=by cases l;exact .inr rfl;exact .inl rfl
theorem xX(r n:Int)(s:Sl It)(hr:okR r=true)(hok:okS 2 s)(h0:0<=n)(hn:n<=4096)(hl:s.l.length<=5000)(Q:Int->Prop)(hs:∀x∈s.l,0<=x.1/\x.1<n/\Q x.2)(P:Int×Int->Prop)(hP:LF r (KOf n Q) P):∃v e,jK r n s=some (v,e)/\GoodV v/\(v.2.nn=true∨v.2.l= [])/\(v.1=n∨∃x,P x/\(gk x).2=false):=by
 have hr':=hr;unfold okR at hr';unfold jK;simp only [tz,hr',zbS,if_true];rw [if_neg (by omega),if_neg (by omega)]
 obtain⟨q,h1,h2⟩:=eM (b:=iz n s) s.l.length (λj a=>a=((s.l.take j).map (λx=>((0,x.1,x.2):Ed)),(j:Int))) (λq=>q= .inl (s.l.map λx=>((0,x.1,x.2):Ed)))
  (by
   rintro j _ hj rfl;have hx:=hs _ (List.getElem_mem hj);have ha:app ((s.l.take j).map (λx=>((0,x.1,x.2):Ed))) [(0,s.l[j].1,s.l[j].2)]=some ((s.l.take j).map (λx=>((0,x.1,x.2):Ed))++ [(0,s.l[j].1,s.l[j].2)]):=qh (by simp;unfold cE;omega);simp only [iz,ez hok hj,zbS,gg hj (by omega),ha];rw [if_pos (by omega),if_neg (by omega),if_neg (by omega)];refine .inl ⟨_,rfl,?_⟩
   rw [List.take_succ_eq_append_getElem hj,List.map_append];rfl)
  (by
   rintro _ rfl
   exact⟨_,if_neg (by omega),by rw [List.take_length]⟩) 0 (Nat.zero_le _) ([],0) rfl
 subst h2;rw [h1];simp only [zbS,Sum.elim_inl]
 obtain⟨o,h3,h4⟩:=sn r (mo 3 (s.l.map λx=>((0,x.1,x.2):Ed))) hr (tr _) (by rw [nB];simpa using hl) (KOf n Q) P hP (λx hx=>by
  rw [nB]at hx;obtain⟨y,hy,rfl⟩:=List.mem_map.1 hx
  exact⟨rfl,hs y hy⟩)
 rw [h3];rcases h4 with⟨rfl,hbad⟩|⟨E,rfl,hE⟩
 .exact⟨_,_,rfl,Jf,.inr rfl,.inr hbad⟩
 have hfew:E.length<=5000:=by have:=hE.few;rw [nB]at this;simp at this;omega
 simp only [zbS,ne_eq,not_true,if_false]
 obtain⟨q,h5,h6⟩:=eM (b:=gx (mo 3 E)) E.length (λj a=>a=((j:Int),(E.take j).map (λx=>((x.2.1,x.2.2):It)))) (λq=>q= .inl (E.map λx=>((x.2.1,x.2.2):It)))
  (by
   rintro j _ hj rfl;have ha:app ((E.take j).map (λx=>((x.2.1,x.2.2):It))) [(E[j].2.1,E[j].2.2)]=some ((E.take j).map (λx=>((x.2.1,x.2.2):It))++ [(E[j].2.1,E[j].2.2)]):=qh (by simp;unfold cE;omega);simp only [gx,lN hj,nB,zbS,gg hj (by omega),ha];rw [if_pos (by omega)];refine .inl ⟨_,rfl,?_⟩
   rw [List.take_succ_eq_append_getElem hj,List.map_append];rfl)
  (by
   rintro _ rfl;simp only [gx,nB]
   exact⟨_,if_neg (by omega),by rw [List.take_length]⟩) 0 (Nat.zero_le _) (0,[]) rfl
 subst h6;rw [h5];refine⟨_,_,rfl,⟨?_,tr _,λx hx=> ?_⟩,RV _,.inl rfl⟩
 .simp only [bK,pw,nB,decide_eq_true h0,decide_eq_true hn,Bool.true_and];refine asc_iff'.2 λj hj=> ?_;have hjE:j<E.length:=by simpa using hj
  obtain⟨y,⟨y1,y2,y3,_⟩,y4,y5⟩:=hE.ends _ (List.getElem_mem hjE);simp only [List.getElem_map];refine⟨by omega,by omega,λhj0=> ?_⟩;obtain⟨z,⟨z1,z2,z3,_⟩,z4,z5⟩:=hE.ends _ (List.getElem_mem (show j - 1<E.length by omega))
  have:=hE.rise (j - 1) j (by omega) hjE (by omega)
  simp only [ep,Bool.or_eq_true,Bool.and_eq_true,decide_eq_true_eq]at this;omega
 .rw [nB]at hx;obtain⟨y,hy,rfl⟩:=List.mem_map.1 hx;exact hE.vals y hy
theorem vV(r n:Int)(s:Sl It)(hr:okR r=true)(hok:okS 2 s)(h0:0<=n)(hn:n<=4096)(hl:s.l.length<=5000)(hs:∀x∈s.l,0<=x.1/\x.1<n):∃v e,jK r n s=some (v,e)/\GoodV v/\(v.2.nn=true∨v.2.l= []):=by
 obtain⟨v,e,h1,h2,h2',_⟩:=xX r n s hr hok h0 hn hl (λ_=>True) (λx hx=>⟨(hs x hx).1,(hs x hx).2,trivial⟩) _ (OH r _);exact⟨v,e,h1,h2,h2'⟩
theorem sv(n:Int)(s:Sl It)(hn:0<=n/\n<=255)(hok:okS 2 s)(hl:s.l.length<=9223372036854775807):∃v,jm n s=some v/\GoodV v/\(v.2.nn=true∨v.2.l= []):=by
 unfold jm;have hw:IntKind.i64.wrap n=n:=wrap64 (by omega) (by omega)
 obtain⟨k,hk,k0,k1⟩:∃k,sJ n 60=some k/\0<=k/\k<60:=by
  refine⟨n.tmod 60,by unfold sJ;rw [if_pos (by omega)],?_,?_⟩
  .exact Int.tmod_nonneg _ hn.1
  .exact Int.tmod_lt_of_pos _ (by omega)
 rw [hw,hk];simp only [zbS]
 obtain⟨q,h1,l,rfl,h2,h3⟩:=eM (b:=fw s k) (if 0<k then min s.l.length 60 else 0) (λj a=>∃l,a=(l,(j:Int))/\l.length<=j/\∀x∈l,0<=x.1/\x.1<k) (λq=>∃l,q= .inl l/\l.length<=60/\∀x∈l,0<=x.1/\x.1<k)
  (by
   rintro j _ hj ⟨l,rfl,hlj,hlk⟩
   have hk0:0<k:=by
    by_cases c:0<k
    .exact c
    .rw [if_neg c]at hj;omega
   rw [if_pos hk0]at hj;have hj1:j<s.l.length:=by omega
   have hj2:j<60:=by omega
   simp only [fw,ez hok hj1,zbS,gg hj1 (by omega)];rw [if_pos (by omega),if_pos (by omega),if_pos (by omega)];by_cases c:s.l[j].1 >= 0
   .rw [if_pos c];have hm:sJ s.l[j].1 k=some (s.l[j].1.tmod k):=by unfold sJ;rw [if_pos (by omega)]
    have ha:app l [(s.l[j].1.tmod k,s.l[j].2)]=some (l++ [(s.l[j].1.tmod k,s.l[j].2)]):=qh (by simp;unfold cE;omega);simp only [hm,ha,zbS];refine .inl ⟨_,rfl,_,rfl,by simp;omega,λx hx=> ?_⟩;rcases List.mem_append.1 hx with hx|hx
    .exact hlk x hx
    .simp only [List.mem_singleton]at hx;subst hx;exact⟨Int.tmod_nonneg _ c,Int.tmod_lt_of_pos _ hk0⟩
   .rw [if_neg c]
    exact .inl ⟨_,rfl,l,rfl,by omega,hlk⟩)
  (by
   rintro _ ⟨l,rfl,hlj,hlk⟩
   have hb:l.length<=60:=by
    by_cases c:0<k
    .rw [if_pos c]at hlj;omega
    .rw [if_neg c]at hlj;omega
   refine⟨.inl l,?_,l,rfl,hb,hlk⟩;simp only [fw];by_cases c:0<k
   .rw [if_pos c];by_cases c1:((min s.l.length 60:Nat):Int)<(s.l.length:Int)
    .rw [if_pos c1,if_neg (by omega)]
    .rw [if_neg c1]
   .rw [if_neg c];by_cases c1:((0:Nat):Int)<(s.l.length:Int)
    .rw [if_pos c1,if_pos (by omega),if_neg (by omega)]
    .rw [if_neg c1]) 0 (Nat.zero_le _) ([],0) ⟨[],rfl,Nat.le_refl _,λx hx=>by simp at hx⟩
 rw [h1];simp only [zbS,Sum.elim_inl];obtain⟨v,e,g1,g2⟩:=vV 1 k (mo 2 l) (by decide) (tr _) k0 (by omega) (by rw [nB];omega) (λx hx=>h3 x (by rw [nB]at hx;exact hx));rw [g1];exact⟨_,rfl,g2⟩
theorem Cq(v:Int×Sl It):KM.bL v=bL v:=by
 have h:∀(l:List It) (a n:Int),KM.asc a n l=asc a n l:=λl=>by
  induction l with
  |nil=>intro a n;rfl
  |cons x l ih=>intro a n;show(_ && KM.asc x.1 n l)=(_ && asc x.1 n l);rw [ih]
 have h9:KM.bK v=bK v:=by
  show(KM.ld v.1 && KM.asc (-1) v.1 v.2.l)=(pw v.1 && asc (-1) v.1 v.2.l);rw [h];rfl
 unfold KM.bL bL;rw [h9];rfl
section
variable {l : List It} {y : Int}
theorem FU(h:l.Pairwise λa b=>a.1<b.1):l.take (KM.go l y)=l.filter λx=>decide (x.1<y):=(KM.jI h).1
theorem Cr(h:l.Pairwise λa b=>a.1<b.1)(hi:KM.isI l y=false):l.drop (KM.go l y)=l.filter λx=>decide (y<x.1):=by
 rw [(KM.jI h).2];refine List.filter_congr λx hx=> ?_
 have:x.1≠y:=λe=>by
  have:=(KM.FN h).2 ⟨x,hx,e⟩
  rw [hi]at this;cases this
 by_cases c:y<=x.1
 .rw [decide_eq_true c,decide_eq_true (by omega)]
 .rw [decide_eq_false c,decide_eq_false (by omega)]
theorem Jl(h:KM.isI l y=true):∃hlt:KM.go l y<l.length,l[KM.go l y].1=y:=by
 have hlt:=KM.zS h;refine⟨hlt,?_⟩;unfold KM.isI at h;rw [List.getElem?_eq_getElem hlt]at h;simpa using h
theorem yv(h:l.Pairwise λa b=>a.1<b.1)(hi:KM.isI l y=true):l.drop (KM.go l y+1)=l.filter λx=>decide (y<x.1):=by
 obtain⟨hlt,he⟩:=Jl hi;have h1:=(KM.jI (y:=y) h).2;have hd:=List.drop_eq_getElem_cons hlt
 have e2:(l.filter λx=>decide (y<x.1))=(l.filter λx=>decide (y<=x.1)).filter λx=>decide (y<x.1):=by
  rw [List.filter_filter];refine List.filter_congr λx _=> ?_;by_cases c:y<x.1
  .rw [decide_eq_true c,decide_eq_true (show y<=x.1 by omega)];rfl
  .rw [decide_eq_false c];simp
 rw [e2,<-h1,hd,List.filter_cons_of_neg (by rw [he];simp)];refine(List.filter_eq_self.2 λx hx=> ?_).symm;have hp:=List.pairwise_cons.1 (show(l[KM.go l y]::l.drop (KM.go l y+1)).Pairwise λa b=>a.1<b.1 by rw [<-hd];exact h.sublist (List.drop_sublist _ _))
 have:=hp.1 x hx
 simp;omega
theorem Tg(h:l.Pairwise λa b=>a.1<b.1)(N v:Int)(hy:0<=y/\y<N):Sm.Pu.out l N y v (KM.go l y) (KM.isI l y)=(l.filter λx=>decide (x.1<y))++([(y,v)]++l.filter λx=>decide (y<x.1)):=by
 unfold Sm.Pu.out;rw [if_neg (by omega)]
 cases hi:KM.isI l y with
 |true=>
  obtain⟨hlt,he⟩:=Jl hi;rw [if_pos rfl,List.set_eq_take_append_cons_drop,if_pos hlt,FU h,yv h hi]
  have:(Sm.It.el l (KM.go l y)).1=y:=by
   unfold Sm.It.el;rw [List.getD_eq_getElem?_getD,List.getElem?_eq_getElem hlt];exact he
  rw [this];rfl
 |false=>
  rw [if_neg (by simp),FU h,Cr h hi];rfl
theorem RW(h:l.Pairwise λa b=>a.1<b.1):(if KM.isI l y=true then l.take (KM.go l y)++l.drop (KM.go l y+1)else l)=(l.filter λx=>decide (x.1<y))++([]++l.filter λx=>decide (y<x.1)):=by
 cases hi:KM.isI l y with
 |true=>rw [if_pos rfl,FU h,yv h hi];rfl
 |false=>
  rw [if_neg (by simp),<-FU h,List.nil_append,<-Cr h hi,List.take_append_drop]
end
section
variable {v : Int × Sl It} {n : Nat} {f : Nat → Option Int}
theorem LO(h:VS v n f)(hnn:v.2.nn=true∨v.2.l= [])(p x:Int):∃w,iy v p x=some w/\w.1=(n:Int)/\okS 2 w.2/\w.2.l=ko n (oZ n f p (some x)):=by
 have hl:=h.len;have hs:bL v=v:=oD h.right;have hK:iy v p x=Sm.Pu.fn (v,p,x):=rfl;have hc:(v.2.sz=2∨v.2.l= [])/\(v.2.nn=true∨v.2.l= [])/\v.2.l.length<=80000:=⟨h.ok.elim .inr .inl,hnn,by omega⟩;rw [hK];unfold Sm.Pu.fn;rw [if_pos hc];simp only [Cq,hs];refine⟨_,rfl,h.num,.inr rfl,?_⟩;show Sm.Pu.out v.2.l v.1 p x (KM.go v.2.l p) (KM.isI v.2.l p)=_;by_cases hp:0<=p/\p<(n:Int)
 .rw [Tg h.asc v.1 x (by rw [h.num];exact hp)];unfold oZ;rw [if_pos hp]
  have:=Ch (n:=n) (p:=p.toNat) (by omega) f (some x)
  rw [this,h.l,Int.toNat_of_nonneg hp.1]
 .unfold oZ Sm.Pu.out;rw [if_neg hp,if_pos (by rw [h.num];omega),h.l]
theorem Jm(h:VS v n f)(p:Int):∃w,gv v p=some w/\w.1=(n:Int)/\okS 2 w.2/\w.2.l=ko n (oZ n f p none):=by
 have hl:=h.len;have hs:bL v=v:=oD h.right;have hK:gv v p=Sm.Dr.fn (v,p):=rfl;have hc:(v.2.sz=2∨v.2.l= [])/\v.2.l.length<=80000:=⟨h.ok.elim .inr .inl,by omega⟩;rw [hK];unfold Sm.Dr.fn;rw [if_pos hc];simp only [Cq,hs];refine⟨_,rfl,h.num,.inr rfl,?_⟩;show(if KM.isI v.2.l p=true then v.2.l.take (KM.go v.2.l p)++v.2.l.drop (KM.go v.2.l p+1)else v.2.l)=_;by_cases hp:0<=p/\p<(n:Int)
 .rw [RW h.asc];unfold oZ;rw [if_pos hp]
  have:=Ch (n:=n) (p:=p.toNat) (by omega) f none
  rw [this,h.l,Int.toNat_of_nonneg hp.1]
 .have hi:KM.isI v.2.l p=false:=by
   rw [Bool.eq_false_iff];intro hi;obtain⟨x,hx,he⟩:=(KM.FN h.asc).1 hi;rw [h.l]at hx;obtain⟨q,q1,q2,_⟩:=Co hx;omega
  rw [hi,if_neg (by simp)];unfold oZ;rw [if_neg hp,h.l]
theorem LP(h:VS v n f)(p:Int):kP v p=some (Jc (dm p v.2.l)):=by
 have hs:=h.sure;have hl:=h.len;have hok:=h.ok;obtain⟨k,k1,k2,k3,k4⟩:=re (v:=v) hok (by omega) h.asc p;have hasc:=h.asc;obtain⟨v1,v2⟩:=v;simp only at hok hl k1 k2 k3 k4 hasc;unfold kP;simp only [hs,k2,zbS];have hno:(∀x∈v2.l,x.1≠p)->dm p v2.l=none:=λhh=>kU hh;by_cases c:v2.l[k]?.map (·.1)=some p
 .rw [decide_eq_true c,if_pos rfl];rw [Option.map_eq_some_iff]at c;obtain⟨x,hx,he⟩:=c;obtain⟨hk,rfl⟩:=List.getElem?_eq_some_iff.1 hx;have ek:=ez hok hk
  have hg:dm p v2.l=some v2.l[k].2:=by
   have h1:v2.l=v2.l.take k++v2.l[k]::v2.l.drop (k+1):=by
    rw [<-List.drop_eq_getElem_cons hk,List.take_append_drop]
   have h2:dm p (v2.l.take k++v2.l[k]::v2.l.drop (k+1))=some v2.l[k].2:=by
    rw [nS,kU (l:=v2.l.take k) λz hz=> ?_]
    .simp only [dm];rw [if_pos he]
    .obtain⟨j,hj,rfl⟩:=List.mem_iff_getElem.1 hz;rw [List.length_take]at hj;rw [List.getElem_take]
     have:=k3 j (by omega) (by omega)
     omega
   rwa [<-h1]at h2
  rw [hg,ek];rfl
 .rw [decide_eq_false c,if_neg (by simp),hno λx hx=> ?_]
  .rfl
  .obtain⟨j,hj,rfl⟩:=List.mem_iff_getElem.1 hx;intro he;by_cases h1:j<k
   .have:=k3 j hj h1;omega
   .by_cases h2:j=k
    .subst h2;exact c (by rw [List.getElem?_eq_getElem hj];simp [he])
    .have hk:k<v2.l.length:=by omega
     have:=List.pairwise_iff_getElem.1 hasc k j hk hj (by omega)
     have:=k4 k hk (Nat.le_refl _)
     omega
theorem HE(h:VS v n f)(a b:Int):∃w,dX v a b=some w/\w.1=(lP n a b:Int)/\okS 2 w.2/\w.2.l=ko (lP n a b) (mA n f a b):=by
 have hle:=h.le;rcases vT n a b with⟨c1,c2⟩|⟨c1,F,To,c2,c3,c4,c5,c6,c7⟩
 .have hs:=h.sure;have hnum:=h.num;obtain⟨v1,v2⟩:=v;simp only at hnum;subst hnum;refine⟨(0,⟨false,0,[]⟩),?_,?_,.inl rfl,?_⟩
  .unfold dX;simp only [hs,zbS];rw [if_pos c1]
  .rw [c2];rfl
  .rw [c2];rfl
 .obtain⟨w,w1,w2⟩:=As h (F:=F) (T:=To) (by omega) c5
  have e:dX v a b=dX v (F:Int) (To:Int):=by
   have hs:=h.sure;have hnum:=h.num;obtain⟨v1,v2⟩:=v;simp only at hnum;subst hnum;unfold dX;simp only [hs,zbS];rw [c2,c3,show bM (To:Int) (n:Int)=(To:Int)by unfold bM;split<;>omega,show aT (F:Int) 0=(F:Int)by unfold aT;split<;>omega]
  refine⟨w,e.trans w1,by rw [w2.num,c7],w2.ok,?_⟩;rw [w2.l,c7];refine Eh λp hp=> ?_;unfold mA;rw [c7,c6,if_pos hp]
end
theorem nA(n:Int)(hn:inK .u8 n)(s:Sl It)(hs:SlW 2 (λx:It=>inK .i64 x.1/\inK .i64 x.2) s)(x:Int×Int×Int)(hx:inK .i64 x.1/\inK .i64 x.2.1/\inK .i64 x.2.2):gM n s x=some true:=by
 have hn':0<=n/\n<=255:=by simpa [inK,Lit.wf,IntKind.min,IntKind.max,IntKind.signed,IntKind.bits]using hn
 obtain⟨v,e1,hv,hnn⟩:=sv n s hn' hs.ok hs.2.2.1;have hV:=GoodV.vs hv;have hsv:bL v=v:=oD hv.1;have hlen:=hV.len;obtain⟨d,e2,hd⟩:=Aq (v:=v) hv.2.1 (by omega) hv.2.2;rw [hsv]at hd;obtain⟨n3,n4,n5⟩:=x;have g3:iP n3:=FJ hx.1;have e3:=hd.get (p:=n3) g3;have e4:=LP hV n3
 have hgi:dm n3 v.2.l=if 0<=n3 then(λp:Nat=>dm (p:Int) v.2.l) n3.toNat else none:=by
  by_cases c:0<=n3
  .rw [if_pos c];show _=dm ((n3.toNat:Nat):Int) v.2.l;rw [Int.toNat_of_nonneg c]
  .rw [if_neg c];refine kU λz hz=> ?_;rw [hV.l]at hz;obtain⟨q,_,q2,_⟩:=Co hz;omega
 rw [<-hgi]at e3;obtain⟨d1,f1,f2⟩:=xU hd.ok hd.sureD_eq (p:=n3) (x:=7) (by unfold iP;omega);obtain⟨w1,p1,p2,p3,p4⟩:=LO hV hnn n3 7;have b1:=mg f2.ok f2.sureD_eq;obtain⟨d2,f3,f4⟩:=vQ hd.ok hd.sureD_eq (p:=n3);obtain⟨w2,q1,q2,q3,q4⟩:=Jm hV n3;have b2:=mg f4.ok f4.sureD_eq;obtain⟨d3,f5,f6⟩:=vU hd.ok hd.sureD_eq n4 n5;obtain⟨w3,r1,r2,r3,r4⟩:=HE hV n4 n5;have b3:=mg f6.ok f6.sureD_eq;have len:∀(m:Nat) g,(ko m g).length<=m:=λm g=>oH 0 m g;have l1:=f2.le;have l2:=f4.le;have l3:=f6.le;have s1:=Am ((v.1.toNat:Int),mo 2 (ko v.1.toNat (oZ v.1.toNat (λp=>dm (p:Int) v.2.l) n3 (some 7)))) w1 (tr _) p3 p2.symm (by rw [p4];exact nB _ _) (by have:=len v.1.toNat (oZ v.1.toNat (λp=>dm (p:Int) v.2.l) n3 (some 7));simp only [nB];omega);have s2:=Am ((v.1.toNat:Int),mo 2 (ko v.1.toNat (oZ v.1.toNat (λp=>dm (p:Int) v.2.l) n3 none))) w2 (tr _) q3 q2.symm (by rw [q4];exact nB _ _) (by have:=len v.1.toNat (oZ v.1.toNat (λp=>dm (p:Int) v.2.l) n3 none);simp only [nB];omega);have s3:=Am ((lP v.1.toNat n4 n5:Int),mo 2 (ko (lP v.1.toNat n4 n5) (mA v.1.toNat (λp=>dm (p:Int) v.2.l) n4 n5))) w3 (tr _) r3 r2.symm (by rw [r4];exact nB _ _) (by have:=len (lP v.1.toNat n4 n5) (mA v.1.toNat (λp=>dm (p:Int) v.2.l) n4 n5);simp only [nB];omega);clear f2 f4 f6 hd hV hv hnn hgi;generalize dm n3 v.2.l=o at e3 e4;generalize mo 2 (ko v.1.toNat (oZ v.1.toNat (λp=>dm (p:Int) v.2.l) n3 (some 7)))=V1 at*;generalize mo 2 (ko v.1.toNat (oZ v.1.toNat (λp=>dm (p:Int) v.2.l) n3 none))=V2 at*;generalize mo 2 (ko (lP v.1.toNat n4 n5) (mA v.1.toNat (λp=>dm (p:Int) v.2.l) n4 n5))=V3 at*;generalize ((v.1.toNat:Nat):Int)=k1 at*;generalize ((lP v.1.toNat n4 n5:Nat):Int)=k3 at*;obtain⟨v1,v2⟩:=v;obtain⟨da,db,dc⟩:=d;obtain⟨_,_,_⟩:=d1;obtain⟨_,_,_⟩:=d2;obtain⟨_,_,_⟩:=d3;obtain⟨_,_⟩:=w1;obtain⟨_,_⟩:=w2;obtain⟨_,_⟩:=w3;unfold gM
 cases o with
 |none=>simp only [e1,e2,e3,e4,Jc,f1,f3,f5,b1,b2,b3,p1,q1,r1,s1,s2,s3,Jk,zbS,if_true,Bool.false_eq_true,if_false]
 |some z=>simp only [e1,e2,e3,e4,Jc,f1,f3,f5,b1,b2,b3,p1,q1,r1,s1,s2,s3,Jk,zbS,if_true]
end Ev
end
end Go.Proofs.YtpcmabdifkoihaaDoor
