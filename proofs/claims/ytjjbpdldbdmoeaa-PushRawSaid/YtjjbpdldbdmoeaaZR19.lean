/- Texts of a claim, joined. -/
import Derived.Test.YtjjbpdldbdmoeaaZR18
import Derived.Test.YtjjbpdldbdmoeaaZR5
import Derived.Test.YtjjbpdldbdmoeaaZR14
import Derived.Test.YtjjbpdldbdmoeaaZR16
import Derived.Test.YtjjbpdldbdmoeaaZR17
import Derived.Test.YtjjbpdldbdmoeaaZR15
set_option linter.unusedVariables false
set_option linter.unusedSimpArgs false
namespace Go.Proofs.Ytjjbpdldbdmoeaa
noncomputable section
namespace Ev
open Go
abbrev Ed:=Int×Int×Int
def TK(a b:Ed):Bool:=decide (a.1<b.1)||(decide (a.1=b.1)&& decide (a.2.1<b.2.1))
def adF(l:List Ed):Prop:=∀i j (hi:i<l.length) (hj:j<l.length),i<j→TK l[i] l[j]=true
structure aaM(r:Int)(K:Ed→Prop)(P:Int×Int→Prop):Prop where
 lo:∀a,P a→eY a.2
 one:∀y,K y→P (ofW y.2.2)
 add:∀a b,P a→P b→P (fj r a b)
end Ev
end
noncomputable section
namespace Ev
open Go
structure CE(K:Ed→Prop)(c:Nat)(E:List Ed):Prop where
 few:E.length≤c
 rise:adF E
 ends:∀x∈E,∃y,K y∧x.1=y.1∧x.2.1=y.2.1
 vals:∀x∈E,cH x.2.2
theorem YD{r:Int}{K:Ed→Prop}{P:Int×Int→Prop}(hP:aaM r K P){e:Ed}(he:P (ofW e.2.2)):∀S:List (Sm.Ky×Sm.V),(∀p∈S,P p.2)→∀p∈Sm.ins (KM.RG r) S e,P p.2
 | [],_,p,hp=>by
  simp only [Sm.ins,List.mem_singleton]at hp;subst hp;exact he
 |q::S,h,p,hp=>by
  have hq:=h q List.mem_cons_self;have hS:∀p∈S,P p.2:=fun p hp=>h p (List.mem_cons_of_mem _ hp);unfold Sm.ins at hp;split at hp
  ·rcases List.mem_cons.1 hp with rfl|hp
   ·exact hq
   ·exact YD hP he S hS p hp
  ·split at hp
   ·rcases List.mem_cons.1 hp with rfl|hp
    ·exact he
    ·exact h p hp
   ·rcases List.mem_cons.1 hp with rfl|hp
    ·exact hP.add _ _ hq he
    ·exact hS p hp
theorem YE{r:Int}{K:Ed→Prop}{P:Int×Int→Prop}(hP:aaM r K P):∀{l:List Ed} (S:List (Sm.Ky×Sm.V)),(∀p∈S,P p.2)→(∀x∈l,K x)→∀p∈l.foldl (Sm.ins (KM.RG r)) S,P p.2
 | [],S,h,_=>h
 |e::l,S,h,hK=>by
  show∀p∈l.foldl (Sm.ins (KM.RG r)) (Sm.ins (KM.RG r) S e),P p.2;exact YE hP (l:=l) _ (YD hP (hP.one _ (hK e List.mem_cons_self)) S h) fun x hx=>hK x (List.mem_cons_of_mem _ hx)
theorem ol(r:Int)(s:Sl Ed)(hr:okR r=true)(hok:okS 3 s)(hl:s.l.length≤5000)(K:Ed→Prop)(P:Int×Int→Prop)(hP:aaM r K P)(hK:∀x∈s.l,K x):∃o,dA r s=some o∧((o=(⟨false,0,[]⟩,12)∧∃x,P x∧(fQ x).2=false)∨∃E,o=(mo 3 E,0)∧CE K s.l.length E):=by
 have e:dA r s=some (mo 3 (Sm.sumR (KM.RG r) s.l).1,(Sm.sumR (KM.RG r) s.l).2):=KM.qe hok (by omega) hr;refine⟨_,e,?_⟩;obtain⟨g1,g2,g3,g4⟩:=KM.AI (r:=r) (l:=s.l);by_cases c:(Sm.canS (KM.RG r) s.l).all (fun p=>((KM.RG r).na p.2).2)=true
 ·right
  have h0:(Sm.sumR (KM.RG r) s.l).2=0:=by unfold Sm.sumR;rw [if_pos c]
  refine⟨(Sm.sumR (KM.RG r) s.l).1,by rw [h0],g2,fun i j hi hj hij=> ?_,fun x hx=> ?_,fun x hx=>(g3 x hx).1⟩
  ·have:=KM.bel_iff.1 (List.pairwise_iff_getElem.1 g1 i j hi hj hij)
   unfold TK;simp only [Bool.or_eq_true,Bool.and_eq_true,decide_eq_true_eq];exact this
  ·obtain⟨y,h1,h2,h3⟩:=(g3 x hx).2;exact⟨y,hK y h1,h2.symm,h3.symm⟩
 ·left
  have e2:Sm.sumR (KM.RG r) s.l=([],12):=by unfold Sm.sumR;rw [if_neg c]
  rw [e2];refine⟨rfl,?_⟩;rw [List.all_eq_true]at c
  obtain⟨p,hp,hn⟩:∃p∈Sm.canS (KM.RG r) s.l,((KM.RG r).na p.2).2=false:=by
   apply Classical.byContradiction;intro hno;refine c fun p hp=> ?_
   cases hq:((KM.RG r).na p.2).2 with
   |true=>rfl
   |false=>exact absurd ⟨p,hp,hq⟩ hno
  exact⟨p.2,YE hP [] (fun p hp=>by simp at hp) hK p hp,hn⟩
def Ka(v:Int×Sl It):Prop:=fu v=true∧okS 2 v.2∧∀x∈v.2.l,cH x.2
end Ev
end
noncomputable section
namespace Ev
open Go
theorem SH{n:Int}(h:cH n):IntKind.i64.wrap (IntKind.u64.wrap n)=n:=by rw [bY,IntKind.wrap_i64];unfold cH at h;omega
theorem wK{n:Int}(h:cH n):fQ (ofW n)=(n,true):=by
 unfold fQ;have e:IntKind.i64.wrap (ofW n).2=n:=SH h;rw [e,if_pos rfl]
end Ev
end
noncomputable section
namespace Ev
open Go
end Ev
end
noncomputable section
namespace Ev
open Go
end Ev
end
noncomputable section
namespace Ev
open Go
theorem rK(a b:Int×Int):kJ a b=true↔a.1<b.1∨a.1=b.1∧a.2<b.2:=by unfold kJ;simp
theorem Xj{a b:Int×Int}(ha:eY a.2)(hb:eY b.2):sb a b=((a.1+b.1+(a.2+b.2)/ 18446744073709551616+9223372036854775808)% 18446744073709551616 - 9223372036854775808,(a.2+b.2)% 18446744073709551616):=by
 unfold eY at ha hb;unfold sb;simp only [bY,IntKind.wrap_i64];split
 ·refine Prod.ext ?_ rfl;simp only;omega
 ·refine Prod.ext ?_ rfl;simp only;omega
end Ev
end
noncomputable section
namespace Ev
open Go
def toW(z:Int):Int×Int:=((z / 18446744073709551616+9223372036854775808)% 18446744073709551616 - 9223372036854775808,z % 18446744073709551616)
theorem My(z:Int):eY (toW z).2:=by unfold toW eY;simp only;omega
theorem vu{n:Int}(h:cH n):ofW n=toW n:=by
 unfold ofW toW cH at*;rw [bY];refine Prod.ext ?_ rfl;simp only;split<;>omega
theorem Om(a b:Int):sb (toW a) (toW b)=toW (a+b):=by
 rw [Xj (My a) (My b)];unfold toW;refine Prod.ext ?_ ?_<;>simp only<;>omega
theorem Mz(z k:Int):toW (z+k*340282366920938463463374607431768211456)=toW z:=by
 unfold toW;refine Prod.ext ?_ ?_<;>simp only<;>omega
theorem lw(a b:Int):bG (toW a) (toW b)=some (toW (a+b)):=by rw [pm,Om]
theorem pD(a b:Int):dC (toW a) (toW b)=some (toW (a+b)):=by rw [qt,Om]
theorem Qe{n:Int}(h:eY n):kE .u64 n=18446744073709551615 - n:=by
 obtain⟨h0,h1⟩:=h;obtain⟨m,rfl⟩:=Int.eq_ofNat_of_zero_le h0;unfold kE UN;have e:(if IntKind.u64.signed=true then(-1:Int)else IntKind.u64.max)=18446744073709551615:=by decide
 rw [e];have hb:IntKind.u64.bits=64:=rfl;rw [hb];have hx:BitVec.ofInt 64 18446744073709551615=BitVec.allOnes 64:=by decide
 rw [hx,BitVec.allOnes_xor,bY]
 have:(~~~ BitVec.ofInt 64 (m:Int)).toNat=18446744073709551615 - m:=by
  rw [BitVec.toNat_not]
  have:(BitVec.ofInt 64 (m:Int)).toNat=m:=by
   rw [BitVec.toNat_ofInt];omega
  omega
 rw [this];omega
theorem Qf{n:Int}(h:cH n):kE .i64 n= -1 - n:=by
 obtain⟨h0,h1⟩:=h;unfold kE UN;have e:(if IntKind.i64.signed=true then(-1:Int)else IntKind.i64.max)= -1:=by decide
 rw [e];have hb:IntKind.i64.bits=64:=rfl;rw [hb];have hx:BitVec.ofInt 64 (-1)=BitVec.allOnes 64:=by decide
 rw [hx,BitVec.allOnes_xor,IntKind.wrap_i64]
 have:((~~~ BitVec.ofInt 64 n).toNat:Int)=(18446744073709551615 - n % 18446744073709551616):=by
  rw [BitVec.toNat_not]
  have:((BitVec.ofInt 64 n).toNat:Int)=n % 18446744073709551616:=by
   rw [BitVec.toNat_ofInt];omega
  omega
 rw [this];omega
theorem aaN(z:Int):cH (toW z).1:=by unfold toW cH;simp only;omega
theorem zk(a:Int):fx (toW a)=some (toW (-a)):=by
 unfold fx;have h1:=Qf (aaN a);have h2:=Qe (My a)
 have e:((kE .i64 (toW a).1,kE .u64 (toW a).2):Int×Int)=toW (-1 - a):=by
  rw [h1,h2];unfold toW;refine Prod.ext ?_ ?_<;>simp only<;>omega
 have e1:((0,1):Int×Int)=toW 1:=by decide
 simp only;rw [e,e1,lw];simp only [zbS];rw [show -1 - a+1= -a by omega]
theorem Kb{b:Int×Int×Int×Int×Int→Option ((Int×Int×Int×Int×Int)⊕((Int×Int)⊕(Int×Int)))}(hb:b=dF∨b=kf):∀(n:Nat) (X O:Int),n≤18446744073709551615→aM b ((n:Int),(toW X).1,(toW X).2,(toW O).1,(toW O).2)=some (.inl (toW (O+X*n))):=by
 intro n
 induction n using Nat.strongRecOn with
 |_ n ih=>
  intro X O hn
  have hb1:∀a,b a=dF a:=by
   rcases hb with rfl|rfl
   ·exact fun _=>rfl
   ·exact fun _=>rfl
  by_cases h0:n=0
  ·subst h0;refine pJ ?_;rw [hb1];unfold dF;simp
  ·have hm:vM (n:Int) 2=some ((n % 2:Nat):Int):=by
    unfold vM;rw [if_pos (by decide),Int.tmod_eq_emod_of_nonneg (by omega)];rfl
   have hd:mZ .u64 (n:Int) 2=some ((n / 2:Nat):Int):=by
    unfold mZ;rw [if_pos (by decide),Int.tdiv_eq_ediv_of_nonneg (by omega),bY];congr 1;omega
   have hxx:=lw X X;have hox:=lw O X;by_cases hp:n % 2=1
   ·have hs:b ((n:Int),(toW X).1,(toW X).2,(toW O).1,(toW O).2)=some (.inl (((n / 2:Nat):Int),(toW (X+X)).1,(toW (X+X)).2,(toW (O+X)).1,(toW (O+X)).2)):=by
     rw [hb1];unfold dF;simp only;rw [if_pos (by omega),hm];simp only [zbS];rw [if_pos (by omega),hox];simp only [zbS];rw [hxx];simp only [zbS];rw [hd];rfl
    rw [tV hs,ih (n / 2) (by omega) _ _ (by omega)];congr 3
    have:(n:Int)=2*((n / 2:Nat):Int)+1:=by omega
    rw [this,Int.mul_add,Int.add_mul,Int.two_mul,Int.mul_add];omega
   ·have hs:b ((n:Int),(toW X).1,(toW X).2,(toW O).1,(toW O).2)=some (.inl (((n / 2:Nat):Int),(toW (X+X)).1,(toW (X+X)).2,(toW O).1,(toW O).2)):=by
     rw [hb1];unfold dF;simp only;rw [if_pos (by omega),hm];simp only [zbS];rw [if_neg (by omega),hxx];simp only [zbS];rw [hd];rfl
    rw [tV hs,ih (n / 2) (by omega) _ _ (by omega)];congr 3
    have:(n:Int)=2*((n / 2:Nat):Int):=by omega
    rw [this,Int.add_mul,Int.two_mul,Int.mul_add]
theorem uU{x y:Int}(hx:cH x)(hy:cH y):dR x y=some (toW (x*y)):=by
 unfold dR;rw [ns,vu hx];simp only [zbS];obtain⟨y0,y1⟩:=hy;have hz:((0:Int),(0:Int))=toW 0:=by decide
 have hz1:(toW 0).1=0:=by decide
 have hz2:(toW 0).2=0:=by decide
 by_cases hn:y<0
 ·rw [if_pos hn];have e:IntKind.u64.wrap (0 - IntKind.u64.wrap y)=(((-y).toNat:Nat):Int):=by rw [bY,bY];omega
  have:=Kb (.inl rfl) (-y).toNat x 0 (by omega)
  rw [hz1,hz2]at this;rw [e,this];simp only [zbS,Sum.elim_inl];rw [show((toW (0+x*(((-y).toNat:Nat):Int))).1,(toW (0+x*(((-y).toNat:Nat):Int))).2)=toW (0+x*(((-y).toNat:Nat):Int))from rfl,zk];simp only [zbS]
  have:(((-y).toNat:Nat):Int)= -y:=by omega
  rw [this,Int.mul_neg,show -(0+ -(x*y))=x*y by omega]
 ·rw [if_neg hn];have e:IntKind.u64.wrap y=((y.toNat:Nat):Int):=by rw [bY];omega
  have:=Kb (.inr rfl) y.toNat x 0 (by omega)
  rw [hz1,hz2]at this;rw [e,this];simp only [zbS,Sum.elim_inl];congr 1
  have:((y.toNat:Nat):Int)=y:=by omega
  rw [this,Int.zero_add]
theorem On{n:Int}(h:eY n):oT .u64 n 4294967295=n % 4294967296:=by
 obtain⟨h0,h1⟩:=h;obtain⟨m,rfl⟩:=Int.eq_ofNat_of_zero_le h0;unfold oT;have hb:IntKind.u64.bits=64:=rfl;rw [hb,bY];have e1:(BitVec.ofInt 64 (m:Int)).toNat=m:=by rw [BitVec.toNat_ofInt];omega
 have e2:(BitVec.ofInt 64 4294967295).toNat=2 ^ 32 - 1:=by decide
 rw [BitVec.toNat_and,e1,e2,Nat.and_two_pow_sub_one_eq_mod];omega
theorem MA{n:Int}(h:eY n):rh .u64 n 32=some (n / 4294967296):=by
 unfold rh QD;rw [if_pos (by decide)];have e:(2:Int)^(min (32:Int).toNat IntKind.u64.bits)=4294967296:=by decide
 rw [e,Int.fdiv_eq_ediv_of_nonneg _ (by decide)]
theorem vw{a b:Int}(ha:0≤a)(ha':a≤4294967295)(hb:0≤b)(hb':b≤4294967295):0≤a*b∧a*b≤18446744065119617025:=
 ⟨Int.mul_nonneg ha hb,by have:=Int.mul_le_mul ha' hb' hb (by decide);omega⟩
theorem om{a b:Int}(ha:eY a)(hb:eY b):cD a b=some ((a % 4294967296)*(b % 4294967296),(a % 4294967296)*(b / 4294967296),(a / 4294967296)*(b % 4294967296),(a / 4294967296)*(b / 4294967296)):=by
 unfold cD;rw [MA ha,MA hb];simp only [zbS,On ha,On hb];unfold eY at ha hb
 have w:∀{x y:Int},0≤x→x≤4294967295→0≤y→y≤4294967295→IntKind.u64.wrap (x*y)=x*y:=fun h1 h2 h3 h4=>by
  have:=vw h1 h2 h3 h4
  rw [bY];exact Int.emod_eq_of_lt this.1 (by omega)
 rw [w (by omega) (by omega) (by omega) (by omega),w (by omega) (by omega) (by omega) (by omega),w (by omega) (by omega) (by omega) (by omega),w (by omega) (by omega) (by omega) (by omega)]
theorem vy{n:Int}(h:eY n):fF (0,n) 32=some (toW (n*4294967296)):=by
 unfold fF;simp only;rw [if_neg (by decide),if_neg (by decide),if_neg (by decide)];have e1:IntKind.u64.wrap 0=0:=by decide
 have e2:IntKind.u64.wrap 32=32:=by decide
 have e3:IntKind.u64.wrap (IntKind.i64.wrap (64 - 32))=32:=by decide
 rw [e1,e2,e3,MA h];unfold zm UM;have e:(2:Int)^(min (32:Int).toNat IntKind.u64.bits)=4294967296:=by decide
 simp only [e,zbS,if_pos (show(0:Int)≤32 by decide),Int.zero_mul,e1]
 have hor:orI .u64 0 (n / 4294967296)=n / 4294967296:=by
  unfold eY at h;obtain⟨m,hm⟩:=Int.eq_ofNat_of_zero_le (show 0≤n / 4294967296 by omega);rw [hm];unfold orI;have hb:IntKind.u64.bits=64:=rfl;have e0:BitVec.ofInt 64 0=0#64:=by decide
  rw [hb,bY,e0,BitVec.zero_or,BitVec.toNat_ofInt];omega
 rw [hor,IntKind.wrap_i64,bY];unfold toW;unfold eY at h;congr 1;refine Prod.ext ?_ ?_<;>simp only<;>omega
theorem xW{x y:Int}(hx:cH x)(hy:cH y):ib x y=some (toW (x*y)):=by
 unfold ib;have hux:=mK x;have huy:=mK y;have gx:IntKind.u64.wrap x=x+(if x<0 then 18446744073709551616 else 0):=by rw [bY];unfold cH at hx;split<;>omega
 have gy:IntKind.u64.wrap y=y+(if y<0 then 18446744073709551616 else 0):=by rw [bY];unfold cH at hy;split<;>omega
 generalize hX:IntKind.u64.wrap x=X at hux gx;generalize hY:IntKind.u64.wrap y=Y at huy gy;rw [om hux huy];simp only [zbS];unfold eY at hux huy;generalize ha:X % 4294967296=a;generalize hA:X / 4294967296=A;generalize hb:Y % 4294967296=b;generalize hB:Y / 4294967296=B;have hXe:X=A*4294967296+a:=by omega
 have hYe:Y=B*4294967296+b:=by omega
 have p0:=vw (a:=a) (b:=b) (by omega) (by omega) (by omega) (by omega);have p1:=vw (a:=a) (b:=B) (by omega) (by omega) (by omega) (by omega);have p2:=vw (a:=A) (b:=b) (by omega) (by omega) (by omega) (by omega);have p3:=vw (a:=A) (b:=B) (by omega) (by omega) (by omega) (by omega)
 have hXY:X*Y=(A*B)*18446744073709551616+(a*B+A*b)*4294967296+a*b:=by
  rw [hXe,hYe,Int.add_mul,Int.mul_add,Int.mul_add]
  have q1:A*4294967296*(B*4294967296)=A*B*18446744073709551616:=by
   rw [Int.mul_assoc,Int.mul_left_comm 4294967296 B,←Int.mul_assoc];rfl
  have q2:A*4294967296*b=A*b*4294967296:=by rw [Int.mul_assoc,Int.mul_comm 4294967296 b,←Int.mul_assoc]
  have q3:a*(B*4294967296)=a*B*4294967296:=by rw [Int.mul_assoc]
  rw [q1,q2,q3];omega
 generalize hab:a*b=ab at*;generalize haB:a*B=aB at*;generalize hAb:A*b=Ab at*;generalize hAB:A*B=AB at*;rw [vy (n:=aB) ⟨by omega,by omega⟩];simp only [zbS]
 have e0:((IntKind.i64.wrap AB,ab):Int×Int)=toW (AB*18446744073709551616+ab):=by
  rw [IntKind.wrap_i64];unfold toW;refine Prod.ext ?_ ?_<;>simp only<;>omega
 rw [e0,show((toW (aB*4294967296)).1,(toW (aB*4294967296)).2)=toW (aB*4294967296)from rfl,pD];simp only [zbS];rw [vy (n:=Ab) ⟨by omega,by omega⟩];simp only [zbS];rw [show∀z,((toW z).1,(toW z).2)=toW z from fun _=>rfl,show∀z,((toW z).1,(toW z).2)=toW z from fun _=>rfl,pD];simp only [zbS];have e1:AB*18446744073709551616+ab+aB*4294967296+Ab*4294967296=X*Y:=by omega
 rw [e1]
 have hsub:∀z w:Int,(IntKind.i64.wrap ((toW z).1 - w),(toW z).2)=toW (z - w*18446744073709551616):=fun z w=>by
  rw [IntKind.wrap_i64];unfold toW;refine Prod.ext ?_ ?_<;>simp only<;>omega
 have hsub2:∀z w v:Int,(IntKind.i64.wrap (IntKind.i64.wrap ((toW z).1 - w) - v),(toW z).2)=toW (z - w*18446744073709551616 - v*18446744073709551616):=fun z w v=>by
  rw [IntKind.wrap_i64,IntKind.wrap_i64];unfold toW;refine Prod.ext ?_ ?_<;>simp only<;>omega
 by_cases hx0:x<0
 ·rw [if_pos hx0];rw [if_pos hx0]at gx;by_cases hy0:y<0
  ·rw [if_pos hy0,hsub2];rw [if_pos hy0]at gy
   have:X*Y - y*18446744073709551616 - x*18446744073709551616=x*y+1*340282366920938463463374607431768211456:=by
    rw [gx,gy,Int.add_mul,Int.mul_add,Int.mul_add];rw [Int.mul_comm x 18446744073709551616];omega
   rw [this,Mz]
  ·rw [if_neg hy0,hsub];rw [if_neg hy0]at gy
   have:X*Y - y*18446744073709551616=x*y:=by
    rw [gx,gy,Int.add_zero,Int.add_mul,Int.mul_comm 18446744073709551616 y];omega
   rw [this]
 ·rw [if_neg hx0];rw [if_neg hx0]at gx;by_cases hy0:y<0
  ·rw [if_pos hy0,hsub];rw [if_pos hy0]at gy
   have:X*Y - x*18446744073709551616=x*y:=by
    rw [gx,gy,Int.add_zero,Int.mul_add];omega
   rw [this]
  ·rw [if_neg hy0];rw [if_neg hy0]at gy;rw [gx,gy,Int.add_zero,Int.add_zero]
def ik:Int:=4611686018427387904
def eM(r x y:Int):Int×Int:=
 if r=1 then(if ik≤x∨ik≤y then ofW ik else kM (toW (x+y)) (ofW ik))
 else if r=2 then jx (!decide (x=0)&& !decide (y=0))
 else if r=4 then(if ik≤x∨ik≤y then ofW ik else ofW y)
 else if r=3 then(if ik≤x∨ik≤y then ofW ik else ofW x)
 else if r=5 then toW (x*y)else(0,0)
theorem YF:cH ik:=by unfold cH ik;omega
theorem xZ(r:Int){x y:Int}(hx:cH x)(hy:cH y):jW r x y=some (eM r x y):=by
 have hi:=YF;unfold jW eM;have hI:(4611686018427387904:Int)=ik:=rfl;rw [hI];by_cases h1:r=1
 ·rw [if_pos h1,if_pos h1];by_cases c1:x ≥ ik
  ·rw [if_pos c1,if_pos (.inl c1),dD hi];rfl
  ·rw [if_neg c1];by_cases c2:y ≥ ik
   ·rw [if_pos c2,if_pos (.inr c2),dD hi];rfl
   ·rw [if_neg c2,if_neg (by omega),dD hx,dD hy];simp only [zbS];rw [show∀z,((ofW z).1,(ofW z).2)=ofW z from fun _=>rfl,show∀z,((ofW z).1,(ofW z).2)=ofW z from fun _=>rfl,vu hx,vu hy,pD];simp only [zbS];rw [dD hi];simp only [zbS];rw [show∀z,((ofW z).1,(ofW z).2)=ofW z from fun _=>rfl,show∀z,((toW z).1,(toW z).2)=toW z from fun _=>rfl,mJ];rfl
 ·rw [if_neg h1,if_neg h1];by_cases h2:r=2
  ·rw [if_pos h2,if_pos h2];by_cases c1:x=0
   ·rw [if_neg (by simpa using c1),je];simp [c1]
   ·rw [if_pos c1];by_cases c2:y=0
    ·rw [if_neg (by simpa using c2),je];simp [c2]
    ·rw [if_pos c2,je];simp [c1,c2]
  ·rw [if_neg h2,if_neg h2];by_cases h4:r=4
   ·rw [if_pos h4,if_pos h4];by_cases c2:y ≥ ik
    ·rw [if_pos c2,if_pos (.inr c2),dD hi];rfl
    ·rw [if_neg c2];by_cases c1:x ≥ ik
     ·rw [if_pos c1,if_pos (.inl c1),dD hi];rfl
     ·rw [if_neg c1,if_neg (by omega),dD hy];rfl
   ·rw [if_neg h4,if_neg h4];by_cases h3:r=3
    ·rw [if_pos h3,if_pos h3];by_cases c1:x ≥ ik
     ·rw [if_pos c1,if_pos (.inl c1),dD hi];rfl
     ·rw [if_neg c1];by_cases c2:y ≥ ik
      ·rw [if_pos c2,if_pos (.inr c2),dD hi];rfl
      ·rw [if_neg c2,if_neg (by omega),dD hx];rfl
    ·rw [if_neg h3,if_neg h3];by_cases h5:r=5
     ·rw [if_pos h5,if_pos h5,xW hx hy];rfl
     ·rw [if_neg h5,if_neg h5]
theorem aaO(a b:Int×Int):∃c,bB a b=some c∧(c>0↔kJ a b=false∧a≠b):=by
 obtain⟨a1,a2⟩:=a;obtain⟨b1,b2⟩:=b;unfold bB kJ;simp only;by_cases h1:a1<b1
 ·exact⟨-1,by simp [h1],by simp [h1]⟩
 ·by_cases h2:a1=b1
  ·by_cases h3:a2<b2
   ·exact⟨-1,by simp [h1,h2,h3],by simp [h2,h3]⟩
   ·by_cases h4:a2=b2
    ·exact⟨0,by simp [h1,h2,h3,h4],by simp [h2,h4]⟩
    ·refine⟨1,by simp [h1,h2,h3,h4],?_⟩;simp [h2,h3,h4]
  ·refine⟨1,by simp [h1,h2],?_⟩;simp [h1,h2]
theorem uX(r:Int){x y:Int}(hx:cH x)(hy:cH y):fG r x y=some (eM r x y):=by
 have hi:=YF;unfold fG;have hI:(4611686018427387904:Int)=ik:=rfl;rw [hI];have hof:∀z,aO z=some (ofW z):=ns;have hadd:bG (ofW x) (ofW y)=some (toW (x+y)):=by rw [vu hx,vu hy,lw]
 have hmul:=uU hx hy;have ht:∀b,aS b=some (jx b):=mN;have eta:∀p:Int×Int,(p.1,p.2)=p:=fun _=>rfl
 have chain:∀(F1 F3 F4:Option (Int×Int)),(r=1→F1=some (eM r x y))→(r=3→F3=some (eM r x y))→(r=4→F4=some (eM r x y))→
   (if r=1 then F1 else if r=3 then F3 else if r=4 then F4 else if r=2 then(if x≠0 then(if y≠0 then((aS true).bind fun(a,b)=>some (a,b))else((aS false).bind fun(a,b)=>some (a,b)))else((aS false).bind fun(a,b)=>some (a,b)))else if r=5 then((dR x y).bind fun(a,b)=>some (a,b))else some (0,0))=some (eM r x y):=by
  intro F1 F3 F4 g1 g3 g4;by_cases h1:r=1
  ·rw [if_pos h1];exact g1 h1
  ·rw [if_neg h1];by_cases h3:r=3
   ·rw [if_pos h3];exact g3 h3
   ·rw [if_neg h3];by_cases h4:r=4
    ·rw [if_pos h4];exact g4 h4
    ·rw [if_neg h4];unfold eM;rw [if_neg h1];by_cases h2:r=2
     ·rw [if_pos h2,if_pos h2];by_cases z1:x=0
      ·rw [if_neg (by simpa using z1),ht];simp [z1]
      ·rw [if_pos z1];by_cases z2:y=0
       ·rw [if_neg (by simpa using z2),ht];simp [z2]
       ·rw [if_pos z2,ht];simp [z1,z2]
     ·rw [if_neg h2,if_neg h2,if_neg h4,if_neg h3];by_cases h5:r=5
      ·rw [if_pos h5,if_pos h5,hmul];rfl
      ·rw [if_neg h5,if_neg h5]
 have far:ik≤x∨ik≤y→(r=1→some (ofW ik)=some (eM r x y))∧(r=3→some (ofW ik)=some (eM r x y))∧(r=4→some (ofW ik)=some (eM r x y)):=fun hf=>by
  refine⟨fun h=> ?_,fun h=> ?_,fun h=> ?_⟩<;>subst h<;>unfold eM<;>simp [hf]
 by_cases c1:x ≥ ik
 ·rw [if_pos c1];obtain⟨f1,f3,f4⟩:=far (.inl c1);refine chain _ _ _ (fun h=> ?_) (fun h=> ?_) fun h=> ?_
  ·rw [hof,hof];simp only [zbS,eta,hadd,hof];exact f1 h
  ·rw [hof];exact f3 h
  ·rw [hof];exact f4 h
 ·rw [if_neg c1];by_cases c2:y ≥ ik
  ·rw [if_pos c2];obtain⟨f1,f3,f4⟩:=far (.inr c2);refine chain _ _ _ (fun h=> ?_) (fun h=> ?_) fun h=> ?_
   ·rw [hof,hof];simp only [zbS,eta,hadd,hof];exact f1 h
   ·rw [hof];exact f3 h
   ·rw [hof];exact f4 h
  ·rw [if_neg c2];have nf:¬(ik≤x∨ik≤y):=by omega
   refine chain _ _ _ (fun h=> ?_) (fun h=> ?_) fun h=> ?_
   ·rw [hof,hof];simp only [zbS,eta,hadd,hof];obtain⟨c,h6,h7⟩:=aaO (toW (x+y)) (ofW ik);rw [h6];simp only [zbS];unfold eM kM;rw [if_pos h,if_neg nf];by_cases hc:c>0
    ·rw [if_pos hc];have h8:=h7.1 hc
     have h9:kJ (ofW ik) (toW (x+y))=true:=by
      have a1:=h8.1;have a2:=h8.2;rw [rK]
      have:¬(kJ (toW (x+y)) (ofW ik)=true):=by rw [a1];simp
      rw [rK]at this;by_cases e1:(toW (x+y)).1=(ofW ik).1
      ·by_cases e2:(toW (x+y)).2=(ofW ik).2
       ·exact absurd (Prod.ext e1 e2) a2
       ·omega
      ·omega
     rw [if_pos h9]
    ·rw [if_neg hc]
     have h9:¬kJ (ofW ik) (toW (x+y))=true:=fun h9=>by
      apply hc;rw [h7];rw [rK]at h9;refine⟨?_,fun e=> ?_⟩
      ·rw [Bool.eq_false_iff];intro hh;rw [rK]at hh;omega
      ·rw [e]at h9;omega
     rw [if_neg h9]
   ·rw [hof];unfold eM;subst h;simp [nf]
   ·rw [hof];unfold eM;subst h;simp [nf]
end Ev
end
noncomputable section
namespace Ev
open Go
def hd:List It→List It→Int×Option Int×Option Int×List It×List It
 | [],[]=>(0,none,none,[],[])
 |x::l,[]=>(x.1,some x.2,none,l,[])
 | [],y::m=>(y.1,none,some y.2,[],m)
 |x::l,y::m=>if x.1≤y.1 then(if y.1≤x.1 then(y.1,some x.2,some y.2,l,m)else(x.1,some x.2,none,l,y::m))else(y.1,none,some y.2,x::l,m)
abbrev MR:=List It ⊕(List It ⊕ Empty)
theorem GA{n:Int}{l m:List It}(h0:0≤n)(hl:asc (-1) n l=true)(hm:asc (-1) n m=true)(h:∀p:Nat,bS (p:Int) l=bS (p:Int) m):l=m:=by
 have e1:=Bh (a:=0) (k:=n.toNat) (by simpa using hl) (by omega);have e2:=Bh (a:=0) (k:=n.toNat) (by simpa using hm) (by omega);rw [e1,e2];exact yl fun p _ _=>h p
end Ev
end
noncomputable section
namespace Ev
open Go
def Wt(q:Option (Option Int))(p:Int)(s t:Sl It)(o:List It):Option ((Sl It×Sl It×List It)⊕ MR):=
 match q with
 |none=>some (.inr (.inl o))
 |some none=>some (.inl (s,t,o))
 |some (some v)=>some (.inl (s,t,o++ [(p,v)]))
end Ev
end
noncomputable section
namespace Ev
open Go
end Ev
end
noncomputable section
namespace Ev
open Go
theorem Eg{v:Int×Sl It}(h:fu v=true):asc (-1) v.1 v.2.l=true:=by unfold fu at h;simp only [Bool.and_eq_true]at h;exact h.2
abbrev RR:=List It ⊕((Int×Sl It)×Int)
end Ev
end
noncomputable section
namespace Ev
open Go
theorem MB{j:Nat}(hj:j<1000000):mZ .i64 (j:Int) 64=some ((j / 64:Nat):Int):=by
 unfold mZ;rw [if_pos (by decide),Int.tdiv_eq_ediv_of_nonneg (by omega),fM (by omega) (by omega)];rfl
theorem MC{j:Nat}:vM (j:Int) 64=some ((j % 64:Nat):Int):=by
 unfold vM;rw [if_pos (by decide),Int.tmod_eq_emod_of_nonneg (by omega)];rfl
theorem Oo{a b:Nat}(ha:a<18446744073709551616)(hb:b<18446744073709551616):oT .u64 (a:Int) (b:Int)=((a &&& b:Nat):Int):=by
 unfold oT;have hb':IntKind.u64.bits=64:=rfl;rw [hb',BitVec.toNat_and,BitVec.toNat_ofInt,BitVec.toNat_ofInt,bY];have e1:((a:Int)%((2 ^ 64:Nat):Int)).toNat=a:=by omega
 have e2:((b:Int)%((2 ^ 64:Nat):Int)).toNat=b:=by omega
 rw [e1,e2]
 have:a &&& b<2 ^ 64:=Nat.and_lt_two_pow a (by omega)
 omega
def fL(ws:List Int)(p:Nat):Bool:=match ws[p / 64]? with|some w=>w.toNat.testBit (p % 64)|none=>false
def qR(ws:List Int):Prop:=∀w∈ws,eY w
theorem Xk(a k:Nat):a &&& 2 ^ k≠0↔a.testBit k=true:=by
 constructor
 ·intro h
  cases hc:a.testBit k with
  |true=>rfl
  |false=>
   refine absurd (Nat.eq_of_testBit_eq fun i=> ?_) h;rw [Nat.testBit_and,Nat.testBit_two_pow,Nat.zero_testBit];by_cases e:k=i
   ·subst e;rw [hc];rfl
   ·rw [decide_eq_false e,Bool.and_false]
 ·intro h e
  have:(a &&& 2 ^ k).testBit k=false:=by rw [e];exact Nat.zero_testBit _
  rw [Nat.testBit_and,Nat.testBit_two_pow,h]at this;simp at this
theorem MD{k:Nat}(hk:k<64):2 ^ k<18446744073709551616:=Nat.pow_lt_pow_right (by decide) hk
theorem uP(s:Sl Int)(p:Nat)(hok:okS 1 s)(hu:qR s.l)(hp:p<1000000):gS s (p:Int)=some (fL s.l p):=by
 unfold gS fk fL;simp only [MB hp,zbS];rw [if_pos (by omega)];by_cases h:p / 64<s.l.length
 ·rw [if_pos (by omega)];simp only [zbS,if_true,bI hok h];have hw:=hu _ (List.getElem_mem h);have hg:s.l[p / 64]? =some s.l[p / 64]:=List.getElem?_eq_getElem h;rw [hg];obtain⟨w,hw2⟩:=Int.eq_ofNat_of_zero_le hw.1;rw [hw2]at hw ⊢;have hk:p % 64<64:=Nat.mod_lt _ (by decide);have hpow:=MD hk
  have hb:gr (p:Int)=some ((2 ^(p % 64):Nat):Int):=by
   unfold gr;simp only [MC,zbS];have e:IntKind.u64.wrap ((p % 64:Nat):Int)=((p % 64:Nat):Int):=by rw [bY];omega
   rw [e];unfold zm UM;rw [if_pos (by omega)]
   have hmin:min (((p % 64:Nat):Int)).toNat IntKind.u64.bits=p % 64:=by
    have:IntKind.u64.bits=64:=rfl
    omega
   rw [hmin,Int.one_mul,bY];simp only [zbS];congr 1
   have:(2:Int)^(p % 64)=((2 ^(p % 64):Nat):Int):=by simp
   rw [this];clear this;generalize 2 ^(p % 64)=z at hpow ⊢;omega
  rw [hb];simp only [zbS];rw [Oo (by have:=hw.2;omega) hpow];simp only [Int.toNat_natCast];have ht:=Xk w (p % 64)
  cases hc:w.testBit (p % 64)with
  |false=>rw [hc]at ht;rw [if_neg (fun h=>by have:=ht.1 (fun e=>h (by rw [e];rfl));simp at this)]
  |true=>rw [hc]at ht;rw [if_pos (by have:=ht.2 rfl;omega)]
 ·rw [if_neg (by omega)];simp only [zbS,Bool.false_eq_true,if_false];rw [List.getElem?_eq_none (by omega)]
theorem mz(s:Sl Int)(p:Nat)(hok:okS 1 s)(hu:qR s.l)(hp:p<1000000):dP s (p:Int)=some (fL s.l p):=by
 unfold dP fL;simp only [MB hp,zbS];rw [if_pos (by omega)];by_cases h:p / 64<s.l.length
 ·rw [if_pos (by omega)];simp only [bI hok h,MC,zbS];have hw:=hu _ (List.getElem_mem h);have hg:s.l[p / 64]? =some s.l[p / 64]:=List.getElem?_eq_getElem h;rw [hg];obtain⟨w,hw2⟩:=Int.eq_ofNat_of_zero_le hw.1;rw [hw2]at hw ⊢;have hk:p % 64<64:=Nat.mod_lt _ (by decide);have e:IntKind.u64.wrap ((p % 64:Nat):Int)=((p % 64:Nat):Int):=by rw [bY];omega
  rw [e];unfold rh QD;rw [if_pos (by omega)]
  have hmin:min (((p % 64:Nat):Int)).toNat IntKind.u64.bits=p % 64:=by
   have:IntKind.u64.bits=64:=rfl
   omega
  rw [hmin]
  have h2:Int.fdiv (w:Int) (2 ^(p % 64))=((w / 2 ^(p % 64):Nat):Int):=by
   have:(2:Int)^(p % 64)=((2 ^(p % 64):Nat):Int):=by simp
   rw [this,Int.fdiv_eq_ediv_of_nonneg _ (Int.natCast_nonneg _)];rfl
  rw [h2];simp only [zbS];have hle:w / 2 ^(p % 64)≤w:=Nat.div_le_self _ _;have h1:((1:Nat):Int)=1:=rfl;rw [←h1,Oo (by have:=hw.2;omega) (by omega),Nat.and_one_is_mod];simp only [Int.toNat_natCast];rw [Nat.testBit_eq_decide_div_mod_eq];by_cases c:w / 2 ^(p % 64)% 2=1
  ·rw [if_pos (by omega),decide_eq_true c]
  ·rw [if_neg (by omega),decide_eq_false c]
 ·rw [if_neg (by omega)];rw [List.getElem?_eq_none (by omega)]
end Ev
end
noncomputable section
namespace Ev
open Go
theorem adG{α:Type}{w:Nat}{l:List α}{k:Nat}{x:α}(h:l[k]? =some x):atS w (mo w l) (k:Int)=some x:=by
 have hk:=(List.getElem?_eq_some_iff.1 h).1
 have:=bI (w:=w) (s:=mo w l) (oo l) (j:=k) (by rw [kI];exact hk)
 rw [this];simp only [kI];rw [←h,List.getElem?_eq_getElem hk]
theorem Eh{ws:List Int}{p i k:Nat}{w:Int}(hp:p / 64=i)(hk:p % 64=k)(hw:ws[i]? =some w):fL ws p=w.toNat.testBit k:=by unfold fL;rw [hp,hk,hw]
theorem TL{ws:List Int}{p:Nat}(h:ws.length≤p / 64):fL ws p=false:=by unfold fL;rw [List.getElem?_eq_none h]
theorem kd{n:Int}(h:0≤n∧n≤4096):dH n=some ((n+63)/ 64):=by
 unfold dH;rw [if_neg (by omega)];by_cases h1:n<1
 ·rw [if_pos h1];obtain rfl:n=0:=by omega
  rfl
 ·rw [if_neg h1,fM (by omega) (by omega)];unfold mZ;rw [if_pos (by decide),Int.tdiv_eq_ediv_of_nonneg (by omega),fM (by omega) (by omega)];rfl
theorem aaP{a b:Nat}(ha:a<18446744073709551616)(hb:b<18446744073709551616):orI .u64 (a:Int) (b:Int)=((a|||b:Nat):Int):=by
 unfold orI;have hb':IntKind.u64.bits=64:=rfl;rw [hb',BitVec.toNat_or,BitVec.toNat_ofInt,BitVec.toNat_ofInt,bY];have e1:((a:Int)%((2 ^ 64:Nat):Int)).toNat=a:=by omega
 have e2:((b:Int)%((2 ^ 64:Nat):Int)).toNat=b:=by omega
 rw [e1,e2]
 have:a|||b<2 ^ 64:=Nat.or_lt_two_pow (by omega) (by omega)
 omega
theorem Xl{p:Nat}:zm .u64 1 (IntKind.u64.wrap ((p % 64:Nat):Int))=some ((2 ^(p % 64):Nat):Int):=by
 have hk:p % 64<64:=Nat.mod_lt _ (by decide);have hpow:=MD hk;have e:IntKind.u64.wrap ((p % 64:Nat):Int)=((p % 64:Nat):Int):=by rw [bY];omega
 rw [e];unfold zm UM;rw [if_pos (by omega)]
 have hmin:min (((p % 64:Nat):Int)).toNat IntKind.u64.bits=p % 64:=by
  have:IntKind.u64.bits=64:=rfl
  omega
 rw [hmin,Int.one_mul,bY];congr 1
 have:(2:Int)^(p % 64)=((2 ^(p % 64):Nat):Int):=by simp
 rw [this];clear this;generalize 2 ^(p % 64)=z at hpow ⊢;omega
theorem uS(ws:List Int)(p:Nat)(hu:qR ws)(hl:ws.length≤1000)(hp:p / 64<ws.length)(hp2:p<1000000):∃q,gu ⟨true,1,ws⟩ (p:Int)=some q∧q.length=ws.length∧qR q∧∀i,fL q i=(fL ws i||decide (i=p)):=by
 have hap:app ([]:List Int) ws=some ([]++ws):=mm (by simp;unfold cS;omega);have hw:=hu _ (List.getElem_mem hp);have hat:=adG (w:=1) (l:=ws) (List.getElem?_eq_getElem hp);obtain⟨w,hw2⟩:=Int.eq_ofNat_of_zero_le hw.1;rw [hw2]at hw hat;have hwlt:w<18446744073709551616:=by have:=hw.2;omega
 have hk:p % 64<64:=Nat.mod_lt _ (by decide);have hpow:=MD hk;have hor:=aaP hwlt hpow;have horl:w|||2 ^(p % 64)<2 ^ 64:=Nat.or_lt_two_pow (by omega) (by omega);refine⟨ws.set (p / 64) ((w|||2 ^(p % 64):Nat):Int),?_,by simp,fun x hx=> ?_,fun i=> ?_⟩
 ·unfold gu iF;simp only [hap,zbS,List.nil_append,MB hp2,MC,Xl,hat,hor,if_true];rw [if_neg (by omega),if_neg (by omega),Int.toNat_natCast];rfl
 ·rcases List.mem_or_eq_of_mem_set hx with hx|rfl
  ·exact hu x hx
  ·unfold eY;omega
 ·by_cases e:i / 64=p / 64
  ·rw [Eh (ws:=ws.set _ _) e rfl (by rw [List.getElem?_set,if_pos rfl,if_pos hp]),Eh e rfl (by rw [List.getElem?_eq_getElem hp,hw2])];simp only [Int.toNat_natCast];rw [Nat.testBit_or,Nat.testBit_two_pow];congr 1;by_cases e2:i=p
   ·subst e2;simp
   ·rw [decide_eq_false e2,decide_eq_false (by omega)]
  ·have hne:(ws.set (p / 64) ((w|||2 ^(p % 64):Nat):Int))[i / 64]? =ws[i / 64]? :=by rw [List.getElem?_set,if_neg (Ne.symm e)]
   have e2:i≠p:=fun h=>e (by rw [h]);rw [decide_eq_false e2,Bool.or_false];unfold fL;rw [hne]
theorem TM(k i:Nat):fL (List.replicate k 0) i=false:=by
 unfold fL;rw [List.getElem?_replicate];split
 ·rename_i h;split at h
  ·simp only [zsI]at h;rw [←h];simp
  ·simp at h
 ·rfl
theorem ya{n:Nat}(hn:n≤4096)(s:Sl Int)(hs:okS 1 s)(hl:s.l.length≤9223372036854775807):∃q,ic (n:Int) s=some q∧((q.length:Nat):Int)=((n:Int)+63)/ 64∧qR q∧∀i,fL q i=(decide (i<n)&& decide ((i:Int)∈s.l)):=by
 have hwd:=kd (n:=(n:Int)) ⟨by omega,by omega⟩;have hlo:iX (((n:Int)+63)/ 64)=some ():=by unfold iX cS;rw [if_pos ⟨by omega,by omega⟩]
 unfold ic eK;simp only [hwd,hlo,zbS]
 obtain⟨q,q1,w,rfl,w1,w2,w3⟩:=cu (b:=fW (n:Int) s) s.l.length (fun j st=>∃w:List Int,st=(w,(j:Int))∧((w.length:Nat):Int)=((n:Int)+63)/ 64∧qR w∧∀i,fL w i=(decide (i<n)&& decide ((i:Int)∈s.l.take j))) (fun q=>∃w:List Int,q= .inl w∧((w.length:Nat):Int)=((n:Int)+63)/ 64∧qR w∧∀i,fL w i=(decide (i<n)&& decide ((i:Int)∈s.l)))
  (by
   rintro j _ hj ⟨w,rfl,g1,g2,g3⟩;have ej:=bI hs hj;have htk:s.l.take (j+1)=s.l.take j++ [s.l[j]]:=by rw [List.take_succ_eq_append_getElem hj]
   rw [htk];generalize s.l[j]=x at ej;simp only [fW,ej,zbS,cX hj hl];rw [if_pos (by omega)]
   have same:¬(0≤x∧x<(n:Int))→∀i,fL w i=(decide (i<n)&& decide ((i:Int)∈s.l.take j++ [x])):=fun h i=>by
    rw [g3 i];by_cases hi:i<n
    ·rw [decide_eq_true hi];simp only [Bool.true_and];congr 1;simp only [List.mem_append,List.mem_cons,List.not_mem_nil,or_false,eq_iff_iff];exact⟨.inl,fun h1=>h1.resolve_right fun e=>h (by omega)⟩
    ·rw [decide_eq_false hi];rfl
   by_cases c1:x ≥ 0
   ·rw [if_pos c1];by_cases c2:x<(n:Int)
    ·rw [if_pos c2,if_pos (by omega)];obtain⟨p,rfl⟩:=Int.eq_ofNat_of_zero_le c1;obtain⟨v,v1,v2,v3,v4⟩:=uS w p g2 (by omega) (by omega) (by omega);rw [v1];simp only [zbS];rw [KY (by intro h;rw [h]at v2;simp at v2;omega)];refine .inl ⟨_,rfl,v,rfl,by rw [v2];exact g1,v3,fun i=> ?_⟩;rw [v4 i,g3 i];by_cases hi:i<n
     ·rw [decide_eq_true hi];simp only [Bool.true_and,List.mem_append,List.mem_cons,List.not_mem_nil,or_false,Bool.decide_or];congr 1;by_cases e:i=p
      ·subst e;simp
      ·rw [decide_eq_false e,decide_eq_false (by omega)]
     ·rw [decide_eq_false hi,decide_eq_false (show¬i=p by omega)];rfl
    ·rw [if_neg c2];exact .inl ⟨_,rfl,w,rfl,g1,g2,same (by omega)⟩
   ·rw [if_neg c1]
    exact .inl ⟨_,rfl,w,rfl,g1,g2,same (by omega)⟩)
  (by
   rintro _ ⟨w,rfl,g1,g2,g3⟩;rw [List.take_length]at g3;refine⟨.inl w,?_,w,rfl,g1,g2,g3⟩;simp only [fW]
   rw [if_neg (by omega)]) 0 (Nat.zero_le _) (List.replicate (((n:Int)+63)/ 64).toNat 0,0) ⟨_,rfl,by simp;omega,fun x hx=>by rw [List.eq_of_mem_replicate hx];unfold eY;omega,fun i=>by rw [TM];simp⟩
 exact⟨w,by rw [q1];rfl,w1,w2,w3⟩
end Ev
end
noncomputable section
namespace Ev
open Go
abbrev E3:=Int×Int×Int
def bel(a b:E3):Bool:=decide (a.1<b.1)||(decide (a.1=b.1)&& decide (a.2.1<b.2.1))
theorem bel_iff{a b:E3}:bel a b=true↔a.1<b.1∨a.1=b.1∧a.2.1<b.2.1:=by unfold bel;simp
def dh{α:Type}(l:List α)(k:Nat)(y:α):List α:=l.take k++y::l.drop k
theorem JE{α:Type}{l:List α}{k:Nat}(y:α):(dh l k y).length=l.length+1:=by unfold dh;simp;omega
theorem po{α:Type}{l:List α}{k:Nat}(hk:k≤l.length)(y:α):(dh l k y)[k]? =some y:=by
 unfold dh;rw [List.getElem?_append_right (by rw [List.length_take];omega),List.length_take,Nat.min_eq_left hk,Nat.sub_self];rfl
theorem mQ{α:Type}{l:List α}{k:Nat}(hk:k≤l.length)(y x:α):(dh l k y).set k x=dh l k x:=by
 unfold dh;rw [List.set_append_right _ _ (by rw [List.length_take];omega),List.length_take,Nat.min_eq_left hk,Nat.sub_self];rfl
theorem oz{α:Type}(l:List α)(y:α):dh l l.length y=l++ [y]:=by unfold dh;simp
theorem oA{α:Type}{l:List α}{k:Nat}(hk:k+1≤l.length)(y:α):(dh l (k+1) y)[k]? =some l[k]∧dh l (k+1) l[k]=dh l k l[k]:=by
 unfold dh;constructor
 ·rw [List.getElem?_append_left (by simp;omega),List.getElem?_take,if_pos (by omega),List.getElem?_eq_getElem]
 ·rw [List.take_succ_eq_append_getElem (by omega),List.append_assoc,List.drop_eq_getElem_cons (i:=k) (by omega)];rfl
theorem JF{α:Type}{l:List α}{k:Nat}{y x:α}(h:x∈dh l k y):x=y∨x∈l:=by
 unfold dh at h;rcases List.mem_append.1 h with h|h
 ·exact .inr (List.mem_of_mem_take h)
 ·rcases List.mem_cons.1 h with h|h
  ·exact .inl h
  ·exact .inr (List.mem_of_mem_drop h)
abbrev RC:=(List E3×List (Int×Int)×Int)⊕((List E3×List (Int×Int))⊕(Sl E3×Int))
abbrev dM(l:List E3):Prop:=l.Pairwise fun a b=>bel a b=true
end Ev
end
noncomputable section
namespace Ev
open Go
def gW(ws:List Int):List Int:=((List.range (64*ws.length)).filter (fL ws)).map fun p:Nat=>(p:Int)
def dn(n:Int):Bool:=decide (0≤n)&& decide (n≤4096)
def mS(ws:List Int)(n:Int):Bool:=dn n &&(decide ((ws.length:Int)=(n+63)/ 64)&&(gW ws).all fun p=>decide (p<n))
theorem places_mem{ws:List Int}{p:Int}:p∈gW ws↔0≤p∧fL ws p.toNat=true:=by
 unfold gW;simp only [List.mem_map,List.mem_filter,List.mem_range];constructor
 ·rintro⟨q,⟨h1,h2⟩,rfl⟩;exact⟨by omega,by simpa using h2⟩
 ·rintro⟨h1,h2⟩;refine⟨p.toNat,⟨?_,h2⟩,by omega⟩;by_cases hh:p.toNat<64*ws.length
  ·exact hh
  ·rw [TL (by omega)]at h2;simp at h2
theorem vz(f:Nat→Bool)(j:Nat):(List.range (j+1)).filter f=(List.range j).filter f++(if f j=true then [j]else []):=by
 rw [List.range_succ,List.filter_append];congr 1;cases hf:f j<;>simp [hf]
theorem nU(s:Sl Int)(hok:okS 1 s)(hu:qR s.l)(hl:s.l.length≤1000):dQ s=some (gW s.l):=by
 unfold dQ
 obtain⟨q,q1,q2⟩:=cu (b:=eg s) (64*s.l.length) (fun j a=>a=(((List.range j).filter (fL s.l)).map (fun p:Nat=>(p:Int)),(j:Int))) (fun q=>q= .inl (gW s.l))
  (by
   rintro j _ hj rfl;have hh:=mz s j hok hu (by omega)
   have hlen:(((List.range j).filter (fL s.l)).map (fun p:Nat=>(p:Int))).length≤100000:=by
    have h1:=List.length_filter_le (fL s.l) (List.range j);simp only [List.length_map,List.length_range]at h1 ⊢;omega
   have hap:app (((List.range j).filter (fL s.l)).map (fun p:Nat=>(p:Int))) [(j:Int)]=some (((List.range j).filter (fL s.l)).map (fun p:Nat=>(p:Int))++ [(j:Int)]):=mm (by simp at hlen ⊢;unfold cS;omega);simp only [eg,hh,zbS,cX hj (by omega)];rw [fM (n:=64*((s.l.length:Nat):Int)) (by omega) (by omega),if_pos (by omega)];refine .inl ?_;rw [vz]
   cases hb:fL s.l j with
   |true=>
    rw [if_pos rfl,hap];exact⟨_,rfl,by simp⟩
   |false=>exact⟨_,rfl,by simp⟩)
  (by
   rintro _ rfl;refine⟨.inl (gW s.l),?_,rfl⟩;simp only [eg];rw [fM (n:=64*((s.l.length:Nat):Int)) (by omega) (by omega),if_neg (by omega)]
   rfl) 0 (Nat.zero_le _) ([],0) rfl
 rw [q1,q2];rfl
theorem sN(ws:List Int):(gW ws).Pairwise (·<·):=by
 unfold gW;rw [List.pairwise_map];refine List.Pairwise.imp (R:=(·<·)) (fun h=>by omega) ?_;exact List.Pairwise.sublist (List.filter_sublist) List.pairwise_lt_range
theorem Bi(ws:List Int):(gW ws).length≤64*ws.length:=by
 unfold gW;have h1:=List.length_filter_le (fL ws) (List.range (64*ws.length));simp only [List.length_map,List.length_range]at h1 ⊢;omega
theorem qD(s:Sl Int)(n:Int)(hok:okS 1 s)(hu:qR s.l)(hl:s.l.length≤9223372036854775807):eC s n=some (mS s.l n):=by
 unfold eC mS dn;by_cases h1:n<0
 ·rw [if_pos h1,decide_eq_false (show¬0≤n by omega)];simp
 by_cases h2:n>4096
 ·rw [if_neg h1,if_pos h2,decide_eq_false (show¬n≤4096 by omega)];simp
 rw [if_neg h1,if_neg h2,decide_eq_true (show 0≤n by omega),decide_eq_true (show n≤4096 by omega),kd ⟨by omega,by omega⟩];simp only [zbS,Bool.and_self,Bool.true_and];by_cases h3:((s.l.length:Nat):Int)=(n+63)/ 64
 ·rw [if_neg (fun h=>h h3),decide_eq_true h3,nU s hok hu (by omega)];simp only [zbS,Bool.true_and];have hsort:=sN s.l;have hlen:=Bi s.l;generalize gW s.l=l at hsort hlen;by_cases h4:l= []
  ·subst h4;rw [if_pos (by simp)];rfl
  ·have h5:0<l.length:=List.length_pos_iff.2 h4;rw [if_neg (by omega),fM (by omega) (by omega),show((l.length:Nat):Int) - 1=((l.length - 1:Nat):Int)by omega];have hml:(mo 1 l).l=l:=kI _ _;have ha:=bI (w:=1) (s:=mo 1 l) (oo l) (j:=l.length - 1) (by rw [hml];omega);rw [ha];simp only [zbS,hml]
   have key:l.all (fun p=>decide (p<n))=true↔l[l.length - 1]<n:=by
    rw [List.all_eq_true];constructor
    ·intro h;simpa using h _ (List.getElem_mem (by omega:l.length - 1<l.length))
    ·intro h p hp;obtain⟨i,hi,rfl⟩:=List.mem_iff_getElem.1 hp;rw [decide_eq_true_eq];by_cases e:i=l.length - 1
     ·subst e;exact h
     ·have:=List.pairwise_iff_getElem.1 hsort i (l.length - 1) hi (by omega) (by omega)
      omega
   by_cases hz:l[l.length - 1]<n
   ·rw [if_pos hz,key.2 hz]
   ·rw [if_neg hz,Bool.eq_false_iff.2 fun e=>hz (key.1 e)]
 ·rw [if_pos h3,decide_eq_false h3];simp
end Ev
end
noncomputable section
namespace Ev
open Go
def il(d:Int×Sl Int×Sl Int):Bool:=mS d.2.1.l d.1 &&(decide ((d.2.2.l.length:Int)=d.1)&&(List.range d.2.2.l.length).all fun i=>decide (d.2.2.l.getD i 0=0)||fL d.2.1.l i)
theorem cm{l:List Int}{i:Nat}(h:i<l.length):l.getD i 0=l[i]:=by rw [List.getD_eq_getElem?_getD,List.getElem?_eq_getElem h];rfl
theorem all_range{n:Nat}{f:Nat→Bool}:(List.range n).all f=true↔∀i,i<n→f i=true:=by
 rw [List.all_eq_true];exact⟨fun h i hi=>h i (by simpa using hi),fun h i hi=>h i (by simpa using hi)⟩
theorem ot{n:Nat}{f:Nat→Bool}{i:Nat}(hi:i<n)(h:f i=false):(List.range n).all f=false:=by
 rw [Bool.eq_false_iff];intro e;have:=all_range.1 e i hi;rw [h]at this;simp at this
structure OkD(d:Int×Sl Int×Sl Int):Prop where
 has:okS 1 d.2.1
 bits:qR d.2.1.l
 vals:okS 1 d.2.2
 v64:∀x∈d.2.2.l,cH x
 hl:d.2.1.l.length≤9223372036854775807
 vl:d.2.2.l.length≤9223372036854775807
theorem qE{d:Int×Sl Int×Sl Int}(h:OkD d):eD d=some (il d):=by
 obtain⟨n,s,t⟩:=d;obtain⟨h1,h2,h3,h4,h5,h6⟩:=h;simp only at h1 h2 h3 h4 h5 h6;unfold eD il;simp only;have hsz:mS s.l n=true→0≤n∧n≤4096:=fun hr=>by unfold mS dn at hr;simp only [Bool.and_eq_true,decide_eq_true_eq]at hr;exact hr.1
 by_cases z1:n<0
 ·rw [if_pos z1]
  cases hr:mS s.l n with
  |false=>rfl
  |true=>have:=hsz hr;omega
 by_cases z2:n>4096
 ·rw [if_neg z1,if_pos z2]
  cases hr:mS s.l n with
  |false=>rfl
  |true=>have:=hsz hr;omega
 rw [if_neg z1,if_neg z2,qD s n h1 h2 h5];simp only [zbS]
 cases hr:mS s.l n with
 |false=>simp
 |true=>
  simp only [if_true,Bool.true_and];by_cases hn:((t.l.length:Nat):Int)=n
  ·rw [if_neg (fun h=>h hn),decide_eq_true hn];simp only [Bool.true_and]
   obtain⟨q,q1,q2⟩:=cu (b:=eF n s t) t.l.length (fun j a=>a=(j:Int)∧∀i,i<j→(decide (t.l.getD i 0=0)||fL s.l i)=true) (fun q=>((List.range t.l.length).all (fun i=>decide (t.l.getD i 0=0)||fL s.l i)=true∧q= .inl ())∨((List.range t.l.length).all (fun i=>decide (t.l.getD i 0=0)||fL s.l i)=false∧q= .inr false))
    (by
     rintro j _ hj ⟨rfl,ha⟩;have hh:=mz s j h1 h2 (by omega);have hd:=cm hj;simp only [eF,bI h3 hj,zbS,hh,cX hj (by omega)];rw [if_pos (by omega)]
     have next:(decide (t.l.getD j 0=0)||fL s.l j)=true→∀i,i<j+1→(decide (t.l.getD i 0=0)||fL s.l i)=true:=fun h i hi=>by
      by_cases e:i=j
      ·rw [e];exact h
      ·exact ha i (by omega)
     cases hb:fL s.l j with
     |true=>exact .inl ⟨_,rfl,rfl,next (by rw [hb];simp)⟩
     |false=>
      simp only [Bool.false_eq_true,if_false];by_cases h0:t.l[j]=0
      ·rw [if_neg (fun h=>h h0)];exact .inl ⟨_,rfl,rfl,next (by rw [hd,decide_eq_true h0];rfl)⟩
      ·rw [if_pos h0]
       exact .inr ⟨_,rfl,.inr ⟨ot hj (by rw [hd,hb,decide_eq_false h0];rfl),rfl⟩⟩)
    (by
     rintro _ ⟨rfl,ha⟩
     exact⟨_,if_neg (by omega),.inl ⟨all_range.2 ha,rfl⟩⟩) 0 (Nat.zero_le _) 0 ⟨rfl,fun i hi=>absurd hi (by omega)⟩
   rw [q1];rcases q2 with⟨e,rfl⟩|⟨e,rfl⟩<;>rw [e]<;>rfl
  ·rw [if_pos hn,decide_eq_false hn];simp
def qS(ws vs:List Int):List It:=(gW ws).map fun p=>(p,vs.getD p.toNat 0)
def Oq(d:Int×Sl Int×Sl Int):Int×Sl It:=if il d=true then(d.1,mo 2 (qS d.2.1.l d.2.2.l))else(0,gU)
theorem qT{d:Int×Sl Int×Sl Int}(h:il d=true):0≤d.1∧d.1≤4096∧(d.2.1.l.length:Int)=(d.1+63)/ 64∧(∀p∈gW d.2.1.l,0≤p∧p<d.1)∧(d.2.2.l.length:Int)=d.1:=by
 unfold il mS dn at h;simp only [Bool.and_eq_true,decide_eq_true_eq,List.all_eq_true]at h;obtain⟨⟨⟨a,b⟩,c,e⟩,f,g⟩:=h;exact⟨a,b,c,fun p hp=>⟨(places_mem.1 hp).1,e p hp⟩,f⟩
theorem GX{n:Int}(f:Int→Int):∀{l:List Int} {a:Int},l.Pairwise (·<·)→(∀p∈l,a<p∧p<n)→asc a n (l.map fun p=>(p,f p))=true
 | [],a,_,_=>rfl
 |x::l,a,h1,h2=>by
  rw [List.pairwise_cons]at h1;have hx:=h2 x List.mem_cons_self;simp only [List.map_cons,asc,Bool.and_eq_true,decide_eq_true_eq];exact⟨hx,GX f h1.2 fun p hp=>⟨h1.1 p hp,(h2 p (List.mem_cons_of_mem _ hp)).2⟩⟩
theorem ME{d:Int×Sl Int×Sl Int}(h:il d=true):fu (d.1,mo 2 (qS d.2.1.l d.2.2.l))=true:=by
 obtain⟨h1,h2,h3,h4,h5⟩:=qT h;simp only [fu,vt,kI,Bool.and_eq_true,decide_eq_true_eq];exact⟨⟨h1,h2⟩,GX _ (sN _) fun p hp=>⟨by have:=(h4 p hp).1;omega,(h4 p hp).2⟩⟩
theorem Kc{f:Int→Int}{p:Int}:∀{l:List Int},bS p (l.map fun q=>(q,f q))=if p∈l then some (f p)else none
 | []=>by simp [bS]
 |x::l=>by
  simp only [List.map_cons,bS];by_cases e:x=p
  ·subst e;simp
  ·rw [if_neg e,Kc];simp [Ne.symm e]
def lM(d:Int×Sl Int×Sl Int)(k:Int):Option Int:=if 0≤k∧fL d.2.1.l k.toNat=true then some (d.2.2.l.getD k.toNat 0)else none
theorem TN(d:Int×Sl Int×Sl Int)(k:Int):bS k (qS d.2.1.l d.2.2.l)=lM d k:=by
 unfold qS lM;rw [Kc (f:=fun p=>d.2.2.l.getD p.toNat 0)];by_cases h:0≤k∧fL d.2.1.l k.toNat=true
 ·rw [if_pos (places_mem.2 h),if_pos h]
 ·rw [if_neg (fun e=>h (places_mem.1 e)),if_neg h]
theorem sH{d:Int×Sl Int×Sl Int}(h:OkD d):fJ d=some (Oq d):=by
 have hR:=qE h;obtain⟨n,s,t⟩:=d;obtain⟨h1,h2,h3,h4,h5,h6⟩:=h;simp only at h1 h2 h3 h4 h5 h6;unfold fJ Oq;simp only [hR,zbS]
 cases hr:il (n,s,t)with
 |false=>rfl
 |true=>
  obtain⟨r1,r2,r3,r4,r5⟩:=qT hr;simp only at r1 r2 r3 r4 r5;simp only [if_true];rw [nU s h1 h2 (by omega)];simp only [zbS];have hlen:=Bi s.l;unfold qS;generalize gW s.l=l at r4 hlen
  obtain⟨q,q1,q2⟩:=cu (b:=fy t l) l.length (fun j a=>a=((j:Int),(l.take j).map fun p=>(p,t.l.getD p.toNat 0))) (fun q=>q= .inl (l.map fun p=>(p,t.l.getD p.toNat 0)))
   (by
    rintro j _ hj rfl;have hml:(mo 1 l).l=l:=kI _ _;have ha:=bI (w:=1) (s:=mo 1 l) (oo l) (j:=j) (by rw [hml];exact hj);have hp:=r4 _ (List.getElem_mem hj);have hk:l[j].toNat<t.l.length:=by omega
    have hb:=bI (w:=1) (s:=t) h3 hk;rw [show((l[j].toNat:Nat):Int)=l[j]by omega]at hb;have hlen2:((l.take j).map fun p=>(p,t.l.getD p.toNat 0)).length≤100000:=by simp;omega
    have hap:app ((l.take j).map fun p=>(p,t.l.getD p.toNat 0)) [(l[j],t.l[l[j].toNat])]=some ((l.take j).map (fun p=>(p,t.l.getD p.toNat 0))++ [(l[j],t.l[l[j].toNat])]):=mm (by simp at hlen2 ⊢;unfold cS;omega);simp only [fy,ha,hml,hb,zbS,hap,cX hj (by omega)];rw [if_pos (by omega)];refine .inl ⟨_,rfl,?_⟩
    rw [List.take_succ_eq_append_getElem hj,List.map_append,List.map_cons,List.map_nil,cm hk])
   (by
    rintro _ rfl;refine⟨_,if_neg (by omega),?_⟩
    rw [List.take_length]) 0 (Nat.zero_le _) (0,[]) rfl
  rw [q1,q2];rfl
end Ev
end
noncomputable section
namespace Ev
open Go
abbrev Mx:=Int×Int×Sl Int×Sl Int×Sl Int
def gP(a n:Int)(l:List Int):Bool:=asc a n (l.map fun k=>(k,0))
theorem mC(a n x:Int)(l:List Int):gP a n (x::l)=(decide (a<x)&& decide (x<n)&& gP x n l):=rfl
theorem ascI_iff{n:Int}{l:List Int}:gP (-1) n l=true↔∀j (h:j<l.length),0≤l[j]∧l[j]<n∧(j≠0→l[j - 1]'(by omega)<l[j]):=by
 unfold gP;rw [asc_iff'];constructor
 ·intro h j hj
  have:=h j (by simpa using hj)
  simpa using this
 ·intro h j hj
  have:=h j (by simpa using hj)
  simpa using this
def cN{α:Type}(l:List α)(f t:Int):List α:=(l.drop f.toNat).take (t.toNat - f.toNat)
theorem ig{α:Type}{l:List α}{f t:Int}(h:0≤f∧f≤t∧t≤l.length):(cN l f t).length=t.toNat - f.toNat:=by
 unfold cN;simp;omega
theorem uZ{α:Type}{l:List α}{f t:Int}(h:0≤f∧f≤t∧t≤l.length){j:Nat}(hj:j<t.toNat - f.toNat):(cN l f t)[j]'(by rw [ig h];exact hj)=l[f.toNat+j]'(by omega):=by
 unfold cN;simp
def gQ(c:Int)(st co:List Int)(i:Nat):Bool:=decide (0≤st.getD i 0)&&(decide (st.getD i 0≤st.getD (i+1) 0)&&(decide (st.getD (i+1) 0≤co.length)&& gP (-1) c (cN co (st.getD i 0) (st.getD (i+1) 0))))
def cI(m:Mx):Bool:=dn m.1 &&(dn m.2.1 &&(decide ((m.2.2.1.l.length:Int)=m.1+1)&&(decide (m.2.2.1.l.getD 0 0=0)&&(decide (m.2.2.2.1.l.length=m.2.2.2.2.l.length)&&(decide (m.2.2.2.1.l.length≤65536)&&(decide (m.2.2.1.l.getD m.1.toNat 0=m.2.2.2.1.l.length)&&(List.range m.1.toNat).all (gQ m.2.1 m.2.2.1.l m.2.2.2.1.l)))))))
structure OkM(m:Mx):Prop where
 st:okS 1 m.2.2.1
 co:okS 1 m.2.2.2.1
 va:okS 1 m.2.2.2.2
 v64:∀x∈m.2.2.2.2.l,cH x
 sl:m.2.2.1.l.length≤9223372036854775807
 cl:m.2.2.2.1.l.length≤9223372036854775807
 vl:m.2.2.2.2.l.length≤9223372036854775807
theorem lI{n:Nat}{c:Int}{st co:List Int}{i:Nat}(hi:i<n)(h:gQ c st co i=false):(List.range n).all (gQ c st co)=false:=ot hi h
theorem sizeF_iff{n:Int}:dn n=true↔0≤n∧n≤4096:=by unfold dn;simp
theorem Ot:∀(l:List Int) (a n:Int),KM.gP a n l=gP a n l
 | [],_,_=>rfl
 |x::l,a,n=>by rw [KM.mC,mC,Ot l]
theorem TO(c:Int)(st co:List Int):KM.gQ c st co=gQ c st co:=by
 funext i;unfold KM.gQ gQ;rw [Ot];rfl
theorem Qg(m:Mx):KM.cI m=cI m:=by
 unfold KM.cI cI;rw [TO];rfl
theorem mO{m:Mx}(h:OkM m):eA m=some (cI m):=(KM.Dg ⟨h.st,h.co,h.va,h.v64,h.sl,h.cl,h.vl⟩).trans (congrArg some (Qg m))
def qg(m:Mx):Mx:=if cI m=true then m else(0,0,⟨true,1,[0]⟩,gU,gU)
theorem sE{m:Mx}(h:OkM m):fI m=some (qg m):=by
 have hR:=mO h;obtain⟨n,c,s,t,v⟩:=m;unfold fI qg;simp only [hR,zbS];split
 ·rfl
 ·rfl
theorem TP{m:Mx}(h:OkM m):OkM (qg m):=by
 unfold qg;split
 ·exact h
 ·exact⟨.inr rfl,kR,kR,fun x hx=>by simp [gU]at hx,by simp,by simp [gU],by simp [gU]⟩
theorem Kd(m:Mx):cI (qg m)=true:=by unfold qg;split;assumption;rfl
theorem fZ{m:Mx}(h:cI m=true):(0≤m.1∧m.1≤4096)∧(0≤m.2.1∧m.2.1≤4096)∧(m.2.2.1.l.length:Int)=m.1+1∧m.2.2.2.1.l.length=m.2.2.2.2.l.length∧m.2.2.2.1.l.length≤65536∧∀i:Nat,(i:Int)<m.1→0≤m.2.2.1.l.getD i 0∧m.2.2.1.l.getD i 0≤m.2.2.1.l.getD (i+1) 0∧m.2.2.1.l.getD (i+1) 0≤m.2.2.2.1.l.length∧gP (-1) m.2.1 (cN m.2.2.2.1.l (m.2.2.1.l.getD i 0) (m.2.2.1.l.getD (i+1) 0))=true:=by
 unfold cI at h;simp only [Bool.and_eq_true,decide_eq_true_eq,sizeF_iff]at h;obtain⟨h1,h2,h3,h4,h5,h6,h7,h8⟩:=h;refine⟨h1,h2,h3,h5,h6,fun i hi=> ?_⟩
 have:=all_range.1 h8 i (by omega)
 unfold gQ at this;simpa only [Bool.and_eq_true,decide_eq_true_eq]using this
end Ev
end
noncomputable section
namespace Ev
open Go
abbrev Wd:=Int×Int
abbrev Dn:=Int×Sl Int×Sl Int
def jI(r:Int)(h:Int→Option Int)(acc:Option Wd)(x:Int×Int):Option Wd:=
 match h x.1 with
 |none=>acc
 |some y=>some (match acc with|none=>eM r x.2 y|some a=>fj r a (eM r x.2 y))
def eV(r:Int)(h:Int→Option Int):List (Int×Int)→Option Wd→Option Wd
 | [],acc=>acc
 |x::l,acc=>eV r h l (jI r h acc x)
def zl:Option Wd→Bool
 |none=>false
 |some _=>true
def wZ:Option Wd→Wd
 |none=>(0,0)
 |some w=>w
theorem Xm{R:Type}{b:Bool×Int×Int×Int→Option ((Bool×Int×Int×Int)⊕((Bool×Int×Int)⊕ R))}{r:Int}{h:Int→Option Int}{items:List (Int×Int)}{f:Int}
  (hs:∀j acc (hj:j<items.length),b (zl acc,f+(j:Int),wZ acc)=some (.inl (zl (jI r h acc items[j]),f+((j+1:Nat):Int),wZ (jI r h acc items[j]))))
  (he:∀acc,b (zl acc,f+(items.length:Int),wZ acc)=some (.inr (.inl (zl acc,wZ acc)))):aM b (false,f,0,0)=some (.inl (zl (eV r h items none),wZ (eV r h items none))):=by
 obtain⟨q,q1,q2⟩:=cu (b:=b) items.length (fun j a=>∃acc,a=(zl acc,f+(j:Int),wZ acc)∧eV r h (items.drop j) acc=eV r h items none) (fun q=>q= .inl (zl (eV r h items none),wZ (eV r h items none)))
  (by
   rintro j _ hj ⟨acc,rfl,ha⟩;rw [List.drop_eq_getElem_cons hj]at ha
   exact .inl ⟨_,hs j acc hj,_,rfl,ha⟩)
  (by
   rintro _ ⟨acc,rfl,ha⟩;rw [List.drop_length]at ha;refine⟨_,he acc,?_⟩
   rw [←ha];rfl) 0 (Nat.zero_le _) (false,f,0,0) ⟨none,by simp [zl,wZ],by simp⟩
 rw [q1,q2]
def dS(m:Mx)(i:Nat):List (Int×Int):=(cN m.2.2.2.1.l (m.2.2.1.l.getD i 0) (m.2.2.1.l.getD (i+1) 0)).zip (cN m.2.2.2.2.l (m.2.2.1.l.getD i 0) (m.2.2.1.l.getD (i+1) 0))
structure YG(m:Mx)(i:Nat)(f t:Int):Prop where
 f1:atS 1 m.2.2.1 (i:Int)=some f
 t1:atS 1 m.2.2.1 (IntKind.i64.wrap ((i:Int)+1))=some t
 len:((dS m i).length:Int)=t - f
 get:∀j (hj:j<(dS m i).length),atS 1 m.2.2.2.1 (f+(j:Int))=some (dS m i)[j].1∧atS 1 m.2.2.2.2 (f+(j:Int))=some (dS m i)[j].2∧0≤(dS m i)[j].1∧(dS m i)[j].1<m.2.1∧cH (dS m i)[j].2∧f+(j:Int)<t∧IntKind.i64.wrap (f+(j:Int)+1)=f+((j+1:Nat):Int)
theorem aaQ{m:Mx}(h:OkM m)(hr:cI m=true){i:Nat}(hi:(i:Int)<m.1):∃f t,YG m i f t:=by
 obtain⟨r1,r2,r3,r4,r5,r6⟩:=fZ hr;obtain⟨p1,p2,p3,p4⟩:=r6 i hi;have e1:=bI h.st (j:=i) (by omega);have e2:=bI h.st (j:=i+1) (by omega);rw [←cm]at e1 e2;have w1:IntKind.i64.wrap ((i:Int)+1)=((i+1:Nat):Int):=cX (n:=m.1.toNat) (by omega) (by omega);refine⟨m.2.2.1.l.getD i 0,m.2.2.1.l.getD (i+1) 0,e1,by rw [w1];exact e2,?_,fun j hj=> ?_⟩
 ·unfold dS;rw [List.length_zip,ig ⟨p1,p2,p3⟩,ig ⟨p1,p2,by omega⟩];omega
 ·have hlen:j<(m.2.2.1.l.getD (i+1) 0).toNat - (m.2.2.1.l.getD i 0).toNat:=by
   unfold dS at hj;rw [List.length_zip,ig ⟨p1,p2,p3⟩]at hj;omega
  have g1:=uZ (l:=m.2.2.2.1.l) ⟨p1,p2,p3⟩ hlen;have g2:=uZ (l:=m.2.2.2.2.l) (f:=m.2.2.1.l.getD i 0) (t:=m.2.2.1.l.getD (i+1) 0) ⟨p1,p2,by omega⟩ hlen;have hc:=ascI_iff.1 p4 j (by rw [ig ⟨p1,p2,p3⟩];exact hlen)
  have hz:(dS m i)[j]=(m.2.2.2.1.l[(m.2.2.1.l.getD i 0).toNat+j]'(by omega),m.2.2.2.2.l[(m.2.2.1.l.getD i 0).toNat+j]'(by omega)):=by
   simp only [dS,List.getElem_zip,g1,g2]
  rw [hz];simp only;rw [g1]at hc;have a1:=bI h.co (j:=(m.2.2.1.l.getD i 0).toNat+j) (by omega);have a2:=bI h.va (j:=(m.2.2.1.l.getD i 0).toNat+j) (by omega);rw [show(((m.2.2.1.l.getD i 0).toNat+j:Nat):Int)=m.2.2.1.l.getD i 0+(j:Int)by omega]at a1 a2;refine⟨a1,a2,hc.1,hc.2.1,?_,by omega,?_⟩
  ·exact h.v64 _ (List.getElem_mem _)
  ·rw [fM (by omega) (by omega)];omega
theorem TQ{d:Dn}(h:OkD d){k y:Int}(hk:lM d k=some y):cH y:=by
 unfold lM at hk;split at hk
 ·simp only [zsI]at hk;rw [←hk,List.getD_eq_getElem?_getD]
  cases hg:d.2.2.l[k.toNat]? with
  |none=>simp [cH]
  |some x=>exact h.v64 x (List.mem_of_getElem? hg)
 ·simp at hk
abbrev RS:=(Bool×List (Int×(Int×Int))×Int)⊕(List (Int×(Int×Int))⊕(Sl (Int×(Int×Int))×Int))
theorem Ei{r:Int}{m:Mx}{d:Dn}(hd:OkD d)(hrd:il d=true){i:Nat}{f t:Int}(R:YG m i f t){b:Bool×Int×Int×Int→Option ((Bool×Int×Int×Int)⊕((Bool×Int×Int)⊕ RS))}
  (hb:b=dB r m.2.2.1 m.2.2.2.1 m.2.2.2.2 d.1 (mo 2 (qS d.2.1.l d.2.2.l)) (i:Int)∨b=fC r m.2.2.1 m.2.2.2.1 m.2.2.2.2 d.1 (mo 2 (qS d.2.1.l d.2.2.l)) (i:Int)):aM b (false,f,0,0)=some (.inl (zl (eV r (lM d) (dS m i) none),wZ (eV r (lM d) (dS m i) none))):=by
 refine Xm (fun j acc hj=> ?_) fun acc=> ?_
 ·obtain⟨g1,g2,g3,g4,g5,g6,g7⟩:=R.get j hj;generalize (dS m i)[j]=x at*;have hget:=uT d.1 (mo 2 (qS d.2.1.l d.2.2.l)) x.1 (oo _) (ME hrd);rw [kI,TN d]at hget;have key:∀y,lM d x.1=some y→fG r x.2 y=some (eM r x.2 y):=fun y hy=>uX r g5 (TQ hd hy);unfold jI;rcases hb with rfl|rfl
  ·cases hx:lM d x.1 with
   |none=>
    rw [hx]at hget;simp only [dB,R.t1,g1,g7,hget,TJ,zbS,if_pos g6];rfl
   |some y=>
    rw [hx]at hget;simp only [dB,R.t1,g1,g2,g7,hget,TJ,zbS,if_pos g6,key y hx]
    cases acc with
    |none=>rfl
    |some w=>simp only [zl,wZ,if_true,my,zbS]
  ·cases hx:lM d x.1 with
   |none=>
    rw [hx]at hget;simp only [fC,R.t1,g1,g7,hget,TJ,zbS,if_pos g6];rfl
   |some y=>
    rw [hx]at hget;simp only [fC,R.t1,g1,g2,g7,hget,TJ,zbS,if_pos g6,key y hx]
    cases acc with
    |none=>rfl
    |some w=>simp only [zl,wZ,if_true,my,zbS]
 ·have hn:¬f+((dS m i).length:Int)<t:=by rw [R.len];omega
  rcases hb with rfl|rfl
  ·simp only [dB,R.t1,zbS,if_neg hn]
  ·simp only [fC,R.t1,zbS,if_neg hn]
def Qh(r:Int)(h:Int→Option Int)(m:Mx)(ask:Nat→Bool)(i:Nat):Option (Int×Wd):=if ask i=true then(eV r h (dS m i) none).map fun w=>((i:Int),w)else none
def qh(r:Int)(h:Int→Option Int)(m:Mx)(ask:Nat→Bool)(n:Nat):List (Int×Wd):=(List.range n).filterMap (Qh r h m ask)
theorem Bj(r:Int)(h:Int→Option Int)(m:Mx)(ask:Nat→Bool)(n:Nat):qh r h m ask (n+1)=qh r h m ask n++(Qh r h m ask n).toList:=by
 unfold qh;rw [List.range_succ,List.filterMap_append];congr 1
 all_goals (cases hs:Qh r h m ask n<;>simp [hs])
theorem Qi(r:Int)(h:Int→Option Int)(m:Mx)(ask:Nat→Bool)(n:Nat):(qh r h m ask n).length≤n:=by
 unfold qh
 have:=List.length_filterMap_le (Qh r h m ask) (List.range n)
 simpa using this
def oJ(d:Dn):Dn:=if il d=true then d else(0,gU,gU)
theorem Ke(d:Dn):il (oJ d)=true:=by unfold oJ;split;assumption;rfl
theorem TR{d:Dn}(h:OkD d):OkD (oJ d):=by
 unfold oJ;split
 ·exact h
 ·exact⟨kR,fun x hx=>by simp [gU]at hx,kR,fun x hx=>by simp [gU]at hx,by simp [gU],by simp [gU]⟩
def qU(ws:List Int)(o:Bool)(i:Nat):Bool:=fL ws i !=o
def Ou(r:Int)(m:Mx)(d:Dn)(ws:List Int)(o:Bool):Sl (Int×Wd)×Int:=
 if okR r=true then(if(oJ d).1=(qg m).2.1 then(mo 3 (qh r (lM (oJ d)) (qg m) (qU ws o) (qg m).1.toNat),0)else(gU,4))else(gU,8)
theorem Ov{l:List (Int×Wd)}(hl:l.length≤5000)(x:Int×Wd):app l [x]=some (l++ [x]):=mm (by simp;unfold cS;omega)
theorem TS{r:Int}{m:Mx}{d:Dn}(hm:OkM m)(hrm:cI m=true)(hd:OkD d)(hrd:il d=true){s:Sl Int}(hs:okS 1 s)(hu:qR s.l)(o:Bool):
  aM (eh r s m.1 m.2.2.1 m.2.2.2.1 m.2.2.2.2 d.1 (mo 2 (qS d.2.1.l d.2.2.l))) (o,[],0)=some (.inl (qh r (lM d) m (qU s.l o) m.1.toNat)):=by
 obtain⟨r1,r2,r3,r4,r5,r6⟩:=fZ hrm
 obtain⟨q,q1,q2⟩:=cu (b:=eh r s m.1 m.2.2.1 m.2.2.2.1 m.2.2.2.2 d.1 (mo 2 (qS d.2.1.l d.2.2.l))) m.1.toNat (fun j a=>a=(o,qh r (lM d) m (qU s.l o) j,(j:Int))) (fun q=>q= .inl (qh r (lM d) m (qU s.l o) m.1.toNat))
  (by
   rintro j _ hj rfl;have hjm:(j:Int)<m.1:=by omega
   obtain⟨f,t,R⟩:=aaQ hm hrm hjm;have hh:=mz s j hs hu (by omega);have h5:=Ei (r:=r) hd hrd R (.inl rfl);have h6:=Ei (r:=r) hd hrd R (.inr rfl);have hlen:=Qi r (lM d) m (qU s.l o) j;have hap:=fun x=>Ov (l:=qh r (lM d) m (qU s.l o) j) (by omega) x;simp only [eh,hh,R.f1,h5,h6,zbS,Sum.elim_inl,cX hj (by omega),if_pos hjm,hap];rw [Bj];refine .inl ?_
   have hI:Qh r (lM d) m (qU s.l o) j=if(fL s.l j !=o)=true then(eV r (lM d) (dS m j) none).map (fun w=>((j:Int),w))else none:=rfl
   rw [hI]
   cases hb:fL s.l j<;>cases o<;>cases hx:eV r (lM d) (dS m j) none<;>exact⟨_,rfl,by simp [wZ]⟩)
  (by
   rintro _ rfl
   refine⟨_,if_neg (by omega),rfl⟩) 0 (Nat.zero_le _) (o,[],0) rfl
 rw [q1,q2]
theorem Qj(d:Dn):Oq d=((oJ d).1,mo 2 (qS (oJ d).2.1.l (oJ d).2.2.l)):=by
 unfold Oq oJ;split<;>rfl
theorem sI{r:Int}{m:Mx}{d:Dn}(hm:OkM m)(hd:OkD d){s:Sl Int}(hs:okS 1 s)(hu:qR s.l)(o:Bool):gl r m d s o=some (Ou r m d s.l o):=by
 have e1:=sE hm;have e2:=sH hd;have hm':=TP hm;have hrm:=Kd m;have hd':=TR hd;have hrd:=Ke d;rw [Qj]at e2;obtain⟨m1,m2,m3,m4,m5⟩:=m;obtain⟨d1,d2,d3⟩:=d;unfold gl Ou;simp only [e1,e2,zbS,qB];generalize qg (m1,m2,m3,m4,m5)=u at hm' hrm ⊢;generalize oJ (d1,d2,d3)=v at hd' hrd ⊢;by_cases c:okR r=true
 ·have c':(decide (1≤r)&& decide (r≤5))=true:=c;rw [if_pos c',if_pos c];by_cases hn:v.1=u.2.1
  ·rw [if_neg (fun h=>h hn),if_pos hn,TS hm' hrm hd' hrd hs hu o];rfl
  ·rw [if_pos hn,if_neg hn];rfl
 ·have c':¬(decide (1≤r)&& decide (r≤5))=true:=c;rw [if_neg c',if_neg c];rfl
theorem DE(s:Sl (Int×Wd))(hok:okS 3 s)(hl:s.l.length≤9223372036854775807):dE s s=some true:=by
 unfold dE;rw [if_neg (by simp)]
 obtain⟨q,h1,h2⟩:=cu (b:=dG s s) s.l.length (fun j a=>a=(j:Int)) (fun q=>q= .inl ())
  (by
   rintro j _ hj rfl;simp only [dG,bI hok hj,zbS,cX hj (by omega)];rw [if_pos (by omega)]
   exact .inl ⟨_,if_pos (by simp),rfl⟩)
  (by
   rintro _ rfl
   exact⟨_,if_neg (by omega),rfl⟩) 0 (Nat.zero_le _) 0 rfl
 subst h2;rw [h1];rfl
end Ev
end
noncomputable section
namespace Ev
open Go
def gX(n:Nat)(f:Nat→Int):List Int:=(List.range (n+1)).map f
theorem gA(n:Nat)(f:Nat→Int):(gX n f).length=n+1:=by unfold gX;simp
theorem fY{n k:Nat}(f:Nat→Int)(h:k≤n):(gX n f)[k]? =some (f k):=by
 unfold gX;rw [List.getElem?_map,List.getElem?_range (by omega)];rfl
theorem gB{n k:Nat}(f:Nat→Int)(h:k≤n):(gX n f).getD k 0=f k:=by rw [List.getD_eq_getElem?_getD,fY f h];rfl
theorem mP{n:Nat}{f g:Nat→Int}(h:∀k,k≤n→f k=g k):gX n f=gX n g:=by
 unfold gX;refine List.map_congr_left fun k hk=>h k ?_;simp at hk;omega
theorem JB{n k:Nat}(f:Nat→Int)(v:Int)(h:k≤n):(gX n f).set k v=gX n fun i=>if i=k then v else f i:=by
 refine List.ext_getElem? fun i=> ?_;rw [List.getElem?_set];by_cases hi:i≤n
 ·rw [fY _ hi];by_cases e:k=i
  ·subst e;rw [if_pos rfl,if_pos (by rw [gA];omega),fY _ hi,if_pos rfl]
  ·rw [if_neg e,fY _ hi,if_neg (Ne.symm e)]
 ·rw [if_neg (by omega)];rw [List.getElem?_eq_none (by rw [gA];omega),List.getElem?_eq_none (by rw [gA];omega)]
theorem Ea(n:Nat):List.replicate (n+1) (0:Int)=gX n fun _=>0:=by
 refine List.ext_getElem? fun i=> ?_;by_cases hi:i≤n
 ·rw [fY _ hi,List.getElem?_replicate,if_pos (by omega)]
 ·rw [List.getElem?_eq_none (by simp;omega),List.getElem?_eq_none (by rw [gA];omega)]
def aQ(l:List E3)(k:Nat):Nat:=l.countP fun x=>decide (x.1<(k:Int))
theorem pn(l:List E3)(k:Nat):aQ l k≤l.length:=List.countP_le_length
theorem JC(l:List E3)(x:E3)(k:Nat):aQ (l++ [x]) k=aQ l k+if x.1<(k:Int)then 1 else 0:=by
 unfold aQ;rw [List.countP_append];congr 1;by_cases h:x.1<(k:Int)<;>simp [h]
def nV(n c:Int)(l:List E3):Mx:=(n,c,⟨true,1,gX n.toNat fun k=>((aQ l k:Nat):Int)⟩,mo 1 (l.map (·.2.1)),mo 1 (l.map (·.2.2)))
theorem qG{l:List E3}(h:l.Pairwise fun a b=>a.1≤b.1)(k:Int):(l.filter fun x=>decide (x.1<k))++(l.filter fun x=> !decide (x.1<k))=l:=by
 induction l with
 |nil=>rfl
 |cons x l ih=>
  rw [List.pairwise_cons]at h;have ih:=ih h.2;by_cases c:x.1<k
  ·rw [List.filter_cons_of_pos (by simp [c]),List.filter_cons_of_neg (by simp [c]),List.cons_append,ih]
  ·have e1:(l.filter fun x=>decide (x.1<k))= []:=by
    rw [List.filter_eq_nil_iff];intro y hy
    have:=h.1 y hy
    simp;omega
   rw [e1,List.nil_append]at ih;rw [List.filter_cons_of_neg (by simp [c]),List.filter_cons_of_pos (by simp [c]),e1,List.nil_append,ih]
theorem vc{l:List E3}(h:l.Pairwise fun a b=>a.1≤b.1)(k:Nat):l.take (aQ l k)=(l.filter fun x=>decide (x.1<(k:Int)))∧l.drop (aQ l k)=l.filter fun x=> !decide (x.1<(k:Int)):=by
 have e:=qG h (k:Int);have hl:aQ l k=(l.filter fun x=>decide (x.1<(k:Int))).length:=by unfold aQ;rw [List.countP_eq_length_filter]
 have key:∀A B:List E3,A++B=l→l.take A.length=A∧l.drop A.length=B:=by
  rintro A B rfl;exact⟨List.take_left,List.drop_left⟩
 rw [hl];exact key _ _ e
def qn(l:List E3)(i:Nat):List E3:=(l.filter fun x=> !decide (x.1<(i:Int))).filter fun x=>decide (x.1<((i+1:Nat):Int))
theorem rowE_mem{l:List E3}{i:Nat}{x:E3}:x∈qn l i↔x∈l∧x.1=(i:Int):=by
 unfold qn;simp only [List.mem_filter,Bool.not_eq_true',decide_eq_false_iff_not,decide_eq_true_eq];constructor
 ·rintro⟨⟨h1,h2⟩,h3⟩;exact⟨h1,by omega⟩
 ·rintro⟨h1,h2⟩;exact⟨⟨h1,by omega⟩,by omega⟩
theorem AC{l:List E3}(h:dM l):l.Pairwise fun a b=>a.1≤b.1:=h.imp fun hb=>by rw [bel_iff]at hb;omega
theorem nv{l:List E3}(h:dM l)(i:Nat):aQ l i≤aQ l (i+1)∧(l.drop (aQ l i)).take (aQ l (i+1) - aQ l i)=qn l i:=by
 have hle:=AC h;have e1:=(vc hle i).2
 have hmono:aQ l i≤aQ l (i+1):=by
  unfold aQ;refine List.countP_mono_left fun x _ hx=> ?_;simp only [decide_eq_true_eq]at hx ⊢;omega
 refine⟨hmono,?_⟩;rw [e1];have hg:(l.filter fun x=> !decide (x.1<(i:Int))).Pairwise fun a b=>a.1≤b.1:=hle.sublist List.filter_sublist;have e2:=(vc hg (i+1)).1
 have hc:aQ (l.filter fun x=> !decide (x.1<(i:Int))) (i+1)=aQ l (i+1) - aQ l i:=by
  have h1:aQ l (i+1)=aQ (l.filter fun x=>decide (x.1<(i:Int))) (i+1)+aQ (l.filter fun x=> !decide (x.1<(i:Int))) (i+1):=by
   conv=>lhs;rw [←qG hle (i:Int)]
   unfold aQ;rw [List.countP_append]
  have h2:aQ (l.filter fun x=>decide (x.1<(i:Int))) (i+1)=aQ l i:=by
   unfold aQ;rw [List.countP_filter];refine List.countP_congr fun x _=> ?_;simp only [Bool.and_eq_true,decide_eq_true_eq];omega
  omega
 rw [←hc,e2];rfl
theorem tG{l:List E3}(h:dM l)(i:Nat):((qn l i).map (·.2.1)).Pairwise (·<·):=by
 rw [List.pairwise_map];have hs:dM (qn l i):=h.sublist (List.filter_sublist.trans List.filter_sublist);refine hs.imp_of_mem fun{a b} ha hb hab=> ?_;have h1:=(rowE_mem.1 ha).2;have h2:=(rowE_mem.1 hb).2;rw [bel_iff]at hab;omega
theorem ou{α β:Type}(f:α→β)(l:List α)(a b:Int):cN (l.map f) a b=(cN l a b).map f:=by unfold cN;rw [←List.map_drop,←List.map_take]
theorem TU{n c:Int}{l:List E3}(h:dM l){i:Nat}(hi:(i:Int)<n):dS (nV n c l) i=(qn l i).map fun x=>(x.2.1,x.2.2):=by
 unfold dS nV;simp only [kI];rw [gB _ (by omega),gB _ (by omega),ou,ou]
 have e:cN l ((aQ l i:Nat):Int) ((aQ l (i+1):Nat):Int)=qn l i:=by
  unfold cN;rw [Int.toNat_natCast,Int.toNat_natCast];exact(nv h i).2
 rw [e,List.zip_map']
theorem AD{n c:Int}(hn:0≤n∧n≤4096)(hc:0≤c∧c≤4096){l:List E3}(hl:l.length≤65536)(h:dM l)(hp:∀x∈l,(0≤x.1∧x.1<n)∧0≤x.2.1∧x.2.1<c):cI (nV n c l)=true:=by
 have h0:aQ l 0=0:=by
  unfold aQ;rw [List.countP_eq_zero];intro x hx
  have:=(hp x hx).1.1
  simp;omega
 have hN:aQ l n.toNat=l.length:=by
  unfold aQ;rw [List.countP_eq_length];intro x hx
  have:=(hp x hx).1.2
  simp;omega
 unfold cI nV;simp only [kI,Bool.and_eq_true,decide_eq_true_eq,sizeF_iff,List.length_map,gA];refine⟨hn,hc,by omega,?_,trivial,hl,?_,?_⟩
 ·rw [gB _ (Nat.zero_le _),h0];rfl
 ·rw [gB _ (Nat.le_refl _),hN]
 ·refine all_range.2 fun i hi=> ?_;unfold gQ;rw [gB _ (by omega),gB _ (by omega)];obtain⟨r1,r2⟩:=nv h i;have hle:=pn l (i+1);simp only [Bool.and_eq_true,decide_eq_true_eq,List.length_map];refine⟨by omega,by omega,by omega,?_⟩
  have e:cN (l.map (·.2.1)) ((aQ l i:Nat):Int) ((aQ l (i+1):Nat):Int)=(qn l i).map (·.2.1):=by
   rw [ou];unfold cN;rw [Int.toNat_natCast,Int.toNat_natCast,r2]
  rw [e]
  exact GX (fun _=>0) (tG h i) fun p hp'=>by
   obtain⟨x,hx,rfl⟩:=List.mem_map.1 hp'
   have:=(hp x (rowE_mem.1 hx).1).2
   omega
end Ev
end
noncomputable section
namespace Ev
open Go
end Ev
end
noncomputable section
namespace Ev
open Go
theorem Ow{p y:Int}:∀{l:List It},bS p l=some y→(p,y)∈l
 |x::l,h=>by
  unfold bS at h;split at h
  ·rename_i e;simp only [zsI]at h;rw [←e,←h];exact List.mem_cons_self
  ·exact List.mem_cons_of_mem _ (Ow h)
theorem sizeF_iff2{n:Int}:dn n=true↔0≤n∧n≤4096:=by unfold dn;simp
def pE(n:Nat)(f:Nat→Int):List Int:=(List.range n).map f
theorem ko(n:Nat)(f:Nat→Int):(pE n f).length=n:=by unfold pE;simp
theorem mT{n k:Nat}(f:Nat→Int)(h:k<n):(pE n f)[k]? =some (f k):=by
 unfold pE;rw [List.getElem?_map,List.getElem?_range h];rfl
theorem rL{n k:Nat}(f:Nat→Int)(h:k<n):(pE n f).getD k 0=f k:=by rw [List.getD_eq_getElem?_getD,mT f h];rfl
theorem TV{n k:Nat}(f:Nat→Int)(v:Int)(h:k<n):(pE n f).set k v=pE n fun i=>if i=k then v else f i:=by
 refine List.ext_getElem? fun i=> ?_;rw [List.getElem?_set];by_cases hi:i<n
 ·by_cases e:k=i
  ·subst e;rw [if_pos rfl,if_pos (by rw [ko];omega),mT _ hi,if_pos rfl]
  ·rw [if_neg e,mT _ hi,mT _ hi,if_neg (Ne.symm e)]
 ·rw [if_neg (by omega)];rw [List.getElem?_eq_none (by rw [ko];omega),List.getElem?_eq_none (by rw [ko];omega)]
theorem MF{n:Nat}{f g:Nat→Int}(h:∀k,k<n→f k=g k):pE n f=pE n g:=by
 unfold pE;refine List.map_congr_left fun k hk=>h k ?_;simpa using hk
theorem Qk(n:Nat):List.replicate n (0:Int)=pE n fun _=>0:=by
 refine List.ext_getElem? fun i=> ?_;by_cases hi:i<n
 ·rw [mT _ hi,List.getElem?_replicate,if_pos hi]
 ·rw [List.getElem?_eq_none (by simp;omega),List.getElem?_eq_none (by rw [ko];omega)]
theorem Kf{n:Nat}{f:Nat→Int}{x:Int}(h:x∈pE n f):∃k,k<n∧f k=x:=by
 unfold pE at h;obtain⟨k,hk,rfl⟩:=List.mem_map.1 h;exact⟨k,by simpa using hk,rfl⟩
theorem mem_places{p:Int}{l:List It}:p∈l.map (·.1)↔∃y,bS p l=some y:=by
 induction l with
 |nil=>simp [bS]
 |cons x l ih=>
  simp only [List.map_cons,List.mem_cons,bS];by_cases h:x.1=p
  ·rw [if_pos h];exact⟨fun _=>⟨_,rfl⟩,fun _=> .inl h.symm⟩
  ·rw [if_neg h,←ih];exact⟨fun h1=>h1.resolve_left (Ne.symm h),.inr⟩
theorem Kg{k:Int}{t:Sl It}(h:Ka (k,t)):∃d:Dn,jm (k,t)=some d∧OkD d∧il d=true∧d.1=k∧∀p,lM d p=bS p t.l:=by
 have hz:=Mw h.1;have hlen:=rJ h.1;simp only at hlen;obtain⟨n,rfl⟩:=Int.eq_ofNat_of_zero_le hz.1
 have hnew:eK (n:Int)=some (List.replicate (((n:Int)+63)/ 64).toNat 0):=by
  unfold eK;have hlo:iX (((n:Int)+63)/ 64)=some ():=by unfold iX cS;rw [if_pos ⟨by omega,by omega⟩]
  simp only [kd (n:=(n:Int)) ⟨by omega,by omega⟩,hlo,zbS]
 have hlo:iX (n:Int)=some ():=by unfold iX cS;rw [if_pos ⟨by omega,by omega⟩]
 have hok:okS 2 t:=h.2.1;unfold jm;simp only [jf ((n:Int),t) hok (show t.l.length≤_ by omega),GW h.1,zbS,hnew,hlo,Int.toNat_natCast];rw [if_neg (by omega),if_neg (by omega),Qk]
 obtain⟨q,q1,q2⟩:=cu (b:=ij t) t.l.length (fun j st=>st=((t.l.take j).map (·.1),(j:Int),pE n fun p=>(bS (p:Int) (t.l.take j)).getD 0)) (fun q=>q= .inl (t.l.map (·.1),pE n fun p=>(bS (p:Int) t.l).getD 0))
  (by
   rintro j _ hj rfl;have ej:=bI hok hj;have hx:=oI h.1 hj;have htk:=Qd h.1 hj;rw [List.take_succ_eq_append_getElem hj];generalize t.l[j]=x at ej hx htk;obtain⟨x1,x2⟩:=x;simp only at hx htk;obtain⟨p,rfl⟩:=Int.eq_ofNat_of_zero_le hx.1;have ap:app ((t.l.take j).map (·.1)) [(p:Int)]=some ((t.l.take j).map (·.1)++ [(p:Int)]):=mm (by simp;unfold cS;omega)
   have hat:atL (pE n fun p=>(bS (p:Int) (t.l.take j)).getD 0) (p:Int)=some ((bS (p:Int) (t.l.take j)).getD 0):=by
    unfold atL;rw [if_pos (by omega),Int.toNat_natCast,mT _ (by omega)]
   simp only [ij,ej,zbS,ap,hat,Int.toNat_natCast,cX hj (by omega)];rw [if_pos (by omega),TV _ _ (by omega)];refine .inl ⟨_,rfl,?_⟩;rw [List.map_append];simp only [List.map_cons,List.map_nil,Prod.mk.injEq,true_and];refine MF fun i hi=> ?_;rw [nF];by_cases e:i=p
   ·subst e;rw [if_pos rfl,htk];simp [bS]
   ·rw [if_neg e]
    have:bS (i:Int) [((p:Int),x2)]=none:=by unfold bS;rw [if_neg (by omega)];rfl
    rw [this]
    cases bS (i:Int) (t.l.take j)<;>rfl)
  (by
   rintro _ rfl;refine⟨.inl (t.l.map (·.1),pE n fun p=>(bS (p:Int) t.l).getD 0),?_,rfl⟩;simp only [ij]
   rw [if_neg (by omega),List.take_length]) 0 (Nat.zero_le _) ([],0,pE n fun _=>0) rfl
 rw [q1,q2];obtain⟨w,w1,w2,w3,w4⟩:=ya (n:=n) (by omega) (mo 1 (t.l.map (·.1))) (oo _) (by rw [kI];simp;omega);simp only [zbS,Sum.elim_inl,w1];rw [kI]at w4
 have hbit:∀p:Nat,fL w p=(bS (p:Int) t.l).isSome:=fun p=>by
  rw [w4 p]
  cases hg:bS (p:Int) t.l with
  |none=>
   rw [decide_eq_false (p:=(p:Int)∈t.l.map (·.1)) (fun hm=>by obtain⟨y,hy⟩:=mem_places.1 hm;rw [hg]at hy;simp at hy)];simp
  |some y=>
   have hm:=mem_places.2 ⟨y,hg⟩;rw [decide_eq_true hm]
   have:p<n:=by
    obtain⟨x,hx,hxp⟩:=List.mem_map.1 hm;obtain⟨j,hj,rfl⟩:=List.mem_iff_getElem.1 hx
    have:=oI h.1 hj
    omega
   rw [decide_eq_true this];rfl
 refine⟨_,rfl,⟨.inr rfl,w3,.inr rfl,fun x hx=> ?_,show w.length≤_ by omega,by simp only [ko];omega⟩,?_,rfl,fun p=> ?_⟩
 ·obtain⟨k,hk,rfl⟩:=Kf hx
  cases hg:bS (k:Int) t.l with
  |none=>simp [cH]
  |some y=>exact h.2.2 _ (Ow hg)
 ·unfold il mS;simp only [kI,ko,Bool.and_eq_true,decide_eq_true_eq,List.all_eq_true];refine⟨⟨sizeF_iff2.2 ⟨by omega,by omega⟩,w2,fun p hp=> ?_⟩,trivial,fun i hi=> ?_⟩
  ·obtain⟨p0,p1⟩:=places_mem.1 hp;rw [w4]at p1;simp only [Bool.and_eq_true,decide_eq_true_eq]at p1;omega
  ·have hi':i<n:=by simpa using hi
   rw [rL _ hi',hbit];cases bS (i:Int) t.l<;>simp
 ·unfold lM;simp only [kI];by_cases hp:0≤p
  ·obtain⟨p,rfl⟩:=Int.eq_ofNat_of_zero_le hp;simp only [Int.toNat_natCast];rw [hbit]
   cases hg:bS (p:Int) t.l with
   |none=>simp
   |some y=>
    have:p<n:=by
     obtain⟨x,hx,hxp⟩:=List.mem_map.1 (mem_places.2 ⟨y,hg⟩);obtain⟨j,hj,rfl⟩:=List.mem_iff_getElem.1 hx
     have:=oI h.1 hj
     omega
    rw [if_pos ⟨hp,rfl⟩,rL _ this,hg];rfl
  ·rw [if_neg (fun hh=>hp hh.1)];refine(iM fun x hx e=> ?_).symm;obtain⟨j,hj,rfl⟩:=List.mem_iff_getElem.1 hx
   have:=oI h.1 hj
   omega
end Ev
end
end Go.Proofs.Ytjjbpdldbdmoeaa
