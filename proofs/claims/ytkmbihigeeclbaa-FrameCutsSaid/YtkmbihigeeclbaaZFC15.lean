/- Texts of a claim, joined. -/
import Derived.Test.YtkmbihigeeclbaaZFC14
set_option linter.unusedVariables false
set_option linter.unusedSimpArgs false
namespace Go.Proofs.Ytkmbihigeeclbaa
noncomputable section
namespace Ev
open Go Sm
theorem AF{n:Int}:∀{a:Int} {l:List (Int×Int)},asc a n l=true->l≠[]->a+l.length<=n - 1
 |_,[],_,h=>absurd rfl h
 |a,x::l,h,_=>by
  obtain⟨h1,h2,h3⟩:=asc_cons.1 h
  cases l with
  |nil=>simp;omega
  |cons y r=>
   have:=AF h3 (by simp)
   simp only [List.length_cons]at this ⊢;omega
theorem ur{n:Int}:∀{a:Int} (pre:List (Int×Int)) {t:Int×Int} {post:List (Int×Int)},asc a n (pre++t::post)=true->rC (λe=>e.1) a pre<t.1
 |a,[],t,post,h=>(asc_cons.1 h).1
 |a,x::r,t,post,h=>by
  have h3:=(asc_cons.1 h).2.2
  have:=ur r h3
  rwa [rD]
theorem Co{l pre post:List (Int×Int×Int)}{t:Int×Int×Int}(h:rz l=true)(hp:(l.all λe=>pl e.1)=true)(e:l=pre++t::post):rC (λe=>e.1) (-1) pre<t.1:=by
 unfold rC
 cases hq:pre.getLast? with
 |none=>
  have:=List.all_eq_true.1 hp t (by rw [e];simp)
  simp only [pl,decide_eq_true_eq]at this;show -1<t.1;omega
 |some z=>
  have hne:pre≠[]:=λh0=>by rw [h0]at hq;cases hq
  have hpos:1<=pre.length:=List.length_pos_iff.2 hne;have hlen:pre.length<l.length:=by rw [e];simp
  have:=ris_at.1 h pre.length hlen hpos
  have a1:l[pre.length]=t:=by simp [e]
  have a2:l[pre.length - 1]'(by omega)=z:=by
   have hz:pre[pre.length - 1]? =some z:=by rw [<-List.getLast?_eq_getElem?];exact hq
   have:(pre++t::post)[pre.length - 1]? =some z:=by rw [List.getElem?_append_left (by omega)];exact hz
   rw [<-e]at this;exact(List.getElem?_eq_some_iff.1 this).2
  rw [a1,a2]at this;exact this
def frD(x:FrX):Fr:=(x.1,x.2.1,x.2.2.1,x.2.2.2.1,x.2.2.2.2.1,(x.2.2.2.2.2.1.1,x.2.2.2.2.2.1.2.l),x.2.2.2.2.2.2.1.l,x.2.2.2.2.2.2.2.1.l,x.2.2.2.2.2.2.2.2.1,x.2.2.2.2.2.2.2.2.2)
theorem Jc{x:FrX}(hw:cI x=0)(h:TyX x):RdAt kw (btl x.2.2.2.2.2.1.1 4++(btl (x.2.2.2.2.2.1.2.l.length:Int) 4++x.2.2.2.2.2.1.2.l.flatMap itB)) (x.2.2.2.2.2.1.1,x.2.2.2.2.2.1.2.l):=by
 have i0:=Cn hw;have b3:=(qn hw).2.2.1
 have hasc:asc (-1) x.2.2.2.2.2.1.1 x.2.2.2.2.2.1.2.l=true:=by
  have:iH x.2.2.2.2.2.1.1=true/\asc (-1) x.2.2.2.2.2.1.1 x.2.2.2.2.2.1.2.l=true:=by simpa [gC]using b3
  exact this.2
 have hlen:(x.2.2.2.2.2.1.2.l.length:Int)<=x.2.2.2.2.2.1.1:=by
  by_cases c:x.2.2.2.2.2.1.2.l= []
  .rw [c];have:=i0.n.1;simpa using this
  .have:=AF hasc c;omega
 refine(iW i0.n.1 i0.n.2 (by decide)).bind ((iW (by omega) hlen (by have:=i0.n.2;omega)).bind (RdAt.bind0 ?_ (RdAt.ret _)));rw [Int.toNat_natCast];refine wx (P:=λlast t=>(0<=t.1/\t.1<x.2.2.2.2.2.1.1)/\last<t.1/\i8 t.2) (λlast t hp=>Gx hp.1.1 hp.1.2 i0.n.2 hp.2.1 hp.2.2) _ (-1) λpre t post e=> ?_;have hm:t∈x.2.2.2.2.2.1.2.l:=by rw [e];simp
 have ha:=wk hasc t hm;exact⟨⟨by omega,ha.2⟩,ur pre (by rw [<-e];exact hasc),h.v7 t hm⟩
theorem Gz{x:FrX}(hw:cI x=0)(h:TyX x)(hu:∀e∈x.2.2.2.2.2.2.1.l,0<=e.2.2/\e.2.2<18446744073709551616)(hl:x.2.2.2.2.2.2.1.l.length<=4096):RdAt fJ (btl (x.2.2.2.2.2.2.1.l.length:Int) 4++x.2.2.2.2.2.2.1.l.flatMap suB) x.2.2.2.2.2.2.1.l:=by
 have i0:=Cn hw;obtain⟨_,_,_,b4,b5,_,_⟩:=qn hw;refine(iW (by omega) (by omega) (by decide)).bind ?_;rw [Int.toNat_natCast];refine wx (P:=λlast t=>(0<=t.1/\t.1<4096)/\last<t.1/\i8 t.2.1/\0<=t.2.2/\t.2.2<18446744073709551616) (λlast t hp=>Ja hp.1.1 hp.1.2 hp.2.1 hp.2.2.1 hp.2.2.2) _ (-1) λpre t post e=> ?_;have hm:t∈x.2.2.2.2.2.2.1.l:=by rw [e];simp
 exact⟨i0.s t hm,Co b5 b4 e,h.v8 t hm,hu t hm⟩
theorem GA{x:FrX}(hw:cI x=0)(h:TyX x):RdAt fp (btl (x.2.2.2.2.2.2.2.1.l.length:Int) 4++x.2.2.2.2.2.2.2.1.l.flatMap trB) x.2.2.2.2.2.2.2.1.l:=by
 have i0:=Cn hw;have b6:=(qn hw).2.2.2.2.2.1;refine(iW (by omega) (by omega) (by decide)).bind ?_;rw [Int.toNat_natCast]
 exact wx (P:=λ_ t=>((0<=t.1/\t.1<4096)/\0<=t.2.1/\t.2.1<4096)/\i8 t.2.2) (λlast t hp=>Jb hp.1 hp.2) _ 0 λpre t post e=>by
  have hm:t∈x.2.2.2.2.2.2.2.1.l:=by rw [e];simp
  exact⟨i0.t t hm,h.v9 t hm⟩
theorem xR{x:FrX}(hw:cI x=0)(h:TyX x)(hu:∀e∈x.2.2.2.2.2.2.1.l,0<=e.2.2/\e.2.2<18446744073709551616)(hl:x.2.2.2.2.2.2.1.l.length<=4096):RdAt oo (Sm.Fe.encF x) (frD x):=by
 have i0:=Cn hw;obtain⟨a0,a1,a2,a3,a4,n,i,s,t⟩:=i0;have hb:decide ((if x.2.2.2.2.2.2.2.2.2 then(1:Int)else 0)=1)=x.2.2.2.2.2.2.2.2.2:=by cases x.2.2.2.2.2.2.2.2.2<;>rfl
 have hb2:0<=(if x.2.2.2.2.2.2.2.2.2 then(1:Int)else 0)/\(if x.2.2.2.2.2.2.2.2.2 then(1:Int)else 0)<=1:=by split<;>omega
 have e1:Sm.Fe.encF x=btl x.1 1++(btl x.2.1 1++(btl x.2.2.1 1++(btl x.2.2.2.1 4++(btl x.2.2.2.2.1 4++(btl (if x.2.2.2.2.2.2.2.2.2 then(1:Int)else 0) 1++(btl x.2.2.2.2.2.2.2.2.1 8++((btl x.2.2.2.2.2.1.1 4++(btl (x.2.2.2.2.2.1.2.l.length:Int) 4++x.2.2.2.2.2.1.2.l.flatMap itB))++((btl (x.2.2.2.2.2.2.1.l.length:Int) 4++x.2.2.2.2.2.2.1.l.flatMap suB)++(btl (x.2.2.2.2.2.2.2.1.l.length:Int) 4++x.2.2.2.2.2.2.2.1.l.flatMap trB))))))))):=by
  unfold Sm.Fe.encF vT hdB mdB;simp only [List.append_assoc]
 rw [e1];unfold oo;refine RdAt.bind (ni (e2:=8) a0.1 a0.2 (by omega)) ?_;refine RdAt.bind (ni (e2:=3) (least:=0) (most:=63) a1.1 (by omega) (by omega)) ?_;refine RdAt.bind (ni (e2:=3) (least:=0) (most:=63) a2.1 (by omega) (by omega)) ?_;refine RdAt.bind (iW (e2:=3) a3.1 a3.2 (by decide)) ?_;refine RdAt.bind (iW (e2:=3) a4.1 a4.2 (by decide)) ?_;refine RdAt.bind (ni (e2:=7) hb2.1 hb2.2 (by omega)) ?_;refine RdAt.bind (nj h.v6) ?_;refine RdAt.bind (Jc hw h) ?_;refine RdAt.bind (Gz hw h hu hl) ?_;refine RdAt.bind0 (GA hw h) ?_;simp only [hb];exact RdAt.ret _
end Ev
end
end Go.Proofs.Ytkmbihigeeclbaa
