/- Texts of a claim, joined. -/
import Derived.Test.YtjjbpdldbdmoeaaZT19
import Derived.Test.YtjjbpdldbdmoeaaZT5
import Derived.Test.YtjjbpdldbdmoeaaZT14
import Derived.Test.YtjjbpdldbdmoeaaZT16
import Derived.Test.YtjjbpdldbdmoeaaZT17
import Derived.Test.YtjjbpdldbdmoeaaZT18
import Derived.Test.YtjjbpdldbdmoeaaZT15
import Derived.Test.YtjjbpdldbdmoeaaZT11
import Derived.Test.YtjjbpdldbdmoeaaZT12
set_option linter.unusedVariables false
set_option linter.unusedSimpArgs false
namespace Go.Proofs.Ytjjbpdldbdmoeaa
noncomputable section
namespace Ev
open Go
abbrev Tk:=Int×(Int×Int)×Sl E3×Sl It×Sl It×Sl Int×Bool
structure OkT(t:Tk):Prop where
 n1:0≤t.2.1.1∧t.2.1.1≤255
 n2:0≤t.2.1.2∧t.2.1.2≤255
 l:okS 3 t.2.2.1
 ll:t.2.2.1.l.length≤9223372036854775807
 x:okS 2 t.2.2.2.1
 xl:t.2.2.2.1.l.length≤9223372036854775807
 xv:∀q∈t.2.2.2.1.l,bu q.2
 y:okS 2 t.2.2.2.2.1
 yl:t.2.2.2.2.1.l.length≤9223372036854775807
 yv:∀q∈t.2.2.2.2.1.l,bu q.2
 f:okS 1 t.2.2.2.2.2.1
 fu:SK t.2.2.2.2.2.1.l
def fX(r:Int):Int:=if r<1 then 1 else if r>5 then 1 else r
theorem Pv(r:Int):okR (fX r)=true:=by
 unfold fX okR;split
 ·decide
 ·split
  ·decide
  ·rw [decide_eq_true (by omega),decide_eq_true (by omega)];rfl
theorem jU(r:Int):cX r=some (fX r):=by
 unfold cX fX;split
 ·rfl
 ·split<;>rfl
theorem Jq(a b:Int):bu (eA .i64 a b):=by unfold eA;exact zg _
def yo(r n:Int):Int:=if r=5 then n else if r=2 then eA .i64 n 1 else if(eA .i64 n 4611686018427387903).tmod 5=0 then 4611686018427387904 else eA .i64 n 4611686018427387903
theorem mC(r n:Int):cY r n=some (yo r n):=by
 unfold cY yo iZ;split
 ·rfl
 ·split
  ·rfl
  ·rw [if_pos (by decide)];simp only [zbS];split<;>rfl
theorem Jr{r n:Int}(h:bu n):bu (yo r n):=by
 unfold yo;split
 ·exact h
 ·split
  ·exact Jq _ _
  ·split
   ·unfold bu;omega
   ·exact Jq _ _
def AG(r n:Int):Int:=if r=5 then n.tmod 2147483648 else yo r n
theorem pS(r n:Int):dA r n=some (AG r n):=by
 unfold dA AG iZ;split
 ·rw [if_pos (by decide)];rfl
 ·rw [mC];rfl
theorem ST{r n:Int}(h:bu n):bu (AG r n):=by
 unfold AG;split
 ·have h1:=Int.tmod_lt_of_pos n (show(0:Int)<2147483648 by decide);have h2:=Int.lt_tmod_of_pos n (show(0:Int)<2147483648 by decide);unfold bu;omega
 ·exact Jr h
def AH(f:Int→Int)(l:List E3):List E3:=l.map fun x=>(x.1,x.2.1,f x.2.2)
theorem SU(f:Int→Int)(l:List E3):(AH f l).length=l.length:=by unfold AH;simp
theorem LT{f:Int→Int}{l:List E3}(h:cn l):cn (AH f l):=by
 unfold AH cn;rw [List.pairwise_map];refine h.imp fun hb=> ?_;rw [bel_iff]at hb ⊢;exact hb
theorem Js{n:Int}{f:Int→Int}:∀{l:List It} {a:Int},asc a n l=true→asc a n (l.map fun x=>(x.1,f x.2))=true
 | [],_,_=>rfl
 |x::l,a,h=>by
  simp only [List.map_cons,asc,Bool.and_eq_true,decide_eq_true_eq]at h ⊢;exact⟨h.1,Js h.2⟩
theorem SW(t:Tk)(h:OkT t)(s:Sl It)(hs:okS 2 s)(hl:s.l.length≤9223372036854775807)(hv:∀q∈s.l,bu q.2):∃u:Sl It,cG t s=some (dn t.2.1.2,u)∧sk (dn t.2.1.2,u)∧∃w:List It,sk (dn t.2.1.2,mo 2 w)∧u=mo 2 (w.map fun x=>(x.1,yo (fX t.1) x.2)):=by
 obtain⟨r,⟨n1,n2⟩,s4,x,y,f,o⟩:=t;have h2:=h.n2;simp only at h2 ⊢;obtain⟨z1,z2,z3⟩:=nH h2
 have hw8:IntKind.u8.wrap (dn n2)=dn n2:=by
  have:IntKind.u8.wrap (dn n2)=dn n2 % 256:=by simp [IntKind.wrap,IntKind.signed,IntKind.bits]
  rw [this];omega
 obtain⟨⟨k,t⟩,e1,g1,g2⟩:=CU (dn n2) s ⟨by omega,by omega⟩ hs hl hv
 have hk:k=dn n2:=by
  simp only at g2;rw [g2,Int.tmod_eq_emod_of_nonneg (by omega)];omega
 subst hk;have hz:=LE g1.1;have hlen:=wi g1.1;simp only at hlen;refine⟨mo 2 (t.l.map fun x=>(x.1,yo (fX r) x.2)),?_,?_,t.l,?_,rfl⟩
 ·unfold cG;simp only [z1,hw8,e1,zbS];have hok:okS 2 t:=g1.2.1
  obtain⟨q,q1,q2⟩:=cz (b:=bQ r t) t.l.length (fun j st=>st=((t.l.take j).map (fun x=>(x.1,yo (fX r) x.2)),(j:Int))) (fun q=>q= .inl (t.l.map fun x=>(x.1,yo (fX r) x.2)))
   (by
    rintro j _ hj rfl;have ej:=bq hok hj;have ap:∀z:It,app ((t.l.take j).map (fun x=>(x.1,yo (fX r) x.2))) [z]=some ((t.l.take j).map (fun x=>(x.1,yo (fX r) x.2))++ [z]):=fun z=>fj (by simp;unfold bX;omega);simp only [bQ,ej,zbS,jU,mC,ap,bM hj (by omega)];rw [if_pos (by omega)]
    exact .inl ⟨_,rfl,by rw [List.take_succ_eq_append_getElem hj,List.map_append];rfl⟩)
   (by
    rintro _ rfl;refine⟨.inl (t.l.map fun x=>(x.1,yo (fX r) x.2)),?_,rfl⟩;simp only [bQ]
    rw [if_neg (by omega),List.take_length]) 0 (Nat.zero_le _) ([],0) rfl
  rw [q1,q2];rfl
 ·refine Nz hz.1 hz.2 (Js (rl g1.1)) fun x hx=> ?_;obtain⟨y,hy,rfl⟩:=List.mem_map.1 hx;exact Jr (g1.2.2 y hy)
 ·exact Nz hz.1 hz.2 (rl g1.1) g1.2.2
theorem ZP{t:Tk}(h:inK .i64 t.1∧(inK .u8 t.2.1.1∧inK .u8 t.2.1.2)∧SlW 3 (fun x:E3=>inK .i64 x.1∧inK .i64 x.2.1∧inK .i64 x.2.2) t.2.2.1∧SlW 2 (fun x:It=>inK .i64 x.1∧inK .i64 x.2) t.2.2.2.1∧SlW 2 (fun x:It=>inK .i64 x.1∧inK .i64 x.2) t.2.2.2.2.1∧SlW 1 (fun x=>inK .u64 x) t.2.2.2.2.2.1∧True):OkT t:=by
 obtain⟨_,⟨h1,h2⟩,h3,h4,h5,h6,_⟩:=h;exact⟨XD h1,XD h2,h3.ok,h3.2.2.1,h4.ok,h4.2.2.1,fun q hq=>qZ (h4.2.2.2 q hq).2,h5.ok,h5.2.2.1,fun q hq=>qZ (h5.2.2.2 q hq).2,h6.ok,Wi h6⟩
end Ev
end
noncomputable section
namespace Ev
open Go
end Ev
end
noncomputable section
namespace Ev
open Go
end Ev
end
noncomputable section
namespace Ev
open Go
theorem rn{n p:Nat}(g:Nat→Option Int)(h:p<n):cS (p:Int) (gd n g)=g p:=Pm 0 n g p (by omega) (by omega)
end Ev
end
noncomputable section
namespace Ev
open Go
end Ev
end
noncomputable section
namespace Ev
open Go
theorem DA{n:Nat}{f:Nat→Option Int}(hn:n≤4096)(hf:∀p x,f p=some x→bu x):sk ((n:Int),mo 2 (gd n f)):=by
 refine⟨Av (by omega) (by omega) (by rw [eZ,Int.toNat_natCast]),iR _,fun x hx=> ?_⟩;rw [eZ]at hx;obtain⟨p,_,_,_,hp⟩:=oA hx;exact hf p _ hp
end Ev
end
noncomputable section
namespace Ev
open Go
end Ev
end
noncomputable section
namespace Ev
open Go
theorem AI{n:Nat}{f:Nat→Option Int}{x:It}(h:x∈gd n f):∃p:Nat,p<n∧x.1=(p:Int)∧f p=some x.2:=by
 obtain⟨p,_,h2,h3,h4⟩:=oA h;exact⟨p,by omega,h3,h4⟩
theorem aeo{n:Nat}{f:Nat→Option Int}(hn:n≤4096):eU ((n:Int),mo 2 (gd n f))=some ((n:Int),mo 2 (gd n f))∧(mo 2 (gd n f)).l.length≤4096:=by
 have hl:=Pj 0 n f;have hr:fe ((n:Int),mo 2 (gd n f))=true:=Av (by omega) (by omega) (by rw [eZ,Int.toNat_natCast]);have hlen:(mo 2 (gd n f)).l.length≤4096:=by rw [eZ];unfold gd;omega
 exact⟨by rw [se _ (iR _) (by show(mo 2 (gd n f)).l.length≤_;omega),We hr],hlen⟩
end Ev
end
noncomputable section
namespace Ev
open Go
def fL(n:Nat)(a b:Int):Nat:=min b.toNat n - a.toNat
def jy(n:Nat)(f:Nat→Option Int)(a b:Int):Nat→Option Int:=fun p=>if p<fL n a b then f (p+a.toNat)else none
theorem LU(n:Nat)(a b:Int):(iN b (n:Int)≤fh a 0∧fL n a b=0)∨(¬iN b (n:Int)≤fh a 0∧∃F To:Nat,fh a 0=(F:Int)∧iN b (n:Int)=(To:Int)∧F<To∧To≤n∧a.toNat=F∧fL n a b=To - F):=by
 unfold iN fh fL;by_cases c:(if(n:Int)<b then(n:Int)else b)≤(if 0>a then 0 else a)
 ·refine .inl ⟨c,?_⟩;split at c<;>split at c<;>omega
 ·refine .inr ⟨c,a.toNat,min b.toNat n,?_,?_,?_,by omega,rfl,rfl⟩
  ·split<;>omega
  ·split at c<;>split at c<;>split<;>omega
  ·split at c<;>split at c<;>omega
def py(F To:Nat)(x:It):Option It:=if(F:Int)≤x.1 then(if x.1<(To:Int)then some (x.1 - (F:Int),x.2)else none)else none
theorem SX{n:Nat}{f g:Nat→Option Int}{F To:Nat}(hFT:F<To)(hTo:To≤n)(hg:∀p,p<To - F→g p=f (p+F)):(gd n f).filterMap (py F To)=gd (To - F) g:=by
 have e:gd n f=eX 0 F f++(eX F (To - F) f++eX To (n - To) f):=by
  have h1:=rj 0 F (n - F) f;have h2:=rj F (To - F) (n - To) f;rw [show F+(n - F)=n by omega,Nat.zero_add]at h1;rw [show To - F+(n - To)=n - F by omega,show F+(To - F)=To by omega]at h2;unfold gd;rw [h1,h2]
 have k1:(eX 0 F f).filterMap (py F To)= []:=List.filterMap_eq_nil_iff.2 fun x hx=>by
  obtain⟨p,_,p2,p3,_⟩:=oA hx;unfold py;rw [if_neg (by omega)]
 have k3:(eX To (n - To) f).filterMap (py F To)= []:=List.filterMap_eq_nil_iff.2 fun x hx=>by
  obtain⟨p,p1,p2,p3,_⟩:=oA hx;unfold py;rw [if_pos (by omega),if_neg (by omega)]
 have k2:∀k,k≤To - F→(eX F k f).filterMap (py F To)=eX 0 k g:=fun k hk=>by
  induction k with
  |zero=>rfl
  |succ k ih=>
   rw [At,At,List.filterMap_append,ih (by omega),Nat.zero_add,hg k (by omega),Nat.add_comm k F];congr 1
   cases f (F+k)with
   |none=>rfl
   |some y=>
    have:py F To (((F+k:Nat):Int),y)=some ((k:Int),y):=by
     unfold py;rw [if_pos (by simp only;omega),if_pos (by simp only;omega)];congr 2;simp only;omega
    show List.filterMap (py F To) [(((F+k:Nat):Int),y)]= [((k:Int),y)];rw [List.filterMap_cons,this];rfl
 rw [e,List.filterMap_append,List.filterMap_append,k1,k3,k2 _ (Nat.le_refl _)];simp [gd]
theorem qE{n:Nat}{f:Nat→Option Int}(hn:n≤4096)(a b:Int):gp ((n:Int),mo 2 (gd n f)) a b=some (((fL n a b:Nat):Int),mo 2 (gd (fL n a b) (jy n f a b))):=by
 obtain⟨s1,s2⟩:=aeo (n:=n) (f:=f) hn;unfold gp;simp only [s1,zbS];rcases LU n a b with⟨c1,c2⟩|⟨c1,F,To,c2,c3,c4,c5,c6,c7⟩
 ·rw [if_pos c1,c2];rfl
 ·rw [if_neg c1,c7];have hpf:∀p,p<To - F→jy n f a b p=f (p+F):=fun p hp=>by unfold jy;rw [c7,c6,if_pos hp]
  have hpv:=SX (n:=n) c4 c5 hpf;have e1:IntKind.i64.wrap ((To:Int) - (F:Int))=((To - F:Nat):Int):=by rw [cV (by omega) (by omega)];omega
  obtain⟨q,q1,q2⟩:=cz (b:=fJ a b (n:Int) (mo 2 (gd n f))) (mo 2 (gd n f)).l.length (fun j st=>st=((j:Int),((mo 2 (gd n f)).l.take j).filterMap (py F To))) (fun q=>q= .inl ((mo 2 (gd n f)).l.filterMap (py F To)))
   (by
    rintro j _ hj rfl
    have hb:(((mo 2 (gd n f)).l.take j).filterMap (py F To)).length+1≤bX:=by
     have:=List.length_filterMap_le (py F To) ((mo 2 (gd n f)).l.take j)
     have h3:((mo 2 (gd n f)).l.take j).length≤j:=by simp;omega
     unfold bX;omega
    have hmem:=List.getElem_mem hj;have hat:=bq (w:=2) (s:=mo 2 (gd n f)) (iR _) hj;have htk:=List.take_succ_eq_append_getElem hj;rw [htk,List.filterMap_append];generalize (mo 2 (gd n f)).l[j]=y at hmem hat;rw [eZ]at hmem;obtain⟨k,k1,k2,_⟩:=AI hmem;obtain⟨y1,y2⟩:=y;simp only at k2;subst k2;simp only [fJ,hat,zbS,bM hj (by omega),c2,c3];rw [if_pos (by omega)];refine .inl ?_;by_cases z1:F≤k
    ·rw [if_pos (by omega)];by_cases z2:k<To
     ·rw [if_pos (by omega),cV (by omega) (by omega)];have hsel:py F To ((k:Int),y2)=some ((k:Int) - (F:Int),y2):=by unfold py;rw [if_pos (by simp only;omega),if_pos (by simp only;omega)]
      rw [fj (by simpa using hb)];exact⟨_,rfl,by simp [hsel]⟩
     ·rw [if_neg (by omega)];have hsel:py F To ((k:Int),y2)=none:=by unfold py;rw [if_pos (by simp only;omega),if_neg (by simp only;omega)]
      exact⟨_,rfl,by simp [hsel]⟩
    ·rw [if_neg (by omega)];have hsel:py F To ((k:Int),y2)=none:=by unfold py;rw [if_neg (by simp only;omega)]
     exact⟨_,rfl,by simp [hsel]⟩)
   (by
    rintro _ rfl
    exact⟨_,if_neg (by omega),by rw [List.take_length]⟩) 0 (Nat.zero_le _) (0,[]) rfl
  rw [q1,q2,c2,c3,e1];simp only [zbS,Sum.elim_inl,eZ,hpv]
end Ev
end
noncomputable section
namespace Ev
open Go
theorem ZQ(a b:E3):KM.bel a b=bel a b:=by rw [Bool.eq_iff_iff,KM.bel_iff,bel_iff]
theorem rises_km{l:List E3}:KM.cn l↔cn l:=by
 have e:(fun a b:E3=>KM.bel a b=true)=fun a b=>bel a b=true:=by funext a b;rw [ZQ]
 show List.Pairwise (fun a b:E3=>KM.bel a b=true) l↔List.Pairwise (fun a b:E3=>bel a b=true) l;rw [e]
section
variable {m : Mx} {n k : Int} {l : List E3}
theorem DB{x:Int}(h:0≤x):KM.dn x=dn x:=by unfold KM.dn dn;rw [Int.tmod_eq_emod_of_nonneg h]
theorem SY{x:Int}(h:0≤x∧x≤255):inK .u8 x:=by simpa [inK,Lit.wf,IntKind.min,IntKind.max,IntKind.signed,IntKind.bits]using h
theorem SZ(f:Int→Int)(l:List E3)(i:Nat):KM.aC (AH f l) i=KM.aC l i:=by
 unfold KM.aC AH;rw [List.countP_map];rfl
theorem Pw(t:Tk)(h:OkT t)(hw:KM.w64 t.2.2.1.l):∃m l,cE t=some m∧KM.Is m (dn t.2.1.1) (dn t.2.1.2) l:=by
 obtain⟨r,⟨n1,n2⟩,s,x,y,f,o⟩:=t;obtain⟨h1,h2,h3,h4,_,_,_,_,_,_,_,_⟩:=h;simp only at h1 h2 h3 h4 hw ⊢;obtain⟨m0,l,e,g⟩:=KM.Sr (a:=(n1,n2)) ⟨SY h1,SY h2⟩ (s:=s) h3 hw;simp only at g;rw [DB h1.1,DB h2.1]at g;have e':fI (n1,n2) s=some m0:=e;obtain⟨m1,m2,m3,m4,m5⟩:=m0;have hlen:=g.len;have e5:m5.l=l.map (·.2.2):=g.e5;have o5:okS 1 m5:=g.o5;have hvl:m5.l.length≤65536:=by rw [e5,List.length_map];exact hlen
 refine⟨(m1,m2,m3,m4,mo 1 (m5.l.map (AG (fX r)))),AH (AG (fX r)) l,?_,⟨g.hn,g.hc,by rw [SU];exact hlen,rises_km.2 (LT (rises_km.1 g.r)),fun x hx=> ?_,fun x hx=> ?_,g.e1,g.e2,?_,?_,?_,g.o3,g.o4,iR _⟩⟩
 ·unfold cE;simp only [e',zbS,jU]
  obtain⟨q,q1,q2⟩:=cz (b:=bP m5 (fX r)) m5.l.length (fun j st=>st=((m5.l.take j).map (AG (fX r)),(j:Int))) (fun q=>q= .inl (m5.l.map (AG (fX r))))
   (by
    rintro j _ hj rfl;have ej:=bq o5 hj;have ap:∀z,app ((m5.l.take j).map (AG (fX r))) [z]=some ((m5.l.take j).map (AG (fX r))++ [z]):=fun z=>fj (by simp;unfold bX;omega);simp only [bP,ej,zbS,pS,ap,bM hj (by omega)];rw [if_pos (by omega)]
    exact .inl ⟨_,rfl,by rw [List.take_succ_eq_append_getElem hj,List.map_append];rfl⟩)
   (by
    rintro _ rfl;refine⟨.inl (m5.l.map (AG (fX r))),?_,rfl⟩;simp only [bP]
    rw [if_neg (by omega),List.take_length]) 0 (Nat.zero_le _) ([],0) rfl
  rw [q1,q2];rfl
 ·unfold AH at hx;obtain⟨y,hy,rfl⟩:=List.mem_map.1 hx;exact g.p y hy
 ·unfold AH at hx;obtain⟨y,hy,rfl⟩:=List.mem_map.1 hx;exact ST (g.v y hy)
 ·rw [show m3.l=_ from g.e3];exact KM.kw fun i _=>by rw [SZ]
 ·rw [show m4.l=_ from g.e4];unfold AH;rw [List.map_map];rfl
 ·rw [eZ,e5];unfold AH;rw [List.map_map,List.map_map];rfl
end
def mZ{α:Type}(n:Nat)(f:Nat→α):List α:=(List.range n).map f
theorem oC{α:Type}(n:Nat)(f:Nat→α):(mZ n f).length=n:=by unfold mZ;simp
theorem qG{α:Type}{n k:Nat}(f:Nat→α)(h:k<n):(mZ n f)[k]? =some (f k):=by
 unfold mZ;rw [List.getElem?_map,List.getElem?_range h];rfl
theorem ND{α:Type}{n k:Nat}(f:Nat→α)(h:k<n):atL (mZ n f) (k:Int)=some (f k):=by
 unfold atL;rw [if_pos (by omega),Int.toNat_natCast,qG f h]
theorem Ta{α:Type}{n k:Nat}(f:Nat→α)(v:α)(h:k<n):(mZ n f).set k v=mZ n fun i=>if i=k then v else f i:=by
 refine List.ext_getElem? fun i=> ?_;rw [List.getElem?_set];by_cases hi:i<n
 ·by_cases e:k=i
  ·subst e;rw [if_pos rfl,if_pos (by rw [oC];omega),qG _ hi,if_pos rfl]
  ·rw [if_neg e,qG _ hi,qG _ hi,if_neg (Ne.symm e)]
 ·rw [if_neg (by omega)];rw [List.getElem?_eq_none (by rw [oC];omega),List.getElem?_eq_none (by rw [oC];omega)]
theorem sY{α:Type}{n:Nat}{f g:Nat→α}(h:∀k,k<n→f k=g k):mZ n f=mZ n g:=by
 unfold mZ;refine List.map_congr_left fun k hk=>h k ?_;simpa using hk
theorem Tb{α:Type}(n:Nat)(a:α):List.replicate n a=mZ n fun _=>a:=by
 refine List.ext_getElem? fun i=> ?_;by_cases hi:i<n
 ·rw [qG _ hi,List.getElem?_replicate,if_pos hi]
 ·rw [List.getElem?_eq_none (by simp;omega),List.getElem?_eq_none (by rw [oC];omega)]
def lM(o:Option Wd):(Int×Int)×Bool:=(aem o,ael o)
def am:List E3→Int→Option Int
 | [],_=>none
 |x::C,i=>if x.2.1=i then some x.2.2 else am C i
theorem DC{i:Int}:∀{C:List E3},(∀x∈C,x.2.1≠i)→am C i=none
 | [],_=>rfl
 |x::C,h=>by
  unfold am;rw [if_neg (h x List.mem_cons_self),DC fun y hy=>h y (List.mem_cons_of_mem _ hy)]
theorem Jt(i:Int):∀(C D:List E3),am (C++D) i=match am C i with|some x=>some x|none=>am D i
 | [],D=>rfl
 |x::C,D=>by
  simp only [List.cons_append,am];by_cases h:x.2.1=i
  ·rw [if_pos h,if_pos h]
  ·rw [if_neg h,if_neg h,Jt i C D]
def sZ(r v:Int)(o:Option Wd):Option Int→Option Wd
 |none=>o
 |some a=>some (match o with|none=>iK r a v|some s=>aI r s (iK r a v))
theorem jz{r:Int}{h:Int→Option Int}:∀{L:List (Int×Int)} {acc:Option Wd},(∀x∈L,h x.1=none)→bi r h L acc=acc
 | [],acc,_=>rfl
 |x::L,acc,hh=>by
  have e:eC r h acc x=acc:=by unfold eC;rw [hh x List.mem_cons_self]
  show bi r h L (eC r h acc x)=acc;rw [e,jz fun y hy=>hh y (List.mem_cons_of_mem _ hy)]
theorem AJ{r p v:Int}{h h':Int→Option Int}(h1:∀q,q<p→h' q=h q)(h2:h' p=some v)(h3:h p=none)(h4:∀q,p<q→h q=none∧h' q=none):∀{L:List (Int×Int)} {acc:Option Wd},(L.map (·.1)).Pairwise (·<·)→bi r h' L acc=sZ r v (bi r h L acc) (cS p L)
 | [],acc,_=>rfl
 |x::L,acc,hL=>by
  rw [List.map_cons,List.pairwise_cons]at hL;have hx:∀y∈L,x.1<y.1:=fun y hy=>hL.1 _ (List.mem_map_of_mem hy);show bi r h' L (eC r h' acc x)=sZ r v (bi r h L (eC r h acc x)) (cS p (x::L));rcases Int.lt_trichotomy x.1 p with c|c|c
  ·have e:eC r h' acc x=eC r h acc x:=by unfold eC;rw [h1 _ c]
   have g:cS p (x::L)=cS p L:=by simp only [cS];rw [if_neg (by omega)]
   rw [e,g];exact AJ h1 h2 h3 h4 hL.2
  ·have g:cS p (x::L)=some x.2:=by simp only [cS];rw [if_pos c]
   have e:eC r h acc x=acc:=by unfold eC;rw [c,h3]
   have e':eC r h' acc x=sZ r v acc (some x.2):=by unfold eC sZ;rw [c,h2];(try (cases acc<;>rfl))
   rw [g,e,e',jz fun y hy=>(h4 _ (by have:=hx y hy;omega)).2,jz fun y hy=>(h4 _ (by have:=hx y hy;omega)).1]
  ·have g:cS p (x::L)=none:=kD fun y hy=>by
    rcases List.mem_cons.1 hy with rfl|hy
    ·omega
    ·have:=hx y hy;omega
   have e:eC r h acc x=acc:=by unfold eC;rw [(h4 _ c).1]
   have e':eC r h' acc x=acc:=by unfold eC;rw [(h4 _ c).2]
   rw [g,e,e',jz fun y hy=>(h4 _ (by have:=hx y hy;omega)).2,jz fun y hy=>(h4 _ (by have:=hx y hy;omega)).1];rfl
def eN(T:List E3)(i:Nat):List (Int×Int):=(T.filter fun x=>decide (x.2.1=(i:Int))).map fun x=>(x.1,x.2.2)
theorem DD(p:Int)(i:Nat):∀T:List E3,cS p (eN T i)=am (KM.dI T p) (i:Int)
 | []=>rfl
 |x::T=>by
  have ih:=DD p i T;unfold eN KM.dI at ih ⊢;by_cases h1:x.2.1=(i:Int)<;>by_cases h2:x.1=p
  ·rw [List.filter_cons_of_pos (by simp [h1]),List.filter_cons_of_pos (by simp [h2]),List.map_cons];simp only [cS,am];rw [if_pos h2,if_pos h1]
  ·rw [List.filter_cons_of_pos (by simp [h1]),List.filter_cons_of_neg (by simp [h2]),List.map_cons];simp only [cS];rw [if_neg h2,ih]
  ·rw [List.filter_cons_of_neg (by simp [h1]),List.filter_cons_of_pos (by simp [h2])];simp only [am];rw [if_neg h1,ih]
  ·rw [List.filter_cons_of_neg (by simp [h1]),List.filter_cons_of_neg (by simp [h2]),ih]
theorem DE{T:List E3}(h:KM.cn T)(i:Nat):((eN T i).map (·.1)).Pairwise (·<·):=by
 unfold eN;rw [List.map_map,List.pairwise_map];have hs:KM.cn (T.filter fun x=>decide (x.2.1=(i:Int))):=List.Pairwise.sublist List.filter_sublist h;refine List.Pairwise.imp_of_mem (fun{a b} ha hb hab=> ?_) hs;have h1:=of_decide_eq_true (List.mem_filter.1 ha).2;have h2:=of_decide_eq_true (List.mem_filter.1 hb).2;rw [KM.bel_iff]at hab;show a.1<b.1;omega
section
variable {c : KM.Cx} {n k : Int} {T : List E3} {u : Sl It}
theorem ZR(h:KM.IsC c n k T){j:Nat}(hj:j<T.length):T[j].2.1.toNat<n.toNat∧0≤T[j].2.1:=by
 have:=(h.p _ (List.getElem_mem hj)).2;omega
theorem Tc{r v:Int}(h:KM.IsC c n k T)(hv:bu v){a j:Nat}(ha:a<5000)(hs:atS 1 c.2.2.2.1 ((a+1:Nat):Int)=some ((KM.aC T (j+1):Nat):Int))(g:Nat→Option Wd):
  aN (eI r c.2.2.2.1 c.2.2.2.2.1 c.2.2.2.2.2 v (a:Int)) (((KM.aC T j:Nat):Int),mZ n.toNat fun i=>lM (g i))=some (.inl (mZ n.toNat fun i=>lM (sZ r v (g i) (am (KM.dI T (j:Int)) (i:Int))))):=by
 have hlen:=h.len;obtain⟨h1,h2⟩:=KM.np h.r j;rw [←KM.qt]at h2
 have hR:(KM.dI T (j:Int)).length=KM.aC T (j+1) - KM.aC T j:=by
  have:=KM.uC T j;omega
 have hle:=KM.nm T (j+1);have hw:IntKind.i64.wrap ((a:Int)+1)=((a+1:Nat):Int):=bM (n:=5000) ha (by omega)
 have hget:∀t,t<(KM.dI T (j:Int)).length→∃ht:KM.aC T j+t<T.length,(KM.dI T (j:Int))[t]? =some T[KM.aC T j+t]:=fun t ht=>by
  have hlt:KM.aC T j+t<T.length:=by omega
  refine⟨hlt,?_⟩;rw [←h2,List.getElem?_take_of_lt (by omega),List.getElem?_drop,List.getElem?_eq_getElem hlt]
 have hasc:(KM.dI T (j:Int)).Pairwise fun a b=>a.2.1<b.2.1:=by
  have hs:KM.cn (KM.dI T (j:Int)):=List.Pairwise.sublist List.filter_sublist h.r;refine List.Pairwise.imp_of_mem (fun{a b} ha hb hab=> ?_) hs;have h1:=(KM.lu ha).2;have h2:=(KM.lu hb).2;rw [KM.bel_iff]at hab;omega
 generalize hRR:KM.dI T (j:Int)=R at*
 obtain⟨q,q1,q2⟩:=cz (b:=eI r c.2.2.2.1 c.2.2.2.2.1 c.2.2.2.2.2 v (a:Int)) R.length (fun t st=>st=(((KM.aC T j+t:Nat):Int),mZ n.toNat fun i=>lM (sZ r v (g i) (am (R.take t) (i:Int))))) (fun q=>q= .inl (mZ n.toNat fun i=>lM (sZ r v (g i) (am R (i:Int)))))
  (by
   rintro t _ ht rfl;obtain⟨hlt,hg⟩:=hget t ht;obtain⟨b1,b2⟩:=ZR h hlt;have a1:=h.at_ro hlt;have a2:=h.at_va hlt;have hx64:=h.v _ (List.getElem_mem hlt)
   have hRt:R[t]=T[KM.aC T j+t]:=by
    have:=List.getElem?_eq_getElem ht
    rw [hg]at this;exact(Option.some.inj this).symm
   have hnone:am (R.take t) T[KM.aC T j+t].2.1=none:=DC fun x hx=>by
    obtain⟨s,hs,rfl⟩:=List.mem_iff_getElem.1 hx;rw [List.length_take]at hs;rw [List.getElem_take]
    have:=List.pairwise_iff_getElem.1 hasc s t (by omega) ht (by omega)
    rw [hRt]at this;omega
   have happ:∀i,am (R.take (t+1)) i=if T[KM.aC T j+t].2.1=i then some T[KM.aC T j+t].2.2 else am (R.take t) i:=fun i=>by
    rw [List.take_succ_eq_append_getElem ht,Jt,hRt];simp only [am];by_cases e:T[KM.aC T j+t].2.1=i
    ·rw [if_pos e,if_pos e,←e,hnone]
    ·rw [if_neg e,if_neg e];cases am (R.take t) i<;>rfl
   generalize T[KM.aC T j+t]=x at a1 a2 hx64 hnone happ b1 b2;obtain⟨x1,x2,x3⟩:=x;simp only at a1 a2 hx64 hnone happ b1 b2;obtain⟨y,rfl⟩:=Int.eq_ofNat_of_zero_le b2;have hy:y<n.toNat:=by simpa using b1
   have hat:=ND (n:=n.toNat) (fun i=>lM (sZ r v (g i) (am (R.take t) (i:Int)))) hy;rw [hnone]at hat;have hm:=xt r hx64 hv;have hw2:IntKind.i64.wrap (((KM.aC T j+t:Nat):Int)+1)=((KM.aC T j+(t+1):Nat):Int):=bM hlt (by omega)
   have fin:∀z:(Int×Int)×Bool,z=lM (sZ r v (g y) (some x3))→(mZ n.toNat fun i=>lM (sZ r v (g i) (am (R.take t) (i:Int)))).set y z=mZ n.toNat fun i=>lM (sZ r v (g i) (am (R.take (t+1)) (i:Int))):=fun z hz=>by
    rw [Ta _ _ hy];refine sY fun i _=> ?_;rw [happ];by_cases e:i=y
    ·subst e;rw [if_pos rfl,if_pos rfl,hz]
    ·rw [if_neg e,if_neg (by omega)]
   rcases hgy:g y with _|⟨w1,w2⟩
   ·rw [hgy]at hat;have hat':atL (mZ n.toNat fun i=>lM (sZ r v (g i) (am (R.take t) (i:Int)))) (y:Int)=some (((0,0),false):(Int×Int)×Bool):=hat;simp only [eI,hw,hs,zbS,a1,a2,hat',hm,hw2,Int.toNat_natCast];rw [if_pos (by omega),if_neg (by decide),fin _ (by rw [hgy];rfl)];exact .inl ⟨_,rfl,rfl⟩
   ·rw [hgy]at hat;have hat':atL (mZ n.toNat fun i=>lM (sZ r v (g i) (am (R.take t) (i:Int)))) (y:Int)=some (((w1,w2),true):(Int×Int)×Bool):=hat;simp only [eI,hw,hs,zbS,a1,a2,hat',hm,hw2,Int.toNat_natCast,qh];rw [if_pos (by omega),if_pos trivial,fin _ (by rw [hgy];rfl)]
    exact .inl ⟨_,rfl,rfl⟩)
  (by
   rintro _ rfl;refine⟨_,?_,rfl⟩;simp only [eI,hw,hs,zbS]
   rw [if_neg (by omega),List.take_length]) 0 (Nat.zero_le _) (((KM.aC T j:Nat):Int),mZ n.toNat fun i=>lM (g i)) (by simp [am,sZ])
 rw [q1,q2]
end
end Ev
end
noncomputable section
namespace Ev
open Go
section
variable {c : KM.Cx} {n k : Int} {T : List E3} {u : Sl It}
theorem aep(s:Sl Int)(hs:okS 1 s)(hl:s.l.length≤5000)(p:Int)(a:Nat)(ha:a≤s.l.length)(hp:∀i (hi:i<s.l.length),i<a→s.l[i]<p):
  ∃b:Nat,b≤s.l.length∧aN (fB s p) (a:Int)=some (.inl (b:Int))∧(∀i (hi:i<s.l.length),i<b→s.l[i]<p)∧∀hb:b<s.l.length,p≤s.l[b]:=by
 obtain⟨q,q1,b,b1,rfl,b2,b3⟩:=cz (b:=fB s p) s.l.length (fun j st=>st=(j:Int)∧∀i (hi:i<s.l.length),i<j→s.l[i]<p) (fun q=>∃b:Nat,b≤s.l.length∧q= .inl (b:Int)∧(∀i (hi:i<s.l.length),i<b→s.l[i]<p)∧∀hb:b<s.l.length,p≤s.l[b])
  (by
   rintro j _ hj ⟨rfl,hI⟩;have ej:=bq hs hj;simp only [fB,ej,zbS,bM hj (by omega)];rw [if_pos (by omega)];by_cases h:s.l[j]<p
   ·rw [if_pos h];refine .inl ⟨_,rfl,rfl,fun i hi hij=> ?_⟩;by_cases e:i=j
    ·subst e;exact h
    ·exact hI i hi (by omega)
   ·rw [if_neg h]
    exact .inr ⟨_,rfl,j,by omega,rfl,hI,fun _=>by omega⟩)
  (by
   rintro _ ⟨rfl,hI⟩;refine⟨.inl (s.l.length:Int),?_,s.l.length,Nat.le_refl _,rfl,hI,fun hb=>absurd hb (by omega)⟩;simp only [fB]
   rw [if_neg (by omega)]) a ha (a:Int) ⟨rfl,hp⟩
 exact⟨b,b1,q1,b2,b3⟩
def gq(r:Int)(T:List E3)(n:Nat)(l:List It):List ((Int×Int)×Bool):=mZ n fun i=>lM (bi r (fun p=>cS p l) (eN T i) none)
theorem ZS(h:KM.IsC c n k T){p:Int}(hp:p ∉ c.2.2.1.l):KM.dI T p= []:=by
 by_cases h0:KM.dI T p= []
 ·exact h0
 ·obtain⟨x,hx⟩:=List.exists_mem_of_ne_nil _ h0;obtain⟨x1,x2⟩:=KM.lu hx;have hb:=h.p x x1;obtain⟨j,rfl⟩:=Int.eq_ofNat_of_zero_le (show 0≤p by omega);refine absurd ?_ hp;rw [h.e3];exact KM.cols_mem.2 ⟨j,rfl,by omega,KM.neC_iff.2 h0⟩
theorem AK{r p v:Int}{l:List It}(hT:KM.cn T)(hl:∀x∈l,x.1<p)(n:Nat):(mZ n fun i=>lM (sZ r v (bi r (fun q=>cS q l) (eN T i) none) (am (KM.dI T p) (i:Int))))=gq r T n (l++ [(p,v)]):=by
 refine sY fun i _=> ?_;congr 1;rw [←DD];have g0:cS p l=none:=kD fun x hx=>by have:=hl x hx;omega
 refine(AJ (h':=fun q=>cS q (l++ [(p,v)])) (fun q hq=> ?_) ?_ g0 (fun q hq=>⟨?_,?_⟩) (DE hT i)).symm
 ·show cS q (l++ [(p,v)])=cS q l;rw [qB]
  have:cS q [(p,v)]=none:=by simp only [cS];rw [if_neg (by omega)]
  rw [this];cases cS q l<;>rfl
 ·show cS p (l++ [(p,v)])=some v;rw [qB,g0];simp [cS]
 ·exact kD fun x hx=>by have:=hl x hx;omega
 ·refine kD fun x hx=> ?_;rcases List.mem_append.1 hx with hx|hx
  ·have:=hl x hx;omega
  ·simp only [List.mem_cons,List.not_mem_nil,or_false]at hx;subst hx;simp only;omega
theorem LV{r:Int}(h:KM.IsC c n k T)(hv:sk (k,u)):aN (fC r u c.2.2.1 c.2.2.2.1 c.2.2.2.2.1 c.2.2.2.2.2) (0,0,gq r T n.toNat [])=some (.inl (gq r T n.toNat u.l)):=by
 have hok:okS 2 u:=hv.2.1;have hul:=wi hv.1;simp only at hul;have hL:=h.atLen
 obtain⟨q,q1,q2⟩:=cz (b:=fC r u c.2.2.1 c.2.2.2.1 c.2.2.2.2.1 c.2.2.2.2.2) u.l.length (fun j st=>∃a:Nat,st=((a:Int),(j:Int),gq r T n.toNat (u.l.take j))∧a≤c.2.2.1.l.length∧∀i (hi:i<c.2.2.1.l.length),i<a→∀q (hq:q<u.l.length),j≤q→c.2.2.1.l[i]<u.l[q].1) (fun q=>q= .inl (gq r T n.toNat u.l))
  (by
   rintro j _ hj ⟨a,rfl,ha,hI⟩;have ej:=bq hok hj;have hb:=SH hv.1 hj;have h64:=hv.2.2 _ (List.getElem_mem hj)
   have hlt:∀x∈u.l.take j,x.1<u.l[j].1:=fun x hx=>by
    obtain⟨s,hs,rfl⟩:=List.mem_iff_getElem.1 hx;rw [List.length_take]at hs;rw [List.getElem_take];exact Jf (rl hv.1) (by omega) hj
   have hgt:∀q (hq:q<u.l.length),j+1≤q→u.l[j].1<u.l[q].1:=fun q hq hjq=>Jf (rl hv.1) (by omega) hq;obtain⟨b,b1,b2,b3,b4⟩:=aep c.2.2.1 h.o3 (by omega) u.l[j].1 a ha fun i hi hia=>hI i hi hia j hj (Nat.le_refl _);rw [List.take_succ_eq_append_getElem hj];generalize u.l[j]=x at ej hb h64 hlt hgt b2 b3 b4;obtain⟨p,v⟩:=x;simp only at hb h64 hlt hgt b2 b3 b4
   have nxt:∀i (hi:i<c.2.2.1.l.length),i<b→∀q (hq:q<u.l.length),j+1≤q→c.2.2.1.l[i]<u.l[q].1:=fun i hi hib q hq hjq=>by
    have:=b3 i hi hib;have:=hgt q hq hjq;omega
   have hw:=bM hj (show u.l.length≤9223372036854775807 by omega);simp only [fC,ej,zbS,b2,Sum.elim_inl,hw];rw [if_pos (by omega)]
   have skip:p ∉ c.2.2.1.l→gq r T n.toNat (u.l.take j)=gq r T n.toNat (u.l.take j++ [(p,v)]):=fun hn=>by
    rw [←AK h.r hlt,ZS h hn];rfl
   by_cases hbl:b<c.2.2.1.l.length
   ·have eb:=bq h.o3 hbl;rw [if_pos (by omega)];simp only [eb,zbS];by_cases e:c.2.2.1.l[b]=p
    ·rw [if_pos e];obtain⟨jn,g1,g2,g3,g4,g5⟩:=h.at_ge (List.getElem?_eq_getElem hbl);rw [e]at g1;have s1:=KM.jw h.o4 g4;have s2:=KM.jw h.o4 g5;have hc:=Tc (r:=r) (v:=v) h h64 (a:=b) (j:=jn) (by omega) s2 fun i=>bi r (fun q=>cS q (u.l.take j)) (eN T i) none;simp only [s1,zbS];unfold gq;rw [hc];simp only [zbS,Sum.elim_inl];refine .inl ⟨_,rfl,b,?_,b1,nxt⟩;rw [←g1,AK h.r hlt];rfl
    ·rw [if_neg e];refine .inl ⟨_,rfl,b,?_,b1,nxt⟩;rw [skip fun hm=> ?_];obtain⟨i,hi,hip⟩:=List.mem_iff_getElem.1 hm;have hp:=List.pairwise_iff_getElem.1 h.asc;have h4:=b4 hbl;by_cases c1:i<b
     ·have:=b3 i hi c1;omega
     ·by_cases c2:i=b
      ·subst c2;exact e hip
      ·have:=hp b i hbl hi (by omega);omega
   ·rw [if_neg (by omega)];refine .inl ⟨_,rfl,b,?_,b1,nxt⟩;rw [skip fun hm=> ?_];obtain⟨i,hi,hip⟩:=List.mem_iff_getElem.1 hm
    have:=b3 i hi (by omega);omega)
  (by
   rintro _ ⟨a,rfl,ha,hI⟩;refine⟨.inl (gq r T n.toNat u.l),?_,rfl⟩;simp only [fC]
   rw [if_neg (by omega),List.take_length]) 0 (Nat.zero_le _) (0,0,gq r T n.toNat []) ⟨0,rfl,Nat.zero_le _,fun i hi h0=>absurd h0 (by omega)⟩
 rw [q1,q2]
def DF(r:Int)(T:List E3)(l:List It)(ask:Nat→Bool)(i:Nat):Option (Int×Wd):=if ask i=true then(bi r (fun p=>cS p l) (eN T i) none).map fun w=>((i:Int),w)else none
def oD(r:Int)(T:List E3)(l:List It)(ask:Nat→Bool)(n:Nat):List (Int×Wd):=(List.range n).filterMap (DF r T l ask)
theorem AL(r:Int)(T:List E3)(l:List It)(ask:Nat→Bool)(n:Nat):oD r T l ask (n+1)=oD r T l ask n++(DF r T l ask n).toList:=by
 unfold oD;rw [List.range_succ,List.filterMap_append];congr 1
 all_goals (cases hs:DF r T l ask n<;>simp [hs])
theorem Px(r:Int)(T:List E3)(l:List It)(ask:Nat→Bool)(n:Nat):(oD r T l ask n).length≤n:=by
 unfold oD
 have:=List.length_filterMap_le (DF r T l ask) (List.range n)
 simpa using this
theorem Py{r:Int}{l:List It}{s:Sl Int}(hs:okS 1 s)(hu:SK s.l)(o:Bool){m:Nat}(hm:m≤4096):aN (eJ s (gq r T m l)) (o,[],0)=some (.inl (oD r T l (Aw s.l o) m)):=by
 obtain⟨q,q1,q2⟩:=cz (b:=eJ s (gq r T m l)) m (fun j a=>a=(o,oD r T l (Aw s.l o) j,(j:Int))) (fun q=>q= .inl (oD r T l (Aw s.l o) m))
  (by
   rintro j _ hj rfl;have hh:=ux s j hs hu (by omega);have hlen:=Px r T l (Aw s.l o) j;have hap:=fun x=>Wj (l:=oD r T l (Aw s.l o) j) (by omega) x;have hat:=ND (n:=m) (fun i=>lM (bi r (fun p=>cS p l) (eN T i) none)) hj
   have hI:DF r T l (Aw s.l o) j=if(Pn s.l j !=o)=true then(bi r (fun p=>cS p l) (eN T j) none).map (fun w=>((j:Int),w))else none:=rfl
   have hl:((gq r T m l).length:Int)=(m:Int):=by unfold gq;rw [oC]
   rw [AL,hI]
   cases hx:bi r (fun p=>cS p l) (eN T j) none with
   |none=>
    rw [hx]at hat;have hat':atL (gq r T m l) (j:Int)=some (((0,0),false):(Int×Int)×Bool):=hat;simp only [eJ,hl,hat',zbS,bM hj (by omega),if_pos (show(j:Int)<(m:Int)by omega)];rw [if_neg (by decide)];exact .inl ⟨_,rfl,by simp⟩
   |some w=>
    obtain⟨w1,w2⟩:=w;rw [hx]at hat;have hat':atL (gq r T m l) (j:Int)=some (((w1,w2),true):(Int×Int)×Bool):=hat;simp only [eJ,hl,hat',hh,hap,zbS,bM hj (by omega),if_pos (show(j:Int)<(m:Int)by omega)]
    cases hb:Pn s.l j<;>cases o<;>exact .inl ⟨_,rfl,by simp⟩)
  (by
   rintro _ rfl;have hl:((gq r T m l).length:Int)=(m:Int):=by unfold gq;rw [oC]
   refine⟨.inl (oD r T l (Aw s.l o) m),?_,rfl⟩;simp only [eJ,hl]
   rw [if_neg (by omega)]) 0 (Nat.zero_le _) (o,[],0) rfl
 rw [q1,q2]
theorem nP{r:Int}(h:KM.IsC c n k T)(hr:okR r=true)(hv:sk (k,u)){s:Sl Int}(hs:okS 1 s)(hu:SK s.l)(o:Bool):kB r c (k,u) s o=some (mo 3 (oD r T u.l (Aw s.l o) n.toNat),0):=by
 have e1:eT c=some true:=KM.CC h
 have e2:jv c=some c:=by
  obtain⟨c1,c2,c3,c4,c5,c6⟩:=c;unfold jv;simp only [e1,zbS];rfl
 have hr':(decide (1≤r)&& decide (r≤5))=true:=hr;have hok:okS 2 u:=hv.2.1;have hul:=wi hv.1;simp only at hul;have e3:=qi (k,u) hok (show u.l.length≤_ by omega);rw [hv.1]at e3;have e4:=LV (r:=r) h hv;have hn:=h.hn;have e5:=Py (r:=r) (T:=T) (l:=u.l) hs hu o (m:=n.toNat) (by omega);have i1:=h.e1;have i2:=h.e2;have hlo:mQ n=some ():=by unfold mQ bX;rw [if_pos ⟨by omega,by omega⟩]
 have rep:List.replicate n.toNat (((0,0),false):(Int×Int)×Bool)=gq r T n.toNat []:=by
  rw [Tb];refine sY fun i _=> ?_;rw [jz fun x _=>rfl];rfl
 obtain⟨c1,c2,c3,c4,c5,c6⟩:=c;simp only at i1 i2 e4;subst i1 i2;unfold kB;simp only [sM,hr',zbS,e2,e3,hlo,rep,e4,Sum.elim_inl,e5];rw [if_pos trivial,if_pos trivial,if_neg (by omega)]
end
end Ev
end
noncomputable section
namespace Ev
open Go
end Ev
end
noncomputable section
namespace Ev
open Go
theorem LW(r:Int):KM.aI r=aI r:=by funext a b;rfl
theorem Ju{r:Int}{a b c:Int×Int}(ha:ce a.2)(hb:ce b.2)(hc:ce c.2):aI r (aI r a b) c=aI r a (aI r b c):=by
 by_cases h2:r=2
 ·subst h2;have g:∀a b:Int×Int,aI 2 a b=gO (!(decide (a.1=0∧a.2=0)&& decide (b.1=0∧b.2=0))):=fun a b=>rfl;rw [g,g,g,g];have e:∀x:Bool,decide ((gO x).1=0∧(gO x).2=0)= !x:=fun x=>by cases x<;>rfl
  rw [e,e];cases decide (a.1=0∧a.2=0)<;>cases decide (b.1=0∧b.2=0)<;>cases decide (c.1=0∧c.2=0)<;>rfl
 ·exact CT h2 ha hb hc
theorem Pz(a b:Int×Int):eF a b=eF b a:=by
 unfold eF;have h1:=wj a b;have h2:=wj b a;by_cases c1:jP b a=true
 ·by_cases c2:jP a b=true
  ·have:=h1.1 c2;have:=h2.1 c1;omega
  ·rw [if_pos c1,if_neg c2]
 ·by_cases c2:jP a b=true
  ·rw [if_neg c1,if_pos c2]
  ·rw [if_neg c1,if_neg c2];have n1:¬(b.1<a.1∨b.1=a.1∧b.2<a.2):=fun h=>c1 (h2.2 h);have n2:¬(a.1<b.1∨a.1=b.1∧a.2<b.2):=fun h=>c2 (h1.2 h);exact Prod.ext (by omega) (by omega)
theorem LX(r:Int){a b:Int×Int}(ha:ce a.2)(hb:ce b.2):aI r a b=aI r b a:=by
 unfold aI;split
 ·exact Pz a b
 ·split
  ·rw [Bool.and_comm]
  ·split
   ·rw [po ha hb,po hb ha,Int.add_comm a.1 b.1,Int.add_comm a.2 b.2]
   ·rfl
def mK(r:Int):Option Wd→Option Wd→Option Wd
 |none,b=>b
 |some a,none=>some a
 |some a,some b=>some (aI r a b)
def pl1(f:Nat→Option Wd)(i:Nat):Option (Int×Wd):=(f i).map fun w=>((i:Int),w)
def gV(f:Nat→Option Wd)(n:Nat):List (Int×Wd):=(List.range n).filterMap (pl1 f)
theorem kE(f:Nat→Option Wd)(n:Nat):gV f (n+1)=gV f n++(pl1 f n).toList:=by
 unfold gV;rw [List.range_succ,List.filterMap_append];cases h:pl1 f n<;>simp [h]
theorem Jv{f:Nat→Option Wd}{n:Nat}{x:Int×Wd}(h:x∈gV f n):∃i,i<n∧x.1=(i:Int)∧f i=some x.2:=by
 unfold gV at h;rw [List.mem_filterMap]at h;obtain⟨i,hi,h⟩:=h;unfold pl1 at h;rw [Option.map_eq_some_iff]at h;obtain⟨w,hw,rfl⟩:=h;exact⟨i,by simpa using hi,rfl,hw⟩
theorem tc{f g:Nat→Option Wd}{n:Nat}(h:∀i,i<n→f i=g i):gV f n=gV g n:=by
 induction n with
 |zero=>rfl
 |succ n ih=>rw [kE,kE,ih fun i hi=>h i (by omega),show pl1 f n=pl1 g n by unfold pl1;rw [h n (by omega)]]
theorem AM(f:Nat→Option Wd)(n:Nat):(gV f n).length≤n:=by
 unfold gV
 have:=List.length_filterMap_le (pl1 f) (List.range n)
 simpa using this
def e1(k:Int)(f:Nat→Option Wd)(i:Nat):List Hp.Evt:=(pl1 f i).toList.map fun s=>(k,s)
def evO(f g:Nat→Option Wd):Nat→List Hp.Evt
 |0=> []
 |n+1=>evO f g n++(e1 0 f n++e1 1 g n)
theorem wo{k:Int}{f:Nat→Option Wd}{i:Nat}{x:Hp.Evt}(h:x∈e1 k f i):x.1=k∧x.2.1=(i:Int)∧f i=some x.2.2:=by
 unfold e1 pl1 at h
 cases hf:f i with
 |none=>rw [hf]at h;simp at h
 |some w=>rw [hf]at h;simp only [Option.map_some,Option.toList_some,List.map_cons,List.map_nil,List.mem_singleton]at h;subst h;exact⟨rfl,rfl,rfl⟩
theorem yD{f g:Nat→Option Wd}:∀{n:Nat} {x:Hp.Evt},x∈evO f g n→∃i:Nat,i<n∧x.2.1=(i:Int)∧(x.1=0∧f i=some x.2.2∨x.1=1∧g i=some x.2.2)
 |n+1,x,h=>by
  unfold evO at h;rcases List.mem_append.1 h with h|h
  ·obtain⟨i,h1,h2⟩:=yD h;exact⟨i,by omega,h2⟩
  ·rcases List.mem_append.1 h with h|h
   ·obtain⟨h1,h2,h3⟩:=wo h;exact⟨n,by omega,h2,.inl ⟨h1,h3⟩⟩
   ·obtain⟨h1,h2,h3⟩:=wo h;exact⟨n,by omega,h2,.inr ⟨h1,h3⟩⟩
theorem AN(f g:Nat→Option Wd):∀n,(evO f g n).Perm ((gV f n).map (fun s=>((0:Int),s))++(gV g n).map (fun s=>((1:Int),s)))
 |0=> .refl _
 |n+1=>by
  rw [kE,kE,List.map_append,List.map_append];unfold evO;show(evO f g n++(e1 0 f n++e1 1 g n)).Perm ((_++e1 0 f n)++(_++e1 1 g n));refine((AN f g n).append_right _).trans ?_;rw [List.append_assoc,List.append_assoc];refine List.Perm.append_left _ ?_;rw [←List.append_assoc,←List.append_assoc];exact List.perm_append_comm.append_right _
theorem Td(k:Int)(f:Nat→Option Wd)(i:Nat):(e1 k f i).Pairwise fun a b=>Hp.le (Hp.kl a) (Hp.kl b):=by
 unfold e1;cases pl1 f i<;>simp
theorem AO(f g:Nat→Option Wd):∀n,(evO f g n).Pairwise fun a b=>Hp.le (Hp.kl a) (Hp.kl b)
 |0=> .nil
 |n+1=>by
  unfold evO;refine List.pairwise_append.2 ⟨AO f g n,List.pairwise_append.2 ⟨Td _ _ _,Td _ _ _,fun a ha b hb=> ?_⟩,fun a ha b hb=> ?_⟩
  ·obtain⟨a1,a2,_⟩:=wo ha;obtain⟨b1,b2,_⟩:=wo hb;rw [Hp.le_iff];unfold Hp.kl;simp only;omega
  ·obtain⟨i,a1,a2,_⟩:=yD ha
   have hb2:b.2.1=(n:Int):=by
    rcases List.mem_append.1 hb with hb|hb
    ·exact(wo hb).2.1
    ·exact(wo hb).2.1
   rw [Hp.le_iff];unfold Hp.kl;simp only;omega
theorem Te(f g:Nat→Option Wd)(n:Nat):Hp.sortE (Sm.Mg.idx 0 [gV f n,gV g n])=evO f g n:=by
 refine Hp.uniq _ _ ?_ (Hp.sortE_sorted _) (AO f g n) fun a ha b hb h1 h2=> ?_
 ·refine(Hp.sortE_perm _).trans ?_;show((gV f n).map (fun s=>((0:Int),s))++((gV g n).map (fun s=>((1:Int),s))++ [])).Perm _;rw [List.append_nil];exact(AN f g n).symm
 ·have mem:∀{x:Hp.Evt},x∈Hp.sortE (Sm.Mg.idx 0 [gV f n,gV g n])→x∈evO f g n:=fun{x} hx=>by
   have h3:=(Hp.sortE_perm _).mem_iff.1 hx;change x∈(gV f n).map (fun s=>((0:Int),s))++((gV g n).map (fun s=>((1:Int),s))++ [])at h3;rw [List.append_nil]at h3;exact(AN f g n).mem_iff.2 h3
  obtain⟨i,_,a2,a3⟩:=yD (mem ha);obtain⟨j,_,b2,b3⟩:=yD (mem hb);rw [Hp.le_iff]at h1 h2;unfold Hp.kl at h1 h2;simp only at h1 h2;have ij:i=j:=by omega
  subst ij;have hab:a.1=b.1:=by omega
  have hw:a.2.2=b.2.2:=by
   rcases a3 with⟨a3,a4⟩|⟨a3,a4⟩<;>rcases b3 with⟨b3,b4⟩|⟨b3,b4⟩
   ·exact Option.some.inj (a4.symm.trans b4)
   ·omega
   ·omega
   ·exact Option.some.inj (a4.symm.trans b4)
  exact Prod.ext hab (Prod.ext (by omega) hw)
theorem AP{A:Int×Int→Int×Int→Int×Int}{L:List Hp.Sm3}{s:Hp.Sm3}(h:∀x∈L,x.1<s.1):Hp.putL A L s=L++ [s]:=by
 unfold Hp.putL;rw [if_neg];rintro⟨h1,h2⟩
 have hl:L.length - 1<L.length:=by
  have:=List.length_pos_iff.2 h1;omega
 rw [Hp.at_lt hl]at h2
 have:=h _ (List.getElem_mem hl)
 omega
theorem PB{A:Int×Int→Int×Int→Int×Int}{L:List Hp.Sm3}{p:Int}{a b:Wd}:Hp.putL A (L++ [(p,a)]) (p,b)=L++ [(p,A a b)]:=by
 unfold Hp.putL;have hl:(L++ [(p,a)]).length - 1=L.length:=by simp
 have hat:Hp.at_ (L++ [(p,a)]) L.length=(p,a):=by rw [Hp.at_lt (by simp)];simp
 rw [hl,hat,if_pos ⟨by simp,rfl⟩];simp
theorem NE(r:Int)(f g:Nat→Option Wd):∀n,Hp.outOf (aI r) (evO f g n)=gV (fun i=>mK r (f i) (g i)) n
 |0=>rfl
 |n+1=>by
  have ih:=NE r f g n;unfold evO;rw [kE]
  have hlt:∀x∈gV (fun i=>mK r (f i) (g i)) n,x.1<(n:Int):=fun x hx=>by
   obtain⟨i,h1,h2,_⟩:=Jv hx;omega
  generalize gV (fun i=>mK r (f i) (g i)) n=L at ih hlt;generalize evO f g n=S at ih
  have fin:∀X:List Hp.Evt,Hp.outOf (aI r) (S++X)=X.foldl (fun o x=>Hp.putL (aI r) o x.2) L:=fun X=>by
   show(S++X).foldl _ []=_;rw [List.foldl_append];show X.foldl _ (Hp.outOf (aI r) S)=_;rw [ih]
  rw [fin];have e0:pl1 (fun i=>mK r (f i) (g i)) n=(mK r (f n) (g n)).map fun w=>((n:Int),w):=rfl;rw [e0];unfold e1 pl1;generalize f n=fn;generalize g n=gn;rcases fn with _|a<;>rcases gn with _|b
  ·show L=L++ [];rw [List.append_nil]
  ·have hp:=AP (A:=aI r) (s:=((n:Int),b)) hlt;show Hp.putL (aI r) L ((n:Int),b)=_;rw [hp];rfl
  ·have hp:=AP (A:=aI r) (s:=((n:Int),a)) hlt;show Hp.putL (aI r) L ((n:Int),a)=_;rw [hp];rfl
  ·have hp:=AP (A:=aI r) (s:=((n:Int),a)) hlt;show Hp.putL (aI r) (Hp.putL (aI r) L ((n:Int),a)) ((n:Int),b)=_;rw [hp,PB];rfl
theorem Tf(r:Int)(f g:Nat→Option Wd)(n:Nat):Sm.Mg.outM r [gV f n,gV g n]=gV (fun i=>mK r (f i) (g i)) n:=by
 unfold Sm.Mg.outM;rw [Te,LW];exact NE r f g n
theorem LY{r:Int}{a b:Option Wd}(ha:∀w,a=some w→ce w.2)(hb:∀w,b=some w→ce w.2)(hc:∀a b:Wd,ce a.2→ce b.2→aI r a b=aI r b a):mK r a b=mK r b a:=by
 cases a with
 |none=>cases b<;>rfl
 |some a=>cases b with
  |none=>rfl
  |some b=>show some _=some _;rw [hc a b (ha a rfl) (hb b rfl)]
theorem ns{r:Int}{h:Int→Option Int}(hh:∀k y,h k=some y→bu y):∀{L:List (Int×Int)} (hL:∀x∈L,bu x.2) {a:Wd},ce a.2→bi r h L (some a)=mK r (some a) (bi r h L none)
 | [],_,a,_=>rfl
 |x::L,hL,a,ha=>by
  have hL2:∀y∈L,bu y.2:=fun y hy=>hL y (List.mem_cons_of_mem _ hy);show bi r h L (eC r h (some a) x)=mK r (some a) (bi r h L (eC r h none x));unfold eC
  cases hx:h x.1 with
  |none=>exact ns hh hL2 ha
  |some v=>
   have hp:ce (iK r x.2 v).2:=by
    have:=mu (r:=r) hh (l:= [x]) (acc:=none) (fun y hy=>by rw [List.mem_singleton.1 hy];exact hL x List.mem_cons_self) (fun w hw=>by cases hw) (iK r x.2 v) (by show bi r h [] (eC r h none x)=_;unfold eC;rw [hx];rfl)
    exact this
   show bi r h L (some (aI r a (iK r x.2 v)))=mK r (some a) (bi r h L (some (iK r x.2 v)));have hq:ce (aI r a (iK r x.2 v)).2:=oX ha hp;rw [ns hh hL2 hq,ns hh hL2 hp];have hlo:∀w,bi r h L none=some w→ce w.2:=mu hh hL2 (fun w hw=>by cases hw)
   cases hR:bi r h L none with
   |none=>rfl
   |some b=>show some _=some _;rw [Ju ha hp (hlo b hR)]
theorem LZ{r:Int}{h:Int→Option Int}(hh:∀k y,h k=some y→bu y){L M:List (Int×Int)}(hL:∀x∈L,bu x.2)(hM:∀x∈M,bu x.2):bi r h (L++M) none=mK r (bi r h L none) (bi r h M none):=by
 have e:∀(L:List (Int×Int)) acc,bi r h (L++M) acc=bi r h M (bi r h L acc):=fun L=>by
  induction L with
  |nil=>intro acc;rfl
  |cons x L ih=>intro acc;exact ih _
 rw [e]
 cases hR:bi r h L none with
 |none=>rfl
 |some a=>exact ns hh hM (mu hh hL (fun w hw=>by cases hw) a hR)
theorem AQ{r:Int}{h g:Int→Option Int}{d:Int}:∀{L:List (Int×Int)} {acc:Option Wd},(∀x∈L,g (x.1 - d)=h x.1)→bi r g (L.map fun x=>(x.1 - d,x.2)) acc=bi r h L acc
 | [],acc,_=>rfl
 |x::L,acc,hx=>by
  have e:eC r g acc (x.1 - d,x.2)=eC r h acc x:=by unfold eC;rw [show g (x.1 - d,x.2).1=h x.1 from hx x List.mem_cons_self]
  show bi r g (L.map _) (eC r g acc (x.1 - d,x.2))=bi r h L (eC r h acc x);rw [e];exact AQ fun y hy=>hx y (List.mem_cons_of_mem _ hy)
theorem Jw:∀{a b:List (Int×Int)},a.Pairwise (fun x y=>x.1<y.1)→b.Pairwise (fun x y=>x.1<y.1)→(∀x,x∈a↔x∈b)→a=b
 | [],[],_,_,_=>rfl
 | [],y::b,_,_,h=>absurd ((h y).2 List.mem_cons_self) (by simp)
 |x::a,[],_,_,h=>absurd ((h x).1 List.mem_cons_self) (by simp)
 |x::a,y::b,ha,hb,h=>by
  have ha2:=List.pairwise_cons.1 ha;have hb2:=List.pairwise_cons.1 hb
  have e:x=y:=by
   rcases List.mem_cons.1 ((h x).1 List.mem_cons_self)with e|e
   ·exact e
   ·rcases List.mem_cons.1 ((h y).2 List.mem_cons_self)with e'|e'
    ·exact e'.symm
    ·have:=hb2.1 x e;have:=ha2.1 y e';omega
  subst e;rw [Jw ha2.2 hb2.2 fun z=> ?_];constructor
  ·intro hz;rcases List.mem_cons.1 ((h z).1 (List.mem_cons_of_mem _ hz))with e|e
   ·have:=ha2.1 z hz;rw [e]at this;omega
   ·exact e
  ·intro hz;rcases List.mem_cons.1 ((h z).2 (List.mem_cons_of_mem _ hz))with e|e
   ·have:=hb2.1 z hz;rw [e]at this;omega
   ·exact e
theorem rowOf_mem{T:List E3}{i:Nat}{p v:Int}:(p,v)∈eN T i↔(p,(i:Int),v)∈T:=by
 unfold eN;rw [List.mem_map];constructor
 ·rintro⟨⟨x1,x2,x3⟩,hx,he⟩;rw [List.mem_filter,decide_eq_true_eq]at hx;simp only [Prod.mk.injEq]at he;obtain⟨h1,h2⟩:=hx;simp only at h2;rw [←he.1,←he.2,←h2];exact h1
 ·intro h;exact⟨_,List.mem_filter.2 ⟨h,by simp⟩,rfl⟩
theorem tj{T:List E3}(h:KM.cn T)(i:Nat):(eN T i).Pairwise fun x y=>x.1<y.1:=List.pairwise_map.1 (DE h i)
theorem PC(r:Int)(T:List E3)(l:List It)(ask:Nat→Bool)(n:Nat):oD r T l ask n=gV (fun i=>if ask i=true then bi r (fun p=>cS p l) (eN T i) none else none) n:=by
 induction n with
 |zero=>rfl
 |succ n ih=>
  rw [AL,kE,ih];congr 2;unfold DF pl1;simp only;by_cases h:ask n=true
  ·rw [if_pos h,if_pos h]
  ·rw [if_neg h,if_neg h];rfl
end Ev
end
noncomputable section
namespace Ev
open Go
theorem DG{r:Int}{h g:Int→Option Int}:∀{L:List (Int×Int)} {acc:Option Wd},(∀x∈L,g x.1=h x.1)→bi r g L acc=bi r h L acc
 | [],acc,_=>rfl
 |x::L,acc,hx=>by
  have e:eC r g acc x=eC r h acc x:=by unfold eC;rw [hx x List.mem_cons_self]
  show bi r g L (eC r g acc x)=bi r h L (eC r h acc x);rw [e];exact DG fun y hy=>hx y (List.mem_cons_of_mem _ hy)
theorem PE{l:List E3}{n k c:Int}(h:KM.cn l)(hp:∀x∈l,(0≤x.1∧x.1<n)∧0≤x.2.1∧x.2.1<c)(hk:0≤k∧k≤c)(h1:KM.cn (KM.jE 0 n 0 k l))(h2:KM.cn (KM.jE 0 n k c l)){i:Nat}(hi:(i:Int)<n):
  eN (KM.dC l) i=eN (KM.dC (KM.jE 0 n 0 k l)) i++(eN (KM.dC (KM.jE 0 n k c l)) i).map fun x=>(x.1 - (-k),x.2):=by
 have m1:∀{p v:Int},(p,v)∈eN (KM.dC (KM.jE 0 n 0 k l)) i↔((i:Int),p,v)∈l∧0≤p∧p<k:=fun{p v}=>by
  rw [rowOf_mem,KM.turn_mem];show((i:Int),p,v)∈_↔_;rw [KM.cutE_mem];simp only [Int.add_zero,Int.sub_zero];constructor
  ·rintro⟨a,_,b⟩;exact⟨a,b⟩
  ·rintro⟨a,b⟩;exact⟨a,by omega,b⟩
 have m2:∀{p v:Int},(p,v)∈eN (KM.dC (KM.jE 0 n k c l)) i↔((i:Int),p+k,v)∈l∧0≤p∧p<c - k:=fun{p v}=>by
  rw [rowOf_mem,KM.turn_mem];show((i:Int),p,v)∈_↔_;rw [KM.cutE_mem];simp only [Int.add_zero,Int.sub_zero];constructor
  ·rintro⟨a,_,b⟩;exact⟨a,b⟩
  ·rintro⟨a,b⟩;exact⟨a,by omega,b⟩
 refine Jw (tj (KM.kA h) i) (List.pairwise_append.2 ⟨tj (KM.kA h1) i,List.pairwise_map.2 ((tj (KM.kA h2) i).imp fun{a b} hab=>by simp only;omega),fun a ha b hb=> ?_⟩) fun x=> ?_
 ·obtain⟨a1,a2⟩:=a;obtain⟨y,hy,rfl⟩:=List.mem_map.1 hb;obtain⟨y1,y2⟩:=y
  have:=(m1.1 ha).2
  have:=(m2.1 hy).2
  simp only;omega
 ·obtain⟨p,v⟩:=x;rw [List.mem_append,m1,rowOf_mem,KM.turn_mem,List.mem_map];show((i:Int),p,v)∈l↔_;constructor
  ·intro hx
   have:=(hp _ hx).2
   simp only at this;by_cases hpk:p<k
   ·exact .inl ⟨hx,by omega,hpk⟩
   ·refine .inr ⟨(p - k,v),m2.2 ⟨by rw [Int.sub_add_cancel];exact hx,by omega,by omega⟩,?_⟩;simp only [Prod.mk.injEq,and_true];omega
  ·rintro(⟨hx,_⟩|⟨⟨y1,y2⟩,hy,he⟩)
   ·exact hx
   ·simp only [Prod.mk.injEq]at he
    have:=(m2.1 hy).1
    rw [show y1+k=p by omega,he.2]at this;exact this
theorem Wo(i:Nat):Aw (nI:Sl Int).l true i=true:=by
 unfold Aw nI Pn;simp
theorem PF(r:Int)(T:List E3)(l:List It)(n:Nat):oD r T l (Aw (nI:Sl Int).l true) n=gV (fun i=>bi r (fun p=>cS p l) (eN T i) none) n:=by
 rw [PC];refine tc fun i _=> ?_;rw [if_pos (Wo i)]
theorem Wp(f:Nat→Option Wd)(n:Nat):Sm.Mg.risB (gV f n)=true:=by
 rw [Sm.Mg.risB_iff]
 induction n with
 |zero=>exact List.Pairwise.nil
 |succ n ih=>
  rw [kE];refine List.pairwise_append.2 ⟨ih,?_,fun a ha b hb=> ?_⟩
  ·unfold pl1;cases f n<;>simp
  ·obtain⟨i,h1,h2,_⟩:=Jv ha;unfold pl1 at hb
   cases hf:f n with
   |none=>rw [hf]at hb;simp at hb
   |some w=>rw [hf]at hb;simp only [Option.map_some,Option.toList_some,List.mem_singleton]at hb;subst hb;simp only;omega
theorem DH{r:Int}(hr:okR r=true)(f g:Nat→Option Wd){n:Nat}(hn:n≤4096):gl r ⟨true,1,[mo 3 (gV f n),mo 3 (gV g n)]⟩=some (mo 3 (gV (fun i=>mK r (f i) (g i)) n),0):=by
 show Sm.Mg.fn (r,_)=_;unfold Sm.Mg.fn;have l1:=AM f n;have l2:=AM g n
 have ok:Sm.Mg.okM (⟨true,1,[mo 3 (gV f n),mo 3 (gV g n)]⟩:Sl (Sl (Int×Wd)))=true:=by
  have o:∀l:List (Int×Wd),Sm.Mg.okI (mo 3 l)=true:=fun l=>by cases l<;>rfl
  unfold Sm.Mg.okM Sm.Mg.totL;simp only [List.map_cons,List.map_nil,eZ,List.sum_cons,List.sum_nil,List.length_cons,List.length_nil,List.all_cons,List.all_nil,o,Bool.and_true,Bool.and_eq_true,decide_eq_true_eq,Bool.or_eq_true];refine⟨⟨by omega,by omega⟩,.inl trivial⟩
 rw [if_pos ok];simp only [List.map_cons,List.map_nil,eZ];rw [if_neg (by rw [show KM.lJ r=true from hr];simp),if_neg (by simp [Wp]),Tf];cases gV (fun i=>mK r (f i) (g i)) n<;>rfl
end Ev
end
noncomputable section
namespace Ev
open Go
theorem acJ:FL=some true:=rfl
theorem PG{m:Mx}{n c k:Int}{l:List E3}(h:KM.Is m n c l)(hk:0≤k∧k≤c)(h1:KM.cn (KM.jE 0 n 0 k l))(h2:KM.cn (KM.jE 0 n k c l))(r:Int){f:Nat→Option Int}(hf:∀p x,f p=some x→bu x){i:Nat}(hi:i<n.toNat):
  bi r (fun p=>cS p (gd c.toNat f)) (eN (KM.dC l) i) none=mK r (bi r (fun p=>cS p (gd (fL c.toNat 0 k) (jy c.toNat f 0 k))) (eN (KM.dC (KM.jE 0 n 0 k l)) i) none) (bi r (fun p=>cS p (gd (fL c.toNat k c) (jy c.toNat f k c))) (eN (KM.dC (KM.jE 0 n k c l)) i) none):=by
 have hc:=h.hc;have hn:=h.hn
 have vals:∀{T:List E3} (_:∀x∈T,bu x.2.2) (x:Int×Int),x∈eN T i→bu x.2:=fun{T} hT x hx=>by
  obtain⟨x1,x2⟩:=x;exact hT _ (rowOf_mem.1 hx)
 have vT:∀{T:List E3},(∀x∈T,bu x.2.2)→∀x∈KM.dC T,bu x.2.2:=fun{T} hT x hx=>hT (KM.kf x) (KM.turn_mem.1 hx);have v1:∀x∈KM.jE 0 n 0 k l,bu x.2.2:=fun x hx=>h.v (x.1+0,x.2.1+0,x.2.2) (KM.cutE_mem.1 hx).1;have v2:∀x∈KM.jE 0 n k c l,bu x.2.2:=fun x hx=>h.v (x.1+0,x.2.1+k,x.2.2) (KM.cutE_mem.1 hx).1
 have gi:∀p y,cS p (gd c.toNat f)=some y→bu y:=fun p y hp=>by
  obtain⟨q,_,_,q3⟩:=AI (yA hp);exact hf _ _ q3
 rw [PE h.r h.p hk h1 h2 (by omega),LZ gi (vals (vT v1)) fun x hx=>by
  obtain⟨y,hy,rfl⟩:=List.mem_map.1 hx
  exact vals (vT v2) y hy]
 congr 1
 ·refine(DG fun x hx=> ?_).symm;obtain⟨x1,x2⟩:=x;have hx2:=(KM.cutE_mem.1 (KM.turn_mem.1 (rowOf_mem.1 hx))).2.2;unfold KM.kf at hx2;simp only at hx2 ⊢;obtain⟨q,rfl⟩:=Int.eq_ofNat_of_zero_le hx2.1;have e:fL c.toNat 0 k=k.toNat:=by unfold fL;simp;omega
  rw [e,rn _ (by omega),rn _ (by omega)];unfold jy;rw [e,if_pos (by omega)];rfl
 ·refine AQ fun x hx=> ?_;obtain⟨x1,x2⟩:=x;have hx2:=(KM.cutE_mem.1 (KM.turn_mem.1 (rowOf_mem.1 hx))).2.2;unfold KM.kf at hx2;simp only at hx2 ⊢;obtain⟨q,rfl⟩:=Int.eq_ofNat_of_zero_le hx2.1;have e:fL c.toNat k c=c.toNat - k.toNat:=by unfold fL;omega
  rw [e,rn _ (by omega),show((q:Nat):Int) - (-k)=((q+k.toNat:Nat):Int)by omega,rn _ (by omega)];unfold jy;rw [e,if_pos (by omega)]
theorem ZT(f:Nat→Option Wd){n:Nat}(hn:n≤4096):cJ (mo 3 (gV f n)) (mo 3 (gV f n))=some true:=CV _ (iR _) (by rw [eZ];have:=AM f n;omega)
theorem qH(t:Tk)(ht:inK .i64 t.1∧(inK .u8 t.2.1.1∧inK .u8 t.2.1.2)∧SlW 3 (fun x:E3=>inK .i64 x.1∧inK .i64 x.2.1∧inK .i64 x.2.2) t.2.2.1∧SlW 2 (fun x:It=>inK .i64 x.1∧inK .i64 x.2) t.2.2.2.1∧SlW 2 (fun x:It=>inK .i64 x.1∧inK .i64 x.2) t.2.2.2.2.1∧SlW 1 (fun x=>inK .u64 x) t.2.2.2.2.2.1∧True)(at_:Int)(ha:inK .u8 at_):jg t at_=some true:=by
 have OT:=ZP ht
 obtain⟨m,l,e1,hM⟩:=Pw t OT fun x hx=>by
  have:=ht.2.2.1.2.2.2 x hx
  exact⟨qZ this.1,qZ this.2.1,qZ this.2.2⟩
 obtain⟨u,e2,o2,w,_,o3⟩:=SW t OT t.2.2.2.1 OT.x OT.xl OT.xv;have hr:=Pv t.1;have hn:=hM.hn;have hc:=hM.hc;have e0:=jU t.1;obtain⟨r,⟨n1,n2⟩,s4,x,y,g,o⟩:=t;simp only at e1 e2 o2 o3 hr hn hc e0 hM;generalize fX r=R at*;generalize dn n1=N at*;generalize dn n2=C at*;have hat:0≤at_∧at_≤255:=by simpa [inK,Lit.wf,IntKind.min,IntKind.max,IntKind.signed,IntKind.bits]using ha
 have ek:iZ (IntKind.i64.wrap at_) (IntKind.i64.wrap (C+1))=some (at_ %(C+1)):=by
  rw [cV (by omega) (by omega),cV (by omega) (by omega)];unfold iZ;rw [if_pos (by omega),Int.tmod_eq_emod_of_nonneg hat.1]
 have hk:0≤at_ %(C+1)∧at_ %(C+1)≤C:=⟨Int.emod_nonneg _ (by omega),by have:=Int.emod_lt_of_pos at_ (show 0<C+1 by omega);omega⟩;generalize at_ %(C+1)=k at ek hk
 -- the vector
 have eu:u=mo 2 (gd C.toNat fun p=>cS (p:Int) u.l):=by
  have h9:=LC o2.1;rw [←h9,o3,eZ]
 obtain⟨f,hff⟩:∃f:Nat→Option Int,f=fun(p:Nat)=>cS (p:Int) u.l:=⟨_,rfl⟩
 have hf:∀(p:Nat) z,f p=some z→bu z:=fun p z hp=>by
  rw [hff]at hp;exact o2.2.2 _ (yA hp)
 rw [←hff]at eu;clear hff;subst eu;obtain⟨m1,c1,hM1⟩:=KM.uD hM (0,N) (0,k) (lo:=0) (hi:=N) (lo2:=0) (hi2:=k) ⟨by omega,hn.1,by omega⟩ (fun _=>⟨by simp,by simp⟩) (fun h=>by simp at h;omega) ⟨by omega,hk.1,hk.2⟩ (fun _=>⟨by simp,by simp only;omega⟩) (fun h=>by simp only at h;omega);obtain⟨m2,c2,hM2⟩:=KM.uD hM (0,N) (k,C) (lo:=0) (hi:=N) (lo2:=k) (hi2:=C) ⟨by omega,hn.1,by omega⟩ (fun _=>⟨by simp,by simp⟩) (fun h=>by simp at h;omega) ⟨hk.1,hk.2,by omega⟩ (fun _=>⟨by simp only;omega,by simp only;omega⟩) (fun h=>by simp only at h;omega);rw [Int.sub_zero,Int.sub_zero]at hM1;rw [Int.sub_zero]at hM2;obtain⟨q0,k0,i0⟩:=KM.qx hM;obtain⟨q1,k1,i1⟩:=KM.qx hM1;obtain⟨q2,k2,i2⟩:=KM.qx hM2;have hC:((C.toNat:Nat):Int)=C:=by omega
 have p1:=qE (n:=C.toNat) (f:=f) (by omega) 0 k;have p2:=qE (n:=C.toNat) (f:=f) (by omega) k C;rw [hC]at p1 p2
 have g1:=DA (n:=fL C.toNat 0 k) (f:=jy C.toNat f 0 k) (by unfold fL;omega) fun p z hp=>by
  unfold jy at hp;split at hp
  ·exact hf _ _ hp
  ·cases hp
 have g2:=DA (n:=fL C.toNat k C) (f:=jy C.toNat f k C) (by unfold fL;omega) fun p z hp=>by
  unfold jy at hp;split at hp
  ·exact hf _ _ hp
  ·cases hp
 have n1':((fL C.toNat 0 k:Nat):Int)=k:=by unfold fL;simp;omega
 have n2':((fL C.toNat k C:Nat):Int)=C - k:=by unfold fL;omega
 have s0:=nP (r:=R) i0 hr o2 (s:=nI) zO (fun x hx=>by simp [nI]at hx) true;rw [n1']at g1 p1;rw [n2']at g2 p2;have s1:=nP (r:=R) i1 hr g1 (s:=nI) zO (fun x hx=>by simp [nI]at hx) true;have s2:=nP (r:=R) i2 hr g2 (s:=nI) zO (fun x hx=>by simp [nI]at hx) true;rw [PF,eZ]at s0 s1 s2;have hN:N.toNat≤4096:=by omega
 have hsum:=tc (n:=N.toNat) fun i hi=>PG hM hk hM1.r hM2.r R hf hi;rw [hsum]at s0
 have vals:∀{T:List E3} (_:∀x∈T,bu x.2.2) (i:Nat) (x:Int×Int),x∈eN (KM.dC T) i→bu x.2:=fun{T} hT i x hx=>by
  obtain⟨x1,x2⟩:=x;exact hT (KM.kf (x1,(i:Int),x2)) (KM.turn_mem.1 (rowOf_mem.1 hx))
 have gv:∀{a b:Int} p y,cS p (gd (fL C.toNat a b) (jy C.toNat f a b))=some y→bu y:=fun{a b} p y hp=>by
  obtain⟨q,_,_,q3⟩:=AI (yA hp);have q4:jy C.toNat f a b q=some y:=q3;unfold jy at q4;by_cases h9:q<fL C.toNat a b
  ·rw [if_pos h9]at q4;exact hf _ _ q4
  ·rw [if_neg h9]at q4;cases q4
 have lo1:∀(i:Nat) w,bi R (fun p=>cS p (gd (fL C.toNat 0 k) (jy C.toNat f 0 k))) (eN (KM.dC (KM.jE 0 N 0 k l)) i) none=some w→ce w.2:=fun i w hw=>mu gv (vals hM1.v i) (fun w hw=>by cases hw) w hw;have lo2:∀(i:Nat) w,bi R (fun p=>cS p (gd (fL C.toNat k C) (jy C.toNat f k C))) (eN (KM.dC (KM.jE 0 N k C l)) i) none=some w→ce w.2:=fun i w hw=>mu gv (vals hM2.v i) (fun w hw=>by cases hw) w hw;have mg1:=DH hr (fun i=>bi R (fun p=>cS p (gd (fL C.toNat 0 k) (jy C.toNat f 0 k))) (eN (KM.dC (KM.jE 0 N 0 k l)) i) none) (fun i=>bi R (fun p=>cS p (gd (fL C.toNat k C) (jy C.toNat f k C))) (eN (KM.dC (KM.jE 0 N k C l)) i) none) hN;have mg2:=DH hr (fun i=>bi R (fun p=>cS p (gd (fL C.toNat k C) (jy C.toNat f k C))) (eN (KM.dC (KM.jE 0 N k C l)) i) none) (fun i=>bi R (fun p=>cS p (gd (fL C.toNat 0 k) (jy C.toNat f 0 k))) (eN (KM.dC (KM.jE 0 N 0 k l)) i) none) hN;rw [tc fun i _=>LY (r:=R) (lo2 i) (lo1 i) fun a b ha hb=>LX R ha hb]at mg2;have f1:fp m (0,N) (0,k)=some m1:=c1;have f2:fp m (0,N) (k,C)=some m2:=c2;have f3:fx m=some q0:=k0;have f4:fx m1=some q1:=k1;have f5:fx m2=some q2:=k2;have sm:=fun F=>ZT F hN;have em1:m.1=N:=hM.e1;have em2:m.2.1=C:=hM.e2;clear hM hM1 hM2 i0 i1 i2 c1 c2 k0 k1 k2 hsum;obtain⟨m1a,m1b,m1c,m1d,m1e⟩:=m;obtain⟨_,_,_,_,_⟩:=m1;obtain⟨_,_,_,_,_⟩:=m2;obtain⟨_,_,_,_,_,_⟩:=q0;obtain⟨_,_,_,_,_,_⟩:=q1;obtain⟨_,_,_,_,_,_⟩:=q2;simp only at em1 em2;subst em1 em2;unfold jg;rw [show(⟨false,0,[]⟩:Sl Int)=nI from rfl];simp only [e0,e1,e2,ek,f1,f2,f3,f4,f5,p1,p2,s0,s1,s2,mg1,mg2,sm,acJ,zbS,if_true]
end Ev
end
end Go.Proofs.Ytjjbpdldbdmoeaa
