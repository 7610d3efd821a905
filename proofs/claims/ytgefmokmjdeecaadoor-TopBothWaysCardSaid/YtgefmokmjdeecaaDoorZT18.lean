/- Texts of a claim, joined. -/
import Derived.Test.YtgefmokmjdeecaaDoorZT17
import Derived.Test.YtgefmokmjdeecaaDoorZT5
import Derived.Test.YtgefmokmjdeecaaDoorZT11
import Derived.Test.YtgefmokmjdeecaaDoorZT12
import Derived.Test.YtgefmokmjdeecaaDoorZT13
import Derived.Test.YtgefmokmjdeecaaDoorZT14
import Derived.Test.YtgefmokmjdeecaaDoorZT15
import Derived.Test.YtgefmokmjdeecaaDoorZT10
import Derived.Test.YtgefmokmjdeecaaDoorZT16
set_option linter.unusedVariables false
set_option linter.unusedSimpArgs false
namespace Go.Proofs.YtgefmokmjdeecaaDoor
noncomputable section
namespace Ev
open Go
abbrev Wd:=Int×Int
abbrev Dn:=Int×Sl Int×Sl Int
def iU(r:Int)(h:Int→Option Int)(acc:Option Wd)(x:Int×Int):Option Wd:=
 match h x.1 with
 |none=>acc
 |some y=>some (match acc with|none=>pN r x.2 y|some a=>gT r a (pN r x.2 y))
def dX(r:Int)(h:Int→Option Int):List (Int×Int)→Option Wd→Option Wd
 | [],acc=>acc
 |x::l,acc=>dX r h l (iU r h acc x)
def uL:Option Wd→Bool
 |none=>false
 |some _=>true
def tj:Option Wd→Wd
 |none=>(0,0)
 |some w=>w
theorem Rh{R:Type}{b:Bool×Int×Int×Int→Option ((Bool×Int×Int×Int)⊕((Bool×Int×Int)⊕ R))}{r:Int}{h:Int→Option Int}{items:List (Int×Int)}{f:Int}
  (hs:∀j acc (hj:j<items.length),b (uL acc,f+(j:Int),tj acc)=some (.inl (uL (iU r h acc items[j]),f+((j+1:Nat):Int),tj (iU r h acc items[j]))))
  (he:∀acc,b (uL acc,f+(items.length:Int),tj acc)=some (.inr (.inl (uL acc,tj acc)))):aL b (false,f,0,0)=some (.inl (uL (dX r h items none),tj (dX r h items none))):=by
 obtain⟨q,q1,q2⟩:=bK (b:=b) items.length (fun j a=>∃acc,a=(uL acc,f+(j:Int),tj acc)∧dX r h (items.drop j) acc=dX r h items none) (fun q=>q= .inl (uL (dX r h items none),tj (dX r h items none)))
  (by
   rintro j _ hj ⟨acc,rfl,ha⟩;rw [List.drop_eq_getElem_cons hj]at ha
   exact .inl ⟨_,hs j acc hj,_,rfl,ha⟩)
  (by
   rintro _ ⟨acc,rfl,ha⟩;rw [List.drop_length]at ha;refine⟨_,he acc,?_⟩
   rw [←ha];rfl) 0 (Nat.zero_le _) (false,f,0,0) ⟨none,by simp [uL,tj],by simp⟩
 rw [q1,q2]
def dY(m:Mx)(i:Nat):List (Int×Int):=(eH m.2.2.2.1.l (m.2.2.1.l.getD i 0) (m.2.2.1.l.getD (i+1) 0)).zip (eH m.2.2.2.2.l (m.2.2.1.l.getD i 0) (m.2.2.1.l.getD (i+1) 0))
structure TS(m:Mx)(i:Nat)(f t:Int):Prop where
 f1:atS 1 m.2.2.1 (i:Int)=some f
 t1:atS 1 m.2.2.1 (IntKind.i64.wrap ((i:Int)+1))=some t
 len:((dY m i).length:Int)=t - f
 get:∀j (hj:j<(dY m i).length),atS 1 m.2.2.2.1 (f+(j:Int))=some (dY m i)[j].1∧atS 1 m.2.2.2.2 (f+(j:Int))=some (dY m i)[j].2∧0≤(dY m i)[j].1∧(dY m i)[j].1<m.2.1∧cK (dY m i)[j].2∧f+(j:Int)<t∧IntKind.i64.wrap (f+(j:Int)+1)=f+((j+1:Nat):Int)
theorem Oq{m:Mx}(h:OkM m)(hr:eX m=true){i:Nat}(hi:(i:Int)<m.1):∃f t,TS m i f t:=by
 obtain⟨r1,r2,r3,r4,r5,r6⟩:=lx hr;obtain⟨p1,p2,p3,p4⟩:=r6 i hi;have e1:=bu h.st (j:=i) (by omega);have e2:=bu h.st (j:=i+1) (by omega);rw [←iN]at e1 e2;have w1:IntKind.i64.wrap ((i:Int)+1)=((i+1:Nat):Int):=bL (n:=m.1.toNat) (by omega) (by omega);refine⟨m.2.2.1.l.getD i 0,m.2.2.1.l.getD (i+1) 0,e1,by rw [w1];exact e2,?_,fun j hj=> ?_⟩
 ·unfold dY;rw [List.length_zip,ke ⟨p1,p2,p3⟩,ke ⟨p1,p2,by omega⟩];omega
 ·have hlen:j<(m.2.2.1.l.getD (i+1) 0).toNat - (m.2.2.1.l.getD i 0).toNat:=by
   unfold dY at hj;rw [List.length_zip,ke ⟨p1,p2,p3⟩]at hj;omega
  have g1:=Hr (l:=m.2.2.2.1.l) ⟨p1,p2,p3⟩ hlen;have g2:=Hr (l:=m.2.2.2.2.l) (f:=m.2.2.1.l.getD i 0) (t:=m.2.2.1.l.getD (i+1) 0) ⟨p1,p2,by omega⟩ hlen;have hc:=ascI_iff.1 p4 j (by rw [ke ⟨p1,p2,p3⟩];exact hlen)
  have hz:(dY m i)[j]=(m.2.2.2.1.l[(m.2.2.1.l.getD i 0).toNat+j]'(by omega),m.2.2.2.2.l[(m.2.2.1.l.getD i 0).toNat+j]'(by omega)):=by
   simp only [dY,List.getElem_zip,g1,g2]
  rw [hz];simp only;rw [g1]at hc;have a1:=bu h.co (j:=(m.2.2.1.l.getD i 0).toNat+j) (by omega);have a2:=bu h.va (j:=(m.2.2.1.l.getD i 0).toNat+j) (by omega);rw [show(((m.2.2.1.l.getD i 0).toNat+j:Nat):Int)=m.2.2.1.l.getD i 0+(j:Int)by omega]at a1 a2;refine⟨a1,a2,hc.1,hc.2.1,?_,by omega,?_⟩
  ·exact h.v64 _ (List.getElem_mem _)
  ·rw [bW (by omega) (by omega)];omega
theorem Ot{d:Dn}(h:OkD d){k y:Int}(hk:md d k=some y):cK y:=by
 unfold md at hk;split at hk
 ·simp only [zsI]at hk;rw [←hk,List.getD_eq_getElem?_getD]
  cases hg:d.2.2.l[k.toNat]? with
  |none=>simp [cK]
  |some x=>exact h.v64 x (List.mem_of_getElem? hg)
 ·simp at hk
theorem Hs{r:Int}{m:Mx}{d:Dn}(hd:OkD d)(hrd:mQ d=true)(hc:d.1=m.2.1){i:Nat}{f t:Int}(R:TS m i f t){b:Bool×Int×Int×Int→Option ((Bool×Int×Int×Int)⊕((Bool×Int×Int)⊕ Empty))}
  (hb:b=fC r d.2.1 d.2.2 m.2.2.1 m.2.2.2.1 m.2.2.2.2 (i:Int)∨b=fD r d.2.1 d.2.2 m.2.2.1 m.2.2.2.1 m.2.2.2.2 (i:Int)):aL b (false,f,0,0)=some (.inl (uL (dX r (md d) (dY m i) none),tj (dX r (md d) (dY m i) none))):=by
 obtain⟨r1,r2,r3,r4,r5⟩:=Hq hrd;refine Rh (fun j acc hj=> ?_) fun acc=> ?_
 ·obtain⟨g1,g2,g3,g4,g5,g6,g7⟩:=R.get j hj;generalize (dY m i)[j]=x at*;have hh:=kf d.2.1 x.1.toNat hd.has hd.bits (by omega);rw [show((x.1.toNat:Nat):Int)=x.1 by omega]at hh;have hv:=bu (s:=d.2.2) hd.vals (j:=x.1.toNat) (by omega);rw [←iN,show((x.1.toNat:Nat):Int)=x.1 by omega]at hv;have key:∀y,md d x.1=some y→lf r x.2 y=some (pN r x.2 y):=fun y hy=>xn r g5 (Ot hd hy)
  have hden:md d x.1=if gr d.2.1.l x.1.toNat=true then some (d.2.2.l.getD x.1.toNat 0)else none:=by
   unfold md;by_cases hx:gr d.2.1.l x.1.toNat=true
   ·rw [if_pos ⟨g3,hx⟩,if_pos hx]
   ·rw [if_neg (fun e=>hx e.2),if_neg hx]
  have go:b (uL acc,f+(j:Int),tj acc)=some (.inl (uL (iU r (md d) acc x),f+((j+1:Nat):Int),tj (iU r (md d) acc x))):=by
   unfold iU;rcases hb with rfl|rfl
   ·cases hx:gr d.2.1.l x.1.toNat with
    |false=>
     rw [hx]at hden hh;rw [show md d x.1=none by rw [hden];simp];simp only [fC,R.t1,g1,g7,hh,zbS,if_pos g6];rfl
    |true=>
     rw [hx]at hden hh;rw [if_pos rfl]at hden;have hk:=key _ hden;rw [hden];simp only [fC,R.t1,g1,g2,g7,hh,hv,zbS,if_pos g6,hk]
     cases acc with
     |none=>rfl
     |some w=>simp only [uL,tj,if_true,qT,zbS]
   ·cases hx:gr d.2.1.l x.1.toNat with
    |false=>
     rw [hx]at hden hh;rw [show md d x.1=none by rw [hden];simp];simp only [fD,R.t1,g1,g7,hh,zbS,if_pos g6];rfl
    |true=>
     rw [hx]at hden hh;rw [if_pos rfl]at hden;have hk:=key _ hden;rw [hden];simp only [fD,R.t1,g1,g2,g7,hh,hv,zbS,if_pos g6,hk]
     cases acc with
     |none=>rfl
     |some w=>simp only [uL,tj,if_true,qT,zbS]
  exact go
 ·have hn:¬f+((dY m i).length:Int)<t:=by rw [R.len];omega
  rcases hb with rfl|rfl
  ·simp only [fC,R.t1,zbS,if_neg hn]
  ·simp only [fD,R.t1,zbS,if_neg hn]
def Jy(r:Int)(h:Int→Option Int)(m:Mx)(ask:Nat→Bool)(i:Nat):Option (Int×Wd):=if ask i=true then(dX r h (dY m i) none).map fun w=>((i:Int),w)else none
def nL(r:Int)(h:Int→Option Int)(m:Mx)(ask:Nat→Bool)(n:Nat):List (Int×Wd):=(List.range n).filterMap (Jy r h m ask)
theorem zF(r:Int)(h:Int→Option Int)(m:Mx)(ask:Nat→Bool)(n:Nat):nL r h m ask (n+1)=nL r h m ask n++(Jy r h m ask n).toList:=by
 unfold nL;rw [List.range_succ,List.filterMap_append];congr 1
 all_goals (cases hs:Jy r h m ask n<;>simp [hs])
theorem Cr(r:Int)(h:Int→Option Int)(m:Mx)(ask:Nat→Bool)(n:Nat):(nL r h m ask n).length≤n:=by
 unfold nL
 have:=List.length_filterMap_le (Jy r h m ask) (List.range n)
 simpa using this
def oU(d:Dn):Dn:=if mQ d=true then d else(0,eW,eW)
theorem Ht(d:Dn):mQ (oU d)=true:=by unfold oU;split;assumption;rfl
theorem Ou{d:Dn}(h:OkD d):OkD (oU d):=by
 unfold oU;split
 ·exact h
 ·exact⟨ik,fun x hx=>by simp [eW]at hx,ik,fun x hx=>by simp [eW]at hx,by simp [eW],by simp [eW]⟩
def pO(ws:List Int)(o:Bool)(i:Nat):Bool:=gr ws i !=o
def qt(r:Int)(m:Mx)(d:Dn)(ws:List Int)(o:Bool):Sl (Int×Wd)×Int:=
 if okR r=true then(if(oU d).1=(kg m).2.1 then(mo 3 (nL r (md (oU d)) (kg m) (pO ws o) (kg m).1.toNat),0)else(eW,4))else(eW,8)
theorem Ln{l:List (Int×Wd)}(hl:l.length≤5000)(x:Int×Wd):app l [x]=some (l++ [x]):=gA (by simp;unfold cd;omega)
theorem MA{r:Int}{m:Mx}{d:Dn}(hm:OkM m)(hrm:eX m=true)(hd:OkD d)(hrd:mQ d=true)(hc:d.1=m.2.1){s:Sl Int}(hs:okS 1 s)(hu:oT s.l)(o:Bool):
  aL (gq r d.2.1 d.2.2 s m.1 m.2.2.1 m.2.2.2.1 m.2.2.2.2) (0,o,[])=some (.inl (nL r (md d) m (pO s.l o) m.1.toNat)):=by
 obtain⟨r1,r2,r3,r4,r5,r6⟩:=lx hrm
 obtain⟨q,q1,q2⟩:=bK (b:=gq r d.2.1 d.2.2 s m.1 m.2.2.1 m.2.2.2.1 m.2.2.2.2) m.1.toNat (fun j a=>a=((j:Int),o,nL r (md d) m (pO s.l o) j)) (fun q=>q= .inl (nL r (md d) m (pO s.l o) m.1.toNat))
  (by
   rintro j _ hj rfl;have hjm:(j:Int)<m.1:=by omega
   obtain⟨f,t,R⟩:=Oq hm hrm hjm;have hh:=kf s j hs hu (by omega);have h5:=Hs (r:=r) hd hrd hc R (.inl rfl);have h6:=Hs (r:=r) hd hrd hc R (.inr rfl);have hlen:=Cr r (md d) m (pO s.l o) j;have hap:=fun x=>Ln (l:=nL r (md d) m (pO s.l o) j) (by omega) x;simp only [gq,hh,R.f1,h5,h6,zbS,Sum.elim_inl,bL hj (by omega),if_pos hjm,hap];rw [zF];refine .inl ?_
   have hI:Jy r (md d) m (pO s.l o) j=if(gr s.l j !=o)=true then(dX r (md d) (dY m j) none).map (fun w=>((j:Int),w))else none:=rfl
   rw [hI]
   cases hb:gr s.l j<;>cases o<;>cases hx:dX r (md d) (dY m j) none<;>exact⟨_,rfl,by simp [tj]⟩)
  (by
   rintro _ rfl
   refine⟨_,if_neg (by omega),rfl⟩) 0 (Nat.zero_le _) (0,o,[]) rfl
 rw [q1,q2]
theorem zG{m:Mx}(hrm:eX m=true)(h0:m.2.1=0){i:Nat}(hi:(i:Int)<m.1):dY m i= []:=by
 obtain⟨r1,r2,r3,r4,r5,r6⟩:=lx hrm;obtain⟨p1,p2,p3,p4⟩:=r6 i hi;unfold dY
 cases hl:eH m.2.2.2.1.l (m.2.2.1.l.getD i 0) (m.2.2.1.l.getD (i+1) 0)with
 |nil=>rfl
 |cons x l=>
  exfalso
  have:=ascI_iff.1 p4 0 (by rw [hl];simp)
  omega
theorem MB{r:Int}{m:Mx}{h:Int→Option Int}(hrm:eX m=true)(h0:m.2.1=0)(ask:Nat→Bool):nL r h m ask m.1.toNat= []:=by
 unfold nL;rw [List.filterMap_eq_nil_iff];intro i hi;rw [List.mem_range]at hi;unfold Jy;rw [zG hrm h0 (by omega)];simp [dX]
theorem Jz{r:Int}{m:Mx}(hm:OkM m)(hrm:eX m=true)(h0:m.2.1=0){s:Sl Int}(hs:okS 1 s)(hu:oT s.l)(o:Bool):aL (gp s m.1 m.2.2.1 m.2.2.2.1 m.2.2.2.2) (0,o)=some (.inl ()):=by
 obtain⟨r1,r2,r3,r4,r5,r6⟩:=lx hrm
 obtain⟨q,q1,q2⟩:=bK (b:=gp s m.1 m.2.2.1 m.2.2.2.1 m.2.2.2.2) m.1.toNat (fun j a=>a=((j:Int),o)) (fun q=>q= .inl ())
  (by
   rintro j _ hj rfl;have hjm:(j:Int)<m.1:=by omega
   obtain⟨f,t,R⟩:=Oq hm hrm hjm;have hh:=kf s j hs hu (by omega);have hl:=R.len;rw [zG hrm h0 hjm]at hl;simp only [List.length_nil]at hl;have h2:aL (iH m.2.2.1 m.2.2.2.1 m.2.2.2.2 (j:Int)) f=some (.inl ()):=iq (by simp only [iH,R.t1,zbS];rw [if_neg (by omega)]);have h3:aL (iJ m.2.2.1 m.2.2.2.1 m.2.2.2.2 (j:Int)) f=some (.inl ()):=iq (by simp only [iJ,R.t1,zbS];rw [if_neg (by omega)]);simp only [gp,hh,R.f1,h2,h3,zbS,Sum.elim_inl,bL hj (by omega),if_pos hjm];refine .inl ?_
   cases hb:gr s.l j<;>cases o<;>exact⟨_,rfl,rfl⟩)
  (by
   rintro _ rfl
   refine⟨_,if_neg (by omega),rfl⟩) 0 (Nat.zero_le _) (0,o) rfl
 rw [q1,q2]
theorem Fe{r:Int}{m:Mx}{d:Dn}(hm:OkM m)(hd:OkD d){s:Sl Int}(hs:okS 1 s)(hu:oT s.l)(o:Bool):oD r m d s o=some (qt r m d s.l o):=by
 have e1:=uK hm;have e2:=zE hd;have hm':=Oo hm;have hrm:=xo m;have hd':=Ou hd;have hrd:=Ht d;obtain⟨m1,m2,m3,m4,m5⟩:=m;obtain⟨d1,d2,d3⟩:=d;unfold oD qt;simp only [tc,zbS];by_cases c:okR r=true
 ·have c':(decide (1≤r)&& decide (r≤5))=true:=c;rw [if_pos c',if_pos c,e1];simp only [zbS,e2];generalize kg (m1,m2,m3,m4,m5)=u at hm' hrm ⊢
  cases hr:mQ (d1,d2,d3)with
  |true=>
   rw [show oU (d1,d2,d3)=(d1,d2,d3)by unfold oU;rw [if_pos hr]]at hd' hrd ⊢;simp only [if_true];by_cases hn:d1=u.2.1
   ·rw [if_neg (fun h=>h hn),if_pos hn]
    have:=MA (r:=r) hm' hrm hd' hrd hn hs hu o
    simp only at this;rw [this];rfl
   ·rw [if_pos hn,if_neg hn];rfl
  |false=>
   rw [show oU (d1,d2,d3)=(0,eW,eW)by unfold oU;rw [if_neg (by rw [hr];simp)]]at hd' hrd ⊢;simp only [Bool.false_eq_true,if_false];by_cases hn:(0:Int)=u.2.1
   ·rw [if_neg (fun h=>h hn),if_pos hn]
    have:=Jz (r:=r) hm' hrm hn.symm hs hu o
    rw [this,MB hrm hn.symm];rfl
   ·rw [if_pos hn,if_neg hn];rfl
 ·have c':¬(decide (1≤r)&& decide (r≤5))=true:=c;rw [if_neg c',if_neg c];rfl
theorem zH(r:Int)(m:Mx)(d:Dn)(ws:List Int)(o:Bool):okS 3 (qt r m d ws o).1∧(qt r m d ws o).1.l.length≤4096:=by
 have hn:=(lx (xo m)).1;unfold qt;split
 ·split
  ·refine⟨lu _,?_⟩
   have:=Cr r (md (oU d)) (kg m) (pO ws o) (kg m).1.toNat
   simp only [gS];omega
  ·exact⟨ik,by simp [eW]⟩
 ·exact⟨ik,by simp [eW]⟩
end Ev
end
noncomputable section
namespace Ev
open Go
def dL(n:Nat)(f:Nat→Int):List Int:=(List.range (n+1)).map f
theorem dD(n:Nat)(f:Nat→Int):(dL n f).length=n+1:=by unfold dL;simp
theorem de{n k:Nat}(f:Nat→Int)(h:k≤n):(dL n f)[k]? =some (f k):=by
 unfold dL;rw [List.getElem?_map,List.getElem?_range (by omega)];rfl
theorem gb{n k:Nat}(f:Nat→Int)(h:k≤n):(dL n f).getD k 0=f k:=by rw [List.getD_eq_getElem?_getD,de f h];rfl
theorem dM{n:Nat}{f g:Nat→Int}(h:∀k,k≤n→f k=g k):dL n f=dL n g:=by
 unfold dL;refine List.map_congr_left fun k hk=>h k ?_;simp at hk;omega
theorem qO{n k:Nat}(f:Nat→Int)(v:Int)(h:k≤n):(dL n f).set k v=dL n fun i=>if i=k then v else f i:=by
 refine List.ext_getElem? fun i=> ?_;rw [List.getElem?_set];by_cases hi:i≤n
 ·rw [de _ hi];by_cases e:k=i
  ·subst e;rw [if_pos rfl,if_pos (by rw [dD];omega),de _ hi,if_pos rfl]
  ·rw [if_neg e,de _ hi,if_neg (Ne.symm e)]
 ·rw [if_neg (by omega)];rw [List.getElem?_eq_none (by rw [dD];omega),List.getElem?_eq_none (by rw [dD];omega)]
theorem rD(n:Nat):List.replicate (n+1) (0:Int)=dL n fun _=>0:=by
 refine List.ext_getElem? fun i=> ?_;by_cases hi:i≤n
 ·rw [de _ hi,List.getElem?_replicate,if_pos (by omega)]
 ·rw [List.getElem?_eq_none (by simp;omega),List.getElem?_eq_none (by rw [dD];omega)]
def aO(l:List E3)(k:Nat):Nat:=l.countP fun x=>decide (x.1<(k:Int))
theorem kV(l:List E3)(k:Nat):aO l k≤l.length:=List.countP_le_length
theorem GS(l:List E3)(x:E3)(k:Nat):aO (l++ [x]) k=aO l k+if x.1<(k:Int)then 1 else 0:=by
 unfold aO;rw [List.countP_append];congr 1;by_cases h:x.1<(k:Int)<;>simp [h]
def nk(n c:Int)(l:List E3):Mx:=(n,c,⟨true,1,dL n.toNat fun k=>((aO l k:Nat):Int)⟩,mo 1 (l.map (·.2.1)),mo 1 (l.map (·.2.2)))
theorem oH{l:List E3}(h:l.Pairwise fun a b=>a.1≤b.1)(k:Int):(l.filter fun x=>decide (x.1<k))++(l.filter fun x=> !decide (x.1<k))=l:=by
 induction l with
 |nil=>rfl
 |cons x l ih=>
  rw [List.pairwise_cons]at h;have ih:=ih h.2;by_cases c:x.1<k
  ·rw [List.filter_cons_of_pos (by simp [c]),List.filter_cons_of_neg (by simp [c]),List.cons_append,ih]
  ·have e1:(l.filter fun x=>decide (x.1<k))= []:=by
    rw [List.filter_eq_nil_iff];intro y hy
    have:=h.1 y hy
    simp;omega
   rw [e1,List.nil_append]at ih;rw [List.filter_cons_of_neg (by simp [c]),List.filter_cons_of_pos (by simp [c]),e1,List.nil_append,ih]
theorem pH{l:List E3}(h:l.Pairwise fun a b=>a.1≤b.1)(k:Nat):l.take (aO l k)=(l.filter fun x=>decide (x.1<(k:Int)))∧l.drop (aO l k)=l.filter fun x=> !decide (x.1<(k:Int)):=by
 have e:=oH h (k:Int);have hl:aO l k=(l.filter fun x=>decide (x.1<(k:Int))).length:=by unfold aO;rw [List.countP_eq_length_filter]
 have key:∀A B:List E3,A++B=l→l.take A.length=A∧l.drop A.length=B:=by
  rintro A B rfl;exact⟨List.take_left,List.drop_left⟩
 rw [hl];exact key _ _ e
def qC(l:List E3)(i:Nat):List E3:=(l.filter fun x=> !decide (x.1<(i:Int))).filter fun x=>decide (x.1<((i+1:Nat):Int))
theorem rowE_mem{l:List E3}{i:Nat}{x:E3}:x∈qC l i↔x∈l∧x.1=(i:Int):=by
 unfold qC;simp only [List.mem_filter,Bool.not_eq_true',decide_eq_false_iff_not,decide_eq_true_eq];constructor
 ·rintro⟨⟨h1,h2⟩,h3⟩;exact⟨h1,by omega⟩
 ·rintro⟨h1,h2⟩;exact⟨⟨h1,by omega⟩,by omega⟩
theorem oI{l:List E3}(h:dm l):l.Pairwise fun a b=>a.1≤b.1:=h.imp fun hb=>by rw [bel_iff]at hb;omega
theorem mc{l:List E3}(h:dm l)(i:Nat):aO l i≤aO l (i+1)∧(l.drop (aO l i)).take (aO l (i+1) - aO l i)=qC l i:=by
 have hle:=oI h;have e1:=(pH hle i).2
 have hmono:aO l i≤aO l (i+1):=by
  unfold aO;refine List.countP_mono_left fun x _ hx=> ?_;simp only [decide_eq_true_eq]at hx ⊢;omega
 refine⟨hmono,?_⟩;rw [e1];have hg:(l.filter fun x=> !decide (x.1<(i:Int))).Pairwise fun a b=>a.1≤b.1:=hle.sublist List.filter_sublist;have e2:=(pH hg (i+1)).1
 have hc:aO (l.filter fun x=> !decide (x.1<(i:Int))) (i+1)=aO l (i+1) - aO l i:=by
  have h1:aO l (i+1)=aO (l.filter fun x=>decide (x.1<(i:Int))) (i+1)+aO (l.filter fun x=> !decide (x.1<(i:Int))) (i+1):=by
   conv=>lhs;rw [←oH hle (i:Int)]
   unfold aO;rw [List.countP_append]
  have h2:aO (l.filter fun x=>decide (x.1<(i:Int))) (i+1)=aO l i:=by
   unfold aO;rw [List.countP_filter];refine List.countP_congr fun x _=> ?_;simp only [Bool.and_eq_true,decide_eq_true_eq];omega
  omega
 rw [←hc,e2];rfl
theorem sX{l:List E3}(h:dm l)(i:Nat):((qC l i).map (·.2.1)).Pairwise (·<·):=by
 rw [List.pairwise_map];have hs:dm (qC l i):=h.sublist (List.filter_sublist.trans List.filter_sublist);refine hs.imp_of_mem fun{a b} ha hb hab=> ?_;have h1:=(rowE_mem.1 ha).2;have h2:=(rowE_mem.1 hb).2;rw [bel_iff]at hab;omega
theorem oJ{α β:Type}(f:α→β)(l:List α)(a b:Int):eH (l.map f) a b=(eH l a b).map f:=by unfold eH;rw [←List.map_drop,←List.map_take]
theorem Ov{n c:Int}{l:List E3}(h:dm l){i:Nat}(hi:(i:Int)<n):dY (nk n c l) i=(qC l i).map fun x=>(x.2.1,x.2.2):=by
 unfold dY nk;simp only [gS];rw [gb _ (by omega),gb _ (by omega),oJ,oJ]
 have e:eH l ((aO l i:Nat):Int) ((aO l (i+1):Nat):Int)=qC l i:=by
  unfold eH;rw [Int.toNat_natCast,Int.toNat_natCast];exact(mc h i).2
 rw [e,List.zip_map']
theorem sY{n c:Int}(hn:0≤n∧n≤4096)(hc:0≤c∧c≤4096){l:List E3}(hl:l.length≤65536)(h:dm l)(hp:∀x∈l,(0≤x.1∧x.1<n)∧0≤x.2.1∧x.2.1<c):eX (nk n c l)=true:=by
 have h0:aO l 0=0:=by
  unfold aO;rw [List.countP_eq_zero];intro x hx
  have:=(hp x hx).1.1
  simp;omega
 have hN:aO l n.toNat=l.length:=by
  unfold aO;rw [List.countP_eq_length];intro x hx
  have:=(hp x hx).1.2
  simp;omega
 unfold eX nk;simp only [gS,Bool.and_eq_true,decide_eq_true_eq,sizeF_iff,List.length_map,dD];refine⟨hn,hc,by omega,?_,trivial,hl,?_,?_⟩
 ·rw [gb _ (Nat.zero_le _),h0];rfl
 ·rw [gb _ (Nat.le_refl _),hN]
 ·refine all_range.2 fun i hi=> ?_;unfold gG;rw [gb _ (by omega),gb _ (by omega)];obtain⟨r1,r2⟩:=mc h i;have hle:=kV l (i+1);simp only [Bool.and_eq_true,decide_eq_true_eq,List.length_map];refine⟨by omega,by omega,by omega,?_⟩
  have e:eH (l.map (·.2.1)) ((aO l i:Nat):Int) ((aO l (i+1):Nat):Int)=(qC l i).map (·.2.1):=by
   rw [oJ];unfold eH;rw [Int.toNat_natCast,Int.toNat_natCast,r2]
  rw [e]
  exact Lm (fun _=>0) (sX h i) fun p hp'=>by
   obtain⟨x,hx,rfl⟩:=List.mem_map.1 hp'
   have:=(hp x (rowE_mem.1 hx).1).2
   omega
def cH(n:Int):Int:=n.tmod 40
theorem nW{n:Int}(h:0≤n∧n≤255):dI n=some (cH n)∧0≤cH n∧cH n<40:=by
 unfold dI cH kJ;rw [bW (by omega) (by omega),if_pos (by decide),Int.tmod_eq_emod_of_nonneg (by omega)];exact⟨rfl,by omega,by omega⟩
end Ev
end
noncomputable section
namespace Ev
open Go
def pP(n:Int)(l:List (Int×Wd)):Bool:=l.all fun s=>decide (0≤s.1)&& decide (s.1<n)
def sx:List (Int×Wd)→Bool
 |a::b::l=>decide (a.1<b.1)&& sx (b::l)
 |_=>true
theorem ordOk_iff{l:List (Int×Wd)}:sx l=true↔∀j (h:j+1<l.length),l[j].1<l[j+1].1:=by
 induction l with
 |nil=>simp [sx]
 |cons a l ih=>
  cases l with
  |nil=>simp [sx]
  |cons b l=>
   simp only [sx,Bool.and_eq_true,decide_eq_true_eq,ih];constructor
   ·rintro⟨h1,h2⟩ j hj
    cases j with
    |zero=>exact h1
    |succ j=>exact h2 j (by simpa using hj)
   ·intro h;exact⟨h 0 (by simp),fun j hj=>h (j+1) (by simpa using hj)⟩
def uM(r:Int):List (Int×Wd)→List It→Option (List It)
 | [],o=>some o
 |x::l,o=>if(cN x.2).2=true then(if(cN x.2).1≠Hn r then uM r l (o++ [(x.1,(cN x.2).1)])else uM r l o)else none
theorem zI{r:Int}:∀{l:List (Int×Wd)} {o q:List It},uM r l o=some q→q.length≤o.length+l.length
 | [],o,q,h=>by simp only [uM,zsI]at h;subst h;simp
 |x::l,o,q,h=>by
  simp only [uM]at h;split at h
  ·split at h
   ·have:=zI h;simp only [List.length_append,List.length_cons,List.length_nil]at this ⊢;omega
   ·have:=zI h;simp only [List.length_cons];omega
  ·simp at h
def Cs(r n:Int)(l:List (Int×Wd)):(Int×Sl It)×Int:=
 if okR r=true then(if 0≤n∧n≤4096 then(if pP n l=true then(if sx l=true then(match uM r l []with|none=>((0,eW),12)|some o=>((n,mo 2 o),0))else((0,eW),6))else((0,eW),3))else((0,eW),3))else((0,eW),8)
theorem Ow(r n:Int)(l:List (Int×Wd)):okS 2 (Cs r n l).1.2∧(Cs r n l).1.2.l.length≤l.length:=by
 have hz:okS 2 (eW:Sl It)∧(eW:Sl It).l.length≤l.length:=⟨ik,by simp [eW]⟩;unfold Cs;split
 ·split
  ·split
   ·split
    ·cases hf:uM r l []with
     |none=>exact hz
     |some o=>exact⟨lu _,by have:=zI hf;simp only [gS];simpa using this⟩
    ·exact hz
   ·exact hz
  ·exact hz
 ·exact hz
theorem range_all{n:Int}{l:List (Int×Wd)}:pP n l=true↔∀j (h:j<l.length),0≤l[j].1∧l[j].1<n:=by
 unfold pP;rw [List.all_eq_true];constructor
 ·intro h j hj;simpa using h _ (List.getElem_mem hj)
 ·intro h x hx;obtain⟨j,hj,rfl⟩:=List.mem_iff_getElem.1 hx;simpa using h j hj
theorem MC{R:Type}{b:Int→Option (Int ⊕(Unit ⊕ R))}{n:Int}{s:Sl (Int×Wd)}{bad:R}(hl:s.l.length≤9223372036854775807)
  (h1:∀j (h:j<s.l.length),s.l[j].1<0→b (j:Int)=some (.inr (.inr bad))) (h2:∀j (h:j<s.l.length),0≤s.l[j].1→n≤s.l[j].1→b (j:Int)=some (.inr (.inr bad))) (h3:∀j (h:j<s.l.length),0≤s.l[j].1→s.l[j].1<n→b (j:Int)=some (.inl ((j+1:Nat):Int))) (h4:b (s.l.length:Int)=some (.inr (.inl ()))):
  aL b 0=some (if pP n s.l=true then .inl ()else .inr bad):=by
 obtain⟨q,q1,q2⟩:=bK (b:=b) s.l.length (fun j a=>a=(j:Int)∧∀i (h:i<s.l.length),i<j→0≤s.l[i].1∧s.l[i].1<n) (fun q=>q=if pP n s.l=true then .inl ()else .inr bad)
  (by
   rintro j _ hj ⟨rfl,ha⟩;by_cases c1:s.l[j].1<0
   ·refine .inr ⟨_,h1 j hj c1,?_⟩;rw [if_neg (fun e=>by have:=range_all.1 e j hj;omega)]
   by_cases c2:n≤s.l[j].1
   ·refine .inr ⟨_,h2 j hj (by omega) c2,?_⟩;rw [if_neg (fun e=>by have:=range_all.1 e j hj;omega)]
   ·refine .inl ⟨_,h3 j hj (by omega) (by omega),rfl,fun i hi hij=> ?_⟩;by_cases e:i=j
    ·subst e;exact⟨by omega,by omega⟩
    ·exact ha i hi (by omega))
  (by
   rintro _ ⟨rfl,ha⟩
   exact⟨_,h4,by rw [if_pos (range_all.2 fun j hj=>ha j hj hj)]⟩) 0 (Nat.zero_le _) 0 ⟨rfl,fun i h hi=>absurd hi (by omega)⟩
 rw [q1,q2]
theorem Ri{R:Type}{b:Int→Option (Int ⊕(Unit ⊕ R))}{s:Sl (Int×Wd)}{bad:R}
  (h1:∀j (h:j+1<s.l.length),s.l[j+1].1≤s.l[j].1→b ((j+1:Nat):Int)=some (.inr (.inr bad))) (h2:∀j (h:j+1<s.l.length),s.l[j].1<s.l[j+1].1→b ((j+1:Nat):Int)=some (.inl ((j+2:Nat):Int))) (h4:∀j:Nat,s.l.length≤j→b (j:Int)=some (.inr (.inl ()))):
  aL b 1=some (if sx s.l=true then .inl ()else .inr bad):=by
 obtain⟨q,q1,q2⟩:=bK (b:=b) (max s.l.length 1) (fun j a=>a=(j:Int)∧1≤j∧∀i (h:i+1<s.l.length),i+1<j→s.l[i].1<s.l[i+1].1) (fun q=>q=if sx s.l=true then .inl ()else .inr bad)
  (by
   rintro j _ hj ⟨rfl,h0,ha⟩;obtain⟨i,rfl⟩:∃i,j=i+1:=⟨j - 1,by omega⟩;have hi:i+1<s.l.length:=by omega
   by_cases c1:s.l[i+1].1≤s.l[i].1
   ·refine .inr ⟨_,h1 i hi c1,?_⟩;rw [if_neg (fun e=>by have:=ordOk_iff.1 e i hi;omega)]
   ·refine .inl ⟨_,h2 i hi (by omega),rfl,by omega,fun k hk hkj=> ?_⟩;by_cases e:k=i
    ·subst e;omega
    ·exact ha k hk (by omega))
  (by
   rintro _ ⟨rfl,h0,ha⟩
   exact⟨_,h4 _ (by omega),by rw [if_pos (ordOk_iff.2 fun j hj=>ha j hj (by omega))]⟩) 1 (by omega) 1 ⟨rfl,Nat.le_refl _,fun i h hi=>absurd hi (by omega)⟩
 rw [q1,q2]
theorem Rj{R:Type}{b:Int×List It→Option ((Int×List It)⊕(List It ⊕ R))}{r:Int}{s:Sl (Int×Wd)}{bad:R}(hl:s.l.length≤65536)
  (h1:∀j o (h:j<s.l.length),o.length≤65536→(cN s.l[j].2).2=false→b ((j:Int),o)=some (.inr (.inr bad))) (h2:∀j o (h:j<s.l.length),o.length≤65536→(cN s.l[j].2).2=true→b ((j:Int),o)=some (.inl (((j+1:Nat):Int),if(cN s.l[j].2).1≠Hn r then o++ [(s.l[j].1,(cN s.l[j].2).1)]else o))) (h4:∀o,b ((s.l.length:Int),o)=some (.inr (.inl o))):
  aL b (0,[])=some (match uM r s.l []with|some o=> .inl o|none=> .inr bad):=by
 obtain⟨q,q1,q2⟩:=bK (b:=b) s.l.length (fun j a=>∃o,a=((j:Int),o)∧o.length≤j∧uM r (s.l.drop j) o=uM r s.l []) (fun q=>q=match uM r s.l []with|some o=> .inl o|none=> .inr bad)
  (by
   rintro j _ hj ⟨o,rfl,g1,g2⟩;rw [List.drop_eq_getElem_cons hj]at g2;simp only [uM]at g2
   cases hn:(cN s.l[j].2).2 with
   |false=>
    rw [hn,if_neg (by simp)]at g2;refine .inr ⟨_,h1 j o hj (by omega) hn,?_⟩;rw [←g2]
   |true=>
    rw [hn,if_pos rfl]at g2;refine .inl ⟨_,h2 j o hj (by omega) hn,_,rfl,?_,?_⟩
    ·split
     ·simp;omega
     ·omega
    ·by_cases c:(cN s.l[j].2).1≠Hn r
     ·rw [if_pos c]at g2 ⊢;exact g2
     ·rw [if_neg c]at g2 ⊢;exact g2)
  (by
   rintro _ ⟨o,rfl,g1,g2⟩;rw [List.drop_length]at g2;refine⟨_,h4 o,?_⟩
   rw [←g2];rfl) 0 (Nat.zero_le _) (0,[]) ⟨[],rfl,Nat.le_refl _,by simp⟩
 rw [q1,q2]
theorem pQ{r n:Int}{s:Sl (Int×Wd)}(hs:okS 3 s)(hl:s.l.length≤65536):jH r n s=some (Cs r n s.l):=by
 unfold jH pE Cs;simp only [tc,zbS];by_cases c:okR r=true
 ·have c':(decide (1≤r)&& decide (r≤5))=true:=c;rw [if_pos c',if_pos c];by_cases n1:n<0
  ·rw [if_pos n1,if_neg (fun h=>by omega)];rfl
  by_cases n2:n>4096
  ·rw [if_neg n1,if_pos n2,if_neg (fun h=>by omega)];rfl
  rw [if_neg n1,if_neg n2,if_pos ⟨by omega,by omega⟩]
  have e1:aL (dT n s) 0=some (if pP n s.l=true then .inl ()else .inr 3):=MC (by omega)
   (fun j hj c1=>by simp only [dT,bu hs hj,zbS];rw [if_pos (by omega),if_pos c1])
   (fun j hj c1 c2=>by simp only [dT,bu hs hj,zbS];rw [if_pos (by omega),if_neg (by omega),if_pos c2])
   (fun j hj c1 c2=>by simp only [dT,bu hs hj,zbS,bL hj (by omega)];rw [if_pos (by omega),if_neg (by omega),if_neg (by omega)])
   (by simp only [dT];rw [if_neg (by omega)])
  have e2:aL (eB s) 1=some (if sx s.l=true then .inl ()else .inr 6):=Ri
   (fun j hj c1=>by
    have hw:IntKind.i64.wrap (((j+1:Nat):Int) - 1)=(j:Int):=by rw [bW (by omega) (by omega)];omega
    simp only [eB,hw,bu hs hj,bu hs (show j<s.l.length by omega),zbS]
    rw [if_pos (by omega),if_pos c1])
   (fun j hj c1=>by
    have hw:IntKind.i64.wrap (((j+1:Nat):Int) - 1)=(j:Int):=by rw [bW (by omega) (by omega)];omega
    have hw2:IntKind.i64.wrap (((j+1:Nat):Int)+1)=((j+2:Nat):Int):=by rw [bW (by omega) (by omega)];omega
    simp only [eB,hw,hw2,bu hs hj,bu hs (show j<s.l.length by omega),zbS]
    rw [if_pos (by omega),if_neg (by omega)])
   (fun j hj=>by simp only [eB];rw [if_neg (by omega)])
  rw [e1];simp only [zbS]
  cases h1:pP n s.l with
  |false=>rfl
  |true=>
   simp only [if_true,Sum.elim_inl,e2,zbS]
   cases h2:sx s.l with
   |false=>rfl
   |true=>
    simp only [if_true,Sum.elim_inl,zbS];rw [if_neg (by decide)]
    have e3:aL (fx r s) (0,[])=some (match uM r s.l []with|some o=> .inl o|none=> .inr ((0,eW),12)):=Rj (by omega)
     (fun j o hj ho hn=>by simp only [fx,bu hs hj,zbS,qU,hn];rw [if_pos (by omega)];rfl)
     (fun j o hj ho hn=>by
      have ap:∀z:It,app o [z]=some (o++ [z]):=fun z=>gA (by simp;unfold cd;omega);simp only [fx,bu hs hj,zbS,qU,hn,EX,ap,bL hj (by omega),if_true];rw [if_pos (by omega)]
      split<;>rfl)
     (fun o=>by simp only [fx];rw [if_neg (by omega)])
    rw [e3];cases uM r s.l []<;>rfl
 ·have c':¬(decide (1≤r)&& decide (r≤5))=true:=c;rw [if_neg c',if_neg c];rfl
def qW(r:Int)(m:Mx)(d:Dn)(ws:List Int)(o:Bool):(Int×Sl It)×Int:=
 if(qt r m d ws o).2≠0 then((0,eW),(qt r m d ws o).2)else Cs r (kg m).1 (qt r m d ws o).1.l
theorem BM{r:Int}{m:Mx}{d:Dn}(hm:OkM m)(hd:OkD d){s:Sl Int}(hs:okS 1 s)(hu:oT s.l)(o:Bool):mJ r m d s o=some (qW r m d s.l o):=by
 have e1:=Fe (r:=r) hm hd hs hu o;have e2:=uK hm;obtain⟨o1,o2⟩:=zH r m d s.l o;unfold qW;generalize qt r m d s.l o=u at e1 o1 o2 ⊢;have e3:=pQ (r:=r) (n:=(kg m).1) o1 (by omega);obtain⟨m1,m2,m3,m4,m5⟩:=m;obtain⟨d1,d2,d3⟩:=d;unfold mJ;simp only [e1,zbS];by_cases c:u.2≠0
 ·rw [if_pos c,if_pos c];rfl
 ·rw [if_neg c,if_neg c];simp only [e2,e3,zbS]
theorem MD(r:Int)(m:Mx)(d:Dn)(ws:List Int)(o:Bool):okS 2 (qW r m d ws o).1.2∧(qW r m d ws o).1.2.l.length≤4096:=by
 obtain⟨o1,o2⟩:=zH r m d ws o;unfold qW;split
 ·exact⟨ik,by simp [eW]⟩
 ·have:=Ow r (kg m).1 (qt r m d ws o).1.l
  exact⟨this.1,by omega⟩
end Ev
end
noncomputable section
namespace Ev
open Go
theorem Lo{p y:Int}:∀{l:List It},cY p l=some y→(p,y)∈l
 |x::l,h=>by
  unfold cY at h;split at h
  ·rename_i e;simp only [zsI]at h;rw [←e,←h];exact List.mem_cons_self
  ·exact List.mem_cons_of_mem _ (Lo h)
theorem sizeF_iff2{n:Int}:dk n=true↔0≤n∧n≤4096:=by unfold dk;simp
def oV(n:Nat)(f:Nat→Int):List Int:=(List.range n).map f
theorem oX(n:Nat)(f:Nat→Int):(oV n f).length=n:=by unfold oV;simp
theorem oY{n k:Nat}(f:Nat→Int)(h:k<n):(oV n f)[k]? =some (f k):=by
 unfold oV;rw [List.getElem?_map,List.getElem?_range h];rfl
theorem Ct{n k:Nat}(f:Nat→Int)(h:k<n):(oV n f).getD k 0=f k:=by rw [List.getD_eq_getElem?_getD,oY f h];rfl
theorem Ox{n k:Nat}(f:Nat→Int)(v:Int)(h:k<n):(oV n f).set k v=oV n fun i=>if i=k then v else f i:=by
 refine List.ext_getElem? fun i=> ?_;rw [List.getElem?_set];by_cases hi:i<n
 ·by_cases e:k=i
  ·subst e;rw [if_pos rfl,if_pos (by rw [oX];omega),oY _ hi,if_pos rfl]
  ·rw [if_neg e,oY _ hi,oY _ hi,if_neg (Ne.symm e)]
 ·rw [if_neg (by omega)];rw [List.getElem?_eq_none (by rw [oX];omega),List.getElem?_eq_none (by rw [oX];omega)]
theorem JA{n:Nat}{f g:Nat→Int}(h:∀k,k<n→f k=g k):oV n f=oV n g:=by
 unfold oV;refine List.map_congr_left fun k hk=>h k ?_;simpa using hk
theorem ME(n:Nat):List.replicate n (0:Int)=oV n fun _=>0:=by
 refine List.ext_getElem? fun i=> ?_;by_cases hi:i<n
 ·rw [oY _ hi,List.getElem?_replicate,if_pos hi]
 ·rw [List.getElem?_eq_none (by simp;omega),List.getElem?_eq_none (by rw [oX];omega)]
theorem Oy{n:Nat}{f:Nat→Int}{x:Int}(h:x∈oV n f):∃k,k<n∧f k=x:=by
 unfold oV at h;obtain⟨k,hk,rfl⟩:=List.mem_map.1 h;exact⟨k,by simpa using hk,rfl⟩
theorem mem_places{p:Int}{l:List It}:p∈l.map (·.1)↔∃y,cY p l=some y:=by
 induction l with
 |nil=>simp [cY]
 |cons x l ih=>
  simp only [List.map_cons,List.mem_cons,cY];by_cases h:x.1=p
  ·rw [if_pos h];exact⟨fun _=>⟨_,rfl⟩,fun _=> .inl h.symm⟩
  ·rw [if_neg h,←ih];exact⟨fun h1=>h1.resolve_left (Ne.symm h),.inr⟩
end Ev
end
noncomputable section
namespace Ev
open Go
abbrev Tk:=Int×(Int×Int)×Sl E3×Sl It×Sl It×Sl Int×Bool
structure OkT(t:Tk):Prop where
 n1:0≤t.2.1.1∧t.2.1.1≤255
 n2:0≤t.2.1.2∧t.2.1.2≤255
 l:okS 3 t.2.2.1
 ll:t.2.2.1.l.length≤9223372036854775807
 x:okS 2 t.2.2.2.1
 xl:t.2.2.2.1.l.length≤9223372036854775807
 xv:∀q∈t.2.2.2.1.l,cK q.2
 y:okS 2 t.2.2.2.2.1
 yl:t.2.2.2.2.1.l.length≤9223372036854775807
 yv:∀q∈t.2.2.2.2.1.l,cK q.2
 f:okS 1 t.2.2.2.2.2.1
 fu:oT t.2.2.2.2.2.1.l
def eY(r:Int):Int:=if r<1 then 1 else if r>5 then 1 else r
theorem MF(r:Int):okR (eY r)=true:=by
 unfold eY okR;split
 ·decide
 ·split
  ·decide
  ·rw [decide_eq_true (by omega),decide_eq_true (by omega)];rfl
theorem mR(r:Int):ia r=some (eY r):=by
 unfold ia eY;split
 ·rfl
 ·split<;>rfl
theorem Hu(a b:Int):cK (fO .i64 a b):=by unfold fO;exact uz _
def xX(r n:Int):Int:=if r=5 then n else if r=2 then fO .i64 n 1 else if(fO .i64 n 4611686018427387903).tmod 5=0 then 4611686018427387904 else fO .i64 n 4611686018427387903
theorem qX(r n:Int):jD r n=some (xX r n):=by
 unfold jD xX kJ;split
 ·rfl
 ·split
  ·rfl
  ·rw [if_pos (by decide)];simp only [zbS];split<;>rfl
theorem Hv{r n:Int}(h:cK n):cK (xX r n):=by
 unfold xX;split
 ·exact h
 ·split
  ·exact Hu _ _
  ·split
   ·unfold cK;omega
   ·exact Hu _ _
def zJ(r n:Int):Int:=if r=5 then n.tmod 2147483648 else xX r n
theorem xY(r n:Int):jX r n=some (zJ r n):=by
 unfold jX zJ kJ;split
 ·rw [if_pos (by decide)];rfl
 ·rw [qX];rfl
theorem Oz{r n:Int}(h:cK n):cK (zJ r n):=by
 unfold zJ;split
 ·have h1:=Int.tmod_lt_of_pos n (show(0:Int)<2147483648 by decide);have h2:=Int.lt_tmod_of_pos n (show(0:Int)<2147483648 by decide);unfold cK;omega
 ·exact Hv h
def zK(f:Int→Int)(l:List E3):List E3:=l.map fun x=>(x.1,x.2.1,f x.2.2)
theorem OA(f:Int→Int)(l:List E3):(zK f l).length=l.length:=by unfold zK;simp
theorem JB{f:Int→Int}{l:List E3}(h:dm l):dm (zK f l):=by
 unfold zK dm;rw [List.pairwise_map];refine h.imp fun hb=> ?_;rw [bel_iff]at hb ⊢;exact hb
theorem Hw{n:Int}{f:Int→Int}:∀{l:List It} {a:Int},asc a n l=true→asc a n (l.map fun x=>(x.1,f x.2))=true
 | [],_,_=>rfl
 |x::l,a,h=>by
  simp only [List.map_cons,asc,Bool.and_eq_true,decide_eq_true_eq]at h ⊢;exact⟨h.1,Hw h.2⟩
theorem OB(t:Tk)(h:OkT t)(s:Sl It)(hs:okS 2 s)(hl:s.l.length≤9223372036854775807)(hv:∀q∈s.l,cK q.2):∃u:Sl It,fk t s=some (cH t.2.1.2,u)∧nK (cH t.2.1.2,u)∧∃w:List It,nK (cH t.2.1.2,mo 2 w)∧u=mo 2 (w.map fun x=>(x.1,xX (eY t.1) x.2)):=by
 obtain⟨r,⟨n1,n2⟩,s4,x,y,f,o⟩:=t;have h2:=h.n2;simp only at h2 ⊢;obtain⟨z1,z2,z3⟩:=nW h2
 have hw8:IntKind.u8.wrap (cH n2)=cH n2:=by
  have:IntKind.u8.wrap (cH n2)=cH n2 % 256:=by simp [IntKind.wrap,IntKind.signed,IntKind.bits]
  rw [this];omega
 obtain⟨⟨k,t⟩,e1,g1,g2⟩:=BJ (cH n2) s ⟨by omega,by omega⟩ hs hl hv
 have hk:k=cH n2:=by
  simp only at g2;rw [g2,Int.tmod_eq_emod_of_nonneg (by omega)];omega
 subst hk;have hz:=zA g1.1;have hlen:=kE g1.1;simp only at hlen;refine⟨mo 2 (t.l.map fun x=>(x.1,xX (eY r) x.2)),?_,?_,t.l,?_,rfl⟩
 ·unfold fk;simp only [z1,hw8,e1,zbS];have hok:okS 2 t:=g1.2.1
  obtain⟨q,q1,q2⟩:=bK (b:=cB r t) t.l.length (fun j st=>st=((t.l.take j).map (fun x=>(x.1,xX (eY r) x.2)),(j:Int))) (fun q=>q= .inl (t.l.map fun x=>(x.1,xX (eY r) x.2)))
   (by
    rintro j _ hj rfl;have ej:=bu hok hj;have ap:∀z:It,app ((t.l.take j).map (fun x=>(x.1,xX (eY r) x.2))) [z]=some ((t.l.take j).map (fun x=>(x.1,xX (eY r) x.2))++ [z]):=fun z=>gA (by simp;unfold cd;omega);simp only [cB,ej,zbS,mR,qX,ap,bL hj (by omega)];rw [if_pos (by omega)]
    exact .inl ⟨_,rfl,by rw [List.take_succ_eq_append_getElem hj,List.map_append];rfl⟩)
   (by
    rintro _ rfl;refine⟨.inl (t.l.map fun x=>(x.1,xX (eY r) x.2)),?_,rfl⟩;simp only [cB]
    rw [if_neg (by omega),List.take_length]) 0 (Nat.zero_le _) ([],0) rfl
  rw [q1,q2];rfl
 ·refine Fd hz.1 hz.2 (Hw (rE g1.1)) fun x hx=> ?_;obtain⟨y,hy,rfl⟩:=List.mem_map.1 hx;exact Hv (g1.2.2 y hy)
 ·exact Fd hz.1 hz.2 (rE g1.1) g1.2.2
theorem MG(t:Tk)(h:OkT t):∃s:Sl Int,gE t=some s∧okS 1 s∧oT s.l:=by
 obtain⟨r,⟨n1,n2⟩,s4,x,y,f,o⟩:=t;have h1:=h.f;have h2:=h.fu;simp only at h1 h2;unfold gE;simp only;by_cases c:((f.l.length:Nat):Int)>2
 ·rw [if_pos c]
  have hc:kq 1 f 0 2=some ⟨f.nn,f.sz,f.l.take 2⟩:=by
   unfold kq;rw [if_pos ⟨by omega,by omega,by omega,.inr rfl⟩];rfl
  rw [hc];refine⟨_,rfl,?_,fun w hw=>h2 w (List.mem_of_mem_take hw)⟩;rcases h1 with h|h
  ·left;simp [h]
  ·exact .inr h
 ·rw [if_neg c];exact⟨f,rfl,h1,h2⟩
theorem UU{t:Tk}(h:inK .i64 t.1∧(inK .u8 t.2.1.1∧inK .u8 t.2.1.2)∧SlW 3 (fun x:E3=>inK .i64 x.1∧inK .i64 x.2.1∧inK .i64 x.2.2) t.2.2.1∧SlW 2 (fun x:It=>inK .i64 x.1∧inK .i64 x.2) t.2.2.2.1∧SlW 2 (fun x:It=>inK .i64 x.1∧inK .i64 x.2) t.2.2.2.2.1∧SlW 1 (fun x=>inK .u64 x) t.2.2.2.2.2.1∧True):OkT t:=by
 obtain⟨_,⟨h1,h2⟩,h3,h4,h5,h6,_⟩:=h;exact⟨TQ h1,TQ h2,h3.ok,h3.2.2.1,h4.ok,h4.2.2.1,fun q hq=>uE (h4.2.2.2 q hq).2,h5.ok,h5.2.2.1,fun q hq=>uE (h5.2.2.2 q hq).2,h6.ok,Rc h6⟩
end Ev
end
noncomputable section
namespace Ev
open Go
end Ev
end
noncomputable section
namespace Ev
open Go
structure DV(d:Dn)(n:Nat)(f:Nat→Option Int):Prop where
 num:d.1=(n:Int)
 le:n≤4096
 has:okS 1 d.2.1
 bits:oT d.2.1.l
 len:d.2.1.l.length=(n+63)/ 64
 vals:okS 1 d.2.2
 vl:d.2.2.l=oV n fun p=>(f p).getD 0
 at_:∀p,gr d.2.1.l p=(f p).isSome
 none_:∀p,n≤p→f p=none
 v64:∀p x,f p=some x→cK x
theorem DV.ok{d:Dn}{n:Nat}{f:Nat→Option Int}(h:DV d n f):OkD d:=by
 refine⟨h.has,h.bits,h.vals,fun x hx=> ?_,?_,?_⟩
 ·rw [h.vl]at hx;obtain⟨k,hk,rfl⟩:=Oy hx
  cases e:f k with
  |none=>simp [cK]
  |some y=>exact h.v64 k y e
 ·have:=h.len;have:=h.le;omega
 ·have:=h.le;rw [h.vl,oX];omega
theorem DV.right{d:Dn}{n:Nat}{f:Nat→Option Int}(h:DV d n f):mQ d=true:=by
 unfold mQ tf;rw [h.num,h.vl,oX];have hl:=h.le;have hw:=h.len;simp only [Bool.and_eq_true,decide_eq_true_eq,List.all_eq_true];refine⟨⟨sizeF_iff2.2 ⟨by omega,by omega⟩,by omega,fun p hp=> ?_⟩,trivial,fun i hi=> ?_⟩
 ·obtain⟨p0,p1⟩:=places_mem.1 hp;rw [h.at_]at p1;by_cases hlt:p.toNat<n
  ·omega
  ·rw [h.none_ _ (by omega)]at p1;simp at p1
 ·have hi':i<n:=by simpa using hi
  rw [Ct _ hi',h.at_];cases f i<;>simp
theorem DV.den{d:Dn}{n:Nat}{f:Nat→Option Int}(h:DV d n f)(p:Int):md d p=if 0≤p then f p.toNat else none:=by
 unfold md;by_cases hp:0≤p
 ·rw [if_pos hp,h.at_]
  cases e:f p.toNat with
  |none=>simp
  |some y=>
   have hlt:p.toNat<n:=by
    by_cases hlt:p.toNat<n
    ·exact hlt
    ·rw [h.none_ _ (by omega)]at e;simp at e
   rw [if_pos ⟨hp,rfl⟩,h.vl,Ct _ hlt,e];rfl
 ·rw [if_neg (fun e=>hp e.1),if_neg hp]
theorem DV.congr{d:Dn}{n:Nat}{f g:Nat→Option Int}(h:DV d n f)(e:∀p,f p=g p):DV d n g:=by
 have:f=g:=funext e
 rw [←this];exact h
theorem OC{k:Int}{t:Sl It}(h:eJ (k,t)=true){p:Int}{y:Int}(hp:cY p t.l=some y):0≤p∧p<k:=by
 obtain⟨x,hx,hxp⟩:=List.mem_map.1 (mem_places.2 ⟨y,hp⟩);obtain⟨j,hj,rfl⟩:=List.mem_iff_getElem.1 hx
 have:=uF h hj
 omega
end Ev
end
noncomputable section
namespace Ev
open Go
theorem nilD_dv:DV ((0,eW,eW):Dn) 0 fun _=>none:=
 ⟨rfl,by omega,ik,fun x hx=>by simp [eW]at hx,rfl,ik,rfl,fun p=>rfl,fun p _=>rfl,fun p x h=>by simp at h⟩
theorem uN{n:Nat}(h:n≤4096):mv (n:Int)=some (List.replicate ((n+63)/ 64) 0):=by
 unfold mv;have e:(((n:Int)+63)/ 64).toNat=(n+63)/ 64:=by omega
 have hlo:gU (((n:Int)+63)/ 64)=some ():=by unfold gU cd;rw [if_pos ⟨by omega,by omega⟩]
 simp only [qV (n:=(n:Int)) ⟨by omega,by omega⟩,hlo,zbS,e]
theorem Ff(p:Nat):jG (p:Int)=some ((2 ^(p % 64):Nat):Int):=by
 unfold jG;simp only [Jw,zbS,Rd]
theorem OD{ws:List Int}{p:Nat}(hu:oT ws)(hp:p / 64<ws.length):∃w,atL ws ((p / 64:Nat):Int)=some w∧(ws.set (p / 64) (orI .u64 w ((2 ^(p % 64):Nat):Int))).length=ws.length∧oT (ws.set (p / 64) (orI .u64 w ((2 ^(p % 64):Nat):Int)))∧∀i,gr (ws.set (p / 64) (orI .u64 w ((2 ^(p % 64):Nat):Int))) i=(gr ws i||decide (i=p)):=by
 have hw:=hu _ (List.getElem_mem hp);have hat:=LG hp;obtain⟨w,hw2⟩:=Int.eq_ofNat_of_zero_le hw.1;rw [hw2]at hw hat;have hwlt:w<18446744073709551616:=by have:=hw.2;omega
 have hk:p % 64<64:=Nat.mod_lt _ (by decide);have hpow:=Jx hk;have hor:=UT hwlt hpow;have horl:w|||2 ^(p % 64)<2 ^ 64:=Nat.or_lt_two_pow (by omega) (by omega);refine⟨(w:Int),hat,by simp,fun x hx=> ?_,fun i=> ?_⟩
 ·rcases List.mem_or_eq_of_mem_set hx with hx|rfl
  ·exact hu x hx
  ·rw [hor];unfold eh;omega
 ·rw [hor];by_cases e:i / 64=p / 64
  ·rw [mz (ws:=ws.set _ _) e rfl (by rw [List.getElem?_set,if_pos rfl,if_pos hp]),mz e rfl (by rw [List.getElem?_eq_getElem hp,hw2])];simp only [Int.toNat_natCast];rw [Nat.testBit_or,Nat.testBit_two_pow];congr 1;by_cases e2:i=p
   ·subst e2;simp
   ·rw [decide_eq_false e2,decide_eq_false (by omega)]
  ·have hne:(ws.set (p / 64) ((w|||2 ^(p % 64):Nat):Int))[i / 64]? =ws[i / 64]? :=by rw [List.getElem?_set,if_neg (Ne.symm e)]
   have e2:i≠p:=fun h=>e (by rw [h]);rw [decide_eq_false e2,Bool.or_false];unfold gr;rw [hne]
theorem Hx{n:Nat}(hn:n≤4096){s:Sl Int}(hs:okS 1 s)(hl:s.l.length≤9223372036854775807):∃q,ig (n:Int) s=some q∧q.length=(n+63)/ 64∧oT q∧∀i,gr q i=(decide (i<n)&& decide ((i:Int)∈s.l)):=by
 unfold ig;rw [uN hn];simp only [zbS]
 obtain⟨q,q1,w,rfl,w1,w2,w3⟩:=bK (b:=ie (n:Int) s) s.l.length (fun j st=>∃w:List Int,st=(w,(j:Int))∧w.length=(n+63)/ 64∧oT w∧∀i,gr w i=(decide (i<n)&& decide ((i:Int)∈s.l.take j))) (fun q=>∃w:List Int,q= .inl w∧w.length=(n+63)/ 64∧oT w∧∀i,gr w i=(decide (i<n)&& decide ((i:Int)∈s.l)))
  (by
   rintro j _ hj ⟨w,rfl,g1,g2,g3⟩;have ej:=bu hs hj;have htk:s.l.take (j+1)=s.l.take j++ [s.l[j]]:=by rw [List.take_succ_eq_append_getElem hj]
   rw [htk];generalize s.l[j]=x at ej;simp only [ie,ej,zbS,bL hj hl];rw [if_pos (by omega)]
   have same:¬(0≤x∧x<(n:Int))→∀i,gr w i=(decide (i<n)&& decide ((i:Int)∈s.l.take j++ [x])):=fun h i=>by
    rw [g3 i];by_cases hi:i<n
    ·rw [decide_eq_true hi];simp only [Bool.true_and];congr 1;simp only [List.mem_append,List.mem_cons,List.not_mem_nil,or_false,eq_iff_iff];exact⟨.inl,fun h1=>h1.resolve_right fun e=>h (by omega)⟩
    ·rw [decide_eq_false hi];rfl
   by_cases c1:x ≥ 0
   ·rw [if_pos c1];by_cases c2:x<(n:Int)
    ·rw [if_pos c2,if_pos (by omega)];obtain⟨p,rfl⟩:=Int.eq_ofNat_of_zero_le c1;obtain⟨v,v1,v2,v3,v4⟩:=OD (p:=p) g2 (by omega);simp only [Jv (j:=p) (by omega),v1,Ff,zbS,Int.toNat_natCast];refine .inl ⟨_,rfl,_,rfl,by rw [v2];exact g1,v3,fun i=> ?_⟩;rw [v4 i,g3 i];by_cases hi:i<n
     ·rw [decide_eq_true hi];simp only [Bool.true_and,List.mem_append,List.mem_cons,List.not_mem_nil,or_false,Bool.decide_or];congr 1;by_cases e:i=p
      ·subst e;simp
      ·rw [decide_eq_false e,decide_eq_false (by omega)]
     ·rw [decide_eq_false hi,decide_eq_false (show¬i=p by omega)];rfl
    ·rw [if_neg c2];exact .inl ⟨_,rfl,w,rfl,g1,g2,same (by omega)⟩
   ·rw [if_neg c1]
    exact .inl ⟨_,rfl,w,rfl,g1,g2,same (by omega)⟩)
  (by
   rintro _ ⟨w,rfl,g1,g2,g3⟩;rw [List.take_length]at g3;refine⟨.inl w,?_,w,rfl,g1,g2,g3⟩;simp only [ie]
   rw [if_neg (by omega)]) 0 (Nat.zero_le _) (List.replicate ((n+63)/ 64) 0,0) ⟨_,rfl,by simp,fun x hx=>by rw [List.eq_of_mem_replicate hx];unfold eh;omega,fun i=>by rw [Om];simp⟩
 exact⟨w,by rw [q1];rfl,w1,w2,w3⟩
theorem BN(v:Int×Sl It)(hok:okS 2 v.2)(hl:v.2.l.length≤9223372036854775807):mH v=some (lW v):=by
 have e:=mP v hok hl;obtain⟨n,s⟩:=v;unfold mH lW;simp only [e,zbS];split<;>rfl
theorem qu{v:Int×Sl It}(hok:okS 2 v.2)(hl:v.2.l.length≤9223372036854775807):fy v=some ((lW v).2.l.map (·.1)):=by
 have e:=BN v hok hl;have k1:=Oh v;have k2:=Og hok;obtain⟨n,s⟩:=v;unfold fy;simp only [e,zbS];generalize lW (n,s)=u at k1 k2;obtain⟨m,t⟩:=u;simp only at k1 k2 ⊢
 obtain⟨q,q1,q2⟩:=bK (b:=fg t) t.l.length (fun j a=>a=((t.l.take j).map (·.1),(j:Int))) (fun q=>q= .inl (t.l.map (·.1)))
  (by
   rintro j _ hj rfl;have ej:=bu k2 hj;have ap:app ((t.l.take j).map (·.1)) [t.l[j].1]=some ((t.l.take j).map (·.1)++ [t.l[j].1]):=gA (by simp;unfold cd;omega);simp only [fg,ej,ap,zbS,bL hj (by omega)];rw [if_pos (by omega)]
   exact .inl ⟨_,rfl,by rw [List.take_succ_eq_append_getElem hj,List.map_append];rfl⟩)
  (by
   rintro _ rfl
   exact⟨_,if_neg (by omega),by rw [List.take_length]⟩) 0 (Nat.zero_le _) ([],0) rfl
 rw [q1,q2];rfl
theorem JC{k:Nat}{t:Sl It}(h:eJ ((k:Int),t)=true)(p:Nat):(decide (p<k)&& decide ((p:Int)∈t.l.map (·.1)))=(cY (p:Int) t.l).isSome:=by
 cases hg:cY (p:Int) t.l with
 |none=>
  rw [decide_eq_false (p:=(p:Int)∈t.l.map (·.1)) (fun hm=>by obtain⟨y,hy⟩:=mem_places.1 hm;rw [hg]at hy;simp at hy)];simp
 |some y=>
  have:=OC h hg
  rw [decide_eq_true (mem_places.2 ⟨y,hg⟩),decide_eq_true (show p<k by omega)];rfl
theorem Rk{n:Nat}{t:Sl It}(h:eJ ((n:Int),t)=true)(hok:okS 2 t):aL (fB t) (0,List.replicate n 0)=some (.inl (oV n fun p=>(cY (p:Int) t.l).getD 0)):=by
 have hlen:=kE h;simp only at hlen;rw [ME]
 obtain⟨q,q1,q2⟩:=bK (b:=fB t) t.l.length (fun j st=>st=((j:Int),oV n fun p=>(cY (p:Int) (t.l.take j)).getD 0)) (fun q=>q= .inl (oV n fun p=>(cY (p:Int) t.l).getD 0))
  (by
   rintro j _ hj rfl;have ej:=bu hok hj;have hx:=uF h hj;have htk:=Mz h hj;rw [List.take_succ_eq_append_getElem hj];generalize t.l[j]=x at ej hx htk;obtain⟨x1,x2⟩:=x;simp only at hx htk;obtain⟨p,rfl⟩:=Int.eq_ofNat_of_zero_le hx.1
   have hat:atL (oV n fun p=>(cY (p:Int) (t.l.take j)).getD 0) (p:Int)=some ((cY (p:Int) (t.l.take j)).getD 0):=by
    unfold atL;rw [if_pos (by omega),Int.toNat_natCast,oY _ (by omega)]
   simp only [fB,ej,zbS,hat,Int.toNat_natCast,bL hj (by omega)];rw [if_pos (by omega),Ox _ _ (by omega)];refine .inl ⟨_,rfl,?_⟩;simp only [Prod.mk.injEq,true_and];refine JA fun i hi=> ?_;rw [nJ];by_cases e:i=p
   ·subst e;rw [if_pos rfl,htk];simp [cY]
   ·rw [if_neg e]
    have:cY (i:Int) [((p:Int),x2)]=none:=by unfold cY;rw [if_neg (by omega)];rfl
    rw [this]
    cases cY (i:Int) (t.l.take j)<;>rfl)
  (by
   rintro _ rfl;refine⟨_,?_,rfl⟩;simp only [fB]
   rw [if_neg (by omega),List.take_length]) 0 (Nat.zero_le _) (0,oV n fun _=>0) rfl
 rw [q1,q2]
theorem Fg{v:Int×Sl It}(hok:okS 2 v.2)(hl:v.2.l.length≤9223372036854775807)(hi:∀x∈v.2.l,cK x.2):∃d:Dn,oC v=some d∧DV d (lW v).1.toNat fun p=>cY (p:Int) (lW v).2.l:=by
 have e1:=mP v hok hl;have e2:=qu hok hl;by_cases hr:eJ v=true
 ·have es:lW v=v:=EY hr;rw [es]at e2 ⊢;have hz:=zA hr;obtain⟨m,t⟩:=v;simp only at hz hok hl e2 hi ⊢;obtain⟨n,rfl⟩:=Int.eq_ofNat_of_zero_le hz.1;have hlo:gU (n:Int)=some ():=by unfold gU cd;rw [if_pos ⟨by omega,by omega⟩]
  have hloop:=Rk hr hok;have h56:lh t=fB t:=rfl
  have fin:∀(s:Sl Int),okS 1 s→s.l=t.l.map (·.1)→∃q,ig (n:Int) s=some q∧DV ((n:Int),(⟨true,1,q⟩:Sl Int),(⟨true,1,oV n fun p=>(cY (p:Int) t.l).getD 0⟩:Sl Int)) n fun p=>cY (p:Int) t.l:=fun s hs hsl=>by
   obtain⟨q,q1,q2,q3,q4⟩:=Hx (n:=n) (by omega) hs (by rw [hsl];simp;omega);refine⟨q,q1,rfl,by omega,.inr rfl,q3,q2,.inr rfl,rfl,fun p=> ?_,fun p hp=> ?_,fun p x hx=>hi _ (Lo hx)⟩
   ·rw [q4 p,hsl];exact JC hr p
   ·cases hg:cY (p:Int) t.l with
    |none=>rfl
    |some y=>have:=OC hr hg;omega
  unfold oC;simp only [e1,hr,zbS,if_true];rw [if_neg (by omega),if_neg (by omega),uN (by omega)];simp only [hlo,zbS,e2,Int.toNat_natCast]
  cases hL:t.l.map (·.1)with
  |nil=>
   obtain⟨q,q1,q2⟩:=fin (⟨false,0,[]⟩:Sl Int) (.inl rfl) hL.symm;simp only [q1,hloop,zbS,Sum.elim_inl];exact⟨_,rfl,q2⟩
  |cons y z=>
   obtain⟨q,q1,q2⟩:=fin (⟨true,1,y::z⟩:Sl Int) (.inr rfl) hL.symm;simp only [q1,h56,hloop,zbS,Sum.elim_inl];exact⟨_,rfl,q2⟩
 ·have es:lW v=(0,eW):=by unfold lW;rw [if_neg hr]
  rw [es];obtain⟨n,s⟩:=v;unfold oC;have hf:eJ (n,s)=false:=by simpa using hr
  simp only [e1,hf,zbS,Bool.false_eq_true,if_false];exact⟨_,rfl,nilD_dv.congr fun p=>rfl⟩
end Ev
end
noncomputable section
namespace Ev
open Go
theorem UV(a b:E3):KM.bel a b=bel a b:=by rw [Bool.eq_iff_iff,KM.bel_iff,bel_iff]
theorem rises_km{l:List E3}:KM.dm l↔dm l:=by
 have e:(fun a b:E3=>KM.bel a b=true)=fun a b=>bel a b=true:=by funext a b;rw [UV]
 show List.Pairwise (fun a b:E3=>KM.bel a b=true) l↔List.Pairwise (fun a b:E3=>bel a b=true) l;rw [e]
section
variable {m : Mx} {n k : Int} {l : List E3}
theorem OE(h:KM.Is m n k l)(i:Nat):dY m i=dY (nk n k l) i:=by
 have e3:m.2.2.1.l=(nk n k l).2.2.1.l:=h.e3;have e4:m.2.2.2.1.l=(nk n k l).2.2.2.1.l:=by rw [h.e4];exact(gS _ _).symm
 have e5:m.2.2.2.2.l=(nk n k l).2.2.2.2.l:=by rw [h.e5];exact(gS _ _).symm
 unfold dY;rw [e3,e4,e5]
theorem Xn(h:KM.Is m n k l):OkM m:=by
 have g:=h.ok;exact⟨g.st,g.co,g.va,g.v64,g.sl,g.cl,g.vl⟩
theorem Hy(h:KM.Is m n k l):eX m=true:=by
 have:=sY h.hn h.hc h.len (rises_km.1 h.r) h.p
 have e3:m.2.2.1.l=(nk n k l).2.2.1.l:=h.e3;have e4:m.2.2.2.1.l=(nk n k l).2.2.2.1.l:=by rw [h.e4];exact(gS _ _).symm
 have e5:m.2.2.2.2.l=(nk n k l).2.2.2.2.l:=by rw [h.e5];exact(gS _ _).symm
 have e1:m.1=(nk n k l).1:=h.e1;have e2:m.2.1=(nk n k l).2.1:=h.e2;unfold eX gG at this ⊢;rw [e1,e2,e3,e4,e5];exact this
theorem Cu{x:Int}(h:0≤x):KM.cH x=cH x:=by unfold KM.cH cH;rw [Int.tmod_eq_emod_of_nonneg h]
theorem OF{x:Int}(h:0≤x∧x≤255):inK .u8 x:=by simpa [inK,Lit.wf,IntKind.min,IntKind.max,IntKind.signed,IntKind.bits]using h
theorem OG(f:Int→Int)(l:List E3)(i:Nat):KM.aO (zK f l) i=KM.aO l i:=by
 unfold KM.aO zK;rw [List.countP_map];rfl
theorem MH(t:Tk)(h:OkT t)(hw:KM.w64 t.2.2.1.l):∃m l,fj t=some m∧KM.Is m (cH t.2.1.1) (cH t.2.1.2) l:=by
 obtain⟨r,⟨n1,n2⟩,s,x,y,f,o⟩:=t;obtain⟨h1,h2,h3,h4,_,_,_,_,_,_,_,_⟩:=h;simp only at h1 h2 h3 h4 hw ⊢;obtain⟨m0,l,e,g⟩:=KM.NY (a:=(n1,n2)) ⟨OF h1,OF h2⟩ (s:=s) h3 hw;simp only at g;rw [Cu h1.1,Cu h2.1]at g;have e':fJ (n1,n2) s=some m0:=e;obtain⟨m1,m2,m3,m4,m5⟩:=m0;have hlen:=g.len;have e5:m5.l=l.map (·.2.2):=g.e5;have o5:okS 1 m5:=g.o5;have hvl:m5.l.length≤65536:=by rw [e5,List.length_map];exact hlen
 refine⟨(m1,m2,m3,m4,mo 1 (m5.l.map (zJ (eY r)))),zK (zJ (eY r)) l,?_,⟨g.hn,g.hc,by rw [OA];exact hlen,rises_km.2 (JB (rises_km.1 g.r)),fun x hx=> ?_,fun x hx=> ?_,g.e1,g.e2,?_,?_,?_,g.o3,g.o4,lu _⟩⟩
 ·unfold fj;simp only [e',zbS,mR]
  obtain⟨q,q1,q2⟩:=bK (b:=cA m5 (eY r)) m5.l.length (fun j st=>st=((m5.l.take j).map (zJ (eY r)),(j:Int))) (fun q=>q= .inl (m5.l.map (zJ (eY r))))
   (by
    rintro j _ hj rfl;have ej:=bu o5 hj;have ap:∀z,app ((m5.l.take j).map (zJ (eY r))) [z]=some ((m5.l.take j).map (zJ (eY r))++ [z]):=fun z=>gA (by simp;unfold cd;omega);simp only [cA,ej,zbS,xY,ap,bL hj (by omega)];rw [if_pos (by omega)]
    exact .inl ⟨_,rfl,by rw [List.take_succ_eq_append_getElem hj,List.map_append];rfl⟩)
   (by
    rintro _ rfl;refine⟨.inl (m5.l.map (zJ (eY r))),?_,rfl⟩;simp only [cA]
    rw [if_neg (by omega),List.take_length]) 0 (Nat.zero_le _) ([],0) rfl
  rw [q1,q2];rfl
 ·unfold zK at hx;obtain⟨y,hy,rfl⟩:=List.mem_map.1 hx;exact g.p y hy
 ·unfold zK at hx;obtain⟨y,hy,rfl⟩:=List.mem_map.1 hx;exact Oz (g.v y hy)
 ·rw [show m3.l=_ from g.e3];exact KM.dM fun i _=>by rw [OG]
 ·rw [show m4.l=_ from g.e4];unfold zK;rw [List.map_map];rfl
 ·rw [gS,e5];unfold zK;rw [List.map_map,List.map_map];rfl
theorem MI(h:KM.Is m n k l):uw m=some (KM.zx n k (KM.cS l)):=by
 have hk:=h.hc;have e:jb m=some (k,n,⟨true,1,KM.dL k.toNat fun i=>((KM.aO (l.map KM.bQ) i:Nat):Int)⟩,⟨true,1,(KM.cS l).map (·.2.1)⟩,⟨true,1,(KM.cS l).map (·.2.2)⟩):=KM.Jn h;rw [show(KM.dL k.toNat fun i=>((KM.aO (l.map KM.bQ) i:Nat):Int))=KM.dL k.toNat fun i=>((KM.aO (KM.cS l) i:Nat):Int)from KM.dM fun i _=>by rw [KM.Oe]]at e;clear h;generalize KM.cS l=T at*;obtain⟨m1,m2,m3,m4,m5⟩:=m;unfold uw;simp only [e,zbS];obtain⟨t,t1,t2,t3⟩:=KM.Od (s:=⟨true,1,KM.dL k.toNat fun i=>((KM.aO T i:Nat):Int)⟩) (a:=0) (b:=k.toNat) (.inr rfl) (by omega) (by rw [KM.dD];omega);simp only at t2;have hw:IntKind.i64.wrap ((((KM.dL k.toNat fun i=>((KM.aO T i:Nat):Int)).length:Nat):Int) - 1)=((k.toNat:Nat):Int):=by rw [KM.dD,bW (by omega) (by omega)];omega
 rw [hw,show(0:Int)=((0:Nat):Int)from rfl,t1];simp only [zbS];have tl:t.l.length=k.toNat:=by rw [t2];simp [KM.dD]
 have q:aL (ju ⟨true,1,KM.dL k.toNat fun i=>((KM.aO T i:Nat):Int)⟩ t) (((0:Nat):Int),[],[((0:Nat):Int)])=some (.inl (KM.je T k.toNat,KM.lM T k.toNat)):=by
  refine KM.iM k.toNat (fun i=>((i:Int),KM.je T i,KM.lM T i)) rfl (fun i hi=> ?_) ?_
  ·have a1:atS 1 t (i:Int)=some ((KM.aO T i:Nat):Int):=KM.du t3 (by
    rw [t2,List.drop_zero,Nat.sub_zero,List.getElem?_take_of_lt hi]
    exact KM.de _ (by omega))
   have a2:atS 1 (⟨true,1,KM.dL k.toNat fun i=>((KM.aO T i:Nat):Int)⟩:Sl Int) ((i+1:Nat):Int)=some ((KM.aO T (i+1):Nat):Int):=KM.du (.inr rfl) (KM.de (k:=i+1) _ (by omega));have w1:IntKind.i64.wrap ((i:Int)+1)=((i+1:Nat):Int):=bL hi (by omega);have hcl:=KM.Hg (T:=T) i;have hsl:=KM.oS (T:=T) i;simp only [ju,a1,w1,a2,zbS];rw [if_pos (by omega),KM.pK,KM.nI];by_cases hne:KM.neC T i=true
   ·have h1:KM.aO T i<KM.aO T (i+1):=by simpa [KM.neC]using hne
    rw [if_pos (by omega),gA (by simp;unfold cd;omega),gA (by simp;unfold cd;omega),if_pos hne,if_pos hne];rfl
   ·have h1:¬KM.aO T i<KM.aO T (i+1):=by simpa [KM.neC]using hne
    rw [if_neg (by omega),if_neg hne,if_neg hne,List.append_nil,List.append_nil]
  ·simp only [ju];rw [if_neg (by omega)]
 rw [q];rfl
theorem Fh(h:KM.Is m n k l):KM.IsC (KM.zx n k (KM.cS l)) n k (KM.cS l):=by
 refine KM.QX h.hn h.hc (by rw [KM.zu];exact h.len) (KM.pJ h.r) (fun x hx=> ?_) fun x hx=>h.v (KM.bQ x) (KM.turn_mem.1 hx)
 have:=h.p _ (KM.turn_mem.1 hx)
 exact⟨this.2,this.1⟩
end
def nm{α:Type}(n:Nat)(f:Nat→α):List α:=(List.range n).map f
theorem oZ{α:Type}(n:Nat)(f:Nat→α):(nm n f).length=n:=by unfold nm;simp
theorem qY{α:Type}{n k:Nat}(f:Nat→α)(h:k<n):(nm n f)[k]? =some (f k):=by
 unfold nm;rw [List.getElem?_map,List.getElem?_range h];rfl
theorem Lp{α:Type}{n k:Nat}(f:Nat→α)(h:k<n):atL (nm n f) (k:Int)=some (f k):=by
 unfold atL;rw [if_pos (by omega),Int.toNat_natCast,qY f h]
theorem OH{α:Type}{n k:Nat}(f:Nat→α)(v:α)(h:k<n):(nm n f).set k v=nm n fun i=>if i=k then v else f i:=by
 refine List.ext_getElem? fun i=> ?_;rw [List.getElem?_set];by_cases hi:i<n
 ·by_cases e:k=i
  ·subst e;rw [if_pos rfl,if_pos (by rw [oZ];omega),qY _ hi,if_pos rfl]
  ·rw [if_neg e,qY _ hi,qY _ hi,if_neg (Ne.symm e)]
 ·rw [if_neg (by omega)];rw [List.getElem?_eq_none (by rw [oZ];omega),List.getElem?_eq_none (by rw [oZ];omega)]
theorem tr{α:Type}{n:Nat}{f g:Nat→α}(h:∀k,k<n→f k=g k):nm n f=nm n g:=by
 unfold nm;refine List.map_congr_left fun k hk=>h k ?_;simpa using hk
theorem OI{α:Type}(n:Nat)(a:α):List.replicate n a=nm n fun _=>a:=by
 refine List.ext_getElem? fun i=> ?_;by_cases hi:i<n
 ·rw [qY _ hi,List.getElem?_replicate,if_pos hi]
 ·rw [List.getElem?_eq_none (by simp;omega),List.getElem?_eq_none (by rw [oZ];omega)]
def uO(o:Option Wd):(Int×Int)×Bool:=(tj o,uL o)
def aC:List E3→Int→Option Int
 | [],_=>none
 |x::C,i=>if x.2.1=i then some x.2.2 else aC C i
theorem Cv{i:Int}:∀{C:List E3},(∀x∈C,x.2.1≠i)→aC C i=none
 | [],_=>rfl
 |x::C,h=>by
  unfold aC;rw [if_neg (h x List.mem_cons_self),Cv fun y hy=>h y (List.mem_cons_of_mem _ hy)]
theorem Hz(i:Int):∀(C D:List E3),aC (C++D) i=match aC C i with|some x=>some x|none=>aC D i
 | [],D=>rfl
 |x::C,D=>by
  simp only [List.cons_append,aC];by_cases h:x.2.1=i
  ·rw [if_pos h,if_pos h]
  ·rw [if_neg h,if_neg h,Hz i C D]
def tu(r v:Int)(o:Option Wd):Option Int→Option Wd
 |none=>o
 |some a=>some (match o with|none=>pN r a v|some s=>gT r s (pN r a v))
theorem jJ{r:Int}{h:Int→Option Int}:∀{L:List (Int×Int)} {acc:Option Wd},(∀x∈L,h x.1=none)→dX r h L acc=acc
 | [],acc,_=>rfl
 |x::L,acc,hh=>by
  have e:iU r h acc x=acc:=by unfold iU;rw [hh x List.mem_cons_self]
  show dX r h L (iU r h acc x)=acc;rw [e,jJ fun y hy=>hh y (List.mem_cons_of_mem _ hy)]
theorem zL{r p v:Int}{h h':Int→Option Int}(h1:∀q,q<p→h' q=h q)(h2:h' p=some v)(h3:h p=none)(h4:∀q,p<q→h q=none∧h' q=none):∀{L:List (Int×Int)} {acc:Option Wd},(L.map (·.1)).Pairwise (·<·)→dX r h' L acc=tu r v (dX r h L acc) (cY p L)
 | [],acc,_=>rfl
 |x::L,acc,hL=>by
  rw [List.map_cons,List.pairwise_cons]at hL;have hx:∀y∈L,x.1<y.1:=fun y hy=>hL.1 _ (List.mem_map_of_mem hy);show dX r h' L (iU r h' acc x)=tu r v (dX r h L (iU r h acc x)) (cY p (x::L));rcases Int.lt_trichotomy x.1 p with c|c|c
  ·have e:iU r h' acc x=iU r h acc x:=by unfold iU;rw [h1 _ c]
   have g:cY p (x::L)=cY p L:=by simp only [cY];rw [if_neg (by omega)]
   rw [e,g];exact zL h1 h2 h3 h4 hL.2
  ·have g:cY p (x::L)=some x.2:=by simp only [cY];rw [if_pos c]
   have e:iU r h acc x=acc:=by unfold iU;rw [c,h3]
   have e':iU r h' acc x=tu r v acc (some x.2):=by unfold iU tu;rw [c,h2];(try (cases acc<;>rfl))
   rw [g,e,e',jJ fun y hy=>(h4 _ (by have:=hx y hy;omega)).2,jJ fun y hy=>(h4 _ (by have:=hx y hy;omega)).1]
  ·have g:cY p (x::L)=none:=kF fun y hy=>by
    rcases List.mem_cons.1 hy with rfl|hy
    ·omega
    ·have:=hx y hy;omega
   have e:iU r h acc x=acc:=by unfold iU;rw [(h4 _ c).1]
   have e':iU r h' acc x=acc:=by unfold iU;rw [(h4 _ c).2]
   rw [g,e,e',jJ fun y hy=>(h4 _ (by have:=hx y hy;omega)).2,jJ fun y hy=>(h4 _ (by have:=hx y hy;omega)).1];rfl
def qv(T:List E3)(i:Nat):List (Int×Int):=(T.filter fun x=>decide (x.2.1=(i:Int))).map fun x=>(x.1,x.2.2)
theorem Cw(p:Int)(i:Nat):∀T:List E3,cY p (qv T i)=aC (KM.gP T p) (i:Int)
 | []=>rfl
 |x::T=>by
  have ih:=Cw p i T;unfold qv KM.gP at ih ⊢;by_cases h1:x.2.1=(i:Int)<;>by_cases h2:x.1=p
  ·rw [List.filter_cons_of_pos (by simp [h1]),List.filter_cons_of_pos (by simp [h2]),List.map_cons];simp only [cY,aC];rw [if_pos h2,if_pos h1]
  ·rw [List.filter_cons_of_pos (by simp [h1]),List.filter_cons_of_neg (by simp [h2]),List.map_cons];simp only [cY];rw [if_neg h2,ih]
  ·rw [List.filter_cons_of_neg (by simp [h1]),List.filter_cons_of_pos (by simp [h2])];simp only [aC];rw [if_neg h1,ih]
  ·rw [List.filter_cons_of_neg (by simp [h1]),List.filter_cons_of_neg (by simp [h2]),ih]
theorem MJ{T:List E3}(h:KM.dm T)(i:Nat):((qv T i).map (·.1)).Pairwise (·<·):=by
 unfold qv;rw [List.map_map,List.pairwise_map];have hs:KM.dm (T.filter fun x=>decide (x.2.1=(i:Int))):=List.Pairwise.sublist List.filter_sublist h;refine List.Pairwise.imp_of_mem (fun{a b} ha hb hab=> ?_) hs;have h1:=of_decide_eq_true (List.mem_filter.1 ha).2;have h2:=of_decide_eq_true (List.mem_filter.1 hb).2;rw [KM.bel_iff]at hab;show a.1<b.1;omega
theorem JD{m:Mx}{n k:Int}{l:List E3}(h:KM.Is m n k l){i:Nat}(hi:(i:Int)<n):qv (KM.cS l) i=dY m i:=by
 rw [OE h,Ov (rises_km.1 h.r) hi];have hT:=KM.pJ h.r
 have e:((KM.cS l).filter fun x=>decide (x.2.1=(i:Int))).map KM.bQ=qC l i:=by
  refine KM.Mu ?_ ?_ fun x=> ?_
  ·show List.Pairwise _ _;rw [List.pairwise_map];have hs:KM.dm ((KM.cS l).filter fun x=>decide (x.2.1=(i:Int))):=List.Pairwise.sublist List.filter_sublist hT;refine List.Pairwise.imp_of_mem (fun{a b} ha hb hab=> ?_) hs;have h1:=of_decide_eq_true (List.mem_filter.1 ha).2;have h2:=of_decide_eq_true (List.mem_filter.1 hb).2;rw [KM.bel_iff]at hab ⊢;unfold KM.bQ;simp only;omega
  ·exact rises_km.2 (List.Pairwise.sublist (List.filter_sublist.trans List.filter_sublist) (rises_km.1 h.r))
  ·rw [KM.mem_flip,List.mem_filter,KM.turn_mem,KM.oO,rowE_mem,decide_eq_true_eq];rfl
 rw [←e,List.map_map];rfl
section
variable {c : KM.Cx} {n k : Int} {T : List E3} {u : Sl It}
theorem UW(h:KM.IsC c n k T){j:Nat}(hj:j<T.length):T[j].2.1.toNat<n.toNat∧0≤T[j].2.1:=by
 have:=(h.p _ (List.getElem_mem hj)).2;omega
theorem OJ{r v:Int}(h:KM.IsC c n k T)(hv:cK v){a j:Nat}(ha:a<5000)(hs:atS 1 c.2.2.2.1 ((a+1:Nat):Int)=some ((KM.aO T (j+1):Nat):Int))(g:Nat→Option Wd):
  aL (ep r c.2.2.2.1 c.2.2.2.2.1 c.2.2.2.2.2 v (a:Int)) (((KM.aO T j:Nat):Int),nm n.toNat fun i=>uO (g i))=some (.inl (nm n.toNat fun i=>uO (tu r v (g i) (aC (KM.gP T (j:Int)) (i:Int))))):=by
 have hlen:=h.len;obtain⟨h1,h2⟩:=KM.mc h.r j;rw [←KM.oM]at h2
 have hR:(KM.gP T (j:Int)).length=KM.aO T (j+1) - KM.aO T j:=by
  have:=KM.qP T j;omega
 have hle:=KM.kV T (j+1);have hw:IntKind.i64.wrap ((a:Int)+1)=((a+1:Nat):Int):=bL (n:=5000) ha (by omega)
 have hget:∀t,t<(KM.gP T (j:Int)).length→∃ht:KM.aO T j+t<T.length,(KM.gP T (j:Int))[t]? =some T[KM.aO T j+t]:=fun t ht=>by
  have hlt:KM.aO T j+t<T.length:=by omega
  refine⟨hlt,?_⟩;rw [←h2,List.getElem?_take_of_lt (by omega),List.getElem?_drop,List.getElem?_eq_getElem hlt]
 have hasc:(KM.gP T (j:Int)).Pairwise fun a b=>a.2.1<b.2.1:=by
  have hs:KM.dm (KM.gP T (j:Int)):=List.Pairwise.sublist List.filter_sublist h.r;refine List.Pairwise.imp_of_mem (fun{a b} ha hb hab=> ?_) hs;have h1:=(KM.lw ha).2;have h2:=(KM.lw hb).2;rw [KM.bel_iff]at hab;omega
 generalize hRR:KM.gP T (j:Int)=R at*
 obtain⟨q,q1,q2⟩:=bK (b:=ep r c.2.2.2.1 c.2.2.2.2.1 c.2.2.2.2.2 v (a:Int)) R.length (fun t st=>st=(((KM.aO T j+t:Nat):Int),nm n.toNat fun i=>uO (tu r v (g i) (aC (R.take t) (i:Int))))) (fun q=>q= .inl (nm n.toNat fun i=>uO (tu r v (g i) (aC R (i:Int)))))
  (by
   rintro t _ ht rfl;obtain⟨hlt,hg⟩:=hget t ht;obtain⟨b1,b2⟩:=UW h hlt;have a1:=h.at_ro hlt;have a2:=h.at_va hlt;have hx64:=h.v _ (List.getElem_mem hlt)
   have hRt:R[t]=T[KM.aO T j+t]:=by
    have:=List.getElem?_eq_getElem ht
    rw [hg]at this;exact(Option.some.inj this).symm
   have hnone:aC (R.take t) T[KM.aO T j+t].2.1=none:=Cv fun x hx=>by
    obtain⟨s,hs,rfl⟩:=List.mem_iff_getElem.1 hx;rw [List.length_take]at hs;rw [List.getElem_take]
    have:=List.pairwise_iff_getElem.1 hasc s t (by omega) ht (by omega)
    rw [hRt]at this;omega
   have happ:∀i,aC (R.take (t+1)) i=if T[KM.aO T j+t].2.1=i then some T[KM.aO T j+t].2.2 else aC (R.take t) i:=fun i=>by
    rw [List.take_succ_eq_append_getElem ht,Hz,hRt];simp only [aC];by_cases e:T[KM.aO T j+t].2.1=i
    ·rw [if_pos e,if_pos e,←e,hnone]
    ·rw [if_neg e,if_neg e];cases aC (R.take t) i<;>rfl
   generalize T[KM.aO T j+t]=x at a1 a2 hx64 hnone happ b1 b2;obtain⟨x1,x2,x3⟩:=x;simp only at a1 a2 hx64 hnone happ b1 b2;obtain⟨y,rfl⟩:=Int.eq_ofNat_of_zero_le b2;have hy:y<n.toNat:=by simpa using b1
   have hat:=Lp (n:=n.toNat) (fun i=>uO (tu r v (g i) (aC (R.take t) (i:Int)))) hy;rw [hnone]at hat;have hm:=xn r hx64 hv;have hw2:IntKind.i64.wrap (((KM.aO T j+t:Nat):Int)+1)=((KM.aO T j+(t+1):Nat):Int):=bL hlt (by omega)
   have fin:∀z:(Int×Int)×Bool,z=uO (tu r v (g y) (some x3))→(nm n.toNat fun i=>uO (tu r v (g i) (aC (R.take t) (i:Int)))).set y z=nm n.toNat fun i=>uO (tu r v (g i) (aC (R.take (t+1)) (i:Int))):=fun z hz=>by
    rw [OH _ _ hy];refine tr fun i _=> ?_;rw [happ];by_cases e:i=y
    ·subst e;rw [if_pos rfl,if_pos rfl,hz]
    ·rw [if_neg e,if_neg (by omega)]
   rcases hgy:g y with _|⟨w1,w2⟩
   ·rw [hgy]at hat;have hat':atL (nm n.toNat fun i=>uO (tu r v (g i) (aC (R.take t) (i:Int)))) (y:Int)=some (((0,0),false):(Int×Int)×Bool):=hat;simp only [ep,hw,hs,zbS,a1,a2,hat',hm,hw2,Int.toNat_natCast];rw [if_pos (by omega),if_neg (by decide),fin _ (by rw [hgy];rfl)];exact .inl ⟨_,rfl,rfl⟩
   ·rw [hgy]at hat;have hat':atL (nm n.toNat fun i=>uO (tu r v (g i) (aC (R.take t) (i:Int)))) (y:Int)=some (((w1,w2),true):(Int×Int)×Bool):=hat;simp only [ep,hw,hs,zbS,a1,a2,hat',hm,hw2,Int.toNat_natCast,qT];rw [if_pos (by omega),if_pos trivial,fin _ (by rw [hgy];rfl)]
    exact .inl ⟨_,rfl,rfl⟩)
  (by
   rintro _ rfl;refine⟨_,?_,rfl⟩;simp only [ep,hw,hs,zbS]
   rw [if_neg (by omega),List.take_length]) 0 (Nat.zero_le _) (((KM.aO T j:Nat):Int),nm n.toNat fun i=>uO (g i)) (by simp [aC,tu])
 rw [q1,q2]
end
end Ev
end
noncomputable section
namespace Ev
open Go
section
variable {c : KM.Cx} {n k : Int} {T : List E3} {u : Sl It}
theorem aa2(s:Sl Int)(hs:okS 1 s)(hl:s.l.length≤5000)(p:Int)(a:Nat)(ha:a≤s.l.length)(hp:∀i (hi:i<s.l.length),i<a→s.l[i]<p):
  ∃b:Nat,b≤s.l.length∧aL (fv s p) (a:Int)=some (.inl (b:Int))∧(∀i (hi:i<s.l.length),i<b→s.l[i]<p)∧∀hb:b<s.l.length,p≤s.l[b]:=by
 obtain⟨q,q1,b,b1,rfl,b2,b3⟩:=bK (b:=fv s p) s.l.length (fun j st=>st=(j:Int)∧∀i (hi:i<s.l.length),i<j→s.l[i]<p) (fun q=>∃b:Nat,b≤s.l.length∧q= .inl (b:Int)∧(∀i (hi:i<s.l.length),i<b→s.l[i]<p)∧∀hb:b<s.l.length,p≤s.l[b])
  (by
   rintro j _ hj ⟨rfl,hI⟩;have ej:=bu hs hj;simp only [fv,ej,zbS,bL hj (by omega)];rw [if_pos (by omega)];by_cases h:s.l[j]<p
   ·rw [if_pos h];refine .inl ⟨_,rfl,rfl,fun i hi hij=> ?_⟩;by_cases e:i=j
    ·subst e;exact h
    ·exact hI i hi (by omega)
   ·rw [if_neg h]
    exact .inr ⟨_,rfl,j,by omega,rfl,hI,fun _=>by omega⟩)
  (by
   rintro _ ⟨rfl,hI⟩;refine⟨.inl (s.l.length:Int),?_,s.l.length,Nat.le_refl _,rfl,hI,fun hb=>absurd hb (by omega)⟩;simp only [fv]
   rw [if_neg (by omega)]) a ha (a:Int) ⟨rfl,hp⟩
 exact⟨b,b1,q1,b2,b3⟩
def gu(r:Int)(T:List E3)(n:Nat)(l:List It):List ((Int×Int)×Bool):=nm n fun i=>uO (dX r (fun p=>cY p l) (qv T i) none)
theorem UX(h:KM.IsC c n k T){p:Int}(hp:p ∉ c.2.2.1.l):KM.gP T p= []:=by
 by_cases h0:KM.gP T p= []
 ·exact h0
 ·obtain⟨x,hx⟩:=List.exists_mem_of_ne_nil _ h0;obtain⟨x1,x2⟩:=KM.lw hx;have hb:=h.p x x1;obtain⟨j,rfl⟩:=Int.eq_ofNat_of_zero_le (show 0≤p by omega);refine absurd ?_ hp;rw [h.e3];exact KM.cols_mem.2 ⟨j,rfl,by omega,KM.neC_iff.2 h0⟩
theorem zM{r p v:Int}{l:List It}(hT:KM.dm T)(hl:∀x∈l,x.1<p)(n:Nat):(nm n fun i=>uO (tu r v (dX r (fun q=>cY q l) (qv T i) none) (aC (KM.gP T p) (i:Int))))=gu r T n (l++ [(p,v)]):=by
 refine tr fun i _=> ?_;congr 1;rw [←Cw];have g0:cY p l=none:=kF fun x hx=>by have:=hl x hx;omega
 refine(zL (h':=fun q=>cY q (l++ [(p,v)])) (fun q hq=> ?_) ?_ g0 (fun q hq=>⟨?_,?_⟩) (MJ hT i)).symm
 ·show cY q (l++ [(p,v)])=cY q l;rw [nJ]
  have:cY q [(p,v)]=none:=by simp only [cY];rw [if_neg (by omega)]
  rw [this];cases cY q l<;>rfl
 ·show cY p (l++ [(p,v)])=some v;rw [nJ,g0];simp [cY]
 ·exact kF fun x hx=>by have:=hl x hx;omega
 ·refine kF fun x hx=> ?_;rcases List.mem_append.1 hx with hx|hx
  ·have:=hl x hx;omega
  ·simp only [List.mem_cons,List.not_mem_nil,or_false]at hx;subst hx;simp only;omega
theorem JF{r:Int}(h:KM.IsC c n k T)(hv:nK (k,u)):aL (fw r u c.2.2.1 c.2.2.2.1 c.2.2.2.2.1 c.2.2.2.2.2) (0,0,gu r T n.toNat [])=some (.inl (gu r T n.toNat u.l)):=by
 have hok:okS 2 u:=hv.2.1;have hul:=kE hv.1;simp only at hul;have hL:=h.atLen
 obtain⟨q,q1,q2⟩:=bK (b:=fw r u c.2.2.1 c.2.2.2.1 c.2.2.2.2.1 c.2.2.2.2.2) u.l.length (fun j st=>∃a:Nat,st=((a:Int),(j:Int),gu r T n.toNat (u.l.take j))∧a≤c.2.2.1.l.length∧∀i (hi:i<c.2.2.1.l.length),i<a→∀q (hq:q<u.l.length),j≤q→c.2.2.1.l[i]<u.l[q].1) (fun q=>q= .inl (gu r T n.toNat u.l))
  (by
   rintro j _ hj ⟨a,rfl,ha,hI⟩;have ej:=bu hok hj;have hb:=uF hv.1 hj;have h64:=hv.2.2 _ (List.getElem_mem hj)
   have hlt:∀x∈u.l.take j,x.1<u.l[j].1:=fun x hx=>by
    obtain⟨s,hs,rfl⟩:=List.mem_iff_getElem.1 hx;rw [List.length_take]at hs;rw [List.getElem_take];exact Ho (rE hv.1) (by omega) hj
   have hgt:∀q (hq:q<u.l.length),j+1≤q→u.l[j].1<u.l[q].1:=fun q hq hjq=>Ho (rE hv.1) (by omega) hq;obtain⟨b,b1,b2,b3,b4⟩:=aa2 c.2.2.1 h.o3 (by omega) u.l[j].1 a ha fun i hi hia=>hI i hi hia j hj (Nat.le_refl _);rw [List.take_succ_eq_append_getElem hj];generalize u.l[j]=x at ej hb h64 hlt hgt b2 b3 b4;obtain⟨p,v⟩:=x;simp only at hb h64 hlt hgt b2 b3 b4
   have nxt:∀i (hi:i<c.2.2.1.l.length),i<b→∀q (hq:q<u.l.length),j+1≤q→c.2.2.1.l[i]<u.l[q].1:=fun i hi hib q hq hjq=>by
    have:=b3 i hi hib;have:=hgt q hq hjq;omega
   have hw:=bL hj (show u.l.length≤9223372036854775807 by omega);simp only [fw,ej,zbS,b2,Sum.elim_inl,hw];rw [if_pos (by omega)]
   have skip:p ∉ c.2.2.1.l→gu r T n.toNat (u.l.take j)=gu r T n.toNat (u.l.take j++ [(p,v)]):=fun hn=>by
    rw [←zM h.r hlt,UX h hn];rfl
   by_cases hbl:b<c.2.2.1.l.length
   ·have eb:=bu h.o3 hbl;rw [if_pos (by omega)];simp only [eb,zbS];by_cases e:c.2.2.1.l[b]=p
    ·rw [if_pos e];obtain⟨jn,g1,g2,g3,g4,g5⟩:=h.at_ge (List.getElem?_eq_getElem hbl);rw [e]at g1;have s1:=KM.du h.o4 g4;have s2:=KM.du h.o4 g5;have hc:=OJ (r:=r) (v:=v) h h64 (a:=b) (j:=jn) (by omega) s2 fun i=>dX r (fun q=>cY q (u.l.take j)) (qv T i) none;simp only [s1,zbS];unfold gu;rw [hc];simp only [zbS,Sum.elim_inl];refine .inl ⟨_,rfl,b,?_,b1,nxt⟩;rw [←g1,zM h.r hlt];rfl
    ·rw [if_neg e];refine .inl ⟨_,rfl,b,?_,b1,nxt⟩;rw [skip fun hm=> ?_];obtain⟨i,hi,hip⟩:=List.mem_iff_getElem.1 hm;have hp:=List.pairwise_iff_getElem.1 h.asc;have h4:=b4 hbl;by_cases c1:i<b
     ·have:=b3 i hi c1;omega
     ·by_cases c2:i=b
      ·subst c2;exact e hip
      ·have:=hp b i hbl hi (by omega);omega
   ·rw [if_neg (by omega)];refine .inl ⟨_,rfl,b,?_,b1,nxt⟩;rw [skip fun hm=> ?_];obtain⟨i,hi,hip⟩:=List.mem_iff_getElem.1 hm
    have:=b3 i hi (by omega);omega)
  (by
   rintro _ ⟨a,rfl,ha,hI⟩;refine⟨.inl (gu r T n.toNat u.l),?_,rfl⟩;simp only [fw]
   rw [if_neg (by omega),List.take_length]) 0 (Nat.zero_le _) (0,0,gu r T n.toNat []) ⟨0,rfl,Nat.zero_le _,fun i hi h0=>absurd h0 (by omega)⟩
 rw [q1,q2]
def Cy(r:Int)(T:List E3)(l:List It)(ask:Nat→Bool)(i:Nat):Option (Int×Wd):=if ask i=true then(dX r (fun p=>cY p l) (qv T i) none).map fun w=>((i:Int),w)else none
def mS(r:Int)(T:List E3)(l:List It)(ask:Nat→Bool)(n:Nat):List (Int×Wd):=(List.range n).filterMap (Cy r T l ask)
theorem zN(r:Int)(T:List E3)(l:List It)(ask:Nat→Bool)(n:Nat):mS r T l ask (n+1)=mS r T l ask n++(Cy r T l ask n).toList:=by
 unfold mS;rw [List.range_succ,List.filterMap_append];congr 1
 all_goals (cases hs:Cy r T l ask n<;>simp [hs])
theorem Cz(r:Int)(T:List E3)(l:List It)(ask:Nat→Bool)(n:Nat):(mS r T l ask n).length≤n:=by
 unfold mS
 have:=List.length_filterMap_le (Cy r T l ask) (List.range n)
 simpa using this
theorem MK{r:Int}{l:List It}{s:Sl Int}(hs:okS 1 s)(hu:oT s.l)(o:Bool){m:Nat}(hm:m≤4096):aL (eu s (gu r T m l)) (o,[],0)=some (.inl (mS r T l (pO s.l o) m)):=by
 obtain⟨q,q1,q2⟩:=bK (b:=eu s (gu r T m l)) m (fun j a=>a=(o,mS r T l (pO s.l o) j,(j:Int))) (fun q=>q= .inl (mS r T l (pO s.l o) m))
  (by
   rintro j _ hj rfl;have hh:=kf s j hs hu (by omega);have hlen:=Cz r T l (pO s.l o) j;have hap:=fun x=>Ln (l:=mS r T l (pO s.l o) j) (by omega) x;have hat:=Lp (n:=m) (fun i=>uO (dX r (fun p=>cY p l) (qv T i) none)) hj
   have hI:Cy r T l (pO s.l o) j=if(gr s.l j !=o)=true then(dX r (fun p=>cY p l) (qv T j) none).map (fun w=>((j:Int),w))else none:=rfl
   have hl:((gu r T m l).length:Int)=(m:Int):=by unfold gu;rw [oZ]
   rw [zN,hI]
   cases hx:dX r (fun p=>cY p l) (qv T j) none with
   |none=>
    rw [hx]at hat;have hat':atL (gu r T m l) (j:Int)=some (((0,0),false):(Int×Int)×Bool):=hat;simp only [eu,hl,hat',zbS,bL hj (by omega),if_pos (show(j:Int)<(m:Int)by omega)];rw [if_neg (by decide)];exact .inl ⟨_,rfl,by simp⟩
   |some w=>
    obtain⟨w1,w2⟩:=w;rw [hx]at hat;have hat':atL (gu r T m l) (j:Int)=some (((w1,w2),true):(Int×Int)×Bool):=hat;simp only [eu,hl,hat',hh,hap,zbS,bL hj (by omega),if_pos (show(j:Int)<(m:Int)by omega)]
    cases hb:gr s.l j<;>cases o<;>exact .inl ⟨_,rfl,by simp⟩)
  (by
   rintro _ rfl;have hl:((gu r T m l).length:Int)=(m:Int):=by unfold gu;rw [oZ]
   refine⟨.inl (mS r T l (pO s.l o) m),?_,rfl⟩;simp only [eu,hl]
   rw [if_neg (by omega)]) 0 (Nat.zero_le _) (o,[],0) rfl
 rw [q1,q2]
theorem BO{r:Int}(h:KM.IsC c n k T)(hr:okR r=true)(hv:nK (k,u)){s:Sl Int}(hs:okS 1 s)(hu:oT s.l)(o:Bool):oA r c (k,u) s o=some (mo 3 (mS r T u.l (pO s.l o) n.toNat),0):=by
 have e1:dJ c=some true:=KM.ob h
 have e2:jF c=some c:=by
  obtain⟨c1,c2,c3,c4,c5,c6⟩:=c;unfold jF;simp only [e1,zbS];rfl
 have hr':(decide (1≤r)&& decide (r≤5))=true:=hr;have hok:okS 2 u:=hv.2.1;have hul:=kE hv.1;simp only at hul;have e3:=mP (k,u) hok (show u.l.length≤_ by omega);rw [hv.1]at e3;have e4:=JF (r:=r) h hv;have hn:=h.hn;have e5:=MK (r:=r) (T:=T) (l:=u.l) hs hu o (m:=n.toNat) (by omega);have i1:=h.e1;have i2:=h.e2;have hlo:gU n=some ():=by unfold gU cd;rw [if_pos ⟨by omega,by omega⟩]
 have rep:List.replicate n.toNat (((0,0),false):(Int×Int)×Bool)=gu r T n.toNat []:=by
  rw [OI];refine tr fun i _=> ?_;rw [jJ fun x _=>rfl];rfl
 obtain⟨c1,c2,c3,c4,c5,c6⟩:=c;simp only at i1 i2 e4;subst i1 i2;unfold oA;simp only [tc,hr',zbS,e2,e3,hlo,rep,e4,Sum.elim_inl,e5];rw [if_pos trivial,if_pos trivial,if_neg (by omega)]
end
end Ev
end
end Go.Proofs.YtgefmokmjdeecaaDoor
