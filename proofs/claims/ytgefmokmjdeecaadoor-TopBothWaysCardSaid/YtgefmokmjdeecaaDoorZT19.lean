/- Texts of a claim, joined. -/
import Derived.Test.YtgefmokmjdeecaaDoorZT18
import Derived.Test.YtgefmokmjdeecaaDoorZT5
import Derived.Test.YtgefmokmjdeecaaDoorZT11
import Derived.Test.YtgefmokmjdeecaaDoorZT12
import Derived.Test.YtgefmokmjdeecaaDoorZT13
import Derived.Test.YtgefmokmjdeecaaDoorZT14
import Derived.Test.YtgefmokmjdeecaaDoorZT15
import Derived.Test.YtgefmokmjdeecaaDoorZT10
set_option linter.unusedVariables false
set_option linter.unusedSimpArgs false
namespace Go.Proofs.YtgefmokmjdeecaaDoor
noncomputable section
namespace Ev
open Go
theorem JG{m:Mx}{n k:Int}{l:List E3}(h:KM.Is m n k l)(r:Int)(items:List It)(ask:Nat→Bool):mS r (KM.cS l) items ask n.toNat=nL r (fun p=>cY p items) m ask n.toNat:=by
 have key:∀q,q≤n.toNat→mS r (KM.cS l) items ask q=nL r (fun p=>cY p items) m ask q:=fun q=>by
  induction q with
  |zero=>intro _;rfl
  |succ q ih=>
   intro hm;rw [zN,zF,ih (by omega)];unfold Cy Jy;rw [JD h (by have:=h.hn;omega)]
 exact key _ (Nat.le_refl _)
theorem ML{d:Dn}{k:Int}{u:Sl It}(hv:nK (k,u))(hd:DV d k.toNat fun p=>cY p u.l):md d=fun p=>cY p u.l:=by
 funext p;rw [hd.den];by_cases hp:0≤p
 ·rw [if_pos hp];show cY ((p.toNat:Nat):Int) u.l=cY p u.l;rw [Int.toNat_of_nonneg hp]
 ·rw [if_neg hp];refine(kF fun x hx=> ?_).symm;obtain⟨j,hj,rfl⟩:=List.mem_iff_getElem.1 hx
  have:=uF hv.1 hj;omega
theorem JH{m:Mx}{n k:Int}{l:List E3}(h:KM.Is m n k l){r:Int}(hr:okR r=true){u:Sl It}(hv:nK (k,u)){d:Dn}(hd:DV d k.toNat fun p=>cY p u.l)(ws:List Int)(o:Bool):qt r m d ws o=(mo 3 (mS r (KM.cS l) u.l (pO ws o) n.toNat),0):=by
 have e1:oU d=d:=by unfold oU;rw [if_pos hd.right]
 have e2:kg m=m:=by unfold kg;rw [if_pos (Hy h)]
 have hk:=h.hc;unfold qt;rw [if_pos hr,e1,e2,if_pos (by rw [hd.num,h.e2];show((k.toNat:Nat):Int)=k;omega),ML hv hd,JG h,h.e1]
theorem zO{m:Mx}{n k:Int}{l:List E3}(h:KM.Is m n k l){r:Int}(hr:okR r=true){u:Sl It}(hv:nK (k,u)){d:Dn}(hd:DV d k.toNat fun p=>cY p u.l){s:Sl Int}(hs:okS 1 s)(hu:oT s.l)(o:Bool):mG r (KM.zx n k (KM.cS l)) (k,u) s o=some (qW r m d s.l o):=by
 have e0:=JH h hr hv hd s.l o;have e1:=BO (Fh h) hr hv hs hu o;have e2:dJ (KM.zx n k (KM.cS l))=some true:=KM.ob (Fh h)
 have e3:jF (KM.zx n k (KM.cS l))=some (KM.zx n k (KM.cS l)):=by
  unfold KM.zx at e2 ⊢;unfold jF;simp only [e2,zbS];rfl
 have o1:=zH r m d s.l o;have hl:=Cz r (KM.cS l) u.l (pO s.l o) n.toNat;have hn:=h.hn;have e4:=pQ (r:=r) (n:=n) (s:=mo 3 (mS r (KM.cS l) u.l (pO s.l o) n.toNat)) (lu _) (by rw [gS];omega);have e5:kg m=m:=by unfold kg;rw [if_pos (Hy h)]
 unfold qW;rw [e0,e5,h.e1];simp only;rw [if_neg (by decide)];unfold KM.zx at e1 e3 ⊢;unfold mG;simp only [e1,zbS,e3,e4];rw [if_neg (by decide)]
theorem HA{T:List E3}(h0:∀x∈T,0≤x.1):∀k:Nat,KM.jf T ((List.range k).map fun(i:Nat)=>(i:Int))=KM.aO T k
 |0=>by rw [KM.Hh h0];rfl
 |k+1=>by
  rw [List.range_succ,List.map_append];show KM.jf T (_++ [(k:Int)])=_;rw [KM.Cp,HA h0 k,KM.qP]
theorem BP{c:KM.Cx}{n k:Int}{T:List E3}(h:KM.IsC c n k T){v:Int×Sl It}(hv:nK v):my c v=some (KM.jf T (v.2.l.map (·.1)):Int):=by
 have hok:okS 2 v.2:=hv.2.1;have hl:=kE hv.1;have e1:=qu hok (by omega);rw [EY hv.1]at e1;have e2:∀y:Sl Int,okS 1 y→y.l.length≤10000→fV c y=some (KM.jf T y.l:Int):=fun y h1 h2=>KM.EW h h1 h2;obtain⟨v1,v2⟩:=v;simp only at e1 hl ⊢;obtain⟨c1,c2,c3,c4,c5,c6⟩:=c;unfold my;simp only [e1,zbS];have hll:(v2.l.map (·.1)).length≤4096:=by simpa using hl
 generalize v2.l.map (·.1)=y at hll
 cases y with
 |nil=>
  have e3:=e2 ⟨false,0,[]⟩ (.inl rfl) (by simp);simp only [e3,zbS]
 |cons y t=>simp only;rw [e2 _ (.inr rfl) (by simp only;omega)];rfl
def kv(k:Nat)(x:Int):List It:=(List.range k).map fun(i:Nat)=>((i:Int),x)
theorem BQ{k:Nat}(hk:k≤4096)(x:Int):mL (k:Int) x=some ((k:Int),mo 2 (kv k x)):=by
 unfold mL;rw [if_neg (by omega),if_neg (by omega)]
 obtain⟨q,q1,q2⟩:=bK (b:=fM (k:Int) x) k (fun j st=>st=((j:Int),kv j x)) (fun q=>q= .inl (kv k x))
  (by
   rintro j _ hj rfl;have ap:∀z:It,app (kv j x) [z]=some (kv j x++ [z]):=fun z=>gA (by unfold kv;simp;unfold cd;omega);simp only [fM,ap,zbS,bL hj (by omega)];rw [if_pos (by omega)];refine .inl ⟨_,rfl,?_⟩;unfold kv
   rw [List.range_succ,List.map_append];rfl)
  (by
   rintro _ rfl;refine⟨.inl (kv k x),?_,rfl⟩;simp only [fM]
   rw [if_neg (by omega)]) 0 (Nat.zero_le _) (0,[]) rfl
 rw [q1,q2];rfl
theorem MM{k:Nat}(hk:k≤4096){x:Int}(hx:cK x):nK ((k:Int),mo 2 (kv k x)):=by
 refine Fd (by omega) (by omega) ?_ fun z hz=> ?_
 ·rw [asc_iff'];intro j hj;have hj':j<k:=by simpa [kv]using hj
  have g:∀i (hi:i<(kv k x).length),(kv k x)[i].1=(i:Int):=fun i hi=>by simp [kv]
  refine⟨by rw [g];omega,by rw [g];omega,fun h0=>by rw [g,g];omega⟩
 ·unfold kv at hz;obtain⟨i,_,rfl⟩:=List.mem_map.1 hz;exact hx
theorem OK:jH 5 1 (⟨true,3,[(0,(0,4))]⟩:Sl (Int×(Int×Int)))=some ((1,mo 2 [(0,4)]),0):=by
 rw [pQ (.inr rfl) (by simp)];rfl
theorem qZ(t:Tk)(ht:inK .i64 t.1∧(inK .u8 t.2.1.1∧inK .u8 t.2.1.2)∧SlW 3 (fun x:E3=>inK .i64 x.1∧inK .i64 x.2.1∧inK .i64 x.2.2) t.2.2.1∧SlW 2 (fun x:It=>inK .i64 x.1∧inK .i64 x.2) t.2.2.2.1∧SlW 2 (fun x:It=>inK .i64 x.1∧inK .i64 x.2) t.2.2.2.2.1∧SlW 1 (fun x=>inK .u64 x) t.2.2.2.2.2.1∧True):jp t=some true:=by
 have OT:=UU ht
 obtain⟨m,l,e1,hM⟩:=MH t OT fun x hx=>by
  have:=ht.2.2.1.2.2.2 x hx
  exact⟨uE this.1,uE this.2.1,uE this.2.2⟩
 obtain⟨u,e2,o2,_⟩:=OB t OT t.2.2.2.1 OT.x OT.xl OT.xv;obtain⟨f,e3,o4,o5⟩:=MG t OT;have hr:=MF t.1;have e4:=MI hM;have hul:=kE o2.1;obtain⟨d,e5,hd⟩:=Fg (v:=(cH t.2.1.2,u)) o2.2.1 (by simp only at hul ⊢;omega) o2.2.2;rw [EY o2.1]at hd;have e6:=fun o=>zO hM hr o2 hd o4 o5 o;have e7:=fun o=>BM (r:=eY t.1) (Xn hM) hd.ok o4 o5 o;have k1:=fun o=>MD (eY t.1) m d f.l o;have e8:=fun o=>My (qW (eY t.1) m d f.l o).1 (k1 o).1 (by have:=(k1 o).2;omega);have hC:=Fh hM;obtain⟨w,hw⟩:=Int.eq_ofNat_of_zero_le hM.hc.1;have hc:=hM.hc;have e9:=BQ (k:=w) (by omega) 1;have e11:gK m=some (l.length:Int):=KM.ES hM
 have e12:KM.jf (KM.cS l) ((mo 2 (kv w 1)).l.map (·.1))=l.length:=by
  rw [gS]
  have:(kv w 1).map (·.1)=(List.range w).map fun(i:Nat)=>(i:Int):=by unfold kv;rw [List.map_map];rfl
  rw [this,HA hC.h0,KM.Hi (fun x hx=>(hC.p x hx).1.2) (by omega),KM.zu]
 have e10:my (KM.zx (cH t.2.1.1) (cH t.2.1.2) (KM.cS l)) ((w:Int),mo 2 (kv w 1))=some (l.length:Int):=by
  rw [BP hC (MM (k:=w) (by omega) (x:=1) (by unfold cK;omega)),e12]
 rw [←hw]at e9 e10;have e13:=mR t.1;have e14:=OK;have hm2:m.2.1=cH t.2.1.2:=hM.e2;clear hM hC hd;obtain⟨r,⟨n1,n2⟩,s4,x,y,g,o⟩:=t;simp only at*;generalize KM.zx (cH n1) (cH n2) (KM.cS l)=c at*;obtain⟨m1,m2,m3,m4,m5⟩:=m;obtain⟨c1,c2,c3,c4,c5,c6⟩:=c;obtain⟨d1,d2,d3⟩:=d;simp only at hm2;subst hm2;unfold jp;simp only [e13,e1,e2,e3,e4,e5,e6,e7,e14,zbS,gS,e8,e9,e10,e11,if_true];rfl
end Ev
end
end Go.Proofs.YtgefmokmjdeecaaDoor
