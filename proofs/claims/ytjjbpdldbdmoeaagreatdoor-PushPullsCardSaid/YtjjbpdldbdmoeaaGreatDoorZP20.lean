/- Texts of a claim, joined. -/
import Derived.Test.YtjjbpdldbdmoeaaGreatDoorZP19
set_option linter.unusedVariables false
set_option linter.unusedSimpArgs false
namespace Go.Proofs.YtjjbpdldbdmoeaaGreatDoor
noncomputable section
namespace Ev
open Go
abbrev Wd:=Int×Int
abbrev Dn:=Int×Sl Int×Sl Int
def iN(r:Int)(h:Int->Option Int)(acc:Option Wd)(x:Int×Int):Option Wd:=
 match h x.1 with
 |none=>acc
 |some y=>some (match acc with|none=>pW r x.2 y|some a=>eQ r a (pW r x.2 y))
def eE(r:Int)(h:Int->Option Int):List (Int×Int)->Option Wd->Option Wd
 | [],acc=>acc
 |x::l,acc=>eE r h l (iN r h acc x)
def wa:Option Wd->Bool
 |none=>false
 |some _=>true
def ux:Option Wd->Wd
 |none=>(0,0)
 |some w=>w
theorem YE{R:Type}{b:Bool×Int×Int×Int->Option ((Bool×Int×Int×Int)⊕((Bool×Int×Int)⊕ R))}{r:Int}{h:Int->Option Int}{items:List (Int×Int)}{f:Int}
  (hs:∀j acc (hj:j<items.length),b (wa acc,f+(j:Int),ux acc)=some (.inl (wa (iN r h acc items[j]),f+((j+1:Nat):Int),ux (iN r h acc items[j]))))
  (he:∀acc,b (wa acc,f+(items.length:Int),ux acc)=some (.inr (.inl (wa acc,ux acc)))):aK b (false,f,0,0)=some (.inl (wa (eE r h items none),ux (eE r h items none))):=by
 obtain⟨q,q1,q2⟩:=cr (b:=b) items.length (λj a=>∃acc,a=(wa acc,f+(j:Int),ux acc)/\eE r h (items.drop j) acc=eE r h items none) (λq=>q= .inl (wa (eE r h items none),ux (eE r h items none)))
  (by
   rintro j _ hj ⟨acc,rfl,ha⟩;rw [List.drop_eq_getElem_cons hj]at ha
   exact .inl ⟨_,hs j acc hj,_,rfl,ha⟩)
  (by
   rintro _ ⟨acc,rfl,ha⟩;rw [List.drop_length]at ha;refine⟨_,he acc,?_⟩
   rw [<-ha];rfl) 0 (Nat.zero_le _) (false,f,0,0) ⟨none,by simp [wa,ux],by simp⟩
 rw [q1,q2]
def eF(m:Mx)(i:Nat):List (Int×Int):=(gg m.2.2.2.1.l (m.2.2.1.l.getD i 0) (m.2.2.1.l.getD (i+1) 0)).zip (gg m.2.2.2.2.l (m.2.2.1.l.getD i 0) (m.2.2.1.l.getD (i+1) 0))
structure ZW(m:Mx)(i:Nat)(f t:Int):Prop where
 f1:atS 1 m.2.2.1 (i:Int)=some f
 t1:atS 1 m.2.2.1 (IntKind.i64.wrap ((i:Int)+1))=some t
 len:((eF m i).length:Int)=t - f
 get:∀j (hj:j<(eF m i).length),atS 1 m.2.2.2.1 (f+(j:Int))=some (eF m i)[j].1/\atS 1 m.2.2.2.2 (f+(j:Int))=some (eF m i)[j].2/\0<=(eF m i)[j].1/\(eF m i)[j].1<m.2.1/\cC (eF m i)[j].2/\f+(j:Int)<t/\IntKind.i64.wrap (f+(j:Int)+1)=f+((j+1:Nat):Int)
theorem UT{m:Mx}(h:OkM m)(hr:eK m=true){i:Nat}(hi:(i:Int)<m.1):∃f t,ZW m i f t:=by
 obtain⟨r1,r2,r3,r4,r5,r6⟩:=lw hr;obtain⟨p1,p2,p3,p4⟩:=r6 i hi;have e1:=cg h.st (j:=i) (by omega);have e2:=cg h.st (j:=i+1) (by omega);rw [<-kW]at e1 e2;have w1:IntKind.i64.wrap ((i:Int)+1)=((i+1:Nat):Int):=ci (n:=m.1.toNat) (by omega) (by omega);refine⟨m.2.2.1.l.getD i 0,m.2.2.1.l.getD (i+1) 0,e1,by rw [w1];exact e2,?_,λj hj=> ?_⟩
 .unfold eF;rw [List.length_zip,lk ⟨p1,p2,p3⟩,lk ⟨p1,p2,by omega⟩];omega
 .have hlen:j<(m.2.2.1.l.getD (i+1) 0).toNat - (m.2.2.1.l.getD i 0).toNat:=by
   unfold eF at hj;rw [List.length_zip,lk ⟨p1,p2,p3⟩]at hj;omega
  have g1:=Kt (l:=m.2.2.2.1.l) ⟨p1,p2,p3⟩ hlen;have g2:=Kt (l:=m.2.2.2.2.l) (f:=m.2.2.1.l.getD i 0) (t:=m.2.2.1.l.getD (i+1) 0) ⟨p1,p2,by omega⟩ hlen;have hc:=ascI_iff.1 p4 j (by rw [lk ⟨p1,p2,p3⟩];exact hlen)
  have hz:(eF m i)[j]=(m.2.2.2.1.l[(m.2.2.1.l.getD i 0).toNat+j]'(by omega),m.2.2.2.2.l[(m.2.2.1.l.getD i 0).toNat+j]'(by omega)):=by
   simp only [eF,List.getElem_zip,g1,g2]
  rw [hz];simp only;rw [g1]at hc;have a1:=cg h.co (j:=(m.2.2.1.l.getD i 0).toNat+j) (by omega);have a2:=cg h.va (j:=(m.2.2.1.l.getD i 0).toNat+j) (by omega);rw [show(((m.2.2.1.l.getD i 0).toNat+j:Nat):Int)=m.2.2.1.l.getD i 0+(j:Int)by omega]at a1 a2;refine⟨a1,a2,hc.1,hc.2.1,?_,by omega,?_⟩
  .exact h.v64 _ (List.getElem_mem _)
  .rw [cY (by omega) (by omega)];omega
theorem UU{d:Dn}(h:OkD d){k y:Int}(hk:mq d k=some y):cC y:=by
 unfold mq at hk;split at hk
 .simp only [zsI]at hk;rw [<-hk,List.getD_eq_getElem?_getD]
  cases hg:d.2.2.l[k.toNat]? with
  |none=>simp [cC]
  |some x=>exact h.v64 x (List.mem_of_getElem? hg)
 .simp at hk
theorem KO{r:Int}{m:Mx}{d:Dn}(hd:OkD d)(hrd:mW d=true)(hc:d.1=m.2.1){i:Nat}{f t:Int}(R:ZW m i f t){b:Bool×Int×Int×Int->Option ((Bool×Int×Int×Int)⊕((Bool×Int×Int)⊕ Empty))}
  (hb:b=fL r d.2.1 d.2.2 m.2.2.1 m.2.2.2.1 m.2.2.2.2 (i:Int)∨b=fM r d.2.1 d.2.2 m.2.2.1 m.2.2.2.1 m.2.2.2.2 (i:Int)):aK b (false,f,0,0)=some (.inl (wa (eE r (mq d) (eF m i) none),ux (eE r (mq d) (eF m i) none))):=by
 obtain⟨r1,r2,r3,r4,r5⟩:=Ks hrd;refine YE (λj acc hj=> ?_) λacc=> ?_
 .obtain⟨g1,g2,g3,g4,g5,g6,g7⟩:=R.get j hj;generalize (eF m i)[j]=x at*;have hh:=iB d.2.1 x.1.toNat hd.has hd.bits (by omega);rw [show((x.1.toNat:Nat):Int)=x.1 by omega]at hh;have hv:=cg (s:=d.2.2) hd.vals (j:=x.1.toNat) (by omega);rw [<-kW,show((x.1.toNat:Nat):Int)=x.1 by omega]at hv;have key:∀y,mq d x.1=some y->eM r x.2 y=some (pW r x.2 y):=λy hy=>nH r g5 (UU hd hy)
  have hden:mq d x.1=if gB d.2.1.l x.1.toNat=true then some (d.2.2.l.getD x.1.toNat 0)else none:=by
   unfold mq;by_cases hx:gB d.2.1.l x.1.toNat=true
   .rw [if_pos ⟨g3,hx⟩,if_pos hx]
   .rw [if_neg (λe=>hx e.2),if_neg hx]
  have go:b (wa acc,f+(j:Int),ux acc)=some (.inl (wa (iN r (mq d) acc x),f+((j+1:Nat):Int),ux (iN r (mq d) acc x))):=by
   unfold iN;rcases hb with rfl|rfl
   .cases hx:gB d.2.1.l x.1.toNat with
    |false=>
     rw [hx]at hden hh;rw [show mq d x.1=none by rw [hden];simp];simp only [fL,R.t1,g1,g7,hh,zbS,if_pos g6];rfl
    |true=>
     rw [hx]at hden hh;rw [if_pos rfl]at hden;have hk:=key _ hden;rw [hden];simp only [fL,R.t1,g1,g2,g7,hh,hv,zbS,if_pos g6,hk]
     cases acc with
     |none=>rfl
     |some w=>simp only [wa,ux,if_true,lf,zbS]
   .cases hx:gB d.2.1.l x.1.toNat with
    |false=>
     rw [hx]at hden hh;rw [show mq d x.1=none by rw [hden];simp];simp only [fM,R.t1,g1,g7,hh,zbS,if_pos g6];rfl
    |true=>
     rw [hx]at hden hh;rw [if_pos rfl]at hden;have hk:=key _ hden;rw [hden];simp only [fM,R.t1,g1,g2,g7,hh,hv,zbS,if_pos g6,hk]
     cases acc with
     |none=>rfl
     |some w=>simp only [wa,ux,if_true,lf,zbS]
  exact go
 .have hn:¬f+((eF m i).length:Int)<t:=by rw [R.len];omega
  rcases hb with rfl|rfl
  .simp only [fL,R.t1,zbS,if_neg hn]
  .simp only [fM,R.t1,zbS,if_neg hn]
def Nm(r:Int)(h:Int->Option Int)(m:Mx)(ask:Nat->Bool)(i:Nat):Option (Int×Wd):=if ask i=true then(eE r h (eF m i) none).map λw=>((i:Int),w)else none
def nS(r:Int)(h:Int->Option Int)(m:Mx)(ask:Nat->Bool)(n:Nat):List (Int×Wd):=(List.range n).filterMap (Nm r h m ask)
theorem BP(r:Int)(h:Int->Option Int)(m:Mx)(ask:Nat->Bool)(n:Nat):nS r h m ask (n+1)=nS r h m ask n++(Nm r h m ask n).toList:=by
 unfold nS;rw [List.range_succ,List.filterMap_append];congr 1
 all_goals (cases hs:Nm r h m ask n<;>simp [hs])
theorem EF(r:Int)(h:Int->Option Int)(m:Mx)(ask:Nat->Bool)(n:Nat):(nS r h m ask n).length<=n:=by
 unfold nS
 have:=List.length_filterMap_le (Nm r h m ask) (List.range n)
 simpa using this
def pj(d:Dn):Dn:=if mW d=true then d else(0,iE,iE)
theorem KP(d:Dn):mW (pj d)=true:=by unfold pj;split;assumption;rfl
theorem UV{d:Dn}(h:OkD d):OkD (pj d):=by
 unfold pj;split
 .exact h
 .exact⟨jp,λx hx=>by simp [iE]at hx,jp,λx hx=>by simp [iE]at hx,by simp [iE],by simp [iE]⟩
def rF(ws:List Int)(o:Bool)(i:Nat):Bool:=gB ws i !=o
def BQ(r:Int)(m:Mx)(d:Dn)(ws:List Int)(o:Bool):Sl (Int×Wd)×Int:=
 if okR r=true then(if(pj d).1=(nR m).2.1 then(mo 3 (nS r (mq (pj d)) (nR m) (rF ws o) (nR m).1.toNat),0)else(iE,4))else(iE,8)
theorem Pa{l:List (Int×Wd)}(hl:l.length<=5000)(x:Int×Wd):app l [x]=some (l++ [x]):=ik (by simp;unfold cu;omega)
theorem QX{r:Int}{m:Mx}{d:Dn}(hm:OkM m)(hrm:eK m=true)(hd:OkD d)(hrd:mW d=true)(hc:d.1=m.2.1){s:Sl Int}(hs:okS 1 s)(hu:qN s.l)(o:Bool):
  aK (gA r d.2.1 d.2.2 s m.1 m.2.2.1 m.2.2.2.1 m.2.2.2.2) (0,o,[])=some (.inl (nS r (mq d) m (rF s.l o) m.1.toNat)):=by
 obtain⟨r1,r2,r3,r4,r5,r6⟩:=lw hrm
 obtain⟨q,q1,q2⟩:=cr (b:=gA r d.2.1 d.2.2 s m.1 m.2.2.1 m.2.2.2.1 m.2.2.2.2) m.1.toNat (λj a=>a=((j:Int),o,nS r (mq d) m (rF s.l o) j)) (λq=>q= .inl (nS r (mq d) m (rF s.l o) m.1.toNat))
  (by
   rintro j _ hj rfl;have hjm:(j:Int)<m.1:=by omega
   obtain⟨f,t,R⟩:=UT hm hrm hjm;have hh:=iB s j hs hu (by omega);have h5:=KO (r:=r) hd hrd hc R (.inl rfl);have h6:=KO (r:=r) hd hrd hc R (.inr rfl);have hlen:=EF r (mq d) m (rF s.l o) j;have hap:=λx=>Pa (l:=nS r (mq d) m (rF s.l o) j) (by omega) x;simp only [gA,hh,R.f1,h5,h6,zbS,Sum.elim_inl,ci hj (by omega),if_pos hjm,hap];rw [BP];refine .inl ?_
   have hI:Nm r (mq d) m (rF s.l o) j=if(gB s.l j !=o)=true then(eE r (mq d) (eF m j) none).map (λw=>((j:Int),w))else none:=rfl
   rw [hI]
   cases hb:gB s.l j<;>cases o<;>cases hx:eE r (mq d) (eF m j) none<;>exact⟨_,rfl,by simp [ux]⟩)
  (by
   rintro _ rfl
   refine⟨_,if_neg (by omega),rfl⟩) 0 (Nat.zero_le _) (0,o,[]) rfl
 rw [q1,q2]
theorem BS{m:Mx}(hrm:eK m=true)(h0:m.2.1=0){i:Nat}(hi:(i:Int)<m.1):eF m i= []:=by
 obtain⟨r1,r2,r3,r4,r5,r6⟩:=lw hrm;obtain⟨p1,p2,p3,p4⟩:=r6 i hi;unfold eF
 cases hl:gg m.2.2.2.1.l (m.2.2.1.l.getD i 0) (m.2.2.1.l.getD (i+1) 0)with
 |nil=>rfl
 |cons x l=>
  exfalso
  have:=ascI_iff.1 p4 0 (by rw [hl];simp)
  omega
theorem QY{r:Int}{m:Mx}{h:Int->Option Int}(hrm:eK m=true)(h0:m.2.1=0)(ask:Nat->Bool):nS r h m ask m.1.toNat= []:=by
 unfold nS;rw [List.filterMap_eq_nil_iff];intro i hi;rw [List.mem_range]at hi;unfold Nm;rw [BS hrm h0 (by omega)];simp [eE]
theorem Nn{r:Int}{m:Mx}(hm:OkM m)(hrm:eK m=true)(h0:m.2.1=0){s:Sl Int}(hs:okS 1 s)(hu:qN s.l)(o:Bool):aK (gz s m.1 m.2.2.1 m.2.2.2.1 m.2.2.2.2) (0,o)=some (.inl ()):=by
 obtain⟨r1,r2,r3,r4,r5,r6⟩:=lw hrm
 obtain⟨q,q1,q2⟩:=cr (b:=gz s m.1 m.2.2.1 m.2.2.2.1 m.2.2.2.2) m.1.toNat (λj a=>a=((j:Int),o)) (λq=>q= .inl ())
  (by
   rintro j _ hj rfl;have hjm:(j:Int)<m.1:=by omega
   obtain⟨f,t,R⟩:=UT hm hrm hjm;have hh:=iB s j hs hu (by omega);have hl:=R.len;rw [BS hrm h0 hjm]at hl;simp only [List.length_nil]at hl;have h2:aK (iF m.2.2.1 m.2.2.2.1 m.2.2.2.2 (j:Int)) f=some (.inl ()):=jv (by simp only [iF,R.t1,zbS];rw [if_neg (by omega)]);have h3:aK (iG m.2.2.1 m.2.2.2.1 m.2.2.2.2 (j:Int)) f=some (.inl ()):=jv (by simp only [iG,R.t1,zbS];rw [if_neg (by omega)]);simp only [gz,hh,R.f1,h2,h3,zbS,Sum.elim_inl,ci hj (by omega),if_pos hjm];refine .inl ?_
   cases hb:gB s.l j<;>cases o<;>exact⟨_,rfl,rfl⟩)
  (by
   rintro _ rfl
   refine⟨_,if_neg (by omega),rfl⟩) 0 (Nat.zero_le _) (0,o) rfl
 rw [q1,q2]
theorem Hz{r:Int}{m:Mx}{d:Dn}(hm:OkM m)(hd:OkD d){s:Sl Int}(hs:okS 1 s)(hu:qN s.l)(o:Bool):pg r m d s o=some (BQ r m d s.l o):=by
 have e1:=vE hm;have e2:=BF hd;have hm':=UL hm;have hrm:=yG m;have hd':=UV hd;have hrd:=KP d;obtain⟨m1,m2,m3,m4,m5⟩:=m;obtain⟨d1,d2,d3⟩:=d;unfold pg BQ;simp only [pH,zbS];by_cases c:okR r=true
 .have c':(decide (1<=r)&& decide (r<=5))=true:=c;rw [if_pos c',if_pos c,e1];simp only [zbS,e2];generalize nR (m1,m2,m3,m4,m5)=u at hm' hrm ⊢
  cases hr:mW (d1,d2,d3)with
  |true=>
   rw [show pj (d1,d2,d3)=(d1,d2,d3)by unfold pj;rw [if_pos hr]]at hd' hrd ⊢;simp only [if_true];by_cases hn:d1=u.2.1
   .rw [if_neg (λh=>h hn),if_pos hn]
    have:=QX (r:=r) hm' hrm hd' hrd hn hs hu o
    simp only at this;rw [this];rfl
   .rw [if_pos hn,if_neg hn];rfl
  |false=>
   rw [show pj (d1,d2,d3)=(0,iE,iE)by unfold pj;rw [if_neg (by rw [hr];simp)]]at hd' hrd ⊢;simp only [Bool.false_eq_true,if_false];by_cases hn:(0:Int)=u.2.1
   .rw [if_neg (λh=>h hn),if_pos hn]
    have:=Nn (r:=r) hm' hrm hn.symm hs hu o
    rw [this,QY hrm hn.symm];rfl
   .rw [if_pos hn,if_neg hn];rfl
 .have c':¬(decide (1<=r)&& decide (r<=5))=true:=c;rw [if_neg c',if_neg c];rfl
theorem DY(s:Sl (Int×Wd))(hok:okS 3 s)(hl:s.l.length<=9223372036854775807):eC s s=some true:=by
 unfold eC;rw [if_neg (by simp)]
 obtain⟨q,h1,h2⟩:=cr (b:=dN s s) s.l.length (λj a=>a=(j:Int)) (λq=>q= .inl ())
  (by
   rintro j _ hj rfl;simp only [dN,cg hok hj,zbS,ci hj (by omega)];rw [if_pos (by omega)]
   exact .inl ⟨_,if_pos (by simp),rfl⟩)
  (by
   rintro _ rfl
   exact⟨_,if_neg (by omega),rfl⟩) 0 (Nat.zero_le _) 0 rfl
 subst h2;rw [h1];rfl
theorem UW(r:Int)(m:Mx)(d:Dn)(ws:List Int)(o:Bool):okS 3 (BQ r m d ws o).1/\(BQ r m d ws o).1.l.length<=4096:=by
 have hn:=(lw (yG m)).1;unfold BQ;split
 .split
  .refine⟨mS _,?_⟩
   have:=EF r (mq (pj d)) (nR m) (rF ws o) (nR m).1.toNat
   simp only [iU];omega
  .exact⟨jp,by simp [iE]⟩
 .exact⟨jp,by simp [iE]⟩
end Ev
end
noncomputable section
namespace Ev
open Go
def ee(n:Nat)(f:Nat->Int):List Int:=(List.range (n+1)).map f
theorem dY(n:Nat)(f:Nat->Int):(ee n f).length=n+1:=by unfold ee;simp
theorem dw{n k:Nat}(f:Nat->Int)(h:k<=n):(ee n f)[k]? =some (f k):=by
 unfold ee;rw [List.getElem?_map,List.getElem?_range (by omega)];rfl
theorem gh{n k:Nat}(f:Nat->Int)(h:k<=n):(ee n f).getD k 0=f k:=by rw [List.getD_eq_getElem?_getD,dw f h];rfl
theorem eg{n:Nat}{f g:Nat->Int}(h:∀k,k<=n->f k=g k):ee n f=ee n g:=by
 unfold ee;refine List.map_congr_left λk hk=>h k ?_;simp at hk;omega
theorem rg{n k:Nat}(f:Nat->Int)(v:Int)(h:k<=n):(ee n f).set k v=ee n λi=>if i=k then v else f i:=by
 refine List.ext_getElem? λi=> ?_;rw [List.getElem?_set];by_cases hi:i<=n
 .rw [dw _ hi];by_cases e:k=i
  .subst e;rw [if_pos rfl,if_pos (by rw [dY];omega),dw _ hi,if_pos rfl]
  .rw [if_neg e,dw _ hi,if_neg (Ne.symm e)]
 .rw [if_neg (by omega)];rw [List.getElem?_eq_none (by rw [dY];omega),List.getElem?_eq_none (by rw [dY];omega)]
theorem so(n:Nat):List.replicate (n+1) (0:Int)=ee n λ_=>0:=by
 refine List.ext_getElem? λi=> ?_;by_cases hi:i<=n
 .rw [dw _ hi,List.getElem?_replicate,if_pos (by omega)]
 .rw [List.getElem?_eq_none (by simp;omega),List.getElem?_eq_none (by rw [dY];omega)]
def aH(l:List E3)(k:Nat):Nat:=l.countP λx=>decide (x.1<(k:Int))
theorem ml(l:List E3)(k:Nat):aH l k<=l.length:=List.countP_le_length
theorem JF(l:List E3)(x:E3)(k:Nat):aH (l++ [x]) k=aH l k+if x.1<(k:Int)then 1 else 0:=by
 unfold aH;rw [List.countP_append];congr 1;by_cases h:x.1<(k:Int)<;>simp [h]
def nr(n c:Int)(l:List E3):Mx:=(n,c,⟨true,1,ee n.toNat λk=>((aH l k:Nat):Int)⟩,mo 1 (l.map (·.2.1)),mo 1 (l.map (·.2.2)))
theorem oQ{l:List E3}(h:l.Pairwise λa b=>a.1<=b.1)(k:Int):(l.filter λx=>decide (x.1<k))++(l.filter λx=> !decide (x.1<k))=l:=by
 induction l with
 |nil=>rfl
 |cons x l ih=>
  rw [List.pairwise_cons]at h;have ih:=ih h.2;by_cases c:x.1<k
  .rw [List.filter_cons_of_pos (by simp [c]),List.filter_cons_of_neg (by simp [c]),List.cons_append,ih]
  .have e1:(l.filter λx=>decide (x.1<k))= []:=by
    rw [List.filter_eq_nil_iff];intro y hy
    have:=h.1 y hy
    simp;omega
   rw [e1,List.nil_append]at ih;rw [List.filter_cons_of_neg (by simp [c]),List.filter_cons_of_pos (by simp [c]),e1,List.nil_append,ih]
theorem pO{l:List E3}(h:l.Pairwise λa b=>a.1<=b.1)(k:Nat):l.take (aH l k)=(l.filter λx=>decide (x.1<(k:Int)))/\l.drop (aH l k)=l.filter λx=> !decide (x.1<(k:Int)):=by
 have e:=oQ h (k:Int);have hl:aH l k=(l.filter λx=>decide (x.1<(k:Int))).length:=by unfold aH;rw [List.countP_eq_length_filter]
 have key:∀A B:List E3,A++B=l->l.take A.length=A/\l.drop A.length=B:=by
  rintro A B rfl;exact⟨List.take_left,List.drop_left⟩
 rw [hl];exact key _ _ e
def qK(l:List E3)(i:Nat):List E3:=(l.filter λx=> !decide (x.1<(i:Int))).filter λx=>decide (x.1<((i+1:Nat):Int))
theorem rowE_mem{l:List E3}{i:Nat}{x:E3}:x∈qK l i↔x∈l/\x.1=(i:Int):=by
 unfold qK;simp only [List.mem_filter,Bool.not_eq_true',decide_eq_false_iff_not,decide_eq_true_eq];constructor
 .rintro⟨⟨h1,h2⟩,h3⟩;exact⟨h1,by omega⟩
 .rintro⟨h1,h2⟩;exact⟨⟨h1,by omega⟩,by omega⟩
theorem oS{l:List E3}(h:dF l):l.Pairwise λa b=>a.1<=b.1:=h.imp λhb=>by rw [bel_iff]at hb;omega
theorem nJ{l:List E3}(h:dF l)(i:Nat):aH l i<=aH l (i+1)/\(l.drop (aH l i)).take (aH l (i+1) - aH l i)=qK l i:=by
 have hle:=oS h;have e1:=(pO hle i).2
 have hmono:aH l i<=aH l (i+1):=by
  unfold aH;refine List.countP_mono_left λx _ hx=> ?_;simp only [decide_eq_true_eq]at hx ⊢;omega
 refine⟨hmono,?_⟩;rw [e1];have hg:(l.filter λx=> !decide (x.1<(i:Int))).Pairwise λa b=>a.1<=b.1:=hle.sublist List.filter_sublist;have e2:=(pO hg (i+1)).1
 have hc:aH (l.filter λx=> !decide (x.1<(i:Int))) (i+1)=aH l (i+1) - aH l i:=by
  have h1:aH l (i+1)=aH (l.filter λx=>decide (x.1<(i:Int))) (i+1)+aH (l.filter λx=> !decide (x.1<(i:Int))) (i+1):=by
   conv=>lhs;rw [<-oQ hle (i:Int)]
   unfold aH;rw [List.countP_append]
  have h2:aH (l.filter λx=>decide (x.1<(i:Int))) (i+1)=aH l i:=by
   unfold aH;rw [List.countP_filter];refine List.countP_congr λx _=> ?_;simp only [Bool.and_eq_true,decide_eq_true_eq];omega
  omega
 rw [<-hc,e2];rfl
theorem ug{l:List E3}(h:dF l)(i:Nat):((qK l i).map (·.2.1)).Pairwise (·<·):=by
 rw [List.pairwise_map];have hs:dF (qK l i):=h.sublist (List.filter_sublist.trans List.filter_sublist);refine hs.imp_of_mem λ{a b} ha hb hab=> ?_;have h1:=(rowE_mem.1 ha).2;have h2:=(rowE_mem.1 hb).2;rw [bel_iff]at hab;omega
theorem oT{α β:Type}(f:α->β)(l:List α)(a b:Int):gg (l.map f) a b=(gg l a b).map f:=by unfold gg;rw [<-List.map_drop,<-List.map_take]
theorem UX{n c:Int}{l:List E3}(h:dF l){i:Nat}(hi:(i:Int)<n):eF (nr n c l) i=(qK l i).map λx=>(x.2.1,x.2.2):=by
 unfold eF nr;simp only [iU];rw [gh _ (by omega),gh _ (by omega),oT,oT]
 have e:gg l ((aH l i:Nat):Int) ((aH l (i+1):Nat):Int)=qK l i:=by
  unfold gg;rw [Int.toNat_natCast,Int.toNat_natCast];exact(nJ h i).2
 rw [e,List.zip_map']
theorem uh{n c:Int}(hn:0<=n/\n<=4096)(hc:0<=c/\c<=4096){l:List E3}(hl:l.length<=65536)(h:dF l)(hp:∀x∈l,(0<=x.1/\x.1<n)/\0<=x.2.1/\x.2.1<c):eK (nr n c l)=true:=by
 have h0:aH l 0=0:=by
  unfold aH;rw [List.countP_eq_zero];intro x hx
  have:=(hp x hx).1.1
  simp;omega
 have hN:aH l n.toNat=l.length:=by
  unfold aH;rw [List.countP_eq_length];intro x hx
  have:=(hp x hx).1.2
  simp;omega
 unfold eK nr;simp only [iU,Bool.and_eq_true,decide_eq_true_eq,sizeF_iff,List.length_map,dY];refine⟨hn,hc,by omega,?_,trivial,hl,?_,?_⟩
 .rw [gh _ (Nat.zero_le _),h0];rfl
 .rw [gh _ (Nat.le_refl _),hN]
 .refine all_range.2 λi hi=> ?_;unfold iM;rw [gh _ (by omega),gh _ (by omega)];obtain⟨r1,r2⟩:=nJ h i;have hle:=ml l (i+1);simp only [Bool.and_eq_true,decide_eq_true_eq,List.length_map];refine⟨by omega,by omega,by omega,?_⟩
  have e:gg (l.map (·.2.1)) ((aH l i:Nat):Int) ((aH l (i+1):Nat):Int)=(qK l i).map (·.2.1):=by
   rw [oT];unfold gg;rw [Int.toNat_natCast,Int.toNat_natCast,r2]
  rw [e]
  exact OX (λ_=>0) (ug h i) λp hp'=>by
   obtain⟨x,hx,rfl⟩:=List.mem_map.1 hp'
   have:=(hp x (rowE_mem.1 hx).1).2
   omega
def dn(n:Int):Int:=n.tmod 40
theorem oe{n:Int}(h:0<=n/\n<=255):dK n=some (dn n)/\0<=dn n/\dn n<40:=by
 unfold dK dn jw;rw [cY (by omega) (by omega),if_pos (by decide),Int.tmod_eq_emod_of_nonneg (by omega)];exact⟨rfl,by omega,by omega⟩
end Ev
end
noncomputable section
namespace Ev
open Go
end Ev
end
noncomputable section
namespace Ev
open Go
theorem Pb{p y:Int}:∀{l:List It},dp p l=some y->(p,y)∈l
 |x::l,h=>by
  unfold dp at h;split at h
  .rename_i e;simp only [zsI]at h;rw [<-e,<-h];exact List.mem_cons_self
  .exact List.mem_cons_of_mem _ (Pb h)
theorem sizeF_iff2{n:Int}:eo n=true↔0<=n/\n<=4096:=by unfold eo;simp
def pk(n:Nat)(f:Nat->Int):List Int:=(List.range n).map f
theorem pm(n:Nat)(f:Nat->Int):(pk n f).length=n:=by unfold pk;simp
theorem pn{n k:Nat}(f:Nat->Int)(h:k<n):(pk n f)[k]? =some (f k):=by
 unfold pk;rw [List.getElem?_map,List.getElem?_range h];rfl
theorem EG{n k:Nat}(f:Nat->Int)(h:k<n):(pk n f).getD k 0=f k:=by rw [List.getD_eq_getElem?_getD,pn f h];rfl
theorem UY{n k:Nat}(f:Nat->Int)(v:Int)(h:k<n):(pk n f).set k v=pk n λi=>if i=k then v else f i:=by
 refine List.ext_getElem? λi=> ?_;rw [List.getElem?_set];by_cases hi:i<n
 .by_cases e:k=i
  .subst e;rw [if_pos rfl,if_pos (by rw [pm];omega),pn _ hi,if_pos rfl]
  .rw [if_neg e,pn _ hi,pn _ hi,if_neg (Ne.symm e)]
 .rw [if_neg (by omega)];rw [List.getElem?_eq_none (by rw [pm];omega),List.getElem?_eq_none (by rw [pm];omega)]
theorem No{n:Nat}{f g:Nat->Int}(h:∀k,k<n->f k=g k):pk n f=pk n g:=by
 unfold pk;refine List.map_congr_left λk hk=>h k ?_;simpa using hk
theorem QZ(n:Nat):List.replicate n (0:Int)=pk n λ_=>0:=by
 refine List.ext_getElem? λi=> ?_;by_cases hi:i<n
 .rw [pn _ hi,List.getElem?_replicate,if_pos hi]
 .rw [List.getElem?_eq_none (by simp;omega),List.getElem?_eq_none (by rw [pm];omega)]
theorem UZ{n:Nat}{f:Nat->Int}{x:Int}(h:x∈pk n f):∃k,k<n/\f k=x:=by
 unfold pk at h;obtain⟨k,hk,rfl⟩:=List.mem_map.1 h;exact⟨k,by simpa using hk,rfl⟩
theorem mem_places{p:Int}{l:List It}:p∈l.map (·.1)↔∃y,dp p l=some y:=by
 induction l with
 |nil=>simp [dp]
 |cons x l ih=>
  simp only [List.map_cons,List.mem_cons,dp];by_cases h:x.1=p
  .rw [if_pos h];exact⟨λ_=>⟨_,rfl⟩,λ_=> .inl h.symm⟩
  .rw [if_neg h,<-ih];exact⟨λh1=>h1.resolve_left (Ne.symm h),.inr⟩
end Ev
end
noncomputable section
namespace Ev
open Go
abbrev Tk:=Int×(Int×Int)×Sl E3×Sl It×Sl It×Sl Int×Bool
structure OkT(t:Tk):Prop where
 n1:0<=t.2.1.1/\t.2.1.1<=255
 n2:0<=t.2.1.2/\t.2.1.2<=255
 l:okS 3 t.2.2.1
 ll:t.2.2.1.l.length<=9223372036854775807
 x:okS 2 t.2.2.2.1
 xl:t.2.2.2.1.l.length<=9223372036854775807
 xv:∀q∈t.2.2.2.1.l,cC q.2
 y:okS 2 t.2.2.2.2.1
 yl:t.2.2.2.2.1.l.length<=9223372036854775807
 yv:∀q∈t.2.2.2.2.1.l,cC q.2
 f:okS 1 t.2.2.2.2.2.1
 fu:qN t.2.2.2.2.2.1.l
def fS(r:Int):Int:=if r<1 then 1 else if r>5 then 1 else r
theorem Ra(r:Int):okR (fS r)=true:=by
 unfold fS okR;split
 .decide
 .split
  .decide
  .rw [decide_eq_true (by omega),decide_eq_true (by omega)];rfl
theorem jT(r:Int):cO r=some (fS r):=by
 unfold cO fS;split
 .rfl
 .split<;>rfl
theorem KQ(a b:Int):cC (kr .i64 a b):=by unfold kr;exact Ah _
def zA(r n:Int):Int:=if r=5 then n else if r=2 then kr .i64 n 1 else if(kr .i64 n 4611686018427387903).tmod 5=0 then 4611686018427387904 else kr .i64 n 4611686018427387903
theorem mQ(r n:Int):cP r n=some (zA r n):=by
 unfold cP zA jw;split
 .rfl
 .split
  .rfl
  .rw [if_pos (by decide)];simp only [zbS];split<;>rfl
theorem KR{r n:Int}(h:cC n):cC (zA r n):=by
 unfold zA;split
 .exact h
 .split
  .exact KQ _ _
  .split
   .unfold cC;omega
   .exact KQ _ _
def BT(r n:Int):Int:=if r=5 then n.tmod 2147483648 else zA r n
theorem qC(r n:Int):de r n=some (BT r n):=by
 unfold de BT jw;split
 .rw [if_pos (by decide)];rfl
 .rw [mQ];rfl
theorem Vc{r n:Int}(h:cC n):cC (BT r n):=by
 unfold BT;split
 .have h1:=Int.tmod_lt_of_pos n (show(0:Int)<2147483648 by decide);have h2:=Int.lt_tmod_of_pos n (show(0:Int)<2147483648 by decide);unfold cC;omega
 .exact KR h
def BU(f:Int->Int)(l:List E3):List E3:=l.map λx=>(x.1,x.2.1,f x.2.2)
theorem Vd(f:Int->Int)(l:List E3):(BU f l).length=l.length:=by unfold BU;simp
theorem Np{f:Int->Int}{l:List E3}(h:dF l):dF (BU f l):=by
 unfold BU dF;rw [List.pairwise_map];refine h.imp λhb=> ?_;rw [bel_iff]at hb ⊢;exact hb
theorem KU{n:Int}{f:Int->Int}:∀{l:List It} {a:Int},asc a n l=true->asc a n (l.map λx=>(x.1,f x.2))=true
 | [],_,_=>rfl
 |x::l,a,h=>by
  simp only [List.map_cons,asc,Bool.and_eq_true,decide_eq_true_eq]at h ⊢;exact⟨h.1,KU h.2⟩
theorem Ve(t:Tk)(h:OkT t)(s:Sl It)(hs:okS 2 s)(hl:s.l.length<=9223372036854775807)(hv:∀q∈s.l,cC q.2):∃u:Sl It,cR t s=some (dn t.2.1.2,u)/\rC (dn t.2.1.2,u)/\∃w:List It,rC (dn t.2.1.2,mo 2 w)/\u=mo 2 (w.map λx=>(x.1,zA (fS t.1) x.2)):=by
 obtain⟨r,⟨n1,n2⟩,s4,x,y,f,o⟩:=t;have h2:=h.n2;simp only at h2 ⊢;obtain⟨z1,z2,z3⟩:=oe h2
 have hw8:IntKind.u8.wrap (dn n2)=dn n2:=by
  have:IntKind.u8.wrap (dn n2)=dn n2 % 256:=by simp [IntKind.wrap,IntKind.signed,IntKind.bits]
  rw [this];omega
 obtain⟨⟨k,t⟩,e1,g1,g2⟩:=DU (dn n2) s ⟨by omega,by omega⟩ hs hl hv
 have hk:k=dn n2:=by
  simp only at g2;rw [g2,Int.tmod_eq_emod_of_nonneg (by omega)];omega
 subst hk;have hz:=BB g1.1;have hlen:=mD g1.1;simp only at hlen;refine⟨mo 2 (t.l.map λx=>(x.1,zA (fS r) x.2)),?_,?_,t.l,?_,rfl⟩
 .unfold cR;simp only [z1,hw8,e1,zbS];have hok:okS 2 t:=g1.2.1
  obtain⟨q,q1,q2⟩:=cr (b:=bX r t) t.l.length (λj st=>st=((t.l.take j).map (λx=>(x.1,zA (fS r) x.2)),(j:Int))) (λq=>q= .inl (t.l.map λx=>(x.1,zA (fS r) x.2)))
   (by
    rintro j _ hj rfl;have ej:=cg hok hj;have ap:∀z:It,app ((t.l.take j).map (λx=>(x.1,zA (fS r) x.2))) [z]=some ((t.l.take j).map (λx=>(x.1,zA (fS r) x.2))++ [z]):=λz=>ik (by simp;unfold cu;omega);simp only [bX,ej,zbS,jT,mQ,ap,ci hj (by omega)];rw [if_pos (by omega)]
    exact .inl ⟨_,rfl,by rw [List.take_succ_eq_append_getElem hj,List.map_append];rfl⟩)
   (by
    rintro _ rfl;refine⟨.inl (t.l.map λx=>(x.1,zA (fS r) x.2)),?_,rfl⟩;simp only [bX]
    rw [if_neg (by omega),List.take_length]) 0 (Nat.zero_le _) ([],0) rfl
  rw [q1,q2];rfl
 .refine OW hz.1 hz.2 (KU (sr g1.1)) λx hx=> ?_;obtain⟨y,hy,rfl⟩:=List.mem_map.1 hx;exact KR (g1.2.2 y hy)
 .exact OW hz.1 hz.2 (sr g1.1) g1.2.2
theorem Rb(t:Tk)(h:OkT t):∃s:Sl Int,dS t=some s/\okS 1 s/\qN s.l:=by
 obtain⟨r,⟨n1,n2⟩,s4,x,y,f,o⟩:=t;have h1:=h.f;have h2:=h.fu;simp only at h1 h2;unfold dS;simp only;by_cases c:((f.l.length:Nat):Int)>2
 .rw [if_pos c]
  have hc:lA 1 f 0 2=some ⟨f.nn,f.sz,f.l.take 2⟩:=by
   unfold lA;rw [if_pos ⟨by omega,by omega,by omega,.inr rfl⟩];rfl
  rw [hc];refine⟨_,rfl,?_,λw hw=>h2 w (List.mem_of_mem_take hw)⟩;rcases h1 with h|h
  .left;simp [h]
  .exact .inr h
 .rw [if_neg c];exact⟨f,rfl,h1,h2⟩
theorem abV{t:Tk}(h:inK .i64 t.1/\(inK .u8 t.2.1.1/\inK .u8 t.2.1.2)/\SlW 3 (λx:E3=>inK .i64 x.1/\inK .i64 x.2.1/\inK .i64 x.2.2) t.2.2.1/\SlW 2 (λx:It=>inK .i64 x.1/\inK .i64 x.2) t.2.2.2.1/\SlW 2 (λx:It=>inK .i64 x.1/\inK .i64 x.2) t.2.2.2.2.1/\SlW 1 (λx=>inK .u64 x) t.2.2.2.2.2.1/\True):OkT t:=by
 obtain⟨_,⟨h1,h2⟩,h3,h4,h5,h6,_⟩:=h;exact⟨ZU h1,ZU h2,h3.ok,h3.2.2.1,h4.ok,h4.2.2.1,λq hq=>sb (h4.2.2.2 q hq).2,h5.ok,h5.2.2.1,λq hq=>sb (h5.2.2.2 q hq).2,h6.ok,Yw h6⟩
end Ev
end
noncomputable section
namespace Ev
open Go
end Ev
end
noncomputable section
namespace Ev
open Go
structure DV(d:Dn)(n:Nat)(f:Nat->Option Int):Prop where
 num:d.1=(n:Int)
 le:n<=4096
 has:okS 1 d.2.1
 bits:qN d.2.1.l
 len:d.2.1.l.length=(n+63)/ 64
 vals:okS 1 d.2.2
 vl:d.2.2.l=pk n λp=>(f p).getD 0
 at_:∀p,gB d.2.1.l p=(f p).isSome
 none_:∀p,n<=p->f p=none
 v64:∀p x,f p=some x->cC x
theorem DV.ok{d:Dn}{n:Nat}{f:Nat->Option Int}(h:DV d n f):OkD d:=by
 refine⟨h.has,h.bits,h.vals,λx hx=> ?_,?_,?_⟩
 .rw [h.vl]at hx;obtain⟨k,hk,rfl⟩:=UZ hx
  cases e:f k with
  |none=>simp [cC]
  |some y=>exact h.v64 k y e
 .have:=h.len;have:=h.le;omega
 .have:=h.le;rw [h.vl,pm];omega
theorem DV.right{d:Dn}{n:Nat}{f:Nat->Option Int}(h:DV d n f):mW d=true:=by
 unfold mW ur;rw [h.num,h.vl,pm];have hl:=h.le;have hw:=h.len;simp only [Bool.and_eq_true,decide_eq_true_eq,List.all_eq_true];refine⟨⟨sizeF_iff2.2 ⟨by omega,by omega⟩,by omega,λp hp=> ?_⟩,trivial,λi hi=> ?_⟩
 .obtain⟨p0,p1⟩:=places_mem.1 hp;rw [h.at_]at p1;by_cases hlt:p.toNat<n
  .omega
  .rw [h.none_ _ (by omega)]at p1;simp at p1
 .have hi':i<n:=by simpa using hi
  rw [EG _ hi',h.at_];cases f i<;>simp
theorem DV.den{d:Dn}{n:Nat}{f:Nat->Option Int}(h:DV d n f)(p:Int):mq d p=if 0<=p then f p.toNat else none:=by
 unfold mq;by_cases hp:0<=p
 .rw [if_pos hp,h.at_]
  cases e:f p.toNat with
  |none=>simp
  |some y=>
   have hlt:p.toNat<n:=by
    by_cases hlt:p.toNat<n
    .exact hlt
    .rw [h.none_ _ (by omega)]at e;simp at e
   rw [if_pos ⟨hp,rfl⟩,h.vl,EG _ hlt,e];rfl
 .rw [if_neg (λe=>hp e.1),if_neg hp]
theorem DV.congr{d:Dn}{n:Nat}{f g:Nat->Option Int}(h:DV d n f)(e:∀p,f p=g p):DV d n g:=by
 have:f=g:=funext e
 rw [<-this];exact h
theorem Vf{k:Int}{t:Sl It}(h:fk (k,t)=true){p:Int}{y:Int}(hp:dp p t.l=some y):0<=p/\p<k:=by
 obtain⟨x,hx,hxp⟩:=List.mem_map.1 (mem_places.2 ⟨y,hp⟩);obtain⟨j,hj,rfl⟩:=List.mem_iff_getElem.1 hx
 have:=vT h hj
 omega
end Ev
end
noncomputable section
namespace Ev
open Go
theorem nilD_dv:DV ((0,iE,iE):Dn) 0 λ_=>none:=
 ⟨rfl,by omega,jp,λx hx=>by simp [iE]at hx,rfl,jp,rfl,λp=>rfl,λp _=>rfl,λp x h=>by simp at h⟩
theorem pN{n:Nat}(h:n<=4096):fD (n:Int)=some (List.replicate ((n+63)/ 64) 0):=by
 unfold fD;have e:(((n:Int)+63)/ 64).toNat=(n+63)/ 64:=by omega
 have hlo:gP (((n:Int)+63)/ 64)=some ():=by unfold gP cu;rw [if_pos ⟨by omega,by omega⟩]
 simp only [mR (n:=(n:Int)) ⟨by omega,by omega⟩,hlo,zbS,e]
theorem vD(p:Nat):dQ (p:Int)=some ((2 ^(p % 64):Nat):Int):=by
 unfold dQ;simp only [Nb,zbS,Yx]
theorem Vg{ws:List Int}{p:Nat}(hu:qN ws)(hp:p / 64<ws.length):∃w,atL ws ((p / 64:Nat):Int)=some w/\(ws.set (p / 64) (orI .u64 w ((2 ^(p % 64):Nat):Int))).length=ws.length/\qN (ws.set (p / 64) (orI .u64 w ((2 ^(p % 64):Nat):Int)))/\∀i,gB (ws.set (p / 64) (orI .u64 w ((2 ^(p % 64):Nat):Int))) i=(gB ws i||decide (i=p)):=by
 have hw:=hu _ (List.getElem_mem hp);have hat:=Pr hp;obtain⟨w,hw2⟩:=Int.eq_ofNat_of_zero_le hw.1;rw [hw2]at hw hat;have hwlt:w<18446744073709551616:=by have:=hw.2;omega
 have hk:p % 64<64:=Nat.mod_lt _ (by decide);have hpow:=Nc hk;have hor:=abU hwlt hpow;have horl:w|||2 ^(p % 64)<2 ^ 64:=Nat.or_lt_two_pow (by omega) (by omega);refine⟨(w:Int),hat,by simp,λx hx=> ?_,λi=> ?_⟩
 .rcases List.mem_or_eq_of_mem_set hx with hx|rfl
  .exact hu x hx
  .rw [hor];unfold eJ;omega
 .rw [hor];by_cases e:i / 64=p / 64
  .rw [mE (ws:=ws.set _ _) e rfl (by rw [List.getElem?_set,if_pos rfl,if_pos hp]),mE e rfl (by rw [List.getElem?_eq_getElem hp,hw2])];simp only [Int.toNat_natCast];rw [Nat.testBit_or,Nat.testBit_two_pow];congr 1;by_cases e2:i=p
   .subst e2;simp
   .rw [decide_eq_false e2,decide_eq_false (by omega)]
  .have hne:(ws.set (p / 64) ((w|||2 ^(p % 64):Nat):Int))[i / 64]? =ws[i / 64]? :=by rw [List.getElem?_set,if_neg (Ne.symm e)]
   have e2:i≠p:=λh=>e (by rw [h]);rw [decide_eq_false e2,Bool.or_false];unfold gB;rw [hne]
theorem yx{n:Nat}(hn:n<=4096){s:Sl Int}(hs:okS 1 s)(hl:s.l.length<=9223372036854775807):∃q,fj (n:Int) s=some q/\q.length=(n+63)/ 64/\qN q/\∀i,gB q i=(decide (i<n)&& decide ((i:Int)∈s.l)):=by
 unfold fj;rw [pN hn];simp only [zbS]
 obtain⟨q,q1,w,rfl,w1,w2,w3⟩:=cr (b:=fF (n:Int) s) s.l.length (λj st=>∃w:List Int,st=(w,(j:Int))/\w.length=(n+63)/ 64/\qN w/\∀i,gB w i=(decide (i<n)&& decide ((i:Int)∈s.l.take j))) (λq=>∃w:List Int,q= .inl w/\w.length=(n+63)/ 64/\qN w/\∀i,gB w i=(decide (i<n)&& decide ((i:Int)∈s.l)))
  (by
   rintro j _ hj ⟨w,rfl,g1,g2,g3⟩;have ej:=cg hs hj;have htk:s.l.take (j+1)=s.l.take j++ [s.l[j]]:=by rw [List.take_succ_eq_append_getElem hj]
   rw [htk];generalize s.l[j]=x at ej;simp only [fF,ej,zbS,ci hj hl];rw [if_pos (by omega)]
   have same:¬(0<=x/\x<(n:Int))->∀i,gB w i=(decide (i<n)&& decide ((i:Int)∈s.l.take j++ [x])):=λh i=>by
    rw [g3 i];by_cases hi:i<n
    .rw [decide_eq_true hi];simp only [Bool.true_and];congr 1;simp only [List.mem_append,List.mem_cons,List.not_mem_nil,or_false,eq_iff_iff];exact⟨.inl,λh1=>h1.resolve_right λe=>h (by omega)⟩
    .rw [decide_eq_false hi];rfl
   by_cases c1:x >= 0
   .rw [if_pos c1];by_cases c2:x<(n:Int)
    .rw [if_pos c2,if_pos (by omega)];obtain⟨p,rfl⟩:=Int.eq_ofNat_of_zero_le c1;obtain⟨v,v1,v2,v3,v4⟩:=Vg (p:=p) g2 (by omega);simp only [Na (j:=p) (by omega),v1,vD,zbS,Int.toNat_natCast];refine .inl ⟨_,rfl,_,rfl,by rw [v2];exact g1,v3,λi=> ?_⟩;rw [v4 i,g3 i];by_cases hi:i<n
     .rw [decide_eq_true hi];simp only [Bool.true_and,List.mem_append,List.mem_cons,List.not_mem_nil,or_false,Bool.decide_or];congr 1;by_cases e:i=p
      .subst e;simp
      .rw [decide_eq_false e,decide_eq_false (by omega)]
     .rw [decide_eq_false hi,decide_eq_false (show¬i=p by omega)];rfl
    .rw [if_neg c2];exact .inl ⟨_,rfl,w,rfl,g1,g2,same (by omega)⟩
   .rw [if_neg c1]
    exact .inl ⟨_,rfl,w,rfl,g1,g2,same (by omega)⟩)
  (by
   rintro _ ⟨w,rfl,g1,g2,g3⟩;rw [List.take_length]at g3;refine⟨.inl w,?_,w,rfl,g1,g2,g3⟩;simp only [fF]
   rw [if_neg (by omega)]) 0 (Nat.zero_le _) (List.replicate ((n+63)/ 64) 0,0) ⟨_,rfl,by simp,λx hx=>by rw [List.eq_of_mem_replicate hx];unfold eJ;omega,λi=>by rw [UJ];simp⟩
 exact⟨w,by rw [q1];rfl,w1,w2,w3⟩
theorem tr(v:Int×Sl It)(hok:okS 2 v.2)(hl:v.2.l.length<=9223372036854775807):fe v=some (mc v):=by
 have e:=jS v hok hl;obtain⟨n,s⟩:=v;unfold fe mc;simp only [e,zbS];split<;>rfl
theorem qD{v:Int×Sl It}(hok:okS 2 v.2)(hl:v.2.l.length<=9223372036854775807):dM v=some ((mc v).2.l.map (·.1)):=by
 have e:=tr v hok hl;have k1:=UF v;have k2:=UE hok;obtain⟨n,s⟩:=v;unfold dM;simp only [e,zbS];generalize mc (n,s)=u at k1 k2;obtain⟨m,t⟩:=u;simp only at k1 k2 ⊢
 obtain⟨q,q1,q2⟩:=cr (b:=dV t) t.l.length (λj a=>a=((t.l.take j).map (·.1),(j:Int))) (λq=>q= .inl (t.l.map (·.1)))
  (by
   rintro j _ hj rfl;have ej:=cg k2 hj;have ap:app ((t.l.take j).map (·.1)) [t.l[j].1]=some ((t.l.take j).map (·.1)++ [t.l[j].1]):=ik (by simp;unfold cu;omega);simp only [dV,ej,ap,zbS,ci hj (by omega)];rw [if_pos (by omega)]
   exact .inl ⟨_,rfl,by rw [List.take_succ_eq_append_getElem hj,List.map_append];rfl⟩)
  (by
   rintro _ rfl
   exact⟨_,if_neg (by omega),by rw [List.take_length]⟩) 0 (Nat.zero_le _) ([],0) rfl
 rw [q1,q2];rfl
theorem Nq{k:Nat}{t:Sl It}(h:fk ((k:Int),t)=true)(p:Nat):(decide (p<k)&& decide ((p:Int)∈t.l.map (·.1)))=(dp (p:Int) t.l).isSome:=by
 cases hg:dp (p:Int) t.l with
 |none=>
  rw [decide_eq_false (p:=(p:Int)∈t.l.map (·.1)) (λhm=>by obtain⟨y,hy⟩:=mem_places.1 hm;rw [hg]at hy;simp at hy)];simp
 |some y=>
  have:=Vf h hg
  rw [decide_eq_true (mem_places.2 ⟨y,hg⟩),decide_eq_true (show p<k by omega)];rfl
theorem YF{n:Nat}{t:Sl It}(h:fk ((n:Int),t)=true)(hok:okS 2 t):aK (fK t) (0,List.replicate n 0)=some (.inl (pk n λp=>(dp (p:Int) t.l).getD 0)):=by
 have hlen:=mD h;simp only at hlen;rw [QZ]
 obtain⟨q,q1,q2⟩:=cr (b:=fK t) t.l.length (λj st=>st=((j:Int),pk n λp=>(dp (p:Int) (t.l.take j)).getD 0)) (λq=>q= .inl (pk n λp=>(dp (p:Int) t.l).getD 0))
  (by
   rintro j _ hj rfl;have ej:=cg hok hj;have hx:=vT h hj;have htk:=QO h hj;rw [List.take_succ_eq_append_getElem hj];generalize t.l[j]=x at ej hx htk;obtain⟨x1,x2⟩:=x;simp only at hx htk;obtain⟨p,rfl⟩:=Int.eq_ofNat_of_zero_le hx.1
   have hat:atL (pk n λp=>(dp (p:Int) (t.l.take j)).getD 0) (p:Int)=some ((dp (p:Int) (t.l.take j)).getD 0):=by
    unfold atL;rw [if_pos (by omega),Int.toNat_natCast,pn _ (by omega)]
   simp only [fK,ej,zbS,hat,Int.toNat_natCast,ci hj (by omega)];rw [if_pos (by omega),UY _ _ (by omega)];refine .inl ⟨_,rfl,?_⟩;simp only [Prod.mk.injEq,true_and];refine No λi hi=> ?_;rw [nQ];by_cases e:i=p
   .subst e;rw [if_pos rfl,htk];simp [dp]
   .rw [if_neg e]
    have:dp (i:Int) [((p:Int),x2)]=none:=by unfold dp;rw [if_neg (by omega)];rfl
    rw [this]
    cases dp (i:Int) (t.l.take j)<;>rfl)
  (by
   rintro _ rfl;refine⟨_,?_,rfl⟩;simp only [fK]
   rw [if_neg (by omega),List.take_length]) 0 (Nat.zero_le _) (0,pk n λ_=>0) rfl
 rw [q1,q2]
theorem HD{v:Int×Sl It}(hok:okS 2 v.2)(hl:v.2.l.length<=9223372036854775807)(hi:∀x∈v.2.l,cC x.2):∃d:Dn,pf v=some d/\DV d (mc v).1.toNat λp=>dp (p:Int) (mc v).2.l:=by
 have e1:=jS v hok hl;have e2:=qD hok hl;by_cases hr:fk v=true
 .have es:mc v=v:=OS hr;rw [es]at e2 ⊢;have hz:=BB hr;obtain⟨m,t⟩:=v;simp only at hz hok hl e2 hi ⊢;obtain⟨n,rfl⟩:=Int.eq_ofNat_of_zero_le hz.1;have hlo:gP (n:Int)=some ():=by unfold gP cu;rw [if_pos ⟨by omega,by omega⟩]
  have hloop:=YF hr hok;have h56:ln t=fK t:=rfl
  have fin:∀(s:Sl Int),okS 1 s->s.l=t.l.map (·.1)->∃q,fj (n:Int) s=some q/\DV ((n:Int),(⟨true,1,q⟩:Sl Int),(⟨true,1,pk n λp=>(dp (p:Int) t.l).getD 0⟩:Sl Int)) n λp=>dp (p:Int) t.l:=λs hs hsl=>by
   obtain⟨q,q1,q2,q3,q4⟩:=yx (n:=n) (by omega) hs (by rw [hsl];simp;omega);refine⟨q,q1,rfl,by omega,.inr rfl,q3,q2,.inr rfl,rfl,λp=> ?_,λp hp=> ?_,λp x hx=>hi _ (Pb hx)⟩
   .rw [q4 p,hsl];exact Nq hr p
   .cases hg:dp (p:Int) t.l with
    |none=>rfl
    |some y=>have:=Vf hr hg;omega
  unfold pf;simp only [e1,hr,zbS,if_true];rw [if_neg (by omega),if_neg (by omega),pN (by omega)];simp only [hlo,zbS,e2,Int.toNat_natCast]
  cases hL:t.l.map (·.1)with
  |nil=>
   obtain⟨q,q1,q2⟩:=fin (⟨false,0,[]⟩:Sl Int) (.inl rfl) hL.symm;simp only [q1,hloop,zbS,Sum.elim_inl];exact⟨_,rfl,q2⟩
  |cons y z=>
   obtain⟨q,q1,q2⟩:=fin (⟨true,1,y::z⟩:Sl Int) (.inr rfl) hL.symm;simp only [q1,h56,hloop,zbS,Sum.elim_inl];exact⟨_,rfl,q2⟩
 .have es:mc v=(0,iE):=by unfold mc;rw [if_neg hr]
  rw [es];obtain⟨n,s⟩:=v;unfold pf;have hf:fk (n,s)=false:=by simpa using hr
  simp only [e1,hf,zbS,Bool.false_eq_true,if_false];exact⟨_,rfl,nilD_dv.congr λp=>rfl⟩
end Ev
end
noncomputable section
namespace Ev
open Go
theorem abW(a b:E3):KM.bel a b=bel a b:=by rw [Bool.eq_iff_iff,KM.bel_iff,bel_iff]
theorem rises_km{l:List E3}:KM.dF l↔dF l:=by
 have e:(λa b:E3=>KM.bel a b=true)=λa b=>bel a b=true:=by funext a b;rw [abW]
 show List.Pairwise (λa b:E3=>KM.bel a b=true) l↔List.Pairwise (λa b:E3=>bel a b=true) l;rw [e]
section
variable {m : Mx} {n k : Int} {l : List E3}
theorem Vh(h:KM.Is m n k l)(i:Nat):eF m i=eF (nr n k l) i:=by
 have e3:m.2.2.1.l=(nr n k l).2.2.1.l:=h.e3;have e4:m.2.2.2.1.l=(nr n k l).2.2.2.1.l:=by rw [h.e4];exact(iU _ _).symm
 have e5:m.2.2.2.2.l=(nr n k l).2.2.2.2.l:=by rw [h.e5];exact(iU _ _).symm
 unfold eF;rw [e3,e4,e5]
theorem aeX(h:KM.Is m n k l):OkM m:=by
 have g:=h.ok;exact⟨g.st,g.co,g.va,g.v64,g.sl,g.cl,g.vl⟩
theorem Vi(h:KM.Is m n k l):eK m=true:=by
 have:=uh h.hn h.hc h.len (rises_km.1 h.r) h.p
 have e3:m.2.2.1.l=(nr n k l).2.2.1.l:=h.e3;have e4:m.2.2.2.1.l=(nr n k l).2.2.2.1.l:=by rw [h.e4];exact(iU _ _).symm
 have e5:m.2.2.2.2.l=(nr n k l).2.2.2.2.l:=by rw [h.e5];exact(iU _ _).symm
 have e1:m.1=(nr n k l).1:=h.e1;have e2:m.2.1=(nr n k l).2.1:=h.e2;unfold eK iM at this ⊢;rw [e1,e2,e3,e4,e5];exact this
theorem EH{x:Int}(h:0<=x):KM.dn x=dn x:=by unfold KM.dn dn;rw [Int.tmod_eq_emod_of_nonneg h]
theorem Vj{x:Int}(h:0<=x/\x<=255):inK .u8 x:=by simpa [inK,Lit.wf,IntKind.min,IntKind.max,IntKind.signed,IntKind.bits]using h
theorem Vk(f:Int->Int)(l:List E3)(i:Nat):KM.aH (BU f l) i=KM.aH l i:=by
 unfold KM.aH BU;rw [List.countP_map];rfl
theorem Rc(t:Tk)(h:OkT t)(hw:KM.w64 t.2.2.1.l):∃m l,cQ t=some m/\KM.Is m (dn t.2.1.1) (dn t.2.1.2) l:=by
 obtain⟨r,⟨n1,n2⟩,s,x,y,f,o⟩:=t;obtain⟨h1,h2,h3,h4,_,_,_,_,_,_,_,_⟩:=h;simp only at h1 h2 h3 h4 hw ⊢;obtain⟨m0,l,e,g⟩:=KM.Ui (a:=(n1,n2)) ⟨Vj h1,Vj h2⟩ (s:=s) h3 hw;simp only at g;rw [EH h1.1,EH h2.1]at g;have e':fR (n1,n2) s=some m0:=e;obtain⟨m1,m2,m3,m4,m5⟩:=m0;have hlen:=g.len;have e5:m5.l=l.map (·.2.2):=g.e5;have o5:okS 1 m5:=g.o5;have hvl:m5.l.length<=65536:=by rw [e5,List.length_map];exact hlen
 refine⟨(m1,m2,m3,m4,mo 1 (m5.l.map (BT (fS r)))),BU (BT (fS r)) l,?_,⟨g.hn,g.hc,by rw [Vd];exact hlen,rises_km.2 (Np (rises_km.1 g.r)),λx hx=> ?_,λx hx=> ?_,g.e1,g.e2,?_,?_,?_,g.o3,g.o4,mS _⟩⟩
 .unfold cQ;simp only [e',zbS,jT]
  obtain⟨q,q1,q2⟩:=cr (b:=bW m5 (fS r)) m5.l.length (λj st=>st=((m5.l.take j).map (BT (fS r)),(j:Int))) (λq=>q= .inl (m5.l.map (BT (fS r))))
   (by
    rintro j _ hj rfl;have ej:=cg o5 hj;have ap:∀z,app ((m5.l.take j).map (BT (fS r))) [z]=some ((m5.l.take j).map (BT (fS r))++ [z]):=λz=>ik (by simp;unfold cu;omega);simp only [bW,ej,zbS,qC,ap,ci hj (by omega)];rw [if_pos (by omega)]
    exact .inl ⟨_,rfl,by rw [List.take_succ_eq_append_getElem hj,List.map_append];rfl⟩)
   (by
    rintro _ rfl;refine⟨.inl (m5.l.map (BT (fS r))),?_,rfl⟩;simp only [bW]
    rw [if_neg (by omega),List.take_length]) 0 (Nat.zero_le _) ([],0) rfl
  rw [q1,q2];rfl
 .unfold BU at hx;obtain⟨y,hy,rfl⟩:=List.mem_map.1 hx;exact g.p y hy
 .unfold BU at hx;obtain⟨y,hy,rfl⟩:=List.mem_map.1 hx;exact Vc (g.v y hy)
 .rw [show m3.l=_ from g.e3];exact KM.eg λi _=>by rw [Vk]
 .rw [show m4.l=_ from g.e4];unfold BU;rw [List.map_map];rfl
 .rw [iU,e5];unfold BU;rw [List.map_map,List.map_map];rfl
theorem Rd(h:KM.Is m n k l):vR m=some (KM.XP n k (KM.eD l)):=by
 have hk:=h.hc;have e:iY m=some (k,n,⟨true,1,KM.ee k.toNat λi=>((KM.aH (l.map KM.bM) i:Nat):Int)⟩,⟨true,1,(KM.eD l).map (·.2.1)⟩,⟨true,1,(KM.eD l).map (·.2.2)⟩):=KM.MF h;rw [show(KM.ee k.toNat λi=>((KM.aH (l.map KM.bM) i:Nat):Int))=KM.ee k.toNat λi=>((KM.aH (KM.eD l) i:Nat):Int)from KM.eg λi _=>by rw [KM.Uq]]at e;clear h;generalize KM.eD l=T at*;obtain⟨m1,m2,m3,m4,m5⟩:=m;unfold vR;simp only [e,zbS];obtain⟨t,t1,t2,t3⟩:=KM.Uo (s:=⟨true,1,KM.ee k.toNat λi=>((KM.aH T i:Nat):Int)⟩) (a:=0) (b:=k.toNat) (.inr rfl) (by omega) (by rw [KM.dY];omega);simp only at t2;have hw:IntKind.i64.wrap ((((KM.ee k.toNat λi=>((KM.aH T i:Nat):Int)).length:Nat):Int) - 1)=((k.toNat:Nat):Int):=by rw [KM.dY,cY (by omega) (by omega)];omega
 rw [hw,show(0:Int)=((0:Nat):Int)from rfl,t1];simp only [zbS];have tl:t.l.length=k.toNat:=by rw [t2];simp [KM.dY]
 have q:aK (jt ⟨true,1,KM.ee k.toNat λi=>((KM.aH T i:Nat):Int)⟩ t) (((0:Nat):Int),[],[((0:Nat):Int)])=some (.inl (KM.iZ T k.toNat,KM.lP T k.toNat)):=by
  refine KM.jC k.toNat (λi=>((i:Int),KM.iZ T i,KM.lP T i)) rfl (λi hi=> ?_) ?_
  .have a1:atS 1 t (i:Int)=some ((KM.aH T i:Nat):Int):=KM.fE t3 (by
    rw [t2,List.drop_zero,Nat.sub_zero,List.getElem?_take_of_lt hi]
    exact KM.dw _ (by omega))
   have a2:atS 1 (⟨true,1,KM.ee k.toNat λi=>((KM.aH T i:Nat):Int)⟩:Sl Int) ((i+1:Nat):Int)=some ((KM.aH T (i+1):Nat):Int):=KM.fE (.inr rfl) (KM.dw (k:=i+1) _ (by omega));have w1:IntKind.i64.wrap ((i:Int)+1)=((i+1:Nat):Int):=ci hi (by omega);have hcl:=KM.JV (T:=T) i;have hsl:=KM.oZ (T:=T) i;simp only [jt,a1,w1,a2,zbS];rw [if_pos (by omega),KM.pR,KM.nL];by_cases hne:KM.neC T i=true
   .have h1:KM.aH T i<KM.aH T (i+1):=by simpa [KM.neC]using hne
    rw [if_pos (by omega),ik (by simp;unfold cu;omega),ik (by simp;unfold cu;omega),if_pos hne,if_pos hne];rfl
   .have h1:¬KM.aH T i<KM.aH T (i+1):=by simpa [KM.neC]using hne
    rw [if_neg (by omega),if_neg hne,if_neg hne,List.append_nil,List.append_nil]
  .simp only [jt];rw [if_neg (by omega)]
 rw [q];rfl
theorem YG(h:KM.Is m n k l):KM.IsC (KM.XP n k (KM.eD l)) n k (KM.eD l):=by
 refine KM.XQ h.hn h.hc (by rw [KM.JP];exact h.len) (KM.pQ h.r) (λx hx=> ?_) λx hx=>h.v (KM.bM x) (KM.turn_mem.1 hx)
 have:=h.p _ (KM.turn_mem.1 hx)
 exact⟨this.2,this.1⟩
end
def nu{α:Type}(n:Nat)(f:Nat->α):List α:=(List.range n).map f
theorem po{α:Type}(n:Nat)(f:Nat->α):(nu n f).length=n:=by unfold nu;simp
theorem rG{α:Type}{n k:Nat}(f:Nat->α)(h:k<n):(nu n f)[k]? =some (f k):=by
 unfold nu;rw [List.getElem?_map,List.getElem?_range h];rfl
theorem Pc{α:Type}{n k:Nat}(f:Nat->α)(h:k<n):atL (nu n f) (k:Int)=some (f k):=by
 unfold atL;rw [if_pos (by omega),Int.toNat_natCast,rG f h]
theorem Vm{α:Type}{n k:Nat}(f:Nat->α)(v:α)(h:k<n):(nu n f).set k v=nu n λi=>if i=k then v else f i:=by
 refine List.ext_getElem? λi=> ?_;rw [List.getElem?_set];by_cases hi:i<n
 .by_cases e:k=i
  .subst e;rw [if_pos rfl,if_pos (by rw [po];omega),rG _ hi,if_pos rfl]
  .rw [if_neg e,rG _ hi,rG _ hi,if_neg (Ne.symm e)]
 .rw [if_neg (by omega)];rw [List.getElem?_eq_none (by rw [po];omega),List.getElem?_eq_none (by rw [po];omega)]
theorem uy{α:Type}{n:Nat}{f g:Nat->α}(h:∀k,k<n->f k=g k):nu n f=nu n g:=by
 unfold nu;refine List.map_congr_left λk hk=>h k ?_;simpa using hk
theorem Vn{α:Type}(n:Nat)(a:α):List.replicate n a=nu n λ_=>a:=by
 refine List.ext_getElem? λi=> ?_;by_cases hi:i<n
 .rw [rG _ hi,List.getElem?_replicate,if_pos hi]
 .rw [List.getElem?_eq_none (by simp;omega),List.getElem?_eq_none (by rw [po];omega)]
def lM(o:Option Wd):(Int×Int)×Bool:=(ux o,wa o)
def au:List E3->Int->Option Int
 | [],_=>none
 |x::C,i=>if x.2.1=i then some x.2.2 else au C i
theorem EI{i:Int}:∀{C:List E3},(∀x∈C,x.2.1≠i)->au C i=none
 | [],_=>rfl
 |x::C,h=>by
  unfold au;rw [if_neg (h x List.mem_cons_self),EI λy hy=>h y (List.mem_cons_of_mem _ hy)]
theorem KV(i:Int):∀(C D:List E3),au (C++D) i=match au C i with|some x=>some x|none=>au D i
 | [],D=>rfl
 |x::C,D=>by
  simp only [List.cons_append,au];by_cases h:x.2.1=i
  .rw [if_pos h,if_pos h]
  .rw [if_neg h,if_neg h,KV i C D]
def uz(r v:Int)(o:Option Wd):Option Int->Option Wd
 |none=>o
 |some a=>some (match o with|none=>pW r a v|some s=>eQ r s (pW r a v))
theorem jE{r:Int}{h:Int->Option Int}:∀{L:List (Int×Int)} {acc:Option Wd},(∀x∈L,h x.1=none)->eE r h L acc=acc
 | [],acc,_=>rfl
 |x::L,acc,hh=>by
  have e:iN r h acc x=acc:=by unfold iN;rw [hh x List.mem_cons_self]
  show eE r h L (iN r h acc x)=acc;rw [e,jE λy hy=>hh y (List.mem_cons_of_mem _ hy)]
theorem BV{r p v:Int}{h h':Int->Option Int}(h1:∀q,q<p->h' q=h q)(h2:h' p=some v)(h3:h p=none)(h4:∀q,p<q->h q=none/\h' q=none):∀{L:List (Int×Int)} {acc:Option Wd},(L.map (·.1)).Pairwise (·<·)->eE r h' L acc=uz r v (eE r h L acc) (dp p L)
 | [],acc,_=>rfl
 |x::L,acc,hL=>by
  rw [List.map_cons,List.pairwise_cons]at hL;have hx:∀y∈L,x.1<y.1:=λy hy=>hL.1 _ (List.mem_map_of_mem hy);show eE r h' L (iN r h' acc x)=uz r v (eE r h L (iN r h acc x)) (dp p (x::L));rcases Int.lt_trichotomy x.1 p with c|c|c
  .have e:iN r h' acc x=iN r h acc x:=by unfold iN;rw [h1 _ c]
   have g:dp p (x::L)=dp p L:=by simp only [dp];rw [if_neg (by omega)]
   rw [e,g];exact BV h1 h2 h3 h4 hL.2
  .have g:dp p (x::L)=some x.2:=by simp only [dp];rw [if_pos c]
   have e:iN r h acc x=acc:=by unfold iN;rw [c,h3]
   have e':iN r h' acc x=uz r v acc (some x.2):=by unfold iN uz;rw [c,h2];(try (cases acc<;>rfl))
   rw [g,e,e',jE λy hy=>(h4 _ (by have:=hx y hy;omega)).2,jE λy hy=>(h4 _ (by have:=hx y hy;omega)).1]
  .have g:dp p (x::L)=none:=kD λy hy=>by
    rcases List.mem_cons.1 hy with rfl|hy
    .omega
    .have:=hx y hy;omega
   have e:iN r h acc x=acc:=by unfold iN;rw [(h4 _ c).1]
   have e':iN r h' acc x=acc:=by unfold iN;rw [(h4 _ c).2]
   rw [g,e,e',jE λy hy=>(h4 _ (by have:=hx y hy;omega)).2,jE λy hy=>(h4 _ (by have:=hx y hy;omega)).1];rfl
def qG(T:List E3)(i:Nat):List (Int×Int):=(T.filter λx=>decide (x.2.1=(i:Int))).map λx=>(x.1,x.2.2)
theorem EJ(p:Int)(i:Nat):∀T:List E3,dp p (qG T i)=au (KM.jV T p) (i:Int)
 | []=>rfl
 |x::T=>by
  have ih:=EJ p i T;unfold qG KM.jV at ih ⊢;by_cases h1:x.2.1=(i:Int)<;>by_cases h2:x.1=p
  .rw [List.filter_cons_of_pos (by simp [h1]),List.filter_cons_of_pos (by simp [h2]),List.map_cons];simp only [dp,au];rw [if_pos h2,if_pos h1]
  .rw [List.filter_cons_of_pos (by simp [h1]),List.filter_cons_of_neg (by simp [h2]),List.map_cons];simp only [dp];rw [if_neg h2,ih]
  .rw [List.filter_cons_of_neg (by simp [h1]),List.filter_cons_of_pos (by simp [h2])];simp only [au];rw [if_neg h1,ih]
  .rw [List.filter_cons_of_neg (by simp [h1]),List.filter_cons_of_neg (by simp [h2]),ih]
theorem Re{T:List E3}(h:KM.dF T)(i:Nat):((qG T i).map (·.1)).Pairwise (·<·):=by
 unfold qG;rw [List.map_map,List.pairwise_map];have hs:KM.dF (T.filter λx=>decide (x.2.1=(i:Int))):=List.Pairwise.sublist List.filter_sublist h;refine List.Pairwise.imp_of_mem (λ{a b} ha hb hab=> ?_) hs;have h1:=of_decide_eq_true (List.mem_filter.1 ha).2;have h2:=of_decide_eq_true (List.mem_filter.1 hb).2;rw [KM.bel_iff]at hab;show a.1<b.1;omega
theorem Nr{m:Mx}{n k:Int}{l:List E3}(h:KM.Is m n k l){i:Nat}(hi:(i:Int)<n):qG (KM.eD l) i=eF m i:=by
 rw [Vh h,UX (rises_km.1 h.r) hi];have hT:=KM.pQ h.r
 have e:((KM.eD l).filter λx=>decide (x.2.1=(i:Int))).map KM.bM=qK l i:=by
  refine KM.QA ?_ ?_ λx=> ?_
  .show List.Pairwise _ _;rw [List.pairwise_map];have hs:KM.dF ((KM.eD l).filter λx=>decide (x.2.1=(i:Int))):=List.Pairwise.sublist List.filter_sublist hT;refine List.Pairwise.imp_of_mem (λ{a b} ha hb hab=> ?_) hs;have h1:=of_decide_eq_true (List.mem_filter.1 ha).2;have h2:=of_decide_eq_true (List.mem_filter.1 hb).2;rw [KM.bel_iff]at hab ⊢;unfold KM.bM;simp only;omega
  .exact rises_km.2 (List.Pairwise.sublist (List.filter_sublist.trans List.filter_sublist) (rises_km.1 h.r))
  .rw [KM.mem_flip,List.mem_filter,KM.turn_mem,KM.oX,rowE_mem,decide_eq_true_eq];rfl
 rw [<-e,List.map_map];rfl
section
variable {c : KM.Cx} {n k : Int} {T : List E3} {u : Sl It}
theorem abX(h:KM.IsC c n k T){j:Nat}(hj:j<T.length):T[j].2.1.toNat<n.toNat/\0<=T[j].2.1:=by
 have:=(h.p _ (List.getElem_mem hj)).2;omega
theorem Vo{r v:Int}(h:KM.IsC c n k T)(hv:cC v){a j:Nat}(ha:a<5000)(hs:atS 1 c.2.2.2.1 ((a+1:Nat):Int)=some ((KM.aH T (j+1):Nat):Int))(g:Nat->Option Wd):
  aK (eT r c.2.2.2.1 c.2.2.2.2.1 c.2.2.2.2.2 v (a:Int)) (((KM.aH T j:Nat):Int),nu n.toNat λi=>lM (g i))=some (.inl (nu n.toNat λi=>lM (uz r v (g i) (au (KM.jV T (j:Int)) (i:Int))))):=by
 have hlen:=h.len;obtain⟨h1,h2⟩:=KM.nJ h.r j;rw [<-KM.rh]at h2
 have hR:(KM.jV T (j:Int)).length=KM.aH T (j+1) - KM.aH T j:=by
  have:=KM.Bl T j;omega
 have hle:=KM.ml T (j+1);have hw:IntKind.i64.wrap ((a:Int)+1)=((a+1:Nat):Int):=ci (n:=5000) ha (by omega)
 have hget:∀t,t<(KM.jV T (j:Int)).length->∃ht:KM.aH T j+t<T.length,(KM.jV T (j:Int))[t]? =some T[KM.aH T j+t]:=λt ht=>by
  have hlt:KM.aH T j+t<T.length:=by omega
  refine⟨hlt,?_⟩;rw [<-h2,List.getElem?_take_of_lt (by omega),List.getElem?_drop,List.getElem?_eq_getElem hlt]
 have hasc:(KM.jV T (j:Int)).Pairwise λa b=>a.2.1<b.2.1:=by
  have hs:KM.dF (KM.jV T (j:Int)):=List.Pairwise.sublist List.filter_sublist h.r;refine List.Pairwise.imp_of_mem (λ{a b} ha hb hab=> ?_) hs;have h1:=(KM.mU ha).2;have h2:=(KM.mU hb).2;rw [KM.bel_iff]at hab;omega
 generalize hRR:KM.jV T (j:Int)=R at*
 obtain⟨q,q1,q2⟩:=cr (b:=eT r c.2.2.2.1 c.2.2.2.2.1 c.2.2.2.2.2 v (a:Int)) R.length (λt st=>st=(((KM.aH T j+t:Nat):Int),nu n.toNat λi=>lM (uz r v (g i) (au (R.take t) (i:Int))))) (λq=>q= .inl (nu n.toNat λi=>lM (uz r v (g i) (au R (i:Int)))))
  (by
   rintro t _ ht rfl;obtain⟨hlt,hg⟩:=hget t ht;obtain⟨b1,b2⟩:=abX h hlt;have a1:=h.at_ro hlt;have a2:=h.at_va hlt;have hx64:=h.v _ (List.getElem_mem hlt)
   have hRt:R[t]=T[KM.aH T j+t]:=by
    have:=List.getElem?_eq_getElem ht
    rw [hg]at this;exact(Option.some.inj this).symm
   have hnone:au (R.take t) T[KM.aH T j+t].2.1=none:=EI λx hx=>by
    obtain⟨s,hs,rfl⟩:=List.mem_iff_getElem.1 hx;rw [List.length_take]at hs;rw [List.getElem_take]
    have:=List.pairwise_iff_getElem.1 hasc s t (by omega) ht (by omega)
    rw [hRt]at this;omega
   have happ:∀i,au (R.take (t+1)) i=if T[KM.aH T j+t].2.1=i then some T[KM.aH T j+t].2.2 else au (R.take t) i:=λi=>by
    rw [List.take_succ_eq_append_getElem ht,KV,hRt];simp only [au];by_cases e:T[KM.aH T j+t].2.1=i
    .rw [if_pos e,if_pos e,<-e,hnone]
    .rw [if_neg e,if_neg e];cases au (R.take t) i<;>rfl
   generalize T[KM.aH T j+t]=x at a1 a2 hx64 hnone happ b1 b2;obtain⟨x1,x2,x3⟩:=x;simp only at a1 a2 hx64 hnone happ b1 b2;obtain⟨y,rfl⟩:=Int.eq_ofNat_of_zero_le b2;have hy:y<n.toNat:=by simpa using b1
   have hat:=Pc (n:=n.toNat) (λi=>lM (uz r v (g i) (au (R.take t) (i:Int)))) hy;rw [hnone]at hat;have hm:=nH r hx64 hv;have hw2:IntKind.i64.wrap (((KM.aH T j+t:Nat):Int)+1)=((KM.aH T j+(t+1):Nat):Int):=ci hlt (by omega)
   have fin:∀z:(Int×Int)×Bool,z=lM (uz r v (g y) (some x3))->(nu n.toNat λi=>lM (uz r v (g i) (au (R.take t) (i:Int)))).set y z=nu n.toNat λi=>lM (uz r v (g i) (au (R.take (t+1)) (i:Int))):=λz hz=>by
    rw [Vm _ _ hy];refine uy λi _=> ?_;rw [happ];by_cases e:i=y
    .subst e;rw [if_pos rfl,if_pos rfl,hz]
    .rw [if_neg e,if_neg (by omega)]
   rcases hgy:g y with _|⟨w1,w2⟩
   .rw [hgy]at hat;have hat':atL (nu n.toNat λi=>lM (uz r v (g i) (au (R.take t) (i:Int)))) (y:Int)=some (((0,0),false):(Int×Int)×Bool):=hat;simp only [eT,hw,hs,zbS,a1,a2,hat',hm,hw2,Int.toNat_natCast];rw [if_pos (by omega),if_neg (by decide),fin _ (by rw [hgy];rfl)];exact .inl ⟨_,rfl,rfl⟩
   .rw [hgy]at hat;have hat':atL (nu n.toNat λi=>lM (uz r v (g i) (au (R.take t) (i:Int)))) (y:Int)=some (((w1,w2),true):(Int×Int)×Bool):=hat;simp only [eT,hw,hs,zbS,a1,a2,hat',hm,hw2,Int.toNat_natCast,lf];rw [if_pos (by omega),if_pos trivial,fin _ (by rw [hgy];rfl)]
    exact .inl ⟨_,rfl,rfl⟩)
  (by
   rintro _ rfl;refine⟨_,?_,rfl⟩;simp only [eT,hw,hs,zbS]
   rw [if_neg (by omega),List.take_length]) 0 (Nat.zero_le _) (((KM.aH T j:Nat):Int),nu n.toNat λi=>lM (g i)) (by simp [au,uz])
 rw [q1,q2]
end
end Ev
end
noncomputable section
namespace Ev
open Go
section
variable {c : KM.Cx} {n k : Int} {T : List E3} {u : Sl It}
theorem agE(s:Sl Int)(hs:okS 1 s)(hl:s.l.length<=5000)(p:Int)(a:Nat)(ha:a<=s.l.length)(hp:∀i (hi:i<s.l.length),i<a->s.l[i]<p):
  ∃b:Nat,b<=s.l.length/\aK (fI s p) (a:Int)=some (.inl (b:Int))/\(∀i (hi:i<s.l.length),i<b->s.l[i]<p)/\∀hb:b<s.l.length,p<=s.l[b]:=by
 obtain⟨q,q1,b,b1,rfl,b2,b3⟩:=cr (b:=fI s p) s.l.length (λj st=>st=(j:Int)/\∀i (hi:i<s.l.length),i<j->s.l[i]<p) (λq=>∃b:Nat,b<=s.l.length/\q= .inl (b:Int)/\(∀i (hi:i<s.l.length),i<b->s.l[i]<p)/\∀hb:b<s.l.length,p<=s.l[b])
  (by
   rintro j _ hj ⟨rfl,hI⟩;have ej:=cg hs hj;simp only [fI,ej,zbS,ci hj (by omega)];rw [if_pos (by omega)];by_cases h:s.l[j]<p
   .rw [if_pos h];refine .inl ⟨_,rfl,rfl,λi hi hij=> ?_⟩;by_cases e:i=j
    .subst e;exact h
    .exact hI i hi (by omega)
   .rw [if_neg h]
    exact .inr ⟨_,rfl,j,by omega,rfl,hI,λ_=>by omega⟩)
  (by
   rintro _ ⟨rfl,hI⟩;refine⟨.inl (s.l.length:Int),?_,s.l.length,Nat.le_refl _,rfl,hI,λhb=>absurd hb (by omega)⟩;simp only [fI]
   rw [if_neg (by omega)]) a ha (a:Int) ⟨rfl,hp⟩
 exact⟨b,b1,q1,b2,b3⟩
def gC(r:Int)(T:List E3)(n:Nat)(l:List It):List ((Int×Int)×Bool):=nu n λi=>lM (eE r (λp=>dp p l) (qG T i) none)
theorem abY(h:KM.IsC c n k T){p:Int}(hp:p ∉ c.2.2.1.l):KM.jV T p= []:=by
 by_cases h0:KM.jV T p= []
 .exact h0
 .obtain⟨x,hx⟩:=List.exists_mem_of_ne_nil _ h0;obtain⟨x1,x2⟩:=KM.mU hx;have hb:=h.p x x1;obtain⟨j,rfl⟩:=Int.eq_ofNat_of_zero_le (show 0<=p by omega);refine absurd ?_ hp;rw [h.e3];exact KM.cols_mem.2 ⟨j,rfl,by omega,KM.neC_iff.2 h0⟩
theorem BW{r p v:Int}{l:List It}(hT:KM.dF T)(hl:∀x∈l,x.1<p)(n:Nat):(nu n λi=>lM (uz r v (eE r (λq=>dp q l) (qG T i) none) (au (KM.jV T p) (i:Int))))=gC r T n (l++ [(p,v)]):=by
 refine uy λi _=> ?_;congr 1;rw [<-EJ];have g0:dp p l=none:=kD λx hx=>by have:=hl x hx;omega
 refine(BV (h':=λq=>dp q (l++ [(p,v)])) (λq hq=> ?_) ?_ g0 (λq hq=>⟨?_,?_⟩) (Re hT i)).symm
 .show dp q (l++ [(p,v)])=dp q l;rw [nQ]
  have:dp q [(p,v)]=none:=by simp only [dp];rw [if_neg (by omega)]
  rw [this];cases dp q l<;>rfl
 .show dp p (l++ [(p,v)])=some v;rw [nQ,g0];simp [dp]
 .exact kD λx hx=>by have:=hl x hx;omega
 .refine kD λx hx=> ?_;rcases List.mem_append.1 hx with hx|hx
  .have:=hl x hx;omega
  .simp only [List.mem_cons,List.not_mem_nil,or_false]at hx;subst hx;simp only;omega
theorem Ns{r:Int}(h:KM.IsC c n k T)(hv:rC (k,u)):aK (fJ r u c.2.2.1 c.2.2.2.1 c.2.2.2.2.1 c.2.2.2.2.2) (0,0,gC r T n.toNat [])=some (.inl (gC r T n.toNat u.l)):=by
 have hok:okS 2 u:=hv.2.1;have hul:=mD hv.1;simp only at hul;have hL:=h.atLen
 obtain⟨q,q1,q2⟩:=cr (b:=fJ r u c.2.2.1 c.2.2.2.1 c.2.2.2.2.1 c.2.2.2.2.2) u.l.length (λj st=>∃a:Nat,st=((a:Int),(j:Int),gC r T n.toNat (u.l.take j))/\a<=c.2.2.1.l.length/\∀i (hi:i<c.2.2.1.l.length),i<a->∀q (hq:q<u.l.length),j<=q->c.2.2.1.l[i]<u.l[q].1) (λq=>q= .inl (gC r T n.toNat u.l))
  (by
   rintro j _ hj ⟨a,rfl,ha,hI⟩;have ej:=cg hok hj;have hb:=vT hv.1 hj;have h64:=hv.2.2 _ (List.getElem_mem hj)
   have hlt:∀x∈u.l.take j,x.1<u.l[j].1:=λx hx=>by
    obtain⟨s,hs,rfl⟩:=List.mem_iff_getElem.1 hx;rw [List.length_take]at hs;rw [List.getElem_take];exact Kr (sr hv.1) (by omega) hj
   have hgt:∀q (hq:q<u.l.length),j+1<=q->u.l[j].1<u.l[q].1:=λq hq hjq=>Kr (sr hv.1) (by omega) hq;obtain⟨b,b1,b2,b3,b4⟩:=agE c.2.2.1 h.o3 (by omega) u.l[j].1 a ha λi hi hia=>hI i hi hia j hj (Nat.le_refl _);rw [List.take_succ_eq_append_getElem hj];generalize u.l[j]=x at ej hb h64 hlt hgt b2 b3 b4;obtain⟨p,v⟩:=x;simp only at hb h64 hlt hgt b2 b3 b4
   have nxt:∀i (hi:i<c.2.2.1.l.length),i<b->∀q (hq:q<u.l.length),j+1<=q->c.2.2.1.l[i]<u.l[q].1:=λi hi hib q hq hjq=>by
    have:=b3 i hi hib;have:=hgt q hq hjq;omega
   have hw:=ci hj (show u.l.length<=9223372036854775807 by omega);simp only [fJ,ej,zbS,b2,Sum.elim_inl,hw];rw [if_pos (by omega)]
   have skip:p ∉ c.2.2.1.l->gC r T n.toNat (u.l.take j)=gC r T n.toNat (u.l.take j++ [(p,v)]):=λhn=>by
    rw [<-BW h.r hlt,abY h hn];rfl
   by_cases hbl:b<c.2.2.1.l.length
   .have eb:=cg h.o3 hbl;rw [if_pos (by omega)];simp only [eb,zbS];by_cases e:c.2.2.1.l[b]=p
    .rw [if_pos e];obtain⟨jn,g1,g2,g3,g4,g5⟩:=h.at_ge (List.getElem?_eq_getElem hbl);rw [e]at g1;have s1:=KM.fE h.o4 g4;have s2:=KM.fE h.o4 g5;have hc:=Vo (r:=r) (v:=v) h h64 (a:=b) (j:=jn) (by omega) s2 λi=>eE r (λq=>dp q (u.l.take j)) (qG T i) none;simp only [s1,zbS];unfold gC;rw [hc];simp only [zbS,Sum.elim_inl];refine .inl ⟨_,rfl,b,?_,b1,nxt⟩;rw [<-g1,BW h.r hlt];rfl
    .rw [if_neg e];refine .inl ⟨_,rfl,b,?_,b1,nxt⟩;rw [skip λhm=> ?_];obtain⟨i,hi,hip⟩:=List.mem_iff_getElem.1 hm;have hp:=List.pairwise_iff_getElem.1 h.asc;have h4:=b4 hbl;by_cases c1:i<b
     .have:=b3 i hi c1;omega
     .by_cases c2:i=b
      .subst c2;exact e hip
      .have:=hp b i hbl hi (by omega);omega
   .rw [if_neg (by omega)];refine .inl ⟨_,rfl,b,?_,b1,nxt⟩;rw [skip λhm=> ?_];obtain⟨i,hi,hip⟩:=List.mem_iff_getElem.1 hm
    have:=b3 i hi (by omega);omega)
  (by
   rintro _ ⟨a,rfl,ha,hI⟩;refine⟨.inl (gC r T n.toNat u.l),?_,rfl⟩;simp only [fJ]
   rw [if_neg (by omega),List.take_length]) 0 (Nat.zero_le _) (0,0,gC r T n.toNat []) ⟨0,rfl,Nat.zero_le _,λi hi h0=>absurd h0 (by omega)⟩
 rw [q1,q2]
def EK(r:Int)(T:List E3)(l:List It)(ask:Nat->Bool)(i:Nat):Option (Int×Wd):=if ask i=true then(eE r (λp=>dp p l) (qG T i) none).map λw=>((i:Int),w)else none
def mX(r:Int)(T:List E3)(l:List It)(ask:Nat->Bool)(n:Nat):List (Int×Wd):=(List.range n).filterMap (EK r T l ask)
theorem BX(r:Int)(T:List E3)(l:List It)(ask:Nat->Bool)(n:Nat):mX r T l ask (n+1)=mX r T l ask n++(EK r T l ask n).toList:=by
 unfold mX;rw [List.range_succ,List.filterMap_append];congr 1
 all_goals (cases hs:EK r T l ask n<;>simp [hs])
theorem Rf(r:Int)(T:List E3)(l:List It)(ask:Nat->Bool)(n:Nat):(mX r T l ask n).length<=n:=by
 unfold mX
 have:=List.length_filterMap_le (EK r T l ask) (List.range n)
 simpa using this
theorem Rh{r:Int}{l:List It}{s:Sl Int}(hs:okS 1 s)(hu:qN s.l)(o:Bool){m:Nat}(hm:m<=4096):aK (eU s (gC r T m l)) (o,[],0)=some (.inl (mX r T l (rF s.l o) m)):=by
 obtain⟨q,q1,q2⟩:=cr (b:=eU s (gC r T m l)) m (λj a=>a=(o,mX r T l (rF s.l o) j,(j:Int))) (λq=>q= .inl (mX r T l (rF s.l o) m))
  (by
   rintro j _ hj rfl;have hh:=iB s j hs hu (by omega);have hlen:=Rf r T l (rF s.l o) j;have hap:=λx=>Pa (l:=mX r T l (rF s.l o) j) (by omega) x;have hat:=Pc (n:=m) (λi=>lM (eE r (λp=>dp p l) (qG T i) none)) hj
   have hI:EK r T l (rF s.l o) j=if(gB s.l j !=o)=true then(eE r (λp=>dp p l) (qG T j) none).map (λw=>((j:Int),w))else none:=rfl
   have hl:((gC r T m l).length:Int)=(m:Int):=by unfold gC;rw [po]
   rw [BX,hI]
   cases hx:eE r (λp=>dp p l) (qG T j) none with
   |none=>
    rw [hx]at hat;have hat':atL (gC r T m l) (j:Int)=some (((0,0),false):(Int×Int)×Bool):=hat;simp only [eU,hl,hat',zbS,ci hj (by omega),if_pos (show(j:Int)<(m:Int)by omega)];rw [if_neg (by decide)];exact .inl ⟨_,rfl,by simp⟩
   |some w=>
    obtain⟨w1,w2⟩:=w;rw [hx]at hat;have hat':atL (gC r T m l) (j:Int)=some (((w1,w2),true):(Int×Int)×Bool):=hat;simp only [eU,hl,hat',hh,hap,zbS,ci hj (by omega),if_pos (show(j:Int)<(m:Int)by omega)]
    cases hb:gB s.l j<;>cases o<;>exact .inl ⟨_,rfl,by simp⟩)
  (by
   rintro _ rfl;have hl:((gC r T m l).length:Int)=(m:Int):=by unfold gC;rw [po]
   refine⟨.inl (mX r T l (rF s.l o) m),?_,rfl⟩;simp only [eU,hl]
   rw [if_neg (by omega)]) 0 (Nat.zero_le _) (o,[],0) rfl
 rw [q1,q2]
theorem DZ{r:Int}(h:KM.IsC c n k T)(hr:okR r=true)(hv:rC (k,u)){s:Sl Int}(hs:okS 1 s)(hu:qN s.l)(o:Bool):pd r c (k,u) s o=some (mo 3 (mX r T u.l (rF s.l o) n.toNat),0):=by
 have e1:fg c=some true:=KM.DB h
 have e2:jB c=some c:=by
  obtain⟨c1,c2,c3,c4,c5,c6⟩:=c;unfold jB;simp only [e1,zbS];rfl
 have hr':(decide (1<=r)&& decide (r<=5))=true:=hr;have hok:okS 2 u:=hv.2.1;have hul:=mD hv.1;simp only at hul;have e3:=jS (k,u) hok (show u.l.length<=_ by omega);rw [hv.1]at e3;have e4:=Ns (r:=r) h hv;have hn:=h.hn;have e5:=Rh (r:=r) (T:=T) (l:=u.l) hs hu o (m:=n.toNat) (by omega);have i1:=h.e1;have i2:=h.e2;have hlo:gP n=some ():=by unfold gP cu;rw [if_pos ⟨by omega,by omega⟩]
 have rep:List.replicate n.toNat (((0,0),false):(Int×Int)×Bool)=gC r T n.toNat []:=by
  rw [Vn];refine uy λi _=> ?_;rw [jE λx _=>rfl];rfl
 obtain⟨c1,c2,c3,c4,c5,c6⟩:=c;simp only at i1 i2 e4;subst i1 i2;unfold pd;simp only [pH,hr',zbS,e2,e3,hlo,rep,e4,Sum.elim_inl,e5];rw [if_pos trivial,if_pos trivial,if_neg (by omega)]
end
end Ev
end
noncomputable section
namespace Ev
open Go
theorem abZ:FL=some true:=rfl
theorem KW{m:Mx}{n k:Int}{l:List E3}(h:KM.Is m n k l)(r:Int)(items:List It)(ask:Nat->Bool):mX r (KM.eD l) items ask n.toNat=nS r (λp=>dp p items) m ask n.toNat:=by
 have key:∀q,q<=n.toNat->mX r (KM.eD l) items ask q=nS r (λp=>dp p items) m ask q:=λq=>by
  induction q with
  |zero=>intro _;rfl
  |succ q ih=>
   intro hm;rw [BX,BP,ih (by omega)];unfold EK Nm;rw [Nr h (by have:=h.hn;omega)]
 exact key _ (Nat.le_refl _)
theorem Nt{d:Dn}{k:Int}{u:Sl It}(hv:rC (k,u))(hd:DV d k.toNat λp=>dp p u.l):mq d=λp=>dp p u.l:=by
 funext p;rw [hd.den];by_cases hp:0<=p
 .rw [if_pos hp];show dp ((p.toNat:Nat):Int) u.l=dp p u.l;rw [Int.toNat_of_nonneg hp]
 .rw [if_neg hp];refine(kD λx hx=> ?_).symm;obtain⟨j,hj,rfl⟩:=List.mem_iff_getElem.1 hx
  have:=vT hv.1 hj;omega
theorem KX{m:Mx}{n k:Int}{l:List E3}(h:KM.Is m n k l){r:Int}(hr:okR r=true){u:Sl It}(hv:rC (k,u)){d:Dn}(hd:DV d k.toNat λp=>dp p u.l)(ws:List Int)(o:Bool):BQ r m d ws o=(mo 3 (mX r (KM.eD l) u.l (rF ws o) n.toNat),0):=by
 have e1:pj d=d:=by unfold pj;rw [if_pos hd.right]
 have e2:nR m=m:=by unfold nR;rw [if_pos (Vi h)]
 have hk:=h.hc;unfold BQ;rw [if_pos hr,e1,e2,if_pos (by rw [hd.num,h.e2];show((k.toNat:Nat):Int)=k;omega),Nt hv hd,KW h,h.e1]
theorem rH(t:Tk)(ht:inK .i64 t.1/\(inK .u8 t.2.1.1/\inK .u8 t.2.1.2)/\SlW 3 (λx:E3=>inK .i64 x.1/\inK .i64 x.2.1/\inK .i64 x.2.2) t.2.2.1/\SlW 2 (λx:It=>inK .i64 x.1/\inK .i64 x.2) t.2.2.2.1/\SlW 2 (λx:It=>inK .i64 x.1/\inK .i64 x.2) t.2.2.2.2.1/\SlW 1 (λx=>inK .u64 x) t.2.2.2.2.2.1/\True):ji t=some true:=by
 have OT:=abV ht
 obtain⟨m,l,e1,hM⟩:=Rc t OT λx hx=>by
  have:=ht.2.2.1.2.2.2 x hx
  exact⟨sb this.1,sb this.2.1,sb this.2.2⟩
 obtain⟨u,e2,o2,_⟩:=Ve t OT t.2.2.2.1 OT.x OT.xl OT.xv;obtain⟨f,e3,o4,o5⟩:=Rb t OT;have hr:=Ra t.1;have e4:=Rd hM;have hul:=mD o2.1;simp only at hul;obtain⟨d,e5,hd⟩:=HD (v:=(dn t.2.1.2,u)) o2.2.1 (by simp only;omega) o2.2.2;rw [OS o2.1]at hd;have e6:=DZ (YG hM) hr o2 o4 o5 t.2.2.2.2.2.2;have e7:=Hz (r:=fS t.1) (aeX hM) hd.ok o4 o5 t.2.2.2.2.2.2;have o1:=UW (fS t.1) m d f.l t.2.2.2.2.2.2;rw [KX hM hr o2 hd f.l t.2.2.2.2.2.2]at e7 o1;have sm:=DY _ o1.1 (by omega);have e13:=jT t.1;clear hM hd o1;obtain⟨r,⟨n1,n2⟩,s4,x,y,g,o⟩:=t;simp only at*;generalize mo 3 (mX _ _ _ _ _)=S at*;generalize KM.XP (dn n1) (dn n2) (KM.eD l)=c at*;obtain⟨m1,m2,m3,m4,m5⟩:=m;obtain⟨c1,c2,c3,c4,c5,c6⟩:=c;obtain⟨d1,d2,d3⟩:=d;unfold ji;simp only [e13,e1,e2,e3,e4,e5,e6,e7,sm,abZ,zbS,if_true]
end Ev
end
end Go.Proofs.YtjjbpdldbdmoeaaGreatDoor
