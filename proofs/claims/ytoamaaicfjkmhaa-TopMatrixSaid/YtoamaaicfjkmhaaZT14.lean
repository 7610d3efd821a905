/- Texts of a claim, joined. -/
import Derived.Test.YtoamaaicfjkmhaaZT13
set_option linter.unusedVariables false
set_option linter.unusedSimpArgs false
namespace Go.Proofs.Ytoamaaicfjkmhaa
noncomputable section
namespace Ev
open Go Go.RowKit
def cV(x:Int)(y:Sl (Int×Int×Int)):Option ((Sl (Int×Int×Int))×Int):=K.cV (x,y)
def aJ(x:Sl (Int)):Option (Int×Int×(Sl (Int×Int×Int))×Int×Int):=K.aJ x
def FL6:Option (Bool):=K.FL6 ()
def cC(x:Int)(y:Int):Option (List (Int)):=K.cC (x,y)
def eG(x:Int):Option (List (Int)):=K.eG x
def eC(x:Sl (Int)):Option (List (Int)):=K.eC x
def dB(x:Int×(Sl (Int×Int×Int))):Option (Int×(Sl (Int×Int×Int))):=K.dB x
def cY(x:Int×Int×Int)(y:Int×Int×Int):Option (Bool):=K.cY (x,y)
def dO(x:Int)(y:Int)(z:Sl (Int×Int×Int)):Option (Int):=K.dO (x,y,z)
def cT(x:Int)(y:Int):Option (List (Int)):=K.cT (x,y)
def eH(x:Int):Option (List (Int)):=K.eH x
def aO(x:Int)(y:Int)(z:Sl (Int×Int×Int)):Option (Sl (Int)×Int):=K.aO (x,y,z)
def bt(x:Sl (Int×Int×Int))(y:Sl (Int×Int×Int)):Option (Bool):=K.bt (x,y)
def bU(x:Sl (Int))(y:Sl (Int)):Option (Bool):=K.bU (x,y)
def bL(x:Int×Int)(y:Sl (Int×Int×Int))(z:Sl (Int)):Option (Bool):=K.bL (x,y,z)
def bJ(x:Int)(y:Int):Option (Int):=K.bJ (x,y)
def eI(x:Int×(Sl (Int×Int×Int))):Option (Int×(Sl (Int×Int×Int))):=K.eI x
def dZ(x:Int×(Sl (Int×Int×Int))):Option (Bool):=K.dZ x
end Ev
end
noncomputable section
namespace Ev
open Go Go.RowKit
set_option maxRecDepth 100000
set_option maxHeartbeats 1000000
abbrev yC:=Int×Int×Sl Int×Sl Int×Sl Int×Sl Int
abbrev yM:=Int×Int×Sl Int×Sl Int×Sl Int
abbrev yT:=Int×Int×Int
def cA(x:Int)(y:Int):Int×List Int->Option (Int×List Int ⊕ List Int ⊕ Empty):=λ(x_1:Int×List Int)=>if x_1.fst<(↑(List.replicate y.toNat (0:Int)).length:Int)then(xn IntKind.u32 x (IntKind.u64.wrap (IntKind.i64.wrap (8*x_1.fst)))).bind λ(z:Int)=>(atL x_1.snd x_1.fst).bind λ(x:Int)=>(atL x_1.snd x_1.fst).bind λ(y:Int)=>some (Sum.inl (IntKind.i64.wrap (x_1.fst+1),List.set x_1.snd (Int.toNat x_1.fst) (IntKind.u8.wrap z)))else some (Sum.inr (Sum.inl x_1.snd))
theorem lr(x:Int)(y:Int):cC x y=(vA y y).bind λ(x_1:PUnit)=>(sJ y).bind λ(x_2:PUnit)=>(bn (cA x y) (0,List.replicate y.toNat 0)).bind λ(y:List Int ⊕ Empty)=>Sum.elim (λ(val:List Int)=>some val) (λ(val:Empty)=>nE val) y:=by kernel_rfl
theorem sg(x:Int):eG x=(cC x 4).bind λ(out:List Int)=>some out:=by kernel_rfl
def fG(x:Sl Int):List Int×Int->Option (List Int×Int ⊕ List Int ⊕ Empty):=λ(x_1:List Int×Int)=>if x_1.snd<(↑x.l.length:Int)then(atS 1 x x_1.snd).bind λ(y:Int)=>(eG (IntKind.u32.wrap y)).bind λ(out:List Int)=>(app x_1.fst out).bind λ(lm:List Int)=>some (Sum.inl (lm,IntKind.i64.wrap (x_1.snd+1)))else some (Sum.inr (Sum.inl x_1.fst))
theorem uy(x:Sl Int):eC x=(bn (fG x) ([],0)).bind λ(y:List Int ⊕ Empty)=>Sum.elim (λ(val:List Int)=>some val) (λ(val:Empty)=>nE val) y:=by kernel_rfl
theorem sj(x:Int×Sl yT):dB x=(cV 1 x.snd).bind λ(out:Sl yT×Int)=>some (x.fst,out.fst):=by kernel_rfl
theorem pm(x:Int×Int×Int)(y:Int×Int×Int):cY x y=if y.fst>x.fst then some true
else if y.fst=x.fst then some (decide (y.snd.fst>x.snd.fst))else some false:=by kernel_rfl
def eo(x:Int)(y:Int)(z:Sl yT):Int->Option (Int ⊕ PUnit ⊕ Int ⊕ Empty):=λ(x_1:Int)=>if x_1<(↑z.l.length:Int)then(atS 3 z x_1).bind λ(y_1:Int×Int×Int)=>if y_1.fst<0 then some (Sum.inr (Sum.inr (Sum.inl 3)))else if y_1.fst >= x then some (Sum.inr (Sum.inr (Sum.inl 3)))else if y_1.snd.fst<0 then some (Sum.inr (Sum.inr (Sum.inl 3)))else if y_1.snd.fst >= y then some (Sum.inr (Sum.inr (Sum.inl 3)))else some (Sum.inl (IntKind.i64.wrap (x_1+1)))else some (Sum.inr (Sum.inl ()))
def ep(z:Sl yT):Int->Option (Int ⊕ PUnit ⊕ Int ⊕ Empty):=λ(x:Int)=>if x<(↑z.l.length:Int)then(atS 3 z (IntKind.i64.wrap (x - 1))).bind λ(y:Int×Int×Int)=>(atS 3 z x).bind λ(y_1:Int×Int×Int)=>(cY y y_1).bind λ(out:Bool)=>if¬out=true then some (Sum.inr (Sum.inr (Sum.inl 6)))else some (Sum.inl (IntKind.i64.wrap (x+1)))else some (Sum.inr (Sum.inl ()))
theorem qJ(x:Int)(y:Int)(z:Sl yT):dO x y z=if x<0 then some 3
else if y<0 then some 3 else if x>4096 then some 5 else if y>4096 then some 5 else if(↑z.l.length:Int)>65536 then some 5 else(bn (eo x y z) 0).bind λ(y:PUnit ⊕ Int ⊕ Empty)=>Sum.elim (λ(val:PUnit)=>(bn (ep z) 1).bind λ(y:PUnit ⊕ Int ⊕ Empty)=>Sum.elim (λ(val:PUnit)=>some 0) (λ(val:Int ⊕ Empty)=>Sum.elim (λ(val:Int)=>some val) (λ(val:Empty)=>nE val) val) y) (λ(val:Int ⊕ Empty)=>Sum.elim (λ(val:Int)=>some val) (λ(val:Empty)=>nE val) val) y:=by kernel_rfl
def cK(x:Int)(y:Int):Int×List Int->Option (Int×List Int ⊕ List Int ⊕ Empty):=λ(x_1:Int×List Int)=>if x_1.fst<(↑(List.replicate y.toNat (0:Int)).length:Int)then(xn IntKind.i64 x (IntKind.u64.wrap (IntKind.i64.wrap (8*x_1.fst)))).bind λ(z:Int)=>(atL x_1.snd x_1.fst).bind λ(x:Int)=>(atL x_1.snd x_1.fst).bind λ(y:Int)=>some (Sum.inl (IntKind.i64.wrap (x_1.fst+1),List.set x_1.snd (Int.toNat x_1.fst) (IntKind.u8.wrap z)))else some (Sum.inr (Sum.inl x_1.snd))
theorem mA(x:Int)(y:Int):cT x y=(vA y y).bind λ(x_1:PUnit)=>(sJ y).bind λ(x_2:PUnit)=>(bn (cK x y) (0,List.replicate y.toNat 0)).bind λ(y:List Int ⊕ Empty)=>Sum.elim (λ(val:List Int)=>some val) (λ(val:Empty)=>nE val) y:=by kernel_rfl
theorem sk(x:Int):eH x=(cT x 8).bind λ(out:List Int)=>some out:=by kernel_rfl
def bY(z:Sl yT):List Int×Int->Option (List Int×Int ⊕ List Int ⊕ Empty):=λ(x:List Int×Int)=>if x.snd<(↑z.l.length:Int)then(atS 3 z x.snd).bind λ(y:Int×Int×Int)=>(eC {nn:=true,sz:=1,l:= [y.fst,y.snd.fst]}).bind λ(out:List Int)=>(app x.fst out).bind λ(lm:List Int)=>(eH y.snd.snd).bind λ(out:List Int)=>(app lm out).bind λ(lm:List Int)=>some (Sum.inl (lm,IntKind.i64.wrap (x.snd+1)))else some (Sum.inr (Sum.inl x.fst))
theorem iQ(x:Int)(y:Int)(z:Sl yT):aO x y z=(dO x y z).bind λ(out:Int)=>if out≠0 then some ({nn:=false,sz:=0,l:= []},out)else(eC {nn:=true,sz:=1,l:= [x,y,(↑z.l.length:Int)]}).bind λ(out:List Int)=>(app [70,82,77,49] out).bind λ(lm:List Int)=>(bn (bY z) (lm,0)).bind λ(y:List Int ⊕ Empty)=>Sum.elim (λ(val:List Int)=>some ({nn:=true,sz:=1,l:=val},0)) (λ(val:Empty)=>nE val) y:=by kernel_rfl
def fO(x:Sl yT)(y:Sl yT):Int->Option (Int ⊕ PUnit ⊕ Bool ⊕ Empty):=λ(x_1:Int)=>if x_1<(↑x.l.length:Int)then(atS 3 x x_1).bind λ(y_1:Int×Int×Int)=>(atS 3 y x_1).bind λ(y:Int×Int×Int)=>if¬(y_1.fst=y.fst/\y_1.snd.fst=y.snd.fst/\y_1.snd.snd=y.snd.snd)then some (Sum.inr (Sum.inr (Sum.inl false)))else some (Sum.inl (IntKind.i64.wrap (x_1+1)))else some (Sum.inr (Sum.inl ()))
theorem jL(x:Sl yT)(y:Sl yT):bt x y=if(↑x.l.length:Int)≠(↑y.l.length:Int)then some false
else(bn (fO x y) 0).bind λ(y:PUnit ⊕ Bool ⊕ Empty)=>Sum.elim (λ(val:PUnit)=>some true) (λ(val:Bool ⊕ Empty)=>Sum.elim (λ(val:Bool)=>some val) (λ(val:Empty)=>nE val) val) y:=by kernel_rfl
def gy(x:Sl Int)(y:Sl Int):Int->Option (Int ⊕ PUnit ⊕ Bool ⊕ Empty):=λ(x_1:Int)=>if x_1<(↑x.l.length:Int)then(atS 1 x x_1).bind λ(y_1:Int)=>(atS 1 y x_1).bind λ(y:Int)=>if y_1≠y then some (Sum.inr (Sum.inr (Sum.inl false)))else some (Sum.inl (IntKind.i64.wrap (x_1+1)))else some (Sum.inr (Sum.inl ()))
theorem mB(x:Sl Int)(y:Sl Int):bU x y=if(↑x.l.length:Int)≠(↑y.l.length:Int)then some false
else(bn (gy x y) 0).bind λ(y:PUnit ⊕ Bool ⊕ Empty)=>Sum.elim (λ(val:PUnit)=>some true) (λ(val:Bool ⊕ Empty)=>Sum.elim (λ(val:Bool)=>some val) (λ(val:Empty)=>nE val) val) y:=by kernel_rfl
theorem iy(x:Int×Int)(y:Sl yT)(z:Sl Int):bL x y z=if(↑y.l.length:Int)>100 then FL6.bind λ(out:Bool)=>some (decide (out=true))
else if(↑z.l.length:Int)>3000 then FL6.bind λ(out:Bool)=>some (decide (out=true))else(aO x.fst x.snd y).bind λ(out:Sl Int×Int)=>(if out.snd=0 then(aJ out.fst).bind λ(out:Int×Int×Sl yT×Int×Int)=>if out.snd.snd.snd.fst≠0 then some (Sum.inl false)else if out.fst≠x.fst then some (Sum.inl false)else if out.snd.fst≠x.snd then some (Sum.inl false)else(bt out.snd.snd.fst y).bind λ(out:Bool)=>if¬out=true then some (Sum.inl false)else some (Sum.inr (Sum.inl ()))else some (Sum.inr (Sum.inl ()))).bind λ(y:Bool ⊕ PUnit ⊕ Empty)=>Sum.elim (λ(val:Bool)=>some val) (λ(val:PUnit ⊕ Empty)=>Sum.elim (λ(val:PUnit)=>(aJ z).bind λ(out:Int×Int×Sl yT×Int×Int)=>if out.snd.snd.snd.fst≠0 then FL6.bind λ(out_1:Bool)=>if out_1=true then if out.snd.snd.snd.snd >= 0 then if out.snd.snd.snd.snd<=(↑z.l.length:Int)then some (decide ((↑out.snd.snd.fst.l.length:Int)=0))else some false else some false else some false else(aO out.fst out.snd.fst out.snd.snd.fst).bind λ(out:Sl Int×Int)=>FL6.bind λ(out_1:Bool)=>if out_1=true then if out.snd=0 then(bU out.fst z).bind λ(out:Bool)=>some (decide (out=true))else some false else some false) (λ(val:Empty)=>nE val) val) y:=by kernel_rfl
theorem qK(x:Int)(y:Int):bJ x y=if y<1 then some 0 else if x<0 then some 0 else(Hl x y).bind λ(z:Int)=>some z:=by kernel_rfl
def gz(x:Int×Sl yT):Int×Int×List yT->Option (Int×Int×List yT ⊕ Int×List yT ⊕ Empty):=λ(x_1:Int×Int×List yT)=>if x_1.fst<(↑x.snd.l.length:Int)then if x_1.fst<60 then if x_1.snd.fst>0 then(atS 3 x.snd x_1.fst).bind λ(y:Int×Int×Int)=>if List.length x_1.snd.snd=0 then(bJ y.fst x_1.snd.fst).bind λ(out:Int)=>(bJ y.snd.fst x_1.snd.fst).bind λ(out_1:Int)=>(app [] [(out,out_1,Bi IntKind.i64 y.snd.snd 2147483647)]).bind λ(lm:List yT)=>some (Sum.inl (IntKind.i64.wrap (x_1.fst+1),x_1.snd.fst,lm))else(bJ y.fst x_1.snd.fst).bind λ(out:Int)=>(bJ y.snd.fst x_1.snd.fst).bind λ(out_1:Int)=>(app x_1.snd.snd [(out,out_1,Bi IntKind.i64 y.snd.snd 2147483647)]).bind λ(lm:List yT)=>some (Sum.inl (IntKind.i64.wrap (x_1.fst+1),x_1.snd.fst,lm))else some (Sum.inr (Sum.inl x_1.snd))else some (Sum.inr (Sum.inl x_1.snd))else some (Sum.inr (Sum.inl x_1.snd))
theorem sm(x:Int×Sl yT):eI x=(bJ x.fst 24).bind λ(out:Int)=>(bn (gz x) (0,out,[])).bind λ(y:Int×List yT ⊕ Empty)=>Sum.elim (λ(val:Int×List yT)=>some (val.fst,mo 3 val.snd)) (λ(val:Empty)=>nE val) y:=by kernel_rfl
def cD(out:Int×Sl yT):List yT×Int->Option (List yT×Int ⊕ List yT ⊕ Empty):=λ(x:List yT×Int)=>if x.snd<(↑out.snd.l.length:Int)then if List.length x.fst=0 then(atS 3 out.snd x.snd).bind λ(y:Int×Int×Int)=>(atS 3 out.snd x.snd).bind λ(y_1:Int×Int×Int)=>(atS 3 out.snd x.snd).bind λ(y_2:Int×Int×Int)=>(app [] [(y.fst,y_1.snd.fst,y_2.snd.snd)]).bind λ(lm:List yT)=>some (Sum.inl (lm,IntKind.i64.wrap (x.snd+1)))else(atS 3 out.snd x.snd).bind λ(y:Int×Int×Int)=>(atS 3 out.snd x.snd).bind λ(y_1:Int×Int×Int)=>(atS 3 out.snd x.snd).bind λ(y_2:Int×Int×Int)=>(app x.fst [(y.fst,y_1.snd.fst,y_2.snd.snd)]).bind λ(lm:List yT)=>some (Sum.inl (lm,IntKind.i64.wrap (x.snd+1)))else some (Sum.inr (Sum.inl x.fst))
theorem pn(x:Int×Sl yT):dZ x=(eI x).bind λ(out:Int×Sl yT)=>(dB out).bind λ(out:Int×Sl yT)=>(bn (cD out) ([],0)).bind λ(y:List yT ⊕ Empty)=>Sum.elim (λ(val:List yT)=>(aO out.fst out.fst (mo 3 val)).bind λ(out_1:Sl Int×Int)=>(aJ out_1.fst).bind λ(out_2:Int×Int×Sl yT×Int×Int)=>(dB (2,{nn:=true,sz:=3,l:= [(0,1,2),(0,1,1)]})).bind λ(out_3:Int×Sl yT)=>if(↑out_3.snd.l.length:Int)=1 then if out_1.snd=0 then if out_2.snd.snd.snd.fst=0/\out_2.snd.snd.snd.snd=0 then if out_2.fst=out.fst then if out_2.snd.fst=out.fst then(bt (mo 3 val) out_2.snd.snd.fst).bind λ(out:Bool)=>some (decide (out=true))else some false else some false else some false else some false else some false) (λ(val:Empty)=>nE val) y:=by kernel_rfl
end Ev
end
noncomputable section
namespace Ev
section
open Go
def okS{α:Type}(w:Nat)(s:Sl α):Prop:=s.l= []∨s.sz=w
theorem FT{α:Type}{w:Nat}(l:List α):okS w (mo w l):=by cases l with|nil=>exact .inl rfl|cons x l=>exact .inr rfl
theorem ve{α:Type}{l:List α}{j:Nat}{x:α}(h:l[j]? =some x):atL l (j:Int)=some x:=by
 have hj:=(List.getElem?_eq_some_iff.1 h);rw [Js hj.1,hj.2]
theorem vh{α:Type}{w:Nat}{s:Sl α}(hs:okS w s){j:Nat}{x:α}(h:s.l[j]? =some x):atS w s (j:Int)=some x:=by
 have hj:=(List.getElem?_eq_some_iff.1 h);rw [ig hs hj.1,hj.2]
theorem FU{A R:Type}{b:A->Option (A ⊕ R)}(n:Nat)(st:Nat->A){r:R}(hs:∀j,j<n->b (st j)=some (.inl (st (j+1))))(he:b (st n)=some (.inr r)):bn b (st 0)=some r:=by
 obtain⟨q,h1,h2⟩:=kH (b:=b) n (λj a=>a=st j) (λq=>q=r) (λj a hj ha=> .inl ⟨st (j+1),by rw [ha];exact hs j hj,rfl⟩) (λa ha=>⟨r,by rw [ha];exact he,rfl⟩) 0 (Nat.zero_le _) (st 0) rfl;rw [h1,h2]
theorem kz{A R:Type}{b:A->Option (A ⊕ R)}(n:Nat)(st:Nat->A){a:A}(ha:a=st 0){r:R}(hs:∀j,j<n->b (st j)=some (.inl (st (j+1))))(he:b (st n)=some (.inr r)):bn b a=some r:=by rw [ha];exact FU n st hs he
theorem DT{α:Type}[DecidableEq α]{x y:List α}(hl:x.length=y.length){b:Int->Option (Int ⊕ PUnit ⊕ Bool ⊕ Empty)}(h1:∀j:Nat,(h:j<x.length)->b j=some (if x[j]=y[j]then .inl ((j+1:Nat):Int)else .inr (.inr (.inl false))))(h2:∀j:Nat,x.length<=j->b j=some (.inr (.inl ()))):
  bn b 0=some (if x=y then .inl ()else .inr (.inl false)):=by
 obtain⟨q,q1,q2⟩:=kH (b:=b) x.length (λj a=>a=(j:Int)/\x.take j=y.take j) (λq=>q=if x=y then .inl ()else .inr (.inl false))
  (by
   rintro j _ hj ⟨rfl,ht⟩;rw [h1 j hj];by_cases e:x[j]=y[j]
   .rw [if_pos e];refine .inl ⟨_,rfl,rfl,?_⟩;rw [List.take_succ_eq_append_getElem hj,List.take_succ_eq_append_getElem (by omega),ht,e]
   .rw [if_neg e];refine .inr ⟨_,rfl,?_⟩
    rw [if_neg (λh=>e (by simp [h]))])
  (by
   rintro _ ⟨rfl,ht⟩;refine⟨_,h2 _ (Nat.le_refl _),?_⟩;rw [List.take_of_length_le (Nat.le_refl _),List.take_of_length_le (by omega)]at ht
   rw [if_pos ht]) 0 (Nat.zero_le _) 0 ⟨rfl,by simp⟩
 rw [q1,q2]
end
section
open Go
abbrev Mx:=Int×Int×Sl Int×Sl Int×Sl Int
abbrev E3:=Int×Int×Int
end
section
open Go Sm
def bel(a b:E3):Bool:=klt (key a) (key b)
abbrev sn(l:List E3):Prop:=l.Pairwise λa b=>bel a b=true
def RZ(n:Nat)(f:Nat->Int):List Int:=(List.range (n+1)).map f
def Sa(l:List E3)(k:Nat):Nat:=l.countP λx=>decide (x.1<(k:Int))
end
section
open Go Sm
abbrev RG(r:Int):Rg:=⟨ofW,ku r,dm⟩
end
section
open Go Sm
def FV{α:Type}(l:List α)(k:Nat)(y:α):List α:=l.take k++y::l.drop k
theorem FW{α:Type}{l:List α}{k:Nat}(y:α):(FV l k y).length=l.length+1:=by unfold FV;simp;omega
def pos(S:List (Ky×V))(e:E3):Nat:=(S.takeWhile λp=>klt p.1 (key e)).length
theorem FX(R:Rg)(e:E3):∀(S:List (Ky×V)),ins R S e=if h:pos S e<S.length then(if klt (key e) (S[pos S e]'h).1=true then FV S (pos S e) (key e,R.o e.2.2)else S.set (pos S e) ((S[pos S e]'h).1,R.ad (S[pos S e]'h).2 (R.o e.2.2)))else S++ [(key e,R.o e.2.2)]
 | []=>by simp [ins,pos]
 |p::S=>by
  have ih:=FX R e S;unfold ins;by_cases hp:klt p.1 (key e)=true
  .have hpos:pos (p::S) e=pos S e+1:=by unfold pos;simp [List.takeWhile_cons,hp]
   rw [if_pos hp,ih];simp only [hpos,List.length_cons,Nat.add_lt_add_iff_right,List.getElem_cons_succ];split
   .split
    .unfold FV;simp
    .simp
   .simp
  .have hpos:pos (p::S) e=0:=by unfold pos;simp [List.takeWhile_cons,hp]
   rw [if_neg hp];simp only [hpos,List.length_cons,Nat.zero_lt_succ,dif_pos,List.getElem_cons_zero];split
   .unfold FV;simp
   .simp
theorem IK(R:Rg)(l:List E3):(gp R l).length<=l.length:=by
 have key:∀(S:List (Ky×V)) e,(ins R S e).length<=S.length+1:=by
  intro S e;rw [FX];split
  .split
   .rw [FW];omega
   .simp
  .simp
 have:∀(l:List E3) (S:List (Ky×V)),(l.foldl (ins R) S).length<=S.length+l.length:=by
  intro l
  induction l with
  |nil=>intro S;simp
  |cons e l ih=>intro S;have h1:=ih (ins R S e);have h2:=key S e;simp only [List.foldl_cons,List.length_cons];omega
 simpa [gp]using this l []
end
section
open Go Sm
theorem risL_iff:∀{l:List E3},dU l=true↔sn l
 | []=>by simp [dU,sn]
 | [a]=>by simp [dU,sn]
 |a::b::r=>by
  rw [mn,Bool.and_eq_true,risL_iff];constructor
  .rintro⟨h1,h2⟩;refine List.pairwise_cons.2 ⟨λy hy=> ?_,h2⟩;rcases List.mem_cons.1 hy with rfl|hy
   .exact h1
   .exact oP h1 ((List.pairwise_cons.1 h2).1 y hy)
  .intro h;obtain⟨h1,h2⟩:=List.pairwise_cons.1 h;exact⟨h1 b (by simp),h2⟩
theorem po{n:Int}(h:dq n):dm (ofW n)=(n,true):=by
 unfold dm
 have e:IntKind.i64.wrap (ofW n).2=n:=by
  unfold ofW;simp only;rw [wrap_u64,IntKind.wrap_i64];unfold dq at h;omega
 rw [e,if_pos rfl]
def w64(l:List E3):Prop:=∀x∈l,dq x.1/\dq x.2.1/\dq x.2.2
theorem AE{r:Int}{l:List E3}(h:sn l)(hw:∀x∈l,dq x.2.2):cG (RG r) l=(l,0):=by
 have hc:=ye (RG r) l h
 have ha:(gp (RG r) l).all (λp=>((RG r).na p.2).2)=true:=by
  rw [hc,List.all_eq_true];intro p hp;obtain⟨e,he,rfl⟩:=List.mem_map.1 hp;show(dm (ofW e.2.2)).2=true;rw [po (hw e he)]
 unfold cG;rw [if_pos ha,hc,List.map_map]
 have:l.map (toE (RG r)∘ λe=>(key e,(RG r).o e.2.2))=l:=by
  refine(List.map_congr_left (g:=id) λe he=> ?_).trans (List.map_id l);show(e.1,e.2.1,(dm (ofW e.2.2)).1)=e;rw [po (hw e he)]
 rw [this]
theorem so{r:Int}{l:List E3}:sn (cG (RG r) l).1/\(cG (RG r) l).1.length<=l.length/\(∀x∈(cG (RG r) l).1,dq x.2.2/\∃y∈l,y.1=x.1/\y.2.1=x.2.1)/\((cG (RG r) l).2=0∨cG (RG r) l=([],12)):=by
 unfold cG;split
 .refine⟨?_,by rw [List.length_map];exact IK _ _,λx hx=> ?_,.inl rfl⟩
  .show((gp (RG r) l).map (toE (RG r))).Pairwise _;rw [List.pairwise_map];exact(iL (RG r) l).1
  .obtain⟨p,hp,rfl⟩:=List.mem_map.1 hx;refine⟨?_,?_⟩
   .show dq (dm p.2).1;unfold dm;split
    .exact yk _
    .unfold dq;omega
   .obtain⟨e,he,hk⟩:=wJ (((iL (RG r) l).2 p.1 p.2).1 hp);have h1:=congrArg Prod.fst hk;have h2:=congrArg Prod.snd hk;exact⟨e,he,h1,h2⟩
 .exact⟨List.Pairwise.nil,Nat.zero_le _,by simp,.inr rfl⟩
theorem pq{n:Int}(h:dq n):Eg.inB n=true/\Eg.inB n=true:=by
 unfold dq at h;simp [Eg.inB,Eg.inB,h.1,h.2]
theorem Md{x:Sl E3}(hs:okS 3 x)(hn:x.nn=false->x.l= [])(hl:x.l.length<=65536)(hw:w64 x.l):Eg.okB x=true/\Eg.okB x=true:=by
 have h1:x.l.length<=90000:=by omega
 have h2:x.sz=3∨x.l= []:=hs.symm
 have h3:x.nn=true∨x.l= []:=by
  cases h:x.nn with
  |true=>exact .inl rfl
  |false=>exact .inr (hn h)
 constructor
 .simp only [Eg.okB,Bool.and_eq_true,Bool.or_eq_true,decide_eq_true_eq,List.isEmpty_iff,List.all_eq_true];exact⟨⟨⟨h1,λe he=>⟨(pq (hw e he).1).1,(pq (hw e he).2.1).1,(pq (hw e he).2.2).1⟩⟩,h2⟩,h3⟩
 .simp only [Eg.okB,Bool.and_eq_true,Bool.or_eq_true,decide_eq_true_eq,List.isEmpty_iff,List.all_eq_true];exact⟨⟨⟨h1,λe he=>⟨(pq (hw e he).1).2,(pq (hw e he).2.1).2,(pq (hw e he).2.2).2⟩⟩,h2⟩,h3⟩
theorem qL{r:Int}{x:Sl E3}(hr:jC r=true)(hs:okS 3 x)(hn:x.nn=false->x.l= [])(hl:x.l.length<=65536)(hw:w64 x.l):∃s:Sl E3,cV r x=some (s,(cG (RG r) x.l).2)/\okS 3 s/\(s.nn=false->s.l= [])/\s.l=(cG (RG r) x.l).1:=by
 have h1:cV r x=Eg.fn (r,x):=rfl;rw [h1];unfold Eg.fn;rw [if_pos hr,if_pos (Md hs hn hl hw).2];by_cases hr:dU x.l=true
 .simp only [if_pos hr];rw [AE (risL_iff.1 hr) λe he=>(hw e he).2.2];exact⟨_,rfl,.inr rfl,hn,rfl⟩
 .simp only [if_neg hr];have hR:Eg.RG r=RG r:=rfl;rw [hR];by_cases h0:(cG (RG r) x.l).2=0
  .rw [if_pos h0,h0];exact⟨_,rfl,.inr rfl,(by simp),rfl⟩
  .rw [if_neg h0];have he:=(so (r:=r) (l:=x.l)).2.2.2.resolve_left h0;rw [he];exact⟨_,rfl,.inl rfl,λ_=>rfl,rfl⟩
def inM(n c:Int)(x:E3):Bool:=decide (0<=x.1/\x.1<n/\0<=x.2.1/\x.2.1<c)
theorem Nv{α:Type}{p:α->Bool}{l:List α}{j:Nat}(hj:j<l.length)(h:p l[j]=false):l.all p=false:=by
 rw [Bool.eq_false_iff];intro ha;rw [List.all_eq_true.1 ha _ (List.getElem_mem hj)]at h;cases h
end
section
open Go Sm
theorem AF{α:Type}[DecidableEq α]{x y:Sl α}(hl:x.l.length<=9223372036854775806){w:Nat}(hx:okS w x)(hy:okS w y){b:Int->Option (Int ⊕ PUnit ⊕ Bool ⊕ Empty)}
  (hb:∀a,b a=if a<(x.l.length:Int)then(atS w x a).bind λu=>(atS w y a).bind λv=>if u≠v then some (.inr (.inr (.inl false)))else some (.inl (IntKind.i64.wrap (a+1)))else some (.inr (.inl ()))):
  (if(x.l.length:Int)≠(y.l.length:Int)then some false else(bn b 0).bind λ(y:PUnit ⊕ Bool ⊕ Empty)=>Sum.elim (λ_=>some true) (λv=>Sum.elim (λv=>some v) (λv=>nE v) v) y)=some (decide (x.l=y.l)):=by
 by_cases h:x.l.length=y.l.length
 .rw [if_neg (by omega)]
  rw [DT h (b:=b) (λj hj=>by
   rw [hb,if_pos (by omega),vh hx (List.getElem?_eq_getElem hj),vh hy (List.getElem?_eq_getElem (by omega))];simp only [zbS];by_cases he:x.l[j]=y.l[j]
   .rw [if_neg (by simp [he]),if_pos he,mJ hj (by omega)]
   .rw [if_pos he,if_neg he]) (λj hj=>by rw [hb,if_neg (by omega)])]
  by_cases he:x.l=y.l
  .simp [he]
  .simp [he]
 .rw [if_pos (by omega),decide_eq_false];exact λhe=>h (by rw [he])
theorem FY{x:Sl E3}(h:K.W (.S (.C (.I .i64) (.C (.I .i64) (.I .i64)))) x):okS 3 x/\(x.nn=false->x.l= [])/\w64 x.l:=⟨.inr h.1,h.2.1,λy hy=>⟨wM (h.2.2.2 y hy).1,wM (h.2.2.2 y hy).2.1,wM (h.2.2.2 y hy).2.2⟩⟩
end
section
open Go Sm
structure Is(m:Mx)(n c:Int)(l:List E3):Prop where
 hn:0<=n/\n<=4096
 hc:0<=c/\c<=4096
 len:l.length<=65536
 r:sn l
 p:∀x∈l,(0<=x.1/\x.1<n)/\0<=x.2.1/\x.2.1<c
 v:∀x∈l,dq x.2.2
 e1:m.1=n
 e2:m.2.1=c
 e3:m.2.2.1.l=RZ n.toNat λk=>((Sa l k:Nat):Int)
 e4:m.2.2.2.1.l=l.map (·.2.1)
 e5:m.2.2.2.2.l=l.map (·.2.2)
 o3:okS 1 m.2.2.1
 o4:okS 1 m.2.2.2.1
 o5:okS 1 m.2.2.2.2
section
variable {m : Mx} {n c : Int} {l : List E3}
end
end
section
open Go Sm
end
section
open Go Sm
section
variable {m : Mx} {n c : Int} {l : List E3}
end
end
section
open Go Sm
section
variable {m : Mx}
end
end
section
open Go Sm
abbrev Cx:=Int×Int×Sl Int×Sl Int×Sl Int×Sl Int
section
variable {T : List E3}
end
section
variable {c : Cx} {n k : Int} {T : List E3}
end
section
variable {c : Cx}
end
end
section
open Go Sm
section
variable {m : Mx} {n c : Int} {l : List E3}
end
end
section
open Go Sm
section
variable {m : Mx} {n c : Int} {l : List E3}
end
end
section
open Go Sm
section
variable {c : Cx} {n k : Int} {T : List E3}
theorem getD_some{l:List Int}{i:Nat}{x:Int}(h:l[i]? =some x):l.getD i 0=x:=by rw [List.getD_eq_getElem?_getD,h];rfl
end
end
section
open Go Sm
section
variable {m : Mx} {n k : Int} {l T : List E3} {c : Cx}
end
end
section
open Go Sm
section
variable {m : Mx} {n c : Int} {l : List E3}
end
end
section
open Go Sm
theorem vi{α:Type}[DecidableEq α]{x y:Sl α}(hl:x.l.length<=9223372036854775806){w:Nat}(hx:okS w x)(hy:okS w y){b:Int->Option (Int ⊕ PUnit ⊕ Bool ⊕ Empty)}{P:α->α->Prop}[∀u v,Decidable (P u v)](hP:∀u v,P u v↔u=v)
  (hb:∀a,b a=if a<(x.l.length:Int)then(atS w x a).bind λu=>(atS w y a).bind λv=>if¬P u v then some (.inr (.inr (.inl false)))else some (.inl (IntKind.i64.wrap (a+1)))else some (.inr (.inl ()))):
  (if(x.l.length:Int)≠(y.l.length:Int)then some false else(bn b 0).bind λ(y:PUnit ⊕ Bool ⊕ Empty)=>Sum.elim (λ_=>some true) (λv=>Sum.elim (λv=>some v) (λv=>nE v) v) y)=some (decide (x.l=y.l)):=by
 refine AF hl hx hy λa=> ?_;rw [hb];by_cases h:a<(x.l.length:Int)
 .rw [if_pos h,if_pos h]
  cases atS w x a with
  |none=>rfl
  |some u=>
   cases atS w y a with
   |none=>rfl
   |some v=>
    simp only [zbS];by_cases he:u=v
    .rw [if_neg (λhh=>hh ((hP u v).2 he)),if_neg (λhh=>hh he)]
    .rw [if_pos (λhh=>he ((hP u v).1 hh)),if_pos he]
 .rw [if_neg h,if_neg h]
section
variable {m m' : Mx} {n c : Int} {l : List E3}
end
end
section
open Go Sm
section
variable {m : Mx} {n k : Int} {l T : List E3} {c : Cx}
end
end
section
open Go Sm
section
variable {m a : Mx} {n k : Int} {l T : List E3} {c q : Cx}
end
end
section
open Go Sm
abbrev Gr:=Int×Sl E3
theorem FZ{l:List E3}(p:E3->Bool)(v:Nat->Int){b:Int->Option (Int ⊕ PUnit ⊕ Int ⊕ Empty)}(h1:∀j:Nat,(h:j<l.length)->b j=some (if p l[j]=true then .inl ((j+1:Nat):Int)else .inr (.inr (.inl (v j)))))(h2:b (l.length:Nat)=some (.inr (.inl ()))):
  (l.all p=true/\bn b 0=some (.inl ()))∨(l.all p=false/\∃j,bn b 0=some (.inr (.inl (v j)))):=by
 obtain⟨q,q1,q2⟩:=kH (b:=b) l.length (λj a=>a=(j:Int)/\(l.take j).all p=true) (λq=>(l.all p=true/\q= .inl ())∨(l.all p=false/\∃j,q= .inr (.inl (v j))))
  (by
   rintro j _ hj ⟨rfl,g⟩;rw [h1 j hj];by_cases hp:p l[j]=true
   .refine .inl ⟨_,by rw [if_pos hp],rfl,?_⟩;rw [List.take_succ_eq_append_getElem hj,List.all_append,g];simp [hp]
   .refine .inr ⟨_,by rw [if_neg hp],.inr ⟨Nv hj (by simpa using hp),j,rfl⟩⟩)
  (by
   rintro _ ⟨rfl,g⟩;rw [List.take_length]at g
   exact⟨_,h2,.inl ⟨g,rfl⟩⟩) 0 (Nat.zero_le _) 0 ⟨rfl,rfl⟩
 rw [q1];rcases q2 with⟨a,rfl⟩|⟨a,j,rfl⟩
 .exact .inl ⟨a,rfl⟩
 .exact .inr ⟨a,j,rfl⟩
section
variable {g : Gr}
end
end
section
open Go Sm
theorem Nw(x:Int):0<=Bi .i64 x 2147483647/\Bi .i64 x 2147483647<=2147483647:=by
 have h:(BitVec.ofInt 64 x &&& BitVec.ofInt 64 2147483647).toNat<=2147483647:=by
  rw [BitVec.toNat_and];exact Nat.le_trans Nat.and_le_right (by decide)
 have e:Bi .i64 x 2147483647=IntKind.i64.wrap (((BitVec.ofInt 64 x &&& BitVec.ofInt 64 2147483647).toNat:Nat):Int):=rfl;rw [e,wrap64 (by omega) (by omega)];omega
theorem sq(x:Int){n:Int}(h:0<n):∃u,bJ x n=some u/\0<=u/\u<n:=by
 rw [qK,if_neg (by omega)];by_cases hx:x<0
 .rw [if_pos hx];exact⟨0,rfl,by omega,h⟩
 .rw [if_neg hx];unfold Hl;rw [if_pos (by omega),Int.tmod_eq_emod_of_nonneg (by omega)];exact⟨_,rfl,Int.emod_nonneg _ (by omega),Int.emod_lt_of_pos _ h⟩
structure Gd(n:Int)(l:List E3):Prop where
 n0:0<=n/\n<24
 len:l.length<=60
 p:∀x∈l,(0<=x.1/\x.1<n)/\(0<=x.2.1/\x.2.1<n)/\0<=x.2.2/\x.2.2<=2147483647
theorem IL{x:Gr}(hs:okS 3 x.2):∃n l,eI x=some (n,mo 3 l)/\Gd n l:=by
 obtain⟨n,e,h1,h2⟩:=sq x.1 (n:=24) (by omega);rw [sm,e];simp only [zbS]
 obtain⟨q,q1,l,rfl,q2⟩:=kH (b:=gz x) x.2.l.length (λj a=>∃l,a=((j:Int),n,l)/\l.length<=j/\l.length<=60/\Gd n l) (λq=>∃l,q= .inl (n,l)/\Gd n l)
  (by
   rintro j _ hj ⟨l,rfl,g0,g1,g2⟩;simp only [gz];rw [if_pos (by omega)];by_cases c1:(j:Int)<60
   .rw [if_pos c1];by_cases c2:n>0
    .rw [if_pos c2];have ej:=ig hs hj;generalize x.2.l[j]=y at ej;obtain⟨u,u1,u2,u3⟩:=sq y.1 c2;obtain⟨w,w1,w2,w3⟩:=sq y.2.1 c2;have ha:=Nw y.2.2;rw [ej];simp only [zbS];by_cases c3:l.length=0
     .obtain rfl:=List.length_eq_zero_iff.1 c3
      (try rw [if_pos (show List.length ([]:List E3)=0 from rfl)])
      rw [u1];simp only [zbS];rw [w1];simp only [zbS];rw [jS (by simp;unfold co;omega)];simp only [zbS];rw [wrap64 (by omega) (by omega)];refine .inl ⟨_,rfl,_,rfl,by first|(simp;omega)|simp,by first|(simp;omega)|simp,g2.n0,by first|(simp;omega)|simp,λz hz=> ?_⟩;rcases List.mem_append.1 hz with hz|hz
      .exact g2.p z hz
      .simp only [List.mem_cons,List.not_mem_nil,or_false]at hz;subst hz;exact⟨⟨u2,u3⟩,⟨w2,w3⟩,ha⟩
     ·(try rw [if_neg c3])
      rw [u1];simp only [zbS];rw [w1];simp only [zbS];rw [jS (by simp;unfold co;omega)];simp only [zbS];rw [wrap64 (by omega) (by omega)];refine .inl ⟨_,rfl,_,rfl,by first|(simp;omega)|simp,by first|(simp;omega)|simp,g2.n0,by first|(simp;omega)|simp,λz hz=> ?_⟩;rcases List.mem_append.1 hz with hz|hz
      .exact g2.p z hz
      .simp only [List.mem_cons,List.not_mem_nil,or_false]at hz;subst hz;exact⟨⟨u2,u3⟩,⟨w2,w3⟩,ha⟩
    .rw [if_neg c2];exact .inr ⟨_,rfl,l,rfl,g2⟩
   .rw [if_neg c1];exact .inr ⟨_,rfl,l,rfl,g2⟩)
  (by
   rintro _ ⟨l,rfl,g0,g1,g2⟩
   exact⟨_,if_neg (show¬((x.2.l.length:Nat):Int)<((x.2.l.length:Nat):Int)by omega),l,rfl,g2⟩) 0 (Nat.zero_le _) (0,n,[]) ⟨[],rfl,by simp,by simp,⟨h1,h2⟩,by simp,by simp⟩
 rw [q1];exact⟨n,l,rfl,q2⟩
section
variable {n : Int} {l : List E3}
theorem Gd.w(h:Gd n l):w64 l:=λx hx=>by
 have:=h.p x hx
 have:=h.n0
 unfold dq;omega
theorem Nx{α:Type}{w:Nat}(l:List α):(mo w l).nn=false->(mo w l).l= []:=by
 cases l with
 |nil=>exact λ_=>rfl
 |cons a l=>exact λh=>by simp [mo]at h
theorem Ga{l:List E3}:∀{f:Ky->Option V} {k:Ky} {z:V},l.foldl (Sm.upd (RG 1)) f k=some z->(∃e∈l,key e=k/\z=ofW e.2.2)∨f k=some z:=by
 induction l with
 |nil=>exact λh=> .inr h
 |cons e l ih=>
  intro f k z h;rcases ih (f:=Sm.upd (RG 1) f e) h with⟨e',h1,h2⟩|h2
  .exact .inl ⟨e',List.mem_cons_of_mem _ h1,h2⟩
  .unfold Sm.upd at h2;by_cases hk:k=key e
   .rw [if_pos hk]at h2
    cases hf:f (key e)with
    |none=>
     rw [hf]at h2;exact .inl ⟨e,by simp,hk.symm,(Option.some.inj h2).symm⟩
    |some s=>
     rw [hf]at h2;have h3:rI s (ofW e.2.2)=z:=Option.some.inj h2;unfold rI at h3;split at h3
     .exact .inl ⟨e,by simp,hk.symm,h3.symm⟩
     .right;rw [hk,hf,h3]
   .rw [if_neg hk]at h2;exact .inr h2
theorem Gb{l:List E3}(hw:w64 l){x:E3}(hx:x∈(cG (RG 1) l).1):x∈l:=by
 unfold cG at hx;split at hx
 .obtain⟨p,hp,rfl⟩:=List.mem_map.1 hx;have h:=((iL (RG 1) l).2 p.1 p.2).1 hp;rcases Ga h with⟨e,h1,h2,h3⟩|h1
  .have hv:=(hw e h1).2.2
   have:toE (RG 1) p=e:=by
    unfold toE;rw [<-h2,h3];show(e.1,e.2.1,(dm (ofW e.2.2)).1)=e;rw [po hv]
   rw [this];exact h1
  .simp at h1
 .simp at hx
theorem Gd.can(h:Gd n l):Gd n (cG (RG 1) l).1:=⟨h.n0,Nat.le_trans (so (r:=1) (l:=l)).2.1 h.len,λx hx=>h.p x (Gb h.w hx)⟩
theorem Cm(h:Gd n l){s:Sl E3}(hs:okS 3 s)(hn:s.nn=false->s.l= [])(e:s.l=l):∃s':Sl E3,dB (n,s)=some (n,s')/\okS 3 s'/\(s'.nn=false->s'.l= [])/\s'.l=(cG (RG 1) l).1:=by
 subst e;obtain⟨s',e1,e2,e3,e4⟩:=qL (r:=1) (by decide) hs hn (by have:=h.len;omega) h.w;rw [sj];simp only;rw [e1];exact⟨s',rfl,e2,e3,e4⟩
end
end
section
open Go Sm
end
section
open Go Sm
end
end Ev
end
noncomputable section
namespace Ev
open Go Sm
def bts(x:Int)(k:Nat):List Int:=(List.range k).map λi=>x / 256 ^ i % 256
theorem eu(x:Int)(k:Nat):(bts x k).length=k:=by simp [bts]
theorem Gc(x:Int)(k i:Nat)(h:i<k):(bts x k)[i]? =some (x / 256 ^ i % 256):=by simp [bts,h]
theorem Ge(x:Int)(k:Nat):bts x (k+1)=bts x k++ [x / 256 ^ k % 256]:=by simp [bts,List.range_succ]
theorem kA{x:Int}{k:Nat}{y:Int}(h:y∈bts x k):0<=y/\y<=255:=by
 simp only [bts,List.mem_map]at h;obtain⟨i,_,rfl⟩:=h;omega
theorem yL{b:Int×List Int->Option (Int×List Int ⊕ List Int ⊕ Empty)}{x:Int}{k:Nat}
  (hb:∀(i:Nat) (L:List Int),i<k->L.length=k->b ((i:Int),L)=some (.inl (((i+1:Nat):Int),L.set i (x / 256 ^ i % 256))))
  (he:∀L,b ((k:Int),L)=some (.inr (.inl L))):bn b (0,List.replicate k 0)=some (.inl (bts x k)):=by
 refine kz k (λi=>((i:Int),bts x i++List.replicate (k - i) 0)) (by simp [bts]) (λi hi=> ?_) ?_
 .rw [hb i _ hi (by simp [eu];omega)];congr 3;rw [Ge];obtain⟨d,rfl⟩:∃d,k=i+1+d:=⟨k - (i+1),by omega⟩;rw [show i+1+d - i=d+1 by omega,show i+1+d - (i+1)=d by omega,List.replicate_succ,List.set_append_right _ _ (by rw [eu];exact Nat.le_refl _),eu,Nat.sub_self,List.set_cons_zero,List.append_assoc];rfl
 .rw [Nat.sub_self,List.replicate_zero,List.append_nil,he]
theorem Gf(i:Nat)(h:i<8):IntKind.u64.wrap (IntKind.i64.wrap (8*(i:Int)))=((8*i:Nat):Int):=by
 rw [wrap64 (by omega) (by omega),wrap_u64];omega
theorem yN{k:IntKind}{x:Int}{i:Nat}(h:8*i<=k.bits):xn k x ((8*i:Nat):Int)=some (x / 256 ^ i):=by
 unfold xn Jn;rw [if_pos (by omega),Int.toNat_natCast,Nat.min_eq_left h,Int.fdiv_eq_ediv_of_nonneg _ (Int.le_of_lt (Int.pow_pos (by decide))),Int.pow_mul];rfl
theorem Cn(n:Int):IntKind.u8.wrap n=n % 256:=by
 simp [IntKind.wrap,IntKind.signed,IntKind.bits]
theorem Gg{n:Int}(h:0<=n/\n<4294967296):IntKind.u32.wrap n=n:=by
 have:IntKind.u32.wrap n=n % 4294967296:=by simp [IntKind.wrap,IntKind.signed,IntKind.bits]
 rw [this,Int.emod_eq_of_lt h.1 h.2]
theorem IM(x:Int):eG x=some (bts x 4):=by
 rw [sg,lr,sK];have h1:sJ 4=some ():=rfl;rw [h1];simp only [zbS]
 have q:=yL (b:=cA x 4) (x:=x) (k:=4) (λi L hi hL=>by
  simp only [cA];rw [if_pos (by simp;omega),Gf i (by omega),yN (by show 8*i<=32;omega),ve (List.getElem?_eq_getElem (by omega))];simp only [zbS];rw [wrap64 (by omega) (by omega),Cn]
  rfl) (λL=>by
  simp only [cA]
  rw [if_neg (by simp)])
 rw [show Int.toNat 4=4 from rfl,q];rfl
theorem IN(x:Int):eH x=some (bts x 8):=by
 rw [sk,mA,sK];have h1:sJ 8=some ():=rfl;rw [h1];simp only [zbS]
 have q:=yL (b:=cK x 8) (x:=x) (k:=8) (λi L hi hL=>by
  simp only [cK];rw [if_pos (by simp;omega),Gf i (by omega),yN (by show 8*i<=64;omega),ve (List.getElem?_eq_getElem (by omega))];simp only [zbS];rw [wrap64 (by omega) (by omega),Cn]
  rfl) (λL=>by
  simp only [cK]
  rw [if_neg (by simp)])
 rw [show Int.toNat 8=8 from rfl,q];rfl
def b4s(l:List Int):List Int:=l.flatMap λn=>bts n 4
theorem nG(l:List Int):(b4s l).length=4*l.length:=by
 induction l with
 |nil=>rfl
 |cons a r ih=>simp only [b4s,List.flatMap_cons,List.length_append,eu,List.length_cons]at*;omega
theorem JU{s:Sl Int}(hs:okS 1 s)(hl:s.l.length<=1000)(h:∀y∈s.l,0<=y/\y<4294967296):eC s=some (b4s s.l):=by
 rw [uy]
 have q:bn (fG s) ([],0)=some (.inl (b4s s.l)):=by
  rw [show b4s s.l=b4s (s.l.take s.l.length)by rw [List.take_length]];refine kz s.l.length (λi=>(b4s (s.l.take i),(i:Int))) (by simp [b4s]) (λi hi=> ?_) ?_
  .simp only [fG];rw [if_pos (by omega),ig hs hi];simp only [zbS];rw [Gg (h _ (List.getElem_mem hi)),IM];simp only [zbS];rw [jS (by rw [nG,eu];simp;unfold co;omega),mJ hi (by omega)];simp only [zbS];rw [List.take_succ_eq_append_getElem hi];simp only [b4s,List.flatMap_append,List.flatMap_cons,List.flatMap_nil,List.append_nil]
  .simp only [fG];rw [if_neg (by omega)]
 rw [q];rfl
end Ev
end
noncomputable section
namespace Ev
open Go Sm
theorem AG{n:Int}{g:Nat->Int}:∀(k:Nat),(∀i,i<k->g i=n / 256 ^ i % 256)->le g k=n % 256 ^ k
 |0,_=>by simp [le,Int.emod_one]
 |k+1,h=>by
  rw [le,AG k λi hi=>h i (by omega),h k (by omega)];have hp:(0:Int)<256 ^ k:=Int.pow_pos (by decide);have e1:(2:Int)^(8*k)=256 ^ k:=by rw [Int.pow_mul];rfl
  rw [e1];have e2:n /(256 ^ k*256)=n / 256 ^ k / 256:=(Int.ediv_ediv_of_nonneg (Int.le_of_lt hp)).symm;rw [Int.pow_succ];generalize (256:Int)^ k=M at hp e2 ⊢;rw [Int.emod_def n (M*256),e2,Int.emod_def n M,Int.emod_def (n / M) 256];generalize n / M / 256=q;generalize n / M=r;rw [Int.sub_mul,Int.mul_comm r M,Int.mul_comm 256 q,Int.mul_assoc q 256 M,Int.mul_comm 256 M,Int.mul_comm q (M*256)];omega
theorem nH{f:Nat->Int}{m:Nat}{B pre post:List Int}{n most e:Int}(hB:B=pre++(bts n 4++post))(hf:∀i,i<m->f i=B.getD i 0)(h0:0<=n)(h1:n<=most)(h2:most<=2147483647):
  dL f m pre.length most e=if pre.length+4<=m then .ok (n,pre.length+4)else .error (2,(m:Int)):=by
 unfold dL;by_cases h:pre.length+4<=m
 .have hl:le (λi=>f (pre.length+i)) 4=n:=by
   rw [AG (n:=n) 4 λi hi=>by
    rw [hf _ (by omega),hB,List.getD_eq_getElem?_getD,List.getElem?_append_right (by omega),Nat.add_sub_cancel_left,List.getElem?_append_left (by rw [eu];exact hi),Gc _ _ _ hi]
    rfl]
   omega
  rw [if_pos h,if_pos h,hl,if_neg (by omega)]
 .rw [if_neg h,if_neg h]
theorem IP{n:Int}(h:dq n):Go.RowKit.wrap64 (n % 256 ^ 8)=n:=by
 unfold dq at h;unfold Go.RowKit.wrap64;omega
theorem Ny{f:Nat->Int}{m:Nat}{B pre post:List Int}{n:Int}(hB:B=pre++(bts n 8++post))(hf:∀i,i<m->f i=B.getD i 0)(hn:dq n)(h:pre.length+8<=m):lw (λj=>f (pre.length+j)) 8=n:=by
 unfold lw
 rw [AG (n:=n) 8 λi hi=>by
  rw [hf _ (by omega),hB,List.getD_eq_getElem?_getD,List.getElem?_append_right (by omega),Nat.add_sub_cancel_left,List.getElem?_append_left (by rw [eu];exact hi),Gc _ _ _ hi]
  rfl]
 exact IP hn
def fV(t:Int×Int×Int):List Int:=bts t.1 4++(bts t.2.1 4++bts t.2.2 8)
theorem yO(t:Int×Int×Int):(fV t).length=16:=by simp [fV,eu]
def uz:Nat->Int×Int×Int->List (Int×Int×Int)->Prop
 |_,_,[]=>True
 |i,last,t::r=>(0<i->rU last t=true)/\uz (i+1) t r
theorem IQ{f:Nat->Int}{m i:Nat}{B pre post:List Int}{rows cols:Int}{last t:Int×Int×Int}(hB:B=pre++(fV t++post))(hf:∀i,i<m->f i=B.getD i 0)(hr:rows<=4096)(hc:cols<=4096)(ht:inM rows cols t=true)(h64:dq t.2.2)(ho:0<i->rU last t=true):
  ir f m pre.length rows cols last i=if pre.length+16<=m then .ok (t,pre.length+16)else .error (2,(m:Int)):=by
 have ht2:0<=t.1/\t.1<rows/\0<=t.2.1/\t.2.1<cols:=of_decide_eq_true ht;have n1:=nH (pre:=pre) (most:=rows - 1) (e:=3) (post:=bts t.2.1 4++(bts t.2.2 8++post)) (by rw [hB,fV];simp only [List.append_assoc]) hf ht2.1 (by omega) (by omega);have n2:=nH (pre:=pre++bts t.1 4) (most:=cols - 1) (e:=3) (post:=bts t.2.2 8++post) (by rw [hB,fV];simp only [List.append_assoc]) hf ht2.2.2.1 (by omega) (by omega);have n3:=Ny (m:=m) (pre:=pre++(bts t.1 4++bts t.2.1 4)) (post:=post) (by rw [hB,fV];simp only [List.append_assoc]) hf h64;simp only [List.length_append,eu]at n2 n3;unfold ir;rw [n1];by_cases h1:pre.length+4<=m
 .rw [if_pos h1];dsimp only;rw [n2];by_cases h2:pre.length+4+4<=m
  .rw [if_pos h2];dsimp only;by_cases h3:pre.length+4+4+8<=m
   .have e2:lw (λj=>f (pre.length+4+4+j)) 8=t.2.2:=n3 (by omega);rw [if_pos h3,e2];have e:(t.1,t.2.1,t.2.2)=t:=rfl;rw [e,if_neg (λh=>by rw [ho (by omega)]at h;exact absurd h.2 (by decide)),if_pos (show pre.length+16<=m by omega)]
   .rw [if_neg h3,if_neg (by omega)]
  .rw [if_neg h2,if_neg (by omega)]
 .rw [if_neg h1,if_neg (by omega)]
theorem yP{f:Nat->Int}{m:Nat}{B post:List Int}{rows cols:Int}(hf:∀i,i<m->f i=B.getD i 0)(hr:rows<=4096)(hc:cols<=4096):∀(l:List (Int×Int×Int)) (pre:List Int) (i:Nat) (last:Int×Int×Int),B=pre++(l.flatMap fV++post)->(∀t∈l,inM rows cols t=true/\dq t.2.2)->uz i last l->pre.length<=m->
  cH f m rows cols l.length i last pre.length=if pre.length+16*l.length<=m then .ok (l,pre.length+16*l.length)else .error (2,(m:Int))
 | [],pre,i,last,_,_,_,hm=>by simp [cH,hm]
 |t::r,pre,i,last,hB,hl,ho,hm=>by
  have h1:=IQ (pre:=pre) (i:=i) (last:=last) (post:=r.flatMap fV++post) (by rw [hB];simp only [List.flatMap_cons,List.append_assoc]) hf hr hc (hl t List.mem_cons_self).1 (hl t List.mem_cons_self).2 ho.1;have e16:(pre++fV t).length=pre.length+16:=by rw [List.length_append,yO]
  simp only [List.length_cons,cH];rw [h1];by_cases h:pre.length+16<=m
  .rw [if_pos h];dsimp only;have h2:=yP (post:=post) hf hr hc r (pre++fV t) (i+1) t (by rw [hB];simp only [List.flatMap_cons,List.append_assoc]) (λz hz=>hl z (List.mem_cons_of_mem _ hz)) ho.2 (by rw [e16];exact h);rw [e16]at h2;rw [h2];by_cases h3:pre.length+16+16*r.length<=m
   .rw [if_pos h3];dsimp only;rw [if_pos (show pre.length+16*(r.length+1)<=m by omega)];exact congrArg (λq=>Except.ok (t::r,q)) (show pre.length+16+16*r.length=pre.length+16*(r.length+1)by omega)
   .rw [if_neg h3];dsimp only;rw [if_neg (show¬pre.length+16*(r.length+1)<=m by omega)]
  .rw [if_neg h,if_neg (by omega)]
def gJ(rows cols:Int)(l:List (Int×Int×Int)):List Int:= [70,82,77,49]++(bts rows 4++(bts cols 4++(bts (l.length:Int) 4++l.flatMap fV)))
theorem vj(l:List (Int×Int×Int)):(l.flatMap fV).length=16*l.length:=by
 induction l with
 |nil=>rfl
 |cons a r ih=>rw [List.flatMap_cons,List.length_append,yO,ih,List.length_cons];omega
theorem yQ(rows cols:Int)(l:List (Int×Int×Int)):(gJ rows cols l).length=16+16*l.length:=by
 simp only [gJ,List.length_append,eu,vj,List.length_cons,List.length_nil];omega
theorem Gh{f:Nat->Int}{m k:Nat}{B A post:List Int}(hB:B=A++post)(hf:∀i,i<m->f i=B.getD i 0)(hk:A.length=k)(hm:k<=m):bW f 0 k=A:=by
 unfold bW;apply List.ext_getElem?;intro i;simp only [List.getElem?_map];by_cases h:i<k
 .rw [List.getElem?_range h];simp only [Option.map_some,Nat.zero_add];rw [hf i (by omega),hB,List.getD_eq_getElem?_getD,List.getElem?_append_left (by omega)];rw [List.getElem?_eq_getElem (by omega)];rfl
 .rw [List.getElem?_eq_none (by simpa using h),List.getElem?_eq_none (by omega)];rfl
theorem AH{f:Nat->Int}{m:Nat}{post:List Int}{rows cols:Int}{l:List (Int×Int×Int)}(hf:∀i,i<m->f i=(gJ rows cols l++post).getD i 0)(hr0:0<=rows)(hr:rows<=4096)(hc0:0<=cols)(hc:cols<=4096)(hl:l.length<=65536)(hin:∀t∈l,inM rows cols t=true/\dq t.2.2)(ho:uz 0 (0,0,0) l):
  cq f m=if 16+16*l.length<=m then .ok ((rows,cols,l),16+16*l.length)else .error (2,(m:Int)):=by
 unfold cq;by_cases h4:4<=m
 .rw [if_pos h4];have e0:=Gh (k:=4) (A:= [70,82,77,49]) (B:=gJ rows cols l++post) (post:=(bts rows 4++(bts cols 4++(bts (l.length:Int) 4++l.flatMap fV)))++post) (by rw [gJ,List.append_assoc]) hf rfl h4;rw [e0,if_pos (by rfl)];have n1:=nH (pre:= [70,82,77,49]) (n:=rows) (most:=4096) (e:=5) (post:=bts cols 4++(bts (l.length:Int) 4++(l.flatMap fV++post))) (B:=gJ rows cols l++post) (by rw [gJ];simp only [List.append_assoc]) hf hr0 hr (by omega);have n2:=nH (pre:= [70,82,77,49]++bts rows 4) (n:=cols) (most:=4096) (e:=5) (post:=bts (l.length:Int) 4++(l.flatMap fV++post)) (B:=gJ rows cols l++post) (by rw [gJ];simp only [List.append_assoc]) hf hc0 hc (by omega);have n3:=nH (pre:= [70,82,77,49]++(bts rows 4++bts cols 4)) (n:=(l.length:Int)) (most:=65536) (e:=5) (post:=l.flatMap fV++post) (B:=gJ rows cols l++post) (by rw [gJ];simp only [List.append_assoc]) hf (by omega) (by omega) (by omega);have n4:=yP (post:=post) (rows:=rows) (cols:=cols) hf hr hc l ([70,82,77,49]++(bts rows 4++(bts cols 4++bts (l.length:Int) 4))) 0 (0,0,0) (by rw [gJ];simp only [List.append_assoc]) hin ho;simp only [List.length_append,eu,List.length_cons,List.length_nil,Nat.reduceAdd]at n1 n2 n3 n4;rw [n1];by_cases h1:8<=m
  .rw [if_pos h1];dsimp only;rw [n2];by_cases h2:12<=m
   .rw [if_pos h2];dsimp only;rw [n3];by_cases h3:16<=m
    .rw [if_pos h3];dsimp only;rw [Int.toNat_natCast,n4 h3];by_cases h5:16+16*l.length<=m
     .rw [if_pos h5,if_pos h5]
     .rw [if_neg h5,if_neg h5]
    .rw [if_neg h3,if_neg (by omega)]
   .rw [if_neg h2,if_neg (by omega)]
  .rw [if_neg h1,if_neg (by omega)]
 .rw [if_neg h4,if_neg (by omega)]
end Ev
end
noncomputable section
namespace Ev
open Go Sm
theorem DU{x:Sl E3}{v:Int}(hn:x.l.length<=9223372036854775807){b:Int->Option (Int ⊕ PUnit ⊕ Int ⊕ Empty)}(h1:∀j:Nat,0<j->(hj:j<x.l.length)->b j=some (if klt (key x.l[j - 1]) (key x.l[j])=true then .inl ((j+1:Nat):Int)else .inr (.inr (.inl v))))(h2:∀j:Nat,x.l.length<=j->b j=some (.inr (.inl ()))):
  (dU x.l=true/\bn b 1=some (.inl ()))∨(dU x.l=false/\bn b 1=some (.inr (.inl v))):=by
 by_cases hl:x.l.length<=1
 .refine .inl ⟨?_,eD (h2 1 hl)⟩
  match x.l,hl with
  | [],_=>rfl
  | [a],_=>rfl
  |a::b::r,hl=>simp at hl
 obtain⟨r,e1,e2⟩:=kH (b:=b) x.l.length (λj a=>0<j/\a=(j:Int)/\dU x.l=dU (x.l.drop (j - 1))) (λr=>(dU x.l=true/\r= .inl ())∨(dU x.l=false/\r= .inr (.inl v)))
  (by
   rintro j _ hj ⟨h0,rfl,hr⟩;rw [h1 j h0 hj];rw [uT _ j h0 hj]at hr
   cases hk:klt (key x.l[j - 1]) (key x.l[j])with
   |true=>rw [hk]at hr;exact .inl ⟨_,rfl,by omega,rfl,by rw [hr];simp⟩
   |false=>rw [hk]at hr;exact .inr ⟨_,rfl,.inr ⟨by rw [hr];rfl,rfl⟩⟩)
  (by
   rintro _ ⟨h0,rfl,hr⟩;refine⟨_,h2 _ (Nat.le_refl _),.inl ⟨?_,rfl⟩⟩;rw [hr,List.drop_eq_getElem_cons (by omega),show x.l.length - 1+1=x.l.length by omega,List.drop_length]
   rfl)
  1 (by omega) ((1:Nat):Int) ⟨by omega,rfl,by simp⟩
 rcases e2 with⟨g1,rfl⟩|⟨g1,rfl⟩
 .exact .inl ⟨g1,e1⟩
 .exact .inr ⟨g1,e1⟩
theorem yR(a b:E3):rU a b=klt (key a) (key b):=by
 unfold rU klt key;rw [Bool.eq_iff_iff];simp;omega
theorem Gi(a b:E3):cY a b=some (klt (key a) (key b)):=by
 rw [pm,<-yR];unfold rU;by_cases h:b.1>a.1
 .rw [if_pos h];simp [h]
 .rw [if_neg h];by_cases h2:b.1=a.1
  .rw [if_pos h2];simp [h2]
  .rw [if_neg h2];simp [h2];omega
def wrongM(rows cols:Int)(l:List E3):Int:=
 if rows<0 then 3 else if cols<0 then 3 else if rows>4096 then 5 else if cols>4096 then 5 else if(l.length:Int)>65536 then 5 else if l.all (inM rows cols)=true then if dU l=true then 0 else 6 else 3
theorem IR(rows cols:Int){s:Sl E3}(hs:okS 3 s):dO rows cols s=some (wrongM rows cols s.l):=by
 rw [qJ];unfold wrongM;split
 .rfl
 split
 .rfl
 split
 .rfl
 split
 .rfl
 split
 .rfl
 rename_i hl
 have step:∀j:Nat,(h:j<s.l.length)->eo rows cols s j=some (if inM rows cols s.l[j]=true then .inl ((j+1:Nat):Int)else .inr (.inr (.inl 3))):=λj hj=>by
  unfold eo;rw [if_pos (by omega),ig hs hj];simp only [zbS];generalize s.l[j]=y;rw [mJ hj (by omega)];unfold inM;by_cases h1:y.1<0
  .rw [if_pos h1,if_neg (by simp;omega)]
  .rw [if_neg h1];by_cases h2:y.1 >= rows
   .rw [if_pos h2,if_neg (by simp;omega)]
   .rw [if_neg h2];by_cases h3:y.2.1<0
    .rw [if_pos h3,if_neg (by simp;omega)]
    .rw [if_neg h3];by_cases h4:y.2.1 >= cols
     .rw [if_pos h4,if_neg (by simp;omega)]
     .rw [if_neg h4,if_pos (by simp;omega)]
 rcases FZ (l:=s.l) (inM rows cols) (λ_=>3) step (by unfold eo;rw [if_neg (by omega)])with⟨a,q⟩|⟨a,j,q⟩
 .rw [q,if_pos a];simp only [zbS,Sum.elim_inl]
  rcases DU (x:=s) (v:=6) (b:=ep s) (by omega) (λj h0 hj=>by
   unfold ep;rw [if_pos (by omega),show IntKind.i64.wrap ((j:Int) - 1)=((j - 1:Nat):Int)by rw [wrap64 (by omega) (by omega)];omega,ig hs (by omega),ig hs hj];simp only [zbS,Gi,mJ hj (by omega)]
   cases klt (key s.l[j - 1]) (key s.l[j])<;>rfl) (λj hj=>by
   unfold ep
   rw [if_neg (by omega)])with⟨b,q2⟩|⟨b,q2⟩
  .rw [q2,if_pos b];rfl
  .rw [q2,if_neg (by rw [b];decide)];rfl
 .rw [q,if_neg (by rw [a];decide)];rfl
theorem DV{s:Sl E3}{rows cols:Int}(hs:okS 3 s)(hl:s.l.length<=65536)(hin:s.l.all (inM rows cols)=true)(hr:rows<=4096)(hc:cols<=4096){H:List Int}(hH:H.length<=1000):
  bn (bY s) (H,0)=some (.inl (H++s.l.flatMap fV)):=by
 rw [show s.l.flatMap fV=(s.l.take s.l.length).flatMap fV by rw [List.take_length]];refine kz s.l.length (λi=>(H++(s.l.take i).flatMap fV,(i:Int))) (by simp) (λi hi=> ?_) ?_
 .have hb:=List.all_eq_true.1 hin s.l[i] (List.getElem_mem hi);have hb2:0<=s.l[i].1/\s.l[i].1<rows/\0<=s.l[i].2.1/\s.l[i].2.1<cols:=of_decide_eq_true hb;have hlen:=vj (s.l.take i);rw [List.length_take]at hlen;simp only [bY];rw [if_pos (by omega),ig hs hi];simp only [zbS];rw [JU (.inr rfl) (by simp) (λy hy=>by simp at hy;omega)];simp only [zbS];rw [jS (by rw [List.length_append,nG,hlen];simp;unfold co;omega)];simp only [zbS];rw [IN];simp only [zbS];rw [jS (by rw [List.length_append,List.length_append,nG,eu,hlen];simp;unfold co;omega),mJ hi (by omega)];simp only [zbS];rw [List.take_succ_eq_append_getElem hi];simp only [b4s,fV,List.flatMap_append,List.flatMap_cons,List.flatMap_nil,List.append_nil,List.append_assoc]
 .simp only [bY];rw [if_neg (by omega)]
theorem gA(rows cols:Int){s:Sl E3}(hs:okS 3 s):aO rows cols s=some (if wrongM rows cols s.l=0 then(⟨true,1,gJ rows cols s.l⟩,0)else(⟨false,0,[]⟩,wrongM rows cols s.l)):=by
 rw [iQ,IR rows cols hs];simp only [zbS];by_cases h:wrongM rows cols s.l=0
 .rw [if_neg (by simp [h]),if_pos h];have hw:=h;unfold wrongM at hw;split at hw<;>(try (exact absurd hw (by decide)));split at hw<;>(try (exact absurd hw (by decide)));split at hw<;>(try (exact absurd hw (by decide)));split at hw<;>(try (exact absurd hw (by decide)));split at hw<;>(try (exact absurd hw (by decide)));split at hw<;>(try (exact absurd hw (by decide)));rename_i h1 h2 h3 h4 h5 h6;rw [JU (.inr rfl) (by simp) (λy hy=>by simp at hy;omega)];simp only [zbS];rw [jS (by rw [nG];simp;unfold co;omega)];simp only [zbS];rw [DV hs (by omega) h6 (by omega) (by omega) (by rw [List.length_append,nG];simp)];simp only [zbS,Sum.elim_inl,b4s,gJ,List.flatMap_cons,List.flatMap_nil,List.append_nil,List.append_assoc]
 .rw [if_pos h,if_neg h]
theorem wrongM_iff{rows cols:Int}{l:List E3}:wrongM rows cols l=0↔(0<=rows/\rows<=4096)/\(0<=cols/\cols<=4096)/\l.length<=65536/\l.all (inM rows cols)=true/\dU l=true:=by
 unfold wrongM;constructor
 .intro hw;split at hw<;>(try (exact absurd hw (by decide)));split at hw<;>(try (exact absurd hw (by decide)));split at hw<;>(try (exact absurd hw (by decide)));split at hw<;>(try (exact absurd hw (by decide)));split at hw<;>(try (exact absurd hw (by decide)));split at hw<;>(try (exact absurd hw (by decide)));split at hw<;>(try (exact absurd hw (by decide)));rename_i h1 h2 h3 h4 h5 h6 h7;exact⟨⟨by omega,by omega⟩,⟨by omega,by omega⟩,by omega,h6,h7⟩
 .rintro⟨⟨h1,h2⟩,⟨h3,h4⟩,h5,h6,h7⟩;rw [if_neg (by omega),if_neg (by omega),if_neg (by omega),if_neg (by omega),if_neg (by omega),if_pos h6,if_pos h7]
theorem yS:∀(r:List E3) (i:Nat) (a:E3),uz (i+1) a r↔dU (a::r)=true
 | [],i,a=>by simp [uz,dU]
 |b::r,i,a=>by
  rw [uz,mn,Bool.and_eq_true,<-yS r (i+1) b,yR];simp
theorem risT_zero{l:List E3}{a:E3}:uz 0 a l↔dU l=true:=by
 cases l with
 |nil=>simp [uz,dU]
 |cons t r=>rw [uz,yS];simp
end Ev
end
noncomputable section
namespace Ev
open Go Sm
def Byt(f:Nat->Int)(m:Nat):Prop:=∀i,i<m->0<=f i/\f i<=255
theorem fw(f:Nat->Int)(p a b:Nat):bW f p (a+b)=bW f p a++bW f (p+a) b:=by
 unfold bW;rw [List.range_add,List.map_append,List.map_map];congr 1;apply List.map_congr_left;intro i _;simp only [Function.comp];rw [Nat.add_assoc]
theorem jM{f:Nat->Int}{m p:Nat}{most e x:Int}{q:Nat}(hb:Byt f m)(h:dL f m p most e= .ok (x,q)):bW f p 4=bts x 4/\q=p+4/\q<=m/\0<=x/\x<=most:=by
 unfold dL at h;split at h
 .rename_i hm;split at h
  .cases h
  .rename_i hle;cases h;have b0:=hb (p+0) (by omega);have b1:=hb (p+1) (by omega);have b2:=hb (p+2) (by omega);have b3:=hb (p+3) (by omega)
   have e1:le (λi=>f (p+i)) 4=f (p+0)+f (p+1)*256+f (p+2)*65536+f (p+3)*16777216:=by
    simp [le]
   refine⟨?_,rfl,hm,?_,by omega⟩
   .rw [e1];simp only [bW,bts,List.range_succ,List.range_zero,List.nil_append,List.cons_append,List.map_cons,List.map_nil,List.cons.injEq,and_true];refine⟨by omega,by omega,by omega,by omega⟩
   .rw [e1];omega
 .cases h
theorem jN{f:Nat->Int}{m p:Nat}{most e:Int}{er:Int×Int}(he:e≠0)(h:dL f m p most e= .error er):er.1≠0/\0<=er.2/\er.2<=m:=by
 unfold dL at h;split at h
 .split at h
  .cases h;exact⟨he,by show(0:Int)<=(p:Int);omega,by show(p:Int)<=(m:Int);omega⟩
  .cases h
 .cases h;exact⟨show(2:Int)≠0 by decide,by show(0:Int)<=(m:Int);omega,Int.le_refl _⟩
theorem Gj(x c:Int):bts (x - 18446744073709551616*c) 8=bts x 8:=by
 simp only [bts,List.range_succ,List.range_zero,List.nil_append,List.cons_append,List.map_cons,List.map_nil,List.cons.injEq,and_true];refine⟨?_,?_,?_,?_,?_,?_,?_,?_⟩<;>omega
theorem IS{x0 x1 x2 x3 x4 x5 x6 x7:Int}(b0:0<=x0/\x0<=255)(b1:0<=x1/\x1<=255)(b2:0<=x2/\x2<=255)(b3:0<=x3/\x3<=255)(b4:0<=x4/\x4<=255)(b5:0<=x5/\x5<=255)(b6:0<=x6/\x6<=255)(b7:0<=x7/\x7<=255):
  bts (x0+x1*256+x2*65536+x3*16777216+x4*4294967296+x5*1099511627776+x6*281474976710656+x7*72057594037927936) 8= [x0,x1,x2,x3,x4,x5,x6,x7]:=by
 simp only [bts,List.range_succ,List.range_zero,List.nil_append,List.cons_append,List.map_cons,List.map_nil,List.cons.injEq,and_true];refine⟨?_,?_,?_,?_,?_,?_,?_,?_⟩<;>omega
theorem Me{f:Nat->Int}{m p:Nat}(hb:Byt f m)(hm:p+8<=m):bW f p 8=bts (lw (λj=>f (p+j)) 8) 8/\dq (lw (λj=>f (p+j)) 8):=by
 have b0:=hb (p+0) (by omega);have b1:=hb (p+1) (by omega);have b2:=hb (p+2) (by omega);have b3:=hb (p+3) (by omega);have b4:=hb (p+4) (by omega);have b5:=hb (p+5) (by omega);have b6:=hb (p+6) (by omega);have b7:=hb (p+7) (by omega)
 have e1:le (λi=>f (p+i)) 8=f (p+0)+f (p+1)*256+f (p+2)*65536+f (p+3)*16777216+f (p+4)*4294967296+f (p+5)*1099511627776+f (p+6)*281474976710656+f (p+7)*72057594037927936:=by
  simp [le]
 unfold lw;rw [e1];have h64:∀x:Int,∃c:Int,Go.RowKit.wrap64 x=x - 18446744073709551616*c/\dq (Go.RowKit.wrap64 x):=λx=>⟨(x+9223372036854775808)/ 18446744073709551616,by unfold Go.RowKit.wrap64;omega,by unfold Go.RowKit.wrap64 dq;omega⟩;obtain⟨c,hc,hi⟩:=h64 (f (p+0)+f (p+1)*256+f (p+2)*65536+f (p+3)*16777216+f (p+4)*4294967296+f (p+5)*1099511627776+f (p+6)*281474976710656+f (p+7)*72057594037927936);refine⟨?_,hi⟩;rw [hc,Gj,IS b0 b1 b2 b3 b4 b5 b6 b7];rfl
theorem Gk{f:Nat->Int}{m p:Nat}{rows cols i:Int}{last t:E3}{q:Nat}(hb:Byt f m)(h:ir f m p rows cols last i= .ok (t,q)):q=p+16/\q<=m/\bW f p 16=fV t/\inM rows cols t=true/\dq t.2.2/\(0<i->rU last t=true):=by
 unfold ir at h;split at h
 .cases h
 .rename_i r p1 h1;obtain⟨a1,rfl,a3,a4,a5⟩:=jM hb h1;split at h
  .cases h
  .rename_i c p2 h2;obtain⟨c1,rfl,c3,c4,c5⟩:=jM hb h2;split at h
   .rename_i h8;split at h
    .cases h
    .rename_i ho;cases h;obtain⟨d1,d2⟩:=Me hb h8;refine⟨rfl,h8,?_,?_,d2,λhi=> ?_⟩
     .rw [show(16:Nat)=4+(4+8)from rfl,fw,fw,a1,c1,d1];rfl
     .unfold inM;exact decide_eq_true ⟨a4,by show r<rows;omega,c4,by show c<cols;omega⟩
     .cases hq:rU last (r,c,lw (λj=>f (p+4+4+j)) 8)with
      |true=>rfl
      |false=>exact absurd ⟨hi,hq⟩ ho
   .cases h
theorem Gl{f:Nat->Int}{m p:Nat}{rows cols i:Int}{last:E3}{er:Int×Int}(h:ir f m p rows cols last i= .error er):er.1≠0/\0<=er.2/\er.2<=m:=by
 unfold ir at h;split at h
 .rename_i h1;cases h;exact jN (by decide) h1
 .rename_i r p1 h1;split at h
  .rename_i h2;cases h;exact jN (by decide) h2
  .rename_i c p2 h2;have l1:=(cz h1);have l2:=(cz h2);split at h
   .split at h
    .cases h;exact⟨show(6:Int)≠0 by decide,by show(0:Int)<=(p:Int);omega,by show(p:Int)<=(m:Int);omega⟩
    .cases h
   .cases h;exact⟨show(2:Int)≠0 by decide,by show(0:Int)<=(m:Int);omega,Int.le_refl _⟩
theorem vk{f:Nat->Int}{m:Nat}{rows cols:Int}(hb:Byt f m):∀(k i:Nat) (last:E3) (p:Nat) {l:List E3} {q:Nat},cH f m rows cols k i last p= .ok (l,q)->p<=m->l.length=k/\q=p+16*k/\q<=m/\bW f p (16*k)=l.flatMap fV/\(∀t∈l,inM rows cols t=true/\dq t.2.2)/\uz i last l
 |0,i,last,p,l,q,h,hp=>by
  simp only [cH]at h;cases h;exact⟨rfl,rfl,hp,rfl,by simp,trivial⟩
 |k+1,i,last,p,l,q,h,hp=>by
  simp only [cH]at h;split at h
  .cases h
  .rename_i t q1 h1;obtain⟨rfl,a2,a3,a4,a5,a6⟩:=Gk hb h1;split at h
   .cases h
   .rename_i l2 q2 h2;cases h;obtain⟨c1,c2,c3,c4,c5,c6⟩:=vk hb k (i+1) t (p+16) h2 a2;refine⟨by simp [c1],by omega,c3,?_,λz hz=> ?_,λhi=>a6 (by omega),c6⟩
    .rw [show 16*(k+1)=16+16*k by omega,fw,a3,c4];rfl
    .rcases List.mem_cons.1 hz with rfl|hz
     .exact⟨a4,a5⟩
     .exact c5 z hz
theorem vl{f:Nat->Int}{m:Nat}{rows cols:Int}:∀(k i:Nat) (last:E3) (p:Nat) {er:Int×Int},cH f m rows cols k i last p= .error er->er.1≠0/\0<=er.2/\er.2<=m
 |0,i,last,p,er,h=>by simp only [cH]at h;cases h
 |k+1,i,last,p,er,h=>by
  simp only [cH]at h;split at h
  .rename_i h1;cases h;exact Gl h1
  .split at h
   .rename_i h2;cases h;exact vl k _ _ _ h2
   .cases h
theorem DW{f:Nat->Int}{m p k:Nat}(hb:Byt f m)(hm:p+k<=m):∀e∈bW f p k,0<=e/\e<=255:=by
 intro e he;simp only [bW,List.mem_map,List.mem_range]at he;obtain⟨i,hi,rfl⟩:=he;exact hb _ (by omega)
theorem DX{f:Nat->Int}{m:Nat}{A:List Int}{s:ByteArray}(hb:Byt f m)(h4:4<=m)(hA:∀e∈A,0<=e/\e<=255)(hs:s=strOfNums A)(h:strOfNums (bW f 0 4)=s):bW f 0 4=A:=by
 rw [hs]at h;refine Sm.Be.bytes_inj (DW hb (by omega)) hA ?_
 have:=congrArg (λz:ByteArray=>z.data.toList) h
 simpa [strOfNums]using this
theorem pU{f:Nat->Int}{m:Nat}{rows cols:Int}{l:List E3}{q:Nat}(hb:Byt f m)(h:cq f m= .ok ((rows,cols,l),q)):q=16+16*l.length/\q<=m/\bW f 0 q=gJ rows cols l/\wrongM rows cols l=0/\∀t∈l,dq t.2.2:=by
 unfold cq at h;split at h
 .rename_i h4;split at h
  .rename_i hs;have e0:=DX (A:= [70,82,77,49]) hb h4 (by decide) rfl hs;split at h
   .cases h
   .rename_i r p1 h1;obtain⟨a1,rfl,a3,a4,a5⟩:=jM hb h1;split at h
    .cases h
    .rename_i c p2 h2;obtain⟨c1,rfl,c3,c4,c5⟩:=jM hb h2;split at h
     .cases h
     .rename_i k p3 h3;obtain⟨d1,rfl,d3,d4,d5⟩:=jM hb h3;split at h
      .cases h
      .rename_i l2 q2 h5;cases h;obtain⟨f1,f2,f3,f4,f5,f6⟩:=vk hb _ 0 (0,0,0) _ h5 d3;obtain⟨K,rfl⟩:=Int.eq_ofNat_of_zero_le d4;rw [Int.toNat_natCast]at f1 f2 f4;subst f1;refine⟨by omega,f3,?_,wrongM_iff.2 ⟨⟨a4,a5⟩,⟨c4,c5⟩,by omega,List.all_eq_true.2 λt ht=>(f5 t ht).1,risT_zero.1 f6⟩,λt ht=>(f5 t ht).2⟩;rw [f2,show 4+4+4+4+16*l.length=4+(4+(4+(4+16*l.length)))by omega,fw,fw,fw,fw,e0,show 0+4=4 from rfl,a1,c1,d1,f4];rfl
  .cases h
 .cases h
theorem yU{f:Nat->Int}{m:Nat}{er:Int×Int}(h:cq f m= .error er):er.1≠0/\0<=er.2/\er.2<=m:=by
 unfold cq at h;split at h
 .split at h
  .split at h
   .rename_i h1;cases h;exact jN (by decide) h1
   .split at h
    .rename_i h1;cases h;exact jN (by decide) h1
    .split at h
     .rename_i h1;cases h;exact jN (by decide) h1
     .split at h
      .rename_i h1;cases h;exact vl _ _ _ _ h1
      .cases h
  .cases h;exact⟨show(1:Int)≠0 by decide,show(0:Int)<=0 by decide,by show(0:Int)<=(m:Int);omega⟩
 .cases h;exact⟨show(2:Int)≠0 by decide,by show(0:Int)<=(m:Int);omega,Int.le_refl _⟩
theorem xd{f:Nat->Int}{m:Nat}{er:Int×Int}(hb:Byt f m)(h:bK f m= .error er):er.1≠0/\0<=er.2/\er.2<=m:=by
 unfold bK at h;split at h
 .rename_i h1;cases h;exact yU h1
 .rename_i y q h1;split at h
  .cases h
  .cases h;obtain⟨r,c,l⟩:=y
   have:=(pU hb h1).2.1
   exact⟨show(4:Int)≠0 by decide,by show(0:Int)<=(q:Int);omega,by show(q:Int)<=(m:Int);omega⟩
theorem xe{f:Nat->Int}{m:Nat}{rows cols:Int}{l:List E3}(hb:Byt f m)(h:bK f m= .ok (rows,cols,l)):bW f 0 m=gJ rows cols l/\wrongM rows cols l=0/\∀t∈l,dq t.2.2:=by
 unfold bK at h;split at h
 .cases h
 .rename_i y q h1;split at h
  .rename_i hq;cases h;subst hq;exact(pU hb h1).2.2
  .cases h
theorem yV{f:Nat->Int}{m:Nat}{rows cols:Int}{l:List E3}(hm:m=16+16*l.length)(hf:∀i,i<m->f i=(gJ rows cols l).getD i 0)(hw:wrongM rows cols l=0)(hi:∀t∈l,dq t.2.2):bK f m= .ok (rows,cols,l):=by
 obtain⟨⟨a1,a2⟩,⟨a3,a4⟩,a5,a6,a7⟩:=wrongM_iff.1 hw;have h:=AH (post:= []) (by rw [List.append_nil];exact hf) a1 a2 a3 a4 a5 (λt ht=>⟨List.all_eq_true.1 a6 t ht,hi t ht⟩) (risT_zero.2 a7);unfold bK;rw [h,if_pos (by omega)];simp [hm]
end Ev
end
noncomputable section
namespace Ev
open Go Sm
theorem lI{x y:Sl E3}(hx:okS 3 x)(hy:okS 3 y)(hl:x.l.length<=9223372036854775806):bt x y=some (decide (x.l=y.l)):=by
 rw [jL];exact vi hl hx hy (P:=λu v=>u.fst=v.fst/\u.snd.fst=v.snd.fst/\u.snd.snd=v.snd.snd) (λu v=>by rw [Prod.ext_iff,Prod.ext_iff]) λa=>by unfold fO;rfl
theorem Gm{z:Sl Int}(h:K.W (.S (.I .u8)) z):okS 1 z/\(∀e∈z.l,0<=e/\e<=255)/\(z.l.length<=100000->Sm.Be.okY z=true):=by
 have hb:∀e∈z.l,0<=e/\e<=255:=λe he=>by
  have:inK .u8 e:=h.2.2.2 e he
  simpa [inK,Lit.wf,IntKind.min,IntKind.max,IntKind.signed,IntKind.bits]using this
 refine⟨.inr h.1,hb,λhl=> ?_⟩;simp only [Sm.Be.okY,Bool.and_eq_true,Bool.or_eq_true,decide_eq_true_eq,List.isEmpty_iff,List.all_eq_true];exact⟨hl,hb,.inl h.1⟩
theorem Gn{z:Sl Int}(h:∀e∈z.l,0<=e/\e<=255):Byt (Sm.Be.gf z) z.l.length:=λi hi=>by
 unfold Sm.Be.gf;rw [List.getD_eq_getElem?_getD,List.getElem?_eq_getElem hi];exact h _ (List.getElem_mem _)
theorem Gp(z:Sl Int):bW (Sm.Be.gf z) 0 z.l.length=z.l:=by
 unfold bW Sm.Be.gf;apply List.ext_getElem?;intro i;simp only [List.getElem?_map];by_cases h:i<z.l.length
 .rw [List.getElem?_range h];simp only [Option.map_some,Nat.zero_add];rw [List.getD_eq_getElem?_getD,List.getElem?_eq_getElem h];rfl
 .rw [List.getElem?_eq_none (by simpa using h),List.getElem?_eq_none (by omega)];rfl
theorem Gq{α:Type}{g:α->List Int}(hg:∀a,∀e∈g a,0<=e/\e<=255)(l:List α):∀e∈l.flatMap g,0<=e/\e<=255:=λe he=>by
 obtain⟨a,_,h⟩:=List.mem_flatMap.1 he;exact hg a e h
theorem Gs(t:E3):∀e∈fV t,0<=e/\e<=255:=λe he=>by
 unfold fV at he;rcases List.mem_append.1 he with he|he
 .exact kA he
 .rcases List.mem_append.1 he with he|he
  .exact kA he
  .exact kA he
theorem Gt(r c:Int)(l:List E3):∀e∈gJ r c l,0<=e/\e<=255:=λe he=>by
 unfold gJ at he;rcases List.mem_append.1 he with he|he
 .simp at he;omega
 .rcases List.mem_append.1 he with he|he
  .exact kA he
  .rcases List.mem_append.1 he with he|he
   .exact kA he
   .rcases List.mem_append.1 he with he|he
    .exact kA he
    .exact Gq Gs l e he
theorem Mf{L:List Int}(h:∀e∈L,0<=e/\e<=255)(hl:L.length<=100000):Sm.Be.okY ⟨true,1,L⟩=true:=by
 simp only [Sm.Be.okY,Bool.and_eq_true,Bool.or_eq_true,decide_eq_true_eq,List.isEmpty_iff,List.all_eq_true];exact⟨hl,h,.inl trivial⟩
theorem IT{z:Sl Int}(hz:Sm.Be.okY z=true){er:Int×Int}(h:bK (Sm.Be.gf z) z.l.length= .error er):aJ z=some (0,0,⟨false,0,[]⟩,er):=by
 show Sm.Dm.fn z=_;unfold Sm.Dm.fn;rw [if_pos hz,h]
theorem Gu{z:Sl Int}(hz:Sm.Be.okY z=true){r c:Int}{l:List E3}(h:bK (Sm.Be.gf z) z.l.length= .ok (r,c,l)):aJ z=some (r,c,Sm.Dc.liS l,(0,0)):=by
 show Sm.Dm.fn z=_;unfold Sm.Dm.fn;rw [if_pos hz,h]
theorem Co{r c:Int}{l:List E3}(hw:wrongM r c l=0)(hi:∀t∈l,dq t.2.2)(hl:l.length<=5000):aJ ⟨true,1,gJ r c l⟩=some (r,c,Sm.Dc.liS l,(0,0)):=by
 refine Gu (Mf (Gt r c l) (by rw [yQ];omega)) ?_;exact yV (by rw [yQ]) (λi _=>rfl) hw hi
theorem AI(l:List E3):okS 3 (Sm.Dc.liS l):= .inr rfl
end Ev
end
end Go.Proofs.Ytoamaaicfjkmhaa
