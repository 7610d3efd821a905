/- Texts of a claim, joined. -/
import Derived.Test.YtkmbihigeeclbaaZFB13
set_option linter.unusedVariables false
set_option linter.unusedSimpArgs false
namespace Go.Proofs.Ytkmbihigeeclbaa
noncomputable section
namespace Ev
open Go Go.RowKit
set_option maxRecDepth 100000
set_option maxHeartbeats 1000000
abbrev yC:=Int×Int×Sl Int×Sl Int×Sl Int×Sl Int
abbrev yM:=Int×Int×Sl Int×Sl Int×Sl Int
abbrev yT:=Int×Int×Int
theorem vj(x:Int×Sl (Int×Int)):fQ x=if(↑x.snd.l.length:Int)>60 then(pH 2 x.snd 0 60).bind λ(s':Sl (Int×Int))=>some (x.fst,s')
else some x:=by kernel_rfl
theorem vk(x:Int×Int×Int×Int×Int×(Int×Sl (Int×Int))×Sl yT×Sl yT×Int×Bool):fR x=(fQ x.snd.snd.snd.snd.snd.fst).bind λ(out:Int×Sl (Int×Int))=>(if(↑x.snd.snd.snd.snd.snd.snd.fst.l.length:Int)>40 then(pH 3 x.snd.snd.snd.snd.snd.snd.fst 0 40).bind λ(s':Sl yT)=>some (Sum.inl (x.fst,x.snd.fst,x.snd.snd.fst,x.snd.snd.snd.fst,x.snd.snd.snd.snd.fst,out.fst,out.snd,s',x.snd.snd.snd.snd.snd.snd.snd))else some (Sum.inl (x.fst,x.snd.fst,x.snd.snd.fst,x.snd.snd.snd.fst,x.snd.snd.snd.snd.fst,out.fst,out.snd,x.snd.snd.snd.snd.snd.snd))).bind λ(y:Int×Int×Int×Int×Int×Int×Sl (Int×Int)×Sl yT×Sl yT×Int×Bool ⊕ Empty)=>Sum.elim (λ(val:Int×Int×Int×Int×Int×Int×Sl (Int×Int)×Sl yT×Sl yT×Int×Bool)=>if(↑val.snd.snd.snd.snd.snd.snd.snd.snd.fst.l.length:Int)>40 then(pH 3 val.snd.snd.snd.snd.snd.snd.snd.snd.fst 0 40).bind λ(s':Sl yT)=>some (val.fst,val.snd.fst,val.snd.snd.fst,val.snd.snd.snd.fst,val.snd.snd.snd.snd.fst,(val.snd.snd.snd.snd.snd.fst,val.snd.snd.snd.snd.snd.snd.fst),val.snd.snd.snd.snd.snd.snd.snd.fst,s',val.snd.snd.snd.snd.snd.snd.snd.snd.snd)else some (val.fst,val.snd.fst,val.snd.snd.fst,val.snd.snd.snd.fst,val.snd.snd.snd.snd.fst,(val.snd.snd.snd.snd.snd.fst,val.snd.snd.snd.snd.snd.snd.fst),val.snd.snd.snd.snd.snd.snd.snd)) (λ(val:Empty)=>nE val) y:=by kernel_rfl
def gk(x:Sl (Int×Int))(y:Sl (Int×Int)):Int->Option (Int ⊕ PUnit ⊕ Bool ⊕ Empty):=λ(x_1:Int)=>if x_1<(↑x.l.length:Int)then(atS 2 x x_1).bind λ(y_1:Int×Int)=>(atS 2 y x_1).bind λ(y:Int×Int)=>if¬(y_1.fst=y.fst/\y_1.snd=y.snd)then some (Sum.inr (Sum.inr (Sum.inl false)))else some (Sum.inl (IntKind.i64.wrap (x_1+1)))else some (Sum.inr (Sum.inl ()))
theorem lA(x:Sl (Int×Int))(y:Sl (Int×Int)):cC x y=if(↑x.l.length:Int)≠(↑y.l.length:Int)then some false
else(bI (gk x y) 0).bind λ(y:PUnit ⊕ Bool ⊕ Empty)=>Sum.elim (λ(val:PUnit)=>some true) (λ(val:Bool ⊕ Empty)=>Sum.elim (λ(val:Bool)=>some val) (λ(val:Empty)=>nE val) val) y:=by kernel_rfl
theorem sD(x:Int×Sl (Int×Int))(y:Int×Sl (Int×Int)):gg x y=if x.fst=y.fst then(cC x.snd y.snd).bind λ(out:Bool)=>some (decide (out=true))
else some false:=by kernel_rfl
def gJ(x:Sl yT)(y:Sl yT):Int->Option (Int ⊕ PUnit ⊕ Bool ⊕ Empty):=λ(x_1:Int)=>if x_1<(↑x.l.length:Int)then(atS 3 x x_1).bind λ(y_1:Int×Int×Int)=>(atS 3 y x_1).bind λ(y:Int×Int×Int)=>if¬(y_1.fst=y.fst/\y_1.snd.fst=y.snd.fst/\y_1.snd.snd=y.snd.snd)then some (Sum.inr (Sum.inr (Sum.inl false)))else some (Sum.inl (IntKind.i64.wrap (x_1+1)))else some (Sum.inr (Sum.inl ()))
theorem mP(x:Sl yT)(y:Sl yT):cP x y=if(↑x.l.length:Int)≠(↑y.l.length:Int)then some false
else(bI (gJ x y) 0).bind λ(y:PUnit ⊕ Bool ⊕ Empty)=>Sum.elim (λ(val:PUnit)=>some true) (λ(val:Bool ⊕ Empty)=>Sum.elim (λ(val:Bool)=>some val) (λ(val:Empty)=>nE val) val) y:=by kernel_rfl
def fv(x:Sl yT)(y:Sl yT):Int->Option (Int ⊕ PUnit ⊕ Bool ⊕ Empty):=λ(x_1:Int)=>if x_1<(↑x.l.length:Int)then(atS 3 x x_1).bind λ(y_1:Int×Int×Int)=>(atS 3 y x_1).bind λ(y:Int×Int×Int)=>if¬(y_1.fst=y.fst/\y_1.snd.fst=y.snd.fst/\y_1.snd.snd=y.snd.snd)then some (Sum.inr (Sum.inr (Sum.inl false)))else some (Sum.inl (IntKind.i64.wrap (x_1+1)))else some (Sum.inr (Sum.inl ()))
theorem js(x:Sl yT)(y:Sl yT):bU x y=if(↑x.l.length:Int)≠(↑y.l.length:Int)then some false
else(bI (fv x y) 0).bind λ(y:PUnit ⊕ Bool ⊕ Empty)=>Sum.elim (λ(val:PUnit)=>some true) (λ(val:Bool ⊕ Empty)=>Sum.elim (λ(val:Bool)=>some val) (λ(val:Empty)=>nE val) val) y:=by kernel_rfl
theorem sE(x:Int×Int×Int×Int×Int×(Int×Sl (Int×Int))×Sl yT×Sl yT×Int×Bool)(y:Int×Int×Int×Int×Int×(Int×Sl (Int×Int))×Sl yT×Sl yT×Int×Bool):cV x y=if x.fst=y.fst then if x.snd.fst=y.snd.fst then if x.snd.snd.fst=y.snd.snd.fst then if x.snd.snd.snd.fst=y.snd.snd.snd.fst then if x.snd.snd.snd.snd.fst=y.snd.snd.snd.snd.fst then(gg x.snd.snd.snd.snd.snd.fst y.snd.snd.snd.snd.snd.fst).bind λ(out:Bool)=>if out=true then(cP x.snd.snd.snd.snd.snd.snd.fst y.snd.snd.snd.snd.snd.snd.fst).bind λ(out:Bool)=>if out=true then(bU x.snd.snd.snd.snd.snd.snd.snd.fst y.snd.snd.snd.snd.snd.snd.snd.fst).bind λ(out:Bool)=>if out=true then if x.snd.snd.snd.snd.snd.snd.snd.snd.fst=y.snd.snd.snd.snd.snd.snd.snd.snd.fst then some (decide (decide (x.snd.snd.snd.snd.snd.snd.snd.snd.snd=true)=decide (y.snd.snd.snd.snd.snd.snd.snd.snd.snd=true)))else some false else some false else some false else some false else some false else some false else some false else some false
else some false:=by kernel_rfl
def cv(x:Sl (Int×Int))(y:Sl (Int×Int)):Int->Option (Int ⊕ PUnit ⊕ Bool ⊕ Empty):=λ(x_1:Int)=>if x_1<(↑x.l.length:Int)then(atS 2 x x_1).bind λ(y_1:Int×Int)=>(atS 2 y x_1).bind λ(y:Int×Int)=>if¬(y_1.fst=y.fst/\y_1.snd=y.snd)then some (Sum.inr (Sum.inr (Sum.inl false)))else some (Sum.inl (IntKind.i64.wrap (x_1+1)))else some (Sum.inr (Sum.inl ()))
theorem eB(x:Sl (Int×Int))(y:Sl (Int×Int)):an x y=if(↑x.l.length:Int)≠(↑y.l.length:Int)then some false
else(bI (cv x y) 0).bind λ(y:PUnit ⊕ Bool ⊕ Empty)=>Sum.elim (λ(val:PUnit)=>some true) (λ(val:Bool ⊕ Empty)=>Sum.elim (λ(val:Bool)=>some val) (λ(val:Empty)=>nE val) val) y:=by kernel_rfl
def cM(x:Sl yT)(y:Sl yT):Int->Option (Int ⊕ PUnit ⊕ Bool ⊕ Empty):=λ(x_1:Int)=>if x_1<(↑x.l.length:Int)then(atS 3 x x_1).bind λ(y_1:Int×Int×Int)=>(atS 3 y x_1).bind λ(y:Int×Int×Int)=>if¬(y_1.fst=y.fst/\y_1.snd.fst=y.snd.fst/\y_1.snd.snd=y.snd.snd)then some (Sum.inr (Sum.inr (Sum.inl false)))else some (Sum.inl (IntKind.i64.wrap (x_1+1)))else some (Sum.inr (Sum.inl ()))
theorem eT(x:Sl yT)(y:Sl yT):aJ x y=if(↑x.l.length:Int)≠(↑y.l.length:Int)then some false
else(bI (cM x y) 0).bind λ(y:PUnit ⊕ Bool ⊕ Empty)=>Sum.elim (λ(val:PUnit)=>some true) (λ(val:Bool ⊕ Empty)=>Sum.elim (λ(val:Bool)=>some val) (λ(val:Empty)=>nE val) val) y:=by kernel_rfl
def bV(x:Sl yT)(y:Sl yT):Int->Option (Int ⊕ PUnit ⊕ Bool ⊕ Empty):=λ(x_1:Int)=>if x_1<(↑x.l.length:Int)then(atS 3 x x_1).bind λ(y_1:Int×Int×Int)=>(atS 3 y x_1).bind λ(y:Int×Int×Int)=>if¬(y_1.fst=y.fst/\y_1.snd.fst=y.snd.fst/\y_1.snd.snd=y.snd.snd)then some (Sum.inr (Sum.inr (Sum.inl false)))else some (Sum.inl (IntKind.i64.wrap (x_1+1)))else some (Sum.inr (Sum.inl ()))
theorem dH(x:Sl yT)(y:Sl yT):aD x y=if(↑x.l.length:Int)≠(↑y.l.length:Int)then some false
else(bI (bV x y) 0).bind λ(y:PUnit ⊕ Bool ⊕ Empty)=>Sum.elim (λ(val:PUnit)=>some true) (λ(val:Bool ⊕ Empty)=>Sum.elim (λ(val:Bool)=>some val) (λ(val:Empty)=>nE val) val) y:=by kernel_rfl
theorem kA(x:Int×Int×Int×Int×Int×(Int×Sl (Int×Int))×Sl yT×Sl yT×Int×Bool)(y:Int×Int×Int×Int×Int×(Int×Sl (Int×Int))×Sl yT×Sl yT×Int×Bool):cd x y=if x.fst=y.fst then if x.snd.fst=y.snd.fst then if x.snd.snd.fst=y.snd.snd.fst then if x.snd.snd.snd.fst=y.snd.snd.snd.fst then if x.snd.snd.snd.snd.fst=y.snd.snd.snd.snd.fst then if x.snd.snd.snd.snd.snd.snd.snd.snd.fst=y.snd.snd.snd.snd.snd.snd.snd.snd.fst then if x.snd.snd.snd.snd.snd.fst.fst=y.snd.snd.snd.snd.snd.fst.fst then(an x.snd.snd.snd.snd.snd.fst.snd y.snd.snd.snd.snd.snd.fst.snd).bind λ(out:Bool)=>if decide (x.snd.snd.snd.snd.snd.snd.snd.snd.snd=true)=decide (y.snd.snd.snd.snd.snd.snd.snd.snd.snd=true)then if out=true then(aJ x.snd.snd.snd.snd.snd.snd.fst y.snd.snd.snd.snd.snd.snd.fst).bind λ(out:Bool)=>if out=true then(aD x.snd.snd.snd.snd.snd.snd.snd.fst y.snd.snd.snd.snd.snd.snd.snd.fst).bind λ(out:Bool)=>some (decide (out=true))else some false else some false else some false else if decide (x.snd.snd.snd.snd.snd.snd.snd.snd.snd=true)=decide (y.snd.snd.snd.snd.snd.snd.snd.snd.snd=true)then some false else some false else if x.snd.snd.snd.snd.snd.fst.fst=y.snd.snd.snd.snd.snd.fst.fst then(an x.snd.snd.snd.snd.snd.fst.snd y.snd.snd.snd.snd.snd.fst.snd).bind λ(out:Bool)=>some false else some false else if x.snd.snd.snd.snd.snd.fst.fst=y.snd.snd.snd.snd.snd.fst.fst then(an x.snd.snd.snd.snd.snd.fst.snd y.snd.snd.snd.snd.snd.fst.snd).bind λ(out:Bool)=>some false else some false else if x.snd.snd.snd.snd.snd.fst.fst=y.snd.snd.snd.snd.snd.fst.fst then(an x.snd.snd.snd.snd.snd.fst.snd y.snd.snd.snd.snd.snd.fst.snd).bind λ(out:Bool)=>some false else some false else if x.snd.snd.snd.snd.snd.fst.fst=y.snd.snd.snd.snd.snd.fst.fst then(an x.snd.snd.snd.snd.snd.fst.snd y.snd.snd.snd.snd.snd.fst.snd).bind λ(out:Bool)=>some false else some false else if x.snd.snd.snd.snd.snd.fst.fst=y.snd.snd.snd.snd.snd.fst.fst then(an x.snd.snd.snd.snd.snd.fst.snd y.snd.snd.snd.snd.snd.fst.snd).bind λ(out:Bool)=>some false else some false
else if x.snd.snd.snd.snd.snd.fst.fst=y.snd.snd.snd.snd.snd.fst.fst then(an x.snd.snd.snd.snd.snd.fst.snd y.snd.snd.snd.snd.snd.fst.snd).bind λ(out:Bool)=>some false else some false:=by kernel_rfl
theorem sF(x:Int×Int×Int×Int×Int×(Int×Sl (Int×Int))×Sl yT×Sl yT×Int×Bool):ee x=some (IntKind.i64.wrap (IntKind.i64.wrap ((↑x.snd.snd.snd.snd.snd.fst.snd.l.length:Int)+(↑x.snd.snd.snd.snd.snd.snd.fst.l.length:Int))+(↑x.snd.snd.snd.snd.snd.snd.snd.fst.l.length:Int))):=by kernel_rfl
theorem sG:law19_live=(cj (3,1,2,3,4,(2,{nn:=true,sz:=2,l:= [(1,-5)]}),{nn:=true,sz:=3,l:= [(7,-1,9)]},{nn:=true,sz:=3,l:= [(1,2,3)]},-8,true)).bind λ(out:Sl Int×Int)=>(aS out.fst).bind λ(out_1:(Int×Int×Int×Int×Int×(Int×Sl (Int×Int))×Sl yT×Sl yT×Int×Bool)×Int×Int)=>(aS {nn:=false,sz:=0,l:= []}).bind λ(out_2:(Int×Int×Int×Int×Int×(Int×Sl (Int×Int))×Sl yT×Sl yT×Int×Bool)×Int×Int)=>if out.snd=0 then if(↑out.fst.l.length:Int)=84 then if out_1.snd.fst=0/\out_1.snd.snd=0 then(cV (3,1,2,3,4,(2,{nn:=true,sz:=2,l:= [(1,-5)]}),{nn:=true,sz:=3,l:= [(7,-1,9)]},{nn:=true,sz:=3,l:= [(1,2,3)]},-8,true) out_1.fst).bind λ(out:Bool)=>if out=true then(cd (3,1,2,3,4,(2,{nn:=true,sz:=2,l:= [(1,-5)]}),{nn:=true,sz:=3,l:= [(7,-1,9)]},{nn:=true,sz:=3,l:= [(1,2,3)]},-8,true) out_1.fst).bind λ(out:Bool)=>if out=true then(cd (3,1,2,3,4,(2,{nn:=true,sz:=2,l:= [(1,-5)]}),{nn:=true,sz:=3,l:= [(7,-1,9)]},{nn:=true,sz:=3,l:= [(1,2,3)]},-8,true) (0,0,0,0,0,(0,{nn:=false,sz:=0,l:= []}),{nn:=false,sz:=0,l:= []},{nn:=false,sz:=0,l:= []},0,false)).bind λ(out:Bool)=>if¬out=true then if out_2.snd.fst=2/\out_2.snd.snd=0 then(ee (3,1,2,3,4,(2,{nn:=true,sz:=2,l:= [(1,-5)]}),{nn:=true,sz:=3,l:= [(7,-1,9)]},{nn:=true,sz:=3,l:= [(1,2,3)]},-8,true)).bind λ(out:Int)=>if out=3 then(bn (3,1,2,3,4,(2,{nn:=true,sz:=2,l:= [(1,-5)]}),{nn:=true,sz:=3,l:= [(7,-1,9)]},{nn:=true,sz:=3,l:= [(1,2,3)]},-8,true)).bind λ(out:Int)=>if out=0 then(bn (0,0,0,0,0,(0,{nn:=false,sz:=0,l:= []}),{nn:=false,sz:=0,l:= []},{nn:=false,sz:=0,l:= []},0,false)).bind λ(out:Int)=>some (decide (out=8))else some false else some false else some false else some false else some false else some false else some false else some false else some false:=by kernel_rfl
def gl(x:Sl Int)(y:Sl Int):Int->Option (Int ⊕ PUnit ⊕ Bool ⊕ Empty):=λ(x_1:Int)=>if x_1<(↑x.l.length:Int)then(atS 1 x x_1).bind λ(y_1:Int)=>(atS 1 y x_1).bind λ(y:Int)=>if y_1≠y then some (Sum.inr (Sum.inr (Sum.inl false)))else some (Sum.inl (IntKind.i64.wrap (x_1+1)))else some (Sum.inr (Sum.inl ()))
theorem lB(x:Sl Int)(y:Sl Int):cD x y=if(↑x.l.length:Int)≠(↑y.l.length:Int)then some false
else(bI (gl x y) 0).bind λ(y:PUnit ⊕ Bool ⊕ Empty)=>Sum.elim (λ(val:PUnit)=>some true) (λ(val:Bool ⊕ Empty)=>Sum.elim (λ(val:Bool)=>some val) (λ(val:Empty)=>nE val) val) y:=by kernel_rfl
theorem lC(x:Int×Int×Int×Int×Int×(Int×Sl (Int×Int))×Sl yT×Sl yT×Int×Bool)(y:Sl Int):dh x y=if(↑y.l.length:Int)>4000 then law19_live.bind λ(out:Bool)=>some (decide (out=true))
else(fR x).bind λ(out:Int×Int×Int×Int×Int×(Int×Sl (Int×Int))×Sl yT×Sl yT×Int×Bool)=>(cj out).bind λ(out_1:Sl Int×Int)=>(if out_1.snd=0 then(aS out_1.fst).bind λ(out_2:(Int×Int×Int×Int×Int×(Int×Sl (Int×Int))×Sl yT×Sl yT×Int×Bool)×Int×Int)=>if out_2.snd.fst≠0 then some (Sum.inl false)else(cV out out_2.fst).bind λ(out:Bool)=>if¬out=true then some (Sum.inl false)else some (Sum.inr (Sum.inl ()))else some (Sum.inr (Sum.inl ()))).bind λ(y_1:Bool ⊕ PUnit ⊕ Empty)=>Sum.elim (λ(val:Bool)=>some val) (λ(val:PUnit ⊕ Empty)=>Sum.elim (λ(val:PUnit)=>(aS y).bind λ(out:(Int×Int×Int×Int×Int×(Int×Sl (Int×Int))×Sl yT×Sl yT×Int×Bool)×Int×Int)=>if out.snd.fst≠0 then law19_live.bind λ(out_2:Bool)=>if out_2=true then(cd out.fst (0,0,0,0,0,(0,{nn:=false,sz:=0,l:= []}),{nn:=false,sz:=0,l:= []},{nn:=false,sz:=0,l:= []},0,false)).bind λ(out_3:Bool)=>if out_3=true then if out.snd.snd >= 0 then some (decide (out.snd.snd<=(↑y.l.length:Int)))else some false else some false else some false else(cj out.fst).bind λ(out:Sl Int×Int)=>law19_live.bind λ(out_2:Bool)=>if out_2=true then if out.snd=0 then(cD out.fst y).bind λ(out:Bool)=>some (decide (out=true))else some false else some false) (λ(val:Empty)=>nE val) val) y_1:=by kernel_rfl
end Ev
end
noncomputable section
namespace Ev
open Go
def wL(n:Int):Prop:= -9223372036854775808<=n/\n<=9223372036854775807
theorem wrap_u64(n:Int):IntKind.u64.wrap n=n % 18446744073709551616:=by
 simp [IntKind.wrap,IntKind.signed,IntKind.bits]
end Ev
end
noncomputable section
namespace Ev
open Go
def okS{α:Type}(w:Nat)(s:Sl α):Prop:=s.l= []∨s.sz=w
theorem tk{α:Type}{w:Nat}{s:Sl α}(hs:okS w s){j:Nat}{x:α}(h:s.l[j]? =some x):atS w s (j:Int)=some x:=by
 have hj:=(List.getElem?_eq_some_iff.1 h);rw [ol hs hj.1,hj.2]
theorem CN{A R:Type}{b:A->Option (A ⊕ R)}(n:Nat)(st:Nat->A){r:R}(hs:∀j,j<n->b (st j)=some (.inl (st (j+1))))(he:b (st n)=some (.inr r)):bI b (st 0)=some r:=by
 obtain⟨q,h1,h2⟩:=vB (b:=b) n (λj a=>a=st j) (λq=>q=r) (λj a hj ha=> .inl ⟨st (j+1),by rw [ha];exact hs j hj,rfl⟩) (λa ha=>⟨r,by rw [ha];exact he,rfl⟩) 0 (Nat.zero_le _) (st 0) rfl;rw [h1,h2]
theorem tr{A R:Type}{b:A->Option (A ⊕ R)}(n:Nat)(st:Nat->A){a:A}(ha:a=st 0){r:R}(hs:∀j,j<n->b (st j)=some (.inl (st (j+1))))(he:b (st n)=some (.inr r)):bI b a=some r:=by rw [ha];exact CN n st hs he
theorem Bh{α:Type}[DecidableEq α]{x y:List α}(hl:x.length=y.length){b:Int->Option (Int ⊕ PUnit ⊕ Bool ⊕ Empty)}(h1:∀j:Nat,(h:j<x.length)->b j=some (if x[j]=y[j]then .inl ((j+1:Nat):Int)else .inr (.inr (.inl false))))(h2:∀j:Nat,x.length<=j->b j=some (.inr (.inl ()))):
  bI b 0=some (if x=y then .inl ()else .inr (.inl false)):=by
 obtain⟨q,q1,q2⟩:=vB (b:=b) x.length (λj a=>a=(j:Int)/\x.take j=y.take j) (λq=>q=if x=y then .inl ()else .inr (.inl false))
  (by
   rintro j _ hj ⟨rfl,ht⟩;rw [h1 j hj];by_cases e:x[j]=y[j]
   .rw [if_pos e];refine .inl ⟨_,rfl,rfl,?_⟩;rw [List.take_succ_eq_append_getElem hj,List.take_succ_eq_append_getElem (by omega),ht,e]
   .rw [if_neg e];refine .inr ⟨_,rfl,?_⟩
    rw [if_neg (λh=>e (by simp [h]))])
  (by
   rintro _ ⟨rfl,ht⟩;refine⟨_,h2 _ (Nat.le_refl _),?_⟩;rw [List.take_of_length_le (Nat.le_refl _),List.take_of_length_le (by omega)]at ht
   rw [if_pos ht]) 0 (Nat.zero_le _) 0 ⟨rfl,by simp⟩
 rw [q1,q2]
def oN(n:Int):Bool:=decide (0<=n)&& decide (n<=4096)
end Ev
end
noncomputable section
namespace Ev
section
open Go
abbrev P2:=Int×Int
abbrev Vec:=Int×Sl P2
def asc(a n:Int):List P2->Bool
 | []=>true
 |x::l=>decide (a<x.1)&& decide (x.1<n)&& asc x.1 n l
def gQ(v:Vec):Bool:=oN v.1 && asc (-1) v.1 v.2.l
theorem asc_cons{a n:Int}{x:P2}{l:List P2}:asc a n (x::l)=true↔a<x.1/\x.1<n/\asc x.1 n l=true:=by
 simp only [asc,Bool.and_eq_true,decide_eq_true_eq,and_assoc]
theorem vl{n:Int}:∀{a:Int} {l:List P2},asc a n l=true->∀y∈l,a<y.1/\y.1<n
 |a,[],_=>λy hy=>by simp at hy
 |a,x::l,h=>λy hy=>by
  obtain⟨h1,h2,h3⟩:=asc_cons.1 h;rcases List.mem_cons.1 hy with rfl|hy
  .exact⟨h1,h2⟩
  .have:=vl h3 y hy;omega
theorem vm(n:Int):eY n=some (oN n):=by
 rw [sC];unfold oN;by_cases h:n >= 0
 .rw [if_pos h,decide_eq_true (show 0<=n from h)];rfl
 .rw [if_neg h,decide_eq_false (show¬0<=n from h)];rfl
theorem CO{n:Int}{l:List P2}{j:Nat}(hj:j<l.length)(a:Int):asc a n (l.drop j)=(decide (a<l[j].1)&& decide (l[j].1<n)&& asc l[j].1 n (l.drop (j+1))):=by
 rw [List.drop_eq_getElem_cons hj];rfl
theorem sH{v:Vec}(hs:okS 2 v.2)(hl:v.2.l.length<=9223372036854775806):eu v=some (gQ v):=by
 rw [qH,vm];unfold gQ
 cases oN v.1 with
 |false=>rfl
 |true=>
  simp only [zbS,not_true_eq_false,if_false,Bool.true_and]
  obtain⟨q,q1,q2⟩:=vB (b:=eK v) v.2.l.length (λj st=>st.2=(j:Int)/\asc (-1) v.1 v.2.l=asc st.1 v.1 (v.2.l.drop j)) (λq=>q=if asc (-1) v.1 v.2.l=true then .inl ()else .inr (.inl false))
   (by
    rintro j ⟨a,i⟩ hj ⟨rfl,he⟩;have ej:=ol hs hj;rw [CO hj]at he;simp only [eK,ej,zbS];rw [if_pos (by omega)];by_cases c1:v.2.l[j].1<=a
    .rw [if_pos c1];refine .inr ⟨_,rfl,?_⟩;rw [he,decide_eq_false (by omega)];rfl
    rw [if_neg c1];rw [decide_eq_true (show a<v.2.l[j].1 by omega)]at he;by_cases c2:v.2.l[j].1 >= v.1
    .rw [if_pos c2];refine .inr ⟨_,rfl,?_⟩;rw [he,decide_eq_false (by omega)];rfl
    rw [if_neg c2];rw [decide_eq_true (show v.2.l[j].1<v.1 by omega)]at he
    exact .inl ⟨_,rfl,rl hj (by omega),by simpa using he⟩)
   (by
    rintro⟨a,i⟩ ⟨rfl,he⟩;rw [List.drop_length]at he;simp only [eK];rw [if_neg (by omega)]
    exact⟨_,rfl,by rw [he];rfl⟩) 0 (Nat.zero_le _) (-1,0) ⟨rfl,rfl⟩
  rw [q1,q2];cases asc (-1) v.1 v.2.l<;>rfl
end
section
open Go
theorem wM{v:Vec}(hs:okS 2 v.2)(hn:v.2.nn=false->v.2.l= []):∃w:Vec,fQ v=some w/\w.1=v.1/\w.2.l=v.2.l.take 60/\okS 2 w.2/\(w.2.nn=true∨w.2.l= []):=by
 have hn':v.2.nn=true∨v.2.l= []:=by
  cases h:v.2.nn with
  |true=>exact .inl rfl
  |false=>exact .inr (hn h)
 rw [vj];by_cases h:v.2.l.length>60
 .rw [if_pos (by omega)];have hz:v.2.sz=2:=hs.resolve_left (by intro h';rw [h']at h;simp at h);refine⟨(v.1,⟨v.2.nn,v.2.sz,v.2.l.take 60⟩),?_,rfl,rfl,.inr hz,?_⟩
  .unfold pH;rw [if_pos ⟨by omega,by omega,by omega,.inl hz⟩];simp
  .rcases hn' with h'|h'
   .exact .inl h'
   .rw [h']at h;simp at h
 .rw [if_neg (by omega)];exact⟨v,rfl,rfl,(List.take_of_length_le (by omega)).symm,hs,hn'⟩
end
section
open Go
abbrev Mx:=Int×Int×Sl Int×Sl Int×Sl Int
abbrev E3:=Int×Int×Int
end
section
open Go Sm
def bel(a b:E3):Bool:=klt (key a) (key b)
abbrev JN(l:List E3):Prop:=l.Pairwise λa b=>bel a b=true
def Ob(n:Nat)(f:Nat->Int):List Int:=(List.range (n+1)).map f
def Oc(l:List E3)(k:Nat):Nat:=l.countP λx=>decide (x.1<(k:Int))
end
section
open Go Sm
theorem yj{α:Type}[DecidableEq α]{x y:Sl α}(hl:x.l.length<=9223372036854775806){w:Nat}(hx:okS w x)(hy:okS w y){b:Int->Option (Int ⊕ PUnit ⊕ Bool ⊕ Empty)}
  (hb:∀a,b a=if a<(x.l.length:Int)then(atS w x a).bind λu=>(atS w y a).bind λv=>if u≠v then some (.inr (.inr (.inl false)))else some (.inl (IntKind.i64.wrap (a+1)))else some (.inr (.inl ()))):
  (if(x.l.length:Int)≠(y.l.length:Int)then some false else(bI b 0).bind λ(y:PUnit ⊕ Bool ⊕ Empty)=>Sum.elim (λ_=>some true) (λv=>Sum.elim (λv=>some v) (λv=>nE v) v) y)=some (decide (x.l=y.l)):=by
 by_cases h:x.l.length=y.l.length
 .rw [if_neg (by omega)]
  rw [Bh h (b:=b) (λj hj=>by
   rw [hb,if_pos (by omega),tk hx (List.getElem?_eq_getElem hj),tk hy (List.getElem?_eq_getElem (by omega))];simp only [zbS];by_cases he:x.l[j]=y.l[j]
   .rw [if_neg (by simp [he]),if_pos he,rl hj (by omega)]
   .rw [if_pos he,if_neg he]) (λj hj=>by rw [hb,if_neg (by omega)])]
  by_cases he:x.l=y.l
  .simp [he]
  .simp [he]
 .rw [if_pos (by omega),decide_eq_false];exact λhe=>h (by rw [he])
end
section
open Go Sm
structure Is(m:Mx)(n c:Int)(l:List E3):Prop where
 hn:0<=n/\n<=4096
 hc:0<=c/\c<=4096
 len:l.length<=65536
 r:JN l
 p:∀x∈l,(0<=x.1/\x.1<n)/\0<=x.2.1/\x.2.1<c
 v:∀x∈l,wL x.2.2
 e1:m.1=n
 e2:m.2.1=c
 e3:m.2.2.1.l=Ob n.toNat λk=>((Oc l k:Nat):Int)
 e4:m.2.2.2.1.l=l.map (·.2.1)
 e5:m.2.2.2.2.l=l.map (·.2.2)
 o3:okS 1 m.2.2.1
 o4:okS 1 m.2.2.2.1
 o5:okS 1 m.2.2.2.2
end
section
open Go Sm
theorem eZ{α:Type}[DecidableEq α]{x y:Sl α}(hl:x.l.length<=9223372036854775806){w:Nat}(hx:okS w x)(hy:okS w y){b:Int->Option (Int ⊕ PUnit ⊕ Bool ⊕ Empty)}{P:α->α->Prop}[∀u v,Decidable (P u v)](hP:∀u v,P u v↔u=v)
  (hb:∀a,b a=if a<(x.l.length:Int)then(atS w x a).bind λu=>(atS w y a).bind λv=>if¬P u v then some (.inr (.inr (.inl false)))else some (.inl (IntKind.i64.wrap (a+1)))else some (.inr (.inl ()))):
  (if(x.l.length:Int)≠(y.l.length:Int)then some false else(bI b 0).bind λ(y:PUnit ⊕ Bool ⊕ Empty)=>Sum.elim (λ_=>some true) (λv=>Sum.elim (λv=>some v) (λv=>nE v) v) y)=some (decide (x.l=y.l)):=by
 refine yj hl hx hy λa=> ?_;rw [hb];by_cases h:a<(x.l.length:Int)
 .rw [if_pos h,if_pos h]
  cases atS w x a with
  |none=>rfl
  |some u=>
   cases atS w y a with
   |none=>rfl
   |some v=>
    simp only [zbS];by_cases he:u=v
    .rw [if_neg (λhh=>hh ((hP u v).2 he)),if_neg (λhh=>hh he)]
    .rw [if_pos (λhh=>he ((hP u v).1 hh)),if_pos he]
 .rw [if_neg h,if_neg h]
theorem wN{x y:Sl (Int×Int)}(hl:x.l.length<=9223372036854775806)(hx:okS 2 x)(hy:okS 2 y):cC x y=some (decide (x.l=y.l)):=by
 rw [lA];exact eZ hl hx hy (P:=λu v=>u.fst=v.fst/\u.snd=v.snd) (λu v=>Prod.ext_iff.symm) λa=>by unfold gk;rfl
end
section
open Go Sm
def bts(x:Int)(k:Nat):List Int:=(List.range k).map λi=>x / 256 ^ i % 256
theorem zC(x:Int)(k:Nat):(bts x k).length=k:=by simp [bts]
theorem CP(x:Int)(k i:Nat)(h:i<k):(bts x k)[i]? =some (x / 256 ^ i % 256):=by simp [bts,h]
end
section
open Go Sm
theorem yk{n:Int}{g:Nat->Int}:∀(k:Nat),(∀i,i<k->g i=n / 256 ^ i % 256)->le g k=n % 256 ^ k
 |0,_=>by simp [le,Int.emod_one]
 |k+1,h=>by
  rw [le,yk k λi hi=>h i (by omega),h k (by omega)];have hp:(0:Int)<256 ^ k:=Int.pow_pos (by decide);have e1:(2:Int)^(8*k)=256 ^ k:=by rw [Int.pow_mul];rfl
  rw [e1];have e2:n /(256 ^ k*256)=n / 256 ^ k / 256:=(Int.ediv_ediv_of_nonneg (Int.le_of_lt hp)).symm;rw [Int.pow_succ];generalize (256:Int)^ k=M at hp e2 ⊢;rw [Int.emod_def n (M*256),e2,Int.emod_def n M,Int.emod_def (n / M) 256];generalize n / M / 256=q;generalize n / M=r;rw [Int.sub_mul,Int.mul_comm r M,Int.mul_comm 256 q,Int.mul_assoc q 256 M,Int.mul_comm 256 M,Int.mul_comm q (M*256)];omega
theorem Fw{f:Nat->Int}{m:Nat}{B pre post:List Int}{n most e:Int}(hB:B=pre++(bts n 4++post))(hf:∀i,i<m->f i=B.getD i 0)(h0:0<=n)(h1:n<=most)(h2:most<=2147483647):
  fL f m pre.length most e=if pre.length+4<=m then .ok (n,pre.length+4)else .error (2,(m:Int)):=by
 unfold fL;by_cases h:pre.length+4<=m
 .have hl:le (λi=>f (pre.length+i)) 4=n:=by
   rw [yk (n:=n) 4 λi hi=>by
    rw [hf _ (by omega),hB,List.getD_eq_getElem?_getD,List.getElem?_append_right (by omega),Nat.add_sub_cancel_left,List.getElem?_append_left (by rw [zC];exact hi),CP _ _ _ hi]
    rfl]
   omega
  rw [if_pos h,if_pos h,hl,if_neg (by omega)]
 .rw [if_neg h,if_neg h]
theorem Fx{n:Int}(h:wL n):Go.RowKit.wrap64 (n % 256 ^ 8)=n:=by
 unfold wL at h;unfold Go.RowKit.wrap64;omega
theorem JO{f:Nat->Int}{m:Nat}{B pre post:List Int}{n:Int}(hB:B=pre++(bts n 8++post))(hf:∀i,i<m->f i=B.getD i 0)(hn:wL n)(h:pre.length+8<=m):lw (λj=>f (pre.length+j)) 8=n:=by
 unfold lw
 rw [yk (n:=n) 8 λi hi=>by
  rw [hf _ (by omega),hB,List.getD_eq_getElem?_getD,List.getElem?_append_right (by omega),Nat.add_sub_cancel_left,List.getElem?_append_left (by rw [zC];exact hi),CP _ _ _ hi]
  rfl]
 exact Fx hn
end
section
open Go Sm
theorem wO{x y:Sl Int}(hx:okS 1 x)(hy:okS 1 y)(hl:x.l.length<=9223372036854775806):cD x y=some (decide (x.l=y.l)):=by
 rw [lB];exact eZ hl hx hy (P:=λu v=>u=v) (λu v=>Iff.rfl) λa=>by unfold gl;rfl
end
end Ev
end
noncomputable section
namespace Ev
open Go Sm
abbrev FrX:=Sm.Fd.FrS
theorem wP{R:Type}(s n:Nat)(p:Nat->Bool)(v:Nat->R){b:Int->Option (Int ⊕ PUnit ⊕ R ⊕ Empty)}(h1:∀j,s<=j->j<n->b (j:Int)=some (if p j=true then .inl ((j+1:Nat):Int)else .inr (.inr (.inl (v j)))))(h2:∀j,n<=j->b (j:Int)=some (.inr (.inl ()))):
  ((∀j,s<=j->j<n->p j=true)/\bI b (s:Int)=some (.inl ()))∨∃j,(s<=j/\j<n/\p j=false)/\bI b (s:Int)=some (.inr (.inl (v j))):=by
 by_cases h:∀j,s<=j->j<n->p j=true
 .refine .inl ⟨h,?_⟩;refine tr (n - s) (λi=>((s+i:Nat):Int)) (by simp) (λi hi=> ?_) ?_
  .rw [h1 _ (by omega) (by omega),if_pos (h _ (by omega) (by omega))];rfl
  .exact h2 _ (by omega)
 .refine .inr ?_
  have hex:∃j,s<=j/\j<n/\p j=false:=by
   refine Classical.byContradiction λhn=>h λj a c=> ?_
   cases hp:p j with
   |true=>rfl
   |false=>exact absurd ⟨j,a,c,hp⟩ hn
  have hmin:∃j,(s<=j/\j<n/\p j=false)/\∀i,s<=i->i<j->p i=true:=by
   obtain⟨j,hj⟩:=hex
   induction j using Nat.strongRecOn with
   |_ j ih=>
    by_cases hc:∀i,s<=i->i<j->p i=true
    .exact⟨j,hj,hc⟩
    .have:∃i,s<=i/\i<j/\p i=false:=by
      refine Classical.byContradiction λhn=>hc λi a c=> ?_
      cases hp:p i with
      |true=>rfl
      |false=>exact absurd ⟨i,a,c,hp⟩ hn
     obtain⟨i,a,c,d⟩:=this;exact ih i c ⟨a,by omega,d⟩
  obtain⟨j,hj,hm⟩:=hmin;refine⟨j,hj,?_⟩;refine tr (j - s) (λi=>((s+i:Nat):Int)) (by simp) (λi hi=> ?_) ?_
  .rw [h1 _ (by omega) (by omega),if_pos (hm _ (by omega) (by omega))];rfl
  .rw [show s+(j - s)=j by omega,h1 _ hj.1 hj.2.1,if_neg (by rw [hj.2.2];simp)]
def pl(x:Int):Bool:=decide (0<=x/\x<4096)
def vn(a b c d:Int):Bool:=decide ((0<=a/\a<64)/\(0<=b/\b<64)/\(0<=c/\c<=2147483647)/\(0<=d/\d<=8192))
def qM(l:List (Int×Int×Int)):Bool:=(List.range l.length).all λj=>decide (j=0)||decide ((l.getD (j - 1) (0,0,0)).1<(l.getD j (0,0,0)).1)
def cJ(x:FrX):Int:=
 if x.1<1∨7<x.1 then 8 else if vn x.2.1 x.2.2.1 x.2.2.2.1 x.2.2.2.2.1=true then(if gQ x.2.2.2.2.2.1=true then(if(x.2.2.2.2.2.2.1.l.all λe=>pl e.1)=true then(if qM x.2.2.2.2.2.2.1.l=true then(if x.2.2.2.2.2.2.2.1.l.length>65536 then 5 else if(x.2.2.2.2.2.2.2.1.l.all λe=>pl e.1 && pl e.2.1)=true then 0 else 3)else 6)else 3)else 7)else 3
structure OkX(x:FrX):Prop where
 s7:okS 2 x.2.2.2.2.2.1.2
 s8:okS 3 x.2.2.2.2.2.2.1
 s9:okS 3 x.2.2.2.2.2.2.2.1
 l7:x.2.2.2.2.2.1.2.l.length<=9223372036854775806
 l8:x.2.2.2.2.2.2.1.l.length<=9223372036854775806
 l9:x.2.2.2.2.2.2.2.1.l.length<=9223372036854775806
theorem vo(z:Int):cn z=some (pl z):=by
 rw [qI];unfold pl;by_cases h:z >= 0
 .rw [if_pos h];congr 1;exact decide_eq_decide.2 ⟨λh'=>⟨h,h'⟩,λh'=>h'.2⟩
 .rw [if_neg h];congr 1;exact(decide_eq_false (λh'=>h h'.1)).symm
theorem wQ(z:Int):ck z=some (decide (0<=z/\z<64)):=by
 rw [pF];by_cases h:z >= 0
 .rw [if_pos h];congr 1;exact decide_eq_decide.2 ⟨λh'=>⟨h,h'⟩,λh'=>h'.2⟩
 .rw [if_neg h];congr 1;exact(decide_eq_false (λh'=>h h'.1)).symm
theorem Ii{α:Type}{l:List α}{p:α->Bool}(h:∀(j:Nat) (hj:j<l.length),p l[j]=true):l.all p=true:=by
 rw [List.all_eq_true];intro x hx;obtain⟨j,hj,rfl⟩:=List.getElem_of_mem hx;exact h j hj
theorem dI(l:List (Int×Int×Int))(j:Nat)(h:j<l.length):l.getD j (0,0,0)=l[j]:=by simp [List.getD_eq_getElem?_getD,h]
theorem ris_at{l:List (Int×Int×Int)}:qM l=true↔∀(j:Nat) (h:j<l.length),1<=j->(l[j - 1]'(by omega)).1<l[j].1:=by
 unfold qM;rw [List.all_eq_true];constructor
 .intro h j hj h1
  have:=h j (by simpa using hj)
  rw [dI l j hj,dI l (j - 1) (by omega)]at this;simp only [Bool.or_eq_true,decide_eq_true_eq]at this;exact this.resolve_left (by omega)
 .intro h j hj;have hj:j<l.length:=by simpa using hj
  simp only [Bool.or_eq_true,decide_eq_true_eq];by_cases h0:j=0
  .exact .inl h0
  .rw [dI l j hj,dI l (j - 1) (by omega)];exact .inr (h j hj (by omega))
theorem CQ{R:Type}{s:Sl (Int×Int×Int)}(r:R){b:Int->Option (Int ⊕ PUnit ⊕ R ⊕ Empty)}(h1:∀(j:Nat) (h:j<s.l.length),1<=j->b (j:Int)=some (if s.l[j].1<=(s.l[j - 1]'(by omega)).1 then .inr (.inr (.inl r))else .inl ((j+1:Nat):Int)))(h2:∀j,s.l.length<=j->b (j:Int)=some (.inr (.inl ()))):
  bI b 1=some (if qM s.l=true then .inl ()else .inr (.inl r)):=by
 rcases wP 1 s.l.length (λj=>decide ((s.l.getD (j - 1) (0,0,0)).1<(s.l.getD j (0,0,0)).1)) (λ_=>r) (b:=b) (λj a c=>by
  rw [h1 j c a,dI s.l j c,dI s.l (j - 1) (by omega)];by_cases h:s.l[j].1<=(s.l[j - 1]'(by omega)).1
  .rw [if_pos h,if_neg (by simp;omega)]
  .rw [if_neg h,if_pos (by simp;omega)]) h2 with⟨h,e⟩|⟨j,⟨a,c,d⟩,e⟩
 .rw [show bI b 1=_ from e,if_pos]
  exact ris_at.2 λj hj h1=>by
   have:=h j h1 hj
   rw [dI s.l j hj,dI s.l (j - 1) (by omega)]at this;simpa using this
 .rw [show bI b 1=_ from e,if_neg];intro hr
  have:=ris_at.1 hr j c a
  rw [dI s.l j c,dI s.l (j - 1) (by omega)]at d;simp at d;omega
theorem wR{R:Type}{l:List (Int×Int×Int)}(p:(Int×Int×Int)->Bool)(v:Nat->R){b:Int->Option (Int ⊕ PUnit ⊕ R ⊕ Empty)}(h1:∀(j:Nat) (h:j<l.length),b (j:Int)=some (if p l[j]=true then .inl ((j+1:Nat):Int)else .inr (.inr (.inl (v j)))))(h2:∀j,l.length<=j->b (j:Int)=some (.inr (.inl ()))):
  (l.all p=true/\bI b 0=some (.inl ()))∨(l.all p=false/\∃j,bI b 0=some (.inr (.inl (v j)))):=by
 rcases wP 0 l.length (λj=>p (l.getD j (0,0,0))) v (b:=b) (λj a c=>by rw [h1 j c,dI l j c]) h2 with⟨h,e⟩|⟨j,⟨a,c,d⟩,e⟩
 .exact .inl ⟨Ii λj hj=>by have:=h j (Nat.zero_le _) hj;rwa [dI l j hj]at this,e⟩
 .refine .inr ⟨?_,j,e⟩;rw [dI l j c]at d;rw [Bool.eq_false_iff];intro h;rw [List.all_eq_true.1 h _ (List.getElem_mem c)]at d;cases d
theorem Ij{j:Nat}(h:1<=j)(hn:j<=9223372036854775807):IntKind.i64.wrap ((j:Int) - 1)=((j - 1:Nat):Int):=by rw [wrap64 (by omega) (by omega)];omega
theorem sI{s:Sl (Int×Int×Int)}(hs:okS 3 s)(hl:s.l.length<=9223372036854775806):dw s=some (qM s.l):=by
 rw [qJ,CQ (s:=s) false (λj hj h1=>by
  simp only [gh];rw [if_pos (by omega),ol hs hj];simp only [zbS];rw [Ij h1 (by omega),ol hs (show j - 1<s.l.length by omega)];simp only [zbS];rw [rl hj (by omega)]
  split<;>rfl) (λj hj=>by simp only [gh];rw [if_neg (by omega)])]
 by_cases h:qM s.l=true
 .rw [if_pos h,h];rfl
 .rw [if_neg h,Bool.eq_false_iff.2 h];rfl
end Ev
end
noncomputable section
namespace Ev
open Go Sm
theorem Ik(x1 x2 x3 x4:Int):((ck x1).bind λ(out:Bool)=>if¬out=true then some (Sum.inl true)else(ck x2).bind λ(out:Bool)=>if¬out=true then some (Sum.inl true)else if x3<0 then some (Sum.inl true)else if x3>2147483647 then some (Sum.inl true)else if x4<0 then some (Sum.inl true)else(some (Sum.inl (decide (x4>8192))):Option (Bool ⊕ Empty)))=some (Sum.inl (!vn x1 x2 x3 x4)):=by
 rw [wQ,wQ];simp only [zbS,decide_eq_true_eq];unfold vn;by_cases c1:0<=x1/\x1<64
 .rw [if_neg (by simpa using c1)];by_cases c2:0<=x2/\x2<64
  .rw [if_neg (by simpa using c2)];by_cases c5:x3<0
   .rw [if_pos c5,decide_eq_false (by omega)];rfl
   rw [if_neg c5];by_cases c6:x3>2147483647
   .rw [if_pos c6,decide_eq_false (by omega)];rfl
   rw [if_neg c6];by_cases c7:x4<0
   .rw [if_pos c7,decide_eq_false (by omega)];rfl
   rw [if_neg c7];by_cases c8:x4>8192
   .rw [decide_eq_true c8,decide_eq_false (by omega)];rfl
   .rw [decide_eq_false c8,decide_eq_true (by omega)];rfl
  .rw [if_pos c2,decide_eq_false (by omega)];rfl
 .rw [if_pos c1,decide_eq_false (by omega)];rfl
theorem gR{x:FrX}(hx:OkX x):bn x=some (cJ x):=by
 obtain⟨h7,h8,h9,l7,l8,l9⟩:=hx;obtain⟨x0,x1,x2,x3,x4,⟨n,s7⟩,s8,s9,x6,x5⟩:=x;simp only at h7 h8 h9 l7 l8 l9;rw [qL];unfold cJ;simp only;by_cases a1:x0<1
 .rw [if_pos a1,if_pos (.inl a1)]
 by_cases a2:x0>7
 .rw [if_neg a1,if_pos a2,if_pos (.inr a2)]
 rw [if_neg a1,if_neg a2,if_neg (show¬(x0<1∨7<x0)by omega),Ik x1 x2 x3 x4];simp only [zbS,Sum.elim_inl];by_cases hd:vn x1 x2 x3 x4=true
 .rw [if_neg (by simp [hd]),if_pos hd,sH (v:=(n,s7)) h7 l7];simp only [zbS];by_cases b1:gQ (n,s7)=true
  .rw [if_neg (by simp [b1]),if_pos b1]
   rcases wR (l:=s8.l) (λe=>pl e.1) (λj=>((j:Nat):Int)) (b:=eL (x0,x1,x2,x3,x4,(n,s7),s8,s9,x6,x5)) (λj hj=>by
    simp only [eL];rw [if_pos (by omega),ol h8 hj];simp only [zbS];rw [vo];simp only [zbS];rw [rl hj (by omega)];by_cases c1:pl s8.l[j].1=true
    .rw [if_neg (by simp [c1]),if_pos c1]
    .rw [if_pos c1,if_neg c1]) (λj hj=>by simp only [eL];rw [if_neg (by omega)])with⟨q1,q2⟩|⟨q1,j,q2⟩
   .rw [q2,if_pos q1];simp only [zbS,Sum.elim_inl];rw [sI h8 l8];simp only [zbS];by_cases r1:qM s8.l=true
    .rw [if_neg (by simp [r1]),if_pos r1];by_cases t1:s9.l.length>65536
     .rw [if_pos (by omega),if_pos t1]
     .rw [if_neg (by omega),if_neg t1]
      rcases wR (l:=s9.l) (λe=>pl e.1 && pl e.2.1) (λj=>((j:Nat):Int)) (b:=eM (x0,x1,x2,x3,x4,(n,s7),s8,s9,x6,x5)) (λj hj=>by
       simp only [eM];rw [if_pos (by omega),ol h9 hj];simp only [zbS];rw [vo,vo];simp only [zbS];rw [rl hj (by omega)];by_cases c1:pl s9.l[j].1=true
       .rw [if_neg (by simp [c1])];by_cases c2:pl s9.l[j].2.1=true
        .rw [if_neg (by simp [c2]),if_pos (by simp [c1,c2])]
        .rw [if_pos c2,if_neg (by simp [c2])]
       .rw [if_pos c1,if_neg (by simp [c1])]) (λj hj=>by simp only [eM];rw [if_neg (by omega)])with⟨q3,q4⟩|⟨q3,j,q4⟩
      .rw [q4,if_pos q3];rfl
      .rw [q4,if_neg (show¬(s9.l.all λe=>pl e.1 && pl e.2.1)=true by rw [q3];simp)];simp only [zbS,Sum.elim_inl,Sum.elim_inr];rw [if_pos (by omega)]
    .rw [if_pos r1,if_neg r1]
   .rw [q2,if_neg (show¬(s8.l.all λe=>pl e.1)=true by rw [q1];simp)];simp only [zbS,Sum.elim_inl,Sum.elim_inr];rw [if_pos (by omega)]
  .rw [if_pos b1,if_neg b1]
 .rw [if_pos (by simp [hd]),if_neg hd]
end Ev
end
noncomputable section
namespace Ev
open Go Sm
structure TyX(x:FrX):Prop where
 o:OkX x
 v6:i8 x.2.2.2.2.2.2.2.2.1
 v7:∀e∈x.2.2.2.2.2.1.2.l,i8 e.2
 v8:∀e∈x.2.2.2.2.2.2.1.l,i8 e.2.1
 v9:∀e∈x.2.2.2.2.2.2.2.1.l,i8 e.2.2
 k7:x.2.2.2.2.2.1.2.l.length<=70000
 k8:x.2.2.2.2.2.2.1.l.length<=70000
 k9:x.2.2.2.2.2.2.2.1.l.length<=70000
theorem pO(x:Int)(k:Nat):btl x k=bts x k:=by
 unfold btl bts;refine List.map_congr_left λi _=> ?_;show x / 2 ^(8*i)% 256=_;rw [show(2:Int)^(8*i)=256 ^ i by rw [Int.pow_mul];rfl]
theorem pP{x:FrX}(h:cJ x=0):(1<=x.1/\x.1<=7)/\vn x.2.1 x.2.2.1 x.2.2.2.1 x.2.2.2.2.1=true/\gQ x.2.2.2.2.2.1=true/\(x.2.2.2.2.2.2.1.l.all λe=>pl e.1)=true/\qM x.2.2.2.2.2.2.1.l=true/\x.2.2.2.2.2.2.2.1.l.length<=65536/\(x.2.2.2.2.2.2.2.1.l.all λe=>pl e.1 && pl e.2.1)=true:=by
 unfold cJ at h;by_cases c1:x.1<1∨7<x.1
 .rw [if_pos c1]at h;exact absurd h (by decide)
 rw [if_neg c1]at h;by_cases c2:vn x.2.1 x.2.2.1 x.2.2.2.1 x.2.2.2.2.1=true
 .rw [if_pos c2]at h;by_cases c3:gQ x.2.2.2.2.2.1=true
  .rw [if_pos c3]at h;by_cases c4:(x.2.2.2.2.2.2.1.l.all λe=>pl e.1)=true
   .rw [if_pos c4]at h;by_cases c5:qM x.2.2.2.2.2.2.1.l=true
    .rw [if_pos c5]at h;by_cases c6:x.2.2.2.2.2.2.2.1.l.length>65536
     .rw [if_pos c6]at h;exact absurd h (by decide)
     .rw [if_neg c6]at h;by_cases c7:(x.2.2.2.2.2.2.2.1.l.all λe=>pl e.1 && pl e.2.1)=true
      .exact⟨by omega,c2,c3,c4,c5,by omega,c7⟩
      .rw [if_neg c7]at h;exact absurd h (by decide)
    .rw [if_neg c5]at h;exact absurd h (by decide)
   .rw [if_neg c4]at h;exact absurd h (by decide)
  .rw [if_neg c3]at h;exact absurd h (by decide)
 .rw [if_neg c2]at h;exact absurd h (by decide)
structure In0(x:FrX):Prop where
 a0:1<=x.1/\x.1<=7
 a1:0<=x.2.1/\x.2.1<64
 a2:0<=x.2.2.1/\x.2.2.1<64
 a3:0<=x.2.2.2.1/\x.2.2.2.1<=2147483647
 a4:0<=x.2.2.2.2.1/\x.2.2.2.2.1<=8192
 n:0<=x.2.2.2.2.2.1.1/\x.2.2.2.2.2.1.1<=4096
 i:∀e∈x.2.2.2.2.2.1.2.l,0<=e.1/\e.1<4096
 s:∀e∈x.2.2.2.2.2.2.1.l,0<=e.1/\e.1<4096
 t:∀e∈x.2.2.2.2.2.2.2.1.l,(0<=e.1/\e.1<4096)/\0<=e.2.1/\e.2.1<4096
theorem CR{x:FrX}(h:cJ x=0):In0 x:=by
 obtain⟨b1,b2,b3,b4,b5,b6,b7⟩:=pP h;simp only [vn,decide_eq_true_eq]at b2;have b3':oN x.2.2.2.2.2.1.1=true/\asc (-1) x.2.2.2.2.2.1.1 x.2.2.2.2.2.1.2.l=true:=by simpa [gQ]using b3
 have hn:0<=x.2.2.2.2.2.1.1/\x.2.2.2.2.2.1.1<=4096:=by simpa [oN]using b3'.1
 refine⟨b1,b2.1,b2.2.1,b2.2.2.1,b2.2.2.2,hn,λe he=> ?_,λe he=> ?_,λe he=> ?_⟩
 .have:=vl b3'.2 e he;omega
 .have:=List.all_eq_true.1 b4 e he;simpa [pl]using this
 .have:=List.all_eq_true.1 b7 e he
  simpa [pl,and_assoc]using this
theorem Il{x:FrX}(h:TyX x)(h0:In0 x):Sm.Fe.okF x=true:=by
 obtain⟨⟨s7,s8,s9,_,_,_⟩,v6,v7,v8,v9,k7,k8,k9⟩:=h;obtain⟨a0,a1,a2,a3,a4,n,i,s,t⟩:=h0;have z2:∀{α:Type} {q:Sl α} {k:Nat},okS k q->q.sz=k∨q.l= []:=λh=>h.symm;simp only [Sm.Fe.okF,Sm.Fe.ok2,Sm.Fe.ok3,Bool.and_eq_true,Bool.or_eq_true,decide_eq_true_eq,List.isEmpty_iff,List.all_eq_true];exact⟨by omega,by omega,by omega,by constructor<;>omega,by constructor<;>omega,by constructor<;>omega,⟨k7,z2 s7,λe he=>⟨by have:=i e he;constructor<;>omega,v7 e he⟩⟩,⟨k8,z2 s8,λe he=>⟨by have:=s e he;constructor<;>omega,v8 e he⟩⟩,⟨k9,z2 s9,λe he=>⟨by have:=(t e he).1;constructor<;>omega,by have:=(t e he).2;constructor<;>omega,v9 e he⟩⟩,v6⟩
def qN(x:FrX):Sl Int×Int:=if cJ x=0 then(⟨true,1,Sm.Fe.encF x⟩,0)else(⟨false,0,[]⟩,cJ x)
theorem gm{x:FrX}(h:TyX x):cj x=some (qN x):=by
 show Sm.Fe.fn x=_;unfold Sm.Fe.fn qN;rw [show K.bn x=some (cJ x)from gR h.o];simp only;by_cases h0:cJ x=0
 .rw [if_pos h0,if_pos h0,if_pos (Il h (CR h0))]
 .rw [if_neg h0,if_neg h0]
end Ev
end
noncomputable section
namespace Ev
open Go Sm
theorem dJ(x:Int)(k:Nat):(btl x k).length=k:=by simp [btl]
theorem JP{x:Int}(h:0<=x/\x<256):btl x 1= [x]:=by
 simp [btl,bt];omega
theorem qO{α:Type}{f:α->List Int}{k:Nat}(hf:∀e,(f e).length=k)(l:List α):(l.flatMap f).length=k*l.length:=by
 induction l with
 |nil=>rfl
 |cons a r ih=>rw [List.flatMap_cons,List.length_append,hf,ih,List.length_cons,Nat.mul_add];omega
theorem Fy(e:Int×Int):(itB e).length=12:=by simp [itB,dJ]
theorem Fz(e:Int×Int×Int):(suB e).length=20:=by simp [suB,dJ]
theorem FA(e:Int×Int×Int):(trB e).length=16:=by simp [trB,dJ]
end Ev
end
noncomputable section
namespace Ev
open Go Sm
theorem CS{x y:Sl (Int×Int)}(hl:x.l.length<=9223372036854775806)(hx:okS 2 x)(hy:okS 2 y):an x y=some (decide (x.l=y.l)):=by
 rw [eB];exact eZ hl hx hy (P:=λu v=>u.fst=v.fst/\u.snd=v.snd) (λu v=>Prod.ext_iff.symm) λa=>by unfold cv;rfl
theorem FB{x y:Sl (Int×Int×Int)}(hl:x.l.length<=9223372036854775806)(hx:okS 3 x)(hy:okS 3 y):aJ x y=some (decide (x.l=y.l)):=by
 rw [eT];exact eZ hl hx hy (P:=λu v=>u.fst=v.fst/\u.snd.fst=v.snd.fst/\u.snd.snd=v.snd.snd) (λu v=>by rw [Prod.ext_iff,Prod.ext_iff]) λa=>by unfold cM;rfl
theorem FC{x y:Sl (Int×Int×Int)}(hl:x.l.length<=9223372036854775806)(hx:okS 3 x)(hy:okS 3 y):aD x y=some (decide (x.l=y.l)):=by
 rw [dH];exact eZ hl hx hy (P:=λu v=>u.fst=v.fst/\u.snd.fst=v.snd.fst/\u.snd.snd=v.snd.snd) (λu v=>by rw [Prod.ext_iff,Prod.ext_iff]) λa=>by unfold bV;rfl
theorem CT{x y:Sl (Int×Int×Int)}(hl:x.l.length<=9223372036854775806)(hx:okS 3 x)(hy:okS 3 y):cP x y=some (decide (x.l=y.l)):=by
 rw [mP];exact eZ hl hx hy (P:=λu v=>u.fst=v.fst/\u.snd.fst=v.snd.fst/\u.snd.snd=v.snd.snd) (λu v=>by rw [Prod.ext_iff,Prod.ext_iff]) λa=>by unfold gJ;rfl
theorem CU{x y:Sl (Int×Int×Int)}(hl:x.l.length<=9223372036854775806)(hx:okS 3 x)(hy:okS 3 y):bU x y=some (decide (x.l=y.l)):=by
 rw [js];exact eZ hl hx hy (P:=λu v=>u.fst=v.fst/\u.snd.fst=v.snd.fst/\u.snd.snd=v.snd.snd) (λu v=>by rw [Prod.ext_iff,Prod.ext_iff]) λa=>by unfold fv;rfl
structure EqX(x y:FrX):Prop where
 e0:x.1=y.1
 e1:x.2.1=y.2.1
 e2:x.2.2.1=y.2.2.1
 e3:x.2.2.2.1=y.2.2.2.1
 e4:x.2.2.2.2.1=y.2.2.2.2.1
 en:x.2.2.2.2.2.1.1=y.2.2.2.2.2.1.1
 e7:x.2.2.2.2.2.1.2.l=y.2.2.2.2.2.1.2.l
 e8:x.2.2.2.2.2.2.1.l=y.2.2.2.2.2.2.1.l
 e9:x.2.2.2.2.2.2.2.1.l=y.2.2.2.2.2.2.2.1.l
 e6:x.2.2.2.2.2.2.2.2.1=y.2.2.2.2.2.2.2.2.1
 e5:x.2.2.2.2.2.2.2.2.2=y.2.2.2.2.2.2.2.2.2
theorem EqX.refl(x:FrX):EqX x x:=⟨rfl,rfl,rfl,rfl,rfl,rfl,rfl,rfl,rfl,rfl,rfl⟩
theorem mQ{x y:FrX}(hx:OkX x)(hy:OkX y)(h:EqX x y):cd x y=some true:=by
 rw [kA,if_pos h.e0,if_pos h.e1,if_pos h.e2,if_pos h.e3,if_pos h.e4,if_pos h.e6,if_pos h.en,CS hx.l7 hx.s7 hy.s7,FB hx.l8 hx.s8 hy.s8,FC hx.l9 hx.s9 hy.s9,decide_eq_true h.e7,decide_eq_true h.e8,decide_eq_true h.e9];simp [h.e5]
theorem mR{x y:FrX}(hx:OkX x)(hy:OkX y)(h:EqX x y):cV x y=some true:=by
 rw [sE,if_pos h.e0,if_pos h.e1,if_pos h.e2,if_pos h.e3,if_pos h.e4,sD,if_pos h.en,wN hx.l7 hx.s7 hy.s7,CT hx.l8 hx.s8 hy.s8,CU hx.l9 hx.s9 hy.s9,decide_eq_true h.e7,decide_eq_true h.e8,decide_eq_true h.e9];simp [h.e5,h.e6]
def X1:FrX:=(3,1,2,3,4,(2,⟨true,2,[(1,-5)]⟩),⟨true,3,[(7,-1,9)]⟩,⟨true,3,[(1,2,3)]⟩,-8,true)
def X0:FrX:=(0,0,0,0,0,(0,⟨false,0,[]⟩),⟨false,0,[]⟩,⟨false,0,[]⟩,0,false)
theorem ok_X1:TyX X1:=⟨⟨.inr rfl,.inr rfl,.inr rfl,by decide,by decide,by decide⟩,by decide,by decide,by decide,by decide,by decide,by decide,by decide⟩
theorem CV:OkX X0:=⟨.inl rfl,.inl rfl,.inl rfl,by decide,by decide,by decide⟩
theorem wS:cJ X1=0:=by kernel_rfl
theorem Im:aS ⟨true,1,Sm.Fe.encF X1⟩=some (X1,(0,0)):=by kernel_rfl
theorem FD:aS ⟨false,0,[]⟩=some (X0,(2,0)):=by kernel_rfl
theorem In:((Sm.Fe.encF X1).length:Int)=84:=by kernel_rfl
theorem FE:ee X1=some 3:=by rw [sF];kernel_rfl
theorem Io:law19_live=some true:=by
 rw [sG];have e1:cj X1=some (⟨true,1,Sm.Fe.encF X1⟩,0):=by rw [gm ok_X1];unfold qN;rw [if_pos wS]
 have e2:cd X1 X0=some false:=by
  rw [kA,if_neg (by decide),if_neg (by decide)]
 change (cj X1).bind _=_;rw [e1];simp only [zbS];rw [Im,FD];simp only [zbS];rw [if_pos trivial,if_pos In,if_pos ⟨trivial,trivial⟩];change (cV X1 X1).bind _=_;rw [mR ok_X1.o ok_X1.o (EqX.refl _)];simp only [zbS];rw [if_pos trivial];change (cd X1 X1).bind _=_;rw [mQ ok_X1.o ok_X1.o (EqX.refl _)];simp only [zbS];rw [if_pos trivial];change (cd X1 X0).bind _=_;rw [e2];simp only [zbS];rw [if_pos (by decide),if_pos ⟨trivial,trivial⟩];change (ee X1).bind _=_;rw [FE];simp only [zbS];rw [if_pos trivial];change (bn X1).bind _=_;rw [gR ok_X1.o,wS];simp only [zbS];rw [if_pos trivial];change (bn X0).bind _=_;rw [gR CV];rfl
end Ev
end
noncomputable section
namespace Ev
open Go Sm
theorem GP{x:Int}(h:inK .u64 x):0<=x/\x<18446744073709551616:=by
 have h:inK .u64 x:=h;simp [inK,Lit.wf,IntKind.min,IntKind.max,IntKind.signed,IntKind.bits]at h;constructor<;>omega
theorem tu{x:Int}(h:inK .i64 x):i8 x:=by
 have h:inK .i64 x:=h;simp [inK,Lit.wf,IntKind.min,IntKind.max,IntKind.signed,IntKind.bits]at h;constructor<;>omega
structure Ip(y:FrX):Prop where
 t:TyX y
 k7:y.2.2.2.2.2.1.2.l.length<=60
 k8:y.2.2.2.2.2.2.1.l.length<=40
 k9:y.2.2.2.2.2.2.2.1.l.length<=40
 u8:∀e∈y.2.2.2.2.2.2.1.l,0<=e.2.2/\e.2.2<18446744073709551616
theorem GQ{s:Sl (Int×Int×Int)}{Q:Int×Int×Int->Prop}(h:okS 3 s)(hl:(s.l.length:Int)>40):∃t,pH 3 s 0 40=some t/\okS 3 t/\t.l=s.l.take 40:=by
 refine⟨⟨s.nn,s.sz,(s.l.drop (0:Int).toNat).take ((40:Int).toNat - (0:Int).toNat)⟩,?_,?_,rfl⟩
 .unfold pH;rw [if_pos ⟨by omega,by omega,by omega,.inr rfl⟩]
 .rcases h with h|h
  .exact .inl (by rw [h];rfl)
  .exact .inr h
theorem JQ{x:FrX}(h:K.W Sm.Fd.Ft x):∃y,fR x=some y/\Ip y:=by
 obtain⟨x0,x1,x2,x3,x4,⟨n,s7⟩,s8,s9,x6,x5⟩:=x;obtain⟨w0,w1,w2,w3,w4,⟨wn,w7⟩,w8,w9,w6,_⟩:=h;have w7:K.W (.S (.C (.I .i64) (.I .i64))) s7:=w7;have w8:K.W (.S Sm.Fd.St) s8:=w8;have w9:K.W (.S Sm.Fd.Tt) s9:=w9;have w6:inK .i64 x6:=w6;obtain⟨v,e1,e2,e3,e4,_⟩:=wM (v:=(n,s7)) (.inr w7.1) w7.2.1;obtain⟨n',t7⟩:=v;simp only at e2 e3 e4;have m7:∀e∈t7.l,i8 e.2:=λe he=>tu (w7.2.2.2 e (List.mem_of_mem_take (by rw [<-e3];exact he))).2;have k7:t7.l.length<=60:=by rw [e3,List.length_take];omega
 have c8:∃t8:Sl (Int×Int×Int),((if(s8.l.length:Int)>40 then(pH 3 s8 0 40).bind λ(s':Sl (Int×Int×Int))=>some (Sum.inl (x0,x1,x2,x3,x4,n',t7,s',s9,x6,x5))else some (Sum.inl (x0,x1,x2,x3,x4,n',t7,s8,s9,x6,x5)):Option ((Int×Int×Int×Int×Int×Int×Sl (Int×Int)×Sl (Int×Int×Int)×Sl (Int×Int×Int)×Int×Bool)⊕ Empty)))=some (.inl (x0,x1,x2,x3,x4,n',t7,t8,s9,x6,x5))/\okS 3 t8/\t8.l.length<=40/\∀e∈t8.l,i8 e.2.1/\0<=e.2.2/\e.2.2<18446744073709551616:=by
  by_cases c:(s8.l.length:Int)>40
  .obtain⟨t,t1,t2,t3⟩:=GQ (Q:=λ_=>True) (s:=s8) (.inr w8.1) c;exact⟨t,by rw [if_pos c,t1];rfl,t2,by rw [t3,List.length_take];omega,λe he=>⟨tu (w8.2.2.2 e (List.mem_of_mem_take (by rw [<-t3];exact he))).2.1,GP (w8.2.2.2 e (List.mem_of_mem_take (by rw [<-t3];exact he))).2.2⟩⟩
  .exact⟨s8,by rw [if_neg c],.inr w8.1,by omega,λe he=>⟨tu (w8.2.2.2 e he).2.1,GP (w8.2.2.2 e he).2.2⟩⟩
 obtain⟨t8,f1,f2,f3,f4⟩:=c8
 have c9:∃t9:Sl (Int×Int×Int),(if(s9.l.length:Int)>40 then(pH 3 s9 0 40).bind λ(s':Sl (Int×Int×Int))=>some ((x0,x1,x2,x3,x4,(n',t7),t8,s',x6,x5):FrX)else some (x0,x1,x2,x3,x4,(n',t7),t8,s9,x6,x5))=some (x0,x1,x2,x3,x4,(n',t7),t8,t9,x6,x5)/\okS 3 t9/\t9.l.length<=40/\∀e∈t9.l,i8 e.2.2:=by
  by_cases c:(s9.l.length:Int)>40
  .obtain⟨t,t1,t2,t3⟩:=GQ (Q:=λ_=>True) (s:=s9) (.inr w9.1) c;exact⟨t,by rw [if_pos c,t1];rfl,t2,by rw [t3,List.length_take];omega,λe he=>tu (w9.2.2.2 e (List.mem_of_mem_take (by rw [<-t3];exact he))).2.2⟩
  .exact⟨s9,by rw [if_neg c],.inr w9.1,by omega,λe he=>tu (w9.2.2.2 e he).2.2⟩
 obtain⟨t9,g1,g2,g3,g4⟩:=c9;refine⟨(x0,x1,x2,x3,x4,(n',t7),t8,t9,x6,x5),?_,⟨⟨⟨e4,f2,g2,?_,?_,?_⟩,tu w6,m7,λe he=>(f4 e he).1,g4,?_,?_,?_⟩,k7,f3,g3,λe he=>(f4 e he).2⟩⟩
 .rw [vk];simp only;rw [e1];simp only [zbS];rw [f1];simp only [zbS,Sum.elim_inl];exact g1
 all_goals (simp only;omega)
end Ev
end
noncomputable section
namespace Ev
open Go Sm
def RdAt{α:Type}(r:Rd α)(enc:List Int)(x:α):Prop:=∀(pre post B:List Int) (f:Nat->Int) (m:Nat),B=pre++(enc++post)->(∀i,i<m->f i=B.getD i 0)->pre.length<=m->
 r f m pre.length=if pre.length+enc.length<=m then .ok (x,pre.length+enc.length)else .error (2,(m:Int))
theorem RdAt.ret{α:Type}(x:α):RdAt (dF x) [] x:=λpre post B f m hB hf hm=>by
 rw [if_pos (by simpa using hm)];rfl
theorem RdAt.bind{α β:Type}{r:Rd α}{s:α->Rd β}{e e':List Int}{x:α}{y:β}(h:RdAt r e x)(h':RdAt (s x) e' y):RdAt (az r s) (e++e') y:=λpre post B f m hB hf hm=>by
 have h1:=h pre (e'++post) B f m (by rw [hB];simp) hf hm;by_cases c:pre.length+e.length<=m
 .rw [if_pos c]at h1;have h2:=h' (pre++e) post B f m (by rw [hB];simp) hf (by simpa using c);rw [List.length_append]at h2;rw [ap h1,h2];simp only [List.length_append,Nat.add_assoc]
 .rw [if_neg c]at h1;rw [ar h1,if_neg (by rw [List.length_append];omega)]
theorem RdAt.bind0{α β:Type}{r:Rd α}{s:α->Rd β}{e:List Int}{x:α}{y:β}(h:RdAt r e x)(h':RdAt (s x) [] y):RdAt (az r s) e y:=by
 have:=h.bind h'
 rwa [List.append_nil]at this
theorem iN{most e2 x:Int}(h0:0<=x)(h1:x<=most)(h2:most<=2147483647):RdAt (cE most e2) (btl x 4) x:=λpre post B f m hB hf hm=>by
 rw [dJ];exact Fw (by rw [hB,pO]) hf h0 h1 h2
theorem mS{least most e2 x:Int}(h0:least<=x)(h1:x<=most)(h2:0<=x/\x<256):RdAt (bg least most e2) (btl x 1) x:=λpre post B f m hB hf hm=>by
 rw [dJ];unfold bg;by_cases c:pre.length+1<=m
 .have:f pre.length=x:=by
   rw [hf _ (by omega),hB,JP h2];simp [List.getD_eq_getElem?_getD]
  rw [if_pos c,if_pos c,this,if_neg (by omega)]
 .rw [if_neg c,if_neg c]
theorem mT{x:Int}(h:i8 x):RdAt cm (btl x 8) x:=λpre post B f m hB hf hm=>by
 rw [dJ];unfold cm;by_cases c:pre.length+8<=m
 .rw [if_pos c,if_pos c,JO (n:=x) (post:=post) (by rw [hB,pO]) hf ⟨h.1,by have:=h.2;omega⟩ c]
 .rw [if_neg c,if_neg c]
theorem zD{last n x:Int}(h0:0<=x)(h1:x<n)(h2:n<=4096)(h3:last<x):RdAt (fu last n) (btl x 4) x:=λpre post B f m hB hf hm=>by
 have:=iN (most:=n - 1) (e2:=3) h0 (by omega) (by omega) pre post B f m hB hf hm
 unfold fu;rw [show fL f m pre.length (n - 1) 3=_ from this];by_cases c:pre.length+(btl x 4).length<=m
 .rw [if_pos c];simp only;rw [if_neg (by omega)]
 .rw [if_neg c]
def qP{τ:Type}(key:τ->Int)(d:Int)(l:List τ):Int:=match l.getLast? with
 |some z=>key z
 |none=>d
theorem qQ{τ:Type}(key:τ->Int)(d:Int)(t:τ):∀(l:List τ),qP key d (t::l)=qP key (key t) l
 | []=>rfl
 |a::r=>by unfold qP;rw [List.getLast?_cons_cons];cases h:(a::r).getLast? with|none=>simp at h|some z=>rfl
theorem vp{τ:Type}{item:Int->Rd τ}{key:τ->Int}{enc:τ->List Int}{P:Int->τ->Prop}(hi:∀last t,P last t->RdAt (item last) (enc t) t):∀(l:List τ) (last:Int),(∀(pre:List τ) t post,l=pre++t::post->P (qP key last pre) t)->RdAt (du item key l.length last) (l.flatMap enc) l
 | [],last,_=>RdAt.ret _
 |t::l,last,h=>by
  simp only [List.length_cons,du,List.flatMap_cons];refine(hi last t (h [] t l rfl)).bind ?_;refine RdAt.bind0 (vp hi l (key t) λpre u post hu=> ?_) (RdAt.ret _)
  have:=h (t::pre) u post (by rw [hu];rfl)
  rwa [qQ]at this
theorem FF{n last:Int}{t:Int×Int}(h0:0<=t.1)(h1:t.1<n)(h2:n<=4096)(h3:last<t.1)(h8:i8 t.2):RdAt (eH n last) (itB t) t:=
 (zD h0 h1 h2 h3).bind ((mT h8).bind0 (RdAt.ret t))
theorem FG{z:Int}(h:0<=z/\z<18446744073709551616):IntKind.u64.wrap (IntKind.i64.wrap z)=z:=by
 simp [IntKind.wrap,IntKind.signed,IntKind.bits];split<;>omega
theorem Iq{last:Int}{t:Int×Int×Int}(h0:0<=t.1)(h1:t.1<4096)(h3:last<t.1)(h8:i8 t.2.1)(hz:0<=t.2.2/\t.2.2<18446744073709551616):RdAt (lq last) (suB t) t:=by
 refine(zD h0 h1 (by decide) h3).bind ((mT h8).bind ((mT (zy t.2.2)).bind0 ?_));rw [FG hz];exact RdAt.ret t
theorem Ir{last:Int}{t:Int×Int×Int}(h:(0<=t.1/\t.1<4096)/\0<=t.2.1/\t.2.1<4096)(h8:i8 t.2.2):RdAt (lr last) (trB t) t:=
 (iN h.1.1 (by omega) (by decide)).bind ((iN h.2.1 (by omega) (by decide)).bind ((mT h8).bind0 (RdAt.ret t)))
end Ev
end
noncomputable section
namespace Ev
open Go Sm
theorem zE{n:Int}:∀{a:Int} {l:List (Int×Int)},asc a n l=true->l≠[]->a+l.length<=n - 1
 |_,[],_,h=>absurd rfl h
 |a,x::l,h,_=>by
  obtain⟨h1,h2,h3⟩:=asc_cons.1 h
  cases l with
  |nil=>simp;omega
  |cons y r=>
   have:=zE h3 (by simp)
   simp only [List.length_cons]at this ⊢;omega
theorem tv{n:Int}:∀{a:Int} (pre:List (Int×Int)) {t:Int×Int} {post:List (Int×Int)},asc a n (pre++t::post)=true->qP (λe=>e.1) a pre<t.1
 |a,[],t,post,h=>(asc_cons.1 h).1
 |a,x::r,t,post,h=>by
  have h3:=(asc_cons.1 h).2.2
  have:=tv r h3
  rwa [qQ]
theorem Bi{l pre post:List (Int×Int×Int)}{t:Int×Int×Int}(h:qM l=true)(hp:(l.all λe=>pl e.1)=true)(e:l=pre++t::post):qP (λe=>e.1) (-1) pre<t.1:=by
 unfold qP
 cases hq:pre.getLast? with
 |none=>
  have:=List.all_eq_true.1 hp t (by rw [e];simp)
  simp only [pl,decide_eq_true_eq]at this;show -1<t.1;omega
 |some z=>
  have hne:pre≠[]:=λh0=>by rw [h0]at hq;cases hq
  have hpos:1<=pre.length:=List.length_pos_iff.2 hne;have hlen:pre.length<l.length:=by rw [e];simp
  have:=ris_at.1 h pre.length hlen hpos
  have a1:l[pre.length]=t:=by simp [e]
  have a2:l[pre.length - 1]'(by omega)=z:=by
   have hz:pre[pre.length - 1]? =some z:=by rw [<-List.getLast?_eq_getElem?];exact hq
   have:(pre++t::post)[pre.length - 1]? =some z:=by rw [List.getElem?_append_left (by omega)];exact hz
   rw [<-e]at this;exact(List.getElem?_eq_some_iff.1 this).2
  rw [a1,a2]at this;exact this
def frD(x:FrX):Fr:=(x.1,x.2.1,x.2.2.1,x.2.2.2.1,x.2.2.2.2.1,(x.2.2.2.2.2.1.1,x.2.2.2.2.2.1.2.l),x.2.2.2.2.2.2.1.l,x.2.2.2.2.2.2.2.1.l,x.2.2.2.2.2.2.2.2.1,x.2.2.2.2.2.2.2.2.2)
theorem It{x:FrX}(hw:cJ x=0)(h:TyX x):RdAt iI (btl x.2.2.2.2.2.1.1 4++(btl (x.2.2.2.2.2.1.2.l.length:Int) 4++x.2.2.2.2.2.1.2.l.flatMap itB)) (x.2.2.2.2.2.1.1,x.2.2.2.2.2.1.2.l):=by
 have i0:=CR hw;have b3:=(pP hw).2.2.1
 have hasc:asc (-1) x.2.2.2.2.2.1.1 x.2.2.2.2.2.1.2.l=true:=by
  have:oN x.2.2.2.2.2.1.1=true/\asc (-1) x.2.2.2.2.2.1.1 x.2.2.2.2.2.1.2.l=true:=by simpa [gQ]using b3
  exact this.2
 have hlen:(x.2.2.2.2.2.1.2.l.length:Int)<=x.2.2.2.2.2.1.1:=by
  by_cases c:x.2.2.2.2.2.1.2.l= []
  .rw [c];have:=i0.n.1;simpa using this
  .have:=zE hasc c;omega
 refine(iN i0.n.1 i0.n.2 (by decide)).bind ((iN (by omega) hlen (by have:=i0.n.2;omega)).bind (RdAt.bind0 ?_ (RdAt.ret _)));rw [Int.toNat_natCast];refine vp (P:=λlast t=>(0<=t.1/\t.1<x.2.2.2.2.2.1.1)/\last<t.1/\i8 t.2) (λlast t hp=>FF hp.1.1 hp.1.2 i0.n.2 hp.2.1 hp.2.2) _ (-1) λpre t post e=> ?_;have hm:t∈x.2.2.2.2.2.1.2.l:=by rw [e];simp
 have ha:=vl hasc t hm;exact⟨⟨by omega,ha.2⟩,tv pre (by rw [<-e];exact hasc),h.v7 t hm⟩
theorem FH{x:FrX}(hw:cJ x=0)(h:TyX x)(hu:∀e∈x.2.2.2.2.2.2.1.l,0<=e.2.2/\e.2.2<18446744073709551616)(hl:x.2.2.2.2.2.2.1.l.length<=4096):RdAt ep (btl (x.2.2.2.2.2.2.1.l.length:Int) 4++x.2.2.2.2.2.2.1.l.flatMap suB) x.2.2.2.2.2.2.1.l:=by
 have i0:=CR hw;obtain⟨_,_,_,b4,b5,_,_⟩:=pP hw;refine(iN (by omega) (by omega) (by decide)).bind ?_;rw [Int.toNat_natCast];refine vp (P:=λlast t=>(0<=t.1/\t.1<4096)/\last<t.1/\i8 t.2.1/\0<=t.2.2/\t.2.2<18446744073709551616) (λlast t hp=>Iq hp.1.1 hp.1.2 hp.2.1 hp.2.2.1 hp.2.2.2) _ (-1) λpre t post e=> ?_;have hm:t∈x.2.2.2.2.2.2.1.l:=by rw [e];simp
 exact⟨i0.s t hm,Bi b5 b4 e,h.v8 t hm,hu t hm⟩
theorem FJ{x:FrX}(hw:cJ x=0)(h:TyX x):RdAt dU (btl (x.2.2.2.2.2.2.2.1.l.length:Int) 4++x.2.2.2.2.2.2.2.1.l.flatMap trB) x.2.2.2.2.2.2.2.1.l:=by
 have i0:=CR hw;have b6:=(pP hw).2.2.2.2.2.1;refine(iN (by omega) (by omega) (by decide)).bind ?_;rw [Int.toNat_natCast]
 exact vp (P:=λ_ t=>((0<=t.1/\t.1<4096)/\0<=t.2.1/\t.2.1<4096)/\i8 t.2.2) (λlast t hp=>Ir hp.1 hp.2) _ 0 λpre t post e=>by
  have hm:t∈x.2.2.2.2.2.2.2.1.l:=by rw [e];simp
  exact⟨i0.t t hm,h.v9 t hm⟩
theorem CW{x:FrX}(hw:cJ x=0)(h:TyX x)(hu:∀e∈x.2.2.2.2.2.2.1.l,0<=e.2.2/\e.2.2<18446744073709551616)(hl:x.2.2.2.2.2.2.1.l.length<=4096):RdAt gP (Sm.Fe.encF x) (frD x):=by
 have i0:=CR hw;obtain⟨a0,a1,a2,a3,a4,n,i,s,t⟩:=i0;have hb:decide ((if x.2.2.2.2.2.2.2.2.2 then(1:Int)else 0)=1)=x.2.2.2.2.2.2.2.2.2:=by cases x.2.2.2.2.2.2.2.2.2<;>rfl
 have hb2:0<=(if x.2.2.2.2.2.2.2.2.2 then(1:Int)else 0)/\(if x.2.2.2.2.2.2.2.2.2 then(1:Int)else 0)<=1:=by split<;>omega
 have e1:Sm.Fe.encF x=btl x.1 1++(btl x.2.1 1++(btl x.2.2.1 1++(btl x.2.2.2.1 4++(btl x.2.2.2.2.1 4++(btl (if x.2.2.2.2.2.2.2.2.2 then(1:Int)else 0) 1++(btl x.2.2.2.2.2.2.2.2.1 8++((btl x.2.2.2.2.2.1.1 4++(btl (x.2.2.2.2.2.1.2.l.length:Int) 4++x.2.2.2.2.2.1.2.l.flatMap itB))++((btl (x.2.2.2.2.2.2.1.l.length:Int) 4++x.2.2.2.2.2.2.1.l.flatMap suB)++(btl (x.2.2.2.2.2.2.2.1.l.length:Int) 4++x.2.2.2.2.2.2.2.1.l.flatMap trB))))))))):=by
  unfold Sm.Fe.encF uW hdB mdB;simp only [List.append_assoc]
 rw [e1];unfold gP;refine RdAt.bind (mS (e2:=8) a0.1 a0.2 (by omega)) ?_;refine RdAt.bind (mS (e2:=3) (least:=0) (most:=63) a1.1 (by omega) (by omega)) ?_;refine RdAt.bind (mS (e2:=3) (least:=0) (most:=63) a2.1 (by omega) (by omega)) ?_;refine RdAt.bind (iN (e2:=3) a3.1 a3.2 (by decide)) ?_;refine RdAt.bind (iN (e2:=3) a4.1 a4.2 (by decide)) ?_;refine RdAt.bind (mS (e2:=7) hb2.1 hb2.2 (by omega)) ?_;refine RdAt.bind (mT h.v6) ?_;refine RdAt.bind (It hw h) ?_;refine RdAt.bind (FH hw h hu hl) ?_;refine RdAt.bind0 (FJ hw h) ?_;simp only [hb];exact RdAt.ret _
end Ev
end
noncomputable section
namespace Ev
open Go Sm
theorem Bj{z:Sl Int}(h:K.W (.S (.I .u8)) z):∀e∈z.l,0<=e/\e<=255:=λe he=>by
 have:inK .u8 e:=h.2.2.2 e he
 simpa [inK,Lit.wf,IntKind.min,IntKind.max,IntKind.signed,IntKind.bits]using this
theorem wT{a b:List Int}(ha:∀e∈a,0<=e/\e<=255)(hb:∀e∈b,0<=e/\e<=255):∀e∈a++b,0<=e/\e<=255:=λe he=>(List.mem_append.1 he).elim (ha e) (hb e)
theorem Od(x:Int)(k:Nat):∀e∈btl x k,0<=e/\e<=255:=λe he=>by
 unfold btl at he;obtain⟨i,_,rfl⟩:=List.mem_map.1 he;unfold bt;omega
theorem JR{α:Type}{f:α->List Int}(hf:∀x,∀e∈f x,0<=e/\e<=255)(l:List α):∀e∈l.flatMap f,0<=e/\e<=255:=λe he=>by
 obtain⟨x,_,h⟩:=List.mem_flatMap.1 he;exact hf x e h
theorem CX(x:FrX):∀e∈Sm.Fe.encF x,0<=e/\e<=255:=by
 unfold Sm.Fe.encF uW hdB mdB;simp only [List.append_assoc]
 repeat' first
  |exact Od _ _
  |refine wT ?_ ?_
  |refine JR (λx=> ?_) _
  |unfold itB
  |unfold suB
  |unfold trB
theorem Oe{L:List Int}(h:∀e∈L,0<=e/\e<=255)(hl:L.length<=100000):Sm.Fd.okY ⟨true,1,L⟩=true:=by
 simp only [Sm.Fd.okY,Bool.and_eq_true,Bool.or_eq_true,decide_eq_true_eq,List.isEmpty_iff,List.all_eq_true];exact⟨hl,h,.inl trivial⟩
theorem qR{z:Sl Int}(hz:Sm.Fd.okY z=true){er:Int×Int}(h:dm (Sm.Fd.gf z) z.l.length= .error er):aS z=some (Sm.Fd.zero,er):=by
 show Sm.Fd.fn z=_;unfold Sm.Fd.fn;rw [if_pos hz,h]
theorem zF{z:Sl Int}(hz:Sm.Fd.okY z=true){y:Fr}(h:dm (Sm.Fd.gf z) z.l.length= .ok y):aS z=some (Sm.Fd.frS y,(0,0)):=by
 show Sm.Fd.fn z=_;unfold Sm.Fd.fn;rw [if_pos hz,h]
theorem CY{x:FrX}(h:Ip x):(Sm.Fe.encF x).length<=50000/\0<(Sm.Fe.encF x).length:=by
 have q7:=qO Fy x.2.2.2.2.2.1.2.l;have q8:=qO Fz x.2.2.2.2.2.2.1.l;have q9:=qO FA x.2.2.2.2.2.2.2.1.l;have k7:=h.k7;have k8:=h.k8;have k9:=h.k9;unfold Sm.Fe.encF uW hdB mdB;simp only [List.length_append,dJ,q7,q8,q9];omega
theorem Bk{x:FrX}(hw:cJ x=0)(h:Ip x){z:List Int}(hz:∀e∈z,0<=e/\e<=255)(hz1:z.length<=100):aS ⟨true,1,Sm.Fe.encF x++z⟩=some (if z.length=0 then(Sm.Fd.frS (frD x),(0,0))else(Sm.Fd.zero,(4,((Sm.Fe.encF x).length:Int)))):=by
 have hl:=(CY h).1;have hll:(Sm.Fe.encF x++z).length=(Sm.Fe.encF x).length+z.length:=List.length_append;have hy:=Oe (wT (CX x) hz) (by rw [hll];omega);have ha:=CW hw h.t h.u8 (by have:=h.k8;omega) [] z (Sm.Fe.encF x++z) (Sm.Fd.gf ⟨true,1,Sm.Fe.encF x++z⟩) (Sm.Fe.encF x++z).length (by simp) (λi _=>rfl) (Nat.zero_le _);rw [if_pos (by rw [List.length_nil];omega)]at ha;rw [List.length_nil,Nat.zero_add]at ha
 have hd:dm (Sm.Fd.gf ⟨true,1,Sm.Fe.encF x++z⟩) (Sm.Fe.encF x++z).length=if(Sm.Fe.encF x).length=(Sm.Fe.encF x++z).length then .ok (frD x)else .error (4,((Sm.Fe.encF x).length:Int)):=by
  unfold dm;rw [ha]
 by_cases c:z.length=0
 .rw [if_pos c];rw [if_pos (by omega)]at hd;exact zF hy hd
 .rw [if_neg c];rw [if_neg (by omega)]at hd;exact qR hy hd
end Ev
end
noncomputable section
namespace Ev
open Go Sm
def kD(f:Nat->Int)(p k:Nat):List Int:=(List.range k).map λi=>f (p+i)
def Byt(f:Nat->Int)(m:Nat):Prop:=∀i,i<m->0<=f i/\f i<=255
theorem Bl(f:Nat->Int)(p a b:Nat):kD f p (a+b)=kD f p a++kD f (p+a) b:=by
 unfold kD;rw [List.range_add,List.map_append,List.map_map];congr 1;apply List.map_congr_left;intro i _;simp only [Function.comp];rw [Nat.add_assoc]
theorem Bm{f:Nat->Int}{m p:Nat}{most e x:Int}{q:Nat}(hb:Byt f m)(h:fL f m p most e= .ok (x,q)):kD f p 4=bts x 4/\q=p+4/\q<=m/\0<=x/\x<=most:=by
 unfold fL at h;split at h
 .rename_i hm;split at h
  .cases h
  .rename_i hle;cases h;have b0:=hb (p+0) (by omega);have b1:=hb (p+1) (by omega);have b2:=hb (p+2) (by omega);have b3:=hb (p+3) (by omega)
   have e1:le (λi=>f (p+i)) 4=f (p+0)+f (p+1)*256+f (p+2)*65536+f (p+3)*16777216:=by
    simp [le]
   refine⟨?_,rfl,hm,?_,by omega⟩
   .rw [e1];simp only [kD,bts,List.range_succ,List.range_zero,List.nil_append,List.cons_append,List.map_cons,List.map_nil,List.cons.injEq,and_true];refine⟨by omega,by omega,by omega,by omega⟩
   .rw [e1];omega
 .cases h
theorem tw{f:Nat->Int}{m p:Nat}{most e:Int}{er:Int×Int}(he:e≠0)(h:fL f m p most e= .error er):er.1≠0/\0<=er.2/\er.2<=m:=by
 unfold fL at h;split at h
 .split at h
  .cases h;exact⟨he,by show(0:Int)<=(p:Int);omega,by show(p:Int)<=(m:Int);omega⟩
  .cases h
 .cases h;exact⟨show(2:Int)≠0 by decide,by show(0:Int)<=(m:Int);omega,Int.le_refl _⟩
theorem Bn(x c:Int):bts (x - 18446744073709551616*c) 8=bts x 8:=by
 simp only [bts,List.range_succ,List.range_zero,List.nil_append,List.cons_append,List.map_cons,List.map_nil,List.cons.injEq,and_true];refine⟨?_,?_,?_,?_,?_,?_,?_,?_⟩<;>omega
theorem CZ{x0 x1 x2 x3 x4 x5 x6 x7:Int}(b0:0<=x0/\x0<=255)(b1:0<=x1/\x1<=255)(b2:0<=x2/\x2<=255)(b3:0<=x3/\x3<=255)(b4:0<=x4/\x4<=255)(b5:0<=x5/\x5<=255)(b6:0<=x6/\x6<=255)(b7:0<=x7/\x7<=255):
  bts (x0+x1*256+x2*65536+x3*16777216+x4*4294967296+x5*1099511627776+x6*281474976710656+x7*72057594037927936) 8= [x0,x1,x2,x3,x4,x5,x6,x7]:=by
 simp only [bts,List.range_succ,List.range_zero,List.nil_append,List.cons_append,List.map_cons,List.map_nil,List.cons.injEq,and_true];refine⟨?_,?_,?_,?_,?_,?_,?_,?_⟩<;>omega
theorem FK{f:Nat->Int}{m p:Nat}(hb:Byt f m)(hm:p+8<=m):kD f p 8=bts (lw (λj=>f (p+j)) 8) 8/\wL (lw (λj=>f (p+j)) 8):=by
 have b0:=hb (p+0) (by omega);have b1:=hb (p+1) (by omega);have b2:=hb (p+2) (by omega);have b3:=hb (p+3) (by omega);have b4:=hb (p+4) (by omega);have b5:=hb (p+5) (by omega);have b6:=hb (p+6) (by omega);have b7:=hb (p+7) (by omega)
 have e1:le (λi=>f (p+i)) 8=f (p+0)+f (p+1)*256+f (p+2)*65536+f (p+3)*16777216+f (p+4)*4294967296+f (p+5)*1099511627776+f (p+6)*281474976710656+f (p+7)*72057594037927936:=by
  simp [le]
 unfold lw;rw [e1];have h64:∀x:Int,∃c:Int,Go.RowKit.wrap64 x=x - 18446744073709551616*c/\wL (Go.RowKit.wrap64 x):=λx=>⟨(x+9223372036854775808)/ 18446744073709551616,by unfold Go.RowKit.wrap64;omega,by unfold Go.RowKit.wrap64 wL;omega⟩;obtain⟨c,hc,hi⟩:=h64 (f (p+0)+f (p+1)*256+f (p+2)*65536+f (p+3)*16777216+f (p+4)*4294967296+f (p+5)*1099511627776+f (p+6)*281474976710656+f (p+7)*72057594037927936);refine⟨?_,hi⟩;rw [hc,Bn,CZ b0 b1 b2 b3 b4 b5 b6 b7];rfl
def BtAt(f:Nat->Int)(m p q:Nat)(L:List Int):Prop:=q=p+L.length/\q<=m/\kD f p L.length=L
theorem BtAt.app{f:Nat->Int}{m p q t:Nat}{a b:List Int}(h:BtAt f m p q a)(h':BtAt f m q t b):BtAt f m p t (a++b):=by
 obtain⟨rfl,h2,h3⟩:=h;obtain⟨rfl,k2,k3⟩:=h';refine⟨by rw [List.length_append];omega,k2,?_⟩;rw [List.length_append,Bl,h3,k3]
theorem aK{α β:Type}{r:Rd α}{s:α->Rd β}{f:Nat->Int}{m p t:Nat}{y:β}(h:az r s f m p= .ok (y,t)):∃x q,r f m p= .ok (x,q)/\s x f m q= .ok (y,t):=by
 unfold az at h;split at h
 .cases h
 .rename_i x q h1;exact⟨x,q,h1,h⟩
theorem gn{α:Type}{x y:α}{f:Nat->Int}{m p t:Nat}(h:dF x f m p= .ok (y,t)):y=x/\t=p:=by
 unfold dF at h;cases h;exact⟨rfl,rfl⟩
theorem fM{f:Nat->Int}{m p q:Nat}{most e2 x:Int}(hb:Byt f m)(h:cE most e2 f m p= .ok (x,q)):BtAt f m p q (btl x 4)/\0<=x/\x<=most:=by
 obtain⟨h1,h2,h3,h4,h5⟩:=Bm hb h;exact⟨⟨by rw [dJ];exact h2,h3,by rw [dJ,pO];exact h1⟩,h4,h5⟩
theorem jP{f:Nat->Int}{m p q:Nat}{least most e2 x:Int}(hb:Byt f m)(h:bg least most e2 f m p= .ok (x,q)):BtAt f m p q (btl x 1)/\least<=x/\x<=most:=by
 obtain⟨h1,h2,h3,h4⟩:=io h;unfold bg at h;rw [if_pos (by omega)]at h;split at h
 .cases h
 .cases h
  have:=hb p (by omega)
  refine⟨⟨by rw [dJ],h2,?_⟩,h3,h4⟩;rw [dJ,JP (by omega)];rfl
theorem jt{f:Nat->Int}{m p q:Nat}{x:Int}(hb:Byt f m)(h:cm f m p= .ok (x,q)):BtAt f m p q (btl x 8)/\i8 x:=by
 obtain⟨h1,h2⟩:=dT h;unfold cm at h;rw [if_pos (by omega)]at h;cases h;obtain⟨k1,k2⟩:=FK (p:=p) hb (by omega);refine⟨⟨by rw [dJ],h2,by rw [dJ,pO];exact k1⟩,?_⟩;unfold wL at k2;exact⟨by omega,by omega⟩
theorem wU{f:Nat->Int}{m p q:Nat}{last n x:Int}(hb:Byt f m)(h:fu last n f m p= .ok (x,q)):BtAt f m p q (btl x 4)/\0<=x/\last<x/\x<=n - 1:=by
 obtain⟨h1,h2,h3,h4⟩:=jp h;unfold fu at h;split at h
 .cases h
 .rename_i h5;split at h
  .cases h
  .cases h
   have:=fM (e2:=3) hb h5
   exact⟨this.1,this.2.1,h3,h4⟩
theorem Da{f:Nat->Int}{m p q:Nat}{n last:Int}{t:Int×Int}(hb:Byt f m)(h:eH n last f m p= .ok (t,q)):BtAt f m p q (itB t)/\0<=t.1/\last<t.1/\t.1<=n - 1/\i8 t.2:=by
 unfold eH at h;obtain⟨x,q1,h1,h⟩:=aK h;obtain⟨v,q2,h2,h⟩:=aK h;obtain⟨rfl,rfl⟩:=gn h;obtain⟨a1,a2,a3,a4⟩:=wU hb h1;obtain⟨b1,b2⟩:=jt hb h2;exact⟨a1.app b1,a2,a3,a4,b2⟩
theorem Db{z:Int}(h:i8 z):IntKind.i64.wrap (IntKind.u64.wrap z)=z/\0<=IntKind.u64.wrap z/\IntKind.u64.wrap z<18446744073709551616:=by
 have h1:=h.1;have h2:=h.2;simp [IntKind.wrap,IntKind.signed,IntKind.bits];refine⟨?_,by omega,by omega⟩;split<;>omega
theorem FM{f:Nat->Int}{m p q:Nat}{last:Int}{t:Int×Int×Int}(hb:Byt f m)(h:lq last f m p= .ok (t,q)):BtAt f m p q (suB t)/\0<=t.1/\last<t.1/\t.1<=4095/\i8 t.2.1:=by
 unfold lq at h;obtain⟨x,q1,h1,h⟩:=aK h;obtain⟨v,q2,h2,h⟩:=aK h;obtain⟨z,q3,h3,h⟩:=aK h;obtain⟨rfl,rfl⟩:=gn h;obtain⟨a1,a2,a3,a4⟩:=wU hb h1;obtain⟨b1,b2⟩:=jt hb h2;obtain⟨c1,c2⟩:=jt hb h3;refine⟨?_,a2,a3,a4,b2⟩;unfold suB;simp only [(Db c2).1];exact a1.app (b1.app c1)
theorem FN{f:Nat->Int}{m p q:Nat}{last:Int}{t:Int×Int×Int}(hb:Byt f m)(h:lr last f m p= .ok (t,q)):BtAt f m p q (trB t)/\(0<=t.1/\t.1<=4095)/\(0<=t.2.1/\t.2.1<=4095)/\i8 t.2.2:=by
 unfold lr at h;obtain⟨x,q1,h1,h⟩:=aK h;obtain⟨v,q2,h2,h⟩:=aK h;obtain⟨z,q3,h3,h⟩:=aK h;obtain⟨rfl,rfl⟩:=gn h;obtain⟨a1,a2⟩:=fM hb h1;obtain⟨b1,b2⟩:=fM hb h2;obtain⟨c1,c2⟩:=jt hb h3;exact⟨a1.app (b1.app c1),a2,b2,c2⟩
def Dc{τ:Type}(key:τ->Int)(P:Int->τ->Prop):Int->List τ->Prop
 |_,[]=>True
 |a,t::l=>P a t/\Dc key P (key t) l
theorem pQ{τ:Type}{item:Int->Rd τ}{key:τ->Int}{enc:τ->List Int}{P:Int->τ->Prop}{f:Nat->Int}{m:Nat}(hi:∀last p t q,item last f m p= .ok (t,q)->BtAt f m p q (enc t)/\P last t):∀(k:Nat) (last:Int) (p:Nat) {l:List τ} {q:Nat},du item key k last f m p= .ok (l,q)->p<=m->BtAt f m p q (l.flatMap enc)/\l.length=k/\Dc key P last l
 |0,last,p,l,q,h,hp=>by
  obtain⟨rfl,rfl⟩:=gn h;exact⟨⟨rfl,hp,rfl⟩,rfl,trivial⟩
 |k+1,last,p,l,q,h,hp=>by
  simp only [du]at h;obtain⟨t,q1,h1,h⟩:=aK h;obtain⟨r,q2,h2,h⟩:=aK h;obtain⟨rfl,rfl⟩:=gn h;obtain⟨a1,a2⟩:=hi _ _ _ _ h1;obtain⟨b1,b2,b3⟩:=pQ hi k (key t) q1 h2 a1.2.1;exact⟨by rw [List.flatMap_cons];exact a1.app b1,by simp [b2],a2,b3⟩
theorem jQ{τ:Type}{key:τ->Int}{P:Int->τ->Prop}{Q:τ->Prop}(hq:∀a t,P a t->Q t):∀(l:List τ) (a:Int),Dc key P a l->∀t∈l,Q t
 | [],_,_,t,ht=>by simp at ht
 |x::l,a,h,t,ht=>by
  rcases List.mem_cons.1 ht with rfl|ht
  .exact hq _ _ h.1
  .exact jQ hq l _ h.2 t ht
theorem zG{n:Int}{P:Int->Int×Int->Prop}(hq:∀a t,P a t->a<t.1/\t.1<n):∀(l:List (Int×Int)) (a:Int),Dc (λe=>e.1) P a l->asc a n l=true
 | [],_,_=>rfl
 |x::l,a,h=>asc_cons.2 ⟨(hq _ _ h.1).1,(hq _ _ h.1).2,zG hq l _ h.2⟩
theorem zH{P:Int->Int×Int×Int->Prop}(hq:∀a t,P a t->a<t.1):∀(l:List (Int×Int×Int)) (a:Int),Dc (λe=>e.1) P a l->∀(j:Nat) (h:j<l.length),1<=j->(l[j - 1]'(by omega)).1<l[j].1
 | [],_,_,j,h,_=>absurd h (Nat.not_lt_zero _)
 |x::l,a,hr,j,h,h1=>by
  obtain⟨i,rfl⟩:∃i,j=i+1:=⟨j - 1,by omega⟩
  cases i with
  |zero=>
   cases l with
   |nil=>simp at h
   |cons y r=>exact hq _ _ hr.2.1
  |succ i=>
   have:=zH hq l _ hr.2 (i+1) (by simpa using h) (by omega)
   simpa using this
theorem FO{f:Nat->Int}{m p q:Nat}{n:Int}{l:List (Int×Int)}(hb:Byt f m)(h:iI f m p= .ok ((n,l),q)):BtAt f m p q (btl n 4++(btl (l.length:Int) 4++l.flatMap itB))/\(0<=n/\n<=4096)/\(l.length:Int)<=n/\asc (-1) n l=true/\∀e∈l,i8 e.2:=by
 unfold iI at h;obtain⟨n',q1,h1,h⟩:=aK h;obtain⟨k,q2,h2,h⟩:=aK h;obtain⟨l',q3,h3,h⟩:=aK h;obtain⟨he,rfl⟩:=gn h;cases he;obtain⟨a1,a2⟩:=fM hb h1;obtain⟨b1,b2⟩:=fM hb h2;obtain⟨c1,c2,c3⟩:=pQ (item:=eH n) (P:=λa t=>0<=t.1/\a<t.1/\t.1<=n - 1/\i8 t.2) (λlast p t q h=>Da hb h) k.toNat (-1) q2 h3 b1.2.1;have hk:(l.length:Int)=k:=by rw [c2];omega
 refine⟨?_,a2,by omega,zG (λa t h=>⟨h.2.1,by have:=h.2.2.1;omega⟩) l _ c3,jQ (λa t h=>h.2.2.2) l _ c3⟩;rw [hk];exact a1.app (b1.app c1)
theorem De{f:Nat->Int}{m p q:Nat}{l:List (Int×Int×Int)}(hb:Byt f m)(h:ep f m p= .ok (l,q)):BtAt f m p q (btl (l.length:Int) 4++l.flatMap suB)/\l.length<=4096/\qM l=true/\(l.all λe=>pl e.1)=true/\∀e∈l,i8 e.2.1:=by
 unfold ep at h;obtain⟨k,q1,h1,h⟩:=aK h;obtain⟨a1,a2⟩:=fM hb h1;obtain⟨c1,c2,c3⟩:=pQ (item:=lq) (P:=λa t=>0<=t.1/\a<t.1/\t.1<=4095/\i8 t.2.1) (λlast p t q h=>FM hb h) k.toNat (-1) q1 h a1.2.1;have hk:(l.length:Int)=k:=by rw [c2];omega
 refine⟨?_,by omega,ris_at.2 (zH (λa t h=>h.2.1) l _ c3),List.all_eq_true.2 λt ht=> ?_,jQ (λa t h=>h.2.2.2) l _ c3⟩
 .rw [hk];exact a1.app c1
 .have:=jQ (Q:=λt=>0<=t.1/\t.1<=4095) (λa t h=>⟨h.1,h.2.2.1⟩) l _ c3 t ht
  simp only [pl,decide_eq_true_eq];omega
theorem Df{f:Nat->Int}{m p q:Nat}{l:List (Int×Int×Int)}(hb:Byt f m)(h:dU f m p= .ok (l,q)):BtAt f m p q (btl (l.length:Int) 4++l.flatMap trB)/\l.length<=65536/\(l.all λe=>pl e.1 && pl e.2.1)=true/\∀e∈l,i8 e.2.2:=by
 unfold dU at h;obtain⟨k,q1,h1,h⟩:=aK h;obtain⟨a1,a2⟩:=fM hb h1;obtain⟨c1,c2,c3⟩:=pQ (P:=λ_ t=>(0<=t.1/\t.1<=4095)/\(0<=t.2.1/\t.2.1<=4095)/\i8 t.2.2) (λlast p t q h=>FN hb h) k.toNat 0 q1 h a1.2.1;have hk:(l.length:Int)=k:=by rw [c2];omega
 refine⟨?_,by omega,List.all_eq_true.2 λt ht=> ?_,jQ (λa t h=>h.2.2) l _ c3⟩
 .rw [hk];exact a1.app c1
 .have:=jQ (Q:=λt=>(0<=t.1/\t.1<=4095)/\(0<=t.2.1/\t.2.1<=4095)) (λa t h=>⟨h.1,h.2.1⟩) l _ c3 t ht
  simp only [pl,Bool.and_eq_true,decide_eq_true_eq];omega
end Ev
end
noncomputable section
namespace Ev
open Go Sm
def RdE{α:Type}(r:Rd α):Prop:=∀(f:Nat->Int) (m p:Nat) (er:Int×Int),r f m p= .error er->er.1≠0/\0<=er.2/\er.2<=m
theorem RdE.ret{α:Type}(x:α):RdE (dF x):=λf m p er h=>by unfold dF at h;cases h
theorem RdE.bind{α β:Type}{r:Rd α}{s:α->Rd β}(h:RdE r)(h':∀x,RdE (s x)):RdE (az r s):=λf m p er h1=>by
 unfold az at h1;split at h1
 .rename_i e h2;cases h1;exact h f m p er h2
 .exact h' _ f m _ er h1
theorem oO{most e2:Int}(he:e2≠0):RdE (cE most e2):=λf m p er h=>tw he h
theorem GR(m:Nat):(2:Int)≠0/\(0:Int)<=(m:Int)/\(m:Int)<=(m:Int):=⟨by decide,by omega,Int.le_refl _⟩
theorem pR{least most e2:Int}(he:e2≠0):RdE (bg least most e2):=λf m p er h=>by
 unfold bg at h;split at h
 .split at h
  .cases h;exact⟨he,by show(0:Int)<=(p:Int);omega,by show(p:Int)<=(m:Int);omega⟩
  .cases h
 .cases h;exact GR m
theorem long_e:RdE cm:=λf m p er h=>by
 unfold cm at h;split at h
 .cases h
 .cases h;exact GR m
theorem Dg(last n:Int):RdE (fu last n):=λf m p er h=>by
 unfold fu at h;split at h
 .rename_i h1;cases h;exact tw (by decide) h1
 .rename_i h1;split at h
  .cases h
   have:=cO h1
   exact⟨show(6:Int)≠0 by decide,by show(0:Int)<=(p:Int);omega,by show(p:Int)<=(m:Int);omega⟩
  .cases h
theorem zI{τ:Type}{item:Int->Rd τ}{key:τ->Int}(h:∀a,RdE (item a)):∀(k:Nat) (a:Int),RdE (du item key k a)
 |0,a=>RdE.ret _
 |k+1,a=>(h a).bind λt=>(zI h k _).bind λl=>RdE.ret _
theorem vec_e:RdE iI:=(oO (by decide)).bind λn=>(oO (by decide)).bind λk=>(zI (λa=>(Dg a n).bind λx=>long_e.bind λv=>RdE.ret _) _ _).bind λl=>RdE.ret _
theorem sums_e:RdE ep:=(oO (by decide)).bind λk=>zI (λa=>(Dg a 4096).bind λx=>long_e.bind λv=>long_e.bind λz=>RdE.ret _) _ _
theorem tris_e:RdE dU:=(oO (by decide)).bind λk=>zI (λa=>(oO (by decide)).bind λx=>(oO (by decide)).bind λv=>long_e.bind λz=>RdE.ret _) _ _
theorem FP:RdE gP:=(pR (by decide)).bind λx0=>(pR (by decide)).bind λx1=>(pR (by decide)).bind λx2=>(oO (by decide)).bind λx3=>(oO (by decide)).bind λx4=>(pR (by decide)).bind λx5=>long_e.bind λx6=>vec_e.bind λx7=>sums_e.bind λx8=>tris_e.bind λx9=>RdE.ret _
theorem Bo{f:Nat->Int}{m p q:Nat}{y:Fr}(hb:Byt f m)(h:gP f m p= .ok (y,q)):BtAt f m p q (Sm.Fe.encF (Sm.Fd.frS y))/\TyX (Sm.Fd.frS y)/\cJ (Sm.Fd.frS y)=0:=by
 unfold gP at h;obtain⟨x0,q0,h0,h⟩:=aK h;obtain⟨x1,q1,h1,h⟩:=aK h;obtain⟨x2,q2,h2,h⟩:=aK h;obtain⟨x3,q3,h3,h⟩:=aK h;obtain⟨x4,q4,h4,h⟩:=aK h;obtain⟨x5,q5,h5,h⟩:=aK h;obtain⟨x6,q6,h6,h⟩:=aK h;obtain⟨⟨n,l7⟩,q7,h7,h⟩:=aK h;obtain⟨l8,q8,h8,h⟩:=aK h;obtain⟨l9,q9,h9,h⟩:=aK h;obtain⟨rfl,rfl⟩:=gn h;obtain⟨a0,b0⟩:=jP hb h0;obtain⟨a1,b1⟩:=jP hb h1;obtain⟨a2,b2⟩:=jP hb h2;obtain⟨a3,b3⟩:=fM hb h3;obtain⟨a4,b4⟩:=fM hb h4;obtain⟨a5,b5⟩:=jP hb h5;obtain⟨a6,b6⟩:=jt hb h6;obtain⟨a7,c1,c2,c3,c4⟩:=FO hb h7;obtain⟨a8,d1,d2,d3,d4⟩:=De hb h8;obtain⟨a9,e1,e2,e3⟩:=Df hb h9;refine⟨?_,⟨⟨.inr rfl,.inr rfl,.inr rfl,?_,?_,?_⟩,b6,c4,d4,e3,?_,?_,?_⟩,?_⟩
 .have hx:(if(decide (x5=1))=true then(1:Int)else 0)=x5:=by
   by_cases c:x5=1
   .rw [if_pos (decide_eq_true c),c]
   .rw [if_neg (by simpa using c)];omega
  have:=a0.app (a1.app (a2.app (a3.app (a4.app (a5.app (a6.app (a7.app (a8.app a9))))))))
  unfold Sm.Fe.encF uW hdB mdB Sm.Fd.frS Sm.Fd.liS;simp only [List.append_assoc]at this ⊢;rw [hx];exact this
 .show l7.length<=_;omega
 .show l8.length<=_;omega
 .show l9.length<=_;omega
 .show l7.length<=_;omega
 .show l8.length<=_;omega
 .show l9.length<=_;omega
 .show cJ (x0,x1,x2,x3,x4,(n,Sm.Fd.liS 2 l7),Sm.Fd.liS 3 l8,Sm.Fd.liS 3 l9,x6,decide (x5=1))=0;unfold cJ Sm.Fd.liS;dsimp only;rw [if_neg (by omega:¬(x0<1∨7<x0)),if_pos (show vn x1 x2 x3 x4=true by simp only [vn,decide_eq_true_eq];omega),if_pos (show gQ (n,(⟨!l7.isEmpty,2,l7⟩:Sl (Int×Int)))=true by simp only [gQ,oN,Bool.and_eq_true];exact⟨by simp;omega,c3⟩),if_pos d3,if_pos d2,if_neg (by omega:¬l9.length>65536),if_pos e2]
theorem Dh(z:Sl Int):kD (Sm.Fd.gf z) 0 z.l.length=z.l:=by
 unfold kD Sm.Fd.gf;apply List.ext_getElem?;intro i;simp only [List.getElem?_map];by_cases h:i<z.l.length
 .rw [List.getElem?_range h];simp only [Option.map_some,Nat.zero_add];rw [List.getD_eq_getElem?_getD,List.getElem?_eq_getElem h];rfl
 .rw [List.getElem?_eq_none (by simpa using h),List.getElem?_eq_none (by omega)];rfl
theorem FQ{y:Sl Int}(h:K.W (.S (.I .u8)) y)(hl:y.l.length<=4000):(∃er,aS y=some (Sm.Fd.zero,er)/\er.1≠0/\0<=er.2/\er.2<=y.l.length)∨∃x,aS y=some (x,(0,0))/\TyX x/\cJ x=0/\Sm.Fe.encF x=y.l:=by
 have g:=Bj h
 have hy:Sm.Fd.okY y=true:=by
  simp only [Sm.Fd.okY,Bool.and_eq_true,Bool.or_eq_true,decide_eq_true_eq,List.isEmpty_iff,List.all_eq_true];exact⟨by omega,g,.inl h.1⟩
 have hb:Byt (Sm.Fd.gf y) y.l.length:=λi hi=>by
  unfold Sm.Fd.gf;rw [List.getD_eq_getElem?_getD,List.getElem?_eq_getElem hi];exact g _ (List.getElem_mem _)
 cases hA:gP (Sm.Fd.gf y) y.l.length 0 with
 |error er=>
  have:=FP _ _ _ _ hA
  exact .inl ⟨er,qR hy (by unfold dm;rw [hA]),this⟩
 |ok r=>
  obtain⟨x,q⟩:=r;obtain⟨⟨i1,i2,i3⟩,j,k⟩:=Bo hb hA;by_cases c:q=y.l.length
  .refine .inr ⟨_,zF hy (by unfold dm;rw [hA];exact if_pos c),j,k,?_⟩;rw [<-Dh y,<-c,i1,Nat.zero_add,i3]
  .exact .inl ⟨(4,(q:Int)),qR hy (by unfold dm;rw [hA];exact if_neg c),show(4:Int)≠0 by decide,by show(0:Int)<=(q:Int);omega,by show(q:Int)<=(y.l.length:Int);omega⟩
end Ev
end
end Go.Proofs.Ytkmbihigeeclbaa
