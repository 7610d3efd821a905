/- Texts of a claim, joined. -/
import Derived.Test.YtkmbihigeeclbaaZFC13
set_option linter.unusedVariables false
set_option linter.unusedSimpArgs false
namespace Go.Proofs.Ytkmbihigeeclbaa
noncomputable section
namespace Ev
open Go Go.RowKit
set_option maxRecDepth 100000
set_option maxHeartbeats 1000000
theorem tD(x:Int):fx x=if x >= 0 then some (decide (x<=4096))else some false:=by kernel_rfl
def eS(x:Int×Sl (Int×Int)):Int->Option (Int ⊕ PUnit ⊕ Bool ⊕ Empty):=λ(x_1:Int)=>if x_1<(↑x.snd.l.length:Int)then(atS 2 x.snd x_1).bind λ(y:Int×Int)=>if y.fst<0 then some (Sum.inr (Sum.inr (Sum.inl false)))else(atS 2 x.snd x_1).bind λ(y:Int×Int)=>if y.fst >= x.fst then some (Sum.inr (Sum.inr (Sum.inl false)))else if x_1>0 then(atS 2 x.snd x_1).bind λ(y:Int×Int)=>(atS 2 x.snd (IntKind.i64.wrap (x_1 - 1))).bind λ(y_1:Int×Int)=>if y.fst<=y_1.fst then some (Sum.inr (Sum.inr (Sum.inl false)))else some (Sum.inl (IntKind.i64.wrap (x_1+1)))else some (Sum.inl (IntKind.i64.wrap (x_1+1)))else some (Sum.inr (Sum.inl ()))
theorem rl(x:Int×Sl (Int×Int)):eA x=if x.fst<0 then some false
else if x.fst>4096 then some false else(aX (eS x) 0).bind λ(y:PUnit ⊕ Bool ⊕ Empty)=>Sum.elim (λ(val:PUnit)=>some true) (λ(val:Bool ⊕ Empty)=>Sum.elim (λ(val:Bool)=>some val) (λ(val:Empty)=>nE val) val) y:=by kernel_rfl
def eT(x:Int×Int×Int×Int×Int×(Int×Sl (Int×Int))×Sl (Int×Int×Int)×Sl (Int×Int×Int)×Int×Bool):Int->Option (Int ⊕ PUnit ⊕ Int ⊕ Empty):=λ(x_1:Int)=>if x_1<(↑x.snd.snd.snd.snd.snd.snd.fst.l.length:Int)then(atS 3 x.snd.snd.snd.snd.snd.snd.fst x_1).bind λ(y:Int×Int×Int)=>if y.fst<0 then some (Sum.inr (Sum.inr (Sum.inl 3)))else(atS 3 x.snd.snd.snd.snd.snd.snd.fst x_1).bind λ(y:Int×Int×Int)=>if y.fst >= 4096 then some (Sum.inr (Sum.inr (Sum.inl 3)))else some (Sum.inl (IntKind.i64.wrap (x_1+1)))else some (Sum.inr (Sum.inl ()))
def eU(x:Int×Int×Int×Int×Int×(Int×Sl (Int×Int))×Sl (Int×Int×Int)×Sl (Int×Int×Int)×Int×Bool):Int->Option (Int ⊕ PUnit ⊕ Int ⊕ Empty):=λ(x_1:Int)=>if x_1<(↑x.snd.snd.snd.snd.snd.snd.fst.l.length:Int)then(atS 3 x.snd.snd.snd.snd.snd.snd.fst x_1).bind λ(y:Int×Int×Int)=>(atS 3 x.snd.snd.snd.snd.snd.snd.fst (IntKind.i64.wrap (x_1 - 1))).bind λ(y_1:Int×Int×Int)=>if y.fst<=y_1.fst then some (Sum.inr (Sum.inr (Sum.inl 6)))else some (Sum.inl (IntKind.i64.wrap (x_1+1)))else some (Sum.inr (Sum.inl ()))
def eV(x:Int×Int×Int×Int×Int×(Int×Sl (Int×Int))×Sl (Int×Int×Int)×Sl (Int×Int×Int)×Int×Bool):Int->Option (Int ⊕ PUnit ⊕ Int ⊕ Empty):=λ(x_1:Int)=>if x_1<(↑x.snd.snd.snd.snd.snd.snd.snd.fst.l.length:Int)then(atS 3 x.snd.snd.snd.snd.snd.snd.snd.fst x_1).bind λ(y:Int×Int×Int)=>if y.fst<0 then some (Sum.inr (Sum.inr (Sum.inl 3)))else if y.fst >= 4096 then some (Sum.inr (Sum.inr (Sum.inl 3)))else if y.snd.fst<0 then some (Sum.inr (Sum.inr (Sum.inl 3)))else if y.snd.fst >= 4096 then some (Sum.inr (Sum.inr (Sum.inl 3)))else some (Sum.inl (IntKind.i64.wrap (x_1+1)))else some (Sum.inr (Sum.inl ()))
theorem rm(x:Int×Int×Int×Int×Int×(Int×Sl (Int×Int))×Sl (Int×Int×Int)×Sl (Int×Int×Int)×Int×Bool):eB x=if x.fst<1 then some 8
else if x.fst>7 then some 8 else if x.snd.fst<0 then some 3 else if x.snd.fst >= 64 then some 3 else if x.snd.snd.fst<0 then some 3 else if x.snd.snd.fst >= 64 then some 3 else if x.snd.snd.snd.fst<0 then some 3 else if x.snd.snd.snd.fst>2147483647 then some 3 else if x.snd.snd.snd.snd.fst<0 then some 3 else if x.snd.snd.snd.snd.fst>8192 then some 3 else(eA x.snd.snd.snd.snd.snd.fst).bind λ(out:Bool)=>if¬out=true then some 7 else(aX (eT x) 0).bind λ(y:PUnit ⊕ Int ⊕ Empty)=>Sum.elim (λ(val:PUnit)=>(aX (eU x) 1).bind λ(y:PUnit ⊕ Int ⊕ Empty)=>Sum.elim (λ(val:PUnit)=>if(↑x.snd.snd.snd.snd.snd.snd.snd.fst.l.length:Int)>65536 then some 5 else(aX (eV x) 0).bind λ(y:PUnit ⊕ Int ⊕ Empty)=>Sum.elim (λ(val:PUnit)=>some 0) (λ(val:Int ⊕ Empty)=>Sum.elim (λ(val:Int)=>some val) (λ(val:Empty)=>nE val) val) y) (λ(val:Int ⊕ Empty)=>Sum.elim (λ(val:Int)=>some val) (λ(val:Empty)=>nE val) val) y) (λ(val:Int ⊕ Empty)=>Sum.elim (λ(val:Int)=>some val) (λ(val:Empty)=>nE val) val) y:=by kernel_rfl
theorem qd(x:Int):cm x=if x >= 0 then some (decide (x<64))else some false:=by kernel_rfl
def eW(x:Int×Sl (Int×Int)):Int×Int->Option (Int×Int ⊕ PUnit ⊕ Bool ⊕ Empty):=λ(x_1:Int×Int)=>if x_1.snd<(↑x.snd.l.length:Int)then(atS 2 x.snd x_1.snd).bind λ(y:Int×Int)=>if y.fst<=x_1.fst then some (Sum.inr (Sum.inr (Sum.inl false)))else if y.fst >= x.fst then some (Sum.inr (Sum.inr (Sum.inl false)))else some (Sum.inl (y.fst,IntKind.i64.wrap (x_1.snd+1)))else some (Sum.inr (Sum.inl ()))
theorem ro(x:Int×Sl (Int×Int)):eC x=(fx x.fst).bind λ(out:Bool)=>if¬out=true then some false else(aX (eW x) (-1,0)).bind λ(y:PUnit ⊕ Bool ⊕ Empty)=>Sum.elim (λ(val:PUnit)=>some true) (λ(val:Bool ⊕ Empty)=>Sum.elim (λ(val:Bool)=>some val) (λ(val:Empty)=>nE val) val) y:=by kernel_rfl
theorem rp(x:Int):co x=if x >= 0 then some (decide (x<4096))else some false:=by kernel_rfl
def gz(x:Sl (Int×Int×Int)):Int->Option (Int ⊕ PUnit ⊕ Bool ⊕ Empty):=λ(x_1:Int)=>if x_1<(↑x.l.length:Int)then(atS 3 x x_1).bind λ(y:Int×Int×Int)=>(atS 3 x (IntKind.i64.wrap (x_1 - 1))).bind λ(y_1:Int×Int×Int)=>if y.fst<=y_1.fst then some (Sum.inr (Sum.inr (Sum.inl false)))else some (Sum.inl (IntKind.i64.wrap (x_1+1)))else some (Sum.inr (Sum.inl ()))
theorem rq(x:Sl (Int×Int×Int)):dA x=(aX (gz x) 1).bind λ(y:PUnit ⊕ Bool ⊕ Empty)=>Sum.elim (λ(val:PUnit)=>some true) (λ(val:Bool ⊕ Empty)=>Sum.elim (λ(val:Bool)=>some val) (λ(val:Empty)=>nE val) val) y:=by kernel_rfl
def eX(x:Int×Int×Int×Int×Int×(Int×Sl (Int×Int))×Sl (Int×Int×Int)×Sl (Int×Int×Int)×Int×Bool):Int->Option (Int ⊕ PUnit ⊕ Int ⊕ Empty):=λ(x_1:Int)=>if x_1<(↑x.snd.snd.snd.snd.snd.snd.fst.l.length:Int)then(atS 3 x.snd.snd.snd.snd.snd.snd.fst x_1).bind λ(y:Int×Int×Int)=>(co y.fst).bind λ(out:Bool)=>if¬out=true then some (Sum.inr (Sum.inr (Sum.inl x_1)))else some (Sum.inl (IntKind.i64.wrap (x_1+1)))else some (Sum.inr (Sum.inl ()))
def eY(x:Int×Int×Int×Int×Int×(Int×Sl (Int×Int))×Sl (Int×Int×Int)×Sl (Int×Int×Int)×Int×Bool):Int->Option (Int ⊕ PUnit ⊕ Int ⊕ Empty):=λ(x_1:Int)=>if x_1<(↑x.snd.snd.snd.snd.snd.snd.snd.fst.l.length:Int)then(atS 3 x.snd.snd.snd.snd.snd.snd.snd.fst x_1).bind λ(y:Int×Int×Int)=>(co y.fst).bind λ(out:Bool)=>if¬out=true then some (Sum.inr (Sum.inr (Sum.inl x_1)))else(co y.snd.fst).bind λ(out:Bool)=>if¬out=true then some (Sum.inr (Sum.inr (Sum.inl x_1)))else some (Sum.inl (IntKind.i64.wrap (x_1+1)))else some (Sum.inr (Sum.inl ()))
def rt(x:Int×Int×Int×Int×Int×(Int×Sl (Int×Int))×Sl (Int×Int×Int)×Sl (Int×Int×Int)×Int×Bool):Int->Option (Int ⊕ PUnit ⊕ Int ⊕ Empty):=λ(x_1:Int)=>if x_1<(↑x.snd.snd.snd.snd.snd.snd.snd.fst.l.length:Int)then(atS 3 x.snd.snd.snd.snd.snd.snd.snd.fst x_1).bind λ(y:Int×Int×Int)=>(co y.fst).bind λ(out:Bool)=>if¬out=true then some (Sum.inr (Sum.inr (Sum.inl x_1)))else(co y.snd.fst).bind λ(out:Bool)=>if¬out=true then some (Sum.inr (Sum.inr (Sum.inl x_1)))else some (Sum.inl (IntKind.i64.wrap (x_1+1)))else some (Sum.inr (Sum.inl ()))
theorem ru(x:Int×Int×Int×Int×Int×(Int×Sl (Int×Int))×Sl (Int×Int×Int)×Sl (Int×Int×Int)×Int×Bool):bu x=if x.fst<1 then some 8
else if x.fst>7 then some 8 else((cm x.snd.fst).bind λ(out:Bool)=>if¬out=true then some (Sum.inl true)else(cm x.snd.snd.fst).bind λ(out:Bool)=>if¬out=true then some (Sum.inl true)else if x.snd.snd.snd.fst<0 then some (Sum.inl true)else if x.snd.snd.snd.fst>2147483647 then some (Sum.inl true)else if x.snd.snd.snd.snd.fst<0 then some (Sum.inl true)else some (Sum.inl (decide (x.snd.snd.snd.snd.fst>8192)))).bind λ(y:Bool ⊕ Empty)=>Sum.elim (λ(val:Bool)=>if val=true then some 3 else(eC x.snd.snd.snd.snd.snd.fst).bind λ(out:Bool)=>if¬out=true then some 7 else(aX (eX x) 0).bind λ(y:PUnit ⊕ Int ⊕ Empty)=>Sum.elim (λ(val:PUnit)=>(dA x.snd.snd.snd.snd.snd.snd.fst).bind λ(out:Bool)=>if¬out=true then some 6 else if(↑x.snd.snd.snd.snd.snd.snd.snd.fst.l.length:Int)>65536 then some 5 else(aX (eY x) 0).bind λ(y:PUnit ⊕ Int ⊕ Empty)=>Sum.elim (λ(val:PUnit)=>some 0) (λ(val:Int ⊕ Empty)=>Sum.elim (λ(val:Int)=>if val >= 0 then some 3 else some 0) (λ(val:Empty)=>nE val) val) y) (λ(val:Int ⊕ Empty)=>Sum.elim (λ(val:Int)=>if val >= 0 then some 3 else(dA x.snd.snd.snd.snd.snd.snd.fst).bind λ(out:Bool)=>if¬out=true then some 6 else if(↑x.snd.snd.snd.snd.snd.snd.snd.fst.l.length:Int)>65536 then some 5 else(aX (rt x) 0).bind λ(y:PUnit ⊕ Int ⊕ Empty)=>Sum.elim (λ(val:PUnit)=>some 0) (λ(val:Int ⊕ Empty)=>Sum.elim (λ(val:Int)=>if val >= 0 then some 3 else some 0) (λ(val:Empty)=>nE val) val) y) (λ(val:Empty)=>nE val) val) y) (λ(val:Empty)=>nE val) y:=by kernel_rfl
end Ev
end
noncomputable section
namespace Ev
open Go Go.RowKit
set_option maxRecDepth 100000
set_option maxHeartbeats 1000000
abbrev yC:=Int×Int×Sl Int×Sl Int×Sl Int×Sl Int
abbrev yM:=Int×Int×Sl Int×Sl Int×Sl Int
abbrev yT:=Int×Int×Int
theorem wh(x:Int×Sl (Int×Int)):gg x=if(↑x.snd.l.length:Int)>60 then(lU 2 x.snd 0 60).bind λ(s':Sl (Int×Int))=>some (x.fst,s')
else some x:=by kernel_rfl
theorem wi(x:Int×Int×Int×Int×Int×(Int×Sl (Int×Int))×Sl yT×Sl yT×Int×Bool):gh x=(gg x.snd.snd.snd.snd.snd.fst).bind λ(out:Int×Sl (Int×Int))=>(if(↑x.snd.snd.snd.snd.snd.snd.fst.l.length:Int)>40 then(lU 3 x.snd.snd.snd.snd.snd.snd.fst 0 40).bind λ(s':Sl yT)=>some (Sum.inl (x.fst,x.snd.fst,x.snd.snd.fst,x.snd.snd.snd.fst,x.snd.snd.snd.snd.fst,out.fst,out.snd,s',x.snd.snd.snd.snd.snd.snd.snd))else some (Sum.inl (x.fst,x.snd.fst,x.snd.snd.fst,x.snd.snd.snd.fst,x.snd.snd.snd.snd.fst,out.fst,out.snd,x.snd.snd.snd.snd.snd.snd))).bind λ(y:Int×Int×Int×Int×Int×Int×Sl (Int×Int)×Sl yT×Sl yT×Int×Bool ⊕ Empty)=>Sum.elim (λ(val:Int×Int×Int×Int×Int×Int×Sl (Int×Int)×Sl yT×Sl yT×Int×Bool)=>if(↑val.snd.snd.snd.snd.snd.snd.snd.snd.fst.l.length:Int)>40 then(lU 3 val.snd.snd.snd.snd.snd.snd.snd.snd.fst 0 40).bind λ(s':Sl yT)=>some (val.fst,val.snd.fst,val.snd.snd.fst,val.snd.snd.snd.fst,val.snd.snd.snd.snd.fst,(val.snd.snd.snd.snd.snd.fst,val.snd.snd.snd.snd.snd.snd.fst),val.snd.snd.snd.snd.snd.snd.snd.fst,s',val.snd.snd.snd.snd.snd.snd.snd.snd.snd)else some (val.fst,val.snd.fst,val.snd.snd.fst,val.snd.snd.snd.fst,val.snd.snd.snd.snd.fst,(val.snd.snd.snd.snd.snd.fst,val.snd.snd.snd.snd.snd.snd.fst),val.snd.snd.snd.snd.snd.snd.snd)) (λ(val:Empty)=>nE val) y:=by kernel_rfl
def ga(y:Int):Int×List Int×Int->Option (Int×List Int×Int ⊕ List Int ⊕ Empty):=λ(x:Int×List Int×Int)=>if x.snd.snd<y then(yp x.fst 256).bind λ(z:Int)=>(app x.snd.fst [IntKind.u8.wrap z]).bind λ(lm:List Int)=>(EK IntKind.u64 x.fst 256).bind λ(z:Int)=>some (Sum.inl (z,lm,IntKind.i64.wrap (x.snd.snd+1)))else some (Sum.inr (Sum.inl x.snd.fst))
theorem wj(x:Int)(y:Int):fv x y=(aX (ga y) (x,[],0)).bind λ(y:List Int ⊕ Empty)=>Sum.elim (λ(val:List Int)=>some val) (λ(val:Empty)=>nE val) y:=by kernel_rfl
theorem rx(x:Int):ez x=(fv (IntKind.u64.wrap x) 4).bind λ(out:List Int)=>some out:=by kernel_rfl
theorem tE(x:Int):br x=(ez (IntKind.u32.wrap x)).bind λ(out:List Int)=>some out:=by kernel_rfl
theorem ry(x:Int):bU x=(fv (IntKind.u64.wrap x) 8).bind λ(out:List Int)=>some out:=by kernel_rfl
def eb(x:Int×Int×Int×Int×Int×(Int×Sl (Int×Int))×Sl yT×Sl yT×Int×Bool):List Int×Int->Option (List Int×Int ⊕ List Int ⊕ Empty):=λ(x_1:List Int×Int)=>if x_1.snd<(↑x.snd.snd.snd.snd.snd.fst.snd.l.length:Int)then(atS 2 x.snd.snd.snd.snd.snd.fst.snd x_1.snd).bind λ(y:Int×Int)=>(br y.fst).bind λ(out:List Int)=>(app x_1.fst out).bind λ(lm:List Int)=>(atS 2 x.snd.snd.snd.snd.snd.fst.snd x_1.snd).bind λ(y:Int×Int)=>(bU y.snd).bind λ(out:List Int)=>(app lm out).bind λ(lm:List Int)=>some (Sum.inl (lm,IntKind.i64.wrap (x_1.snd+1)))else some (Sum.inr (Sum.inl x_1.fst))
def ec(x:Int×Int×Int×Int×Int×(Int×Sl (Int×Int))×Sl yT×Sl yT×Int×Bool):List Int×Int->Option (List Int×Int ⊕ List Int ⊕ Empty):=λ(x_1:List Int×Int)=>if x_1.snd<(↑x.snd.snd.snd.snd.snd.snd.fst.l.length:Int)then(atS 3 x.snd.snd.snd.snd.snd.snd.fst x_1.snd).bind λ(y:Int×Int×Int)=>(br y.fst).bind λ(out:List Int)=>(app x_1.fst out).bind λ(lm:List Int)=>(atS 3 x.snd.snd.snd.snd.snd.snd.fst x_1.snd).bind λ(y:Int×Int×Int)=>(bU y.snd.fst).bind λ(out:List Int)=>(app lm out).bind λ(lm:List Int)=>(atS 3 x.snd.snd.snd.snd.snd.snd.fst x_1.snd).bind λ(y:Int×Int×Int)=>(bU (IntKind.i64.wrap y.snd.snd)).bind λ(out:List Int)=>(app lm out).bind λ(lm:List Int)=>some (Sum.inl (lm,IntKind.i64.wrap (x_1.snd+1)))else some (Sum.inr (Sum.inl x_1.fst))
def ee(x:Int×Int×Int×Int×Int×(Int×Sl (Int×Int))×Sl yT×Sl yT×Int×Bool):List Int×Int->Option (List Int×Int ⊕ List Int ⊕ Empty):=λ(x_1:List Int×Int)=>if x_1.snd<(↑x.snd.snd.snd.snd.snd.snd.snd.fst.l.length:Int)then(atS 3 x.snd.snd.snd.snd.snd.snd.snd.fst x_1.snd).bind λ(y:Int×Int×Int)=>(br y.fst).bind λ(out:List Int)=>(app x_1.fst out).bind λ(lm:List Int)=>(atS 3 x.snd.snd.snd.snd.snd.snd.snd.fst x_1.snd).bind λ(y:Int×Int×Int)=>(br y.snd.fst).bind λ(out:List Int)=>(app lm out).bind λ(lm:List Int)=>(atS 3 x.snd.snd.snd.snd.snd.snd.snd.fst x_1.snd).bind λ(y:Int×Int×Int)=>(bU y.snd.snd).bind λ(out:List Int)=>(app lm out).bind λ(lm:List Int)=>some (Sum.inl (lm,IntKind.i64.wrap (x_1.snd+1)))else some (Sum.inr (Sum.inl x_1.fst))
theorem qe(x:Int×Int×Int×Int×Int×(Int×Sl (Int×Int))×Sl yT×Sl yT×Int×Bool):dI x=(eB x).bind λ(out:Int)=>if out≠0 then some ({nn:=false,sz:=0,l:= []},out)else(if x.snd.snd.snd.snd.snd.snd.snd.snd.snd=true then some (Sum.inl 1)else some (Sum.inl 0)).bind λ(y:Int ⊕ Empty)=>Sum.elim (λ(val:Int)=>(br x.snd.snd.snd.fst).bind λ(out:List Int)=>(app [IntKind.u8.wrap x.fst,IntKind.u8.wrap x.snd.fst,IntKind.u8.wrap x.snd.snd.fst] out).bind λ(lm:List Int)=>(br x.snd.snd.snd.snd.fst).bind λ(out:List Int)=>(app lm out).bind λ(lm:List Int)=>(app lm [val]).bind λ(lm:List Int)=>(bU x.snd.snd.snd.snd.snd.snd.snd.snd.fst).bind λ(out:List Int)=>(app lm out).bind λ(lm:List Int)=>(br x.snd.snd.snd.snd.snd.fst.fst).bind λ(out:List Int)=>(app lm out).bind λ(lm:List Int)=>(br (↑x.snd.snd.snd.snd.snd.fst.snd.l.length:Int)).bind λ(out:List Int)=>(app lm out).bind λ(lm:List Int)=>(aX (eb x) (lm,0)).bind λ(y:List Int ⊕ Empty)=>Sum.elim (λ(val:List Int)=>(br (↑x.snd.snd.snd.snd.snd.snd.fst.l.length:Int)).bind λ(out:List Int)=>(app val out).bind λ(lm:List Int)=>(aX (ec x) (lm,0)).bind λ(y:List Int ⊕ Empty)=>Sum.elim (λ(val:List Int)=>(br (↑x.snd.snd.snd.snd.snd.snd.snd.fst.l.length:Int)).bind λ(out:List Int)=>(app val out).bind λ(lm:List Int)=>(aX (ee x) (lm,0)).bind λ(y:List Int ⊕ Empty)=>Sum.elim (λ(val:List Int)=>some ({nn:=true,sz:=1,l:=val},0)) (λ(val:Empty)=>nE val) y) (λ(val:Empty)=>nE val) y) (λ(val:Empty)=>nE val) y) (λ(val:Empty)=>nE val) y:=by kernel_rfl
def gB(x:Sl (Int×Int))(y:Sl (Int×Int)):Int->Option (Int ⊕ PUnit ⊕ Bool ⊕ Empty):=λ(x_1:Int)=>if x_1<(↑x.l.length:Int)then(atS 2 x x_1).bind λ(y_1:Int×Int)=>(atS 2 y x_1).bind λ(y:Int×Int)=>if¬(y_1.fst=y.fst/\y_1.snd=y.snd)then some (Sum.inr (Sum.inr (Sum.inl false)))else some (Sum.inl (IntKind.i64.wrap (x_1+1)))else some (Sum.inr (Sum.inl ()))
theorem lL(x:Sl (Int×Int))(y:Sl (Int×Int)):cD x y=if(↑x.l.length:Int)≠(↑y.l.length:Int)then some false
else(aX (gB x y) 0).bind λ(y:PUnit ⊕ Bool ⊕ Empty)=>Sum.elim (λ(val:PUnit)=>some true) (λ(val:Bool ⊕ Empty)=>Sum.elim (λ(val:Bool)=>some val) (λ(val:Empty)=>nE val) val) y:=by kernel_rfl
theorem tF(x:Int×Sl (Int×Int))(y:Int×Sl (Int×Int)):gy x y=if x.fst=y.fst then(cD x.snd y.snd).bind λ(out:Bool)=>some (decide (out=true))
else some false:=by kernel_rfl
def gT(x:Sl yT)(y:Sl yT):Int->Option (Int ⊕ PUnit ⊕ Bool ⊕ Empty):=λ(x_1:Int)=>if x_1<(↑x.l.length:Int)then(atS 3 x x_1).bind λ(y_1:Int×Int×Int)=>(atS 3 y x_1).bind λ(y:Int×Int×Int)=>if¬(y_1.fst=y.fst/\y_1.snd.fst=y.snd.fst/\y_1.snd.snd=y.snd.snd)then some (Sum.inr (Sum.inr (Sum.inl false)))else some (Sum.inl (IntKind.i64.wrap (x_1+1)))else some (Sum.inr (Sum.inl ()))
theorem ng(x:Sl yT)(y:Sl yT):cS x y=if(↑x.l.length:Int)≠(↑y.l.length:Int)then some false
else(aX (gT x y) 0).bind λ(y:PUnit ⊕ Bool ⊕ Empty)=>Sum.elim (λ(val:PUnit)=>some true) (λ(val:Bool ⊕ Empty)=>Sum.elim (λ(val:Bool)=>some val) (λ(val:Empty)=>nE val) val) y:=by kernel_rfl
def fK(x:Sl yT)(y:Sl yT):Int->Option (Int ⊕ PUnit ⊕ Bool ⊕ Empty):=λ(x_1:Int)=>if x_1<(↑x.l.length:Int)then(atS 3 x x_1).bind λ(y_1:Int×Int×Int)=>(atS 3 y x_1).bind λ(y:Int×Int×Int)=>if¬(y_1.fst=y.fst/\y_1.snd.fst=y.snd.fst/\y_1.snd.snd=y.snd.snd)then some (Sum.inr (Sum.inr (Sum.inl false)))else some (Sum.inl (IntKind.i64.wrap (x_1+1)))else some (Sum.inr (Sum.inl ()))
theorem jC(x:Sl yT)(y:Sl yT):bZ x y=if(↑x.l.length:Int)≠(↑y.l.length:Int)then some false
else(aX (fK x y) 0).bind λ(y:PUnit ⊕ Bool ⊕ Empty)=>Sum.elim (λ(val:PUnit)=>some true) (λ(val:Bool ⊕ Empty)=>Sum.elim (λ(val:Bool)=>some val) (λ(val:Empty)=>nE val) val) y:=by kernel_rfl
theorem tG(x:Int×Int×Int×Int×Int×(Int×Sl (Int×Int))×Sl yT×Sl yT×Int×Bool)(y:Int×Int×Int×Int×Int×(Int×Sl (Int×Int))×Sl yT×Sl yT×Int×Bool):el x y=if x.fst=y.fst then if x.snd.fst=y.snd.fst then if x.snd.snd.fst=y.snd.snd.fst then if x.snd.snd.snd.fst=y.snd.snd.snd.fst then if x.snd.snd.snd.snd.fst=y.snd.snd.snd.snd.fst then(gy x.snd.snd.snd.snd.snd.fst y.snd.snd.snd.snd.snd.fst).bind λ(out:Bool)=>if out=true then(cS x.snd.snd.snd.snd.snd.snd.fst y.snd.snd.snd.snd.snd.snd.fst).bind λ(out:Bool)=>if out=true then(bZ x.snd.snd.snd.snd.snd.snd.snd.fst y.snd.snd.snd.snd.snd.snd.snd.fst).bind λ(out:Bool)=>if out=true then if x.snd.snd.snd.snd.snd.snd.snd.snd.fst=y.snd.snd.snd.snd.snd.snd.snd.snd.fst then some (decide (decide (x.snd.snd.snd.snd.snd.snd.snd.snd.snd=true)=decide (y.snd.snd.snd.snd.snd.snd.snd.snd.snd=true)))else some false else some false else some false else some false else some false else some false else some false else some false
else some false:=by kernel_rfl
def cz(x:Sl (Int×Int))(y:Sl (Int×Int)):Int->Option (Int ⊕ PUnit ⊕ Bool ⊕ Empty):=λ(x_1:Int)=>if x_1<(↑x.l.length:Int)then(atS 2 x x_1).bind λ(y_1:Int×Int)=>(atS 2 y x_1).bind λ(y:Int×Int)=>if¬(y_1.fst=y.fst/\y_1.snd=y.snd)then some (Sum.inr (Sum.inr (Sum.inl false)))else some (Sum.inl (IntKind.i64.wrap (x_1+1)))else some (Sum.inr (Sum.inl ()))
theorem eI(x:Sl (Int×Int))(y:Sl (Int×Int)):an x y=if(↑x.l.length:Int)≠(↑y.l.length:Int)then some false
else(aX (cz x y) 0).bind λ(y:PUnit ⊕ Bool ⊕ Empty)=>Sum.elim (λ(val:PUnit)=>some true) (λ(val:Bool ⊕ Empty)=>Sum.elim (λ(val:Bool)=>some val) (λ(val:Empty)=>nE val) val) y:=by kernel_rfl
def cN(x:Sl yT)(y:Sl yT):Int->Option (Int ⊕ PUnit ⊕ Bool ⊕ Empty):=λ(x_1:Int)=>if x_1<(↑x.l.length:Int)then(atS 3 x x_1).bind λ(y_1:Int×Int×Int)=>(atS 3 y x_1).bind λ(y:Int×Int×Int)=>if¬(y_1.fst=y.fst/\y_1.snd.fst=y.snd.fst/\y_1.snd.snd=y.snd.snd)then some (Sum.inr (Sum.inr (Sum.inl false)))else some (Sum.inl (IntKind.i64.wrap (x_1+1)))else some (Sum.inr (Sum.inl ()))
theorem fm(x:Sl yT)(y:Sl yT):aK x y=if(↑x.l.length:Int)≠(↑y.l.length:Int)then some false
else(aX (cN x y) 0).bind λ(y:PUnit ⊕ Bool ⊕ Empty)=>Sum.elim (λ(val:PUnit)=>some true) (λ(val:Bool ⊕ Empty)=>Sum.elim (λ(val:Bool)=>some val) (λ(val:Empty)=>nE val) val) y:=by kernel_rfl
def cd(x:Sl yT)(y:Sl yT):Int->Option (Int ⊕ PUnit ⊕ Bool ⊕ Empty):=λ(x_1:Int)=>if x_1<(↑x.l.length:Int)then(atS 3 x x_1).bind λ(y_1:Int×Int×Int)=>(atS 3 y x_1).bind λ(y:Int×Int×Int)=>if¬(y_1.fst=y.fst/\y_1.snd.fst=y.snd.fst/\y_1.snd.snd=y.snd.snd)then some (Sum.inr (Sum.inr (Sum.inl false)))else some (Sum.inl (IntKind.i64.wrap (x_1+1)))else some (Sum.inr (Sum.inl ()))
theorem dK(x:Sl yT)(y:Sl yT):aD x y=if(↑x.l.length:Int)≠(↑y.l.length:Int)then some false
else(aX (cd x y) 0).bind λ(y:PUnit ⊕ Bool ⊕ Empty)=>Sum.elim (λ(val:PUnit)=>some true) (λ(val:Bool ⊕ Empty)=>Sum.elim (λ(val:Bool)=>some val) (λ(val:Empty)=>nE val) val) y:=by kernel_rfl
theorem kP(x:Int×Int×Int×Int×Int×(Int×Sl (Int×Int))×Sl yT×Sl yT×Int×Bool)(y:Int×Int×Int×Int×Int×(Int×Sl (Int×Int))×Sl yT×Sl yT×Int×Bool):cH x y=if x.fst=y.fst then if x.snd.fst=y.snd.fst then if x.snd.snd.fst=y.snd.snd.fst then if x.snd.snd.snd.fst=y.snd.snd.snd.fst then if x.snd.snd.snd.snd.fst=y.snd.snd.snd.snd.fst then if x.snd.snd.snd.snd.snd.snd.snd.snd.fst=y.snd.snd.snd.snd.snd.snd.snd.snd.fst then if x.snd.snd.snd.snd.snd.fst.fst=y.snd.snd.snd.snd.snd.fst.fst then(an x.snd.snd.snd.snd.snd.fst.snd y.snd.snd.snd.snd.snd.fst.snd).bind λ(out:Bool)=>if decide (x.snd.snd.snd.snd.snd.snd.snd.snd.snd=true)=decide (y.snd.snd.snd.snd.snd.snd.snd.snd.snd=true)then if out=true then(aK x.snd.snd.snd.snd.snd.snd.fst y.snd.snd.snd.snd.snd.snd.fst).bind λ(out:Bool)=>if out=true then(aD x.snd.snd.snd.snd.snd.snd.snd.fst y.snd.snd.snd.snd.snd.snd.snd.fst).bind λ(out:Bool)=>some (decide (out=true))else some false else some false else some false else if decide (x.snd.snd.snd.snd.snd.snd.snd.snd.snd=true)=decide (y.snd.snd.snd.snd.snd.snd.snd.snd.snd=true)then some false else some false else if x.snd.snd.snd.snd.snd.fst.fst=y.snd.snd.snd.snd.snd.fst.fst then(an x.snd.snd.snd.snd.snd.fst.snd y.snd.snd.snd.snd.snd.fst.snd).bind λ(out:Bool)=>some false else some false else if x.snd.snd.snd.snd.snd.fst.fst=y.snd.snd.snd.snd.snd.fst.fst then(an x.snd.snd.snd.snd.snd.fst.snd y.snd.snd.snd.snd.snd.fst.snd).bind λ(out:Bool)=>some false else some false else if x.snd.snd.snd.snd.snd.fst.fst=y.snd.snd.snd.snd.snd.fst.fst then(an x.snd.snd.snd.snd.snd.fst.snd y.snd.snd.snd.snd.snd.fst.snd).bind λ(out:Bool)=>some false else some false else if x.snd.snd.snd.snd.snd.fst.fst=y.snd.snd.snd.snd.snd.fst.fst then(an x.snd.snd.snd.snd.snd.fst.snd y.snd.snd.snd.snd.snd.fst.snd).bind λ(out:Bool)=>some false else some false else if x.snd.snd.snd.snd.snd.fst.fst=y.snd.snd.snd.snd.snd.fst.fst then(an x.snd.snd.snd.snd.snd.fst.snd y.snd.snd.snd.snd.snd.fst.snd).bind λ(out:Bool)=>some false else some false
else if x.snd.snd.snd.snd.snd.fst.fst=y.snd.snd.snd.snd.snd.fst.fst then(an x.snd.snd.snd.snd.snd.fst.snd y.snd.snd.snd.snd.snd.fst.snd).bind λ(out:Bool)=>some false else some false:=by kernel_rfl
theorem tH(x:Int×Int×Int×Int×Int×(Int×Sl (Int×Int))×Sl yT×Sl yT×Int×Bool):eo x=some (IntKind.i64.wrap (IntKind.i64.wrap ((↑x.snd.snd.snd.snd.snd.fst.snd.l.length:Int)+(↑x.snd.snd.snd.snd.snd.snd.fst.l.length:Int))+(↑x.snd.snd.snd.snd.snd.snd.snd.fst.l.length:Int))):=by kernel_rfl
theorem tI:law19_live=(cZ (3,1,2,3,4,(2,{nn:=true,sz:=2,l:= [(1,-5)]}),{nn:=true,sz:=3,l:= [(7,-1,9)]},{nn:=true,sz:=3,l:= [(1,2,3)]},-8,true)).bind λ(out:Sl Int×Int)=>(bg out.fst).bind λ(out_1:(Int×Int×Int×Int×Int×(Int×Sl (Int×Int))×Sl yT×Sl yT×Int×Bool)×Int×Int)=>(bg {nn:=false,sz:=0,l:= []}).bind λ(out_2:(Int×Int×Int×Int×Int×(Int×Sl (Int×Int))×Sl yT×Sl yT×Int×Bool)×Int×Int)=>if out.snd=0 then if(↑out.fst.l.length:Int)=84 then if out_1.snd.fst=0/\out_1.snd.snd=0 then(el (3,1,2,3,4,(2,{nn:=true,sz:=2,l:= [(1,-5)]}),{nn:=true,sz:=3,l:= [(7,-1,9)]},{nn:=true,sz:=3,l:= [(1,2,3)]},-8,true) out_1.fst).bind λ(out:Bool)=>if out=true then(cH (3,1,2,3,4,(2,{nn:=true,sz:=2,l:= [(1,-5)]}),{nn:=true,sz:=3,l:= [(7,-1,9)]},{nn:=true,sz:=3,l:= [(1,2,3)]},-8,true) out_1.fst).bind λ(out:Bool)=>if out=true then(cH (3,1,2,3,4,(2,{nn:=true,sz:=2,l:= [(1,-5)]}),{nn:=true,sz:=3,l:= [(7,-1,9)]},{nn:=true,sz:=3,l:= [(1,2,3)]},-8,true) (0,0,0,0,0,(0,{nn:=false,sz:=0,l:= []}),{nn:=false,sz:=0,l:= []},{nn:=false,sz:=0,l:= []},0,false)).bind λ(out:Bool)=>if¬out=true then if out_2.snd.fst=2/\out_2.snd.snd=0 then(eo (3,1,2,3,4,(2,{nn:=true,sz:=2,l:= [(1,-5)]}),{nn:=true,sz:=3,l:= [(7,-1,9)]},{nn:=true,sz:=3,l:= [(1,2,3)]},-8,true)).bind λ(out:Int)=>if out=3 then(bu (3,1,2,3,4,(2,{nn:=true,sz:=2,l:= [(1,-5)]}),{nn:=true,sz:=3,l:= [(7,-1,9)]},{nn:=true,sz:=3,l:= [(1,2,3)]},-8,true)).bind λ(out:Int)=>if out=0 then(bu (0,0,0,0,0,(0,{nn:=false,sz:=0,l:= []}),{nn:=false,sz:=0,l:= []},{nn:=false,sz:=0,l:= []},0,false)).bind λ(out:Int)=>some (decide (out=8))else some false else some false else some false else some false else some false else some false else some false else some false else some false:=by kernel_rfl
theorem lM(x:Int×Int×Int×Int×Int×(Int×Sl (Int×Int))×Sl yT×Sl yT×Int×Bool)(y:Int)(z:Sl Int):dn x y z=(gh x).bind λ(out:Int×Int×Int×Int×Int×(Int×Sl (Int×Int))×Sl yT×Sl yT×Int×Bool)=>(dI out).bind λ(out:Sl Int×Int)=>if out.snd≠0 then law19_live.bind λ(out:Bool)=>some (decide (out=true))else if(↑z.l.length:Int)>100 then law19_live.bind λ(out:Bool)=>some (decide (out=true))else(yp (IntKind.i64.wrap y) (↑out.fst.l.length:Int)).bind λ(z_1:Int)=>(lU 1 out.fst 0 z_1).bind λ(s':Sl Int)=>(bg s').bind λ(out_1:(Int×Int×Int×Int×Int×(Int×Sl (Int×Int))×Sl yT×Sl yT×Int×Bool)×Int×Int)=>(app [] out.fst.l).bind λ(lm:List Int)=>(app lm z.l).bind λ(lm:List Int)=>(bg (mo 1 lm)).bind λ(out_2:(Int×Int×Int×Int×Int×(Int×Sl (Int×Int))×Sl yT×Sl yT×Int×Bool)×Int×Int)=>law19_live.bind λ(out_3:Bool)=>if out_3=true then if out_1.snd.fst=2/\out_1.snd.snd=z_1 then if(↑z.l.length:Int)=0 then some true else some (decide (out_2.snd.fst=4/\out_2.snd.snd=(↑out.fst.l.length:Int)))else some false else some false:=by kernel_rfl
end Ev
end
noncomputable section
namespace Ev
open Go
def Gk(n:Int):Prop:= -9223372036854775808<=n/\n<=9223372036854775807
theorem wrap_u64(n:Int):IntKind.u64.wrap n=n % 18446744073709551616:=by
 simp [IntKind.wrap,IntKind.signed,IntKind.bits]
end Ev
end
noncomputable section
namespace Ev
open Go
def okS{α:Type}(w:Nat)(s:Sl α):Prop:=s.l= []∨s.sz=w
theorem um{α:Type}{w:Nat}{s:Sl α}(hs:okS w s){j:Nat}{x:α}(h:s.l[j]? =some x):atS w s (j:Int)=some x:=by
 have hj:=(List.getElem?_eq_some_iff.1 h);rw [eu hs hj.1,hj.2]
theorem DG{A R:Type}{b:A->Option (A ⊕ R)}(n:Nat)(st:Nat->A){r:R}(hs:∀j,j<n->b (st j)=some (.inl (st (j+1))))(he:b (st n)=some (.inr r)):aX b (st 0)=some r:=by
 obtain⟨q,h1,h2⟩:=qt (b:=b) n (λj a=>a=st j) (λq=>q=r) (λj a hj ha=> .inl ⟨st (j+1),by rw [ha];exact hs j hj,rfl⟩) (λa ha=>⟨r,by rw [ha];exact he,rfl⟩) 0 (Nat.zero_le _) (st 0) rfl;rw [h1,h2]
theorem gl{A R:Type}{b:A->Option (A ⊕ R)}(n:Nat)(st:Nat->A){a:A}(ha:a=st 0){r:R}(hs:∀j,j<n->b (st j)=some (.inl (st (j+1))))(he:b (st n)=some (.inr r)):aX b a=some r:=by rw [ha];exact DG n st hs he
theorem Cm{α:Type}[DecidableEq α]{x y:List α}(hl:x.length=y.length){b:Int->Option (Int ⊕ PUnit ⊕ Bool ⊕ Empty)}(h1:∀j:Nat,(h:j<x.length)->b j=some (if x[j]=y[j]then .inl ((j+1:Nat):Int)else .inr (.inr (.inl false))))(h2:∀j:Nat,x.length<=j->b j=some (.inr (.inl ()))):
  aX b 0=some (if x=y then .inl ()else .inr (.inl false)):=by
 obtain⟨q,q1,q2⟩:=qt (b:=b) x.length (λj a=>a=(j:Int)/\x.take j=y.take j) (λq=>q=if x=y then .inl ()else .inr (.inl false))
  (by
   rintro j _ hj ⟨rfl,ht⟩;rw [h1 j hj];by_cases e:x[j]=y[j]
   .rw [if_pos e];refine .inl ⟨_,rfl,rfl,?_⟩;rw [List.take_succ_eq_append_getElem hj,List.take_succ_eq_append_getElem (by omega),ht,e]
   .rw [if_neg e];refine .inr ⟨_,rfl,?_⟩
    rw [if_neg (λh=>e (by simp [h]))])
  (by
   rintro _ ⟨rfl,ht⟩;refine⟨_,h2 _ (Nat.le_refl _),?_⟩;rw [List.take_of_length_le (Nat.le_refl _),List.take_of_length_le (by omega)]at ht
   rw [if_pos ht]) 0 (Nat.zero_le _) 0 ⟨rfl,by simp⟩
 rw [q1,q2]
def iH(n:Int):Bool:=decide (0<=n)&& decide (n<=4096)
theorem sizeF_iff{n:Int}:iH n=true↔0<=n/\n<=4096:=by unfold iH;simp
end Ev
end
noncomputable section
namespace Ev
section
open Go
abbrev P2:=Int×Int
abbrev Vec:=Int×Sl P2
def asc(a n:Int):List P2->Bool
 | []=>true
 |x::l=>decide (a<x.1)&& decide (x.1<n)&& asc x.1 n l
def gC(v:Vec):Bool:=iH v.1 && asc (-1) v.1 v.2.l
theorem asc_cons{a n:Int}{x:P2}{l:List P2}:asc a n (x::l)=true↔a<x.1/\x.1<n/\asc x.1 n l=true:=by
 simp only [asc,Bool.and_eq_true,decide_eq_true_eq,and_assoc]
theorem wk{n:Int}:∀{a:Int} {l:List P2},asc a n l=true->∀y∈l,a<y.1/\y.1<n
 |a,[],_=>λy hy=>by simp at hy
 |a,x::l,h=>λy hy=>by
  obtain⟨h1,h2,h3⟩:=asc_cons.1 h;rcases List.mem_cons.1 hy with rfl|hy
  .exact⟨h1,h2⟩
  .have:=wk h3 y hy;omega
theorem wl(n:Int):fx n=some (iH n):=by
 rw [tD];unfold iH;by_cases h:n >= 0
 .rw [if_pos h,decide_eq_true (show 0<=n from h)];rfl
 .rw [if_neg h,decide_eq_false (show¬0<=n from h)];rfl
theorem xJ{n:Int}{l:List P2}{j:Nat}(hj:j<l.length)(a:Int):asc a n (l.drop j)=(decide (a<l[j].1)&& decide (l[j].1<n)&& asc l[j].1 n (l.drop (j+1))):=by
 rw [List.drop_eq_getElem_cons hj];rfl
theorem tJ{v:Vec}(hs:okS 2 v.2)(hl:v.2.l.length<=9223372036854775806):eC v=some (gC v):=by
 rw [ro,wl];unfold gC
 cases iH v.1 with
 |false=>rfl
 |true=>
  simp only [zbS,not_true_eq_false,if_false,Bool.true_and]
  obtain⟨q,q1,q2⟩:=qt (b:=eW v) v.2.l.length (λj st=>st.2=(j:Int)/\asc (-1) v.1 v.2.l=asc st.1 v.1 (v.2.l.drop j)) (λq=>q=if asc (-1) v.1 v.2.l=true then .inl ()else .inr (.inl false))
   (by
    rintro j ⟨a,i⟩ hj ⟨rfl,he⟩;have ej:=eu hs hj;rw [xJ hj]at he;simp only [eW,ej,zbS];rw [if_pos (by omega)];by_cases c1:v.2.l[j].1<=a
    .rw [if_pos c1];refine .inr ⟨_,rfl,?_⟩;rw [he,decide_eq_false (by omega)];rfl
    rw [if_neg c1];rw [decide_eq_true (show a<v.2.l[j].1 by omega)]at he;by_cases c2:v.2.l[j].1 >= v.1
    .rw [if_pos c2];refine .inr ⟨_,rfl,?_⟩;rw [he,decide_eq_false (by omega)];rfl
    rw [if_neg c2];rw [decide_eq_true (show v.2.l[j].1<v.1 by omega)]at he
    exact .inl ⟨_,rfl,fj hj (by omega),by simpa using he⟩)
   (by
    rintro⟨a,i⟩ ⟨rfl,he⟩;rw [List.drop_length]at he;simp only [eW];rw [if_neg (by omega)]
    exact⟨_,rfl,by rw [he];rfl⟩) 0 (Nat.zero_le _) (-1,0) ⟨rfl,rfl⟩
  rw [q1,q2];cases asc (-1) v.1 v.2.l<;>rfl
end
section
open Go
theorem tK{v:Vec}(hs:okS 2 v.2)(hl:v.2.l.length<=9223372036854775806):eA v=some (gC v):=by
 rw [rl];unfold gC;by_cases g1:v.1<0
 .rw [if_pos g1,show iH v.1=false by unfold iH;rw [decide_eq_false (by omega)];rfl];rfl
 rw [if_neg g1];by_cases g2:v.1>4096
 .rw [if_pos g2,show iH v.1=false by unfold iH;rw [decide_eq_false (show¬v.1<=4096 by omega)];simp];rfl
 rw [if_neg g2,sizeF_iff.2 (by omega)];simp only [Bool.true_and]
 obtain⟨q,q1,q2⟩:=qt (b:=eS v) v.2.l.length (λj st=>st=(j:Int)/\∃q:Int,asc (-1) v.1 v.2.l=asc q v.1 (v.2.l.drop j)/\ -1<=q/\(j=0->q= -1)/\(0<j->∀h:j - 1<v.2.l.length,q=v.2.l[j - 1].1)) (λq=>q=if asc (-1) v.1 v.2.l=true then .inl ()else .inr (.inl false))
  (by
   rintro j _ hj ⟨rfl,q,he,hq,h0,h1⟩;have ej:=eu hs hj;rw [xJ hj]at he;simp only [eS,ej,zbS];rw [if_pos (by omega)];by_cases c1:v.2.l[j].1<0
   .rw [if_pos c1];refine .inr ⟨_,rfl,?_⟩;rw [he,decide_eq_false (show¬q<v.2.l[j].1 by omega)];rfl
   rw [if_neg c1];by_cases c2:v.2.l[j].1 >= v.1
   .rw [if_pos c2];refine .inr ⟨_,rfl,?_⟩;rw [he,decide_eq_false (show¬v.2.l[j].1<v.1 by omega)];simp
   rw [if_neg c2];rw [decide_eq_true (show v.2.l[j].1<v.1 by omega)]at he;by_cases hj0:j=0
   .rw [if_neg (by omega),fj hj (by omega)];rw [decide_eq_true (show q<v.2.l[j].1 by have:=h0 hj0;omega)]at he;exact .inl ⟨_,rfl,rfl,v.2.l[j].1,by simpa using he,by omega,by omega,λ_ _=>by simp⟩
   .have hj1:j - 1<v.2.l.length:=by omega
    rw [if_pos (by omega),show IntKind.i64.wrap ((j:Int) - 1)=((j - 1:Nat):Int)by rw [wrap64 (by omega) (by omega)];omega,eu hs hj1];simp only [zbS,fj hj (by omega)];have hq1:=h1 (by omega) hj1;by_cases c3:v.2.l[j].1<=v.2.l[j - 1].1
    .rw [if_pos c3];refine .inr ⟨_,rfl,?_⟩;rw [he,decide_eq_false (show¬q<v.2.l[j].1 by omega)];rfl
    .rw [if_neg c3];rw [decide_eq_true (show q<v.2.l[j].1 by omega)]at he
     exact .inl ⟨_,rfl,rfl,v.2.l[j].1,by simpa using he,by omega,by omega,λ_ _=>by simp⟩)
  (by
   rintro _ ⟨rfl,q,he,_⟩;rw [List.drop_length]at he;simp only [eS];rw [if_neg (by omega)]
   exact⟨_,rfl,by rw [he];rfl⟩) 0 (Nat.zero_le _) 0 ⟨rfl,-1,rfl,by omega,λ_=>rfl,λh=>by omega⟩
 rw [q1,q2];cases asc (-1) v.1 v.2.l<;>rfl
end
section
open Go
theorem xK{v:Vec}(hs:okS 2 v.2)(hn:v.2.nn=false->v.2.l= []):∃w:Vec,gg v=some w/\w.1=v.1/\w.2.l=v.2.l.take 60/\okS 2 w.2/\(w.2.nn=true∨w.2.l= []):=by
 have hn':v.2.nn=true∨v.2.l= []:=by
  cases h:v.2.nn with
  |true=>exact .inl rfl
  |false=>exact .inr (hn h)
 rw [wh];by_cases h:v.2.l.length>60
 .rw [if_pos (by omega)];have hz:v.2.sz=2:=hs.resolve_left (by intro h';rw [h']at h;simp at h);refine⟨(v.1,⟨v.2.nn,v.2.sz,v.2.l.take 60⟩),?_,rfl,rfl,.inr hz,?_⟩
  .unfold lU;rw [if_pos ⟨by omega,by omega,by omega,.inl hz⟩];simp
  .rcases hn' with h'|h'
   .exact .inl h'
   .rw [h']at h;simp at h
 .rw [if_neg (by omega)];exact⟨v,rfl,rfl,(List.take_of_length_le (by omega)).symm,hs,hn'⟩
end
section
open Go
abbrev Mx:=Int×Int×Sl Int×Sl Int×Sl Int
abbrev E3:=Int×Int×Int
end
section
open Go Sm
def bel(a b:E3):Bool:=klt (key a) (key b)
abbrev Kt(l:List E3):Prop:=l.Pairwise λa b=>bel a b=true
def OW(n:Nat)(f:Nat->Int):List Int:=(List.range (n+1)).map f
def OX(l:List E3)(k:Nat):Nat:=l.countP λx=>decide (x.1<(k:Int))
end
section
open Go Sm
theorem zo{α:Type}[DecidableEq α]{x y:Sl α}(hl:x.l.length<=9223372036854775806){w:Nat}(hx:okS w x)(hy:okS w y){b:Int->Option (Int ⊕ PUnit ⊕ Bool ⊕ Empty)}
  (hb:∀a,b a=if a<(x.l.length:Int)then(atS w x a).bind λu=>(atS w y a).bind λv=>if u≠v then some (.inr (.inr (.inl false)))else some (.inl (IntKind.i64.wrap (a+1)))else some (.inr (.inl ()))):
  (if(x.l.length:Int)≠(y.l.length:Int)then some false else(aX b 0).bind λ(y:PUnit ⊕ Bool ⊕ Empty)=>Sum.elim (λ_=>some true) (λv=>Sum.elim (λv=>some v) (λv=>nE v) v) y)=some (decide (x.l=y.l)):=by
 by_cases h:x.l.length=y.l.length
 .rw [if_neg (by omega)]
  rw [Cm h (b:=b) (λj hj=>by
   rw [hb,if_pos (by omega),um hx (List.getElem?_eq_getElem hj),um hy (List.getElem?_eq_getElem (by omega))];simp only [zbS];by_cases he:x.l[j]=y.l[j]
   .rw [if_neg (by simp [he]),if_pos he,fj hj (by omega)]
   .rw [if_pos he,if_neg he]) (λj hj=>by rw [hb,if_neg (by omega)])]
  by_cases he:x.l=y.l
  .simp [he]
  .simp [he]
 .rw [if_pos (by omega),decide_eq_false];exact λhe=>h (by rw [he])
end
section
open Go Sm
structure Is(m:Mx)(n c:Int)(l:List E3):Prop where
 hn:0<=n/\n<=4096
 hc:0<=c/\c<=4096
 len:l.length<=65536
 r:Kt l
 p:∀x∈l,(0<=x.1/\x.1<n)/\0<=x.2.1/\x.2.1<c
 v:∀x∈l,Gk x.2.2
 e1:m.1=n
 e2:m.2.1=c
 e3:m.2.2.1.l=OW n.toNat λk=>((OX l k:Nat):Int)
 e4:m.2.2.2.1.l=l.map (·.2.1)
 e5:m.2.2.2.2.l=l.map (·.2.2)
 o3:okS 1 m.2.2.1
 o4:okS 1 m.2.2.2.1
 o5:okS 1 m.2.2.2.2
end
section
open Go Sm
theorem gm{α:Type}[DecidableEq α]{x y:Sl α}(hl:x.l.length<=9223372036854775806){w:Nat}(hx:okS w x)(hy:okS w y){b:Int->Option (Int ⊕ PUnit ⊕ Bool ⊕ Empty)}{P:α->α->Prop}[∀u v,Decidable (P u v)](hP:∀u v,P u v↔u=v)
  (hb:∀a,b a=if a<(x.l.length:Int)then(atS w x a).bind λu=>(atS w y a).bind λv=>if¬P u v then some (.inr (.inr (.inl false)))else some (.inl (IntKind.i64.wrap (a+1)))else some (.inr (.inl ()))):
  (if(x.l.length:Int)≠(y.l.length:Int)then some false else(aX b 0).bind λ(y:PUnit ⊕ Bool ⊕ Empty)=>Sum.elim (λ_=>some true) (λv=>Sum.elim (λv=>some v) (λv=>nE v) v) y)=some (decide (x.l=y.l)):=by
 refine zo hl hx hy λa=> ?_;rw [hb];by_cases h:a<(x.l.length:Int)
 .rw [if_pos h,if_pos h]
  cases atS w x a with
  |none=>rfl
  |some u=>
   cases atS w y a with
   |none=>rfl
   |some v=>
    simp only [zbS];by_cases he:u=v
    .rw [if_neg (λhh=>hh ((hP u v).2 he)),if_neg (λhh=>hh he)]
    .rw [if_pos (λhh=>he ((hP u v).1 hh)),if_pos he]
 .rw [if_neg h,if_neg h]
theorem xL{x y:Sl (Int×Int)}(hl:x.l.length<=9223372036854775806)(hx:okS 2 x)(hy:okS 2 y):cD x y=some (decide (x.l=y.l)):=by
 rw [lL];exact gm hl hx hy (P:=λu v=>u.fst=v.fst/\u.snd=v.snd) (λu v=>Prod.ext_iff.symm) λa=>by unfold gB;rfl
end
section
open Go Sm
def bts(x:Int)(k:Nat):List Int:=(List.range k).map λi=>x / 256 ^ i % 256
theorem wm(x:Int)(k:Nat):(bts x k).length=k:=by simp [bts]
theorem DH(x:Int)(k i:Nat)(h:i<k):(bts x k)[i]? =some (x / 256 ^ i % 256):=by simp [bts,h]
theorem DI(x:Int)(k:Nat):bts x (k+1)=bts x k++ [x / 256 ^ k % 256]:=by simp [bts,List.range_succ]
theorem Gl(n:Int):IntKind.u8.wrap n=n % 256:=by
 simp [IntKind.wrap,IntKind.signed,IntKind.bits]
theorem DK{n:Int}(h:0<=n/\n<4294967296):IntKind.u32.wrap n=n:=by
 have:IntKind.u32.wrap n=n % 4294967296:=by simp [IntKind.wrap,IntKind.signed,IntKind.bits]
 rw [this,Int.emod_eq_of_lt h.1 h.2]
end
section
open Go Sm
theorem zp{n:Int}{g:Nat->Int}:∀(k:Nat),(∀i,i<k->g i=n / 256 ^ i % 256)->le g k=n % 256 ^ k
 |0,_=>by simp [le,Int.emod_one]
 |k+1,h=>by
  rw [le,zp k λi hi=>h i (by omega),h k (by omega)];have hp:(0:Int)<256 ^ k:=Int.pow_pos (by decide);have e1:(2:Int)^(8*k)=256 ^ k:=by rw [Int.pow_mul];rfl
  rw [e1];have e2:n /(256 ^ k*256)=n / 256 ^ k / 256:=(Int.ediv_ediv_of_nonneg (Int.le_of_lt hp)).symm;rw [Int.pow_succ];generalize (256:Int)^ k=M at hp e2 ⊢;rw [Int.emod_def n (M*256),e2,Int.emod_def n M,Int.emod_def (n / M) 256];generalize n / M / 256=q;generalize n / M=r;rw [Int.sub_mul,Int.mul_comm r M,Int.mul_comm 256 q,Int.mul_assoc q 256 M,Int.mul_comm 256 M,Int.mul_comm q (M*256)];omega
theorem Gm{f:Nat->Int}{m:Nat}{B pre post:List Int}{n most e:Int}(hB:B=pre++(bts n 4++post))(hf:∀i,i<m->f i=B.getD i 0)(h0:0<=n)(h1:n<=most)(h2:most<=2147483647):
  iB f m pre.length most e=if pre.length+4<=m then .ok (n,pre.length+4)else .error (2,(m:Int)):=by
 unfold iB;by_cases h:pre.length+4<=m
 .have hl:le (λi=>f (pre.length+i)) 4=n:=by
   rw [zp (n:=n) 4 λi hi=>by
    rw [hf _ (by omega),hB,List.getD_eq_getElem?_getD,List.getElem?_append_right (by omega),Nat.add_sub_cancel_left,List.getElem?_append_left (by rw [wm];exact hi),DH _ _ _ hi]
    rfl]
   omega
  rw [if_pos h,if_pos h,hl,if_neg (by omega)]
 .rw [if_neg h,if_neg h]
theorem Gn{n:Int}(h:Gk n):Go.RowKit.wrap64 (n % 256 ^ 8)=n:=by
 unfold Gk at h;unfold Go.RowKit.wrap64;omega
theorem Ku{f:Nat->Int}{m:Nat}{B pre post:List Int}{n:Int}(hB:B=pre++(bts n 8++post))(hf:∀i,i<m->f i=B.getD i 0)(hn:Gk n)(h:pre.length+8<=m):lw (λj=>f (pre.length+j)) 8=n:=by
 unfold lw
 rw [zp (n:=n) 8 λi hi=>by
  rw [hf _ (by omega),hB,List.getD_eq_getElem?_getD,List.getElem?_append_right (by omega),Nat.add_sub_cancel_left,List.getElem?_append_left (by rw [wm];exact hi),DH _ _ _ hi]
  rfl]
 exact Gn hn
end
section
open Go Sm
theorem DL(x c:Int):bts (x - 18446744073709551616*c) 8=bts x 8:=by
 simp only [bts,List.range_succ,List.range_zero,List.nil_append,List.cons_append,List.map_cons,List.map_nil,List.cons.injEq,and_true];refine⟨?_,?_,?_,?_,?_,?_,?_,?_⟩<;>omega
end
section
open Go Sm
theorem AC{x:Int}{k:Nat}(h0:0<=x)(h1:x<18446744073709551616)(hk:k<=8):fv x (k:Int)=some (bts x k):=by
 rw [wj]
 have q:aX (ga (k:Int)) (x,[],0)=some (.inl (bts x k)):=by
  refine gl k (λi=>(x / 256 ^ i,bts x i,(i:Int))) (by simp [bts]) (λi hi=> ?_) ?_
  .have hp:(0:Int)<256 ^ i:=Int.pow_pos (by decide);have hd0:0<=x / 256 ^ i:=Int.ediv_nonneg h0 (by omega);have hd1:x / 256 ^ i<=x:=Int.ediv_le_self _ h0;have e0:x / 256 ^(i+1)=x / 256 ^ i / 256:=by rw [Int.pow_succ];exact(Int.ediv_ediv_of_nonneg (by omega)).symm
   simp only [ga];rw [if_pos (by omega),DI,e0];generalize x / 256 ^ i=d at hd0 hd1 ⊢;unfold yp EK;rw [if_pos (by decide),if_pos (by decide),Int.tmod_eq_emod_of_nonneg hd0,Int.tdiv_eq_ediv_of_nonneg hd0];simp only [zbS];rw [de (by rw [wm];simp;unfold bB;omega),Gl,wrap_u64,fj hi (by omega)];simp only [zbS];rw [Int.emod_emod_of_dvd d (by decide:(256:Int)∣ 256),show d / 256 % 18446744073709551616=d / 256 by omega]
  .simp only [ga];rw [if_neg (by omega)]
 rw [q];rfl
theorem Gp{y:Int}(h:0<=y/\y<4294967296):ez (IntKind.u32.wrap y)=some (bts y 4):=by
 rw [rx,DK h,wrap_u64,Int.emod_eq_of_lt h.1 (by omega)]
 have:=AC (k:=4) h.1 (by omega) (by omega)
 rw [show((4:Nat):Int)=4 from rfl]at this;rw [this];rfl
end
section
open Go Sm
theorem Gq(y:Int):bU y=some (bts y 8):=by
 rw [ry,wrap_u64];have h0:=Int.emod_nonneg y (show(18446744073709551616:Int)≠0 by decide);have h1:=Int.emod_lt_of_pos y (show(0:Int)<18446744073709551616 by decide)
 have:=AC (k:=8) h0 h1 (by omega)
 rw [show((8:Nat):Int)=8 from rfl]at this;rw [this,Int.emod_def,DL];rfl
end
end Ev
end
noncomputable section
namespace Ev
open Go Sm
abbrev FrX:=Sm.Fd.FrS
theorem xM{R:Type}(s n:Nat)(p:Nat->Bool)(v:Nat->R){b:Int->Option (Int ⊕ PUnit ⊕ R ⊕ Empty)}(h1:∀j,s<=j->j<n->b (j:Int)=some (if p j=true then .inl ((j+1:Nat):Int)else .inr (.inr (.inl (v j)))))(h2:∀j,n<=j->b (j:Int)=some (.inr (.inl ()))):
  ((∀j,s<=j->j<n->p j=true)/\aX b (s:Int)=some (.inl ()))∨∃j,(s<=j/\j<n/\p j=false)/\aX b (s:Int)=some (.inr (.inl (v j))):=by
 by_cases h:∀j,s<=j->j<n->p j=true
 .refine .inl ⟨h,?_⟩;refine gl (n - s) (λi=>((s+i:Nat):Int)) (by simp) (λi hi=> ?_) ?_
  .rw [h1 _ (by omega) (by omega),if_pos (h _ (by omega) (by omega))];rfl
  .exact h2 _ (by omega)
 .refine .inr ?_
  have hex:∃j,s<=j/\j<n/\p j=false:=by
   refine Classical.byContradiction λhn=>h λj a c=> ?_
   cases hp:p j with
   |true=>rfl
   |false=>exact absurd ⟨j,a,c,hp⟩ hn
  have hmin:∃j,(s<=j/\j<n/\p j=false)/\∀i,s<=i->i<j->p i=true:=by
   obtain⟨j,hj⟩:=hex
   induction j using Nat.strongRecOn with
   |_ j ih=>
    by_cases hc:∀i,s<=i->i<j->p i=true
    .exact⟨j,hj,hc⟩
    .have:∃i,s<=i/\i<j/\p i=false:=by
      refine Classical.byContradiction λhn=>hc λi a c=> ?_
      cases hp:p i with
      |true=>rfl
      |false=>exact absurd ⟨i,a,c,hp⟩ hn
     obtain⟨i,a,c,d⟩:=this;exact ih i c ⟨a,by omega,d⟩
  obtain⟨j,hj,hm⟩:=hmin;refine⟨j,hj,?_⟩;refine gl (j - s) (λi=>((s+i:Nat):Int)) (by simp) (λi hi=> ?_) ?_
  .rw [h1 _ (by omega) (by omega),if_pos (hm _ (by omega) (by omega))];rfl
  .rw [show s+(j - s)=j by omega,h1 _ hj.1 hj.2.1,if_neg (by rw [hj.2.2];simp)]
def pl(x:Int):Bool:=decide (0<=x/\x<4096)
def tL(a b c d:Int):Bool:=decide ((0<=a/\a<64)/\(0<=b/\b<64)/\(0<=c/\c<=2147483647)/\(0<=d/\d<=8192))
def rz(l:List (Int×Int×Int)):Bool:=(List.range l.length).all λj=>decide (j=0)||decide ((l.getD (j - 1) (0,0,0)).1<(l.getD j (0,0,0)).1)
def cI(x:FrX):Int:=
 if x.1<1∨7<x.1 then 8 else if tL x.2.1 x.2.2.1 x.2.2.2.1 x.2.2.2.2.1=true then(if gC x.2.2.2.2.2.1=true then(if(x.2.2.2.2.2.2.1.l.all λe=>pl e.1)=true then(if rz x.2.2.2.2.2.2.1.l=true then(if x.2.2.2.2.2.2.2.1.l.length>65536 then 5 else if(x.2.2.2.2.2.2.2.1.l.all λe=>pl e.1 && pl e.2.1)=true then 0 else 3)else 6)else 3)else 7)else 3
structure OkX(x:FrX):Prop where
 s7:okS 2 x.2.2.2.2.2.1.2
 s8:okS 3 x.2.2.2.2.2.2.1
 s9:okS 3 x.2.2.2.2.2.2.2.1
 l7:x.2.2.2.2.2.1.2.l.length<=9223372036854775806
 l8:x.2.2.2.2.2.2.1.l.length<=9223372036854775806
 l9:x.2.2.2.2.2.2.2.1.l.length<=9223372036854775806
theorem wo(z:Int):co z=some (pl z):=by
 rw [rp];unfold pl;by_cases h:z >= 0
 .rw [if_pos h];congr 1;exact decide_eq_decide.2 ⟨λh'=>⟨h,h'⟩,λh'=>h'.2⟩
 .rw [if_neg h];congr 1;exact(decide_eq_false (λh'=>h h'.1)).symm
theorem xN(z:Int):cm z=some (decide (0<=z/\z<64)):=by
 rw [qd];by_cases h:z >= 0
 .rw [if_pos h];congr 1;exact decide_eq_decide.2 ⟨λh'=>⟨h,h'⟩,λh'=>h'.2⟩
 .rw [if_neg h];congr 1;exact(decide_eq_false (λh'=>h h'.1)).symm
theorem IR{α:Type}{l:List α}{p:α->Bool}(h:∀(j:Nat) (hj:j<l.length),p l[j]=true):l.all p=true:=by
 rw [List.all_eq_true];intro x hx;obtain⟨j,hj,rfl⟩:=List.getElem_of_mem hx;exact h j hj
theorem dL(l:List (Int×Int×Int))(j:Nat)(h:j<l.length):l.getD j (0,0,0)=l[j]:=by simp [List.getD_eq_getElem?_getD,h]
theorem ris_at{l:List (Int×Int×Int)}:rz l=true↔∀(j:Nat) (h:j<l.length),1<=j->(l[j - 1]'(by omega)).1<l[j].1:=by
 unfold rz;rw [List.all_eq_true];constructor
 .intro h j hj h1
  have:=h j (by simpa using hj)
  rw [dL l j hj,dL l (j - 1) (by omega)]at this;simp only [Bool.or_eq_true,decide_eq_true_eq]at this;exact this.resolve_left (by omega)
 .intro h j hj;have hj:j<l.length:=by simpa using hj
  simp only [Bool.or_eq_true,decide_eq_true_eq];by_cases h0:j=0
  .exact .inl h0
  .rw [dL l j hj,dL l (j - 1) (by omega)];exact .inr (h j hj (by omega))
theorem xO{R:Type}{s:Sl (Int×Int×Int)}(r:R){b:Int->Option (Int ⊕ PUnit ⊕ R ⊕ Empty)}(h1:∀(j:Nat) (h:j<s.l.length),1<=j->b (j:Int)=some (if s.l[j].1<=(s.l[j - 1]'(by omega)).1 then .inr (.inr (.inl r))else .inl ((j+1:Nat):Int)))(h2:∀j,s.l.length<=j->b (j:Int)=some (.inr (.inl ()))):
  aX b 1=some (if rz s.l=true then .inl ()else .inr (.inl r)):=by
 rcases xM 1 s.l.length (λj=>decide ((s.l.getD (j - 1) (0,0,0)).1<(s.l.getD j (0,0,0)).1)) (λ_=>r) (b:=b) (λj a c=>by
  rw [h1 j c a,dL s.l j c,dL s.l (j - 1) (by omega)];by_cases h:s.l[j].1<=(s.l[j - 1]'(by omega)).1
  .rw [if_pos h,if_neg (by simp;omega)]
  .rw [if_neg h,if_pos (by simp;omega)]) h2 with⟨h,e⟩|⟨j,⟨a,c,d⟩,e⟩
 .rw [show aX b 1=_ from e,if_pos]
  exact ris_at.2 λj hj h1=>by
   have:=h j h1 hj
   rw [dL s.l j hj,dL s.l (j - 1) (by omega)]at this;simpa using this
 .rw [show aX b 1=_ from e,if_neg];intro hr
  have:=ris_at.1 hr j c a
  rw [dL s.l j c,dL s.l (j - 1) (by omega)]at d;simp at d;omega
theorem nh{R:Type}{l:List (Int×Int×Int)}(p:(Int×Int×Int)->Bool)(v:Nat->R){b:Int->Option (Int ⊕ PUnit ⊕ R ⊕ Empty)}(h1:∀(j:Nat) (h:j<l.length),b (j:Int)=some (if p l[j]=true then .inl ((j+1:Nat):Int)else .inr (.inr (.inl (v j)))))(h2:∀j,l.length<=j->b (j:Int)=some (.inr (.inl ()))):
  (l.all p=true/\aX b 0=some (.inl ()))∨(l.all p=false/\∃j,aX b 0=some (.inr (.inl (v j)))):=by
 rcases xM 0 l.length (λj=>p (l.getD j (0,0,0))) v (b:=b) (λj a c=>by rw [h1 j c,dL l j c]) h2 with⟨h,e⟩|⟨j,⟨a,c,d⟩,e⟩
 .exact .inl ⟨IR λj hj=>by have:=h j (Nat.zero_le _) hj;rwa [dL l j hj]at this,e⟩
 .refine .inr ⟨?_,j,e⟩;rw [dL l j c]at d;rw [Bool.eq_false_iff];intro h;rw [List.all_eq_true.1 h _ (List.getElem_mem c)]at d;cases d
theorem DM{j:Nat}(h:1<=j)(hn:j<=9223372036854775807):IntKind.i64.wrap ((j:Int) - 1)=((j - 1:Nat):Int):=by rw [wrap64 (by omega) (by omega)];omega
theorem tM{s:Sl (Int×Int×Int)}(hs:okS 3 s)(hl:s.l.length<=9223372036854775806):dA s=some (rz s.l):=by
 rw [rq,xO (s:=s) false (λj hj h1=>by
  simp only [gz];rw [if_pos (by omega),eu hs hj];simp only [zbS];rw [DM h1 (by omega),eu hs (show j - 1<s.l.length by omega)];simp only [zbS];rw [fj hj (by omega)]
  split<;>rfl) (λj hj=>by simp only [gz];rw [if_neg (by omega)])]
 by_cases h:rz s.l=true
 .rw [if_pos h,h];rfl
 .rw [if_neg h,Bool.eq_false_iff.2 h];rfl
end Ev
end
noncomputable section
namespace Ev
open Go Sm
theorem tN{x:FrX}(hx:OkX x):eB x=some (cI x):=by
 obtain⟨h7,h8,h9,l7,l8,l9⟩:=hx;obtain⟨x0,x1,x2,x3,x4,⟨n,s7⟩,s8,s9,x6,x5⟩:=x;simp only at h7 h8 h9 l7 l8 l9;rw [rm];unfold cI;simp only;by_cases a1:x0<1
 .rw [if_pos a1,if_pos (.inl a1)]
 by_cases a2:x0>7
 .rw [if_neg a1,if_pos a2,if_pos (.inr a2)]
 rw [if_neg a1,if_neg a2,if_neg (show¬(x0<1∨7<x0)by omega)];by_cases hd:tL x1 x2 x3 x4=true
 .have hd':=hd;simp only [tL,decide_eq_true_eq]at hd';rw [if_neg (by omega),if_neg (by omega),if_neg (by omega),if_neg (by omega),if_neg (by omega),if_neg (by omega),if_neg (by omega),if_neg (by omega),if_pos hd,tK (v:=(n,s7)) h7 l7];simp only [zbS];by_cases b1:gC (n,s7)=true
  .rw [if_neg (by simp [b1]),if_pos b1]
   rcases nh (l:=s8.l) (λe=>pl e.1) (λ_=>(3:Int)) (b:=eT (x0,x1,x2,x3,x4,(n,s7),s8,s9,x6,x5)) (λj hj=>by
    simp only [eT];rw [if_pos (by omega),eu h8 hj];simp only [zbS];rw [fj hj (by omega)];unfold pl;by_cases c1:s8.l[j].1<0
    .rw [if_pos c1,if_neg (by simp;omega)]
    .by_cases c2:s8.l[j].1 >= 4096
     .rw [if_neg c1,if_pos c2,if_neg (by simp;omega)]
     .rw [if_neg c1,if_neg c2,if_pos (by simp;omega)]) (λj hj=>by simp only [eT];rw [if_neg (by omega)])with⟨q1,q2⟩|⟨q1,j,q2⟩
   .rw [q2,if_pos q1];simp only [zbS,Sum.elim_inl]
    rw [xO (s:=s8) (6:Int) (b:=eU (x0,x1,x2,x3,x4,(n,s7),s8,s9,x6,x5)) (λj hj h1=>by
     simp only [eU];rw [if_pos (by omega),eu h8 hj];simp only [zbS];rw [DM h1 (by omega),eu h8 (show j - 1<s8.l.length by omega)];simp only [zbS];rw [fj hj (by omega)]
     split<;>rfl) (λj hj=>by simp only [eU];rw [if_neg (by omega)])]
    by_cases r1:rz s8.l=true
    .rw [if_pos r1,if_pos r1];simp only [zbS,Sum.elim_inl];by_cases t1:s9.l.length>65536
     .rw [if_pos (by omega),if_pos t1]
     .rw [if_neg (by omega),if_neg t1]
      rcases nh (l:=s9.l) (λe=>pl e.1 && pl e.2.1) (λ_=>(3:Int)) (b:=eV (x0,x1,x2,x3,x4,(n,s7),s8,s9,x6,x5)) (λj hj=>by
       simp only [eV];rw [if_pos (by omega),eu h9 hj];simp only [zbS];rw [fj hj (by omega)];unfold pl;by_cases c1:s9.l[j].1<0
       .rw [if_pos c1,if_neg (by simp;omega)]
       by_cases c2:s9.l[j].1 >= 4096
       .rw [if_neg c1,if_pos c2,if_neg (by simp;omega)]
       by_cases c3:s9.l[j].2.1<0
       .rw [if_neg c1,if_neg c2,if_pos c3,if_neg (by simp;omega)]
       by_cases c4:s9.l[j].2.1 >= 4096
       .rw [if_neg c1,if_neg c2,if_neg c3,if_pos c4,if_neg (by simp;omega)]
       .rw [if_neg c1,if_neg c2,if_neg c3,if_neg c4,if_pos (by simp;omega)]) (λj hj=>by simp only [eV];rw [if_neg (by omega)])with⟨q3,q4⟩|⟨q3,j,q4⟩
      .rw [q4,if_pos q3];rfl
      .rw [q4,if_neg (show¬(s9.l.all λe=>pl e.1 && pl e.2.1)=true by rw [q3];simp)];rfl
    .rw [if_neg r1,if_neg r1];rfl
   .rw [q2,if_neg (show¬(s8.l.all λe=>pl e.1)=true by rw [q1];simp)];rfl
  .rw [if_pos (by simpa using b1),if_neg b1]
 .rw [if_neg hd];have hd':¬((0<=x1/\x1<64)/\(0<=x2/\x2<64)/\(0<=x3/\x3<=2147483647)/\(0<=x4/\x4<=8192)):=by simpa [tL]using hd
  by_cases c1:x1<0
  .rw [if_pos c1]
  rw [if_neg c1];by_cases c2:x1 >= 64
  .rw [if_pos c2]
  rw [if_neg c2];by_cases c3:x2<0
  .rw [if_pos c3]
  rw [if_neg c3];by_cases c4:x2 >= 64
  .rw [if_pos c4]
  rw [if_neg c4];by_cases c5:x3<0
  .rw [if_pos c5]
  rw [if_neg c5];by_cases c6:x3>2147483647
  .rw [if_pos c6]
  rw [if_neg c6];by_cases c7:x4<0
  .rw [if_pos c7]
  rw [if_neg c7,if_pos (by omega)]
theorem IS(x1 x2 x3 x4:Int):((cm x1).bind λ(out:Bool)=>if¬out=true then some (Sum.inl true)else(cm x2).bind λ(out:Bool)=>if¬out=true then some (Sum.inl true)else if x3<0 then some (Sum.inl true)else if x3>2147483647 then some (Sum.inl true)else if x4<0 then some (Sum.inl true)else(some (Sum.inl (decide (x4>8192))):Option (Bool ⊕ Empty)))=some (Sum.inl (!tL x1 x2 x3 x4)):=by
 rw [xN,xN];simp only [zbS,decide_eq_true_eq];unfold tL;by_cases c1:0<=x1/\x1<64
 .rw [if_neg (by simpa using c1)];by_cases c2:0<=x2/\x2<64
  .rw [if_neg (by simpa using c2)];by_cases c5:x3<0
   .rw [if_pos c5,decide_eq_false (by omega)];rfl
   rw [if_neg c5];by_cases c6:x3>2147483647
   .rw [if_pos c6,decide_eq_false (by omega)];rfl
   rw [if_neg c6];by_cases c7:x4<0
   .rw [if_pos c7,decide_eq_false (by omega)];rfl
   rw [if_neg c7];by_cases c8:x4>8192
   .rw [decide_eq_true c8,decide_eq_false (by omega)];rfl
   .rw [decide_eq_false c8,decide_eq_true (by omega)];rfl
  .rw [if_pos c2,decide_eq_false (by omega)];rfl
 .rw [if_pos c1,decide_eq_false (by omega)];rfl
theorem hZ{x:FrX}(hx:OkX x):bu x=some (cI x):=by
 obtain⟨h7,h8,h9,l7,l8,l9⟩:=hx;obtain⟨x0,x1,x2,x3,x4,⟨n,s7⟩,s8,s9,x6,x5⟩:=x;simp only at h7 h8 h9 l7 l8 l9;rw [ru];unfold cI;simp only;by_cases a1:x0<1
 .rw [if_pos a1,if_pos (.inl a1)]
 by_cases a2:x0>7
 .rw [if_neg a1,if_pos a2,if_pos (.inr a2)]
 rw [if_neg a1,if_neg a2,if_neg (show¬(x0<1∨7<x0)by omega),IS x1 x2 x3 x4];simp only [zbS,Sum.elim_inl];by_cases hd:tL x1 x2 x3 x4=true
 .rw [if_neg (by simp [hd]),if_pos hd,tJ (v:=(n,s7)) h7 l7];simp only [zbS];by_cases b1:gC (n,s7)=true
  .rw [if_neg (by simp [b1]),if_pos b1]
   rcases nh (l:=s8.l) (λe=>pl e.1) (λj=>((j:Nat):Int)) (b:=eX (x0,x1,x2,x3,x4,(n,s7),s8,s9,x6,x5)) (λj hj=>by
    simp only [eX];rw [if_pos (by omega),eu h8 hj];simp only [zbS];rw [wo];simp only [zbS];rw [fj hj (by omega)];by_cases c1:pl s8.l[j].1=true
    .rw [if_neg (by simp [c1]),if_pos c1]
    .rw [if_pos c1,if_neg c1]) (λj hj=>by simp only [eX];rw [if_neg (by omega)])with⟨q1,q2⟩|⟨q1,j,q2⟩
   .rw [q2,if_pos q1];simp only [zbS,Sum.elim_inl];rw [tM h8 l8];simp only [zbS];by_cases r1:rz s8.l=true
    .rw [if_neg (by simp [r1]),if_pos r1];by_cases t1:s9.l.length>65536
     .rw [if_pos (by omega),if_pos t1]
     .rw [if_neg (by omega),if_neg t1]
      rcases nh (l:=s9.l) (λe=>pl e.1 && pl e.2.1) (λj=>((j:Nat):Int)) (b:=eY (x0,x1,x2,x3,x4,(n,s7),s8,s9,x6,x5)) (λj hj=>by
       simp only [eY];rw [if_pos (by omega),eu h9 hj];simp only [zbS];rw [wo,wo];simp only [zbS];rw [fj hj (by omega)];by_cases c1:pl s9.l[j].1=true
       .rw [if_neg (by simp [c1])];by_cases c2:pl s9.l[j].2.1=true
        .rw [if_neg (by simp [c2]),if_pos (by simp [c1,c2])]
        .rw [if_pos c2,if_neg (by simp [c2])]
       .rw [if_pos c1,if_neg (by simp [c1])]) (λj hj=>by simp only [eY];rw [if_neg (by omega)])with⟨q3,q4⟩|⟨q3,j,q4⟩
      .rw [q4,if_pos q3];rfl
      .rw [q4,if_neg (show¬(s9.l.all λe=>pl e.1 && pl e.2.1)=true by rw [q3];simp)];simp only [zbS,Sum.elim_inl,Sum.elim_inr];rw [if_pos (by omega)]
    .rw [if_pos r1,if_neg r1]
   .rw [q2,if_neg (show¬(s8.l.all λe=>pl e.1)=true by rw [q1];simp)];simp only [zbS,Sum.elim_inl,Sum.elim_inr];rw [if_pos (by omega)]
  .rw [if_pos b1,if_neg b1]
 .rw [if_pos (by simp [hd]),if_neg hd]
end Ev
end
noncomputable section
namespace Ev
open Go Sm
structure TyX(x:FrX):Prop where
 o:OkX x
 v6:i8 x.2.2.2.2.2.2.2.2.1
 v7:∀e∈x.2.2.2.2.2.1.2.l,i8 e.2
 v8:∀e∈x.2.2.2.2.2.2.1.l,i8 e.2.1
 v9:∀e∈x.2.2.2.2.2.2.2.1.l,i8 e.2.2
 k7:x.2.2.2.2.2.1.2.l.length<=70000
 k8:x.2.2.2.2.2.2.1.l.length<=70000
 k9:x.2.2.2.2.2.2.2.1.l.length<=70000
theorem qm(x:Int)(k:Nat):btl x k=bts x k:=by
 unfold btl bts;refine List.map_congr_left λi _=> ?_;show x / 2 ^(8*i)% 256=_;rw [show(2:Int)^(8*i)=256 ^ i by rw [Int.pow_mul];rfl]
theorem qn{x:FrX}(h:cI x=0):(1<=x.1/\x.1<=7)/\tL x.2.1 x.2.2.1 x.2.2.2.1 x.2.2.2.2.1=true/\gC x.2.2.2.2.2.1=true/\(x.2.2.2.2.2.2.1.l.all λe=>pl e.1)=true/\rz x.2.2.2.2.2.2.1.l=true/\x.2.2.2.2.2.2.2.1.l.length<=65536/\(x.2.2.2.2.2.2.2.1.l.all λe=>pl e.1 && pl e.2.1)=true:=by
 unfold cI at h;by_cases c1:x.1<1∨7<x.1
 .rw [if_pos c1]at h;exact absurd h (by decide)
 rw [if_neg c1]at h;by_cases c2:tL x.2.1 x.2.2.1 x.2.2.2.1 x.2.2.2.2.1=true
 .rw [if_pos c2]at h;by_cases c3:gC x.2.2.2.2.2.1=true
  .rw [if_pos c3]at h;by_cases c4:(x.2.2.2.2.2.2.1.l.all λe=>pl e.1)=true
   .rw [if_pos c4]at h;by_cases c5:rz x.2.2.2.2.2.2.1.l=true
    .rw [if_pos c5]at h;by_cases c6:x.2.2.2.2.2.2.2.1.l.length>65536
     .rw [if_pos c6]at h;exact absurd h (by decide)
     .rw [if_neg c6]at h;by_cases c7:(x.2.2.2.2.2.2.2.1.l.all λe=>pl e.1 && pl e.2.1)=true
      .exact⟨by omega,c2,c3,c4,c5,by omega,c7⟩
      .rw [if_neg c7]at h;exact absurd h (by decide)
    .rw [if_neg c5]at h;exact absurd h (by decide)
   .rw [if_neg c4]at h;exact absurd h (by decide)
  .rw [if_neg c3]at h;exact absurd h (by decide)
 .rw [if_neg c2]at h;exact absurd h (by decide)
structure In0(x:FrX):Prop where
 a0:1<=x.1/\x.1<=7
 a1:0<=x.2.1/\x.2.1<64
 a2:0<=x.2.2.1/\x.2.2.1<64
 a3:0<=x.2.2.2.1/\x.2.2.2.1<=2147483647
 a4:0<=x.2.2.2.2.1/\x.2.2.2.2.1<=8192
 n:0<=x.2.2.2.2.2.1.1/\x.2.2.2.2.2.1.1<=4096
 i:∀e∈x.2.2.2.2.2.1.2.l,0<=e.1/\e.1<4096
 s:∀e∈x.2.2.2.2.2.2.1.l,0<=e.1/\e.1<4096
 t:∀e∈x.2.2.2.2.2.2.2.1.l,(0<=e.1/\e.1<4096)/\0<=e.2.1/\e.2.1<4096
theorem Cn{x:FrX}(h:cI x=0):In0 x:=by
 obtain⟨b1,b2,b3,b4,b5,b6,b7⟩:=qn h;simp only [tL,decide_eq_true_eq]at b2;have b3':iH x.2.2.2.2.2.1.1=true/\asc (-1) x.2.2.2.2.2.1.1 x.2.2.2.2.2.1.2.l=true:=by simpa [gC]using b3
 have hn:0<=x.2.2.2.2.2.1.1/\x.2.2.2.2.2.1.1<=4096:=by simpa [iH]using b3'.1
 refine⟨b1,b2.1,b2.2.1,b2.2.2.1,b2.2.2.2,hn,λe he=> ?_,λe he=> ?_,λe he=> ?_⟩
 .have:=wk b3'.2 e he;omega
 .have:=List.all_eq_true.1 b4 e he;simpa [pl]using this
 .have:=List.all_eq_true.1 b7 e he
  simpa [pl,and_assoc]using this
theorem IT{x:FrX}(h:TyX x)(h0:In0 x):Sm.Fe.okF x=true:=by
 obtain⟨⟨s7,s8,s9,_,_,_⟩,v6,v7,v8,v9,k7,k8,k9⟩:=h;obtain⟨a0,a1,a2,a3,a4,n,i,s,t⟩:=h0;have z2:∀{α:Type} {q:Sl α} {k:Nat},okS k q->q.sz=k∨q.l= []:=λh=>h.symm;simp only [Sm.Fe.okF,Sm.Fe.ok2,Sm.Fe.ok3,Bool.and_eq_true,Bool.or_eq_true,decide_eq_true_eq,List.isEmpty_iff,List.all_eq_true];exact⟨by omega,by omega,by omega,by constructor<;>omega,by constructor<;>omega,by constructor<;>omega,⟨k7,z2 s7,λe he=>⟨by have:=i e he;constructor<;>omega,v7 e he⟩⟩,⟨k8,z2 s8,λe he=>⟨by have:=s e he;constructor<;>omega,v8 e he⟩⟩,⟨k9,z2 s9,λe he=>⟨by have:=(t e he).1;constructor<;>omega,by have:=(t e he).2;constructor<;>omega,v9 e he⟩⟩,v6⟩
def wq(x:FrX):Sl Int×Int:=if cI x=0 then(⟨true,1,Sm.Fe.encF x⟩,0)else(⟨false,0,[]⟩,cI x)
theorem rA{x:FrX}(h:TyX x):cZ x=some (wq x):=by
 show Sm.Fe.fn x=_;unfold Sm.Fe.fn wq;rw [show K.bu x=some (cI x)from hZ h.o];simp only;by_cases h0:cI x=0
 .rw [if_pos h0,if_pos h0,if_pos (IT h (Cn h0))]
 .rw [if_neg h0,if_neg h0]
end Ev
end
noncomputable section
namespace Ev
open Go Sm
theorem aP(x:Int)(k:Nat):(btl x k).length=k:=by simp [btl]
theorem ia{y:Int}(h:0<=y/\y<4294967296):br y=some (btl y 4):=by
 rw [tE,Gp h,qm];rfl
theorem xP(y:Int):bU y=some (btl y 8):=by rw [Gq,qm]
theorem DN{x:Int}(h:0<=x/\x<256):btl x 1= [x]:=by
 simp [btl,bt];omega
theorem fL{α:Type}{f:α->List Int}{k:Nat}(hf:∀e,(f e).length=k)(l:List α):(l.flatMap f).length=k*l.length:=by
 induction l with
 |nil=>rfl
 |cons a r ih=>rw [List.flatMap_cons,List.length_append,hf,ih,List.length_cons,Nat.mul_add];omega
theorem wt(e:Int×Int):(itB e).length=12:=by simp [itB,aP]
theorem wu(e:Int×Int×Int):(suB e).length=20:=by simp [suB,aP]
theorem AD(e:Int×Int×Int):(trB e).length=16:=by simp [trB,aP]
theorem IU{x:FrX}(hs:okS 2 x.2.2.2.2.2.1.2)(hl:x.2.2.2.2.2.1.2.l.length<=70000)(hi:∀e∈x.2.2.2.2.2.1.2.l,0<=e.1/\e.1<4096)(H:List Int)(hH:H.length<=3000000):aX (eb x) (H,0)=some (.inl (H++x.2.2.2.2.2.1.2.l.flatMap itB)):=by
 obtain⟨x0,x1,x2,x3,x4,⟨n,s⟩,s8,s9,x6,x5⟩:=x;simp only at hs hl hi ⊢;rw [show s.l.flatMap itB=(s.l.take s.l.length).flatMap itB by rw [List.take_length]];refine gl s.l.length (λi=>(H++(s.l.take i).flatMap itB,(i:Int))) (by simp) (λi hj=> ?_) ?_
 .have hb:=hi s.l[i] (List.getElem_mem hj);have hlen:=fL wt (s.l.take i);rw [List.length_take,Nat.min_eq_left (by omega)]at hlen;simp only [eb];rw [if_pos (by omega),eu hs hj];simp only [zbS];rw [ia (by omega)];simp only [zbS];rw [de (by rw [List.length_append,aP,hlen];unfold bB;omega)];simp only [zbS];rw [xP];simp only [zbS];rw [de (by rw [List.length_append,List.length_append,aP,aP,hlen];unfold bB;omega)];simp only [zbS];rw [fj hj (by omega),List.take_succ_eq_append_getElem hj];simp only [itB,List.flatMap_append,List.flatMap_cons,List.flatMap_nil,List.append_nil,List.append_assoc]
 .simp only [eb];rw [if_neg (by omega)]
theorem IV{x:FrX}(hs:okS 3 x.2.2.2.2.2.2.1)(hl:x.2.2.2.2.2.2.1.l.length<=70000)(hi:∀e∈x.2.2.2.2.2.2.1.l,0<=e.1/\e.1<4096)(H:List Int)(hH:H.length<=3000000):aX (ec x) (H,0)=some (.inl (H++x.2.2.2.2.2.2.1.l.flatMap suB)):=by
 obtain⟨x0,x1,x2,x3,x4,⟨n,s7⟩,s,s9,x6,x5⟩:=x;simp only at hs hl hi ⊢;rw [show s.l.flatMap suB=(s.l.take s.l.length).flatMap suB by rw [List.take_length]];refine gl s.l.length (λi=>(H++(s.l.take i).flatMap suB,(i:Int))) (by simp) (λi hj=> ?_) ?_
 .have hb:=hi s.l[i] (List.getElem_mem hj);have hlen:=fL wu (s.l.take i);rw [List.length_take,Nat.min_eq_left (by omega)]at hlen;simp only [ec];rw [if_pos (by omega),eu hs hj];simp only [zbS];rw [ia (by omega)];simp only [zbS];rw [de (by rw [List.length_append,aP,hlen];unfold bB;omega)];simp only [zbS];rw [xP];simp only [zbS];rw [de (by rw [List.length_append,List.length_append,aP,aP,hlen];unfold bB;omega)];simp only [zbS];rw [xP];simp only [zbS];rw [de (by rw [List.length_append,List.length_append,List.length_append,aP,aP,aP,hlen];unfold bB;omega)];simp only [zbS];rw [fj hj (by omega),List.take_succ_eq_append_getElem hj];simp only [suB,List.flatMap_append,List.flatMap_cons,List.flatMap_nil,List.append_nil,List.append_assoc]
 .simp only [ec];rw [if_neg (by omega)]
theorem IW{x:FrX}(hs:okS 3 x.2.2.2.2.2.2.2.1)(hl:x.2.2.2.2.2.2.2.1.l.length<=70000)(hi:∀e∈x.2.2.2.2.2.2.2.1.l,(0<=e.1/\e.1<4096)/\0<=e.2.1/\e.2.1<4096)(H:List Int)(hH:H.length<=5000000):aX (ee x) (H,0)=some (.inl (H++x.2.2.2.2.2.2.2.1.l.flatMap trB)):=by
 obtain⟨x0,x1,x2,x3,x4,⟨n,s7⟩,s8,s,x6,x5⟩:=x;simp only at hs hl hi ⊢;rw [show s.l.flatMap trB=(s.l.take s.l.length).flatMap trB by rw [List.take_length]];refine gl s.l.length (λi=>(H++(s.l.take i).flatMap trB,(i:Int))) (by simp) (λi hj=> ?_) ?_
 .have hb:=hi s.l[i] (List.getElem_mem hj);have hlen:=fL AD (s.l.take i);rw [List.length_take,Nat.min_eq_left (by omega)]at hlen;simp only [ee];rw [if_pos (by omega),eu hs hj];simp only [zbS];rw [ia (by omega)];simp only [zbS];rw [de (by rw [List.length_append,aP,hlen];unfold bB;omega)];simp only [zbS];rw [ia (by omega)];simp only [zbS];rw [de (by rw [List.length_append,List.length_append,aP,aP,hlen];unfold bB;omega)];simp only [zbS];rw [xP];simp only [zbS];rw [de (by rw [List.length_append,List.length_append,List.length_append,aP,aP,aP,hlen];unfold bB;omega)];simp only [zbS];rw [fj hj (by omega),List.take_succ_eq_append_getElem hj];simp only [trB,List.flatMap_append,List.flatMap_cons,List.flatMap_nil,List.append_nil,List.append_assoc]
 .simp only [ee];rw [if_neg (by omega)]
theorem u8w{x:Int}(h:0<=x/\x<256):IntKind.u8.wrap x=x:=by simp [IntKind.wrap,IntKind.signed,IntKind.bits];omega
theorem rB{x:FrX}(h:TyX x):dI x=some (wq x):=by
 rw [qe,tN h.o];unfold wq;simp only [zbS];by_cases h0:cI x=0
 .rw [if_neg (by simp [h0]),if_pos h0];obtain⟨a0,a1,a2,a3,a4,n,i,s,t⟩:=Cn h0;have hov:(if x.2.2.2.2.2.2.2.2.2=true then some (Sum.inl 1)else some (Sum.inl 0):Option (Int ⊕ Empty))=some (.inl (if x.2.2.2.2.2.2.2.2.2 then 1 else 0)):=by split<;>rfl
  have b5:0<=(if x.2.2.2.2.2.2.2.2.2 then(1:Int)else 0)/\(if x.2.2.2.2.2.2.2.2.2 then(1:Int)else 0)<256:=by split<;>omega
  rw [hov];simp only [zbS,Sum.elim_inl];rw [ia (y:=x.2.2.2.1) (by omega),ia (y:=x.2.2.2.2.1) (by omega),xP,ia (y:=x.2.2.2.2.2.1.1) (by omega),ia (y:=(x.2.2.2.2.2.1.2.l.length:Int)) (by have:=h.k7;omega),ia (y:=(x.2.2.2.2.2.2.1.l.length:Int)) (by have:=h.k8;omega),ia (y:=(x.2.2.2.2.2.2.2.1.l.length:Int)) (by have:=h.k9;omega),u8w (x:=x.1) (by omega),u8w (x:=x.2.1) (by omega),u8w (x:=x.2.2.1) (by omega)];simp only [zbS];have q7:=fL wt x.2.2.2.2.2.1.2.l;have q8:=fL wu x.2.2.2.2.2.2.1.l
  have e1:Sm.Fe.encF x=(((((([x.1,x.2.1,x.2.2.1]++btl x.2.2.2.1 4)++btl x.2.2.2.2.1 4)++ [(if x.2.2.2.2.2.2.2.2.2 then 1 else 0)])++btl x.2.2.2.2.2.2.2.2.1 8)++btl x.2.2.2.2.2.1.1 4)++btl (x.2.2.2.2.2.1.2.l.length:Int) 4++x.2.2.2.2.2.1.2.l.flatMap itB)++btl (x.2.2.2.2.2.2.1.l.length:Int) 4++x.2.2.2.2.2.2.1.l.flatMap suB++btl (x.2.2.2.2.2.2.2.1.l.length:Int) 4++x.2.2.2.2.2.2.2.1.l.flatMap trB:=by
   unfold Sm.Fe.encF vT hdB mdB;rw [DN (x:=x.1) (by omega),DN (x:=x.2.1) (by omega),DN (x:=x.2.2.1) (by omega),DN b5];simp only [List.append_assoc,List.cons_append,List.nil_append]
  have k7:=h.k7;have k8:=h.k8;rw [e1];rw [de (by simp [aP,bB])];simp only [zbS];rw [de (by simp [aP,bB])];simp only [zbS];rw [de (by simp [aP,bB])];simp only [zbS];rw [de (by simp [aP,bB])];simp only [zbS];rw [de (by simp [aP,bB])];simp only [zbS];rw [de (by simp [aP,bB])];simp only [zbS];rw [IU h.o.s7 k7 i _ (by simp [aP])];simp only [zbS,Sum.elim_inl];rw [de (by simp only [List.length_append,aP,q7,List.length_cons,List.length_nil];unfold bB;omega)];simp only [zbS];rw [IV h.o.s8 k8 s _ (by simp only [List.length_append,aP,q7,List.length_cons,List.length_nil];omega)];simp only [zbS,Sum.elim_inl];rw [de (by simp only [List.length_append,aP,q7,q8,List.length_cons,List.length_nil];unfold bB;omega)];simp only [zbS];rw [IW h.o.s9 h.k9 t _ (by simp only [List.length_append,aP,q7,q8,List.length_cons,List.length_nil];omega)];simp only [zbS,Sum.elim_inl]
 .rw [if_pos h0,if_neg h0]
end Ev
end
noncomputable section
namespace Ev
open Go Sm
theorem DO{x y:Sl (Int×Int)}(hl:x.l.length<=9223372036854775806)(hx:okS 2 x)(hy:okS 2 y):an x y=some (decide (x.l=y.l)):=by
 rw [eI];exact gm hl hx hy (P:=λu v=>u.fst=v.fst/\u.snd=v.snd) (λu v=>Prod.ext_iff.symm) λa=>by unfold cz;rfl
theorem Gs{x y:Sl (Int×Int×Int)}(hl:x.l.length<=9223372036854775806)(hx:okS 3 x)(hy:okS 3 y):aK x y=some (decide (x.l=y.l)):=by
 rw [fm];exact gm hl hx hy (P:=λu v=>u.fst=v.fst/\u.snd.fst=v.snd.fst/\u.snd.snd=v.snd.snd) (λu v=>by rw [Prod.ext_iff,Prod.ext_iff]) λa=>by unfold cN;rfl
theorem Gt{x y:Sl (Int×Int×Int)}(hl:x.l.length<=9223372036854775806)(hx:okS 3 x)(hy:okS 3 y):aD x y=some (decide (x.l=y.l)):=by
 rw [dK];exact gm hl hx hy (P:=λu v=>u.fst=v.fst/\u.snd.fst=v.snd.fst/\u.snd.snd=v.snd.snd) (λu v=>by rw [Prod.ext_iff,Prod.ext_iff]) λa=>by unfold cd;rfl
theorem DP{x y:Sl (Int×Int×Int)}(hl:x.l.length<=9223372036854775806)(hx:okS 3 x)(hy:okS 3 y):cS x y=some (decide (x.l=y.l)):=by
 rw [ng];exact gm hl hx hy (P:=λu v=>u.fst=v.fst/\u.snd.fst=v.snd.fst/\u.snd.snd=v.snd.snd) (λu v=>by rw [Prod.ext_iff,Prod.ext_iff]) λa=>by unfold gT;rfl
theorem DQ{x y:Sl (Int×Int×Int)}(hl:x.l.length<=9223372036854775806)(hx:okS 3 x)(hy:okS 3 y):bZ x y=some (decide (x.l=y.l)):=by
 rw [jC];exact gm hl hx hy (P:=λu v=>u.fst=v.fst/\u.snd.fst=v.snd.fst/\u.snd.snd=v.snd.snd) (λu v=>by rw [Prod.ext_iff,Prod.ext_iff]) λa=>by unfold fK;rfl
structure EqX(x y:FrX):Prop where
 e0:x.1=y.1
 e1:x.2.1=y.2.1
 e2:x.2.2.1=y.2.2.1
 e3:x.2.2.2.1=y.2.2.2.1
 e4:x.2.2.2.2.1=y.2.2.2.2.1
 en:x.2.2.2.2.2.1.1=y.2.2.2.2.2.1.1
 e7:x.2.2.2.2.2.1.2.l=y.2.2.2.2.2.1.2.l
 e8:x.2.2.2.2.2.2.1.l=y.2.2.2.2.2.2.1.l
 e9:x.2.2.2.2.2.2.2.1.l=y.2.2.2.2.2.2.2.1.l
 e6:x.2.2.2.2.2.2.2.2.1=y.2.2.2.2.2.2.2.2.1
 e5:x.2.2.2.2.2.2.2.2.2=y.2.2.2.2.2.2.2.2.2
theorem EqX.refl(x:FrX):EqX x x:=⟨rfl,rfl,rfl,rfl,rfl,rfl,rfl,rfl,rfl,rfl,rfl⟩
theorem wv{x y:FrX}(hx:OkX x)(hy:OkX y)(h:EqX x y):cH x y=some true:=by
 rw [kP,if_pos h.e0,if_pos h.e1,if_pos h.e2,if_pos h.e3,if_pos h.e4,if_pos h.e6,if_pos h.en,DO hx.l7 hx.s7 hy.s7,Gs hx.l8 hx.s8 hy.s8,Gt hx.l9 hx.s9 hy.s9,decide_eq_true h.e7,decide_eq_true h.e8,decide_eq_true h.e9];simp [h.e5]
theorem ww{x y:FrX}(hx:OkX x)(hy:OkX y)(h:EqX x y):el x y=some true:=by
 rw [tG,if_pos h.e0,if_pos h.e1,if_pos h.e2,if_pos h.e3,if_pos h.e4,tF,if_pos h.en,xL hx.l7 hx.s7 hy.s7,DP hx.l8 hx.s8 hy.s8,DQ hx.l9 hx.s9 hy.s9,decide_eq_true h.e7,decide_eq_true h.e8,decide_eq_true h.e9];simp [h.e5,h.e6]
def X1:FrX:=(3,1,2,3,4,(2,⟨true,2,[(1,-5)]⟩),⟨true,3,[(7,-1,9)]⟩,⟨true,3,[(1,2,3)]⟩,-8,true)
def X0:FrX:=(0,0,0,0,0,(0,⟨false,0,[]⟩),⟨false,0,[]⟩,⟨false,0,[]⟩,0,false)
theorem ok_X1:TyX X1:=⟨⟨.inr rfl,.inr rfl,.inr rfl,by decide,by decide,by decide⟩,by decide,by decide,by decide,by decide,by decide,by decide,by decide⟩
theorem Kv:OkX X0:=⟨.inl rfl,.inl rfl,.inl rfl,by decide,by decide,by decide⟩
theorem xQ:cI X1=0:=by kernel_rfl
theorem IX:bg ⟨true,1,Sm.Fe.encF X1⟩=some (X1,(0,0)):=by kernel_rfl
theorem Gu:bg ⟨false,0,[]⟩=some (X0,(2,0)):=by kernel_rfl
theorem IY:((Sm.Fe.encF X1).length:Int)=84:=by kernel_rfl
theorem Gv:eo X1=some 3:=by rw [tH];kernel_rfl
theorem IZ:law19_live=some true:=by
 rw [tI];have e1:cZ X1=some (⟨true,1,Sm.Fe.encF X1⟩,0):=by rw [rA ok_X1];unfold wq;rw [if_pos xQ]
 have e2:cH X1 X0=some false:=by
  rw [kP,if_neg (by decide),if_neg (by decide)]
 change (cZ X1).bind _=_;rw [e1];simp only [zbS];rw [IX,Gu];simp only [zbS];rw [if_pos trivial,if_pos IY,if_pos ⟨trivial,trivial⟩];change (el X1 X1).bind _=_;rw [ww ok_X1.o ok_X1.o (EqX.refl _)];simp only [zbS];rw [if_pos trivial];change (cH X1 X1).bind _=_;rw [wv ok_X1.o ok_X1.o (EqX.refl _)];simp only [zbS];rw [if_pos trivial];change (cH X1 X0).bind _=_;rw [e2];simp only [zbS];rw [if_pos (by decide),if_pos ⟨trivial,trivial⟩];change (eo X1).bind _=_;rw [Gv];simp only [zbS];rw [if_pos trivial];change (bu X1).bind _=_;rw [hZ ok_X1.o,xQ];simp only [zbS];rw [if_pos trivial];change (bu X0).bind _=_;rw [hZ Kv];rfl
end Ev
end
noncomputable section
namespace Ev
open Go Sm
theorem Hy{x:Int}(h:inK .u64 x):0<=x/\x<18446744073709551616:=by
 have h:inK .u64 x:=h;simp [inK,Lit.wf,IntKind.min,IntKind.max,IntKind.signed,IntKind.bits]at h;constructor<;>omega
theorem uq{x:Int}(h:inK .i64 x):i8 x:=by
 have h:inK .i64 x:=h;simp [inK,Lit.wf,IntKind.min,IntKind.max,IntKind.signed,IntKind.bits]at h;constructor<;>omega
structure Gw(y:FrX):Prop where
 t:TyX y
 k7:y.2.2.2.2.2.1.2.l.length<=60
 k8:y.2.2.2.2.2.2.1.l.length<=40
 k9:y.2.2.2.2.2.2.2.1.l.length<=40
 u8:∀e∈y.2.2.2.2.2.2.1.l,0<=e.2.2/\e.2.2<18446744073709551616
theorem Hz{s:Sl (Int×Int×Int)}{Q:Int×Int×Int->Prop}(h:okS 3 s)(hl:(s.l.length:Int)>40):∃t,lU 3 s 0 40=some t/\okS 3 t/\t.l=s.l.take 40:=by
 refine⟨⟨s.nn,s.sz,(s.l.drop (0:Int).toNat).take ((40:Int).toNat - (0:Int).toNat)⟩,?_,?_,rfl⟩
 .unfold lU;rw [if_pos ⟨by omega,by omega,by omega,.inr rfl⟩]
 .rcases h with h|h
  .exact .inl (by rw [h];rfl)
  .exact .inr h
theorem Kw{x:FrX}(h:K.W Sm.Fd.Ft x):∃y,gh x=some y/\Gw y:=by
 obtain⟨x0,x1,x2,x3,x4,⟨n,s7⟩,s8,s9,x6,x5⟩:=x;obtain⟨w0,w1,w2,w3,w4,⟨wn,w7⟩,w8,w9,w6,_⟩:=h;have w7:K.W (.S (.C (.I .i64) (.I .i64))) s7:=w7;have w8:K.W (.S Sm.Fd.St) s8:=w8;have w9:K.W (.S Sm.Fd.Tt) s9:=w9;have w6:inK .i64 x6:=w6;obtain⟨v,e1,e2,e3,e4,_⟩:=xK (v:=(n,s7)) (.inr w7.1) w7.2.1;obtain⟨n',t7⟩:=v;simp only at e2 e3 e4;have m7:∀e∈t7.l,i8 e.2:=λe he=>uq (w7.2.2.2 e (List.mem_of_mem_take (by rw [<-e3];exact he))).2;have k7:t7.l.length<=60:=by rw [e3,List.length_take];omega
 have c8:∃t8:Sl (Int×Int×Int),((if(s8.l.length:Int)>40 then(lU 3 s8 0 40).bind λ(s':Sl (Int×Int×Int))=>some (Sum.inl (x0,x1,x2,x3,x4,n',t7,s',s9,x6,x5))else some (Sum.inl (x0,x1,x2,x3,x4,n',t7,s8,s9,x6,x5)):Option ((Int×Int×Int×Int×Int×Int×Sl (Int×Int)×Sl (Int×Int×Int)×Sl (Int×Int×Int)×Int×Bool)⊕ Empty)))=some (.inl (x0,x1,x2,x3,x4,n',t7,t8,s9,x6,x5))/\okS 3 t8/\t8.l.length<=40/\∀e∈t8.l,i8 e.2.1/\0<=e.2.2/\e.2.2<18446744073709551616:=by
  by_cases c:(s8.l.length:Int)>40
  .obtain⟨t,t1,t2,t3⟩:=Hz (Q:=λ_=>True) (s:=s8) (.inr w8.1) c;exact⟨t,by rw [if_pos c,t1];rfl,t2,by rw [t3,List.length_take];omega,λe he=>⟨uq (w8.2.2.2 e (List.mem_of_mem_take (by rw [<-t3];exact he))).2.1,Hy (w8.2.2.2 e (List.mem_of_mem_take (by rw [<-t3];exact he))).2.2⟩⟩
  .exact⟨s8,by rw [if_neg c],.inr w8.1,by omega,λe he=>⟨uq (w8.2.2.2 e he).2.1,Hy (w8.2.2.2 e he).2.2⟩⟩
 obtain⟨t8,f1,f2,f3,f4⟩:=c8
 have c9:∃t9:Sl (Int×Int×Int),(if(s9.l.length:Int)>40 then(lU 3 s9 0 40).bind λ(s':Sl (Int×Int×Int))=>some ((x0,x1,x2,x3,x4,(n',t7),t8,s',x6,x5):FrX)else some (x0,x1,x2,x3,x4,(n',t7),t8,s9,x6,x5))=some (x0,x1,x2,x3,x4,(n',t7),t8,t9,x6,x5)/\okS 3 t9/\t9.l.length<=40/\∀e∈t9.l,i8 e.2.2:=by
  by_cases c:(s9.l.length:Int)>40
  .obtain⟨t,t1,t2,t3⟩:=Hz (Q:=λ_=>True) (s:=s9) (.inr w9.1) c;exact⟨t,by rw [if_pos c,t1];rfl,t2,by rw [t3,List.length_take];omega,λe he=>uq (w9.2.2.2 e (List.mem_of_mem_take (by rw [<-t3];exact he))).2.2⟩
  .exact⟨s9,by rw [if_neg c],.inr w9.1,by omega,λe he=>uq (w9.2.2.2 e he).2.2⟩
 obtain⟨t9,g1,g2,g3,g4⟩:=c9;refine⟨(x0,x1,x2,x3,x4,(n',t7),t8,t9,x6,x5),?_,⟨⟨⟨e4,f2,g2,?_,?_,?_⟩,uq w6,m7,λe he=>(f4 e he).1,g4,?_,?_,?_⟩,k7,f3,g3,λe he=>(f4 e he).2⟩⟩
 .rw [wi];simp only;rw [e1];simp only [zbS];rw [f1];simp only [zbS,Sum.elim_inl];exact g1
 all_goals (simp only;omega)
end Ev
end
noncomputable section
namespace Ev
open Go Sm
def RdAt{α:Type}(r:Rd α)(enc:List Int)(x:α):Prop:=∀(pre post B:List Int) (f:Nat->Int) (m:Nat),B=pre++(enc++post)->(∀i,i<m->f i=B.getD i 0)->pre.length<=m->
 r f m pre.length=if pre.length+enc.length<=m then .ok (x,pre.length+enc.length)else .error (2,(m:Int))
theorem RdAt.ret{α:Type}(x:α):RdAt (eG x) [] x:=λpre post B f m hB hf hm=>by
 rw [if_pos (by simpa using hm)];rfl
theorem RdAt.bind{α β:Type}{r:Rd α}{s:α->Rd β}{e e':List Int}{x:α}{y:β}(h:RdAt r e x)(h':RdAt (s x) e' y):RdAt (az r s) (e++e') y:=λpre post B f m hB hf hm=>by
 have h1:=h pre (e'++post) B f m (by rw [hB];simp) hf hm;by_cases c:pre.length+e.length<=m
 .rw [if_pos c]at h1;have h2:=h' (pre++e) post B f m (by rw [hB];simp) hf (by simpa using c);rw [List.length_append]at h2;rw [ap h1,h2];simp only [List.length_append,Nat.add_assoc]
 .rw [if_neg c]at h1;rw [ar h1,if_neg (by rw [List.length_append];omega)]
theorem RdAt.bind0{α β:Type}{r:Rd α}{s:α->Rd β}{e:List Int}{x:α}{y:β}(h:RdAt r e x)(h':RdAt (s x) [] y):RdAt (az r s) e y:=by
 have:=h.bind h'
 rwa [List.append_nil]at this
theorem iW{most e2 x:Int}(h0:0<=x)(h1:x<=most)(h2:most<=2147483647):RdAt (cO most e2) (btl x 4) x:=λpre post B f m hB hf hm=>by
 rw [aP];exact Gm (by rw [hB,qm]) hf h0 h1 h2
theorem ni{least most e2 x:Int}(h0:least<=x)(h1:x<=most)(h2:0<=x/\x<256):RdAt (bA least most e2) (btl x 1) x:=λpre post B f m hB hf hm=>by
 rw [aP];unfold bA;by_cases c:pre.length+1<=m
 .have:f pre.length=x:=by
   rw [hf _ (by omega),hB,DN h2];simp [List.getD_eq_getElem?_getD]
  rw [if_pos c,if_pos c,this,if_neg (by omega)]
 .rw [if_neg c,if_neg c]
theorem nj{x:Int}(h:i8 x):RdAt cL (btl x 8) x:=λpre post B f m hB hf hm=>by
 rw [aP];unfold cL;by_cases c:pre.length+8<=m
 .rw [if_pos c,if_pos c,Ku (n:=x) (post:=post) (by rw [hB,qm]) hf ⟨h.1,by have:=h.2;omega⟩ c]
 .rw [if_neg c,if_neg c]
theorem AE{last n x:Int}(h0:0<=x)(h1:x<n)(h2:n<=4096)(h3:last<x):RdAt (iE last n) (btl x 4) x:=λpre post B f m hB hf hm=>by
 have:=iW (most:=n - 1) (e2:=3) h0 (by omega) (by omega) pre post B f m hB hf hm
 unfold iE;rw [show iB f m pre.length (n - 1) 3=_ from this];by_cases c:pre.length+(btl x 4).length<=m
 .rw [if_pos c];simp only;rw [if_neg (by omega)]
 .rw [if_neg c]
def rC{τ:Type}(key:τ->Int)(d:Int)(l:List τ):Int:=match l.getLast? with
 |some z=>key z
 |none=>d
theorem rD{τ:Type}(key:τ->Int)(d:Int)(t:τ):∀(l:List τ),rC key d (t::l)=rC key (key t) l
 | []=>rfl
 |a::r=>by unfold rC;rw [List.getLast?_cons_cons];cases h:(a::r).getLast? with|none=>simp at h|some z=>rfl
theorem wx{τ:Type}{item:Int->Rd τ}{key:τ->Int}{enc:τ->List Int}{P:Int->τ->Prop}(hi:∀last t,P last t->RdAt (item last) (enc t) t):∀(l:List τ) (last:Int),(∀(pre:List τ) t post,l=pre++t::post->P (rC key last pre) t)->RdAt (dV item key l.length last) (l.flatMap enc) l
 | [],last,_=>RdAt.ret _
 |t::l,last,h=>by
  simp only [List.length_cons,dV,List.flatMap_cons];refine(hi last t (h [] t l rfl)).bind ?_;refine RdAt.bind0 (wx hi l (key t) λpre u post hu=> ?_) (RdAt.ret _)
  have:=h (t::pre) u post (by rw [hu];rfl)
  rwa [rD]at this
theorem Gx{n last:Int}{t:Int×Int}(h0:0<=t.1)(h1:t.1<n)(h2:n<=4096)(h3:last<t.1)(h8:i8 t.2):RdAt (fV n last) (itB t) t:=
 (AE h0 h1 h2 h3).bind ((nj h8).bind0 (RdAt.ret t))
theorem Gy{z:Int}(h:0<=z/\z<18446744073709551616):IntKind.u64.wrap (IntKind.i64.wrap z)=z:=by
 simp [IntKind.wrap,IntKind.signed,IntKind.bits];split<;>omega
theorem Ja{last:Int}{t:Int×Int×Int}(h0:0<=t.1)(h1:t.1<4096)(h3:last<t.1)(h8:i8 t.2.1)(hz:0<=t.2.2/\t.2.2<18446744073709551616):RdAt (pK last) (suB t) t:=by
 refine(AE h0 h1 (by decide) h3).bind ((nj h8).bind ((nj (Az t.2.2)).bind0 ?_));rw [Gy hz];exact RdAt.ret t
theorem Jb{last:Int}{t:Int×Int×Int}(h:(0<=t.1/\t.1<4096)/\0<=t.2.1/\t.2.1<4096)(h8:i8 t.2.2):RdAt (om last) (trB t) t:=
 (iW h.1.1 (by omega) (by decide)).bind ((iW h.2.1 (by omega) (by decide)).bind ((nj h8).bind0 (RdAt.ret t)))
end Ev
end
end Go.Proofs.Ytkmbihigeeclbaa
