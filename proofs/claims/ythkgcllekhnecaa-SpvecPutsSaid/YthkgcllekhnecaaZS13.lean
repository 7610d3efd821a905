/- Texts of a claim, joined. -/
import Derived.Test.YthkgcllekhnecaaZS12
import Derived.Test.YthkgcllekhnecaaZS9
import Derived.OpenShut
import Derived.Test.YthkgcllekhnecaaZS11
import Derived.Test.YthkgcllekhnecaaZS10
set_option linter.unusedVariables false
set_option linter.unusedSimpArgs false
namespace Go.Proofs.Ythkgcllekhnecaa
noncomputable section
namespace Ev
namespace K
open Go Go.RowKit
def W:(e:Ty)→e.val→Prop
 | .I k,x=>inK k x
 | .B,_=>True
 | .S e,x=>SlW e.size (fun y=>W e y) x
 | .U,_=>True
 | .C a b,x=>W a x.1∧W b x.2
def Op(P:Program)(t:TypeId)(e:Ty):Prop:=∀ts,Typ P t ts→∃x:e.val,ts=e.row x∧W e x
def Ops(P:Program)(tl:List TypeId)(e:Ty):Prop:=∀tss:List (List T),tss.length=tl.length→(∀(i:Nat) t l,tl[i]? =some t→tss[i]? =some l→Typ P t l)→∃x:e.val,tss.flatten=e.row x∧W e x
section
variable {P : Program} {t : TypeId} {tl : List TypeId} {e a b : Ty}
theorem iV{k:IntKind}(h:P.underlying t=some (.int k)):Op P t (.I k):=fun ts ht=>NA h ht
theorem pV{t':TypeId}(h:P.underlying t=some (.slice t'))(hc:P.cellsOf t'=e.size)(ho:Op P t' e):Op P t (.S e):=fun ts ht=>Jm (r:=e.row) (Q:=fun y=>W e y) h hc ho ht
theorem kT(h:Op P t e):Ops P [t] e:=fun tss hl ht=>by
 obtain⟨l,rfl⟩:=List.length_eq_one_iff.1 hl;obtain⟨x,h1,h2⟩:=h l (ht 0 t l rfl rfl);exact⟨x,by simp [h1],h2⟩
theorem iW(h:Op P t a)(h':Ops P tl b):Ops P (t::tl) (.C a b):=fun tss hl ht=>by
 match tss,hl with
 |l::tss,hl=>
  obtain⟨x,h1,h2⟩:=h l (ht 0 t l rfl rfl);obtain⟨y,h3,h4⟩:=h' tss (by simpa using hl) fun i t' l' a b=>ht (i+1) t' l' a b;exact⟨(x,y),by rw [List.flatten_cons,h1,h3];rfl,h2,h4⟩
theorem kn{fs:Array Field}(h:P.underlying t=some (.struct fs))(hf:fs.toList.map (·.type)=tl)(ho:Ops P tl e):Op P t e:=fun ts ht=>by
 obtain⟨tss,rfl,h1,h2⟩:=Gn h ht;subst hf;refine ho tss (by simpa using h1) fun i t' l hi hl=> ?_;rw [List.getElem?_map,Option.map_eq_some_iff]at hi;obtain⟨f,hf,rfl⟩:=hi;exact h2 i f l hf hl
theorem DD{n:Nat}{t':TypeId}(h:P.underlying t=some (.array n t'))(ho:Ops P (List.replicate n t') e):Op P t e:=fun ts ht=>by
 obtain⟨tss,rfl,h1,h2⟩:=Jn h ht;refine ho tss (by simpa using h1) fun i t'' l hi hl=> ?_
 have:=List.eq_of_mem_replicate (List.mem_of_getElem? hi)
 subst this;exact h2 l (List.mem_of_getElem? hl)
theorem gU{ts:List TypeId}{tds:List TD}{d:TypeDesc}(hu:P.underlying t=some d)(hd:aH d=false)(ho:Op P t e)(h:gm P (t::ts) tds):∃(x:e.val) (r:List TD),tds=kA (false,e) x::r∧W e x∧gm P ts r:=by
 obtain⟨y,r,rfl,h1,h2⟩:=Ly hu hd h;obtain⟨x,h3,h4⟩:=ho _ h1;refine⟨x,r,?_,h4,h2⟩;show TD.one y::r=(match e.row x with| [y]=>TD.one y|ys=>TD.agg ys)::r;rw [←h3]
theorem pW{ts:List TypeId}{tds:List TD}{d:TypeDesc}(hu:P.underlying t=some d)(hd:aH d=true)(ho:Op P t e)(h:gm P (t::ts) tds):∃(x:e.val) (r:List TD),tds=kA (true,e) x::r∧W e x∧gm P ts r:=by
 obtain⟨y,r,rfl,h1,h2⟩:=Lz hu hd h;obtain⟨x,h3,h4⟩:=ho _ h1;exact⟨x,r,by rw [h3];rfl,h4,h2⟩
end
theorem uq{E:Env}{en:aF}(ok:af E en){a:aE en.ins}{tds:List TD}(ht:tds=bp en.ins a)(ho:en.out= .data true [(false,.B)])(h:en.f a=some (cast (by rw [ho]) true)):∃m n kind,(bY E m n).1 en.k tds=some (kind,[.one (.v (.bool true))]):=by
 have h1:=ok 0 a _ h;subst ht;obtain⟨k,ins,out,f,d⟩:=en;dsimp only at ho;subst ho;exact Qc h1
end K
end Ev
end
noncomputable section
namespace Ev
open Go
abbrev Rise(l:List P2):Prop:=l.Pairwise fun a b=>a.1<b.1
def iX(l:List P2)(p x:Int):List P2:=l.filter (fun y=>decide (y.1<p))++(p,x)::l.filter (fun y=>decide (p<y.1))
def lE(l:List P2)(p:Int):List P2:=l.filter fun y=>decide (y.1≠p)
def vQ(l:List P2)(p:Int):Option Int:=(l.find? fun y=>decide (y.1=p)).map (·.2)
def dV(l:List P2)(a b:Int):List P2:=l.filter fun y=>decide (a≤y.1)&& decide (y.1<b)
def upL(d:Int)(l:List P2):List P2:=l.map fun y=>(y.1+d,y.2)
theorem Rise.filter{l:List P2}(h:Rise l)(p:P2→Bool):Rise (l.filter p):=h.sublist List.filter_sublist
theorem Rise.up{l:List P2}(h:Rise l)(d:Int):Rise (upL d l):=by
 unfold upL Rise;rw [List.pairwise_map];exact h.imp fun{a b} h=>by show a.1+d<b.1+d;omega
theorem MJ{d:Int}{l:List P2}{y:P2}(h:y∈upL d l):(y.1 - d,y.2)∈l:=by
 obtain⟨x,hx,rfl⟩:=List.mem_map.1 h;rw [show((x.1+d,x.2).1 - d,(x.1+d,x.2).2)=x from Prod.ext (by show x.1+d - d=x.1;omega) rfl];exact hx
theorem Fx(d e:Int)(l:List P2):upL d (upL e l)=upL (e+d) l:=by
 unfold upL;rw [List.map_map];refine List.map_congr_left fun x _=> ?_;exact Prod.ext (by show x.1+e+d=x.1+(e+d);omega) rfl
theorem DE(l:List P2):upL 0 l=l:=by
 unfold upL
 conv=>rhs;rw [←List.map_id l]
 refine List.map_congr_left fun x _=> ?_;exact Prod.ext (by show x.1+0=x.1;omega) rfl
theorem ur(d:Int)(l:List P2):(upL d l).length=l.length:=by unfold upL;rw [List.length_map]
theorem Pm(d a b:Int)(l:List P2):dV (upL d l) a b=upL d (dV l (a - d) (b - d)):=by
 unfold dV upL;rw [List.filter_map];congr 1;refine List.filter_congr fun x _=> ?_;show(decide (a≤x.1+d)&& decide (x.1+d<b))=(decide (a - d≤x.1)&& decide (x.1<b - d));rw [Bool.eq_iff_iff];simp only [Bool.and_eq_true,decide_eq_true_eq];omega
theorem MK(a b c d:Int)(l:List P2):dV (dV l a b) c d=dV l (max a c) (min b d):=by
 unfold dV;rw [List.filter_filter];refine List.filter_congr fun x _=> ?_;rw [Bool.eq_iff_iff];simp only [Bool.and_eq_true,decide_eq_true_eq];omega
theorem ML{l:List P2}{a b:Int}(h:∀y∈l,a≤y.1∧y.1<b):dV l a b=l:=by
 unfold dV;rw [List.filter_eq_self];intro y hy
 have:=h y hy
 simp;omega
theorem BE(l:List P2)(a b:Int):(dV l a b).length≤l.length:=List.length_filter_le _ _
theorem cut_mem{l:List P2}{a b:Int}{y:P2}:y∈dV l a b↔y∈l∧a≤y.1∧y.1<b:=by
 unfold dV;rw [List.mem_filter];simp only [Bool.and_eq_true,decide_eq_true_eq]
theorem MM{l:List P2}(h:Rise l){a b c:Int}(h1:a≤b)(h2:b≤c):dV l a b++dV l b c=dV l a c:=by
 have hr:Rise (dV l a c):=h.filter _;obtain⟨g1,g2⟩:=bL (y:=b) hr
 have:=List.take_append_drop (bt (dV l a c) b) (dV l a c)
 rw [←this,g1,g2];unfold dV;rw [List.filter_filter,List.filter_filter];congr 1
 ·refine List.filter_congr fun x _=> ?_;rw [Bool.eq_iff_iff];simp only [Bool.and_eq_true,decide_eq_true_eq];omega
 ·refine List.filter_congr fun x _=> ?_;rw [Bool.eq_iff_iff];simp only [Bool.and_eq_true,decide_eq_true_eq];omega
theorem MN{A m:List P2}{y:Int}(h:∀x∈A,x.1<y):bt (A++m) y=A.length+bt m y:=by
 unfold bt;rw [List.takeWhile_append_of_pos (by intro a ha;simpa using h a ha),List.length_append]
theorem MO{l:List P2}(h:Rise l){a b:Int}(hab:a≤b):bt l a≤bt l b∧(l.drop (bt l a)).take (bt l b - bt l a)=dV l a b:=by
 obtain⟨g1,g2⟩:=bL (y:=a) h;have hsp:=List.take_append_drop (bt l a) l
 have hA:∀x∈l.take (bt l a),x.1<b:=fun x hx=>by
  rw [g1]at hx
  have:=(List.mem_filter.1 hx).2
  simp at this;omega
 have hlen:(l.take (bt l a)).length=bt l a:=by rw [List.length_take];have:=Bj l a;omega
 have hb:bt l b=bt l a+bt (l.drop (bt l a)) b:=by
  have:=MN (m:=l.drop (bt l a)) hA
  rw [hsp,hlen]at this;exact this
 refine⟨by omega,?_⟩;rw [hb,Nat.add_sub_cancel_left];have hr:Rise (l.drop (bt l a)):=h.sublist (List.drop_sublist _ _);rw [(bL (y:=b) hr).1,g2,List.filter_filter];unfold dV;refine List.filter_congr fun x _=> ?_;rw [Bool.eq_iff_iff];simp only [Bool.and_eq_true,decide_eq_true_eq];omega
theorem ot{l:List P2}(h:Rise l){p:Int}(hi:isI l p=true)(hlt:bt l p<l.length):l[bt l p].1=p∧l.drop (bt l p+1)=l.filter (fun y=>decide (p<y.1)):=by
 unfold isI at hi;rw [List.getElem?_eq_getElem hlt]at hi;simp only [Option.map_some,zsI,decide_eq_true_eq]at hi;obtain⟨g1,g2⟩:=bL (y:=p) h;refine⟨hi,?_⟩;have hr:Rise (l.drop (bt l p)):=h.sublist (List.drop_sublist _ _);rw [List.drop_eq_getElem_cons hlt]at hr g2
 have e:l.filter (fun y=>decide (p<y.1))=(l.filter (fun y=>decide (p≤y.1))).filter (fun y=>decide (p<y.1)):=by
  rw [List.filter_filter];refine List.filter_congr fun x _=> ?_;rw [Bool.eq_iff_iff];simp only [Bool.and_eq_true,decide_eq_true_eq];omega
 rw [e,←g2,List.filter_cons_of_neg (by simp [hi])]
 symm
 rw [List.filter_eq_self];intro y hy
 have:=(List.pairwise_cons.1 hr).1 y hy
 simp;omega
theorem rD{l:List P2}(h:Rise l){p:Int}(hi:isI l p=false):l.drop (bt l p)=l.filter (fun y=>decide (p<y.1))∧∀y∈l,y.1≠p:=by
 have hn:∀y∈l,y.1≠p:=fun y hy e=>by
  have:=(MG h).2 ⟨y,hy,e⟩
  rw [hi]at this;cases this
 refine⟨?_,hn⟩;rw [(bL (y:=p) h).2];refine List.filter_congr fun x hx=> ?_
 have:=hn x hx
 rw [Bool.eq_iff_iff];simp only [decide_eq_true_eq];omega
theorem IP{l:List P2}(h:Rise l){p x:Int}(hi:isI l p=true){q:Int}(hq:∀hlt:bt l p<l.length,q=l[bt l p].1):l.set (bt l p) (q,x)=iX l p x:=by
 have hlt:=rp hi;obtain⟨e1,e2⟩:=ot h hi hlt;unfold iX;rw [hq hlt,e1,←e2,←(bL (y:=p) h).1,List.set_eq_take_append_cons_drop,if_pos hlt]
theorem MP{l:List P2}(h:Rise l){p x:Int}(hi:isI l p=false):l.take (bt l p)++(p,x)::l.drop (bt l p)=iX l p x:=by
 unfold iX;rw [(rD h hi).1,(bL (y:=p) h).1]
theorem Fy{l:List P2}(h:Rise l){p:Int}(hi:isI l p=true):l.take (bt l p)++l.drop (bt l p+1)=lE l p:=by
 have hlt:=rp hi;obtain⟨e1,e2⟩:=ot h hi hlt;rw [e2,(bL (y:=p) h).1];have hsp:=List.take_append_drop (bt l p) l;unfold lE
 conv=>rhs;rw [←hsp]
 rw [List.filter_append,(bL (y:=p) h).1,(bL (y:=p) h).2,List.filter_filter,List.filter_filter];congr 1
 ·refine List.filter_congr fun x _=> ?_;rw [Bool.eq_iff_iff];simp only [Bool.and_eq_true,decide_eq_true_eq];omega
 ·refine List.filter_congr fun x _=> ?_;rw [Bool.eq_iff_iff];simp only [Bool.and_eq_true,decide_eq_true_eq];omega
theorem IQ{l:List P2}(h:Rise l){p:Int}(hi:isI l p=false):l=lE l p:=by
 unfold lE
 symm
 rw [List.filter_eq_self];intro y hy;simpa using (rD h hi).2 y hy
theorem mJ{l:List P2}(h:Rise l){p x:Int}:vQ l p=some x↔(p,x)∈l:=by
 unfold vQ;constructor
 ·intro hg;obtain⟨y,hy,rfl⟩:=Option.map_eq_some_iff.1 hg;have h1:=List.find?_some hy;simp only [decide_eq_true_eq]at h1;have h2:=List.mem_of_find?_eq_some hy;rw [←h1];exact h2
 ·intro hm
  cases hf:l.find? (fun y=>decide (y.1=p))with
  |none=>
   have:=List.find?_eq_none.1 hf (p,x) hm
   simp at this
  |some y=>
   have h1:=List.find?_some hf;simp only [decide_eq_true_eq]at h1;have h2:=List.mem_of_find?_eq_some hf
   have:y=(p,x):=by
    obtain⟨i,hi,e1⟩:=List.mem_iff_getElem.1 h2;obtain⟨j,hj,e2⟩:=List.mem_iff_getElem.1 hm;have hp:=List.pairwise_iff_getElem.1 h;rcases Nat.lt_trichotomy i j with hh|hh|hh
    ·have:=hp i j hi hj hh
     rw [e1,e2]at this;simp only at this;omega
    ·subst hh;rw [←e1,←e2]
    ·have:=hp j i hj hi hh
     rw [e1,e2]at this;simp only at this;omega
   subst this;rfl
theorem IR{l:List P2}(h:Rise l){p:Int}(hi:isI l p=true)(hlt:bt l p<l.length):vQ l p=some l[bt l p].2:=by
 rw [mJ h]
 have:=(ot h hi hlt).1
 have hm:=List.getElem_mem hlt;rw [show(p,l[bt l p].2)=l[bt l p]from Prod.ext this.symm rfl];exact hm
theorem vR{l:List P2}{p:Int}(h:∀y∈l,y.1≠p):vQ l p=none:=by
 unfold vQ;rw [Option.map_eq_none_iff,List.find?_eq_none];intro y hy;simpa using h y hy
theorem Rise.put{l:List P2}(h:Rise l)(p x:Int):Rise (iX l p x):=by
 unfold iX Rise;rw [List.pairwise_append];refine⟨h.filter _,List.pairwise_cons.2 ⟨fun y hy=> ?_,h.filter _⟩,fun a ha b hb=> ?_⟩
 ·have:=(List.mem_filter.1 hy).2
  simpa using this
 ·have h1:=(List.mem_filter.1 ha).2;simp only [decide_eq_true_eq]at h1;rcases List.mem_cons.1 hb with rfl|hb
  ·exact h1
  ·have h2:=(List.mem_filter.1 hb).2;simp only [decide_eq_true_eq]at h2;omega
theorem put_mem{l:List P2}{p x:Int}{y:P2}:y∈iX l p x↔y=(p,x)∨y∈l∧y.1≠p:=by
 unfold iX;rw [List.mem_append,List.mem_cons,List.mem_filter,List.mem_filter];simp only [decide_eq_true_eq];constructor
 ·rintro(⟨h1,h2⟩|rfl|⟨h1,h2⟩)
  ·exact .inr ⟨h1,by omega⟩
  ·exact .inl rfl
  ·exact .inr ⟨h1,by omega⟩
 ·rintro(rfl|⟨h1,h2⟩)
  ·exact .inr (.inl rfl)
  ·rcases Int.lt_or_gt_of_ne h2 with h|h
   ·exact .inl ⟨h1,h⟩
   ·exact .inr (.inr ⟨h1,h⟩)
theorem MQ{l:List P2}(h:Rise l){p x q:Int}:vQ (iX l p x) q=if q=p then some x else vQ l q:=by
 by_cases hq:q=p
 ·rw [if_pos hq,mJ (h.put p x),put_mem,hq];exact .inl rfl
 ·rw [if_neg hq]
  cases hg:vQ l q with
  |some z=>
   rw [mJ (h.put p x),put_mem];exact .inr ⟨(mJ h).1 hg,hq⟩
  |none=>
   refine vR fun y hy e=> ?_;rcases put_mem.1 hy with rfl|⟨h1,h2⟩
   ·exact hq e.symm
   ·have:=(mJ h (p:=q) (x:=y.2)).2 (by rw [←e];exact h1)
    rw [hg]at this;cases this
theorem Hh(l:List P2)(p x:Int):(iX l p x).length≤l.length+1:=by
 have key:∀l:List P2,(l.filter fun y=>decide (y.1<p)).length+(l.filter fun y=>decide (p<y.1)).length≤l.length:=by
  intro l
  induction l with
  |nil=>simp
  |cons y l ih=>
   rw [List.filter_cons,List.filter_cons];split<;>split<;>rename_i h1 h2<;>simp only [decide_eq_true_eq]at h1 h2<;>simp only [List.length_cons]<;>omega
 unfold iX;rw [List.length_append,List.length_cons];exact(by omega:∀a b c:Nat,a+b≤c→a+(b+1)≤c+1) _ _ _ (key l)
end Ev
end
noncomputable section
namespace Ev
open Go Go.RowKit
def kd(x:Int)(y:Int)(z:Sl (Int×Int)):Option ((Int×(Sl (Int×Int)))×Int):=K.kd (x,y,z)
def iz(x:Int×(Sl (Int×Int)))(y:Int)(z:Int):Option (Int×(Sl (Int×Int))):=K.iz (x,y,z)
def iM(x:Int×(Sl (Int×Int)))(y:Int):Option (Int×(Sl (Int×Int))):=K.iM (x,y)
def FL10:Option (Bool):=K.FL10 ()
def iN(x:Int):Option (Bool):=K.iN x
def ee(x:Int×Int×Int)(y:Int×Int×Int):Option (Bool):=K.ee (x,y)
def ke(x:Int):Option (Int×Int):=K.ke x
def cS(x:Int×Int)(y:Int×Int):Option (Int):=K.cS (x,y)
def eh(x:Bool):Option (Int×Int):=K.eh x
def iA(x:Int×Int)(y:Int×Int):Option (Int×Int):=K.iA (x,y)
def iB(x:Int)(y:Int×Int)(z:Int×Int):Option (Int×Int):=K.iB (x,y,z)
def du(x:Int×Int):Option (Int×Bool):=K.du x
def dP(x:Int)(y:Sl (Int×Int×Int)):Option ((Sl (Int×Int×Int))×Int):=K.dP (x,y)
def iO(x:Int)(y:Int)(z:Sl (Int×Int)):Option ((Int×(Sl (Int×Int)))×Int):=K.iO (x,y,z)
def gq(x:Int×(Sl (Int×Int)))(y:Int):Option (Int×Bool):=K.gq (x,y)
def spvec_moved(x:Sl (Int×Int))(y:Int):Option (List (Int×Int)):=K.spvec_moved (x,y)
def cT(x:Int×(Sl (Int×Int)))(y:Int)(z:Int):Option (Int×(Sl (Int×Int))):=K.cT (x,y,z)
def cL(x:Sl (Int×Int))(y:Sl (Int×Int)):Option (Bool):=K.cL (x,y)
def aZ(x:Int×(Sl (Int×Int)))(y:Int×(Sl (Int×Int))):Option (Bool):=K.aZ (x,y)
def eM(x:Int×(Sl (Int×Int))):Option (List (Int)):=K.eM x
def cD(x:Sl (Int))(y:Sl (Int)):Option (Bool):=K.cD (x,y)
def fI(x:Int×(Sl (Int×Int))):Option (Int×(Sl (Int×Int))):=K.fI x
def fx(x:Int)(y:Int):Option (Int×(Sl (Int×Int))):=K.fx (x,y)
def aI(x:Sl (Int×Int))(y:Sl (Int×Int)):Option (Bool):=K.aI (x,y)
def cq(x:Int×(Sl (Int×Int)))(y:Int×(Sl (Int×Int))):Option (Bool):=K.cq (x,y)
def fy(x:Int)(y:Int):Option (Int×(Sl (Int×Int))):=K.fy (x,y)
def eZ(x:Int)(y:Int)(z:Sl (Int×Int)):Option (Bool):=K.eZ (x,y,z)
def iE(x:Int×(Sl (Int×Int))):Option (Int×(Sl (Int×Int))):=K.iE x
def eo(x:Int×(Sl (Int×Int))):Option (Bool):=K.eo x
def cE(x:Int×(Sl (Int×Int))):Option (Int×(Sl (Int×Int))):=K.cE x
def gu(x:Int×(Sl (Int×Int)))(y:Int):Option (Int×Bool):=K.gu (x,y)
def iF(x:Int×(Sl (Int×Int)))(y:Int)(z:Int):Option (Int×(Sl (Int×Int))):=K.iF (x,y,z)
def gv(x:Int×(Sl (Int×Int)))(y:Int):Option (Int×(Sl (Int×Int))):=K.gv (x,y)
def eN(x:Int×(Sl (Int×Int))):Option (List (Int)):=K.eN x
def fJ(x:Int×(Sl (Int×Int))):Option (Int×(Sl (Int×Int))):=K.fJ x
def gw(x:Int×(Sl (Int×Int)))(y:Int)(z:Int):Option (Int×(Sl (Int×Int))):=K.gw (x,y,z)
def fB(x:Int)(y:Sl (Int×Int)):Option (Int×(Sl (Int×Int))):=K.fB (x,y)
def dL(x:Int)(y:Sl (Int×Int))(z:Int×Int):Option (Bool):=K.dL (x,y,z)
def spvec_Glue(x:Sl (Int×(Sl (Int×Int)))):Option ((Int×(Sl (Int×Int)))×Int):=K.spvec_Glue x
def cZ(x:Int)(y:Sl (Int×Int))(z:Int×Int):Option (Bool):=K.cZ (x,y,z)
end Ev
end
noncomputable section
namespace Ev
open Go Go.RowKit
set_option maxRecDepth 100000
set_option maxHeartbeats 1000000
abbrev yC:=Int×Int×Sl Int×Sl Int×Sl Int×Sl Int
abbrev yM:=Int×Int×Sl Int×Sl Int×Sl Int
abbrev yT:=Int×Int×Int
theorem DF(x:Int):iN x=if x ≥ 1 then some (decide (x≤5))else some false:=by kernel_rfl
theorem vS(x:Int×Int×Int)(y:Int×Int×Int):ee x y=if x.fst<y.fst then some true
else if x.fst=y.fst then some (decide (x.snd.fst<y.snd.fst))else some false:=by kernel_rfl
theorem DG(x:Int):ke x=if x<0 then some (-1,IntKind.u64.wrap x)else some (0,IntKind.u64.wrap x):=by kernel_rfl
theorem rE(x:Int×Int)(y:Int×Int):cS x y=if x.fst<y.fst then some (-1)
else if x.fst=y.fst then if x.snd<y.snd then some (-1)else if x.fst=y.fst∧x.snd=y.snd then some 0 else some 1 else if x.fst=y.fst∧x.snd=y.snd then some 0 else some 1:=by kernel_rfl
theorem vT(x:Bool):eh x=if x=true then some (0,1)else some (0,0):=by kernel_rfl
def kU:Int→Int→Option (Int ⊕ Empty):=fun(d d_1:Int)=>some (Sum.inl (IntKind.i64.wrap (d+d_1)))
theorem BF(x:Int×Int)(y:Int×Int):iA x y=(if IntKind.u64.wrap (x.snd+y.snd)<x.snd then kU (IntKind.i64.wrap (x.fst+y.fst)) 1 else kU x.fst y.fst).bind fun(y_1:Int ⊕ Empty)=>Sum.elim (fun(val:Int)=>some (val,IntKind.u64.wrap (x.snd+y.snd))) (fun(val:Empty)=>nE val) y_1:=by kernel_rfl
theorem BG(x:Int)(y:Int×Int)(z:Int×Int):iB x y z=(if x=1 then some (Sum.inl true)else if x=3 then some (Sum.inl true)else some (Sum.inl (decide (x=4)))).bind fun(y_1:Bool ⊕ Empty)=>Sum.elim (fun(val:Bool)=>if val=true then(cS z y).bind fun(out:Int)=>if out<0 then some z else some y else if x=2 then if¬(y.fst=0∧y.snd=0)then(eh true).bind fun(out:Int×Int)=>some out else(eh (decide ¬(z.fst=0∧z.snd=0))).bind fun(out:Int×Int)=>some out else if x=5 then(iA y z).bind fun(out:Int×Int)=>some out else some (0,0)) (fun(val:Empty)=>nE val) y_1:=by kernel_rfl
theorem tX(x:Int×Int):du x=if x.fst=0 then if IntKind.i64.wrap x.snd ≥ 0 then some (IntKind.i64.wrap x.snd,true)else if x.fst= -1 then if IntKind.i64.wrap x.snd<0 then some (IntKind.i64.wrap x.snd,true)else some (0,false)else some (0,false)
else if x.fst= -1 then if IntKind.i64.wrap x.snd<0 then some (IntKind.i64.wrap x.snd,true)else some (0,false)else some (0,false):=by kernel_rfl
def de(y:Sl yT)(x:List yT×List (Int×Int)×Int):Int→Option (Int ⊕ Int ⊕ Empty):=fun(x_1:Int)=>if x_1<(↑(List.length x.fst):Int)then(atL x.fst x_1).bind fun(x_2:Int×Int×Int)=>(atL x.fst x_1).bind fun(y_1:Int×Int×Int)=>(atS 3 y x.snd.snd).bind fun(y:Int×Int×Int)=>(ee y_1 y).bind fun(out:Bool)=>if out=true then some (Sum.inl (IntKind.i64.wrap (x_1+1)))else some (Sum.inr (Sum.inl x_1))else some (Sum.inr (Sum.inl x_1))
def dh(val:Int):Int×List yT×List (Int×Int)→Option (Int×List yT×List (Int×Int)⊕ List yT×List (Int×Int)⊕ Empty):=fun(x:Int×List yT×List (Int×Int))=>if x.fst>val then(atL x.snd.fst (IntKind.i64.wrap (x.fst - 1))).bind fun(x_1:Int×Int×Int)=>(atL x.snd.fst (IntKind.i64.wrap (x.fst - 1))).bind fun(y:Int×Int×Int)=>(atL x.snd.fst x.fst).bind fun(x_2:Int×Int×Int)=>(atL x.snd.fst x.fst).bind fun(y_1:Int×Int×Int)=>(atL x.snd.snd (IntKind.i64.wrap (x.fst - 1))).bind fun(x_3:Int×Int)=>(atL x.snd.snd (IntKind.i64.wrap (x.fst - 1))).bind fun(y_2:Int×Int)=>(atL x.snd.snd x.fst).bind fun(x_4:Int×Int)=>(atL x.snd.snd x.fst).bind fun(y_3:Int×Int)=>some (Sum.inl (IntKind.i64.wrap (x.fst - 1),List.set x.snd.fst (Int.toNat x.fst) y,List.set x.snd.snd (Int.toNat x.fst) y_2))else some (Sum.inr (Sum.inl x.snd))
def dj(val:Int):Int×List yT×List (Int×Int)→Option (Int×List yT×List (Int×Int)⊕ List yT×List (Int×Int)⊕ Empty):=fun(x:Int×List yT×List (Int×Int))=>if x.fst>val then(atL x.snd.fst (IntKind.i64.wrap (x.fst - 1))).bind fun(x_1:Int×Int×Int)=>(atL x.snd.fst (IntKind.i64.wrap (x.fst - 1))).bind fun(y:Int×Int×Int)=>(atL x.snd.fst x.fst).bind fun(x_2:Int×Int×Int)=>(atL x.snd.fst x.fst).bind fun(y_1:Int×Int×Int)=>(atL x.snd.snd (IntKind.i64.wrap (x.fst - 1))).bind fun(x_3:Int×Int)=>(atL x.snd.snd (IntKind.i64.wrap (x.fst - 1))).bind fun(y_2:Int×Int)=>(atL x.snd.snd x.fst).bind fun(x_4:Int×Int)=>(atL x.snd.snd x.fst).bind fun(y_3:Int×Int)=>some (Sum.inl (IntKind.i64.wrap (x.fst - 1),List.set x.snd.fst (Int.toNat x.fst) y,List.set x.snd.snd (Int.toNat x.fst) y_2))else some (Sum.inr (Sum.inl x.snd))
def eO(x:Int)(y:Sl yT):List yT×List (Int×Int)×Int→Option (List yT×List (Int×Int)×Int ⊕ List yT×List (Int×Int)⊕ Empty):=fun(x_1:List yT×List (Int×Int)×Int)=>if x_1.snd.snd<(↑y.l.length:Int)then(aM (de y x_1) 0).bind fun(y_1:Int ⊕ Empty)=>Sum.elim (fun(val:Int)=>(atS 3 y x_1.snd.snd).bind fun(y_2:Int×Int×Int)=>(ke y_2.snd.snd).bind fun(out:Int×Int)=>if val<(↑(List.length x_1.fst):Int)then(atS 3 y x_1.snd.snd).bind fun(y_3:Int×Int×Int)=>(atL x_1.fst val).bind fun(x_2:Int×Int×Int)=>(atL x_1.fst val).bind fun(y_4:Int×Int×Int)=>(ee y_3 y_4).bind fun(out_1:Bool)=>if¬out_1=true then(atL x_1.snd.fst val).bind fun(x_3:Int×Int)=>(atL x_1.snd.fst val).bind fun(y:Int×Int)=>(iB x y out).bind fun(out:Int×Int)=>(atL x_1.snd.fst val).bind fun(x:Int×Int)=>(atL x_1.snd.fst val).bind fun(y:Int×Int)=>some (Sum.inl (x_1.fst,List.set x_1.snd.fst val.toNat out,IntKind.i64.wrap (x_1.snd.snd+1)))else(app x_1.fst [(0,0,0)]).bind fun(lm:List yT)=>(app x_1.snd.fst [(0,0)]).bind fun(lm_1:List (Int×Int))=>(aM (dh val) (IntKind.i64.wrap ((↑lm.length:Int) - 1),lm,lm_1)).bind fun(y_5:List yT×List (Int×Int)⊕ Empty)=>Sum.elim (fun(val_1:List yT×List (Int×Int))=>(atS 3 y x_1.snd.snd).bind fun(y_6:Int×Int×Int)=>(atS 3 y x_1.snd.snd).bind fun(y:Int×Int×Int)=>(atL val_1.fst val).bind fun(x:Int×Int×Int)=>(atL val_1.fst val).bind fun(y_7:Int×Int×Int)=>(atL val_1.snd val).bind fun(x:Int×Int)=>(atL val_1.snd val).bind fun(y_8:Int×Int)=>(neL (List.set val_1.fst val.toNat (y_6.fst,y.snd.fst,0))).bind fun(x:PUnit)=>(neL (List.set val_1.snd val.toNat out)).bind fun(x:PUnit)=>some (Sum.inl (List.set val_1.fst val.toNat (y_6.fst,y.snd.fst,0),List.set val_1.snd val.toNat out,IntKind.i64.wrap (x_1.snd.snd+1)))) (fun(val:Empty)=>nE val) y_5 else(app x_1.fst [(0,0,0)]).bind fun(lm:List yT)=>(app x_1.snd.fst [(0,0)]).bind fun(lm_1:List (Int×Int))=>(aM (dj val) (IntKind.i64.wrap ((↑lm.length:Int) - 1),lm,lm_1)).bind fun(y_3:List yT×List (Int×Int)⊕ Empty)=>Sum.elim (fun(val_1:List yT×List (Int×Int))=>(atS 3 y x_1.snd.snd).bind fun(y_4:Int×Int×Int)=>(atS 3 y x_1.snd.snd).bind fun(y:Int×Int×Int)=>(atL val_1.fst val).bind fun(x:Int×Int×Int)=>(atL val_1.fst val).bind fun(y_5:Int×Int×Int)=>(atL val_1.snd val).bind fun(x:Int×Int)=>(atL val_1.snd val).bind fun(y_6:Int×Int)=>(neL (List.set val_1.fst val.toNat (y_4.fst,y.snd.fst,0))).bind fun(x:PUnit)=>(neL (List.set val_1.snd val.toNat out)).bind fun(x:PUnit)=>some (Sum.inl (List.set val_1.fst val.toNat (y_4.fst,y.snd.fst,0),List.set val_1.snd val.toNat out,IntKind.i64.wrap (x_1.snd.snd+1)))) (fun(val:Empty)=>nE val) y_3) (fun(val:Empty)=>nE val) y_1 else some (Sum.inr (Sum.inl (x_1.fst,x_1.snd.fst)))
def eP(val:List yT×List (Int×Int)):List yT×Int→Option (List yT×Int ⊕ List yT ⊕ List yT×Int ⊕ Empty):=fun(x:List yT×Int)=>if x.snd<(↑(List.length x.fst):Int)then(atL val.snd x.snd).bind fun(x_1:Int×Int)=>(atL val.snd x.snd).bind fun(y:Int×Int)=>(du y).bind fun(out:Int×Bool)=>if¬out.snd=true then some (Sum.inr (Sum.inr (Sum.inl ([],12))))else(atL x.fst x.snd).bind fun(x_2:Int×Int×Int)=>(atL x.fst x.snd).bind fun(y:Int×Int×Int)=>some (Sum.inl (List.set x.fst (Int.toNat x.snd) (y.fst,y.snd.fst,out.fst),IntKind.i64.wrap (x.snd+1)))else some (Sum.inr (Sum.inl x.fst))
theorem rF(x:Int)(y:Sl yT):dP x y=(iN x).bind fun(out:Bool)=>if¬out=true then some ({nn:=false,sz:=0,l:= []},8)else(aM (eO x y) ([],[],0)).bind fun(y:List yT×List (Int×Int)⊕ Empty)=>Sum.elim (fun(val:List yT×List (Int×Int))=>(aM (eP val) (val.fst,0)).bind fun(y:List yT ⊕ List yT×Int ⊕ Empty)=>Sum.elim (fun(val:List yT)=>some (mo 3 val,0)) (fun(val:List yT×Int ⊕ Empty)=>Sum.elim (fun(val:List yT×Int)=>some (mo 3 val.fst,val.snd)) (fun(val:Empty)=>nE val) val) y) (fun(val:Empty)=>nE val) y:=by kernel_rfl
def gV(y:Int)(z:Sl (Int×Int)):List yT×Int×Int×List (Int×Int)→Option (List yT×Int×Int×List (Int×Int)⊕ List yT×Int×List (Int×Int)⊕ Int×Int×List (Int×Int)⊕ Empty):=fun(x:List yT×Int×Int×List (Int×Int))=>if x.snd.fst<(↑z.l.length:Int)then(atS 2 z x.snd.fst).bind fun(y_1:Int×Int)=>if y_1.fst<0 then some (Sum.inr (Sum.inr (Sum.inl (3,0,[]))))else(atS 2 z x.snd.fst).bind fun(y_2:Int×Int)=>if y_2.fst ≥ y then some (Sum.inr (Sum.inr (Sum.inl (3,0,[]))))else(atS 2 z x.snd.fst).bind fun(y:Int×Int)=>(atS 2 z x.snd.fst).bind fun(y_3:Int×Int)=>(app x.fst [(0,y.fst,y_3.snd)]).bind fun(lm:List yT)=>some (Sum.inl (lm,IntKind.i64.wrap (x.snd.fst+1),x.snd.snd))else some (Sum.inr (Sum.inl (x.fst,x.snd.snd)))
def gW(out:Sl yT×Int):Int×Int×List (Int×Int)→Option (Int×Int×List (Int×Int)⊕ Int×List (Int×Int)⊕ Empty):=fun(x:Int×Int×List (Int×Int))=>if x.fst<(↑out.fst.l.length:Int)then(atS 3 out.fst x.fst).bind fun(y:Int×Int×Int)=>(atS 3 out.fst x.fst).bind fun(y_1:Int×Int×Int)=>(app x.snd.snd [(y.snd.fst,y_1.snd.snd)]).bind fun(lm:List (Int×Int))=>some (Sum.inl (IntKind.i64.wrap (x.fst+1),x.snd.fst,lm))else some (Sum.inr (Sum.inl x.snd))
theorem DH(x:Int)(y:Int)(z:Sl (Int×Int)):iO x y z=(iN x).bind fun(out:Bool)=>if¬out=true then some ((0,{nn:=false,sz:=0,l:= []}),8)else if y<0 then some ((0,{nn:=false,sz:=0,l:= []}),3)else if y>4096 then some ((0,{nn:=false,sz:=0,l:= []}),3)else(aM (gV y z) ([],0,0,[])).bind fun(y_1:List yT×Int×List (Int×Int)⊕ Int×Int×List (Int×Int)⊕ Empty)=>Sum.elim (fun(val:List yT×Int×List (Int×Int))=>(dP x (mo 3 val.fst)).bind fun(out:Sl yT×Int)=>if out.snd≠0 then some ((0,{nn:=false,sz:=0,l:= []}),out.snd)else(aM (gW out) (0,y,[])).bind fun(y:Int×List (Int×Int)⊕ Empty)=>Sum.elim (fun(val:Int×List (Int×Int))=>some ((val.fst,mo 2 val.snd),0)) (fun(val:Empty)=>nE val) y) (fun(val:Int×Int×List (Int×Int)⊕ Empty)=>Sum.elim (fun(val:Int×Int×List (Int×Int))=>some ((val.snd.fst,mo 2 val.snd.snd),val.fst)) (fun(val:Empty)=>nE val) val) y_1:=by kernel_rfl
theorem BH(x:Int×Sl (Int×Int))(y:Int):gq x y=(spvec_sure x).bind fun(out:Int×Sl (Int×Int))=>(co out y).bind fun(out_1:Int×Bool)=>if¬out_1.snd=true then some (0,false)else(atS 2 out.snd out_1.fst).bind fun(y:Int×Int)=>some (y.snd,true):=by kernel_rfl
def iY(x:Sl (Int×Int))(y:Int):Int×List (Int×Int)→Option (Int×List (Int×Int)⊕ List (Int×Int)⊕ Empty):=fun(x_1:Int×List (Int×Int))=>if x_1.fst<(↑x.l.length:Int)then(atS 2 x x_1.fst).bind fun(y_1:Int×Int)=>(atL x_1.snd x_1.fst).bind fun(x:Int×Int)=>(atL x_1.snd x_1.fst).bind fun(y_2:Int×Int)=>some (Sum.inl (IntKind.i64.wrap (x_1.fst+1),List.set x_1.snd (Int.toNat x_1.fst) (IntKind.i64.wrap (y_1.fst+y),y_1.snd)))else some (Sum.inr (Sum.inl x_1.snd))
theorem vU(x:Sl (Int×Int))(y:Int):spvec_moved x y=(zS (↑x.l.length:Int) (↑x.l.length:Int)).bind fun(x_1:PUnit)=>(wW (↑x.l.length:Int)).bind fun(x_2:PUnit)=>(aM (iY x y) (0,List.replicate (↑x.l.length:Int).toNat (0,0))).bind fun(y:List (Int×Int)⊕ Empty)=>Sum.elim (fun(val:List (Int×Int))=>some val) (fun(val:Empty)=>nE val) y:=by kernel_rfl
theorem yF(x:Int×Sl (Int×Int))(y:Int)(z:Int):cT x y z=(spvec_sure x).bind fun(out:Int×Sl (Int×Int))=>if za z out.fst≤ui y 0 then some (0,{nn:=false,sz:=0,l:= []})else(co out (ui y 0)).bind fun(out_1:Int×Bool)=>(co out (za z out.fst)).bind fun(out_2:Int×Bool)=>(uh 2 out.snd out_1.fst out_2.fst).bind fun(s':Sl (Int×Int))=>(spvec_moved s' (IntKind.i64.wrap (0 - ui y 0))).bind fun(out_3:List (Int×Int))=>some (IntKind.i64.wrap (za z out.fst - ui y 0),{nn:=true,sz:=2,l:=out_3}):=by kernel_rfl
def iZ(x:Sl (Int×Int))(y:Sl (Int×Int)):Int→Option (Int ⊕ PUnit ⊕ Bool ⊕ Empty):=fun(x_1:Int)=>if x_1<(↑x.l.length:Int)then(atS 2 x x_1).bind fun(y_1:Int×Int)=>(atS 2 y x_1).bind fun(y:Int×Int)=>if¬(y_1.fst=y.fst∧y_1.snd=y.snd)then some (Sum.inr (Sum.inr (Sum.inl false)))else some (Sum.inl (IntKind.i64.wrap (x_1+1)))else some (Sum.inr (Sum.inl ()))
theorem ou(x:Sl (Int×Int))(y:Sl (Int×Int)):cL x y=if(↑x.l.length:Int)≠(↑y.l.length:Int)then some false
else(aM (iZ x y) 0).bind fun(y:PUnit ⊕ Bool ⊕ Empty)=>Sum.elim (fun(val:PUnit)=>some true) (fun(val:Bool ⊕ Empty)=>Sum.elim (fun(val:Bool)=>some val) (fun(val:Empty)=>nE val) val) y:=by kernel_rfl
theorem yG(x:Int×Sl (Int×Int))(y:Int×Sl (Int×Int)):aZ x y=if x.fst=y.fst then(cL x.snd y.snd).bind fun(out:Bool)=>some (decide (out=true))
else some false:=by kernel_rfl
def ib(out:Int×Sl (Int×Int)):List Int×Int→Option (List Int×Int ⊕ List Int ⊕ Empty):=fun(x:List Int×Int)=>if x.snd<(↑out.snd.l.length:Int)then(atS 2 out.snd x.snd).bind fun(y:Int×Int)=>(app x.fst [y.fst]).bind fun(lm:List Int)=>some (Sum.inl (lm,IntKind.i64.wrap (x.snd+1)))else some (Sum.inr (Sum.inl x.fst))
theorem tY(x:Int×Sl (Int×Int)):eM x=(spvec_sure x).bind fun(out:Int×Sl (Int×Int))=>(aM (ib out) ([],0)).bind fun(y:List Int ⊕ Empty)=>Sum.elim (fun(val:List Int)=>some val) (fun(val:Empty)=>nE val) y:=by kernel_rfl
def dX(x:Sl Int)(y:Sl Int):Int→Option (Int ⊕ PUnit ⊕ Bool ⊕ Empty):=fun(x_1:Int)=>if x_1<(↑x.l.length:Int)then(atS 1 x x_1).bind fun(y_1:Int)=>(atS 1 y x_1).bind fun(y:Int)=>if y_1≠y then some (Sum.inr (Sum.inr (Sum.inl false)))else some (Sum.inl (IntKind.i64.wrap (x_1+1)))else some (Sum.inr (Sum.inl ()))
theorem pX(x:Sl Int)(y:Sl Int):cD x y=if(↑x.l.length:Int)≠(↑y.l.length:Int)then some false
else(aM (dX x y) 0).bind fun(y:PUnit ⊕ Bool ⊕ Empty)=>Sum.elim (fun(val:PUnit)=>some true) (fun(val:Bool ⊕ Empty)=>Sum.elim (fun(val:Bool)=>some val) (fun(val:Empty)=>nE val) val) y:=by kernel_rfl
def ja(out:Int×Sl (Int×Int)):Int×Int×List (Int×Int)→Option (Int×Int×List (Int×Int)⊕ Int×List (Int×Int)⊕ Empty):=fun(x:Int×Int×List (Int×Int))=>if x.fst<(↑out.snd.l.length:Int)then(atS 2 out.snd x.fst).bind fun(y:Int×Int)=>(app x.snd.snd [(y.fst,y.fst)]).bind fun(lm:List (Int×Int))=>some (Sum.inl (IntKind.i64.wrap (x.fst+1),x.snd.fst,lm))else some (Sum.inr (Sum.inl x.snd))
theorem vV(x:Int×Sl (Int×Int)):fI x=(spvec_sure x).bind fun(out:Int×Sl (Int×Int))=>(aM (ja out) (0,out.fst,[])).bind fun(y:Int×List (Int×Int)⊕ Empty)=>Sum.elim (fun(val:Int×List (Int×Int))=>some (val.fst,mo 2 val.snd)) (fun(val:Empty)=>nE val) y:=by kernel_rfl
def gJ(x:Int)(y:Int):Int×List (Int×Int)→Option (Int×List (Int×Int)⊕ List (Int×Int)⊕ Empty):=fun(x_1:Int×List (Int×Int))=>if x_1.fst<x then(atL x_1.snd x_1.fst).bind fun(x:Int×Int)=>(atL x_1.snd x_1.fst).bind fun(y_1:Int×Int)=>some (Sum.inl (IntKind.i64.wrap (x_1.fst+1),List.set x_1.snd (Int.toNat x_1.fst) (x_1.fst,y)))else some (Sum.inr (Sum.inl x_1.snd))
theorem nG(x:Int)(y:Int):fx x y=(ec x).bind fun(out:Bool)=>if¬out=true then some (0,{nn:=false,sz:=0,l:= []})else(zS x x).bind fun(x_1:PUnit)=>(wW x).bind fun(x_2:PUnit)=>(aM (gJ x y) (0,List.replicate x.toNat (0,0))).bind fun(y:List (Int×Int)⊕ Empty)=>Sum.elim (fun(val:List (Int×Int))=>some (x,{nn:=true,sz:=2,l:=val})) (fun(val:Empty)=>nE val) y:=by kernel_rfl
def cI(x:Sl (Int×Int))(y:Sl (Int×Int)):Int→Option (Int ⊕ PUnit ⊕ Bool ⊕ Empty):=fun(x_1:Int)=>if x_1<(↑x.l.length:Int)then(atS 2 x x_1).bind fun(y_1:Int×Int)=>(atS 2 y x_1).bind fun(y:Int×Int)=>if¬(y_1.fst=y.fst∧y_1.snd=y.snd)then some (Sum.inr (Sum.inr (Sum.inl false)))else some (Sum.inl (IntKind.i64.wrap (x_1+1)))else some (Sum.inr (Sum.inl ()))
theorem fP(x:Sl (Int×Int))(y:Sl (Int×Int)):aI x y=if(↑x.l.length:Int)≠(↑y.l.length:Int)then some false
else(aM (cI x y) 0).bind fun(y:PUnit ⊕ Bool ⊕ Empty)=>Sum.elim (fun(val:PUnit)=>some true) (fun(val:Bool ⊕ Empty)=>Sum.elim (fun(val:Bool)=>some val) (fun(val:Empty)=>nE val) val) y:=by kernel_rfl
theorem yH(x:Int×Sl (Int×Int))(y:Int×Sl (Int×Int)):cq x y=(spvec_sure x).bind fun(out:Int×Sl (Int×Int))=>(spvec_sure y).bind fun(out_1:Int×Sl (Int×Int))=>if out.fst=out_1.fst then(aI out.snd out_1.snd).bind fun(out:Bool)=>some (decide (out=true))else some false:=by kernel_rfl
def gK(x:Int)(y:Int):Int×Int×List (Int×Int)→Option (Int×Int×List (Int×Int)⊕ Int×List (Int×Int)⊕ Empty):=fun(x_1:Int×Int×List (Int×Int))=>if x_1.fst<x then(app x_1.snd.snd [(x_1.fst,y)]).bind fun(lm:List (Int×Int))=>some (Sum.inl (IntKind.i64.wrap (x_1.fst+1),x_1.snd.fst,lm))else some (Sum.inr (Sum.inl x_1.snd))
theorem nH(x:Int)(y:Int):fy x y=if x<0 then some (0,{nn:=false,sz:=0,l:= []})
else if x>4096 then some (0,{nn:=false,sz:=0,l:= []})else(aM (gK x y) (0,x,[])).bind fun(y:Int×List (Int×Int)⊕ Empty)=>Sum.elim (fun(val:Int×List (Int×Int))=>some (val.fst,mo 2 val.snd)) (fun(val:Empty)=>nE val) y:=by kernel_rfl
theorem rG(x:Int)(y:Int)(z:Sl (Int×Int)):eZ x y z=(if(↑z.l.length:Int)>60 then(uh 2 z 0 60).bind fun(s':Sl (Int×Int))=>some (Sum.inl s')else some (Sum.inl z)).bind fun(y_1:Sl (Int×Int)⊕ Empty)=>Sum.elim (fun(val:Sl (Int×Int))=>(kd x y val).bind fun(out:(Int×Sl (Int×Int))×Int)=>(iO x y val).bind fun(out_1:(Int×Sl (Int×Int))×Int)=>(if(↑val.l.length:Int)>0 then(atS 2 val 0).bind fun(y:Int×Int)=>some (Sum.inl y.snd)else some (Sum.inl 0)).bind fun(y_2:Int ⊕ Empty)=>Sum.elim (fun(val:Int)=>FL10.bind fun(out_2:Bool)=>if out_2=true then(aZ out.fst out_1.fst).bind fun(out_3:Bool)=>if out_3=true then if out.snd=out_1.snd then(fx y val).bind fun(out:Int×Sl (Int×Int))=>(fy y val).bind fun(out_4:Int×Sl (Int×Int))=>(aZ out out_4).bind fun(out:Bool)=>some (decide (out=true))else some false else some false else some false) (fun(val:Empty)=>nE val) y_2) (fun(val:Empty)=>nE val) y_1:=by kernel_rfl
theorem BI(x:Int×Sl (Int×Int)):iE x=if(↑x.snd.l.length:Int)>60 then(uh 2 x.snd 0 60).bind fun(s':Sl (Int×Int))=>some (x.fst,s')
else some x:=by kernel_rfl
def ga(x:Int×Sl (Int×Int)):Int→Option (Int ⊕ PUnit ⊕ Bool ⊕ Empty):=fun(x_1:Int)=>if x_1<(↑x.snd.l.length:Int)then(atS 2 x.snd x_1).bind fun(y:Int×Int)=>if y.fst<0 then some (Sum.inr (Sum.inr (Sum.inl false)))else(atS 2 x.snd x_1).bind fun(y:Int×Int)=>if y.fst ≥ x.fst then some (Sum.inr (Sum.inr (Sum.inl false)))else if x_1>0 then(atS 2 x.snd x_1).bind fun(y:Int×Int)=>(atS 2 x.snd (IntKind.i64.wrap (x_1 - 1))).bind fun(y_1:Int×Int)=>if y.fst≤y_1.fst then some (Sum.inr (Sum.inr (Sum.inl false)))else some (Sum.inl (IntKind.i64.wrap (x_1+1)))else some (Sum.inl (IntKind.i64.wrap (x_1+1)))else some (Sum.inr (Sum.inl ()))
theorem vW(x:Int×Sl (Int×Int)):eo x=if x.fst<0 then some false
else if x.fst>4096 then some false else(aM (ga x) 0).bind fun(y:PUnit ⊕ Bool ⊕ Empty)=>Sum.elim (fun(val:PUnit)=>some true) (fun(val:Bool ⊕ Empty)=>Sum.elim (fun(val:Bool)=>some val) (fun(val:Empty)=>nE val) val) y:=by kernel_rfl
theorem yI(x:Int×Sl (Int×Int)):cE x=(eo x).bind fun(out:Bool)=>if out=true then some x else some (0,{nn:=false,sz:=0,l:= []}):=by kernel_rfl
def ir(y:Int)(out:Int×Sl (Int×Int)):Int→Option (Int ⊕ PUnit ⊕ Int×Bool ⊕ Empty):=fun(x:Int)=>if x<(↑out.snd.l.length:Int)then(atS 2 out.snd x).bind fun(y_1:Int×Int)=>if y_1.fst=y then(atS 2 out.snd x).bind fun(y:Int×Int)=>some (Sum.inr (Sum.inr (Sum.inl (y.snd,true))))else some (Sum.inl (IntKind.i64.wrap (x+1)))else some (Sum.inr (Sum.inl ()))
theorem BJ(x:Int×Sl (Int×Int))(y:Int):gu x y=(cE x).bind fun(out:Int×Sl (Int×Int))=>(aM (ir y out) 0).bind fun(y:PUnit ⊕ Int×Bool ⊕ Empty)=>Sum.elim (fun(val:PUnit)=>some (0,false)) (fun(val:Int×Bool ⊕ Empty)=>Sum.elim (fun(val:Int×Bool)=>some val) (fun(val:Empty)=>nE val) val) y:=by kernel_rfl
def cu(y:Int)(z:Int)(out:Int×Sl (Int×Int)):Bool×Int×Int×List (Int×Int)→Option (Bool×Int×Int×List (Int×Int)⊕ Bool×Int×List (Int×Int)⊕ Empty):=fun(x:Bool×Int×Int×List (Int×Int))=>if x.snd.fst<(↑out.snd.l.length:Int)then(if¬x.fst=true then(atS 2 out.snd x.snd.fst).bind fun(y_1:Int×Int)=>if y_1.fst ≥ y then(app x.snd.snd.snd [(y,z)]).bind fun(lm:List (Int×Int))=>some (Sum.inl (true,x.snd.snd.fst,lm))else some (Sum.inl (x.fst,x.snd.snd))else some (Sum.inl (x.fst,x.snd.snd))).bind fun(y_1:Bool×Int×List (Int×Int)⊕ Empty)=>Sum.elim (fun(val:Bool×Int×List (Int×Int))=>(atS 2 out.snd x.snd.fst).bind fun(y_2:Int×Int)=>if y_2.fst≠y then(atS 2 out.snd x.snd.fst).bind fun(y:Int×Int)=>(app val.snd.snd [y]).bind fun(lm:List (Int×Int))=>some (Sum.inl (val.fst,IntKind.i64.wrap (x.snd.fst+1),val.snd.fst,lm))else some (Sum.inl (val.fst,IntKind.i64.wrap (x.snd.fst+1),val.snd))) (fun(val:Empty)=>nE val) y_1 else some (Sum.inr (Sum.inl (x.fst,x.snd.snd)))
def eQ(y:Int)(z:Int)(out:Int×Sl (Int×Int)):Bool→Option (Int×Sl (Int×Int)):=fun(d:Bool)=>(aM (cu y z out) (d,0,out.fst,[])).bind fun(y_1:Bool×Int×List (Int×Int)⊕ Empty)=>Sum.elim (fun(val:Bool×Int×List (Int×Int))=>if¬val.fst=true then(app val.snd.snd [(y,z)]).bind fun(lm:List (Int×Int))=>some (val.snd.fst,{nn:=true,sz:=2,l:=lm})else some (val.snd.fst,mo 2 val.snd.snd)) (fun(val:Empty)=>nE val) y_1
theorem BM(x:Int×Sl (Int×Int))(y:Int)(z:Int):iF x y z=(cE x).bind fun(out:Int×Sl (Int×Int))=>if y<0 then eQ y z out true else eQ y z out (decide (y ≥ out.fst)):=by kernel_rfl
def jO(y:Int)(out:Int×Sl (Int×Int)):Int×Int×List (Int×Int)→Option (Int×Int×List (Int×Int)⊕ Int×List (Int×Int)⊕ Empty):=fun(x:Int×Int×List (Int×Int))=>if x.fst<(↑out.snd.l.length:Int)then(atS 2 out.snd x.fst).bind fun(y_1:Int×Int)=>if y_1.fst≠y then(atS 2 out.snd x.fst).bind fun(y:Int×Int)=>(app x.snd.snd [y]).bind fun(lm:List (Int×Int))=>some (Sum.inl (IntKind.i64.wrap (x.fst+1),x.snd.fst,lm))else some (Sum.inl (IntKind.i64.wrap (x.fst+1),x.snd))else some (Sum.inr (Sum.inl x.snd))
theorem yJ(x:Int×Sl (Int×Int))(y:Int):gv x y=(cE x).bind fun(out:Int×Sl (Int×Int))=>(aM (jO y out) (0,out.fst,[])).bind fun(y:Int×List (Int×Int)⊕ Empty)=>Sum.elim (fun(val:Int×List (Int×Int))=>some (val.fst,mo 2 val.snd)) (fun(val:Empty)=>nE val) y:=by kernel_rfl
def ic(out:Int×Sl (Int×Int)):List Int×Int→Option (List Int×Int ⊕ List Int ⊕ Empty):=fun(x:List Int×Int)=>if x.snd<(↑out.snd.l.length:Int)then(atS 2 out.snd x.snd).bind fun(y:Int×Int)=>(app x.fst [y.fst]).bind fun(lm:List Int)=>some (Sum.inl (lm,IntKind.i64.wrap (x.snd+1)))else some (Sum.inr (Sum.inl x.fst))
theorem tZ(x:Int×Sl (Int×Int)):eN x=(cE x).bind fun(out:Int×Sl (Int×Int))=>(aM (ic out) ([],0)).bind fun(y:List Int ⊕ Empty)=>Sum.elim (fun(val:List Int)=>some val) (fun(val:Empty)=>nE val) y:=by kernel_rfl
def jb(out:Int×Sl (Int×Int)):Int×Int×List (Int×Int)→Option (Int×Int×List (Int×Int)⊕ Int×List (Int×Int)⊕ Empty):=fun(x:Int×Int×List (Int×Int))=>if x.fst<(↑out.snd.l.length:Int)then(atS 2 out.snd x.fst).bind fun(y:Int×Int)=>(atS 2 out.snd x.fst).bind fun(y_1:Int×Int)=>(app x.snd.snd [(y.fst,y_1.fst)]).bind fun(lm:List (Int×Int))=>some (Sum.inl (IntKind.i64.wrap (x.fst+1),x.snd.fst,lm))else some (Sum.inr (Sum.inl x.snd))
theorem vX(x:Int×Sl (Int×Int)):fJ x=(cE x).bind fun(out:Int×Sl (Int×Int))=>(aM (jb out) (0,out.fst,[])).bind fun(y:Int×List (Int×Int)⊕ Empty)=>Sum.elim (fun(val:Int×List (Int×Int))=>some (val.fst,mo 2 val.snd)) (fun(val:Empty)=>nE val) y:=by kernel_rfl
def jP(y:Int)(z:Int)(out:Int×Sl (Int×Int)):Int×Int×List (Int×Int)→Option (Int×Int×List (Int×Int)⊕ Int×List (Int×Int)⊕ Empty):=fun(x:Int×Int×List (Int×Int))=>if x.fst<(↑out.snd.l.length:Int)then(atS 2 out.snd x.fst).bind fun(y_1:Int×Int)=>if y_1.fst ≥ ui y 0 then(atS 2 out.snd x.fst).bind fun(y_2:Int×Int)=>if y_2.fst<za z out.fst then(atS 2 out.snd x.fst).bind fun(y_3:Int×Int)=>(atS 2 out.snd x.fst).bind fun(y_4:Int×Int)=>(app x.snd.snd [(IntKind.i64.wrap (y_3.fst - ui y 0),y_4.snd)]).bind fun(lm:List (Int×Int))=>some (Sum.inl (IntKind.i64.wrap (x.fst+1),x.snd.fst,lm))else some (Sum.inl (IntKind.i64.wrap (x.fst+1),x.snd))else some (Sum.inl (IntKind.i64.wrap (x.fst+1),x.snd))else some (Sum.inr (Sum.inl x.snd))
theorem yK(x:Int×Sl (Int×Int))(y:Int)(z:Int):gw x y z=(cE x).bind fun(out:Int×Sl (Int×Int))=>if za z out.fst≤ui y 0 then some (0,{nn:=false,sz:=0,l:= []})else(aM (jP y z out) (0,IntKind.i64.wrap (za z out.fst - ui y 0),[])).bind fun(y:Int×List (Int×Int)⊕ Empty)=>Sum.elim (fun(val:Int×List (Int×Int))=>some (val.fst,mo 2 val.snd)) (fun(val:Empty)=>nE val) y:=by kernel_rfl
def gL(y:Sl (Int×Int))(z:Int):List (Int×Int)×Int→Option (List (Int×Int)×Int ⊕ List (Int×Int)⊕ Empty):=fun(x:List (Int×Int)×Int)=>if x.snd<(↑y.l.length:Int)then if x.snd<60 then if z>0 then(atS 2 y x.snd).bind fun(y_1:Int×Int)=>if y_1.fst ≥ 0 then(atS 2 y x.snd).bind fun(y_2:Int×Int)=>(ng y_2.fst z).bind fun(z:Int)=>(atS 2 y x.snd).bind fun(y:Int×Int)=>(app x.fst [(z,y.snd)]).bind fun(lm:List (Int×Int))=>some (Sum.inl (lm,IntKind.i64.wrap (x.snd+1)))else some (Sum.inl (x.fst,IntKind.i64.wrap (x.snd+1)))else some (Sum.inr (Sum.inl x.fst))else some (Sum.inr (Sum.inl x.fst))else some (Sum.inr (Sum.inl x.fst))
theorem yL(x:Int)(y:Sl (Int×Int)):fB x y=(ng (IntKind.i64.wrap x) 60).bind fun(z:Int)=>(aM (gL y z) ([],0)).bind fun(y:List (Int×Int)⊕ Empty)=>Sum.elim (fun(val:List (Int×Int))=>(iO 1 z (mo 2 val)).bind fun(out:(Int×Sl (Int×Int))×Int)=>some out.fst) (fun(val:Empty)=>nE val) y:=by kernel_rfl
def dw(z:Int×Int)(out:Int×Sl (Int×Int))(val:Int)(out'6:Int×Sl (Int×Int)):Int→Option (Int ⊕ PUnit ⊕ Bool ⊕ Empty):=fun(x:Int)=>if x<out.fst then(gq out'6 x).bind fun(out_1:Int×Bool)=>(gu out x).bind fun(out:Int×Bool)=>if x=val then if¬out_1.snd=true then some (Sum.inr (Sum.inr (Sum.inl false)))else if out_1.fst≠z.snd then some (Sum.inr (Sum.inr (Sum.inl false)))else if x≠val then if out_1.fst≠out.fst then some (Sum.inr (Sum.inr (Sum.inl false)))else if¬decide (out_1.snd=true)=decide (out.snd=true)then some (Sum.inr (Sum.inr (Sum.inl false)))else some (Sum.inl (IntKind.i64.wrap (x+1)))else some (Sum.inl (IntKind.i64.wrap (x+1)))else if x≠val then if out_1.fst≠out.fst then some (Sum.inr (Sum.inr (Sum.inl false)))else if¬decide (out_1.snd=true)=decide (out.snd=true)then some (Sum.inr (Sum.inr (Sum.inl false)))else some (Sum.inl (IntKind.i64.wrap (x+1)))else some (Sum.inl (IntKind.i64.wrap (x+1)))else some (Sum.inr (Sum.inl ()))
theorem ow(x:Int)(y:Sl (Int×Int))(z:Int×Int):dL x y z=(fB x y).bind fun(out:Int×Sl (Int×Int))=>(if out.fst>0 then if z.fst ≥ 0 then(ng z.fst out.fst).bind fun(z:Int)=>some (Sum.inl z)else some (Sum.inl 0)else some (Sum.inl 0)).bind fun(y:Int ⊕ Empty)=>Sum.elim (fun(val:Int)=>(iz out val z.snd).bind fun(out_1:Int×Sl (Int×Int))=>(aM (dw z out val out_1) 0).bind fun(y:PUnit ⊕ Bool ⊕ Empty)=>Sum.elim (fun(val:PUnit)=>(kd 2 out.fst out.snd).bind fun(out_2:(Int×Sl (Int×Int))×Int)=>FL10.bind fun(out_3:Bool)=>if out_3=true then(dq out_1).bind fun(out_4:Bool)=>if out_4=true then if out_2.snd=0 then(cq out_2.fst out).bind fun(out:Bool)=>some (decide (out=true))else some false else some false else some false) (fun(val:Bool ⊕ Empty)=>Sum.elim (fun(val:Bool)=>some val) (fun(val:Empty)=>nE val) val) y) (fun(val:Empty)=>nE val) y:=by kernel_rfl
theorem nc(x:Int)(y:Sl (Int×Int))(z:Int×Int):cZ x y z=(fB x y).bind fun(out:Int×Sl (Int×Int))=>(ng (IntKind.i64.wrap z.fst) (IntKind.i64.wrap (out.fst+1))).bind fun(z_1:Int)=>(cT out 0 z_1).bind fun(out_1:Int×Sl (Int×Int))=>(cT out z_1 out.fst).bind fun(out_2:Int×Sl (Int×Int))=>(spvec_Glue {nn:=true,sz:=2,l:= [out_1,out_2]}).bind fun(out_3:(Int×Sl (Int×Int))×Int)=>(ng (IntKind.i64.wrap z.snd) (IntKind.i64.wrap (out.fst+1))).bind fun(z:Int)=>FL10.bind fun(out_4:Bool)=>if out_4=true then if out_3.snd=0 then(cq out_3.fst out).bind fun(out_5:Bool)=>if out_5=true then(cT out_2 0 z).bind fun(out_6:Int×Sl (Int×Int))=>(cT out z_1 (IntKind.i64.wrap (z_1+z))).bind fun(out:Int×Sl (Int×Int))=>(cq out_6 out).bind fun(out:Bool)=>some (decide (out=true))else some false else some false else some false:=by kernel_rfl
end Ev
end
noncomputable section
namespace Ev
open Go
theorem nI{v:Vec}(hs:okS 2 v.2)(hl:v.2.l.length≤9223372036854775806):eo v=some (cB v):=by
 rw [vW];unfold cB;by_cases g1:v.1<0
 ·rw [if_pos g1,show dK v.1=false by unfold dK;rw [decide_eq_false (by omega)];rfl];rfl
 rw [if_neg g1];by_cases g2:v.1>4096
 ·rw [if_pos g2,show dK v.1=false by unfold dK;rw [decide_eq_false (show¬v.1≤4096 by omega)];simp];rfl
 rw [if_neg g2,sizeF_iff.2 (by omega)];simp only [Bool.true_and]
 obtain⟨q,q1,q2⟩:=gN (b:=ga v) v.2.l.length (fun j st=>st=(j:Int)∧∃q:Int,asc (-1) v.1 v.2.l=asc q v.1 (v.2.l.drop j)∧ -1≤q∧(j=0→q= -1)∧(0<j→∀h:j - 1<v.2.l.length,q=v.2.l[j - 1].1)) (fun q=>q=if asc (-1) v.1 v.2.l=true then .inl ()else .inr (.inl false))
  (by
   rintro j _ hj ⟨rfl,q,he,hq,h0,h1⟩;have ej:=bS hs hj;rw [Dt hj]at he;simp only [ga,ej,zbS];rw [if_pos (by omega)];by_cases c1:v.2.l[j].1<0
   ·rw [if_pos c1];refine .inr ⟨_,rfl,?_⟩;rw [he,decide_eq_false (show¬q<v.2.l[j].1 by omega)];rfl
   rw [if_neg c1];by_cases c2:v.2.l[j].1 ≥ v.1
   ·rw [if_pos c2];refine .inr ⟨_,rfl,?_⟩;rw [he,decide_eq_false (show¬v.2.l[j].1<v.1 by omega)];simp
   rw [if_neg c2];rw [decide_eq_true (show v.2.l[j].1<v.1 by omega)]at he;by_cases hj0:j=0
   ·rw [if_neg (by omega),cd hj (by omega)];rw [decide_eq_true (show q<v.2.l[j].1 by have:=h0 hj0;omega)]at he;exact .inl ⟨_,rfl,rfl,v.2.l[j].1,by simpa using he,by omega,by omega,fun _ _=>by simp⟩
   ·have hj1:j - 1<v.2.l.length:=by omega
    rw [if_pos (by omega),show IntKind.i64.wrap ((j:Int) - 1)=((j - 1:Nat):Int)by rw [wrap64 (by omega) (by omega)];omega,bS hs hj1];simp only [zbS,cd hj (by omega)];have hq1:=h1 (by omega) hj1;by_cases c3:v.2.l[j].1≤v.2.l[j - 1].1
    ·rw [if_pos c3];refine .inr ⟨_,rfl,?_⟩;rw [he,decide_eq_false (show¬q<v.2.l[j].1 by omega)];rfl
    ·rw [if_neg c3];rw [decide_eq_true (show q<v.2.l[j].1 by omega)]at he
     exact .inl ⟨_,rfl,rfl,v.2.l[j].1,by simpa using he,by omega,by omega,fun _ _=>by simp⟩)
  (by
   rintro _ ⟨rfl,q,he,_⟩;rw [List.drop_length]at he;simp only [ga];rw [if_neg (by omega)]
   exact⟨_,rfl,by rw [he];rfl⟩) 0 (Nat.zero_le _) 0 ⟨rfl,-1,rfl,by omega,fun _=>rfl,fun h=>by omega⟩
 rw [q1,q2];cases asc (-1) v.1 v.2.l<;>rfl
theorem eR{v:Vec}(hs:okS 2 v.2)(hl:v.2.l.length≤9223372036854775806):cE v=some (aj v):=by
 rw [yI,nI hs hl];unfold aj;simp only [zbS];split<;>rfl
def Fz(l:List P2)(p:Int):Int×Bool:=match vQ l p with
 |some x=>(x,true)
 |none=>(0,false)
section
variable {v : Vec}
theorem sE(hs:okS 2 v.2)(hl:v.2.l.length≤9223372036854775806)(p:Int):gq v p=some (Fz (aj v).2.l p):=by
 have hr:=cA (cj (bq v));rw [BH,ct hs hl];simp only [zbS];rw [fp hs];simp only [zbS];unfold Fz
 cases hi:isI (aj v).2.l p with
 |true=>
  have hlt:=rp hi;rw [if_neg (by simp),bS (cW hs) hlt,IR hr hi hlt];rfl
 |false=>
  rw [if_pos (by simp),vR (rD hr hi).2]
theorem sF(hs:okS 2 v.2)(hl:v.2.l.length≤9223372036854775806)(p:Int):gu v p=some (Fz (aj v).2.l p):=by
 rw [BJ,eR hs hl];simp only [zbS];have hok:=cW hs;have hr:=cA (cj (bq v));have hlen:=cC v;generalize aj v=w at hok hr hlen
 obtain⟨q,q1,q2⟩:=gN (b:=ir p w) w.2.l.length (fun j st=>st=(j:Int)∧∀y∈w.2.l.take j,y.1≠p) (fun q=>q=match vQ w.2.l p with
   |some x=> .inr (.inl (x,true))
   |none=> .inl ())
  (by
   rintro j _ hj ⟨rfl,ha⟩;have ej:=bS hok hj;simp only [ir,ej,zbS,cd hj (by omega)];rw [if_pos (by omega)];by_cases c:w.2.l[j].1=p
   ·rw [if_pos c];refine .inr ⟨_,rfl,?_⟩;rw [(mJ hr (p:=p) (x:=w.2.l[j].2)).2 (by rw [←c];exact List.getElem_mem hj)]
   ·rw [if_neg c];refine .inl ⟨_,rfl,rfl,fun y hy=> ?_⟩;rw [List.take_succ_eq_append_getElem hj]at hy;rcases List.mem_append.1 hy with hy|hy
    ·exact ha y hy
    ·simp at hy;subst hy;exact c)
  (by
   rintro _ ⟨rfl,ha⟩;rw [List.take_length]at ha;simp only [ir];rw [if_neg (by omega)]
   exact⟨_,rfl,by rw [vR ha]⟩) 0 (Nat.zero_le _) 0 ⟨rfl,by simp⟩
 rw [q1,q2];unfold Fz;cases vQ w.2.l p<;>rfl
def nd(l:List P2)(n p x:Int):List P2:=if p<0∨n≤p then l else iX l p x
theorem MR{l:List P2}(h:Rise l)(n p x:Int):Sm.Pu.out l n p x (bt l p) (isI l p)=nd l n p x:=by
 unfold Sm.Pu.out nd;split
 ·rfl
 ·cases hi:isI l p with
  |true=>
   rw [if_pos rfl];exact IP h hi fun hlt=>by rw [Sm.It.el,List.getD_eq_getElem?_getD,List.getElem?_eq_getElem hlt];rfl
  |false=>
   rw [if_neg (by simp)];exact MP h hi
theorem sG(hs:okS 2 v.2)(hn:v.2.nn=true∨v.2.l= [])(hl:v.2.l.length≤80000)(p x:Int):∃nn,iz v p x=some ((aj v).1,⟨nn,2,nd (aj v).2.l (aj v).1 p x⟩)∧(nn=true∨nd (aj v).2.l (aj v).1 p x= []):=by
 have hr:=cA (cj (bq v));refine⟨if p<0∨(aj v).1≤p then(aj v).2.nn else true,?_,?_⟩
 ·show Sm.Pu.fn (v,p,x)=_;unfold Sm.Pu.fn;rw [if_pos ⟨hs.elim .inr .inl,hn,hl⟩,MR hr]
 ·have:=Hd hn
  unfold nd;split
  ·exact this
  ·exact .inl rfl
theorem pY{m:List P2}{p x:Int}{y:P2}(h:p<y.1):iX (m++ [y]) p x=iX m p x++ [y]:=by
 unfold iX;rw [List.filter_append,List.filter_append,List.filter_cons_of_neg (by simp;omega),List.filter_cons_of_pos (by simp;omega)];simp
theorem BN{m:List P2}{p x:Int}{y:P2}(h:y.1=p):iX (m++ [y]) p x=iX m p x:=by
 unfold iX;rw [List.filter_append,List.filter_append,List.filter_cons_of_neg (by simp;omega),List.filter_cons_of_neg (by simp;omega)];simp
theorem vY{m:List P2}{p x:Int}(h:∀y∈m,y.1<p):iX m p x=m++ [(p,x)]:=by
 unfold iX;rw [List.filter_eq_self.2 (fun y hy=>by simpa using h y hy),List.filter_eq_nil_iff.2 (fun y hy=>by have:=h y hy;simp;omega)]
theorem FA{w:Vec}(hok:okS 2 w.2)(hr:Rise w.2.l)(hlen:w.2.l.length≤4096)(p x:Int):eQ p x w false=some (w.1,mo 2 (iX w.2.l p x)):=by
 unfold eQ;have hp:=List.pairwise_iff_getElem.1 hr
 obtain⟨q,q1,q2⟩:=gN (b:=cu p x w) w.2.l.length (fun j st=>((∀y∈w.2.l.take j,y.1<p)∧st=(false,(j:Int),w.1,w.2.l.take j))∨((∃y∈w.2.l.take j,p≤y.1)∧st=(true,(j:Int),w.1,iX (w.2.l.take j) p x))) (fun q=>q=if∀y∈w.2.l,y.1<p then .inl (false,w.1,w.2.l)else .inl (true,w.1,iX w.2.l p x))
  (by
   rintro j st hj h;have ej:=bS hok hj;have hlt:(w.2.l.take j).length≤4096:=by rw [List.length_take];omega
   have hpl:=Hh (w.2.l.take j) p x;rw [List.take_succ_eq_append_getElem hj];rcases h with⟨ha,rfl⟩|⟨⟨z,hz,hzp⟩,rfl⟩
   ·simp only [cu,ej,zbS,Bool.false_eq_true,not_false_eq_true,if_true,cd hj (by omega)];rw [if_pos (by omega)];by_cases c:w.2.l[j].1 ≥ p
    ·rw [if_pos c,dn (by simp only [List.length_cons,List.length_nil];unfold bi;omega)];simp only [zbS,Sum.elim_inl];by_cases c2:w.2.l[j].1=p
     ·rw [if_neg (by simp [c2])];refine .inl ⟨_,rfl,.inr ⟨⟨w.2.l[j],List.mem_append.2 (.inr List.mem_cons_self),c⟩,?_⟩⟩;rw [BN c2,vY ha]
     ·rw [if_pos c2,dn (by simp only [List.length_append,List.length_cons,List.length_nil];unfold bi;omega)];simp only [zbS];refine .inl ⟨_,rfl,.inr ⟨⟨w.2.l[j],List.mem_append.2 (.inr List.mem_cons_self),c⟩,?_⟩⟩;rw [pY (by omega),vY ha]
    ·rw [if_neg c];simp only [zbS,Sum.elim_inl];rw [if_pos (by omega),dn (by simp only [List.length_cons,List.length_nil];unfold bi;omega)];simp only [zbS];refine .inl ⟨_,rfl,.inl ⟨fun y hy=> ?_,rfl⟩⟩;rcases List.mem_append.1 hy with hy|hy
     ·exact ha y hy
     ·simp at hy;subst hy;omega
   ·have hgt:p<w.2.l[j].1:=by
     obtain⟨i,hi,rfl⟩:=List.mem_iff_getElem.1 hz;rw [List.length_take]at hi;rw [List.getElem_take]at hzp
     have:=hp i j (by omega) hj (by omega)
     omega
    simp only [cu,ej,zbS,not_true_eq_false,if_false,Sum.elim_inl,cd hj (by omega)];rw [if_pos (by omega),if_pos (by omega),dn (by simp only [List.length_cons,List.length_nil];unfold bi;omega)];simp only [zbS];refine .inl ⟨_,rfl,.inr ⟨⟨z,List.mem_append.2 (.inl hz),hzp⟩,?_⟩⟩
    rw [pY hgt])
  (by
   rintro st h;rw [List.take_length]at h;rcases h with⟨ha,rfl⟩|⟨⟨z,hz,hzp⟩,rfl⟩
   ·simp only [cu];rw [if_neg (by omega),if_pos ha];exact⟨_,rfl,rfl⟩
   ·simp only [cu];rw [if_neg (by omega),if_neg (fun h=>by have:=h z hz;omega)]
    exact⟨_,rfl,rfl⟩) 0 (Nat.zero_le _) (false,0,w.1,[]) (.inl ⟨by simp,rfl⟩)
 rw [q1,q2];by_cases ha:∀y∈w.2.l,y.1<p
 ·rw [if_pos ha];simp only [zbS,Sum.elim_inl];rw [if_pos (by simp),dn (by simp only [List.length_cons,List.length_nil];unfold bi;omega),vY ha];cases w.2.l<;>rfl
 ·rw [if_neg ha];rfl
theorem sH{w:Vec}(hok:okS 2 w.2)(hlen:w.2.l.length≤4096){p:Int}(hne:∀y∈w.2.l,y.1≠p)(x:Int):eQ p x w true=some (w.1,mo 2 w.2.l):=by
 unfold eQ;have H:aM (cu p x w) (true,0,w.1,[])=some (.inl (true,w.1,w.2.l)):=go w.2.l.length (fun j=>(true,(j:Int),w.1,w.2.l.take j)) rfl (fun j hj=> ?_) ?_
 ·rw [H];rfl
 ·have ej:=bS hok hj;have hlt:(w.2.l.take j).length≤4096:=by rw [List.length_take];omega
  simp only [cu,ej,zbS,not_true_eq_false,if_false,Sum.elim_inl,cd hj (by omega)];rw [if_pos (by omega),if_pos (hne _ (List.getElem_mem hj)),dn (by simp only [List.length_cons,List.length_nil];unfold bi;omega),List.take_succ_eq_append_getElem hj];rfl
 ·simp only [cu,List.take_length];rw [if_neg (by omega)]
theorem DI(hs:okS 2 v.2)(hl:v.2.l.length≤9223372036854775806)(p x:Int):iF v p x=some ((aj v).1,mo 2 (nd (aj v).2.l (aj v).1 p x)):=by
 rw [BM,eR hs hl];simp only [zbS];have hok:=cW hs;have ha:=cj (bq v);have hlen:=cC v;generalize aj v=w at hok ha hlen;have hm:=gH ha;unfold nd;by_cases c:p<0
 ·rw [if_pos c,if_pos (.inl c),sH hok hlen (fun y hy=>by have:=hm y hy;omega)]
 ·rw [if_neg c];by_cases c2:p ≥ w.1
  ·rw [decide_eq_true c2,if_pos (.inr c2),sH hok hlen (fun y hy=>by have:=hm y hy;omega)]
  ·rw [decide_eq_false c2,if_neg (by omega),FA hok (cA ha) hlen]
theorem BO(hs:okS 2 v.2)(hl:v.2.l.length≤80000)(p:Int):iM v p=some ((aj v).1,⟨(aj v).2.nn,2,lE (aj v).2.l p⟩):=by
 have hr:=cA (cj (bq v));show Sm.Dr.fn (v,p)=_;unfold Sm.Dr.fn;rw [if_pos ⟨hs.elim .inr .inl,hl⟩];simp only
 cases hi:isI (aj v).2.l p with
 |true=>rw [if_pos rfl,Fy hr hi]
 |false=>rw [if_neg (by simp),←IQ hr hi]
theorem MS{α β:Type}{g:α→Option β}{l:List α}{j:Nat}(hj:j<l.length):(l.take (j+1)).filterMap g=(l.take j).filterMap g++(g l[j]).toList:=by
 rw [List.take_succ_eq_append_getElem hj,List.filterMap_append];congr 1
theorem Pn{α β:Type}{g:α→Option β}{l:List α}{j:Nat}:((l.take j).filterMap g).length≤j:=Nat.le_trans (List.length_filterMap_le _ _) (by rw [List.length_take];omega)
theorem ko{α β R:Type}{l:List α}{n:Int}{g:α→Option β}{b:Int×Int×List β→Option ((Int×Int×List β)⊕(Int×List β)⊕ R)}(hs:∀j,(hj:j<l.length)→∀acc:List β,acc.length≤j→b ((j:Int),n,acc)=some (.inl (((j+1:Nat):Int),n,acc++(g l[j]).toList)))(he:∀acc:List β,b ((l.length:Int),n,acc)=some (.inr (.inl (n,acc)))):aM b (0,n,[])=some (.inl (n,l.filterMap g)):=by
 refine go l.length (fun j=>((j:Int),n,(l.take j).filterMap g)) rfl (fun j hj=> ?_) ?_
 ·rw [MS hj];exact hs j hj _ Pn
 ·show b ((l.length:Int),n,(l.take l.length).filterMap g)=_;rw [List.take_length];exact he _
theorem Hi{p:Int}:∀l:List P2,l.filterMap (fun y=>if y.1=p then none else some y)=lE l p
 | []=>rfl
 |y::l=>by
  have ih:=Hi (p:=p) l;unfold lE at ih ⊢;by_cases c:y.1=p
  ·rw [List.filterMap_cons_none (by rw [if_pos c]),List.filter_cons_of_neg (by simp [c]),ih]
  ·rw [List.filterMap_cons_some (b:=y) (by rw [if_neg c]),List.filter_cons_of_pos (by simp [c]),ih]
theorem Hj{a b:Int}:∀l:List P2,l.filterMap (fun y=>if a≤y.1∧y.1<b then some (y.1+ -a,y.2)else none)=upL (-a) (dV l a b)
 | []=>rfl
 |y::l=>by
  have ih:=Hj (a:=a) (b:=b) l;unfold dV at ih ⊢;by_cases c:a≤y.1∧y.1<b
  ·rw [List.filterMap_cons_some (b:=(y.1+ -a,y.2)) (by rw [if_pos c]),List.filter_cons_of_pos (by simpa using c),ih];rfl
  ·rw [List.filterMap_cons_none (by rw [if_neg c]),List.filter_cons_of_neg (by simpa using c),ih]
theorem BP(hs:okS 2 v.2)(hl:v.2.l.length≤9223372036854775806)(p:Int):gv v p=some ((aj v).1,mo 2 (lE (aj v).2.l p)):=by
 rw [yJ,eR hs hl];simp only [zbS];have hok:=cW hs;have hlen:=cC v;generalize aj v=w at hok hlen;rw [ko (l:=w.2.l) (g:=fun y=>if y.1=p then none else some y) (fun j hj acc hacc=> ?_) (fun acc=> ?_)]
 ·rw [Hi];rfl
 ·have ej:=bS hok hj;simp only [jO,ej,zbS,cd hj (by omega)];rw [if_pos (by omega)];by_cases c:w.2.l[j].1=p
  ·rw [if_neg (by simp [c]),if_pos c];simp
  ·rw [if_pos c,if_neg c,dn (by simp only [List.length_cons,List.length_nil];unfold bi;omega)];rfl
 ·simp only [jO];rw [if_neg (by omega)]
theorem zw{α β R:Type}{l:List α}{g:α→β}{b:List β×Int→Option ((List β×Int)⊕ List β ⊕ R)}(hs:∀j,(hj:j<l.length)→∀acc:List β,acc.length≤j→b (acc,(j:Int))=some (.inl (acc++ [g l[j]],((j+1:Nat):Int))))(he:∀acc:List β,b (acc,(l.length:Int))=some (.inr (.inl acc))):aM b ([],0)=some (.inl (l.map g)):=by
 refine go l.length (fun j=>((l.take j).map g,(j:Int))) rfl (fun j hj=> ?_) ?_
 ·rw [List.take_succ_eq_append_getElem hj,List.map_append];exact hs j hj _ (by rw [List.length_map,List.length_take];omega)
 ·show b ((l.take l.length).map g,(l.length:Int))=_;rw [List.take_length];exact he _
theorem vZ(hs:okS 2 v.2)(hl:v.2.l.length≤9223372036854775806):eM v=some ((aj v).2.l.map (·.1)):=by
 rw [tY,ct hs hl];simp only [zbS];have hok:=cW hs;have hlen:=cC v;generalize aj v=w at hok hlen;rw [zw (l:=w.2.l) (g:=(·.1)) (fun j hj acc hacc=> ?_) (fun acc=> ?_)]
 ·rfl
 ·have ej:=bS hok hj;simp only [ib,ej,zbS,cd hj (by omega)];rw [if_pos (by omega),dn (by simp only [List.length_cons,List.length_nil];unfold bi;omega)];rfl
 ·simp only [ib];rw [if_neg (by omega)]
theorem wa(hs:okS 2 v.2)(hl:v.2.l.length≤9223372036854775806):eN v=some ((aj v).2.l.map (·.1)):=by
 rw [tZ,eR hs hl];simp only [zbS];have hok:=cW hs;have hlen:=cC v;generalize aj v=w at hok hlen;rw [zw (l:=w.2.l) (g:=(·.1)) (fun j hj acc hacc=> ?_) (fun acc=> ?_)]
 ·rfl
 ·have ej:=bS hok hj;simp only [ic,ej,zbS,cd hj (by omega)];rw [if_pos (by omega),dn (by simp only [List.length_cons,List.length_nil];unfold bi;omega)];rfl
 ·simp only [ic];rw [if_neg (by omega)]
theorem BQ{α β:Type}(g:α→β)(l:List α):l.filterMap (fun x=>some (g x))=l.map g:=List.filterMap_eq_map'▸rfl
def Km(l:List P2):List P2:=l.map fun y=>(y.1,y.1)
theorem yN(hs:okS 2 v.2)(hl:v.2.l.length≤9223372036854775806):fI v=some ((aj v).1,mo 2 (Km (aj v).2.l)):=by
 rw [vV,ct hs hl];simp only [zbS];have hok:=cW hs;have hlen:=cC v;generalize aj v=w at hok hlen;rw [ko (l:=w.2.l) (g:=fun y=>some (y.1,y.1)) (fun j hj acc hacc=> ?_) (fun acc=> ?_),BQ]
 ·rfl
 ·have ej:=bS hok hj;simp only [ja,ej,zbS,cd hj (by omega)];rw [if_pos (by omega),dn (by simp only [List.length_cons,List.length_nil];unfold bi;omega)];rfl
 ·simp only [ja];rw [if_neg (by omega)]
theorem yO(hs:okS 2 v.2)(hl:v.2.l.length≤9223372036854775806):fJ v=some ((aj v).1,mo 2 (Km (aj v).2.l)):=by
 rw [vX,eR hs hl];simp only [zbS];have hok:=cW hs;have hlen:=cC v;generalize aj v=w at hok hlen;rw [ko (l:=w.2.l) (g:=fun y=>some (y.1,y.1)) (fun j hj acc hacc=> ?_) (fun acc=> ?_),BQ]
 ·rfl
 ·have ej:=bS hok hj;simp only [jb,ej,zbS,cd hj (by omega)];rw [if_pos (by omega),dn (by simp only [List.length_cons,List.length_nil];unfold bi;omega)];rfl
 ·simp only [jb];rw [if_neg (by omega)]
theorem MT{α:Type}{A:List α}{z x:α}{m:Nat}:(A++List.replicate (m+1) z).set A.length x=(A++ [x])++List.replicate m z:=by
 rw [List.set_append_right _ _ (Nat.le_refl _),Nat.sub_self,List.replicate_succ];simp
theorem zx{α β R:Type}{l:List α}{g:α→β}{z:β}{b:Int×List β→Option ((Int×List β)⊕ List β ⊕ R)}(hs:∀j,(hj:j<l.length)→∀acc:List β,(hacc:j<acc.length)→b ((j:Int),acc)=some (.inl (((j+1:Nat):Int),acc.set j (g l[j]))))(he:∀acc:List β,b ((l.length:Int),acc)=some (.inr (.inl acc))):aM b (0,List.replicate l.length z)=some (.inl (l.map g)):=by
 refine go l.length (fun j=>((j:Int),(l.take j).map g++List.replicate (l.length - j) z)) (by simp) (fun j hj=> ?_) ?_
 ·have hA:((l.take j).map g).length=j:=by rw [List.length_map,List.length_take];omega
  have hm:l.length - j=(l.length - (j+1))+1:=by omega
  rw [hs j hj _ (by rw [List.length_append,hA,List.length_replicate];omega),List.take_succ_eq_append_getElem hj,List.map_append,hm]
  have:=MT (A:=(l.take j).map g) (z:=z) (x:=g l[j]) (m:=l.length - (j+1))
  rw [hA]at this;rw [this];rfl
 ·have:=he ((l.take l.length).map g++List.replicate (l.length - l.length) z)
  rw [List.take_length,Nat.sub_self]at this;simp only [List.take_length,Nat.sub_self];simpa using this
theorem yP{s:Sl P2}(hok:okS 2 s)(hl:s.l.length≤5000)(d:Int):spvec_moved s d=some (s.l.map fun x=>(IntKind.i64.wrap (x.1+d),x.2)):=by
 rw [vU,wX,Ki (by omega)];simp only [zbS,Int.toNat_natCast];rw [zx (l:=s.l) (g:=fun x=>(IntKind.i64.wrap (x.1+d),x.2)) (fun j hj acc hacc=> ?_) (fun acc=> ?_)]
 ·rfl
 ·simp only [iY,bS hok hj,zbS,Cs hacc,cd hj (by omega),Int.toNat_natCast];rw [if_pos (by omega)]
 ·simp only [iY];rw [if_neg (by omega)]
theorem DK{s:Sl P2}(hok:okS 2 s)(hl:s.l.length≤5000){d:Int}(hd:∀y∈s.l,-9223372036854775808≤y.1+d∧y.1+d≤9223372036854775807):spvec_moved s d=some (upL d s.l):=by
 rw [yP hok hl];unfold upL;congr 1;refine List.map_congr_left fun y hy=> ?_
 have:=hd y hy
 rw [wrap64 (by omega) (by omega)]
def gl(v:Vec)(a b:Int):Int×List P2:=if min b v.1≤max a 0 then(0,[])else(min b v.1 - max a 0,upL (-(max a 0)) (dV v.2.l (max a 0) (min b v.1)))
theorem gb(hs:okS 2 v.2)(hl:v.2.l.length≤9223372036854775806)(a b:Int):∃s:Sl P2,cT v a b=some ((gl (aj v) a b).1,s)∧s.l=(gl (aj v) a b).2∧okS 2 s∧(s.nn=true∨s.l= []):=by
 rw [yF,ct hs hl];simp only [zbS];have hok:=cW hs;have ha:=cj (bq v);have hnum:=fH (bq v);have hlen:=cC v;have hf:=fp (v:=v) hs;generalize aj v=w at hok ha hlen hf hnum;have hm:=gH ha;rw [Bf,Bg];unfold gl;by_cases c:min b w.1≤max a 0
 ·rw [if_pos c,if_pos c];exact⟨_,rfl,rfl,.inl rfl,.inr rfl⟩
 rw [if_neg c,if_neg c];rw [hf];simp only [zbS];rw [hf];simp only [zbS];obtain⟨p1,p2⟩:=MO (cA ha) (a:=max a 0) (b:=min b w.1) (by omega);have p3:=Bj w.2.l (min b w.1);have hcl:=BE w.2.l (max a 0) (min b w.1)
 have hcut:uh 2 w.2 ((bt w.2.l (max a 0):Nat):Int) ((bt w.2.l (min b w.1):Nat):Int)=some ⟨w.2.nn,w.2.sz,dV w.2.l (max a 0) (min b w.1)⟩:=by
  unfold uh
  have hz:w.2.sz=2∨((bt w.2.l (max a 0):Nat):Int)=0:=by
   rcases hok with h|h
   ·have h:w.2.l= []:=h;rw [h];exact .inr rfl
   ·exact .inl h
  rw [if_pos ⟨by omega,by omega,by omega,hz⟩];simp only [Int.toNat_natCast];rw [p2]
 rw [hcut];simp only [zbS]
 have hok2:okS 2 (⟨w.2.nn,w.2.sz,dV w.2.l (max a 0) (min b w.1)⟩:Sl P2):=by
  rcases hok with h|h
  ·have h:w.2.l= []:=h
   left
   show dV w.2.l _ _= [];rw [h];rfl
  ·exact .inr h
 rw [show IntKind.i64.wrap (0 - max a 0)= -(max a 0)by rw [wrap64 (by omega) (by omega)];omega]
 rw [DK hok2 (by show(dV w.2.l _ _).length≤5000;omega) (fun y hy=>by
  have h1:=cut_mem.1 hy;have h2:=hm y h1.1
  omega)]
 simp only [zbS];rw [show IntKind.i64.wrap (min b w.1 - max a 0)=min b w.1 - max a 0 by rw [wrap64 (by omega) (by omega)]];exact⟨_,rfl,rfl,.inr rfl,.inl rfl⟩
theorem BT(hs:okS 2 v.2)(hl:v.2.l.length≤9223372036854775806)(a b:Int):gw v a b=some ((gl (aj v) a b).1,mo 2 (gl (aj v) a b).2):=by
 rw [yK,eR hs hl];simp only [zbS];have hok:=cW hs;have ha:=cj (bq v);have hnum:=fH (bq v);have hlen:=cC v;generalize aj v=w at hok ha hlen hnum;have hm:=gH ha;rw [Bf,Bg];unfold gl;by_cases c:min b w.1≤max a 0
 ·rw [if_pos c,if_pos c];rfl
 rw [if_neg c,if_neg c,show IntKind.i64.wrap (min b w.1 - max a 0)=min b w.1 - max a 0 by rw [wrap64 (by omega) (by omega)]];rw [ko (l:=w.2.l) (g:=fun y=>if max a 0≤y.1∧y.1<min b w.1 then some (y.1+ -(max a 0),y.2)else none) (fun j hj acc hacc=> ?_) (fun acc=> ?_)]
 ·rw [Hj];rfl
 ·have ej:=bS hok hj;have h2:=hm _ (List.getElem_mem hj);simp only [jP,ej,zbS,cd hj (by omega),Bf,Bg];rw [if_pos (by omega)];by_cases c1:w.2.l[j].1 ≥ max a 0
  ·rw [if_pos c1];by_cases c2:w.2.l[j].1<min b w.1
   ·rw [if_pos c2,if_pos ⟨c1,c2⟩,dn (by simp only [List.length_cons,List.length_nil];unfold bi;omega),show IntKind.i64.wrap (w.2.l[j].1 - max a 0)=w.2.l[j].1+ -(max a 0)by rw [wrap64 (by omega) (by omega)];omega];rfl
   ·rw [if_neg c2,if_neg (fun h=>c2 h.2)];simp
  ·rw [if_neg c1,if_neg (fun h=>c1 h.1)];simp
 ·simp only [jP];rw [if_neg (by omega)]
end
end Ev
end
noncomputable section
namespace Ev
open Go
theorem pair_eq{a b:P2}:(a.1=b.1∧a.2=b.2)↔a=b:=⟨fun h=>Prod.ext h.1 h.2,fun h=>by rw [h];exact⟨rfl,rfl⟩⟩
theorem we{x y:Sl P2}(hl:x.l.length≤9223372036854775806)(hx:okS 2 x)(hy:okS 2 y){b:Int→Option (Int ⊕ PUnit ⊕ Bool ⊕ Empty)}
  (hb:∀a,b a=if a<(x.l.length:Int)then(atS 2 x a).bind fun u=>(atS 2 y a).bind fun v=>if¬(u.1=v.1∧u.2=v.2)then some (.inr (.inr (.inl false)))else some (.inl (IntKind.i64.wrap (a+1)))else some (.inr (.inl ()))):
  (if(x.l.length:Int)≠(y.l.length:Int)then some false else(aM b 0).bind fun(y:PUnit ⊕ Bool ⊕ Empty)=>Sum.elim (fun _=>some true) (fun v=>Sum.elim (fun v=>some v) (fun v=>nE v) v) y)=some (decide (x.l=y.l)):=by
 by_cases h:x.l.length=y.l.length
 ·rw [if_neg (by omega)]
  rw [zt h (b:=b) (fun j hj=>by
   rw [hb,if_pos (by omega),bS hx hj,bS hy (j:=j) (by omega)];simp only [zbS];by_cases he:x.l[j]=y.l[j]
   ·rw [if_neg (fun hh=>hh (pair_eq.2 he)),if_pos he,cd hj (by omega)]
   ·rw [if_pos (fun hh=>he (pair_eq.1 hh)),if_neg he]) (fun j hj=>by rw [hb,if_neg (by omega)])]
  by_cases he:x.l=y.l
  ·simp [he]
  ·simp [he]
 ·rw [if_pos (by omega),decide_eq_false];exact fun he=>h (by rw [he])
theorem pZ{x y:Sl P2}(hl:x.l.length≤9223372036854775806)(hx:okS 2 x)(hy:okS 2 y):cL x y=some (decide (x.l=y.l)):=by
 rw [ou];exact we hl hx hy fun a=>by unfold iZ;rfl
theorem wg{x y:Sl P2}(hl:x.l.length≤9223372036854775806)(hx:okS 2 x)(hy:okS 2 y):aI x y=some (decide (x.l=y.l)):=by
 rw [fP];exact we hl hx hy fun a=>by unfold cI;rfl
theorem rH{x y:Sl Int}(hl:x.l.length≤9223372036854775806)(hx:okS 1 x)(hy:okS 1 y):cD x y=some (decide (x.l=y.l)):=by
 rw [pX];by_cases h:x.l.length=y.l.length
 ·rw [if_neg (by omega)]
  rw [zt h (b:=dX x y) (fun j hj=>by
   unfold dX;rw [if_pos (by omega),bS hx hj,bS hy (j:=j) (by omega)];simp only [zbS];by_cases he:x.l[j]=y.l[j]
   ·rw [if_neg (by simp [he]),if_pos he,cd hj (by omega)]
   ·rw [if_pos he,if_neg he]) (fun j hj=>by unfold dX;rw [if_neg (by omega)])]
  by_cases he:x.l=y.l
  ·simp [he]
  ·simp [he]
 ·rw [if_pos (by omega),decide_eq_false];exact fun he=>h (by rw [he])
theorem BU{x y:Vec}(hl:x.2.l.length≤9223372036854775806)(hx:okS 2 x.2)(hy:okS 2 y.2):aZ x y=some (decide (x.1=y.1∧x.2.l=y.2.l)):=by
 rw [yG,pZ hl hx hy];simp only [zbS,decide_eq_true_eq];by_cases h1:x.1=y.1
 ·rw [if_pos h1];simp [h1]
 ·rw [if_neg h1];simp [h1]
theorem gx{x y:Vec}(hl:x.2.l.length≤9223372036854775806)(hx:okS 2 x.2)(hy:okS 2 y.2)(h1:x.1=y.1)(h2:x.2.l=y.2.l):aZ x y=some true:=by
 rw [BU hl hx hy,decide_eq_true ⟨h1,h2⟩]
theorem BV{x y:Vec}(h1:x.2.l.length≤9223372036854775806)(h2:y.2.l.length≤9223372036854775806)(hx:okS 2 x.2)(hy:okS 2 y.2):cq x y=some (decide ((aj x).1=(aj y).1∧(aj x).2.l=(aj y).2.l)):=by
 rw [yH,ct hx h1];simp only [zbS];rw [ct hy h2];simp only [zbS];rw [wg (by have:=cC x;omega) (cW hx) (cW hy)];simp only [zbS,decide_eq_true_eq];by_cases h1:(aj x).1=(aj y).1
 ·rw [if_pos h1];simp [h1]
 ·rw [if_neg h1];simp [h1]
theorem DL{v:Vec}(hs:okS 2 v.2)(hn:v.2.nn=false→v.2.l= []):∃w:Vec,iE v=some w∧w.1=v.1∧w.2.l=v.2.l.take 60∧okS 2 w.2∧(w.2.nn=true∨w.2.l= []):=by
 have hn':v.2.nn=true∨v.2.l= []:=by
  cases h:v.2.nn with
  |true=>exact .inl rfl
  |false=>exact .inr (hn h)
 rw [BI];by_cases h:v.2.l.length>60
 ·rw [if_pos (by omega)];have hz:v.2.sz=2:=hs.resolve_left (by intro h';rw [h']at h;simp at h);refine⟨(v.1,⟨v.2.nn,v.2.sz,v.2.l.take 60⟩),?_,rfl,rfl,.inr hz,?_⟩
  ·unfold uh;rw [if_pos ⟨by omega,by omega,by omega,.inl hz⟩];simp
  ·rcases hn' with h'|h'
   ·exact .inl h'
   ·rw [h']at h;simp at h
 ·rw [if_neg (by omega)];exact⟨v,rfl,rfl,(List.take_of_length_le (by omega)).symm,hs,hn'⟩
abbrev Wv(v:Vec):Prop:=K.W (.C (.I .i64) (.S (.C (.I .i64) (.I .i64)))) v
theorem Wv.ok{v:Vec}(h:Wv v):okS 2 v.2:= .inr h.2.1
theorem Wv.nn{v:Vec}(h:Wv v):v.2.nn=false→v.2.l= []:=h.2.2.1
theorem Wv.i64{v:Vec}(h:Wv v):eX v.1∧∀y∈v.2.l,eX y.1∧eX y.2:=⟨js h.1,fun y hy=>⟨js (h.2.2.2.2 y hy).1,js (h.2.2.2.2 y hy).2⟩⟩
end Ev
end
noncomputable section
namespace Ev
open Go Sm
abbrev E3:=Int×Int×Int
def bel(a b:E3):Bool:=klt (key a) (key b)
end Ev
end
noncomputable section
namespace Ev
open Go Sm
abbrev RG(r:Int):Rg:=⟨ofW,gG r,cg⟩
theorem FB(n:Int):ke n=some (ofW n):=by
 rw [DG];unfold ofW;by_cases h:n<0
 ·simp only [if_pos h]
 ·simp only [if_neg h]
theorem rI(a b:Int×Int):∃c:Int,cS a b=some c∧(c<0↔Dp a b=true):=by
 obtain⟨a1,a2⟩:=a;obtain⟨b1,b2⟩:=b;rw [rE];unfold Dp;simp only;by_cases h2:a1<b1
 ·rw [if_pos h2];exact⟨-1,rfl,by simp [h2]⟩
 rw [if_neg h2];by_cases h3:a1=b1
 ·rw [if_pos h3];by_cases h4:a2<b2
  ·rw [if_pos h4];exact⟨-1,rfl,by simp [h3,h4]⟩
  ·rw [if_neg h4];by_cases h5:a1=b1∧a2=b2
   ·rw [if_pos h5];exact⟨0,rfl,by simp [h3];omega⟩
   ·rw [if_neg h5];exact⟨1,rfl,by simp [h3];omega⟩
 ·rw [if_neg h3];by_cases h5:a1=b1∧a2=b2
  ·exact absurd h5.1 h3
  ·rw [if_neg h5];exact⟨1,rfl,by simp [h3];omega⟩
theorem DM(a b:Int×Int):iA a b=some (ID a b):=by
 obtain⟨a1,a2⟩:=a;obtain⟨b1,b2⟩:=b;rw [BF];unfold ID kU;simp only;split<;>rfl
theorem yQ(b:Bool):eh b=some (re b):=by rw [vT];unfold re;cases b<;>rfl
theorem DN(r:Int)(a b:Int×Int):iB r a b=some (gG r a b):=by
 rw [BG];unfold gG
 have hl:((cS b a).bind fun(out:Int)=>if out<0 then some b else some a)=some (rd a b):=by
  obtain⟨c,h1,h2⟩:=rI b a;rw [h1,zbS];unfold rd;by_cases hc:c<0
  ·rw [if_pos hc,if_pos (h2.1 hc)]
  ·rw [if_neg hc,if_neg (fun h=>hc (h2.2 h))]
 simp only [hl,yQ,DM,zbS];by_cases h1:r=1
 ·simp [h1]
 by_cases h3:r=3
 ·simp [h3]
 by_cases h4:r=4
 ·simp [h4]
 simp only [if_neg h1,if_neg h3,if_neg (show¬(r=1∨r=3∨r=4)by omega),decide_eq_false h4,zbS,Sum.elim_inl,Bool.false_eq_true,if_false];by_cases h2:r=2
 ·simp only [if_pos h2];by_cases ha:a.1=0∧a.2=0
  ·by_cases hb:b.1=0∧b.2=0
   ·simp [ha,hb]
   ·simp [ha,hb]
  ·simp [ha]
 ·simp only [if_neg h2];split<;>rfl
theorem wh{a:Int×Int}(h:lI a.2):du a=some (cg a):=by
 obtain⟨a1,a2⟩:=a;rw [tX];unfold cg ofW;simp only [Pg h,Prod.mk.injEq,and_true];by_cases hn:IntKind.i64.wrap a2<0
 ·have hg:¬IntKind.i64.wrap a2 ≥ 0:=by omega
  simp only [if_pos hn,if_neg hg];by_cases h1:a1=0
  ·have:¬a1= -1:=by omega
   simp only [if_pos h1,if_neg this]
  ·simp only [if_neg h1];split<;>rfl
 ·have hg:IntKind.i64.wrap a2 ≥ 0:=by omega
  simp only [if_neg hn,if_pos hg];by_cases h1:a1=0
  ·simp only [if_pos h1]
  ·simp only [if_neg h1];split<;>rfl
theorem wi(r:Int):iN r=some (fw r):=by
 rw [DF];unfold fw;by_cases h1:r ≥ 1
 ·rw [if_pos h1,decide_eq_true (show 1≤r from h1)];simp
 ·rw [if_neg h1,decide_eq_false (show¬1≤r from h1)];rfl
end Ev
end
end Go.Proofs.Ythkgcllekhnecaa
