/- Texts of a claim, joined. -/
import Derived.Test.YtjjbpdldbdmoeaaZM4
import Derived.Laws.StructEq
import Derived.BigQuiet
import Derived.Lib.QuietBelow
import Derived.WalkSpells
import Derived.WalkLawsBesides
import Derived.Lib.Hide
import Derived.Outline
import Derived.StillTail
import Derived.Laws.IdiomRangeMap
import Derived.RangeFuncBox
import Derived.Laws.OwnMore
import Derived.Maps.AppendAt
import Derived.Defers
import Derived.Recover
import Derived.Test.YtjjbpdldbdmoeaaProg
import Derived.Deep.RegionHeld3
import Derived.BigRegion
import Derived.RegionTactic
import Derived.Laws.AppendOwnNone
set_option linter.unusedVariables false
set_option linter.unusedSimpArgs false
namespace Go.Proofs.Ytjjbpdldbdmoeaa
noncomputable section
namespace Ev
open Go Go.RowKit
section
variable {E : Env} {y : Nat → cM} {n nt : Nat} {f : Nat → D} {L : BL}
theorem ET{x:Operand}{v:D}(hx:ov nt f x=some v):PS E n nt f L (.move x) v:=λh nid hb=>by
 rw [EK,aQ,hx];rfl
theorem xo{x:Operand}{v:D}(hx:ov nt f x=some v):PS E n nt f L (.assign x) v:=λh nid hb=>by
 rw [EL,aQ,hx];rfl
theorem GZ{c a b:Operand}{fr:Bool}{v:D}(hc:ov nt f c=some (.one (.p fr (.v (.bool true)))))(hx:ov nt f a=some v):PS E n nt f L (.pick c a b) v:=λh nid hb=>by
 rw [yW,aQ,hc,aQ,hx];rfl
theorem Ha{c a b:Operand}{fr:Bool}{v:D}(hc:ov nt f c=some (.one (.p fr (.v (.bool false)))))(hx:ov nt f b=some v):PS E n nt f L (.pick c a b) v:=λh nid hb=>by
 rw [yW,aQ,hc,aQ (x:=b),hx];rfl
theorem eM{op:BinOp}{ty sh:TypeId}{x y:Operand}{fa fb:Bool}{ka kb:IntKind}{a b:Int}{v:Value}(hx:ov nt f x=some (.one (.p fa (.v (.int ka a)))))(hy:ov nt f y=some (.one (.p fb (.v (.int kb b)))))
  (hp:ae E.P (do eqGuard op ty x y (.int ka a) (.int kb b);binOp op ty (.int ka a) (.int kb b))=some v) (h1:one1 v=true):PS E n nt f L (.binOp op ty x y sh) (mk v):=λh nid hb=>by
 rw [xi,aQ,hx,aQ,hy];refine Eq.trans (b:=oo E.P E.ti op ty x y (.one (.p fa (.v (.int ka a)))) (.one (.p fb (.v (.int kb b))))) rfl ?_;rw [KL,hp];show mkO v=_;unfold mkO;rw [if_pos h1]
theorem Hb{P:Program}{ti:TypeId->Option TI}{op:BinOp}{ty:TypeId}{x y:Operand}{fr fr':Bool}{a b:Bool}:
  oo P ti op ty x y (.one (.p fr (.v (.bool a)))) (.one (.p fr' (.v (.bool b))))=(ae P (do eqGuard op ty x y (.bool a) (.bool b);binOp op ty (.bool a) (.bool b))).bind mkO:=rfl
theorem EU{op:BinOp}{ty sh:TypeId}{x y:Operand}{fa fb:Bool}{a b:Bool}{v:Value}(hx:ov nt f x=some (.one (.p fa (.v (.bool a)))))(hy:ov nt f y=some (.one (.p fb (.v (.bool b)))))
  (hp:ae E.P (do eqGuard op ty x y (.bool a) (.bool b);binOp op ty (.bool a) (.bool b))=some v) (h1:one1 v=true):PS E n nt f L (.binOp op ty x y sh) (mk v):=λh nid hb=>by
 rw [xi,aQ,hx,aQ,hy];refine Eq.trans (b:=oo E.P E.ti op ty x y (.one (.p fa (.v (.bool a)))) (.one (.p fb (.v (.bool b))))) rfl ?_;rw [Hb,hp];show mkO v=_;unfold mkO;rw [if_pos h1]
theorem KX{P:Program}{ti:TypeId->Option TI}{op:BinOp}{ty:TypeId}{x y:Operand}{a b:List C}:oo P ti op ty x y (.agg a) (.agg b)=(plain (.agg a)).bind λva=>(plain (.agg b)).bind λvb=>(ae P (do eqGuard op ty x y va vb;binOp op ty va vb)).bind mkO:=rfl
theorem vd{op:BinOp}{ty sh:TypeId}{x y:Operand}{a b:List C}{va vb v:Value}(hx:ov nt f x=some (.agg a))(hy:ov nt f y=some (.agg b))(ha:plain (.agg a)=some va)(hb':plain (.agg b)=some vb)
  (hp:ae E.P (do eqGuard op ty x y va vb;binOp op ty va vb)=some v) (h1:one1 v=true):PS E n nt f L (.binOp op ty x y sh) (mk v):=λh nid hb=>by
 rw [xi,aQ,hx,aQ,hy];refine Eq.trans (b:=oo E.P E.ti op ty x y (.agg a) (.agg b)) rfl ?_;rw [KX,ha,hb'];simp only [zbS];rw [hp];show mkO v=_;unfold mkO;rw [if_pos h1]
theorem xp{ty:TypeId}{x:Operand}{fr b:Bool}(hx:ov nt f x=some (.one (.p fr (.v (.bool b))))):PS E n nt f L (.unOp .not ty x) (bD (!b)):=λh nid hb=>by
 show((am (ar (tab nt f)) x).bind λd=>(plain d).bind λv=>(ae E.P (Op.unary .not v)).bind mkO)=_;rw [aQ,hx];rfl
theorem NV{ty:TypeId}{x:Operand}{fr:Bool}{k:IntKind}{a:Int}(hx:ov nt f x=some (.one (.p fr (.v (.int k a))))):PS E n nt f L (.unOp .neg ty x) (iD k (k.wrap (0 - a))):=λh nid hb=>by
 show((am (ar (tab nt f)) x).bind λd=>(plain d).bind λv=>(ae E.P (Op.unary .neg v)).bind mkO)=_;rw [aQ,hx];rfl
theorem KY{src dst:TypeId}{x:Operand}{fr:Bool}{k:IntKind}{a:Int}{v:Value}(hx:ov nt f x=some (.one (.p fr (.v (.int k a)))))(hp:ae E.P (Go.convert src dst (.int k a))=some v)(h1:one1 v=true):PS E n nt f L (.convert src dst x) (mk v):=λh nid hb=>by
 show((am (ar (tab nt f)) x).bind λd=>(plain d).bind λv=>match v with
  | .int .. =>(ae E.P (Go.convert src dst v)).bind mkO
  |_=>none)=_
 rw [aQ,hx];show(ae E.P (Go.convert src dst (.int k a))).bind mkO=_;rw [hp];show mkO v=_;unfold mkO;rw [if_pos h1]
theorem xq{ty:TypeId}{x:Operand}{m k i j off sz:Nat}{ag:Bool}(hx:ov nt f x=some (.one (.ptr k i j)))(ht:fieldAt E.ti ty m=some (off,sz,ag))(hz:Nat.beq sz 0=false):PS E n nt f L (.fieldAddr ty x m) (.one (.ptr k i (j+off))):=λh nid hb=>by
 rw [Ap,aQ,hx,ht];show(if sz=0 then none else _)=_;rw [if_neg (Nat.ne_of_beq_eq_false hz)]
theorem cz{ty:TypeId}{x:Operand}{m i j off sz s:Nat}{fr:Bool}{l:List (List T)}{ag:Bool}(hx:ov nt f x=some (.one (.iptr fr s l i j)))(ht:fieldAt E.ti ty m=some (off,sz,ag))(hz:Nat.beq sz 0=false):PS E n nt f L (.fieldAddr ty x m) (.one (.iptr fr s l i (j+off))):=λh nid hb=>by
 rw [Ap,aQ,hx,ht];show(if sz=0 then none else _)=_;rw [if_neg (Nat.ne_of_beq_eq_false hz)]
theorem EW{ty:TypeId}{x:Operand}{m off sz:Nat}{cs c2:List C}{ag:Bool}{v:D}(hx:ov nt f x=some (.agg cs))(ht:fieldAt E.ti ty m=some (off,sz,ag))(hc:cut cs off (cond ag sz 1)=some c2)(hv:bY ag c2=some v):PS E n nt f L (.field ty x m) v:=λh nid hb=>by
 show((E.ti ty).bind λt=>(eZ t m).bind λfd=>(E.ti fd.type).bind λft=>(am (ar (tab nt f)) x).bind λd=>match d with
  | .agg cs=>(cut cs fd.offset (if aE ft.desc then ft.size else 1)).bind λc=>(bY (aE ft.desc) c).bind λv=>some (⟨v,[]⟩:Eff)
  |_=>none)=_
 unfold fieldAt at ht;simp only [zbE,zsI,Prod.mk.injEq]at ht;obtain⟨t,h1,fd,h2,ft,h3,rfl,rfl,rfl⟩:=ht;rw [h1,aQ,hx];simp only [zbS,h2,h3]
 have hc':cut cs fd.offset (if aE ft.desc then ft.size else 1)=some c2:=by
  rw [<-hc];cases aE ft.desc<;>rfl
 rw [hc'];simp only [zbS,hv]
theorem As{α:Type}(b:Bool)(x y:α):(if b=true then x else y)=cond b x y:=by cases b<;>rfl
theorem ve{ty:TypeId}{x:Operand}{k i j sz bz:Nat}{ag:Bool}{es:List (List C)}{e cs:List C}{v:D}(p:Nat)(hx:ov nt f x=some (.one (.ptr k i j)))(hz:dU E.ti ty=some (sz,ag))(hp:L[p]? =some [(k,bz,es)])(he:es[i]? =some e)(hc:cut e j (cond ag sz 1)=some cs)(hv:bY ag cs=some v):PS E n nt f L (.load ty x) v:=λh nid hb=>by
 rw [EM,aQ,hx,hz];show uZ (kOf ag (yU j (if ag then sz else 1) (KJ i (ai h k))))=_;rw [hb.get hp,As];show uZ (kOf ag (yU j (cond ag sz 1) es[i]?))=_;rw [he];show uZ (kOf ag (cut e j (cond ag sz 1)))=_;rw [hc];show uZ (bY ag cs)=_;rw [hv];rfl
theorem aM{ty:TypeId}{x:Operand}{i j sz s:Nat}{fr ag:Bool}{l:List (List T)}{e:List T}{cs:List C}{v:D}(hx:ov nt f x=some (.one (.iptr fr s l i j)))(hz:dU E.ti ty=some (sz,ag))(he:l[i]? =some e)(hc:cut (e.map (pC fr)) j (cond ag sz 1)=some cs)(hv:bY ag cs=some v):PS E n nt f L (.load ty x) v:=λh nid hb=>by
 rw [EM,aQ,hx,hz];show uZ (kOf ag (yU j (if ag then sz else 1) (kIn fr l[i]?)))=_;rw [he,As];show uZ (kOf ag (cut (e.map (pC fr)) j (cond ag sz 1)))=_;rw [hc];show uZ (bY ag cs)=_;rw [hv];rfl
theorem vh{ty:TypeId}{a x:Operand}{k i j sz bz:Nat}{ag:Bool}{es es':List (List C)}{e e' cs:List C}{v:D}(p:Nat)(ha:ov nt f a=some (.one (.ptr k i j)))(hx:ov nt f x=some v)(hd:ea v=some cs)(hz:dU E.ti ty=some (sz,ag))(hs:Nat.beq cs.length sz=true)(hp:L[p]? =some [(k,bz,es)])(he:es[i]? =some e)(ht:patch e j cs=some e')(hes:es.set i e'=es'):PW E n nt f L (.store ty a x) aX p k bz es':=⟨⟨_,hp⟩,λh nid hb=>by
 rw [GR,aQ,ha,aQ,hx,hz];show GQ k i j sz (ea v) (ai h k)=_;rw [hd,hb.get hp];show(if cs.length=sz then EJ k i bz es (yV j cs es[i]?)else none)=_;rw [if_pos (Nat.eq_of_beq_eq_true hs),he];show EJ k i bz es (patch e j cs)=_;rw [ht];subst hes
 rfl⟩
theorem Hc{ty:TypeId}{t:TI}{row:List C}{sz:Nat}(ht:E.ti ty=some t)(hr:fC t=row)(hs:t.size=sz):PN E n nt f L (.alloc ty) (λk=> .one (.ptr k 0 0)) sz [row]:=λh nid hb=>by
 show((E.ti ty).bind λt=>some (⟨.one (.ptr nid 0 0),[(nid,.own t.size [fC t])]⟩:Eff))=_;rw [ht];subst hr hs;rfl
theorem NW{ty:TypeId}{x:Operand}{t:TI}{d:D}{cs:List C}{sz:Nat}(ht:E.ti ty=some t)(hx:ov nt f x=some d)(hc:ea d=some cs)(hs:cs.length=sz):PN E n nt f L (.box ty x) (λk=> .one (.ptr k 0 0)) sz [cs]:=λh nid hb=>by
 show((E.ti ty).bind λt=>(am (ar (tab nt f)) x).bind λd=>(ea d).bind λcs=>some (⟨.one (.ptr nid 0 0),[(nid,.own cs.length [cs])]⟩:Eff))=_;rw [ht,aQ,hx];simp only [zbS,hc];subst hs;rfl
def pf(nt:Nat)(f:Nat->D)(l:List (Nat×Operand)):Option (List (Nat×D)):=l.mapM λ((i,x):Nat×Operand)=>(ov nt f x).map λd=>(i,d)
theorem vi{ty:TypeId}{parts:Array (Nat×Operand)}{t:TI}{ps:List (Nat×D)}{pl:Nat->Option (Nat×Nat)}{cs:List C}(ht:E.ti ty=some t)(hps:pf nt f parts.toList=some ps)(hpl:iG E.ti t=some pl)(hf:fill pl (fC t) ps=some cs):PS E n nt f L (.build ty parts) (.agg cs):=λh nid hb=>by
 show((E.ti ty).bind λt=>(parts.toList.mapM λ((i,x):Nat×Operand)=>(am (ar (tab nt f)) x).map λd=>(i,d)).bind λps=>(iG E.ti t).bind λpl=>(fill pl (fC t) ps).bind λcs=>some (⟨.agg cs,[]⟩:Eff))=_;rw [ht,dA];simp only [zbS];have h1:(parts.toList.mapM λ((i,x):Nat×Operand)=>(ov nt f x).map λd=>(i,d))=some ps:=hps;simp only [h1,zbS,hpl,hf]
theorem dE{ti:TypeId->Option TI}{ty z:Nat}(h:cu ti ty=some z):∃t e te,ti ty=some t/\aA t=some e/\ti e=some te/\te.size=z:=by
 unfold cu at h;simp only [zbE,zsI]at h;obtain⟨t,h1,e,h2,te,h3,h4⟩:=h;exact⟨t,e,te,h1,h2,h3,h4⟩
theorem cE{ty ety:TypeId}{len z:Nat}{parts:Array (Nat×Operand)}{t te:TI}{ps:List (Nat×D)}{cs:List C}{es:List (List C)}(ht:E.ti ty=some t)(he:aA t=some ety)(hte:E.ti ety=some te)(hz:te.size=z)(hps:pf nt f parts.toList=some ps)(hf:fill (λi=>some (i*z,z)) (jI te len) ps=some cs)(hr:mN z cs len=some es)(hl:Nat.ble (len*z) 16777216=true):PN E n nt f L (.buildSlice ty len parts) (λk=> .one (.own k 0 len)) z es:=λh nid hb=>by
 show((E.ti ty).bind λt=>(aA t).bind λx=>(E.ti x).bind λe=>(parts.toList.mapM λ((i,x):Nat×Operand)=>(am (ar (tab nt f)) x).map λd=>(i,d)).bind λps=>(fill (λi=>some (i*e.size,e.size)) (jI e len) ps).bind λcs=>(mN e.size cs len).bind λes=>if len*e.size<=2 ^ 24 then some (⟨.one (.own nid 0 len),[(nid,.own e.size es)]⟩:Eff)else none)=_;subst hz;rw [ht,dA];have h1:(parts.toList.mapM λ((i,x):Nat×Operand)=>(ov nt f x).map λd=>(i,d))=some ps:=hps;simp only [zbS,he,hte,h1,hf,hr];rw [if_pos (Nat.le_of_ble_eq_true hl)]
theorem mr{x:Operand}{i:Nat}{ds:List D}{v:D}(hx:ov nt f x=some (.tup ds))(hi:ds[i]? =some v):PS E n nt f L (.extract x i) v:=λh nid hb=>by
 show((am (ar (tab nt f)) x).bind λd=>match d with
  | .tup ds=>(ds[i]?).bind λv=>some (⟨v,[]⟩:Eff)
  |_=>none)=_
 rw [aQ,hx];show(ds[i]?).bind _=_;rw [hi];rfl
theorem aJ{α β:Type}{r:α->β}{l:List α}{i:Nat}{x:α}(h:l[i]? =some x):(l.map r)[i]? =some (r x):=by rw [List.getElem?_map,h];rfl
theorem EX{α:Type}{l:List α}{i:Nat}{x:α}(h:l[i]? =some x):i<l.length:=(List.getElem?_eq_some_iff.1 h).1
theorem map_set{α β:Type}{r:α->β}{l:List α}{i:Nat}{x:α}:(l.map r).set i (r x)=(l.set i x).map r:=(List.map_set).symm
theorem cB{α:Type}{r:α->List T}{ty:TypeId}{x ix:Operand}{fr fb nn:Bool}{sz:Nat}{l:List α}{kb:IntKind}{i:Int}{y:α}(hx:ov nt f x=some (.one (.p fr (.s nn sz (l.map r)))))(hi:ov nt f ix=some (.one (.p fb (.v (.int kb i)))))(h0:0<=i)(hy:l[i.toNat]? =some y)(hz:cu E.ti ty=some sz):PS E n nt f L (.indexAddr ty x ix) (.one (.iptr fr sz (l.map r) i.toNat 0)):=λh nid hb=>by
 rw [pd,aQ,hx,aQ,hi];show kIx E.ti ty h _ (eB (.one (.p fb (.v (.int kb i)))))=_;rw [eJ _ _ _ h0];refine Eq.trans (b:=xh E.ti ty h i.toNat (.one (.p fr (.s nn sz (l.map r))))) rfl ?_;rw [OY,hz];show(if i.toNat<(l.map r).length/\sz=sz then _ else _)=_;rw [if_pos ⟨by rw [List.length_map];exact EX hy,rfl⟩]
theorem Ix{α:Type}{r:α->List C}{ty:TypeId}{x ix:Operand}{fb:Bool}{k sz:Nat}{l:List α}{kb:IntKind}{i:Int}{y:α}(p:Nat)(hx:ov nt f x=some (.one (.own k 0 l.length)))(hi:ov nt f ix=some (.one (.p fb (.v (.int kb i)))))(h0:0<=i)(hy:l[i.toNat]? =some y)(hp:L[p]? =some [(k,sz,l.map r)])(hz:cu E.ti ty=some sz):PS E n nt f L (.indexAddr ty x ix) (.one (.ptr k i.toNat 0)):=λh nid hb=>by
 rw [pd,aQ,hx,aQ,hi];show kIx E.ti ty h _ (eB (.one (.p fb (.v (.int kb i)))))=_;rw [eJ _ _ _ h0];refine Eq.trans (b:=xh E.ti ty h i.toNat (.one (.own k 0 l.length))) rfl ?_;rw [OZ,hz,hb.get hp];show(if i.toNat<l.length/\sz=sz then _ else _)=_;rw [if_pos ⟨EX hy,rfl⟩,Nat.zero_add]
theorem EY{c:Call}{a:Operand}{ty e:TypeId}{t:TI}{d:D}{m:Nat}(hc:c.callee= .builtin .len)(ha:c.args.toList= [a])(hty:c.argTypes[0]? =some ty)(ht:E.ti ty=some t)(hd:t.desc= .slice e)(hx:ov nt f a=some d)(hl:rJ d=some m):PS E n nt f L (.call c) (iD .i64 m):=λh nid hb=>by
 have h1:aB (.call c)=none:=by unfold aB;simp only [hc]
 rw [fP,h1];unfold sem qy;simp only [hc,hty,ht,ha,dA,zbB,zbS,List.mapM_cons,List.mapM_nil,hx,Option.pure_def,hd,hl];rfl
theorem zc{α:Type}{r:α->List T}{fr nn:Bool}{sz:Nat}{l:List α}:rJ (.one (.p fr (.s nn sz (l.map r))))=some l.length:=by
 show some (l.map r).length=_;rw [List.length_map]
theorem cW{α:Type}{r:α->List T}{c:Call}{a:Operand}{ty e:TypeId}{t:TI}{fr nn:Bool}{sz:Nat}{l:List α}(hx:ov nt f a=some (.one (.p fr (.s nn sz (l.map r)))))(ht:E.ti ty=some t)(hd:t.desc= .slice e)(hc:c.callee= .builtin .len)(ha:c.args.toList= [a])(hty:c.argTypes[0]? =some ty):PS E n nt f L (.call c) (iD .i64 l.length):=EY hc ha hty ht hd hx zc
def oq(L:BL)(x:D)(xs:List (List C)):Prop:=∀h,HB h L->gb h x=some xs
theorem cX{α:Type}{r:α->List C}{k sz:Nat}{l:List α}(p:Nat)(hp:L[p]? =some [(k,sz,l.map r)]):oq L (.one (.own k 0 l.length)) (l.map r):=λh hb=>by
 show((ai h k).bind λx=>cut x.2 0 l.length)=_;rw [hb.get hp];show cut (l.map r) 0 l.length=_;unfold cut;rw [if_pos (by simp),List.drop_zero,List.take_of_length_le (by simp)]
theorem KZ{c:Call}{a x:Operand}{ty ty1 z e1:TypeId}{t1:TI}{fr:Bool}{bz:Nat}{d:D}{xs:List (List C)}(ha:ov nt f a=some (.one (.p fr (.s false bz []))))(hx:ov nt f x=some d)(hxs:oq L d xs)(hne:∃y ys,xs=y::ys)(hb:xs.length<=cQ)(hall:xs.all (·.length==z)=true)(hz:cu E.ti ty=some z)(ht1:E.ti ty1=some t1)(he1:aA t1=some e1)
  (hc:c.callee= .builtin .append) (hargs:c.args.toList= [a,x]) (hty:c.argTypes[0]? =some ty) (hty1:c.argTypes[1]? =some ty1):PN E n nt f L (.call c) (λk=> .one (.own k 0 xs.length)) z xs:=λh nid hh=>by
 obtain⟨t,e,te,g1,g2,g3,g4⟩:=dE hz;have h1:aB (.call c)=none:=by unfold aB;simp only [hc]
 rw [fP,h1];unfold sem qy;simp only [hc,hty,g1,hargs,dA,zbB,zbS,List.mapM_cons,List.mapM_nil,ha,hx,Option.pure_def,g2,g3,hty1,ht1,he1,g4];unfold Ev.append;simp only [hxs h hh,zbB,zbS];obtain⟨y,ys,rfl⟩:=hne;rw [if_neg (by simp),if_neg (by simp),if_pos hb,if_pos hall]
theorem EZ{c:Call}{a x:Operand}{ty ty1 z e1:TypeId}{t1:TI}{fr:Bool}{bz:Nat}{d:D}(ha:ov nt f a=some (.one (.p fr (.s false bz []))))(hx:ov nt f x=some d)(hxs:oq L d [])(hz:cu E.ti ty=some z)(ht1:E.ti ty1=some t1)(he1:aA t1=some e1)
  (hc:c.callee= .builtin .append) (hargs:c.args.toList= [a,x]) (hty:c.argTypes[0]? =some ty) (hty1:c.argTypes[1]? =some ty1):PS E n nt f L (.call c) (.one (.p fr (.s false bz []))):=λh nid hh=>by
 obtain⟨t,e,te,g1,g2,g3,g4⟩:=dE hz;have h1:aB (.call c)=none:=by unfold aB;simp only [hc]
 rw [fP,h1];unfold sem qy;simp only [hc,hty,g1,hargs,dA,zbB,zbS,List.mapM_cons,List.mapM_nil,ha,hx,Option.pure_def,g2,g3,hty1,ht1,he1,g4];unfold Ev.append;simp only [hxs h hh,zbB,zbS];rw [if_neg (by simp),if_pos (show([]:List (List C)).length=0 from rfl)]
theorem Fc{α:Type}{r:α->List C}{c:Call}{a x:Operand}{ty ty1 z e1:TypeId}{t1:TI}{k:Nat}{l m lm:List α}{d:D}{xs:List (List C)}(p:Nat)(ha:ov nt f a=some (.one (.own k 0 l.length)))(hx:ov nt f x=some d)(hxs:oq L d xs)(hm:xs=m.map r)(hp:L[p]? =some [(k,z,l.map r)])(hlm:app l m=some lm)(hr:∀y,(r y).length=z)(hz:cu E.ti ty=some z)(ht1:E.ti ty1=some t1)(he1:aA t1=some e1)
  (hc:c.callee= .builtin .append) (hargs:c.args.toList= [a,x]) (hty:c.argTypes[0]? =some ty) (hty1:c.argTypes[1]? =some ty1) (hz0:Nat.beq z 0=false:=by rfl):PA E n nt f L (.call c) (λk'=> .one (.own k' 0 lm.length)) p k z (lm.map r):=⟨⟨_,hp⟩,λh nid hh=>by
 obtain⟨t,e,te,g1,g2,g3,g4⟩:=dE hz;obtain⟨hb,rfl⟩:=aT hlm;have h1:aB (.call c)=none:=by unfold aB;simp only [hc]
 rw [fP,h1];unfold sem qy;simp only [hc,hty,g1,hargs,dA,zbB,zbS,List.mapM_cons,List.mapM_nil,ha,hx,Option.pure_def,g2,g3,hty1,ht1,he1,g4];unfold Ev.append;simp only [hxs h hh,zbB,zbS,hh.get hp,hm];rw [if_pos ⟨trivial,by simp,by simpa using hb,trivial,by simp [hr],Nat.ne_of_beq_eq_false hz0⟩]
 simp⟩
theorem He{α:Type}{r:α->List C}{ty:Nat}{x y:Operand}{t te:TI}{ety z:Nat}{fa fb:Bool}{ka kb:IntKind}{i j:Int}{a:α}(ht:E.ti ty=some t)(he:aA t=some ety)(hte:E.ti ety=some te)(hx:ov nt f x=some (.one (.p fa (.v (.int ka i)))))(hy:ov nt f y=some (.one (.p fb (.v (.int kb j)))))(h0:0<=i)(hij:i<=j)(hj:j.toNat<=cQ)(hz:fC te=r a)(hs:te.size=z):PN E n nt f L (.makeSlice ty x y) (λk=> .one (.own k 0 (List.replicate i.toNat a).length)) z ((List.replicate i.toNat a).map r):=λh nid hb=>by
 show((E.ti ty).bind λt=>(aA t).bind λq=>(E.ti q).bind λe=>(am (ar (tab nt f)) x).bind λdx=>(eB dx).bind λn=>(am (ar (tab nt f)) y).bind λdy=>(eB dy).bind λm=>if n<=m/\m<=cQ then some (⟨.one (.own nid 0 n),[(nid,.own e.size (List.replicate n (fC e)))]⟩:Eff)else none)=_;rw [ht];simp only [zbS,he,hte,aQ,hx,hy,eJ _ _ _ h0,eJ _ _ _ (show 0<=j by omega)];rw [if_pos ⟨by omega,hj⟩,List.length_replicate,List.map_replicate,hz,hs]
def Vw(L:BL)(ds:List D)(vs:List (Bool×TD)):Prop:=∀h,HB h L->ds.mapM (br h)=some vs
theorem dq:Vw L [] []:=λh hb=>rfl
theorem aL{d:D}{ds:List D}{v:Bool×TD}{vs:List (Bool×TD)}(h1:∀h,HB h L->br h d=some v)(h2:Vw L ds vs):Vw L (d::ds) (v::vs):=λh hb=>by
 rw [List.mapM_cons,h1 h hb,h2 h hb];rfl
def VwC(L:BL)(cs:List C)(vs:List (Bool×T)):Prop:=∀h,HB h L->∀m,cs.mapM (cm h (m+2))=some vs
theorem vj:VwC L [] []:=λh hb m=>rfl
theorem gh{c:C}{cs:List C}{v:Bool×T}{vs:List (Bool×T)}(h1:∀h,HB h L->∀m,cm h (m+2) c=some v)(h2:VwC L cs vs):VwC L (c::cs) (v::vs):=λh hb m=>by
 rw [List.mapM_cons,h1 h hb m,h2 h hb m];rfl
theorem gL{x:Value}:∀h,HB h L->∀m,cm h (m+2) (.p true (.v x))=some (true,.v x):=λh hb m=>rfl
theorem xt{fr nn:Bool}{sz:Nat}{l:List (List T)}:∀h,HB h L->∀m,cm h (m+2) (.p fr (.s nn sz l))=some (fr,.s nn sz l):=λh hb m=>rfl
theorem xu{α β γ:Type}{r:α->List β}{q:α->List γ}{g:β->Option (Bool×γ)}(hq:∀x,(r x).mapM g=some ((q x).map λt=>(true,t))):∀l:List α,((l.map r).mapM λe=>e.mapM g)=some ((l.map q).map λe=>e.map λt=>(true,t))
 | []=>rfl
 |x::l=>by
  rw [List.map_cons,List.mapM_cons,hq x,xu hq l];rfl
theorem qD{α:Type}{r:α->List T}{k sz:Nat}{l:List α}(p:Nat)(hp:L[p]? =some [(k,sz,l.map (aZ r))])(hr:∀x h m,(aZ r x).mapM (cm h (m+1))=some ((r x).map λt=>(true,t))):∀h,HB h L->∀m,cm h (m+2) (.own k 0 l.length)=some (true,.s true sz (l.map r)):=λh hb m=>by
 have hc:cut (l.map (aZ r)) 0 l.length=some (l.map (aZ r)):=by
  unfold cut;rw [if_pos (by simp),List.drop_zero,List.take_of_length_le (by simp)]
 have e1:cm h (m+2) (.own k 0 l.length)=(ai h k).bind λx=>(cut x.2 0 l.length).bind λes=>(es.mapM λe:List C=>e.mapM (cm h (m+1))).bind λq=>some (q.all (λe=>e.all (·.1)),T.s true x.1 (q.map (λe=>e.map (·.2)))):=rfl;rw [e1,hb.get hp];simp only [zbS,hc];rw [xu (q:=r) λx=>hr x h m];simp only [zbS,List.map_map];congr 2
 .rw [List.all_eq_true];intro x hx;simp only [List.mem_map]at hx;obtain⟨y,_,rfl⟩:=hx;rw [List.all_eq_true];intro z hz;simp only [Function.comp,List.mem_map]at hz;obtain⟨w,_,rfl⟩:=hz;rfl
 .congr 1;refine List.map_congr_left λx hx=> ?_;simp [Function.comp_def]
theorem bP{c:C}{b:Bool}{t:T}(h1:∀h,HB h L->∀m,cm h (m+2) c=some (b,t)):∀h,HB h L->br h (.one c)=some (b,.one t):=λh hb=>by
 show(cm h 6 c).bind _=_;rw [h1 h hb 4];rfl
theorem vk{cs:List C}{vs:List (Bool×T)}(h1:VwC L cs vs):∀h,HB h L->br h (.agg cs)=some (vs.all (·.1),.agg (vs.map (·.2))):=λh hb=>by
 show(cs.mapM (cm h 6)).bind _=_;rw [h1 h hb 4];rfl
def NX(E:Env)(n:Nat)(k:FuncId)(vs:List TD)(rs:List TD):Prop:=∃fr:Bool,RunsP E n k vs (cond fr .fresh .any,rs)
theorem tu{c:Call}{k:FuncId}{args:List D}{vs:List (Bool×TD)}{r:Kind×List TD}{e:Nat->Eff}(hc:aB (.call c)=some c)(hr:bh c (ov nt f)=some (k,args))(hv:Vw L args vs)(hk:cpR E n k (vs.map (·.2))=some r)
  (he:∀nid,(match r.1 with
   | .own=>match r.2 with
    | [.one (.s true sz l)]=>some ({v:= .one (.own nid 0 l.length),upd:= [(nid,.own sz (l.map (·.map (pC true))))]}:Eff)
    |_=>none
   | .fresh=>some {v:=fK (r.2.map (bu true))}
   | .any=>if args.any go then none else some {v:=fK (r.2.map (bu (vs.all (·.1))))})=some (e nid)):∀(h:Heap) (nid:Nat),HB h L->stepG E (cpR E n) none nid (.call c) (ar (tab nt f)) h=some (e nid):=λh nid hb=>by
 rw [fP,hc];show fg (cpR E n) nid c (ar (tab nt f)) h=_;unfold fg;rw [dA,hr];simp only [zbB,zbS,hv h hb,hk];exact he nid
theorem At{c:Call}{k:FuncId}{args:List D}{vs:List (Bool×TD)}{vs2 rs:List TD}{v:D}(hk:RunsP E n k vs2 (.fresh,rs))(hc:aB (.call c)=some c)(hr:bh c (ov nt f)=some (k,args))(hv:Vw L args vs)(h2:vs.map (·.2)=vs2)(hrv:fK (rs.map (bu true))=v):PS E n nt f L (.call c) v:=λh nid hb=>by
 subst hrv h2;exact tu (e:=λ_=>⟨_,[]⟩) hc hr hv (fO hk) (λ_=>rfl) h nid hb
theorem Hg{α:Type}{r:α->List T}{c:Call}{k:FuncId}{args:List D}{vs:List (Bool×TD)}{vs2:List TD}{sz:Nat}{l:List α}(hk:RunsP E n k vs2 (.own,[.one (.s true sz (l.map r))]))(hc:aB (.call c)=some c)(hr:bh c (ov nt f)=some (k,args))(hv:Vw L args vs)(h2:vs.map (·.2)=vs2):PN E n nt f L (.call c) (λk'=> .one (.own k' 0 l.length)) sz (l.map (aZ r)):=λh nid hb=>by
 subst h2
 have:=tu (e:=λnid=>⟨.one (.own nid 0 (l.map r).length),[(nid,.own sz ((l.map r).map (·.map (pC true))))]⟩) hc hr hv (fO hk) (λ_=>rfl) h nid hb
 rw [List.length_map,List.map_map]at this;exact this
def BJ(E:Env)(nt:Nat)(f:Nat->D)(L:BL)(rv:List ResultVar)(ds:List D):Prop:=∀h,HB h L->rv.mapM (bw E {t:=tab nt f,h:=h})=some ds
theorem mt:BJ E nt f L [] []:=λh hb=>rfl
theorem gk{t:Tmp}{d:D}{rv:List ResultVar}{ds:List D}(ht:ov nt f (.tmp t)=some d)(h:BJ E nt f L rv ds):BJ E nt f L (.tmp t::rv) (d::ds):=λH hb=>by
 have:(tab nt f)[t]? =some d:=(aQ nt f (.tmp t)).trans ht
 rw [List.mapM_cons,h H hb];show((tab nt f)[t]?).bind _=_;rw [this];rfl
theorem qE{rv:List ResultVar}{ds:List D}{vs:List (Bool×TD)}{e:Ex}{rs:List TD}(he:e= .normal∨e= .ret)(hr:BJ E nt f L rv ds)(hv:Vw L ds vs)(ho:∀h,HB h L->bJ h ds=false)(hf:vs.all (·.1)=true)(hrs:vs.map (·.2)=rs):cP nt (gZ E rv (.fresh,rs)) e f L:=λH hb=>by
 have key:bm (λl:Kind×List TD=>l=(.fresh,rs)) ((rv.mapM (bw E {t:=tab nt f,h:=H})).bind λrs=>(rs.mapM (br H)).map λl=>(if bJ H rs then .own else if l.all (·.1)then .fresh else .any,l.map (·.2))):=by
  rw [hr H hb];simp only [zbS,hv H hb,Option.map_some,ho H hb,hf,hrs];rfl
 rcases he with rfl|rfl<;>exact key
theorem La{α:Type}{r:α->List T}{rv:List ResultVar}{k sz:Nat}{l:List α}{e:Ex}(p:Nat)(he:e= .normal∨e= .ret)(hr:BJ E nt f L rv [.one (.own k 0 l.length)])(hp:L[p]? =some [(k,sz,l.map (aZ r))])(hr2:∀x h m,(aZ r x).mapM (cm h (m+1))=some ((r x).map λt=>(true,t)))(hpl:∀x,(aZ r x).all jW=true):cP nt (gZ E rv (.own,[.one (.s true sz (l.map r))])) e f L:=λH hb=>by
 have ho:bJ H [.one (.own k 0 l.length)]=true:=by
  simp [bJ,hb.get hp,hpl]
 have key:bm (λl':Kind×List TD=>l'=(.own,[.one (.s true sz (l.map r))])) ((rv.mapM (bw E {t:=tab nt f,h:=H})).bind λrs=>(rs.mapM (br H)).map λl=>(if bJ H rs then .own else if l.all (·.1)then .fresh else .any,l.map (·.2))):=by
  rw [hr H hb];have hv: [D.one (.own k 0 l.length)].mapM (br H)=some [(true,.one (.s true sz (l.map r)))]:=aL (bP (qD p hp hr2)) dq H hb;simp only [zbS,hv,Option.map_some,ho];rfl
 rcases he with rfl|rfl<;>exact key
theorem Hh{d e:D}{ds:List D}{h:Heap}:bJ h (d::e::ds)=false:=by
 unfold bJ;split
 .rename_i hx;simp at hx
 .rfl
theorem Iy{fr:Bool}{t:T}{h:Heap}:bJ h [.one (.p fr t)]=false:=rfl
def f0(vs:List TD):Nat->D:=λi=>(vs.map (bu false)).getD i aX
theorem Hi{k:FuncId}{fi:FI}{vs rs:List TD}(ha:E.ax k=none)(hf:E.fn k=some fi)(hl:Nat.ble vs.length fi.nt=true)(h:WpL E nY n fi.nt fi.body (gZ E fi.results (.fresh,rs)) (f0 vs) []):RunsP E (n+1) k vs (.fresh,rs):=mm ha hf (Nat.le_of_ble_eq_true hl) (h [] ⟨List.nodup_nil,λx hx=>by simp at hx⟩)
end
section
variable (P : Program) (t : TypeId) (x y : Operand) (k : IntKind) {a b : Int}
theorem Hj(h:a<b):ae P (do eqGuard .lss t x y (.int k a) (.int k b);binOp .lss t (.int k a) (.int k b))=some (.bool true):=by rw [Eu,decide_eq_true h]
theorem Hk(h:¬a<b):ae P (do eqGuard .lss t x y (.int k a) (.int k b);binOp .lss t (.int k a) (.int k b))=some (.bool false):=by rw [Eu,decide_eq_false h]
theorem Hl(h:a<=b):ae P (do eqGuard .leq t x y (.int k a) (.int k b);binOp .leq t (.int k a) (.int k b))=some (.bool true):=by rw [Ew,decide_eq_true h]
theorem Hm(h:¬a<=b):ae P (do eqGuard .leq t x y (.int k a) (.int k b);binOp .leq t (.int k a) (.int k b))=some (.bool false):=by rw [Ew,decide_eq_false h]
theorem Hn(h:a>b):ae P (do eqGuard .gtr t x y (.int k a) (.int k b);binOp .gtr t (.int k a) (.int k b))=some (.bool true):=by rw [Ey,decide_eq_true h]
theorem Ho(h:¬a>b):ae P (do eqGuard .gtr t x y (.int k a) (.int k b);binOp .gtr t (.int k a) (.int k b))=some (.bool false):=by rw [Ey,decide_eq_false h]
theorem Hq(h:a >= b):ae P (do eqGuard .geq t x y (.int k a) (.int k b);binOp .geq t (.int k a) (.int k b))=some (.bool true):=by rw [Ez,decide_eq_true h]
theorem Hr(h:¬a >= b):ae P (do eqGuard .geq t x y (.int k a) (.int k b);binOp .geq t (.int k a) (.int k b))=some (.bool false):=by rw [Ez,decide_eq_false h]
theorem Hs(h:a=b):ae P (do eqGuard .eql t x y (.int k a) (.int k b);binOp .eql t (.int k a) (.int k b))=some (.bool true):=by rw [EA,h];simp
theorem Ht(h:¬a=b):ae P (do eqGuard .eql t x y (.int k a) (.int k b);binOp .eql t (.int k a) (.int k b))=some (.bool false):=by rw [EA];simp [h]
theorem Hu(h:a≠b):ae P (do eqGuard .neq t x y (.int k a) (.int k b);binOp .neq t (.int k a) (.int k b))=some (.bool true):=by rw [EB];simp [h]
theorem Hv(h:¬a≠b):ae P (do eqGuard .neq t x y (.int k a) (.int k b);binOp .neq t (.int k a) (.int k b))=some (.bool false):=by rw [EB,Classical.not_not.1 h];simp
end
def mo{α:Type}(w:Nat)(l:List α):Sl α:=
 match l with
 | []=>⟨false,0,[]⟩
 |_::_=>⟨true,w,l⟩
def moC{α:Type}(l:List α)(k:Nat):C:=
 match l with
 | []=> .p true (.s false 0 [])
 |_::_=> .own k 0 l.length
def moL{α:Type}(r:α->List T)(w:Nat)(l:List α)(k:Nat):List B1:=
 match l with
 | []=> []
 |_::_=> [(k,w,l.map (aZ r))]
theorem np{α:Type}(w:Nat)(l:List α):(mo w l).l=l:=by cases l<;>rfl
def Lb(k:IntKind)(a b:Int):Option Int:=if b≠0 then some (k.wrap (a.tdiv b))else none
def Lc(a b:Int):Option Int:=if b≠0 then some (a.tmod b)else none
theorem Ld{P:Program}{t:TypeId}{x y:Operand}{k:IntKind}{a b z:Int}(h:Lb k a b=some z):ae P (do eqGuard .quo t x y (.int k a) (.int k b);binOp .quo t (.int k a) (.int k b))=some (.int k z):=by
 unfold Lb at h;split at h
 .rename_i hc;rw [<-Option.some.inj h];exact NP _ _ _ _ _ _ _ hc
 .simp at h
theorem Lf{P:Program}{t:TypeId}{x y:Operand}{k:IntKind}{a b z:Int}(h:Lc a b=some z):ae P (do eqGuard .rem t x y (.int k a) (.int k b);binOp .rem t (.int k a) (.int k b))=some (.int k z):=by
 unfold Lc at h;split at h
 .rename_i hc;rw [<-Option.some.inj h];exact NQ _ _ _ _ _ _ _ hc
 .simp at h
def Fd(i:Int):Option Unit:=if 0<=i/\i.toNat<=cQ then some ()else none
def Fe(i j:Int):Option Unit:=if i=j then some ()else if i<=j/\j.toNat<=cQ then some ()else none
theorem zd{i j:Int}{u:Unit}(h:Fe i j=some u):i=j∨(i<=j/\j.toNat<=cQ):=by
 unfold Fe at h;split at h
 .rename_i hi;exact .inl hi
 .split at h
  .rename_i hj;exact .inr hj
  .simp at h
theorem ze{i:Int}{u:Unit}(h:Fd i=some u):0<=i/\i.toNat<=cQ:=by
 unfold Fd at h;split at h
 .assumption
 .simp at h
end Ev
end
noncomputable section
namespace Ev
open Go Go.RowKit
def Lg(x:Int)(k:IntKind)(y:Int):Int:=x.fdiv (2 ^(min y.toNat k.bits))
def NY(x:Int)(k:IntKind)(y:Int):Int:=k.wrap (x*2 ^(min y.toNat k.bits))
def Ff(k:IntKind)(x y:Int):Option Int:=if 0<=y then some (Lg x k y)else none
def Lh(k:IntKind)(x y:Int):Option Int:=if 0<=y then some (NY x k y)else none
theorem NZ{P:Program}{t:TypeId}{x y:Operand}{k k':IntKind}{a b z:Int}(h:Ff k a b=some z):ae P (do eqGuard .shr t x y (.int k a) (.int k' b);binOp .shr t (.int k a) (.int k' b))=some (.int k z):=by
 unfold Ff at h;split at h
 .rename_i hc;rw [<-Option.some.inj h]
  have:(do eqGuard .shr t x y (.int k a) (.int k' b);binOp .shr t (.int k a) (.int k' b))=(pure (.int k (Lg a k b)):Sem Value):=by
   show Op.shift .shr k a k' b=_;unfold Op.shift;rw [if_neg (by omega)];rfl
  rw [this];rfl
 .simp at h
theorem Oa{P:Program}{t:TypeId}{x y:Operand}{k k':IntKind}{a b z:Int}(h:Lh k a b=some z):ae P (do eqGuard .shl t x y (.int k a) (.int k' b);binOp .shl t (.int k a) (.int k' b))=some (.int k z):=by
 unfold Lh at h;split at h
 .rename_i hc;rw [<-Option.some.inj h]
  have:(do eqGuard .shl t x y (.int k a) (.int k' b);binOp .shl t (.int k a) (.int k' b))=(pure (.int k (NY a k b)):Sem Value):=by
   show Op.shift .shl k a k' b=_;unfold Op.shift;rw [if_neg (by omega)];rfl
  rw [this];rfl
 .simp at h
def Ob(k:IntKind)(x y:Int):Int:=k.wrap (BitVec.ofInt k.bits x &&& BitVec.ofInt k.bits y).toNat
def orI(k:IntKind)(x y:Int):Int:=k.wrap (BitVec.ofInt k.bits x|||BitVec.ofInt k.bits y).toNat
def Li(k:IntKind)(x y:Int):Int:=k.wrap (BitVec.ofInt k.bits x ^^^ BitVec.ofInt k.bits y).toNat
def Au(k:IntKind)(x y:Int):Int:=k.wrap (BitVec.ofInt k.bits x &&& ~~~ BitVec.ofInt k.bits y).toNat
section
variable (P : Program) (t : TypeId) (x y : Operand) (k : IntKind) (a b : Int)
theorem Oc:ae P (do eqGuard .and t x y (.int k a) (.int k b);binOp .and t (.int k a) (.int k b))=some (.int k (Ob k a b)):=by cases k<;>rfl
theorem Pa:ae P (do eqGuard .or t x y (.int k a) (.int k b);binOp .or t (.int k a) (.int k b))=some (.int k (orI k a b)):=by cases k<;>rfl
theorem Od:ae P (do eqGuard .xor t x y (.int k a) (.int k b);binOp .xor t (.int k a) (.int k b))=some (.int k (Li k a b)):=by cases k<;>rfl
theorem Fg:ae P (do eqGuard .andNot t x y (.int k a) (.int k b);binOp .andNot t (.int k a) (.int k b))=some (.int k (Au k a b)):=by cases k<;>rfl
end
section
variable {E : Env} {y : Nat → cM} {n nt : Nat} {f : Nat → D} {L : BL}
def nr{α:Type}(w:Nat)(s:Sl α)(lo hi:Int):Option (Sl α):=if 0<=lo/\lo<=hi/\hi<=(s.l.length:Int)/\(s.sz=w∨lo=0)then some ⟨s.nn,s.sz,(s.l.drop lo.toNat).take (hi.toNat - lo.toNat)⟩else none
theorem dN{α:Type}{w:Nat}{s s':Sl α}{lo hi:Int}(h:nr w s lo hi=some s'):(0<=lo/\lo<=hi/\hi<=(s.l.length:Int)/\(s.sz=w∨lo=0))/\s'=⟨s.nn,s.sz,(s.l.drop lo.toNat).take (hi.toNat - lo.toNat)⟩:=by
 unfold nr at h;split at h
 .rename_i hc;exact⟨hc,(Option.some.inj h).symm⟩
 .simp at h
theorem Hw{ρ:Operand->Option D}(d:Nat):cJ ρ none d=some ((d:Int)).toNat:=by simp [cJ]
theorem vl{ρ:Operand->Option D}:cJ ρ none 0=some ((0:Int)).toNat:=rfl
theorem pg{y:Operand}{fr:Bool}{k:IntKind}{i:Int}(hx:ov nt f y=some (.one (.p fr (.v (.int k i)))))(h0:0<=i)(d:Nat):cJ (ov nt f) (some y) d=some i.toNat:=by
 show(ov nt f y).bind eB=_;rw [hx];exact eJ fr k _ h0
theorem xv{α:Type}{r:α->List T}{ty e:TypeId}{t te:TI}{x:Operand}{lo hi mx:Option Operand}{fr nn:Bool}{sz m:Nat}{l:List α}{s':Sl α}{i j:Int}(hc:nr te.size ⟨nn,sz,l⟩ i j=some s')(hx:ov nt f x=some (.one (.p fr (.s nn sz (l.map r)))))(ht:E.ti ty=some t)(he:aA t=some e)(hte:E.ti e=some te)(hlo:cJ (ov nt f) lo 0=some i.toNat)(hhi:cJ (ov nt f) hi l.length=some j.toNat)(hmx:cJ (ov nt f) mx l.length=some m)(hm:(mx.isSome && hi.isNone)=false)(hm1:j.toNat<=m)(hm2:m<=l.length):PS E n nt f L (.slice ty x lo hi mx) (.one (.p fr (Sl.t r s'))):=λh nid hb=>by
 obtain⟨⟨c1,c2,c3,c4⟩,rfl⟩:=dN hc;simp only at c1 c2 c3 c4;show(if(mx.isSome && hi.isNone)=true then none else(E.ti ty).bind λt=>(aA t).bind λq=>(E.ti q).bind λte=>(am (ar (tab nt f)) x).bind λd=>(rJ d).bind λn=>(cJ (am (ar (tab nt f))) hi n).bind λh'=>(cJ (am (ar (tab nt f))) lo 0).bind λl'=>(cJ (am (ar (tab nt f))) mx n).bind λm'=>if l'<=h'/\h'<=m'/\m'<=n then _ else _)=_;rw [if_neg (by rw [hm];simp),ht,dA];simp only [zbS,he,hte,hx,zc,hhi,hlo,hmx];rw [if_pos (by omega)];show(if sz=te.size∨i.toNat=0 then _ else _)=_;rw [if_pos (by rcases c4 with h|h;exact .inl h;exact .inr (by omega))];unfold Sl.t;rw [List.map_take,List.map_drop]
theorem qG{α:Type}{r:α->List T}{ty e:TypeId}{t te:TI}{x:Operand}{lo hi:Option Operand}{fr nn:Bool}{sz:Nat}{l:List α}{s':Sl α}{i j:Int}(hc:nr te.size ⟨nn,sz,l⟩ i j=some s')(hx:ov nt f x=some (.one (.p fr (.s nn sz (l.map r)))))(ht:E.ti ty=some t)(he:aA t=some e)(hte:E.ti e=some te)(hlo:cJ (ov nt f) lo 0=some i.toNat)(hhi:cJ (ov nt f) hi l.length=some j.toNat):PS E n nt f L (.slice ty x lo hi none) (.one (.p fr (Sl.t r s'))):=
 xv hc hx ht he hte hlo hhi (m:=l.length) rfl rfl (by have:=(dN hc).1;simp only at this;omega) (Nat.le_refl _)
theorem Oe{ty e:TypeId}{t te:TI}{m z:Nat}{x ix:Operand}{fb:Bool}{kb:IntKind}{k i j a:Nat}(ht:E.ti ty=some t)(hd:t.desc= .array m e)(hte:E.ti e=some te)(hz:te.size=z)(hx:ov nt f x=some (.one (.ptr k i j)))(hi:ov nt f ix=some (.one (.p fb (.v (.int kb (a:Int))))))(ha:Nat.blt a m=true):PS E n nt f L (.indexAddr ty x ix) (.one (.ptr k i (j+a*z))):=λh nid hb=>by
 rw [pd,aQ,hx,aQ,hi];refine Eq.trans (b:=xh E.ti ty h a (.one (.ptr k i j))) rfl ?_
 show((E.ti ty).bind λt=>match t.desc with
  | .array n e=>(E.ti e).bind λte=>if a<n then some (⟨.one (.ptr k i (j+a*te.size)),[]⟩:Eff)else none
  |_=>none)=_
 rw [ht];simp only [zbS,hd,hte];rw [if_pos (cV ha),hz]
variable {ops : Array Oper} {r : List Oper} {K : St → Prop}
def Of(a b:Int):Int:=if b<a then b else a
def Og(a b:Int):Int:=if b>a then b else a
theorem xw{c:Call}{x y:Operand}{ty:TypeId}{t:TI}{fa fb:Bool}{ka kb:IntKind}{a b:Int}(hx:ov nt f x=some (.one (.p fa (.v (.int ka a)))))(hy:ov nt f y=some (.one (.p fb (.v (.int kb b)))))(ht:E.ti ty=some t)(hargs:c.args.toList= [x,y])(hty:c.argTypes[0]? =some ty):(c.callee= .builtin .min->PS E n nt f L (.call c) (iD ka (Of a b)))/\(c.callee= .builtin .max->PS E n nt f L (.call c) (iD ka (Og a b))):=by
 constructor<;>intro hc h nid hb
 all_goals
  have h1:aB (.call c)=none:=by unfold aB;simp only [hc]
  rw [fP,h1];unfold sem qy;simp only [hc,hty,ht,hargs,dA,zbB,zbS,List.mapM_cons,List.mapM_nil,hx,hy,Option.pure_def,plain,jU];rfl
theorem zf{α:Type}{l m x:List α}(h:app l m=some x):x=l++m:=(aT h).2
theorem vm{α:Type}{l m x:List α}(h:app l m=some x):x.length<=cQ:=by
 obtain⟨h1,rfl⟩:=aT h;simpa using h1
theorem vn{α:Type}{ro:α->List C}{c:Call}{a x:Operand}{ty ty1 z e1:TypeId}{t1:TI}{fr:Bool}{bz:Nat}{d:D}{y:α}{ys:List α}(ha:ov nt f a=some (.one (.p fr (.s false bz []))))(hx:ov nt f x=some d)(hxs:oq L d ((y::ys).map ro))(hb:(y::ys).length<=cQ)(hr:∀y,(ro y).length=z)(hz:cu E.ti ty=some z)(ht1:E.ti ty1=some t1)(he1:aA t1=some e1)
  (hc:c.callee= .builtin .append) (hargs:c.args.toList= [a,x]) (hty:c.argTypes[0]? =some ty) (hty1:c.argTypes[1]? =some ty1):PN E n nt f L (.call c) (λk=> .one (.own k 0 (y::ys).length)) z ((y::ys).map ro):=by
 have:=KZ (n:=n) ha hx hxs ⟨_,_,rfl⟩ (by simpa using hb) (by simp [hr]) hz ht1 he1 hc hargs hty hty1
 rw [List.length_map]at this;exact this
end
def BM{α:Type}(w:Nat)(r:α->List T)(l:List α):Kind×List TD:=
 match l with
 | []=>(.fresh,[.one (.s false 0 [])])
 |y::t=>(.own,[.one (.s true w ((y::t).map r))])
theorem Pb{E:Env}{n:Nat}{k:FuncId}{fi:FI}{vs:List TD}{rs:Kind×List TD}(ha:E.ax k=none)(hf:E.fn k=some fi)(hl:Nat.ble vs.length fi.nt=true)(h:WpL E nY n fi.nt fi.body (gZ E fi.results rs) (f0 vs) []):RunsP E (n+1) k vs rs:=mm ha hf (Nat.le_of_ble_eq_true hl) (h [] ⟨List.nodup_nil,λx hx=>by simp at hx⟩)
section
variable {α : Type} {rw_ : α → List T} {w k : Nat} {l : List α}
theorem Lj:rJ (.one (moC l k))=some l.length:=by cases l<;>rfl
end
section
variable {E : Env} {y : Nat → cM} {n nt : Nat} {f : Nat → D} {L : BL} {ops : Array Oper} {o : Oper} {rr : List Oper} {K : St → Prop} {d : Nat}
def moK{α:Type}(l:List α)(k:Nat):List Nat:=
 match l with
 | []=> []
 |_::_=> [k]
theorem HB.dropNil{h:Heap}{L:BL}{p:Nat}(hp:L[p]? =some [])(hb:HB h L):HB h (L.eraseIdx p):=by unfold HB;rw [ta hp];exact hb
theorem ib{p:Nat}(hp:L[p]? =some [])(h:dB E y n nt ops rr K f (L.eraseIdx p)):dB E y n nt ops rr K f L:=λH hb=>h H (hb.dropNil hp)
theorem Fh{α:Type}{Q:Ex->St->Prop}{c:Code}(r:α->List T)(w:Nat)(h:WpL E y n nt c Q f (moL r w ([]:List α) 0::L)):WpL E y n nt c Q f L:=λH hb=>h H hb
theorem qH{α:Type}:∀{l:List α} {q:Nat} {s:α},l[q]? =some s->l.set q s=l
 | [],q,s,h=>by simp at h
 |a::l,0,s,h=>by simp at h;subst h;rfl
 |a::l,q+1,s,h=>by rw [List.set_cons_succ,qH (by simpa using h)]
theorem ic{α:Type}{r:α->List T}{c:Call}{a x:Operand}{ty ty1 w e1:TypeId}{t1:TI}{k:Nat}{l ys lm:List α}{dx:D}(p:Nat)(hw:cv ops o nt f=some true)(hd:o.dst=some d)(hn:Nat.blt d nt=true)(ho:o.op= .call c)(ha:ov nt f a=some (.one (moC l k)))(hx:ov nt f x=some dx)(hxs:oq L dx (ys.map (aZ r)))(hp:L[p]? =some (moL r w l k))(hlm:app l ys=some lm)(hr:∀y,(aZ r y).length=w)(hz:cu E.ti ty=some w)(ht1:E.ti ty1=some t1)(he1:aA t1=some e1)
  (hc:c.callee= .builtin .append) (hargs:c.args.toList= [a,x]) (hty:c.argTypes[0]? =some ty) (hty1:c.argTypes[1]? =some ty1) (h:∀k',dB E y n nt ops rr K (up f d (.one (moC lm k'))) (moL r w lm k'::L.eraseIdx p)) (hz0:Nat.beq w 0=false:=by rfl):dB E y n nt ops (o::rr) K f L:=by
 cases l with
 |nil=>
  have hlm2:=zf hlm;rw [List.nil_append]at hlm2;subst hlm2;have hb:=vm hlm
  cases lm with
  |nil=>exact vc hw hd hn (by rw [ho];exact EZ ha hx hxs hz ht1 he1 hc hargs hty hty1) (ib hp (h 0))
  |cons y ys=>
   refine eL hw hd hn (by rw [ho];exact vn (ro:=aZ r) ha hx hxs hb hr hz ht1 he1 hc hargs hty hty1) λk'=> ?_;exact ib (p:=p+1) hp (h k')
 |cons y l=>
  obtain⟨_,rfl⟩:=aT hlm;exact EN hw hd hn (by rw [ho];exact Fc (r:=aZ r) p ha hx hxs rfl hp hlm hr hz ht1 he1 hc hargs hty hty1 hz0) rfl h
theorem zg{i q b p:Nat}{O:List (List Nat)}{N:List (Bool×List Nat)}{R:List (List Nat)}(hp:L[p]? =some [])(h:TnL E n nt ops rr i q O N R b K f (L.eraseIdx p)):TnL E n nt ops rr i q O N R b K f L:=λH hb hl=>h H (hb.dropNil hp) hl
theorem Av{α:Type}{r:α->List T}{c:Call}{a x:Operand}{ty ty1 w e1:TypeId}{t1:TI}{k i wd b:Nat}{O:List (List Nat)}{N:List (Bool×List Nat)}{R:List (List Nat)}{A:BL}{l ys lm:List α}{y0:α}{dx:D}(p q:Nat)(hw:cv ops o nt f=some true)(hd:o.dst=some d)(hn:Nat.blt d nt=true)(ho:o.op= .call c)(is:List Nat)(hn2:is.Nodup)(hA:is.filterMap (λi=>L[i]?)=A)(hm:∀x∈A.flatten,x.1 ∉(R.getD i []).flatMap (ay b O N))(hu:ay b O N i=moK l k++ [b+i])(hi:Nat.blt i wd=true)(hk:∀x∈L.flatten,x.1≠b+i)
  (ha:ov nt f a=some (.one (moC l k))) (hx:ov nt f x=some dx) (hxs:oq A dx ((y0::ys).map (aZ r))) (hp:A[p]? =some (moL r w l k)) (hq:L[q]? =some (moL r w l k)) (hlm:app l (y0::ys)=some lm) (hr:∀y,(aZ r y).length=w) (hz:cu E.ti ty=some w) (ht1:E.ti ty1=some t1) (he1:aA t1=some e1)
  (hc:c.callee= .builtin .append) (hargs:c.args.toList= [a,x]) (hty:c.argTypes[0]? =some ty) (hty1:c.argTypes[1]? =some ty1) (h:TnL E n nt ops rr (i+1) wd O N R b K (up f d (.one (moC lm (b+i)))) (moL r w lm (b+i)::L.eraseIdx q)) (hz0:Nat.beq w 0=false:=by rfl):TnL E n nt ops (o::rr) i wd O N R b K f L:=by
 cases l with
 |nil=>
  have hlm2:=zf hlm;rw [List.nil_append]at hlm2;subst hlm2;have hb:=vm hlm;refine yY hw hd hn is hn2 hA hm hu hi hk (by rw [ho];exact vn (ro:=aZ r) ha hx hxs hb hr hz ht1 he1 hc hargs hty hty1) ?_;exact zg (p:=q+1) hq h
 |cons y l=>
  obtain⟨_,rfl⟩:=aT hlm;exact KP hw hd hn is hn2 hA hm hu hi hk (by rw [ho];exact Fc (r:=aZ r) p ha hx hxs rfl hp hlm hr hz ht1 he1 hc hargs hty hty1 hz0) hq rfl h
theorem hkM{α:Type}{r:α->List T}{w k z:Nat}{l:List α}{A:BL}(h1:l= []∨k≠z)(h2:∀x∈A.flatten,x.1≠z):∀x∈(moL r w l k::A:BL).flatten,x.1≠z:=λx hx=>by
 rw [List.flatten_cons,List.mem_append]at hx;rcases hx with hx|hx
 .cases l with
  |nil=>simp [moL]at hx
  |cons a l=>simp only [moL,List.mem_singleton]at hx;subst hx;exact h1.resolve_left (by simp)
 .exact h2 x hx
theorem ph{α:Type}{r:α->List T}{w k b:Nat}{l:List α}(h:∀x∈L.flatten,x.1<b)(p:Nat)(hp:L[p]? =some (moL r w l k)):l= []∨k<b:=by
 cases l with
 |nil=>exact .inl rfl
 |cons a l=>exact .inr (KQ h p hp)
theorem vo{α:Type}{l:List α}{k b:Nat}(h:l= []∨k<b):∀x∈moK l k,x<b:=λx hx=>by
 cases l with
 |nil=>simp [moK]at hx
 |cons a l=>simp only [moK,List.mem_singleton]at hx;subst hx;exact h.resolve_left (by simp)
theorem Oh{α:Type}{r:α->List T}{w k:Nat}{l:List α}(p:Nat)(hp:L[p]? =some (moL r w l k))(hr:∀x h m,(aZ r x).mapM (cm h (m+1))=some ((r x).map λt=>(true,t))):∀h,HB h L->∀m,cm h (m+2) (moC l k)=some (true,Sl.t r (mo w l)):=by
 cases l with
 |nil=>exact λh hb m=>rfl
 |cons a l=>exact qD (r:=r) p hp hr
theorem Lk{α:Type}{r:α->List T}{rv:List ResultVar}{k w:Nat}{l:List α}{e:Ex}(p:Nat)(he:e= .normal∨e= .ret)(hr:BJ E nt f L rv [.one (moC l k)])(hp:L[p]? =some (moL r w l k))(hr2:∀x h m,(aZ r x).mapM (cm h (m+1))=some ((r x).map λt=>(true,t)))(hpl:∀x,(aZ r x).all jW=true):cP nt (gZ E rv (BM w r l)) e f L:=by
 cases l with
 |nil=>exact qE he hr (aL (bP xt) dq) (λh hb=>Iy) rfl rfl
 |cons a l=>exact La (r:=r) p he hr hp hr2 hpl
theorem Fi{α:Type}{r:α->List T}{c:Call}{k:FuncId}{args:List D}{vs:List (Bool×TD)}{vs2:List TD}{w:Nat}{l:List α}(hk:RunsP E n k vs2 (BM w r l))(hw:cv ops o nt f=some true)(hd:o.dst=some d)(hn:Nat.blt d nt=true)(ho:o.op= .call c)(hc:aB (.call c)=some c)(hr:bh c (ov nt f)=some (k,args))(hv:Vw L args vs)(h2:vs.map (·.2)=vs2)(h:∀k',dB E y n nt ops rr K (up f d (.one (moC l k'))) (moL r w l k'::L)):dB E y n nt ops (o::rr) K f L:=by
 cases l with
 |nil=>exact vc hw hd hn (by rw [ho];exact At hk hc hr hv h2 rfl) λH hb=>h 0 H hb
 |cons a l=>exact eL hw hd hn (by rw [ho];exact Hg (r:=r) hk hc hr hv h2) h
end
theorem bj{α β:Type}(P:Program)(s:Sem α)(k:α->Sem β):ae P (s>>=k)=(ae P s).bind λa=>ae P (k a):=by
 induction s with
 |pure a=>rfl
 |program q ih=>exact ih P
 |_=>rfl
section
variable {P : Program}
theorem mu{t:TypeId}{d:TypeDesc}(h:P.underlying t=some d):ae P (underlying t)=some d:=by
 have:ae P (underlying t)=match P.underlying t with|some d=>some d|none=>none:=by
  show ae P (underlying t)=_
  cases hx:P.underlying t with
  |none=>rw [hx]at h;simp at h
  |some d'=>
   unfold underlying;simp [bj,program,ae,hx];rfl
 rw [this,h]
theorem ie(d:Nat)(t:TypeId)(xs ys:Array Value){fs:Array Field}(ht:P.underlying t=some (.struct fs))(hp:P.stoodInHeld t=false):
  ae P (Op.equalIn (d+1) t (.agg xs) (.agg ys))=ae P (Op.eqFields d xs ys fs.toList):=by
 have e1:ae P program=some P:=rfl;simp only [Op.equalIn,bj,mu ht,zbS,e1,hp,Bool.false_eq_true,if_false];rw [<-Array.forIn_toList];generalize fs.toList=fs;clear ht
 induction fs with
 |nil=>rfl
 |cons f fs ih=>
  simp only [List.forIn_cons,Op.eqFields,bj];by_cases hf:f.name≠ "_"
  .simp only [if_pos hf,bj]
   cases ae P (part f.type xs f.offset)with
   |none=>rfl
   |some a=>
    cases ae P (part f.type ys f.offset)with
    |none=>rfl
    |some b=>
     simp only [zbS]
     cases ae P (Op.equalIn d f.type a b)with
     |none=>rfl
     |some q=>
      cases q
      .rfl
      .exact ih
  .simp only [if_neg hf,bj];exact ih
theorem eU{d:Nat}{xs ys:Array Value}{f:Field}{fs:List Field}{k k':IntKind}{a b:Int}(hf:(f.name== "_")=false)(h1:ae P (part f.type xs f.offset)=some (.int k a))(h2:ae P (part f.type ys f.offset)=some (.int k b))(h3:P.underlying f.type=some (.int k')):
  ae P (Op.eqFields (d+1) xs ys (f::fs))=if(a==b)=true then ae P (Op.eqFields (d+1) xs ys fs)else some false:=by
 have hf':f.name≠ "_" :=by simpa using hf
 have h4:ae P (Op.equalIn (d+1) f.type (.int k a) (.int k b))=some (a==b):=by
  simp only [Op.equalIn,bj,mu h3,zbS,if_true];rfl
 simp only [Op.eqFields,if_pos hf',bj,h1,h2,h4,zbS];cases a==b<;>rfl
theorem zh{d:Nat}{xs ys us vs:Array Value}{f:Field}{fs:List Field}{c:Bool}(hf:(f.name== "_")=false)(h1:ae P (part f.type xs f.offset)=some (.agg us))(h2:ae P (part f.type ys f.offset)=some (.agg vs))(h4:ae P (Op.equalIn (d+1) f.type (.agg us) (.agg vs))=some c):
  ae P (Op.eqFields (d+1) xs ys (f::fs))=if c=true then ae P (Op.eqFields (d+1) xs ys fs)else some false:=by
 have hf':f.name≠ "_" :=by simpa using hf
 simp only [Op.eqFields,if_pos hf',bj,h1,h2,h4,zbS];cases c<;>rfl
theorem gl{d:Nat}{xs ys:Array Value}:ae P (Op.eqFields d xs ys [])=some true:=rfl
theorem Fj{t:TypeId}{x y:Operand}{xs ys:Array Value}{b:Bool}(hg:P.eqGuardType P.depth t=false)(h:ae P (Op.equalIn 10000 t (.agg xs) (.agg ys))=some b):ae P (do eqGuard .eql t x y (.agg xs) (.agg ys);binOp .eql t (.agg xs) (.agg ys))=some (.bool b):=by
 have e1:ae P program=some P:=rfl
 have h1:ae P (eqGuard .eql t x y (.agg xs) (.agg ys))=some ():=by
  simp only [eqGuard,Bool.not_true,Bool.false_eq_true,if_false,bj,e1,zbS,hg,Bool.not_false,if_true];rfl
 rw [bj,h1];show ae P (binOp .eql t (.agg xs) (.agg ys))=_;have h2:binOp .eql t (.agg xs) (.agg ys)=(do pure (.bool (<-Op.equal t (.agg xs) (.agg ys)))):=rfl;rw [h2,bj];unfold Op.equal Op.maxDepth;rw [h];rfl
theorem xx{t:TypeId}{x y:Operand}{xs ys:Array Value}{b:Bool}(hg:P.eqGuardType P.depth t=false)(h:ae P (Op.equalIn 10000 t (.agg xs) (.agg ys))=some b):ae P (do eqGuard .neq t x y (.agg xs) (.agg ys);binOp .neq t (.agg xs) (.agg ys))=some (.bool (!b)):=by
 have e1:ae P program=some P:=rfl
 have h1:ae P (eqGuard .neq t x y (.agg xs) (.agg ys))=some ():=by
  simp only [eqGuard,Bool.not_true,Bool.false_eq_true,if_false,bj,e1,zbS,hg,Bool.not_false,if_true];rfl
 rw [bj,h1];show ae P (binOp .neq t (.agg xs) (.agg ys))=_;have h2:binOp .neq t (.agg xs) (.agg ys)=(do pure (.bool (!(<-Op.equal t (.agg xs) (.agg ys))))):=rfl;rw [h2,bj];unfold Op.equal Op.maxDepth;rw [h];rfl
theorem jb{a b:Bool}{q:Option Bool}(h:q=some b):(if a=true then q else some false)=some (a && b):=by cases a<;>simp [h]
end
end Ev
end
noncomputable section
namespace Ev
open Go Go.RowKit
def inK(k:IntKind)(x:Int):Prop:=(Lit.int k x).wf=true
def SlW{α:Type}(w:Nat)(Q:α->Prop)(s:Sl α):Prop:=s.sz=w/\(s.nn=false->s.l= [])/\s.l.length<=maxLen/\∀x∈s.l,Q x
section
variable {P : Program} {t : TypeId} {ts : List T}
theorem pj{k:IntKind}(hu:P.underlying t=some (.int k))(h:Typ P t ts):∃x:Int,ts= [iT k x]/\inK k x:=by
 cases h with
 |int _ k' n h hw=>rw [hu]at h;cases h;exact⟨n,rfl,hw⟩
 |bool _ b h=>rw [hu]at h;simp at h
 |str _ s h=>rw [hu]at h;simp at h
 |slice _ e nn l h=>rw [hu]at h;simp at h
 |struct _ fs tss h=>rw [hu]at h;simp at h
 |array _ n e tss h=>rw [hu]at h;simp at h
theorem tv{α β:Type}{r:α->β}{Q:α->Prop}:∀{l:List β},(∀es∈l,∃x,es=r x/\Q x)->∃xs:List α,l=xs.map r/\∀x∈xs,Q x
 | [],_=>⟨[],rfl,λx hx=>by simp at hx⟩
 |e::l,h=>by
  obtain⟨x,rfl,hx⟩:=h e List.mem_cons_self;obtain⟨xs,rfl,hxs⟩:=tv λe he=>h e (List.mem_cons_of_mem _ he);exact⟨x::xs,rfl,λy hy=>by rcases List.mem_cons.1 hy with rfl|hy;exact hx;exact hxs y hy⟩
theorem tw{α:Type}{r:α->List T}{Q:α->Prop}{e:TypeId}{w:Nat}(hu:P.underlying t=some (.slice e))(hw:P.cellsOf e=w)(he:∀ts,Typ P e ts->∃x,ts=r x/\Q x)(h:Typ P t ts):∃s:Sl α,ts= [Sl.t r s]/\SlW w Q s:=by
 cases h with
 |slice _ e' nn l h hn hl h1 h2=>
  rw [hu]at h;cases h;obtain⟨xs,rfl,hq⟩:=tv (r:=r) (Q:=Q) λes hes=>he es (h2 es hes);exact⟨⟨nn,w,xs⟩,by rw [hw];rfl,rfl,λhh=>by simpa using hn hh,by simpa using hl,hq⟩
 |int _ k' n h hw=>rw [hu]at h;simp at h
 |bool _ b h=>rw [hu]at h;simp at h
 |str _ s h=>rw [hu]at h;simp at h
 |struct _ fs tss h=>rw [hu]at h;simp at h
 |array _ n e tss h=>rw [hu]at h;simp at h
theorem qI{fs:Array Field}(hu:P.underlying t=some (.struct fs))(h:Typ P t ts):∃tss:List (List T),ts=tss.flatten/\tss.length=fs.toList.length/\∀(i:Nat) f ts',fs.toList[i]? =some f->tss[i]? =some ts'->Typ P f.type ts':=by
 cases h with
 |struct _ fs' tss h hl hf=>rw [hu]at h;cases h;exact⟨tss,rfl,by simpa using hl,λi f ts' h1 h2=>hf i f ts' (by simpa using h1) h2⟩
 |int _ k' n h hw=>rw [hu]at h;simp at h
 |bool _ b h=>rw [hu]at h;simp at h
 |str _ s h=>rw [hu]at h;simp at h
 |slice _ e nn l h=>rw [hu]at h;simp at h
 |array _ n e tss h=>rw [hu]at h;simp at h
theorem xy{ts:List TypeId}{tds:List TD}{d:TypeDesc}(hu:P.underlying t=some d)(ha:aE d=false)(h:mf P (t::ts) tds):∃x r,tds= .one x::r/\Typ P t [x]/\mf P ts r:=by
 cases h with
 |cons t ts td ds h hr=>
  cases h with
  |one x h _=>exact⟨x,ds,rfl,h,hr⟩
  |agg xs h h2=>obtain⟨d',h3,h4⟩:=h2;rw [hu]at h3;cases h3;rw [ha]at h4;simp at h4
theorem Fk{tds:List TD}(h:mf P [] tds):tds= []:=by cases h;rfl
end
theorem Ll{E:Env}{n:Nat}{k:FuncId}{tds:List TD}(h:RunsP E n k tds (.fresh,[.one (bT true)])):∃m n kind,(bk E m n).1 k tds=some (kind,[.one (.v (.bool true))]):=by
 obtain⟨M,hM⟩:=h;exact⟨M,n,.fresh,hM M (Nat.le_refl _)⟩
theorem gm{A R:Type}{b:A->Option (A ⊕ R)}(n:Nat)(I:Nat->A->Prop)(Q:R->Prop)(hs:∀j a,j<n->I j a->(∃a',b a=some (.inl a')/\I (j+1) a')∨∃r,b a=some (.inr r)/\Q r)(he:∀a,I n a->∃r,b a=some (.inr r)/\Q r)(j:Nat)(hj:j<=n)(a:A)(ha:I j a):∃r,cD b a=some r/\Q r:=by
 obtain⟨k,hk⟩:∃k,n=j+k:=⟨n - j,by omega⟩
 induction k generalizing j a with
 |zero=>
  have:j=n:=by omega
  subst this;obtain⟨r,h1,h2⟩:=he a ha;exact⟨r,kN h1,h2⟩
 |succ k ih=>
  rcases hs j a (by omega) ha with⟨a',h1,h2⟩|⟨r,h1,h2⟩
  .obtain⟨r,h3,h4⟩:=ih (j+1) (by omega) a' h2 (by omega);exact⟨r,(za h1).trans h3,h4⟩
  .exact⟨r,kN h1,h2⟩
theorem fR{α:Type}{w:Nat}{s:Sl α}(hs:s.l= []∨s.sz=w){j:Nat}(hj:j<s.l.length):atS w s (j:Int)=some s.l[j]:=by
 have hw:s.sz=w:=hs.resolve_left (by intro h;rw [h]at hj;simp at hj);unfold atS;rw [if_pos ⟨by omega,hw⟩];simp
theorem Fl{α:Type}{l m:List α}(h:l.length+m.length<=cQ):app l m=some (l++m):=by unfold app;rw [if_pos h]
theorem ig{j n:Nat}(h:j<n)(hn:n<=9223372036854775807):IntKind.i64.wrap ((j:Int)+1)=((j+1:Nat):Int):=by rw [yQ (by omega) (by omega)];rfl
def neL{α:Type}(l:List α):Option Unit:=
 match l with
 | []=>none
 |_::_=>some ()
end Ev
end
noncomputable section
namespace Ev
open Go Go.RowKit
section
variable {E : Env} {y : Nat → cM} {n nt : Nat} {f : Nat → D} {L : BL}
def vp(nt:Nat)(f:Nat->D)(l:List Operand):Option (List C):=l.mapM λx=>do match<-ov nt f x with| .one c=>some c|_=>none
theorem Hx{fn:Fn}{first cap:Array Operand}{fs cs:List C}(h1:vp nt f first.toList=some fs)(h2:vp nt f cap.toList=some cs):PS E n nt f L (.makeFunc fn first cap) (.one (.clo fn fs cs)):=λh nid hb=>by
 show((first.toList.mapM λx=>(am (ar (tab nt f)) x).bind λd=>match d with| .one c=>some c|_=>none).bind λa=>(cap.toList.mapM λx=>(am (ar (tab nt f)) x).bind λd=>match d with| .one c=>some c|_=>none).bind λb=>some (⟨.one (.clo fn a b),[]⟩:Eff))=_;rw [dA];have h1':(first.toList.mapM λx=>(ov nt f x).bind λd=>match d with| .one c=>some c|_=>none)=some fs:=h1;have h2':(cap.toList.mapM λx=>(ov nt f x).bind λd=>match d with| .one c=>some c|_=>none)=some cs:=h2;rw [h1',h2'];rfl
def Fm(k:IntKind)(a:Int):Int:=Li k (if k.signed then -1 else k.max) a
theorem Hy{ty:TypeId}{x:Operand}{fr:Bool}{k:IntKind}{a:Int}(hx:ov nt f x=some (.one (.p fr (.v (.int k a))))):PS E n nt f L (.unOp .xor ty x) (iD k (Fm k a)):=λh nid hb=>by
 show((am (ar (tab nt f)) x).bind λd=>(plain d).bind λv=>(ae E.P (Op.unary .xor v)).bind mkO)=_;rw [aQ,hx];cases k<;>rfl
def fA(args:List D):Nat->D:=λi=>args.getD i aX
theorem Lm{args:List D}{k:Nat}(hl:args.length<=k):args++List.replicate (k - args.length) aX=tab k (fA args):=by
 rw [EC (args++List.replicate (k - args.length) aX)];have hlen:(args++List.replicate (k - args.length) aX).length=k:=by simp;omega
 rw [hlen];refine List.ext_getElem? λi=> ?_;rw [gg,gg];split
 .rename_i hi;congr 1;unfold fA;rw [List.getD_eq_getElem?_getD,List.getD_eq_getElem?_getD,List.getElem?_append];split
  .rfl
  .rename_i hge;rw [List.getElem?_replicate,if_pos (by omega),List.getElem?_eq_none (by omega)];rfl
 .rfl
def Iz(E:Env)(y:Nat->cM)(n nt:Nat)(ops:Array Oper)(r:List Oper)(K:St->Prop)(f:Nat->D)(d:Nat)(rv:List ResultVar):Ex->St->Prop:=λe s=>(e= .normal∨e= .ret)/\∃ds,rv.mapM (bw E s)=some ds/\fZ E y n ops r K {t:=tab nt (up f d (fK ds)),h:=s.h}
variable {ops : Array Oper} {o : Oper} {r : List Oper} {K : St → Prop} {d : Nat} {Q : Ex → St → Prop}
theorem ot{b:Bool}(h:cv ops o nt f=some b):dJ ops (ar (tab nt f)) o=some b:=by
 obtain⟨g,g1,g2⟩:=cC h;unfold gOf at g1;unfold dJ
 cases ho:o.guard with
 |none=>rw [ho]at g1;simp only [zsI]at g1;subst g1;exact g2
 |some p=>
  obtain⟨j,w⟩:=p;rw [ho]at g1;simp only [Option.map_eq_some_iff]at g1;obtain⟨d,h1,h2⟩:=g1;subst h2;rw [zbE]at h1;obtain⟨o',h3,h4⟩:=h1;have h3':ops[j]? =some o':=by simpa using h3
  simp only [h3',h4,zbB,zbS];exact g2
theorem BN{cp:bn}{c:Call}{nid:Nat}{H:Heap}(hw:cv ops o nt f=some true)(hc:aB o.op=some c):step E cp ops nid o (ar (tab nt f)) H=fg cp nid c (ar (tab nt f)) H:=by
 unfold step;rw [ot hw];simp only [zbB,zbS,if_true,hc]
end
theorem Fo{b i j:Nat}(h:Nat.beq i j=false):b+i≠b+j:=by have:=Nat.ne_of_beq_eq_false h;omega
section
variable {X Up KT : Type} {nt : Nat}
variable {ex : Ex} {S : X → KT → (Nat → D) → Nat → D} {SL : X → KT → BL} {J : Up → Ex → St → Prop} {G : Up → Ex → St → Prop}
end
end Ev
end
noncomputable section
open Go.RowKit Go.Sort
def Has(w:World)(b:Nat):Prop:=b<w.heap.size
def Oi(w:World)(os:Array Obj)(b:Nat):Prop:=w.heap.size<=b/\b<w.heap.size+os.size
theorem Has.of{w:World}{b:Nat}(h:b<w.heap.size):Has w b:=h
@[go_sem] theorem LH (w:World) (o:Obj) (b:Nat):Has (w.alloc o) b=(b=w.heap.size∨Has w b):=by
 unfold Has;simp;omega
@[go_sem] theorem Oj (w:World) (d:Nat) (os:Array Obj) (b:Nat):Has (grow (redrawn w d) os) b=(Has w b∨Oi w os b):=by
 unfold Has Oi;simp [grow,redrawn];omega
@[go_sem] theorem IA (w:World) (a:Addr) (v:Value) (b:Nat):Has (w.setCell a v) b=Has w b:=by
 unfold Has;simp [World.setCell]
@[go_sem] theorem Ol (w:World) (b:Nat):Has w.drew b=Has w b:=rfl
@[go_sem] theorem Oy {w:World} {d:Nat} {os:Array Obj} {a:Addr} (h:Has w a.block):(grow (redrawn w d) os).cell? a=w.cell? a:=
 (below_regrown w d os).cell h
@[go_sem] theorem LI {w:World} {d:Nat} {os:Array Obj} {a:Addr} (h:Has w a.block):(grow (redrawn w d) os).frozen? a=w.frozen? a:=
 (below_regrown w d os).frozen h
@[go_sem] theorem Oz {w:World} {o:Obj} {a:Addr} (h:Has w a.block):(w.alloc o).cell? a=w.cell? a:=
 ((Below.refl w.heap.size w).alloc (Nat.le_refl _) o).cell h
@[go_sem] theorem LJ {w:World} {o:Obj} {a:Addr} (h:Has w a.block):(w.alloc o).frozen? a=w.frozen? a:=
 ((Below.refl w.heap.size w).alloc (Nat.le_refl _) o).frozen h
@[go_sem] theorem Ln {w:World} {o:Obj} {a:Addr} {v:Value} (h:Has w a.block):(w.alloc o).setCell a v=(w.setCell a v).alloc o:=by
 unfold Has at h;simp only [World.setCell,World.alloc];congr 1;apply Array.ext_getElem?;intro k;simp only [Array.getElem?_modify,Array.getElem?_push,Array.size_modify];by_cases hk:k=w.heap.size
 .subst hk;simp;omega
 .simp [hk]
@[go_sem] theorem Pc {α:Type} (p:Prop) [Decidable p] (x y:α) (w:World):(if p then Result.ok x w else Result.ok y w)=Result.ok (if p then x else y) w:=by
 split<;>rfl
@[go_sem] theorem LK (p:Prop) [Decidable p] (x y:Value):(if p then Next.value x else Next.value y)=Next.value (if p then x else y):=by
 split<;>rfl
@[go_sem] theorem Pm (w:World) (d d2:Nat) (os os2:Array Obj):grow (redrawn (grow (redrawn w d) os) d2) os2=grow (redrawn w d2) (os++os2):=by
 simp [grow,redrawn,Array.append_assoc]
@[go_sem] theorem OA (w:World) (d:Nat) (os:Array Obj):(grow (redrawn w d) os).heap.size=w.heap.size+os.size:=by simp [grow,redrawn]
@[go_sem] theorem Lo {w:World} {d:Nat} {os:Array Obj} {a:Addr} {v:Value} (h:Has w a.block):(grow (redrawn w d) os).setCell a v=grow (redrawn (w.setCell a v) d) os:=by
 unfold Has at h;simp only [grow,redrawn,World.setCell];congr 1;apply Array.ext_getElem?;intro k;rw [Array.getElem?_modify];by_cases hk:k<w.heap.size
 .rw [Array.getElem?_append_left hk,Array.getElem?_append_left (by simpa using hk),Array.getElem?_modify]
 .rw [if_neg (by omega),Array.getElem?_append_right (by omega),Array.getElem?_append_right (by simpa using by omega)];simp
@[go_sem] theorem Hz (w:World) (d:Nat):(redrawn w d).heap=w.heap:=rfl
theorem bla{w w1:World}(h:Below w.heap.size w w1)(o:Obj):Below w.heap.size w (w1.alloc o):=h.alloc h.size o
theorem bls{w w1:World}(h:Below w.heap.size w w1){p:Addr}(hp:w.heap.size<=p.block)(v:Value):Below w.heap.size w (w1.setCell p v):=h.setCell hp v
theorem bld{w w1:World}(h:Below w.heap.size w w1):Below w.heap.size w w1.drew:=h.drew
@[go_sem] theorem Pd:IntKind.u64.signed=false:=rfl
@[go_sem] theorem Pe:IntKind.i64.signed=true:=rfl
@[go_sem] theorem Pn:IntKind.u8.signed=false:=rfl
@[go_sem] theorem Pf:IntKind.u32.signed=false:=rfl
end
noncomputable section
open Go Go.RowKit Go.Sort
section
variable {P : Program} {ops : Array Oper} {md : Region.Mode} {C : World → Prop}
end
end
noncomputable section
open Go Go.RowKit Go.Sort
section
variable {P : Program} {ops : Array Oper} {md : Region.Mode} {W : World}
def Pg(w w':World):Prop:=Below w.heap.size w w'
def xz(P:Program)(w:World)(v:Value):Result Next->Prop
 | .ok (.value u) w'=>w'=w/\u=v
 | .ok .skip w'=>w'=w/\v=undef
 | .ok (.enter f args) w'=>w'=w/\Calls P f args w (λe w''=>e= .returned v/\Pg w w'')
 |_=>False
def Fp(P:Program)(o:Oper)(a:Act)(w:World)(v:Value):Prop:=xz P w v ((execOp a.eval o).run P w)
def Ph(P:Program)(o:Oper)(a:Act)(W:World)(next:Act->Prop):Prop:=∃v,(∀p:Regrown,Fp P o a (grow (redrawn W p.d) p.os) v)/\next (a.put o.dst v)
attribute [go_sem] xz Fp Ph
def ya(ops:Array Oper)(ok:Oper)(n k:Nat):Bool:=(List.range n).all λj=>j==k||(match ops[j]? with|some oj=>ok.apart ops oj|none=>true)
end
end
noncomputable section
open Go Go.RowKit Go.Sort
section
variable {P : Program} {ops : Array Oper} {md : Region.Mode} {W : World}
end
end
noncomputable section
open Go.RowKit Go.Sort
def CellsAt(W:World)(B:Nat)(t:TypeId)(cs:Array Value):Prop:=W.heap[B]? =some (.cells cs t (0,0))
theorem CellsAt.lt{W:World}{B:Nat}{t:TypeId}{cs:Array Value}(h:CellsAt W B t cs):B<W.heap.size:=(Array.getElem?_eq_some_iff.1 h).1
theorem CellsAt.cell{W:World}{B:Nat}{t:TypeId}{cs:Array Value}(h:CellsAt W B t cs)(i:Nat):W.cell? ⟨B,i,none⟩=cs[i]? :=by
 simp [World.cell?,show W.heap[B]? =_ from h]
theorem CellsAt.frozen{W:World}{B:Nat}{t:TypeId}{cs:Array Value}(h:CellsAt W B t cs)(i:Nat):W.frozen? ⟨B,i,none⟩=false:=by simp [World.frozen?,show W.heap[B]? =_ from h]
theorem CellsAt.set{W:World}{B:Nat}{t:TypeId}{cs:Array Value}(h:CellsAt W B t cs)(i:Nat)(v:Value):CellsAt (W.setCell ⟨B,i,none⟩ v) B t (cs.setIfInBounds i v):=by
 obtain⟨hlt,hk⟩:=Array.getElem?_eq_some_iff.1 h;show(W.heap.modify B _)[B]? =_;rw [Array.getElem?_eq_getElem (by rw [Array.size_modify];exact hlt),Array.getElem_modify_self,hk];rfl
theorem CellsAt.kept{W W':World}{B:Nat}{t:TypeId}{cs:Array Value}(h:CellsAt W B t cs)(hb:W'.heap[B]? =W.heap[B]?):CellsAt W' B t cs:=hb.trans h
theorem CellsAt.below{W W':World}{B:Nat}{t:TypeId}{cs:Array Value}(h:CellsAt W B t cs)(hb:Below W.heap.size W W'):CellsAt W' B t cs:=h.kept (hb.block B h.lt)
theorem CellsAt.grown{W W':World}{B:Nat}{t:TypeId}{cs:Array Value}{row:Option Nat}(h:CellsAt W B t cs)(hg:W.grownBy W' row)(hne:some B≠row):CellsAt W' B t cs:=h.kept (hg.block B h.lt hne)
@[go_sem] theorem mv (b:Addr) (k:Nat):(b.add k).block=b.block:=by unfold Addr.add;split<;>rfl
theorem dO{w w':World}(h:Below w.heap.size w w')(row:Option Nat):w.grownBy w' row:=⟨h.os,h.tape,h.output,h.size,λk hk _=>h.block k hk⟩
theorem aK(W:World)(b i:Nat)(v:Value):W.grownBy (W.setCell ⟨b,i,none⟩ v) (some b):=
 ⟨rfl,rfl,rfl,(KeepsWalks.setCell W _ v).size,λk _ hk=>Below.heap_setCell _ _ _ k (λe=>hk (by rw [e]))⟩
end
noncomputable section
namespace Hp
def lt(a b:Int×Int):Bool:=decide (a.1<b.1∨a.1=b.1/\a.2<b.2)
def le(a b:Int×Int):Prop:=lt b a=false
theorem le_iff{a b:Int×Int}:le a b↔a.1<b.1∨a.1=b.1/\a.2<=b.2:=by
 unfold le lt;rw [decide_eq_false_iff_not];omega
theorem Lp{a b:Int×Int}:lt a b=true↔a.1<b.1∨a.1=b.1/\a.2<b.2:=by unfold lt;rw [decide_eq_true_eq]
theorem le_refl(a:Int×Int):le a a:=le_iff.2 (.inr ⟨rfl,Int.le_refl _⟩)
theorem le_trans{a b c:Int×Int}(h1:le a b)(h2:le b c):le a c:=by
 rw [le_iff]at*;omega
theorem le_of_lt{a b:Int×Int}(h:lt a b=true):le a b:=by
 rw [Lp]at h;rw [le_iff];omega
theorem ns{a b:Int×Int}(h:lt a b=false):le b a:=h
def par(k:Nat):Nat:=(k - 1)/ 2
theorem fS{k:Nat}(h:0<k):par k<k:=by unfold par;omega
theorem vq{k i:Nat}(h:0<k):par k=i↔k=2*i+1∨k=2*i+2:=by unfold par;omega
section
variable {α : Type} {key : α → Int × Int}
def swp(f:Nat->α)(i j:Nat):Nat->α:=λk=>if k=i then f j else if k=j then f i else f k
def Heap(key:α->Int×Int)(n:Nat)(f:Nat->α):Prop:=∀k,0<k->k<n->le (key (f (par k))) (key (f k))
structure Up(key:α->Int×Int)(n:Nat)(f:Nat->α)(j:Nat):Prop where
 a:∀k,0<k->k<n->k≠j->le (key (f (par k))) (key (f k))
 b:∀k,0<k->k<n->par k=j->0<j->le (key (f (par j))) (key (f k))
theorem Up.step{n:Nat}{f:Nat->α}{j:Nat}(h:Up key n f j)(h0:0<j)(hn:j<n)(hl:lt (key (f j)) (key (f (par j)))=true):Up key n (swp f (par j) j) (par j):=by
 have hi:=fS h0;refine⟨λk k0 kn ki=> ?_,λk k0 kn kp i0=> ?_⟩
 .unfold swp;by_cases hk:k=j
  .subst hk;rw [if_pos rfl,if_neg (by omega),if_pos rfl];exact le_of_lt hl
  .rw [if_neg ki,if_neg hk];by_cases p1:par k=par j
   .rw [if_pos p1]
    have:=h.a k k0 kn hk
    rw [p1]at this;exact le_trans (le_of_lt hl) this
   .rw [if_neg p1];by_cases p2:par k=j
    .rw [if_pos p2];exact h.b k k0 kn p2 h0
    .rw [if_neg p2];exact h.a k k0 kn hk
 .have hpi:=fS i0;have hkk:=fS k0;have hii:=h.a (par j) i0 (by omega) (by omega);unfold swp;rw [if_neg (by omega),if_neg (by omega),if_neg (by omega)];by_cases hk:k=j
  .rw [if_pos hk];exact hii
  .rw [if_neg hk]
   have:=h.a k k0 kn hk
   rw [kp]at this;exact le_trans hii this
theorem Up.done{n:Nat}{f:Nat->α}{j:Nat}(h:Up key n f j)(hj:j=0∨lt (key (f j)) (key (f (par j)))=false):Heap key n f:=λk k0 kn=>by
 by_cases hk:k=j
 .subst hk;rcases hj with hj|hj
  .omega
  .exact hj
 .exact h.a k k0 kn hk
theorem Heap.up{n:Nat}{f:Nat->α}(h:Heap key n f):Up key (n+1) f n:=
 ⟨λk k0 kn kj=>h k k0 (by omega),λk k0 kn kp j0=>by have:=fS k0;omega⟩
structure Down(key:α->Int×Int)(n:Nat)(f:Nat->α)(i:Nat):Prop where
 a:∀k,0<k->k<n->par k≠i->le (key (f (par k))) (key (f k))
 b:∀k,0<k->k<n->par k=i->0<i->le (key (f (par i))) (key (f k))
theorem Down.step{n:Nat}{f:Nat->α}{i j:Nat}(h:Down key n f i)(j0:0<j)(hn:j<n)(hp:par j=i)(hm:∀k,0<k->k<n->par k=i->le (key (f j)) (key (f k)))(hl:lt (key (f j)) (key (f i))=true):Down key n (swp f i j) j:=by
 have hi:=fS j0;refine⟨λk k0 kn kp=> ?_,λk k0 kn kp _=> ?_⟩
 .have hkk:=fS k0;unfold swp;by_cases hk:k=j
  .subst hk;rw [if_pos hp,if_neg (by omega),if_pos rfl];exact le_of_lt hl
  .by_cases p1:par k=i
   .rw [if_pos p1,if_neg (by omega),if_neg hk];exact hm k k0 kn p1
   .rw [if_neg p1,if_neg kp];by_cases ki:k=i
    .subst ki;rw [if_pos rfl];exact h.b j j0 hn hp k0
    .rw [if_neg ki,if_neg hk];exact h.a k k0 kn p1
 .have hkk:=fS k0;unfold swp;rw [if_pos hp,if_neg (by omega),if_neg (by omega)]
  have:=h.a k k0 kn (by omega)
  rw [kp]at this;exact this
theorem Down.done{n:Nat}{f:Nat->α}{i:Nat}(h:Down key n f i)(hj:∀k,0<k->k<n->par k=i->le (key (f i)) (key (f k))):Heap key n f:=λk k0 kn=>by
 by_cases hk:par k=i
 .rw [hk];exact hj k k0 kn hk
 .exact h.a k k0 kn hk
theorem Heap.down{n m:Nat}{f:Nat->α}(h:Heap key (n+1) f)(hm:m=n):Down key n (swp f 0 m) 0:=by
 subst hm;refine⟨λk k0 kn kp=> ?_,λk k0 kn kp i0=>by omega⟩;have hkk:=fS k0;unfold swp;rw [if_neg kp,if_neg (by omega),if_neg (by omega),if_neg (by omega)];exact h k k0 (by omega)
theorem Heap.root{n:Nat}{f:Nat->α}(h:Heap key n f):∀k,k<n->le (key (f 0)) (key (f k)):=by
 intro k
 induction k using Nat.strongRecOn with
 |ind k ih=>
  intro hk;by_cases k0:k=0
  .rw [k0];exact le_refl _
  .have hp:=fS (show 0<k by omega);exact le_trans (ih _ hp (by omega)) (h k (by omega) hk)
end
section
variable {α : Type} [Inhabited α]
def at_(l:List α)(k:Nat):α:=l.getD k default
theorem at_lt{l:List α}{k:Nat}(h:k<l.length):at_ l k=l[k]:=by simp [at_,List.getD_eq_getElem?_getD,h]
def jF(l:List α)(i j:Nat):List α:=(l.set i (at_ l j)).set j (at_ l i)
theorem gM(l:List α)(i j:Nat):(jF l i j).length=l.length:=by unfold jF;rw [List.length_set,List.length_set]
theorem Fq{l:List α}{i k:Nat}{x:α}(hi:i<l.length):at_ (l.set i x) k=if k=i then x else at_ l k:=by
 unfold at_;rw [List.getD_eq_getElem?_getD,List.getElem?_set,List.getD_eq_getElem?_getD];by_cases h:i=k
 .subst h;rw [if_pos rfl,if_pos rfl,if_pos hi];rfl
 .rw [if_neg h,if_neg (Ne.symm h)]
theorem fE{l:List α}{i j:Nat}(hi:i<l.length)(hj:j<l.length):at_ (jF l i j)=swp (at_ l) i j:=by
 funext k;unfold jF swp;rw [Fq (by rw [List.length_set];exact hj),Fq hi];by_cases h1:k=i
 .by_cases h2:k=j
  .rw [if_pos h2,if_pos h1,<-h1,h2]
  .rw [if_neg h2,if_pos h1,if_pos h1]
 .by_cases h2:k=j
  .rw [if_pos h2,if_neg h1,if_pos h2]
  .rw [if_neg h2,if_neg h1,if_neg h1,if_neg h2]
theorem gN{l:List α}{i j:Nat}(hi:i<l.length)(hj:j<l.length):(jF l i j).Perm l:=by
 unfold jF;rw [at_lt hi,at_lt hj];exact List.set_set_perm hi hj
theorem tz{l m:List α}{k:Nat}(h:k<l.length):at_ (l++m) k=at_ l k:=by
 unfold at_;rw [List.getD_eq_getElem?_getD,List.getD_eq_getElem?_getD,List.getElem?_append_left h]
theorem BO{l:List α}{x:α}:at_ (l++ [x]) l.length=x:=by
 unfold at_;rw [List.getD_eq_getElem?_getD];simp
end
theorem Heap.congr{α:Type}{key:α->Int×Int}{n:Nat}{f g:Nat->α}(h:Heap key n f)(e:∀k,k<n->f k=g k):Heap key n g:=λk k0 kn=>by
 have hp:=fS k0;rw [<-e k kn,<-e (par k) (by omega)];exact h k k0 kn
end Hp
end
noncomputable section
open Go.RowKit Go.Lib
namespace Hp
abbrev Sm3:=Int×Int×Int
structure Hd where
 k:Int
 a:Option Addr
 c:Nat
 l:List Sm3
instance:Inhabited Hd:=⟨⟨0,none,0,[]⟩⟩
def Hd.key(h:Hd):Int×Int:=((h.l.headD (0,0,0)).1,h.k)
@[go_sem] abbrev HV (h:Hd):Value:= .agg #[.int .i64 h.k,.slice h.a h.l.length h.c]
def enc(h:Hd):List Value:= [.int .i64 h.k,.slice h.a h.l.length h.c]
def bX(l:List Hd):List Value:=l.flatMap enc
theorem eu(h:Hd)(l:List Hd):bX (h::l)=enc h++bX l:=rfl
theorem qJ(l m:List Hd):bX (l++m)=bX l++bX m:=by simp [bX]
theorem kR(l:List Hd):(bX l).length=l.length*2:=by
 induction l with
 |nil=>rfl
 |cons h l ih=>rw [eu,List.length_append,ih];simp [enc];omega
theorem qK:∀(l:List Hd) (i:Nat),i<l.length->(bX l)[i*2]? =some (.int .i64 (at_ l i).k)
 | [],i,h=>by simp at h
 |x::l,0,h=>rfl
 |x::l,i+1,h=>by
  rw [eu,List.getElem?_append_right (by simp [enc];omega)]
  have:=qK l i (by simpa using h)
  rw [show(i+1)*2 - (enc x).length=i*2 by simp [enc];omega,this];rfl
theorem qL:∀(l:List Hd) (i:Nat),i<l.length->(bX l)[i*2+1]? =some (.slice (at_ l i).a (at_ l i).l.length (at_ l i).c)
 | [],i,h=>by simp at h
 |x::l,0,h=>rfl
 |x::l,i+1,h=>by
  rw [eu,List.getElem?_append_right (by simp [enc];omega)]
  have:=qL l i (by simpa using h)
  rw [show(i+1)*2+1 - (enc x).length=i*2+1 by simp [enc];omega,this];rfl
def RdS(w:World)(base:Nat)(a:Option Addr)(l:List Sm3):Prop:=∀i,(h:i<l.length)->∃b,a=some b/\b.block<base/\w.cell? (b.add (i*3))=some (.int .i64 l[i].1)/\w.cell? (b.add (i*3+1))=some (.int .i64 l[i].2.1)/\w.cell? (b.add (i*3+2))=some (.int .u64 l[i].2.2)
theorem RdS.below{w w':World}{base:Nat}{a:Option Addr}{l:List Sm3}(h:RdS w base a l)(hs:base<=w.heap.size)(hb:Below base w w'):RdS w' base a l:=by
 intro i hi;obtain⟨b,e,hl,h0,h1,h2⟩:=h i hi;exact⟨b,e,hl,(hb.cell (by rw [mv];exact hl)).trans h0,(hb.cell (by rw [mv];exact hl)).trans h1,(hb.cell (by rw [mv];exact hl)).trans h2⟩
def Good(w:World)(base:Nat)(hs:List Hd):Prop:=∀h∈hs,h.l≠[]/\RdS w base h.a h.l
theorem Good.below{w w':World}{base:Nat}{hs:List Hd}(h:Good w base hs)(hz:base<=w.heap.size)(hb:Below base w w'):Good w' base hs:=λx hx=>⟨(h x hx).1,(h x hx).2.below hz hb⟩
def RdH(w:World)(a:Option Addr)(hs:List Hd):Prop:=∀i,i<hs.length->∃b,a=some b/\b.block<w.heap.size/\w.cell? (b.add (i*2))=some (.int .i64 (at_ hs i).k)/\w.cell? ⟨b.block,(b.add (i*2)).off+1,none⟩=some (.slice (at_ hs i).a (at_ hs i).l.length (at_ hs i).c)
theorem wn(a:Addr)(k:Nat):a.add (k+1)=⟨a.block,(a.add k).off+1,none⟩:=by
 unfold Addr.add;by_cases h:k=0
 .subst h;simp
 .simp [h];omega
theorem vr{w:World}{base:Nat}{a:Option Addr}{n c:Nat}{hs:List Hd}(h:w.ownsRow base 97 2 (.slice a n c) n (bX hs))(hn:n=hs.length):RdH w a hs:=by
 intro i hi;rcases h.2 with⟨e,h0⟩|⟨g,cap,cur,e,hbg,hg,hnc,hcm,hcs,htake⟩
 .omega
 .cases e;have hl:=h.lt g rfl;have h0:=h.cells (g:=g) rfl (i*2) _ (qK hs i hi);have h1:=h.cells (g:=g) rfl (i*2+1) _ (qL hs i hi);refine⟨⟨g,0,none⟩,rfl,hl.2,h0,?_⟩;rw [wn]at h1;exact h1
set_option maxRecDepth 100000 in
theorem jt(a:Option Addr)(n c:Nat)(w:World):Calls Try.prog 34 #[.slice a n c] w λe w'=>e= .returned (.int .i64 n)/\w'=w:=by
 go_enter Try.func34,Try.ntmps34
 go_wp2
 go_ret
 exact⟨rfl,rfl⟩
theorem bld{b:Nat}{w W:World}{n:Nat}(h:Below b w W):Below b w (W.drewN n):=⟨h.1,h.2,h.3,h.4,h.5⟩
theorem Lq{b:Nat}{w W:World}(h:Below b w W):Below b w W.drew:=⟨h.1,h.2,h.3,h.4,h.5⟩
theorem Om{a b c d:Int}(h:a≠b):lt (a,c) (b,d)=decide (a<b):=by
 unfold lt;simp only;congr 1;exact propext (by omega)
theorem On{a b c d:Int}(h:a=b):lt (a,c) (b,d)=decide (c<d):=by
 unfold lt;simp only;congr 1;exact propext (by omega)
set_option maxRecDepth 100000 in
set_option maxHeartbeats 1000000 in
theorem zi(a:Option Addr)(c:Nat)(hs:List Hd)(i k base:Nat)(w:World)(hr:RdH w a hs)(hg:Good w base hs)(hz:base<=w.heap.size)(hi:i<hs.length)(hk:k<hs.length)(hl:hs.length<=100000):
  Calls Try.prog 123 #[.slice a hs.length c,.int .i64 i,.int .i64 k] w λe w'=>e= .returned (.bool (lt (at_ hs i).key (at_ hs k).key))/\Below w.heap.size w w':=by
 obtain⟨b,rfl,hb,i0,i1⟩:=hr i hi;obtain⟨b',e',hb',k0,k1⟩:=hr k hk;cases e';have hi':((i:Nat):Int)<hs.length:=by omega
 have hk':((k:Nat):Int)<hs.length:=by omega
 have mi:at_ hs i∈hs:=by rw [at_lt hi];exact List.getElem_mem hi
 have mk:at_ hs k∈hs:=by rw [at_lt hk];exact List.getElem_mem hk
 obtain⟨ni,ri⟩:=hg _ mi;obtain⟨nk,rk⟩:=hg _ mk;clear hg mi mk hr;generalize at_ hs i=H at i0 i1 ni ri ⊢;generalize at_ hs k=G at k0 k1 nk rk ⊢;obtain⟨hk1,ha,hc,hl1⟩:=H;obtain⟨gk1,ga,gc,gl1⟩:=G;simp only at i0 i1 k0 k1 ni nk ri rk ⊢
 cases hl1 with
 |nil=>exact absurd rfl ni
 |cons x xs=>
 cases gl1 with
 |nil=>exact absurd rfl nk
 |cons y ys=>
 obtain⟨bx,rfl,lx,x0,_⟩:=ri 0 (by simp);obtain⟨by',rfl,ly,y0,_⟩:=rk 0 (by simp);have x0:w.cell? bx=some (.int .i64 x.1):=by simpa [Addr.add]using x0
 have y0:w.cell? by'=some (.int .i64 y.1):=by simpa [Addr.add]using y0
 have hx:=Has.of (show bx.block<w.heap.size by omega);have hy:=Has.of (show by'.block<w.heap.size by omega);have hK:∀(p q:Int),Hd.key ⟨p,some bx,hc,x::xs⟩=(x.1,p):=λ_ _=>rfl;clear ri rk ni nk
 go_enter Try.func123,Try.ntmps123
 go_wp2
 go_region
 all_goals go_wp2
 all_goals go_quiet (fail)
 all_goals go_wp2
 all_goals first
  |(go_quiet (fail)
    go_wp2
    go_ret
    refine⟨?_,?_⟩)
  |(go_ret
    refine⟨?_,?_⟩)
 all_goals first
  |exact bld (bld (Lq (bla (bla (Below.refl _ _) _) _)))
  |exact bld (bla (bla (Below.refl _ _) _) _)
  |(have h:=‹(x.fst !=y.fst)=true›
    show Ending.returned (.bool (decide (x.fst<y.fst)))=Ending.returned (.bool (lt (x.1,hk1) (y.1,gk1)))
    rw [Om (by simpa using h)])
  |(have h:=‹(x.fst !=y.fst)=false›
    show Ending.returned (.bool (decide (hk1<gk1)))=Ending.returned (.bool (lt (x.1,hk1) (y.1,gk1)))
    rw [On (by simpa using h)])
end Hp
end
noncomputable section
open Go.RowKit Go.Lib
namespace Hp
theorem sI(g i:Nat):((⟨g,0,none⟩:Addr).add i)=⟨g,i,none⟩:=by
 unfold Addr.add;by_cases h:i=0
 .subst h;simp
 .simp [h]
theorem qM:∀(l:List Hd) (i:Nat) (x:Hd),((bX l).set (i*2) (.int .i64 x.k)).set (i*2+1) (.slice x.a x.l.length x.c)=bX (l.set i x)
 | [],i,x=>by simp [bX]
 |y::l,0,x=>rfl
 |y::l,i+1,x=>by
  have ih:=qM l i x;rw [List.set_cons_succ,eu,eu,<-ih,show(i+1)*2=i*2+2 by omega];rfl
theorem tA{cur:Array Value}{hs:List Hd}{n:Nat}(h:cur.toList.take (n*2)=bX hs)(i:Nat)(x:Hd):((cur.setIfInBounds (i*2) (.int .i64 x.k)).setIfInBounds (i*2+1) (.slice x.a x.l.length x.c)).toList.take (n*2)=bX (hs.set i x):=by
 rw [Array.toList_setIfInBounds,Array.toList_setIfInBounds,List.take_set,List.take_set,h,qM]
set_option maxRecDepth 100000 in
set_option maxHeartbeats 1000000 in
theorem zj(base g n c:Nat)(hs:List Hd)(i k:Nat)(w:World)(hown:w.ownsRow base 97 2 (.slice (some ⟨g,0,none⟩) n c) n (bX hs))(hn:n=hs.length)(hi:i<n)(hk:k<n)(hl:n<=100000):
  Calls Try.prog 126 #[.slice (some ⟨g,0,none⟩) n c,.int .i64 i,.int .i64 k] w λe w'=>e= .returned (.tuple #[])/\w'.ownsRow base 97 2 (.slice (some ⟨g,0,none⟩) n c) n (bX (jF hs i k))/\w.grownBy w' (some g):=by
 have hr:=vr hown hn;rcases hown.2 with⟨e,h0⟩|⟨g',cap,cur,e,hbg,hg,hnc,hcm,hcs,htake⟩
 .omega
 cases e;obtain⟨b,e,hb,i0,i1⟩:=hr i (by omega);cases e;obtain⟨b',e',hb',k0,k1⟩:=hr k (by omega);cases e';have hC:CellsAt w g 97 cur:=hg;have hi':((i:Nat):Int)<n:=by omega
 have hk':((k:Nat):Int)<n:=by omega
 rw [sI]at i0 i1 k0 k1;have f0:=hC.frozen (i*2);have f1:=hC.frozen (i*2+1);have f2:=hC.frozen (k*2);have f3:=hC.frozen (k*2+1);have hC1:=(hC.set (i*2) (.int .i64 (at_ hs k).k)).set (i*2+1) (.slice (at_ hs k).a (at_ hs k).l.length (at_ hs k).c)
 have hz:∀j,j<cur.size->∃u,((w.setCell ⟨g,i*2,none⟩ (.int .i64 (at_ hs k).k)).setCell ⟨g,i*2+1,none⟩ (.slice (at_ hs k).a (at_ hs k).l.length (at_ hs k).c)).cell? ⟨g,j,none⟩=some u:=λj hj=>by
  rw [hC1.cell];exact⟨_,Array.getElem?_eq_getElem (by rw [Array.size_setIfInBounds,Array.size_setIfInBounds];exact hj)⟩
 obtain⟨u0,z0⟩:=hz (k*2) (by omega);obtain⟨u1,z1⟩:=hz (k*2+1) (by omega);have h0:=hC1.frozen (k*2);have h1:=hC1.frozen (k*2+1);clear hz;clear hr
 go_enter Try.func126,Try.ntmps126
 go_wp2
 go_region
 go_wp2
 go_end0
 refine⟨rfl,⟨by rw [kR,gM,hn],.inr ⟨g,c,_,rfl,hbg,((hC1.set (k*2) (.int .i64 (at_ hs i).k)).set (k*2+1) (.slice (at_ hs i).a (at_ hs i).l.length (at_ hs i).c)),hnc,hcm,by simp only [Array.size_setIfInBounds];exact hcs,?_⟩⟩,?_⟩
 .exact tA (tA htake i (at_ hs k)) k (at_ hs i)
 .have hG:=(((aK w g (i*2) (.int .i64 (at_ hs k).k)).trans (aK _ g (i*2+1) (.slice (at_ hs k).a (at_ hs k).l.length (at_ hs k).c))).trans (aK _ g (k*2) (.int .i64 (at_ hs i).k))).trans (aK _ g (k*2+1) (.slice (at_ hs i).a (at_ hs i).l.length (at_ hs i).c));exact⟨hG.1,hG.2,hG.3,hG.4,hG.5⟩
end Hp
end
end Go.Proofs.Ytjjbpdldbdmoeaa
