/- Texts of a claim, joined. -/
import Derived.Test.YtjjbpdldbdmoeaaGreatDoorZP4
import Derived.Laws.StructEq
import Derived.Test.YtjjbpdldbdmoeaaGreatDoorChecked
import Derived.Test.YtjjbpdldbdmoeaaGreatDoorRows
import Derived.LaidMore
import Derived.Stop.Joined
import Derived.ChangeSlices
set_option linter.unusedVariables false
set_option linter.unusedSimpArgs false
namespace Go.Proofs.YtjjbpdldbdmoeaaGreatDoor
noncomputable section
namespace Ev
open Go Go.RowKit
section
variable {E : Env} {y : Nat → fP} {n nt : Nat} {f : Nat → D} {L : BL}
theorem xC{x:Operand}{v:D}(hx:ov nt f x=some v):PS E n nt f L (.move x) v:=λh nid hb=>by
 rw [VK,cj,hx];rfl
theorem Ch{x:Operand}{v:D}(hx:ov nt f x=some v):PS E n nt f L (.assign x) v:=λh nid hb=>by
 rw [VL,cj,hx];rfl
theorem qe{x:Operand}{k i j:Nat}(hx:ov nt f x=some (.one (.ptr k i j))):PS E n nt f L (.nilCheck x) (.one (.ptr k i j)):=λh nid hb=>by
 rw [NF];unfold sem xA;simp only [eV,zbB,hx,zbS]
theorem YU{c a b:Operand}{fr:Bool}{v:D}(hc:ov nt f c=some (.one (.p fr (.v (.bool true)))))(hx:ov nt f a=some v):PS E n nt f L (.pick c a b) v:=λh nid hb=>by
 rw [NE,cj,hc,cj,hx];rfl
theorem YV{c a b:Operand}{fr:Bool}{v:D}(hc:ov nt f c=some (.one (.p fr (.v (.bool false)))))(hx:ov nt f b=some v):PS E n nt f L (.pick c a b) v:=λh nid hb=>by
 rw [NE,cj,hc,cj (x:=b),hx];rfl
theorem fx{op:BinOp}{ty sh:TypeId}{x y:Operand}{fa fb:Bool}{ka kb:IntKind}{a b:Int}{v:Value}(hx:ov nt f x=some (.one (.p fa (.v (.int ka a)))))(hy:ov nt f y=some (.one (.p fb (.v (.int kb b)))))
  (hp:am E.P (do eqGuard op ty x y (.int ka a) (.int kb b);binOp op ty (.int ka a) (.int kb b))=some v) (h1:one1 v=true):PS E n nt f L (.binOp op ty x y sh) (mk v):=λh nid hb=>by
 rw [Ld,cj,hx,cj,hy];refine Eq.trans (b:=yP E.P E.ti op ty x y (.one (.p fa (.v (.int ka a)))) (.one (.p fb (.v (.int kb b))))) rfl ?_;rw [ac3,hp];show mkO v=_;unfold mkO;rw [if_pos h1]
theorem YW{P:Program}{ti:TypeId->Option TI}{op:BinOp}{ty:TypeId}{x y:Operand}{fr fr':Bool}{a b:Bool}:
  yP P ti op ty x y (.one (.p fr (.v (.bool a)))) (.one (.p fr' (.v (.bool b))))=(am P (do eqGuard op ty x y (.bool a) (.bool b);binOp op ty (.bool a) (.bool b))).bind mkO:=rfl
theorem gU{op:BinOp}{ty sh:TypeId}{x y:Operand}{fa fb:Bool}{a b:Bool}{v:Value}(hx:ov nt f x=some (.one (.p fa (.v (.bool a)))))(hy:ov nt f y=some (.one (.p fb (.v (.bool b)))))
  (hp:am E.P (do eqGuard op ty x y (.bool a) (.bool b);binOp op ty (.bool a) (.bool b))=some v) (h1:one1 v=true):PS E n nt f L (.binOp op ty x y sh) (mk v):=λh nid hb=>by
 rw [Ld,cj,hx,cj,hy];refine Eq.trans (b:=yP E.P E.ti op ty x y (.one (.p fa (.v (.bool a)))) (.one (.p fb (.v (.bool b))))) rfl ?_;rw [YW,hp];show mkO v=_;unfold mkO;rw [if_pos h1]
theorem ac9{P:Program}{ti:TypeId->Option TI}{op:BinOp}{ty:TypeId}{x y:Operand}{a b:List C}:yP P ti op ty x y (.agg a) (.agg b)=(plain (.agg a)).bind λva=>(plain (.agg b)).bind λvb=>(am P (do eqGuard op ty x y va vb;binOp op ty va vb)).bind mkO:=rfl
theorem HU{op:BinOp}{ty sh:TypeId}{x y:Operand}{a b:List C}{va vb v:Value}(hx:ov nt f x=some (.agg a))(hy:ov nt f y=some (.agg b))(ha:plain (.agg a)=some va)(hb':plain (.agg b)=some vb)
  (hp:am E.P (do eqGuard op ty x y va vb;binOp op ty va vb)=some v) (h1:one1 v=true):PS E n nt f L (.binOp op ty x y sh) (mk v):=λh nid hb=>by
 rw [Ld,cj,hx,cj,hy];refine Eq.trans (b:=yP E.P E.ti op ty x y (.agg a) (.agg b)) rfl ?_;rw [ac9,ha,hb'];simp only [zbS];rw [hp];show mkO v=_;unfold mkO;rw [if_pos h1]
theorem dG{ty:TypeId}{x:Operand}{fr b:Bool}(hx:ov nt f x=some (.one (.p fr (.v (.bool b))))):PS E n nt f L (.unOp .not ty x) (bD (!b)):=λh nid hb=>by
 show((aP (aT (tab nt f)) x).bind λd=>(plain d).bind λv=>(am E.P (Op.unary .not v)).bind mkO)=_;rw [cj,hx];rfl
theorem af5{ty:TypeId}{x:Operand}{fr:Bool}{k:IntKind}{a:Int}(hx:ov nt f x=some (.one (.p fr (.v (.int k a))))):PS E n nt f L (.unOp .neg ty x) (iD k (k.wrap (0 - a))):=λh nid hb=>by
 show((aP (aT (tab nt f)) x).bind λd=>(plain d).bind λv=>(am E.P (Op.unary .neg v)).bind mkO)=_;rw [cj,hx];rfl
theorem HW{src dst:TypeId}{x:Operand}{fr:Bool}{k:IntKind}{a:Int}{v:Value}(hx:ov nt f x=some (.one (.p fr (.v (.int k a)))))(hp:am E.P (Go.convert src dst (.int k a))=some v)(h1:one1 v=true):PS E n nt f L (.convert src dst x) (mk v):=λh nid hb=>by
 show((aP (aT (tab nt f)) x).bind λd=>(plain d).bind λv=>match v with
  | .int .. =>(am E.P (Go.convert src dst v)).bind mkO
  |_=>none)=_
 rw [cj,hx];show(am E.P (Go.convert src dst (.int k a))).bind mkO=_;rw [hp];show mkO v=_;unfold mkO;rw [if_pos h1]
theorem ai{ty:TypeId}{x:Operand}{m k i j off sz:Nat}{ag:Bool}(hx:ov nt f x=some (.one (.ptr k i j)))(ht:fieldAt E.ti ty m=some (off,sz,ag))(hz:Nat.beq sz 0=false):PS E n nt f L (.fieldAddr ty x m) (.one (.ptr k i (j+off))):=λh nid hb=>by
 rw [Pg,cj,hx,ht];show(if sz=0 then none else _)=_;rw [if_neg (Nat.ne_of_beq_eq_false hz)]
theorem gO{ty:TypeId}{x:Operand}{m i j off sz s:Nat}{fr:Bool}{l:List (List T)}{ag:Bool}(hx:ov nt f x=some (.one (.iptr fr s l i j)))(ht:fieldAt E.ti ty m=some (off,sz,ag))(hz:Nat.beq sz 0=false):PS E n nt f L (.fieldAddr ty x m) (.one (.iptr fr s l i (j+off))):=λh nid hb=>by
 rw [Pg,cj,hx,ht];show(if sz=0 then none else _)=_;rw [if_neg (Nat.ne_of_beq_eq_false hz)]
theorem Lj{ty:TypeId}{x:Operand}{m off sz:Nat}{cs c2:List C}{ag:Bool}{v:D}(hx:ov nt f x=some (.agg cs))(ht:fieldAt E.ti ty m=some (off,sz,ag))(hc:cut cs off (cond ag sz 1)=some c2)(hv:dX ag c2=some v):PS E n nt f L (.field ty x m) v:=λh nid hb=>by
 show((E.ti ty).bind λt=>(kP t m).bind λfd=>(E.ti fd.type).bind λft=>(aP (aT (tab nt f)) x).bind λd=>match d with
  | .agg cs=>(cut cs fd.offset (if bG ft.desc then ft.size else 1)).bind λc=>(dX (bG ft.desc) c).bind λv=>some (⟨v,[]⟩:Eff)
  |_=>none)=_
 unfold fieldAt at ht;simp only [zbE,zsI,Prod.mk.injEq]at ht;obtain⟨t,h1,fd,h2,ft,h3,rfl,rfl,rfl⟩:=ht;rw [h1,cj,hx];simp only [zbS,h2,h3]
 have hc':cut cs fd.offset (if bG ft.desc then ft.size else 1)=some c2:=by
  rw [<-hc];cases bG ft.desc<;>rfl
 rw [hc'];simp only [zbS,hv]
theorem HX{α:Type}(b:Bool)(x y:α):(if b=true then x else y)=cond b x y:=by cases b<;>rfl
theorem mt{ty:TypeId}{x:Operand}{k i j sz bz:Nat}{ag:Bool}{es:List (List C)}{e cs:List C}{v:D}(p:Nat)(hx:ov nt f x=some (.one (.ptr k i j)))(hz:bZ E.ti ty=some (sz,ag))(hp:L[p]? =some [(k,bz,es)])(he:es[i]? =some e)(hc:cut e j (cond ag sz 1)=some cs)(hv:dX ag cs=some v):PS E n nt f L (.load ty x) v:=λh nid hb=>by
 rw [VM,cj,hx,hz];show HI (kOf ag (NC j (if ag then sz else 1) (ac2 i (aE h k))))=_;rw [hb.get hp,HX];show HI (kOf ag (NC j (cond ag sz 1) es[i]?))=_;rw [he];show HI (kOf ag (cut e j (cond ag sz 1)))=_;rw [hc];show HI (dX ag cs)=_;rw [hv];rfl
theorem aO{ty:TypeId}{x:Operand}{i j sz s:Nat}{fr ag:Bool}{l:List (List T)}{e:List T}{cs:List C}{v:D}(hx:ov nt f x=some (.one (.iptr fr s l i j)))(hz:bZ E.ti ty=some (sz,ag))(he:l[i]? =some e)(hc:cut (e.map (pC fr)) j (cond ag sz 1)=some cs)(hv:dX ag cs=some v):PS E n nt f L (.load ty x) v:=λh nid hb=>by
 rw [VM,cj,hx,hz];show HI (kOf ag (NC j (if ag then sz else 1) (kIn fr l[i]?)))=_;rw [he,HX];show HI (kOf ag (cut (e.map (pC fr)) j (cond ag sz 1)))=_;rw [hc];show HI (dX ag cs)=_;rw [hv];rfl
theorem dO{ty:TypeId}{a x:Operand}{k i j sz bz:Nat}{ag:Bool}{es es':List (List C)}{e e' cs:List C}{v:D}(p:Nat)(ha:ov nt f a=some (.one (.ptr k i j)))(hx:ov nt f x=some v)(hd:iQ v=some cs)(hz:bZ E.ti ty=some (sz,ag))(hs:Nat.beq cs.length sz=true)(hp:L[p]? =some [(k,bz,es)])(he:es[i]? =some e)(ht:patch e j cs=some e')(hes:es.set i e'=es'):PW E n nt f L (.store ty a x) cK p k bz es':=⟨⟨_,hp⟩,λh nid hb=>by
 rw [YN,cj,ha,cj,hx,hz];show YM k i j sz (iQ v) (aE h k)=_;rw [hd,hb.get hp];show(if cs.length=sz then VJ k i bz es (ND j cs es[i]?)else none)=_;rw [if_pos (Nat.eq_of_beq_eq_true hs),he];show VJ k i bz es (patch e j cs)=_;rw [ht];subst hes
 rfl⟩
theorem aQ{ty:TypeId}{t:TI}{row:List C}{sz:Nat}(ht:E.ti ty=some t)(hr:lb t=row)(hs:t.size=sz):PN E n nt f L (.alloc ty) (λk=> .one (.ptr k 0 0)) sz [row]:=λh nid hb=>by
 show((E.ti ty).bind λt=>some (⟨.one (.ptr nid 0 0),[(nid,.own t.size [lb t])]⟩:Eff))=_;rw [ht];subst hr hs;rfl
theorem fq{ty:TypeId}{x:Operand}{t:TI}{d:D}{cs:List C}{sz:Nat}(ht:E.ti ty=some t)(hx:ov nt f x=some d)(hc:iQ d=some cs)(hs:cs.length=sz):PN E n nt f L (.box ty x) (λk=> .one (.ptr k 0 0)) sz [cs]:=λh nid hb=>by
 show((E.ti ty).bind λt=>(aP (aT (tab nt f)) x).bind λd=>(iQ d).bind λcs=>some (⟨.one (.ptr nid 0 0),[(nid,.own cs.length [cs])]⟩:Eff))=_;rw [ht,cj,hx];simp only [zbS,hc];subst hs;rfl
def zJ(nt:Nat)(f:Nat->D)(l:List (Nat×Operand)):Option (List (Nat×D)):=l.mapM λ((i,x):Nat×Operand)=>(ov nt f x).map λd=>(i,d)
theorem ce{ty:TypeId}{parts:Array (Nat×Operand)}{t:TI}{ps:List (Nat×D)}{pl:Nat->Option (Nat×Nat)}{cs:List C}(ht:E.ti ty=some t)(hps:zJ nt f parts.toList=some ps)(hpl:jm E.ti t=some pl)(hf:fill pl (lb t) ps=some cs):PS E n nt f L (.build ty parts) (.agg cs):=λh nid hb=>by
 show((E.ti ty).bind λt=>(parts.toList.mapM λ((i,x):Nat×Operand)=>(aP (aT (tab nt f)) x).map λd=>(i,d)).bind λps=>(jm E.ti t).bind λpl=>(fill pl (lb t) ps).bind λcs=>some (⟨.agg cs,[]⟩:Eff))=_;rw [ht,eV];simp only [zbS];have h1:(parts.toList.mapM λ((i,x):Nat×Operand)=>(ov nt f x).map λd=>(i,d))=some ps:=hps;simp only [h1,zbS,hpl,hf]
theorem ij{ti:TypeId->Option TI}{ty z:Nat}(h:eh ti ty=some z):∃t e te,ti ty=some t/\bA t=some e/\ti e=some te/\te.size=z:=by
 unfold eh at h;simp only [zbE,zsI]at h;obtain⟨t,h1,e,h2,te,h3,h4⟩:=h;exact⟨t,e,te,h1,h2,h3,h4⟩
theorem ea{ty ety:TypeId}{len z:Nat}{parts:Array (Nat×Operand)}{t te:TI}{ps:List (Nat×D)}{cs:List C}{es:List (List C)}(ht:E.ti ty=some t)(he:bA t=some ety)(hte:E.ti ety=some te)(hz:te.size=z)(hps:zJ nt f parts.toList=some ps)(hf:fill (λi=>some (i*z,z)) (sZ te len) ps=some cs)(hr:wL z cs len=some es)(hl:Nat.ble (len*z) 16777216=true):PN E n nt f L (.buildSlice ty len parts) (λk=> .one (.own k 0 len)) z es:=λh nid hb=>by
 show((E.ti ty).bind λt=>(bA t).bind λx=>(E.ti x).bind λe=>(parts.toList.mapM λ((i,x):Nat×Operand)=>(aP (aT (tab nt f)) x).map λd=>(i,d)).bind λps=>(fill (λi=>some (i*e.size,e.size)) (sZ e len) ps).bind λcs=>(wL e.size cs len).bind λes=>if len*e.size<=2 ^ 24 then some (⟨.one (.own nid 0 len),[(nid,.own e.size es)]⟩:Eff)else none)=_;subst hz;rw [ht,eV];have h1:(parts.toList.mapM λ((i,x):Nat×Operand)=>(ov nt f x).map λd=>(i,d))=some ps:=hps;simp only [zbS,he,hte,h1,hf,hr];rw [if_pos (Nat.le_of_ble_eq_true hl)]
theorem lz{x:Operand}{i:Nat}{ds:List D}{v:D}(hx:ov nt f x=some (.tup ds))(hi:ds[i]? =some v):PS E n nt f L (.extract x i) v:=λh nid hb=>by
 show((aP (aT (tab nt f)) x).bind λd=>match d with
  | .tup ds=>(ds[i]?).bind λv=>some (⟨v,[]⟩:Eff)
  |_=>none)=_
 rw [cj,hx];show(ds[i]?).bind _=_;rw [hi];rfl
theorem aD{α β:Type}{r:α->β}{l:List α}{i:Nat}{x:α}(h:l[i]? =some x):(l.map r)[i]? =some (r x):=by rw [List.getElem?_map,h];rfl
theorem VS{α:Type}{l:List α}{i:Nat}{x:α}(h:l[i]? =some x):i<l.length:=(List.getElem?_eq_some_iff.1 h).1
theorem map_set{α β:Type}{r:α->β}{l:List α}{i:Nat}{x:α}:(l.map r).set i (r x)=(l.set i x).map r:=(List.map_set).symm
theorem bQ{α:Type}{r:α->List T}{ty:TypeId}{x ix:Operand}{fr fb nn:Bool}{sz:Nat}{l:List α}{kb:IntKind}{i:Int}{y:α}(hx:ov nt f x=some (.one (.p fr (.s nn sz (l.map r)))))(hi:ov nt f ix=some (.one (.p fb (.v (.int kb i)))))(h0:0<=i)(hy:l[i.toNat]? =some y)(hz:eh E.ti ty=some sz):PS E n nt f L (.indexAddr ty x ix) (.one (.iptr fr sz (l.map r) i.toNat 0)):=λh nid hb=>by
 rw [zI,cj,hx,cj,hi];show kIx E.ti ty h _ (iV (.one (.p fb (.v (.int kb i)))))=_;rw [iJ _ _ _ h0];refine Eq.trans (b:=Lc E.ti ty h i.toNat (.one (.p fr (.s nn sz (l.map r))))) rfl ?_;rw [agH,hz];show(if i.toNat<(l.map r).length/\sz=sz then _ else _)=_;rw [if_pos ⟨by rw [List.length_map];exact VS hy,rfl⟩]
theorem wl{α:Type}{r:α->List C}{ty:TypeId}{x ix:Operand}{fb:Bool}{k sz:Nat}{l:List α}{kb:IntKind}{i:Int}{y:α}(p:Nat)(hx:ov nt f x=some (.one (.own k 0 l.length)))(hi:ov nt f ix=some (.one (.p fb (.v (.int kb i)))))(h0:0<=i)(hy:l[i.toNat]? =some y)(hp:L[p]? =some [(k,sz,l.map r)])(hz:eh E.ti ty=some sz):PS E n nt f L (.indexAddr ty x ix) (.one (.ptr k i.toNat 0)):=λh nid hb=>by
 rw [zI,cj,hx,cj,hi];show kIx E.ti ty h _ (iV (.one (.p fb (.v (.int kb i)))))=_;rw [iJ _ _ _ h0];refine Eq.trans (b:=Lc E.ti ty h i.toNat (.one (.own k 0 l.length))) rfl ?_;rw [agI,hz,hb.get hp];show(if i.toNat<l.length/\sz=sz then _ else _)=_;rw [if_pos ⟨VS hy,rfl⟩,Nat.zero_add]
theorem NL{c:Call}{a:Operand}{ty e:TypeId}{t:TI}{d:D}{m:Nat}(hc:c.callee= .builtin .len)(ha:c.args.toList= [a])(hty:c.argTypes[0]? =some ty)(ht:E.ti ty=some t)(hd:t.desc= .slice e)(hx:ov nt f a=some d)(hl:CZ d=some m):PS E n nt f L (.call c) (iD .i64 m):=λh nid hb=>by
 have h1:br (.call c)=none:=by unfold br;simp only [hc]
 rw [mY,h1];unfold sem xA;simp only [hc,hty,ht,ha,eV,zbB,zbS,List.mapM_cons,List.mapM_nil,hx,Option.pure_def,hd,hl];rfl
theorem NM{α:Type}{r:α->List T}{fr nn:Bool}{sz:Nat}{l:List α}:CZ (.one (.p fr (.s nn sz (l.map r))))=some l.length:=by
 show some (l.map r).length=_;rw [List.length_map]
theorem dP{α:Type}{r:α->List T}{c:Call}{a:Operand}{ty e:TypeId}{t:TI}{fr nn:Bool}{sz:Nat}{l:List α}(hx:ov nt f a=some (.one (.p fr (.s nn sz (l.map r)))))(ht:E.ti ty=some t)(hd:t.desc= .slice e)(hc:c.callee= .builtin .len)(ha:c.args.toList= [a])(hty:c.argTypes[0]? =some ty):PS E n nt f L (.call c) (iD .i64 l.length):=NL hc ha hty ht hd hx NM
theorem VT{c:Call}{a:Operand}{ty e:TypeId}{t:TI}{k m:Nat}(hx:ov nt f a=some (.one (.own k 0 m)))(ht:E.ti ty=some t)(hd:t.desc= .slice e)(hc:c.callee= .builtin .len)(ha:c.args.toList= [a])(hty:c.argTypes[0]? =some ty):PS E n nt f L (.call c) (iD .i64 m):=NL hc ha hty ht hd hx rfl
def Ci(L:BL)(x:D)(xs:List (List C)):Prop:=∀h,HB h L->nv h x=some xs
theorem fX{α:Type}{r:α->List C}{k sz:Nat}{l:List α}(p:Nat)(hp:L[p]? =some [(k,sz,l.map r)]):Ci L (.one (.own k 0 l.length)) (l.map r):=λh hb=>by
 show((aE h k).bind λx=>cut x.2 0 l.length)=_;rw [hb.get hp];show cut (l.map r) 0 l.length=_;unfold cut;rw [if_pos (by simp),List.drop_zero,List.take_of_length_le (by simp)]
theorem aca{c:Call}{a x:Operand}{ty ty1 z e1:TypeId}{t1:TI}{fr:Bool}{bz:Nat}{d:D}{xs:List (List C)}(ha:ov nt f a=some (.one (.p fr (.s false bz []))))(hx:ov nt f x=some d)(hxs:Ci L d xs)(hne:∃y ys,xs=y::ys)(hb:xs.length<=cu)(hall:xs.all (·.length==z)=true)(hz:eh E.ti ty=some z)(ht1:E.ti ty1=some t1)(he1:bA t1=some e1)
  (hc:c.callee= .builtin .append) (hargs:c.args.toList= [a,x]) (hty:c.argTypes[0]? =some ty) (hty1:c.argTypes[1]? =some ty1):PN E n nt f L (.call c) (λk=> .one (.own k 0 xs.length)) z xs:=λh nid hh=>by
 obtain⟨t,e,te,g1,g2,g3,g4⟩:=ij hz;have h1:br (.call c)=none:=by unfold br;simp only [hc]
 rw [mY,h1];unfold sem xA;simp only [hc,hty,g1,hargs,eV,zbB,zbS,List.mapM_cons,List.mapM_nil,ha,hx,Option.pure_def,g2,g3,hty1,ht1,he1,g4];unfold Ev.append;simp only [hxs h hh,zbB,zbS];obtain⟨y,ys,rfl⟩:=hne;rw [if_neg (by simp),if_neg (by simp),if_pos hb,if_pos hall]
theorem acb{c:Call}{a x:Operand}{ty ty1 z e1:TypeId}{t1:TI}{fr:Bool}{bz:Nat}{d:D}(ha:ov nt f a=some (.one (.p fr (.s false bz []))))(hx:ov nt f x=some d)(hxs:Ci L d [])(hz:eh E.ti ty=some z)(ht1:E.ti ty1=some t1)(he1:bA t1=some e1)
  (hc:c.callee= .builtin .append) (hargs:c.args.toList= [a,x]) (hty:c.argTypes[0]? =some ty) (hty1:c.argTypes[1]? =some ty1):PS E n nt f L (.call c) (.one (.p fr (.s false bz []))):=λh nid hh=>by
 obtain⟨t,e,te,g1,g2,g3,g4⟩:=ij hz;have h1:br (.call c)=none:=by unfold br;simp only [hc]
 rw [mY,h1];unfold sem xA;simp only [hc,hty,g1,hargs,eV,zbB,zbS,List.mapM_cons,List.mapM_nil,ha,hx,Option.pure_def,g2,g3,hty1,ht1,he1,g4];unfold Ev.append;simp only [hxs h hh,zbB,zbS];rw [if_neg (by simp),if_pos (show([]:List (List C)).length=0 from rfl)]
theorem VU{α:Type}{r:α->List C}{c:Call}{a x:Operand}{ty ty1 z e1:TypeId}{t1:TI}{k:Nat}{l m lm:List α}{d:D}{xs:List (List C)}(p:Nat)(ha:ov nt f a=some (.one (.own k 0 l.length)))(hx:ov nt f x=some d)(hxs:Ci L d xs)(hm:xs=m.map r)(hp:L[p]? =some [(k,z,l.map r)])(hlm:app l m=some lm)(hr:∀y,(r y).length=z)(hz:eh E.ti ty=some z)(ht1:E.ti ty1=some t1)(he1:bA t1=some e1)
  (hc:c.callee= .builtin .append) (hargs:c.args.toList= [a,x]) (hty:c.argTypes[0]? =some ty) (hty1:c.argTypes[1]? =some ty1) (hz0:Nat.beq z 0=false:=by rfl):PA E n nt f L (.call c) (λk'=> .one (.own k' 0 lm.length)) p k z (lm.map r):=⟨⟨_,hp⟩,λh nid hh=>by
 obtain⟨t,e,te,g1,g2,g3,g4⟩:=ij hz;obtain⟨hb,rfl⟩:=cD hlm;have h1:br (.call c)=none:=by unfold br;simp only [hc]
 rw [mY,h1];unfold sem xA;simp only [hc,hty,g1,hargs,eV,zbB,zbS,List.mapM_cons,List.mapM_nil,ha,hx,Option.pure_def,g2,g3,hty1,ht1,he1,g4];unfold Ev.append;simp only [hxs h hh,zbB,zbS,hh.get hp,hm];rw [if_pos ⟨trivial,by simp,by simpa using hb,trivial,by simp [hr],Nat.ne_of_beq_eq_false hz0⟩]
 simp⟩
theorem sA{α:Type}{r:α->List C}{ty:Nat}{x y:Operand}{t te:TI}{ety z:Nat}{fa fb:Bool}{ka kb:IntKind}{i:Int}{a:α}(ht:E.ti ty=some t)(he:bA t=some ety)(hte:E.ti ety=some te)(hx:ov nt f x=some (.one (.p fa (.v (.int ka i)))))(hy:ov nt f y=some (.one (.p fb (.v (.int kb i)))))(h0:0<=i)(hi:i.toNat<=cu)(hz:lb te=r a)(hs:te.size=z):PN E n nt f L (.makeSlice ty x y) (λk=> .one (.own k 0 (List.replicate i.toNat a).length)) z ((List.replicate i.toNat a).map r):=λh nid hb=>by
 show((E.ti ty).bind λt=>(bA t).bind λq=>(E.ti q).bind λe=>(aP (aT (tab nt f)) x).bind λdx=>(iV dx).bind λn=>(aP (aT (tab nt f)) y).bind λdy=>(iV dy).bind λm=>if n<=m/\m<=cu then some (⟨.one (.own nid 0 n),[(nid,.own e.size (List.replicate n (lb e)))]⟩:Eff)else none)=_;rw [ht];simp only [zbS,he,hte,cj,hx,hy,iJ _ _ _ h0];rw [if_pos ⟨Nat.le_refl _,hi⟩,List.length_replicate,List.map_replicate,hz,hs]
theorem YX{α:Type}{r:α->List C}{ty:Nat}{x y:Operand}{t te:TI}{ety z:Nat}{fa fb:Bool}{ka kb:IntKind}{i j:Int}{a:α}(ht:E.ti ty=some t)(he:bA t=some ety)(hte:E.ti ety=some te)(hx:ov nt f x=some (.one (.p fa (.v (.int ka i)))))(hy:ov nt f y=some (.one (.p fb (.v (.int kb j)))))(h0:0<=i)(hij:i<=j)(hj:j.toNat<=cu)(hz:lb te=r a)(hs:te.size=z):PN E n nt f L (.makeSlice ty x y) (λk=> .one (.own k 0 (List.replicate i.toNat a).length)) z ((List.replicate i.toNat a).map r):=λh nid hb=>by
 show((E.ti ty).bind λt=>(bA t).bind λq=>(E.ti q).bind λe=>(aP (aT (tab nt f)) x).bind λdx=>(iV dx).bind λn=>(aP (aT (tab nt f)) y).bind λdy=>(iV dy).bind λm=>if n<=m/\m<=cu then some (⟨.one (.own nid 0 n),[(nid,.own e.size (List.replicate n (lb e)))]⟩:Eff)else none)=_;rw [ht];simp only [zbS,he,hte,cj,hx,hy,iJ _ _ _ h0,iJ _ _ _ (show 0<=j by omega)];rw [if_pos ⟨by omega,hj⟩,List.length_replicate,List.map_replicate,hz,hs]
def Vw(L:BL)(ds:List D)(vs:List (Bool×TD)):Prop:=∀h,HB h L->ds.mapM (cU h)=some vs
theorem aw:Vw L [] []:=λh hb=>rfl
theorem af{d:D}{ds:List D}{v:Bool×TD}{vs:List (Bool×TD)}(h1:∀h,HB h L->cU h d=some v)(h2:Vw L ds vs):Vw L (d::ds) (v::vs):=λh hb=>by
 rw [List.mapM_cons,h1 h hb,h2 h hb];rfl
def VwC(L:BL)(cs:List C)(vs:List (Bool×T)):Prop:=∀h,HB h L->∀m,cs.mapM (fw h (m+2))=some vs
theorem be:VwC L [] []:=λh hb m=>rfl
theorem ae{c:C}{cs:List C}{v:Bool×T}{vs:List (Bool×T)}(h1:∀h,HB h L->∀m,fw h (m+2) c=some v)(h2:VwC L cs vs):VwC L (c::cs) (v::vs):=λh hb m=>by
 rw [List.mapM_cons,h1 h hb m,h2 h hb m];rfl
theorem aG{x:Value}:∀h,HB h L->∀m,fw h (m+2) (.p true (.v x))=some (true,.v x):=λh hb m=>rfl
theorem aX{fr nn:Bool}{sz:Nat}{l:List (List T)}:∀h,HB h L->∀m,fw h (m+2) (.p fr (.s nn sz l))=some (fr,.s nn sz l):=λh hb m=>rfl
theorem Lk{α β γ:Type}{r:α->List β}{q:α->List γ}{g:β->Option (Bool×γ)}(hq:∀x,(r x).mapM g=some ((q x).map λt=>(true,t))):∀l:List α,((l.map r).mapM λe=>e.mapM g)=some ((l.map q).map λe=>e.map λt=>(true,t))
 | []=>rfl
 |x::l=>by
  rw [List.map_cons,List.mapM_cons,hq x,Lk hq l];rfl
theorem gG{α:Type}{r:α->List T}{k sz:Nat}{l:List α}(p:Nat)(hp:L[p]? =some [(k,sz,l.map (aU r))])(hr:∀x h m,(aU r x).mapM (fw h (m+1))=some ((r x).map λt=>(true,t))):∀h,HB h L->∀m,fw h (m+2) (.own k 0 l.length)=some (true,.s true sz (l.map r)):=λh hb m=>by
 have hc:cut (l.map (aU r)) 0 l.length=some (l.map (aU r)):=by
  unfold cut;rw [if_pos (by simp),List.drop_zero,List.take_of_length_le (by simp)]
 have e1:fw h (m+2) (.own k 0 l.length)=(aE h k).bind λx=>(cut x.2 0 l.length).bind λes=>(es.mapM λe:List C=>e.mapM (fw h (m+1))).bind λq=>some (q.all (λe=>e.all (·.1)),T.s true x.1 (q.map (λe=>e.map (·.2)))):=rfl;rw [e1,hb.get hp];simp only [zbS,hc];rw [Lk (q:=r) λx=>hr x h m];simp only [zbS,List.map_map];congr 2
 .rw [List.all_eq_true];intro x hx;simp only [List.mem_map]at hx;obtain⟨y,_,rfl⟩:=hx;rw [List.all_eq_true];intro z hz;simp only [Function.comp,List.mem_map]at hz;obtain⟨w,_,rfl⟩:=hz;rfl
 .congr 1;refine List.map_congr_left λx hx=> ?_;simp [Function.comp_def]
theorem ar{c:C}{b:Bool}{t:T}(h1:∀h,HB h L->∀m,fw h (m+2) c=some (b,t)):∀h,HB h L->cU h (.one c)=some (b,.one t):=λh hb=>by
 show(fw h 6 c).bind _=_;rw [h1 h hb 4];rfl
theorem bg{cs:List C}{vs:List (Bool×T)}(h1:VwC L cs vs):∀h,HB h L->cU h (.agg cs)=some (vs.all (·.1),.agg (vs.map (·.2))):=λh hb=>by
 show(cs.mapM (fw h 6)).bind _=_;rw [h1 h hb 4];rfl
def Cj(E:Env)(n:Nat)(k:FuncId)(vs:List TD)(rs:List TD):Prop:=∃fr:Bool,RunsP E n k vs (cond fr .fresh .any,rs)
theorem xD{c:Call}{k:FuncId}{args:List D}{vs:List (Bool×TD)}{r:Kind×List TD}{e:Nat->Eff}(hc:br (.call c)=some c)(hr:bI c (ov nt f)=some (k,args))(hv:Vw L args vs)(hk:cpR E n k (vs.map (·.2))=some r)
  (he:∀nid,(match r.1 with
   | .own=>match r.2 with
    | [.one (.s true sz l)]=>some ({v:= .one (.own nid 0 l.length),upd:= [(nid,.own sz (l.map (·.map (pC true))))]}:Eff)
    |_=>none
   | .fresh=>some {v:=iR (r.2.map (dD true))}
   | .any=>if args.any lH then none else some {v:=iR (r.2.map (dD (vs.all (·.1))))})=some (e nid)):∀(h:Heap) (nid:Nat),HB h L->stepG E (cpR E n) none nid (.call c) (aT (tab nt f)) h=some (e nid):=λh nid hb=>by
 rw [mY,hc];show jx (cpR E n) nid c (aT (tab nt f)) h=_;unfold jx;rw [eV,hr];simp only [zbB,zbS,hv h hb,hk];exact he nid
theorem Pj{c:Call}{k:FuncId}{args:List D}{vs:List (Bool×TD)}{vs2 rs:List TD}{v:D}(hk:RunsP E n k vs2 (.fresh,rs))(hc:br (.call c)=some c)(hr:bI c (ov nt f)=some (k,args))(hv:Vw L args vs)(h2:vs.map (·.2)=vs2)(hrv:iR (rs.map (dD true))=v):PS E n nt f L (.call c) v:=λh nid hb=>by
 subst hrv h2;exact xD (e:=λ_=>⟨_,[]⟩) hc hr hv (fy hk) (λ_=>rfl) h nid hb
theorem zK{c:Call}{k:FuncId}{args:List D}{vs:List (Bool×TD)}{vs2 rs:List TD}{v:Bool->D}(hk:Cj E n k vs2 rs)(hc:br (.call c)=some c)(hr:bI c (ov nt f)=some (k,args))(hv:Vw L args vs)(h2:vs.map (·.2)=vs2)(ho:args.any lH=false)(hrv:∀fr,iR (rs.map (dD fr))=v fr):∃fr,PS E n nt f L (.call c) (v fr):=by
 obtain⟨fr,hk⟩:=hk
 cases fr with
 |true=>exact⟨true,Pj hk hc hr hv h2 (hrv true)⟩
 |false=>
  subst h2;refine⟨vs.all (·.1),λh nid hb=> ?_⟩;rw [<-hrv];refine xD (e:=λ_=>⟨_,[]⟩) hc hr hv (fy hk) (λ_=> ?_) h nid hb;show(if args.any lH=true then none else _)=_;rw [ho];rfl
theorem ke{α:Type}{r:α->List T}{c:Call}{k:FuncId}{args:List D}{vs:List (Bool×TD)}{vs2:List TD}{sz:Nat}{l:List α}(hk:RunsP E n k vs2 (.own,[.one (.s true sz (l.map r))]))(hc:br (.call c)=some c)(hr:bI c (ov nt f)=some (k,args))(hv:Vw L args vs)(h2:vs.map (·.2)=vs2):PN E n nt f L (.call c) (λk'=> .one (.own k' 0 l.length)) sz (l.map (aU r)):=λh nid hb=>by
 subst h2
 have:=xD (e:=λnid=>⟨.one (.own nid 0 (l.map r).length),[(nid,.own sz ((l.map r).map (·.map (pC true))))]⟩) hc hr hv (fy hk) (λ_=>rfl) h nid hb
 rw [List.length_map,List.map_map]at this;exact this
def af6(E:Env)(rv:List ResultVar)(rs:List TD):Ex->St->Prop:=λe s=>∃fr:Bool,iS E rv (cond fr .fresh .any,rs) e s
def Ea(E:Env)(nt:Nat)(f:Nat->D)(L:BL)(rv:List ResultVar)(ds:List D):Prop:=∀h,HB h L->rv.mapM (dB E {t:=tab nt f,h:=h})=some ds
theorem aL:Ea E nt f L [] []:=λh hb=>rfl
theorem bk{t:Tmp}{d:D}{rv:List ResultVar}{ds:List D}(ht:ov nt f (.tmp t)=some d)(h:Ea E nt f L rv ds):Ea E nt f L (.tmp t::rv) (d::ds):=λH hb=>by
 have:(tab nt f)[t]? =some d:=(cj nt f (.tmp t)).trans ht
 rw [List.mapM_cons,h H hb];show((tab nt f)[t]?).bind _=_;rw [this];rfl
theorem bn{t:Tmp}{ty:TypeId}{k i j sz bz:Nat}{ag:Bool}{es:List (List C)}{e cs:List C}{d:D}{rv:List ResultVar}{ds:List D}(p:Nat)(ht:ov nt f (.tmp t)=some (.one (.ptr k i j)))(hz:bZ E.ti ty=some (sz,ag))(hp:L[p]? =some [(k,bz,es)])(he:es[i]? =some e)(hc:cut e j (cond ag sz 1)=some cs)(hv:dX ag cs=some d)(h:Ea E nt f L rv ds):Ea E nt f L (.cell t ty::rv) (d::ds):=λH hb=>by
 have h1:(tab nt f)[t]? =some (.one (.ptr k i j)):=(cj nt f (.tmp t)).trans ht;unfold bZ at hz;simp only [zbE,zsI,Prod.mk.injEq]at hz;obtain⟨ti,g1,rfl,rfl⟩:=hz;rw [List.mapM_cons,h H hb];show(((E.ti ty).bind λt'=>((tab nt f)[t]?).bind λd=>load H (bG t'.desc) (if bG t'.desc then t'.size else 1) d).bind _)=_;rw [g1,h1];simp only [zbS,load,hb.get hp,zbB,he,HX,hc,hv];rfl
theorem cI{rv:List ResultVar}{ds:List D}{vs:List (Bool×TD)}{e:Ex}{rs:List TD}(he:e= .normal∨e= .ret)(hr:Ea E nt f L rv ds)(hv:Vw L ds vs)(ho:∀h,HB h L->cV h ds=false)(hf:vs.all (·.1)=true)(hrs:vs.map (·.2)=rs):ew nt (iS E rv (.fresh,rs)) e f L:=λH hb=>by
 have key:dq (λl:Kind×List TD=>l=(.fresh,rs)) ((rv.mapM (dB E {t:=tab nt f,h:=H})).bind λrs=>(rs.mapM (cU H)).map λl=>(if cV H rs then .own else if l.all (·.1)then .fresh else .any,l.map (·.2))):=by
  rw [hr H hb];simp only [zbS,hv H hb,Option.map_some,ho H hb,hf,hrs];rfl
 rcases he with rfl|rfl<;>exact key
theorem rK{rv:List ResultVar}{ds:List D}{vs:List (Bool×TD)}{e:Ex}{rs:List TD}(he:e= .normal∨e= .ret)(hr:Ea E nt f L rv ds)(hv:Vw L ds vs)(ho:∀h,HB h L->cV h ds=false)(hrs:vs.map (·.2)=rs):ew nt (af6 E rv rs) e f L:=λH hb=>by
 have key:dq (λl:Kind×List TD=>l=(cond (vs.all (·.1)) .fresh .any,rs)) ((rv.mapM (dB E {t:=tab nt f,h:=H})).bind λrs=>(rs.mapM (cU H)).map λl=>(if cV H rs then .own else if l.all (·.1)then .fresh else .any,l.map (·.2))):=by
  rw [hr H hb];simp only [zbS,hv H hb,Option.map_some,ho H hb,hrs];show(_,_)=(_,_);cases vs.all (·.1)<;>rfl
 refine⟨vs.all (·.1),?_⟩;rcases he with rfl|rfl<;>exact key
theorem NN{α:Type}{r:α->List T}{rv:List ResultVar}{k sz:Nat}{l:List α}{e:Ex}(p:Nat)(he:e= .normal∨e= .ret)(hr:Ea E nt f L rv [.one (.own k 0 l.length)])(hp:L[p]? =some [(k,sz,l.map (aU r))])(hr2:∀x h m,(aU r x).mapM (fw h (m+1))=some ((r x).map λt=>(true,t)))(hpl:∀x,(aU r x).all tR=true):ew nt (iS E rv (.own,[.one (.s true sz (l.map r))])) e f L:=λH hb=>by
 have ho:cV H [.one (.own k 0 l.length)]=true:=by
  simp [cV,hb.get hp,hpl]
 have key:dq (λl':Kind×List TD=>l'=(.own,[.one (.s true sz (l.map r))])) ((rv.mapM (dB E {t:=tab nt f,h:=H})).bind λrs=>(rs.mapM (cU H)).map λl=>(if cV H rs then .own else if l.all (·.1)then .fresh else .any,l.map (·.2))):=by
  rw [hr H hb];have hv: [D.one (.own k 0 l.length)].mapM (cU H)=some [(true,.one (.s true sz (l.map r)))]:=af (ar (gG p hp hr2)) aw H hb;simp only [zbS,hv,Option.map_some,ho];rfl
 rcases he with rfl|rfl<;>exact key
theorem YY{d e:D}{ds:List D}{h:Heap}:cV h (d::e::ds)=false:=by
 unfold cV;split
 .rename_i hx;simp at hx
 .rfl
theorem YZ{cs:List C}{h:Heap}:cV h [.agg cs]=false:=rfl
theorem VV{fr:Bool}{t:T}{h:Heap}:cV h [.one (.p fr t)]=false:=rfl
def f0(vs:List TD):Nat->D:=λi=>(vs.map (dD false)).getD i cK
theorem pA{k:FuncId}{fi:FI}{vs rs:List TD}(ha:E.ax k=none)(hf:E.fn k=some fi)(hl:Nat.ble vs.length fi.nt=true)(h:WpL E nY n fi.nt fi.body (iS E fi.results (.fresh,rs)) (f0 vs) []):RunsP E (n+1) k vs (.fresh,rs):=pw ha hf (Nat.le_of_ble_eq_true hl) (h [] ⟨List.nodup_nil,λx hx=>by simp at hx⟩)
theorem af7{k:FuncId}{fi:FI}{vs rs:List TD}(ha:E.ax k=none)(hf:E.fn k=some fi)(hl:Nat.ble vs.length fi.nt=true)(h:WpL E nY n fi.nt fi.body (iS E fi.results (.own,rs)) (f0 vs) []):RunsP E (n+1) k vs (.own,rs):=pw ha hf (Nat.le_of_ble_eq_true hl) (h [] ⟨List.nodup_nil,λx hx=>by simp at hx⟩)
theorem Za{k:FuncId}{fi:FI}{vs rs:List TD}(ha:E.ax k=none)(hf:E.fn k=some fi)(hl:Nat.ble vs.length fi.nt=true)(h:WpL E nY n fi.nt fi.body (af6 E fi.results rs) (f0 vs) []):Cj E (n+1) k vs rs:=by
 obtain⟨e,s',h1,fr,h2⟩:=h [] ⟨List.nodup_nil,λx hx=>by simp at hx⟩;exact⟨fr,pw ha hf (Nat.le_of_ble_eq_true hl) ⟨e,s',h1,h2⟩⟩
end
section
variable (P : Program) (t : TypeId) (x y : Operand) (k : IntKind) {a b : Int}
theorem Zb(h:a<b):am P (do eqGuard .lss t x y (.int k a) (.int k b);binOp .lss t (.int k a) (.int k b))=some (.bool true):=by rw [Vx,decide_eq_true h]
theorem Zc(h:¬a<b):am P (do eqGuard .lss t x y (.int k a) (.int k b);binOp .lss t (.int k a) (.int k b))=some (.bool false):=by rw [Vx,decide_eq_false h]
theorem Zd(h:a<=b):am P (do eqGuard .leq t x y (.int k a) (.int k b);binOp .leq t (.int k a) (.int k b))=some (.bool true):=by rw [Vy,decide_eq_true h]
theorem Ze(h:¬a<=b):am P (do eqGuard .leq t x y (.int k a) (.int k b);binOp .leq t (.int k a) (.int k b))=some (.bool false):=by rw [Vy,decide_eq_false h]
theorem Zf(h:a>b):am P (do eqGuard .gtr t x y (.int k a) (.int k b);binOp .gtr t (.int k a) (.int k b))=some (.bool true):=by rw [Vz,decide_eq_true h]
theorem Zg(h:¬a>b):am P (do eqGuard .gtr t x y (.int k a) (.int k b);binOp .gtr t (.int k a) (.int k b))=some (.bool false):=by rw [Vz,decide_eq_false h]
theorem Zh(h:a >= b):am P (do eqGuard .geq t x y (.int k a) (.int k b);binOp .geq t (.int k a) (.int k b))=some (.bool true):=by rw [VA,decide_eq_true h]
theorem Zi(h:¬a >= b):am P (do eqGuard .geq t x y (.int k a) (.int k b);binOp .geq t (.int k a) (.int k b))=some (.bool false):=by rw [VA,decide_eq_false h]
theorem Zj(h:a=b):am P (do eqGuard .eql t x y (.int k a) (.int k b);binOp .eql t (.int k a) (.int k b))=some (.bool true):=by rw [VB,h];simp
theorem Zk(h:¬a=b):am P (do eqGuard .eql t x y (.int k a) (.int k b);binOp .eql t (.int k a) (.int k b))=some (.bool false):=by rw [VB];simp [h]
theorem Zl(h:a≠b):am P (do eqGuard .neq t x y (.int k a) (.int k b);binOp .neq t (.int k a) (.int k b))=some (.bool true):=by rw [VC];simp [h]
theorem Zm(h:¬a≠b):am P (do eqGuard .neq t x y (.int k a) (.int k b);binOp .neq t (.int k a) (.int k b))=some (.bool false):=by rw [VC,Classical.not_not.1 h];simp
end
def mo{α:Type}(w:Nat)(l:List α):Sl α:=
 match l with
 | []=>⟨false,0,[]⟩
 |_::_=>⟨true,w,l⟩
def moC{α:Type}(l:List α)(k:Nat):C:=
 match l with
 | []=> .p true (.s false 0 [])
 |_::_=> .own k 0 l.length
def moL{α:Type}(r:α->List T)(w:Nat)(l:List α)(k:Nat):List B1:=
 match l with
 | []=> []
 |_::_=> [(k,w,l.map (aU r))]
theorem iU{α:Type}(w:Nat)(l:List α):(mo w l).l=l:=by cases l<;>rfl
def wm(k:IntKind)(a b:Int):Option Int:=if b≠0 then some (k.wrap (a.tdiv b))else none
def jw(a b:Int):Option Int:=if b≠0 then some (a.tmod b)else none
theorem uC{P:Program}{t:TypeId}{x y:Operand}{k:IntKind}{a b z:Int}(h:wm k a b=some z):am P (do eqGuard .quo t x y (.int k a) (.int k b);binOp .quo t (.int k a) (.int k b))=some (.int k z):=by
 unfold wm at h;split at h
 .rename_i hc;rw [<-Option.some.inj h];exact aeZ _ _ _ _ _ _ _ hc
 .simp at h
theorem HZ{P:Program}{t:TypeId}{x y:Operand}{k:IntKind}{a b z:Int}(h:jw a b=some z):am P (do eqGuard .rem t x y (.int k a) (.int k b);binOp .rem t (.int k a) (.int k b))=some (.int k z):=by
 unfold jw at h;split at h
 .rename_i hc;rw [<-Option.some.inj h];exact af0 _ _ _ _ _ _ _ hc
 .simp at h
def gP(i:Int):Option Unit:=if 0<=i/\i.toNat<=cu then some ()else none
def tM(i j:Int):Option Unit:=if i=j then some ()else if i<=j/\j.toNat<=cu then some ()else none
theorem qg(i:Int):tM i i=some ():=if_pos rfl
theorem NO{i j:Int}{u:Unit}(h:tM i j=some u):i=j∨(i<=j/\j.toNat<=cu):=by
 unfold tM at h;split at h
 .rename_i hi;exact .inl hi
 .split at h
  .rename_i hj;exact .inr hj
  .simp at h
theorem gH{i:Int}{u:Unit}(h:gP i=some u):0<=i/\i.toNat<=cu:=by
 unfold gP at h;split at h
 .assumption
 .simp at h
end Ev
end
noncomputable section
namespace Ev
open Go Go.RowKit
def Rt(x:Int)(k:IntKind)(y:Int):Int:=x.fdiv (2 ^(min y.toNat k.bits))
def VW(x:Int)(k:IntKind)(y:Int):Int:=k.wrap (x*2 ^(min y.toNat k.bits))
def rL(k:IntKind)(x y:Int):Option Int:=if 0<=y then some (Rt x k y)else none
def zB(k:IntKind)(x y:Int):Option Int:=if 0<=y then some (VW x k y)else none
theorem aa3{P:Program}{t:TypeId}{x y:Operand}{k k':IntKind}{a b z:Int}(h:rL k a b=some z):am P (do eqGuard .shr t x y (.int k a) (.int k' b);binOp .shr t (.int k a) (.int k' b))=some (.int k z):=by
 unfold rL at h;split at h
 .rename_i hc;rw [<-Option.some.inj h]
  have:(do eqGuard .shr t x y (.int k a) (.int k' b);binOp .shr t (.int k a) (.int k' b))=(pure (.int k (Rt a k b)):Sem Value):=by
   show Op.shift .shr k a k' b=_;unfold Op.shift;rw [if_neg (by omega)];rfl
  rw [this];rfl
 .simp at h
theorem af8{P:Program}{t:TypeId}{x y:Operand}{k k':IntKind}{a b z:Int}(h:zB k a b=some z):am P (do eqGuard .shl t x y (.int k a) (.int k' b);binOp .shl t (.int k a) (.int k' b))=some (.int k z):=by
 unfold zB at h;split at h
 .rename_i hc;rw [<-Option.some.inj h]
  have:(do eqGuard .shl t x y (.int k a) (.int k' b);binOp .shl t (.int k a) (.int k' b))=(pure (.int k (VW a k b)):Sem Value):=by
   show Op.shift .shl k a k' b=_;unfold Op.shift;rw [if_neg (by omega)];rfl
  rw [this];rfl
 .simp at h
def kr(k:IntKind)(x y:Int):Int:=k.wrap (BitVec.ofInt k.bits x &&& BitVec.ofInt k.bits y).toNat
def orI(k:IntKind)(x y:Int):Int:=k.wrap (BitVec.ofInt k.bits x|||BitVec.ofInt k.bits y).toNat
def acd(k:IntKind)(x y:Int):Int:=k.wrap (BitVec.ofInt k.bits x ^^^ BitVec.ofInt k.bits y).toNat
def Pk(k:IntKind)(x y:Int):Int:=k.wrap (BitVec.ofInt k.bits x &&& ~~~ BitVec.ofInt k.bits y).toNat
section
variable (P : Program) (t : TypeId) (x y : Operand) (k : IntKind) (a b : Int)
theorem aa4:am P (do eqGuard .and t x y (.int k a) (.int k b);binOp .and t (.int k a) (.int k b))=some (.int k (kr k a b)):=by cases k<;>rfl
theorem af9:am P (do eqGuard .or t x y (.int k a) (.int k b);binOp .or t (.int k a) (.int k b))=some (.int k (orI k a b)):=by cases k<;>rfl
theorem afa:am P (do eqGuard .xor t x y (.int k a) (.int k b);binOp .xor t (.int k a) (.int k b))=some (.int k (acd k a b)):=by cases k<;>rfl
theorem VX:am P (do eqGuard .andNot t x y (.int k a) (.int k b);binOp .andNot t (.int k a) (.int k b))=some (.int k (Pk k a b)):=by cases k<;>rfl
end
section
variable {E : Env} {y : Nat → fP} {n nt : Nat} {f : Nat → D} {L : BL}
def lA{α:Type}(w:Nat)(s:Sl α)(lo hi:Int):Option (Sl α):=if 0<=lo/\lo<=hi/\hi<=(s.l.length:Int)/\(s.sz=w∨lo=0)then some ⟨s.nn,s.sz,(s.l.drop lo.toNat).take (hi.toNat - lo.toNat)⟩else none
theorem jI{α:Type}{w:Nat}{s s':Sl α}{lo hi:Int}(h:lA w s lo hi=some s'):(0<=lo/\lo<=hi/\hi<=(s.l.length:Int)/\(s.sz=w∨lo=0))/\s'=⟨s.nn,s.sz,(s.l.drop lo.toNat).take (hi.toNat - lo.toNat)⟩:=by
 unfold lA at h;split at h
 .rename_i hc;exact⟨hc,(Option.some.inj h).symm⟩
 .simp at h
theorem Pm{ρ:Operand->Option D}(d:Nat):fU ρ none d=some ((d:Int)).toNat:=by simp [fU]
theorem Pn{ρ:Operand->Option D}:fU ρ none 0=some ((0:Int)).toNat:=rfl
theorem zL{y:Operand}{fr:Bool}{k:IntKind}{i:Int}(hx:ov nt f y=some (.one (.p fr (.v (.int k i)))))(h0:0<=i)(d:Nat):fU (ov nt f) (some y) d=some i.toNat:=by
 show(ov nt f y).bind iV=_;rw [hx];exact iJ fr k _ h0
theorem Ll{α:Type}{r:α->List T}{ty e:TypeId}{t te:TI}{x:Operand}{lo hi mx:Option Operand}{fr nn:Bool}{sz m:Nat}{l:List α}{s':Sl α}{i j:Int}(hc:lA te.size ⟨nn,sz,l⟩ i j=some s')(hx:ov nt f x=some (.one (.p fr (.s nn sz (l.map r)))))(ht:E.ti ty=some t)(he:bA t=some e)(hte:E.ti e=some te)(hlo:fU (ov nt f) lo 0=some i.toNat)(hhi:fU (ov nt f) hi l.length=some j.toNat)(hmx:fU (ov nt f) mx l.length=some m)(hm:(mx.isSome && hi.isNone)=false)(hm1:j.toNat<=m)(hm2:m<=l.length):PS E n nt f L (.slice ty x lo hi mx) (.one (.p fr (Sl.t r s'))):=λh nid hb=>by
 obtain⟨⟨c1,c2,c3,c4⟩,rfl⟩:=jI hc;simp only at c1 c2 c3 c4;show(if(mx.isSome && hi.isNone)=true then none else(E.ti ty).bind λt=>(bA t).bind λq=>(E.ti q).bind λte=>(aP (aT (tab nt f)) x).bind λd=>(CZ d).bind λn=>(fU (aP (aT (tab nt f))) hi n).bind λh'=>(fU (aP (aT (tab nt f))) lo 0).bind λl'=>(fU (aP (aT (tab nt f))) mx n).bind λm'=>if l'<=h'/\h'<=m'/\m'<=n then _ else _)=_;rw [if_neg (by rw [hm];simp),ht,eV];simp only [zbS,he,hte,hx,NM,hhi,hlo,hmx];rw [if_pos (by omega)];show(if sz=te.size∨i.toNat=0 then _ else _)=_;rw [if_pos (by rcases c4 with h|h;exact .inl h;exact .inr (by omega))];unfold Sl.t;rw [List.map_take,List.map_drop]
theorem Ck{α:Type}{r:α->List T}{ty e:TypeId}{t te:TI}{x:Operand}{lo hi:Option Operand}{fr nn:Bool}{sz:Nat}{l:List α}{s':Sl α}{i j:Int}(hc:lA te.size ⟨nn,sz,l⟩ i j=some s')(hx:ov nt f x=some (.one (.p fr (.s nn sz (l.map r)))))(ht:E.ti ty=some t)(he:bA t=some e)(hte:E.ti e=some te)(hlo:fU (ov nt f) lo 0=some i.toNat)(hhi:fU (ov nt f) hi l.length=some j.toNat):PS E n nt f L (.slice ty x lo hi none) (.one (.p fr (Sl.t r s'))):=
 Ll hc hx ht he hte hlo hhi (m:=l.length) rfl rfl (by have:=(jI hc).1;simp only at this;omega) (Nat.le_refl _)
theorem aa5{ty e:TypeId}{t te:TI}{m z:Nat}{x ix:Operand}{fb:Bool}{kb:IntKind}{k i j a:Nat}(ht:E.ti ty=some t)(hd:t.desc= .array m e)(hte:E.ti e=some te)(hz:te.size=z)(hx:ov nt f x=some (.one (.ptr k i j)))(hi:ov nt f ix=some (.one (.p fb (.v (.int kb (a:Int))))))(ha:Nat.blt a m=true):PS E n nt f L (.indexAddr ty x ix) (.one (.ptr k i (j+a*z))):=λh nid hb=>by
 rw [zI,cj,hx,cj,hi];refine Eq.trans (b:=Lc E.ti ty h a (.one (.ptr k i j))) rfl ?_
 show((E.ti ty).bind λt=>match t.desc with
  | .array n e=>(E.ti e).bind λte=>if a<n then some (⟨.one (.ptr k i (j+a*te.size)),[]⟩:Eff)else none
  |_=>none)=_
 rw [ht];simp only [zbS,hd,hte];rw [if_pos (fB ha),hz]
variable {ops : Array Oper} {r : List Oper} {K : St → Prop}
theorem Po(i:Nat){v:D}(h:f i=v)(h2:eO E y n nt ops r K (up f i v) L):eO E y n nt ops r K f L:=by rw [HJ h]at h2;exact h2
theorem aa6{q w b:Nat}{O:List (List Nat)}{N:List (Bool×List Nat)}{R:List (List Nat)}(i:Nat){v:D}(h:f i=v)(h2:TnL E n nt ops r q w O N R b K (up f i v) L):TnL E n nt ops r q w O N R b K f L:=by rw [HJ h]at h2;exact h2
def Ru(a b:Int):Int:=if b<a then b else a
def ou(a b:Int):Int:=if b>a then b else a
theorem rM{c:Call}{x y:Operand}{ty:TypeId}{t:TI}{fa fb:Bool}{ka kb:IntKind}{a b:Int}(hx:ov nt f x=some (.one (.p fa (.v (.int ka a)))))(hy:ov nt f y=some (.one (.p fb (.v (.int kb b)))))(ht:E.ti ty=some t)(hargs:c.args.toList= [x,y])(hty:c.argTypes[0]? =some ty):(c.callee= .builtin .min->PS E n nt f L (.call c) (iD ka (Ru a b)))/\(c.callee= .builtin .max->PS E n nt f L (.call c) (iD ka (ou a b))):=by
 constructor<;>intro hc h nid hb
 all_goals
  have h1:br (.call c)=none:=by unfold br;simp only [hc]
  rw [mY,h1];unfold sem xA;simp only [hc,hty,ht,hargs,eV,zbB,zbS,List.mapM_cons,List.mapM_nil,hx,hy,Option.pure_def,plain,tP];rfl
theorem VY{α:Type}{l m x:List α}(h:app l m=some x):x=l++m:=(cD h).2
theorem Pp{α:Type}{l m x:List α}(h:app l m=some x):x.length<=cu:=by
 obtain⟨h1,rfl⟩:=cD h;simpa using h1
theorem Pq{α:Type}{ro:α->List C}{c:Call}{a x:Operand}{ty ty1 z e1:TypeId}{t1:TI}{fr:Bool}{bz:Nat}{d:D}{y:α}{ys:List α}(ha:ov nt f a=some (.one (.p fr (.s false bz []))))(hx:ov nt f x=some d)(hxs:Ci L d ((y::ys).map ro))(hb:(y::ys).length<=cu)(hr:∀y,(ro y).length=z)(hz:eh E.ti ty=some z)(ht1:E.ti ty1=some t1)(he1:bA t1=some e1)
  (hc:c.callee= .builtin .append) (hargs:c.args.toList= [a,x]) (hty:c.argTypes[0]? =some ty) (hty1:c.argTypes[1]? =some ty1):PN E n nt f L (.call c) (λk=> .one (.own k 0 (y::ys).length)) z ((y::ys).map ro):=by
 have:=aca (n:=n) ha hx hxs ⟨_,_,rfl⟩ (by simpa using hb) (by simp [hr]) hz ht1 he1 hc hargs hty hty1
 rw [List.length_map]at this;exact this
end
theorem qh{α:Type}{w:Nat}{i:Int}{x:α}(h:atS w (⟨false,0,[]⟩:Sl α) i=some x):False:=by
 obtain⟨_,_,h2⟩:=aJ h;simp at h2
def VZ{α:Type}(w:Nat)(r:α->List T)(l:List α):Kind×List TD:=
 match l with
 | []=>(.fresh,[.one (.s false 0 [])])
 |y::t=>(.own,[.one (.s true w ((y::t).map r))])
theorem agJ{E:Env}{n:Nat}{k:FuncId}{fi:FI}{vs:List TD}{rs:Kind×List TD}(ha:E.ax k=none)(hf:E.fn k=some fi)(hl:Nat.ble vs.length fi.nt=true)(h:WpL E nY n fi.nt fi.body (iS E fi.results rs) (f0 vs) []):RunsP E (n+1) k vs rs:=pw ha hf (Nat.le_of_ble_eq_true hl) (h [] ⟨List.nodup_nil,λx hx=>by simp at hx⟩)
section
variable {α : Type} {rw_ : α → List T} {w k : Nat} {l : List α}
theorem ace:CZ (.one (moC l k))=some l.length:=by cases l<;>rfl
end
section
variable {E : Env} {y : Nat → fP} {n nt : Nat} {f : Nat → D} {L : BL} {ops : Array Oper} {o : Oper} {rr : List Oper} {K : St → Prop} {d : Nat}
def moK{α:Type}(l:List α)(k:Nat):List Nat:=
 match l with
 | []=> []
 |_::_=> [k]
theorem HB.dropNil{h:Heap}{L:BL}{p:Nat}(hp:L[p]? =some [])(hb:HB h L):HB h (L.eraseIdx p):=by unfold HB;rw [EX hp];exact hb
theorem Cl{p:Nat}(hp:L[p]? =some [])(h:eO E y n nt ops rr K f (L.eraseIdx p)):eO E y n nt ops rr K f L:=λH hb=>h H (hb.dropNil hp)
theorem oy{α:Type}{Q:Ex->St->Prop}{c:Code}(r:α->List T)(w:Nat)(h:WpL E y n nt c Q f (moL r w ([]:List α) 0::L)):WpL E y n nt c Q f L:=λH hb=>h H hb
theorem vm{α:Type}:∀{l:List α} {q:Nat} {s:α},l[q]? =some s->l.set q s=l
 | [],q,s,h=>by simp at h
 |a::l,0,s,h=>by simp at h;subst h;rfl
 |a::l,q+1,s,h=>by rw [List.set_cons_succ,vm (by simpa using h)]
theorem Ia(q:Nat){s s':List B1}(hq:L[q]? =some s)(he:s=s')(h:eO E y n nt ops rr K f (L.set q s')):eO E y n nt ops rr K f L:=by subst he;rw [vm hq]at h;exact h
theorem jc{α:Type}{k i:Nat}{l:List α}{x:α}:C.own k 0 l.length=C.own k 0 (l.set i x).length:=by rw [List.length_set]
theorem kf{α:Type}{l:List α}{k k2:Nat}(h:k2 ∉ moK l k):∀x∈moK l k,¬x=k2:=λx hx e=>h (e▸hx)
theorem mu{α:Type}{r:α->List T}{c:Call}{a x:Operand}{ty ty1 w e1:TypeId}{t1:TI}{k:Nat}{l ys lm:List α}{dx:D}(p:Nat)(hw:dZ ops o nt f=some true)(hd:o.dst=some d)(hn:Nat.blt d nt=true)(ho:o.op= .call c)(ha:ov nt f a=some (.one (moC l k)))(hx:ov nt f x=some dx)(hxs:Ci L dx (ys.map (aU r)))(hp:L[p]? =some (moL r w l k))(hlm:app l ys=some lm)(hr:∀y,(aU r y).length=w)(hz:eh E.ti ty=some w)(ht1:E.ti ty1=some t1)(he1:bA t1=some e1)
  (hc:c.callee= .builtin .append) (hargs:c.args.toList= [a,x]) (hty:c.argTypes[0]? =some ty) (hty1:c.argTypes[1]? =some ty1) (h:∀k',eO E y n nt ops rr K (up f d (.one (moC lm k'))) (moL r w lm k'::L.eraseIdx p)) (hz0:Nat.beq w 0=false:=by rfl):eO E y n nt ops (o::rr) K f L:=by
 cases l with
 |nil=>
  have hlm2:=VY hlm;rw [List.nil_append]at hlm2;subst hlm2;have hb:=Pp hlm
  cases lm with
  |nil=>exact NG hw hd hn (by rw [ho];exact acb ha hx hxs hz ht1 he1 hc hargs hty hty1) (Cl hp (h 0))
  |cons y ys=>
   refine aA hw hd hn (by rw [ho];exact Pq (ro:=aU r) ha hx hxs hb hr hz ht1 he1 hc hargs hty hty1) λk'=> ?_;exact Cl (p:=p+1) hp (h k')
 |cons y l=>
  obtain⟨_,rfl⟩:=cD hlm;exact VN hw hd hn (by rw [ho];exact VU (r:=aU r) p ha hx hxs rfl hp hlm hr hz ht1 he1 hc hargs hty hty1 hz0) rfl h
theorem NP{i q b p:Nat}{O:List (List Nat)}{N:List (Bool×List Nat)}{R:List (List Nat)}(hp:L[p]? =some [])(h:TnL E n nt ops rr i q O N R b K f (L.eraseIdx p)):TnL E n nt ops rr i q O N R b K f L:=λH hb hl=>h H (hb.dropNil hp) hl
theorem zM{α:Type}{r:α->List T}{c:Call}{a x:Operand}{ty ty1 w e1:TypeId}{t1:TI}{k i wd b:Nat}{O:List (List Nat)}{N:List (Bool×List Nat)}{R:List (List Nat)}{A:BL}{l ys lm:List α}{y0:α}{dx:D}(p q:Nat)(hw:dZ ops o nt f=some true)(hd:o.dst=some d)(hn:Nat.blt d nt=true)(ho:o.op= .call c)(is:List Nat)(hn2:is.Nodup)(hA:is.filterMap (λi=>L[i]?)=A)(hm:∀x∈A.flatten,x.1 ∉(R.getD i []).flatMap (bh b O N))(hu:bh b O N i=moK l k++ [b+i])(hi:Nat.blt i wd=true)(hk:∀x∈L.flatten,x.1≠b+i)
  (ha:ov nt f a=some (.one (moC l k))) (hx:ov nt f x=some dx) (hxs:Ci A dx ((y0::ys).map (aU r))) (hp:A[p]? =some (moL r w l k)) (hq:L[q]? =some (moL r w l k)) (hlm:app l (y0::ys)=some lm) (hr:∀y,(aU r y).length=w) (hz:eh E.ti ty=some w) (ht1:E.ti ty1=some t1) (he1:bA t1=some e1)
  (hc:c.callee= .builtin .append) (hargs:c.args.toList= [a,x]) (hty:c.argTypes[0]? =some ty) (hty1:c.argTypes[1]? =some ty1) (h:TnL E n nt ops rr (i+1) wd O N R b K (up f d (.one (moC lm (b+i)))) (moL r w lm (b+i)::L.eraseIdx q)) (hz0:Nat.beq w 0=false:=by rfl):TnL E n nt ops (o::rr) i wd O N R b K f L:=by
 cases l with
 |nil=>
  have hlm2:=VY hlm;rw [List.nil_append]at hlm2;subst hlm2;have hb:=Pp hlm;refine fT hw hd hn is hn2 hA hm hu hi hk (by rw [ho];exact Pq (ro:=aU r) ha hx hxs hb hr hz ht1 he1 hc hargs hty hty1) ?_;exact NP (p:=q+1) hq h
 |cons y l=>
  obtain⟨_,rfl⟩:=cD hlm;exact ac5 hw hd hn is hn2 hA hm hu hi hk (by rw [ho];exact VU (r:=aU r) p ha hx hxs rfl hp hlm hr hz ht1 he1 hc hargs hty hty1 hz0) hq rfl h
theorem hkM{α:Type}{r:α->List T}{w k z:Nat}{l:List α}{A:BL}(h1:l= []∨k≠z)(h2:∀x∈A.flatten,x.1≠z):∀x∈(moL r w l k::A:BL).flatten,x.1≠z:=λx hx=>by
 rw [List.flatten_cons,List.mem_append]at hx;rcases hx with hx|hx
 .cases l with
  |nil=>simp [moL]at hx
  |cons a l=>simp only [moL,List.mem_singleton]at hx;subst hx;exact h1.resolve_left (by simp)
 .exact h2 x hx
theorem kY{α:Type}{r:α->List T}{w k b:Nat}{l:List α}(h:∀x∈L.flatten,x.1<b)(p:Nat)(hp:L[p]? =some (moL r w l k)):l= []∨k<b:=by
 cases l with
 |nil=>exact .inl rfl
 |cons a l=>exact .inr (an h p hp)
theorem gV{α:Type}{r:α->List T}{w k k2:Nat}{l:List α}{x2:Nat×List (List C)}(hn:(L.flatten.map (·.1)).Nodup)(p q:Nat)(hp:L[p]? =some (moL r w l k))(hq:L[q]? =some [(k2,x2)])(hpq:Nat.beq p q=false):k2 ∉ moK l k:=by
 cases l with
 |nil=>simp [moK]
 |cons a l=>have:=NI hn p q hp hq hpq;simp [moK];omega
theorem rN{α:Type}{l:List α}{k b:Nat}(h:l= []∨k<b):∀x∈moK l k,x<b:=λx hx=>by
 cases l with
 |nil=>simp [moK]at hx
 |cons a l=>simp only [moK,List.mem_singleton]at hx;subst hx;exact h.resolve_left (by simp)
theorem Ib{α:Type}{r:α->List T}{w k:Nat}{l:List α}(p:Nat)(hp:L[p]? =some (moL r w l k))(hr:∀x h m,(aU r x).mapM (fw h (m+1))=some ((r x).map λt=>(true,t))):∀h,HB h L->∀m,fw h (m+2) (moC l k)=some (true,Sl.t r (mo w l)):=by
 cases l with
 |nil=>exact λh hb m=>rfl
 |cons a l=>exact gG (r:=r) p hp hr
theorem acf{α:Type}{r:α->List T}{rv:List ResultVar}{k w:Nat}{l:List α}{e:Ex}(p:Nat)(he:e= .normal∨e= .ret)(hr:Ea E nt f L rv [.one (moC l k)])(hp:L[p]? =some (moL r w l k))(hr2:∀x h m,(aU r x).mapM (fw h (m+1))=some ((r x).map λt=>(true,t)))(hpl:∀x,(aU r x).all tR=true):ew nt (iS E rv (VZ w r l)) e f L:=by
 cases l with
 |nil=>exact cI he hr (af (ar aX) aw) (λh hb=>VV) rfl rfl
 |cons a l=>exact NN (r:=r) p he hr hp hr2 hpl
end
theorem dz{α β:Type}(P:Program)(s:Sem α)(k:α->Sem β):am P (s>>=k)=(am P s).bind λa=>am P (k a):=by
 induction s with
 |pure a=>rfl
 |program q ih=>exact ih P
 |_=>rfl
section
variable {P : Program}
theorem wn{t:TypeId}{d:TypeDesc}(h:P.underlying t=some d):am P (underlying t)=some d:=by
 have:am P (underlying t)=match P.underlying t with|some d=>some d|none=>none:=by
  show am P (underlying t)=_
  cases hx:P.underlying t with
  |none=>rw [hx]at h;simp at h
  |some d'=>
   unfold underlying;simp [dz,program,am,hx];rfl
 rw [this,h]
theorem qi(d:Nat)(t:TypeId)(xs ys:Array Value){fs:Array Field}(ht:P.underlying t=some (.struct fs))(hp:P.stoodInHeld t=false):
  am P (Op.equalIn (d+1) t (.agg xs) (.agg ys))=am P (Op.eqFields d xs ys fs.toList):=by
 have e1:am P program=some P:=rfl;simp only [Op.equalIn,dz,wn ht,zbS,e1,hp,Bool.false_eq_true,if_false];rw [<-Array.forIn_toList];generalize fs.toList=fs;clear ht
 induction fs with
 |nil=>rfl
 |cons f fs ih=>
  simp only [List.forIn_cons,Op.eqFields,dz];by_cases hf:f.name≠ "_"
  .simp only [if_pos hf,dz]
   cases am P (part f.type xs f.offset)with
   |none=>rfl
   |some a=>
    cases am P (part f.type ys f.offset)with
    |none=>rfl
    |some b=>
     simp only [zbS]
     cases am P (Op.equalIn d f.type a b)with
     |none=>rfl
     |some q=>
      cases q
      .rfl
      .exact ih
  .simp only [if_neg hf,dz];exact ih
theorem kI{d:Nat}{xs ys:Array Value}{f:Field}{fs:List Field}{k k':IntKind}{a b:Int}(hf:(f.name== "_")=false)(h1:am P (part f.type xs f.offset)=some (.int k a))(h2:am P (part f.type ys f.offset)=some (.int k b))(h3:P.underlying f.type=some (.int k')):
  am P (Op.eqFields (d+1) xs ys (f::fs))=if(a==b)=true then am P (Op.eqFields (d+1) xs ys fs)else some false:=by
 have hf':f.name≠ "_" :=by simpa using hf
 have h4:am P (Op.equalIn (d+1) f.type (.int k a) (.int k b))=some (a==b):=by
  simp only [Op.equalIn,dz,wn h3,zbS,if_true];rfl
 simp only [Op.eqFields,if_pos hf',dz,h1,h2,h4,zbS];cases a==b<;>rfl
theorem NQ{d:Nat}{xs ys us vs:Array Value}{f:Field}{fs:List Field}{c:Bool}(hf:(f.name== "_")=false)(h1:am P (part f.type xs f.offset)=some (.agg us))(h2:am P (part f.type ys f.offset)=some (.agg vs))(h4:am P (Op.equalIn (d+1) f.type (.agg us) (.agg vs))=some c):
  am P (Op.eqFields (d+1) xs ys (f::fs))=if c=true then am P (Op.eqFields (d+1) xs ys fs)else some false:=by
 have hf':f.name≠ "_" :=by simpa using hf
 simp only [Op.eqFields,if_pos hf',dz,h1,h2,h4,zbS];cases c<;>rfl
theorem nU{d:Nat}{xs ys:Array Value}:am P (Op.eqFields d xs ys [])=some true:=rfl
theorem Wa{t:TypeId}{x y:Operand}{xs ys:Array Value}{b:Bool}(hg:P.eqGuardType P.depth t=false)(h:am P (Op.equalIn 10000 t (.agg xs) (.agg ys))=some b):am P (do eqGuard .eql t x y (.agg xs) (.agg ys);binOp .eql t (.agg xs) (.agg ys))=some (.bool b):=by
 have e1:am P program=some P:=rfl
 have h1:am P (eqGuard .eql t x y (.agg xs) (.agg ys))=some ():=by
  simp only [eqGuard,Bool.not_true,Bool.false_eq_true,if_false,dz,e1,zbS,hg,Bool.not_false,if_true];rfl
 rw [dz,h1];show am P (binOp .eql t (.agg xs) (.agg ys))=_;have h2:binOp .eql t (.agg xs) (.agg ys)=(do pure (.bool (<-Op.equal t (.agg xs) (.agg ys)))):=rfl;rw [h2,dz];unfold Op.equal Op.maxDepth;rw [h];rfl
theorem Lm{t:TypeId}{x y:Operand}{xs ys:Array Value}{b:Bool}(hg:P.eqGuardType P.depth t=false)(h:am P (Op.equalIn 10000 t (.agg xs) (.agg ys))=some b):am P (do eqGuard .neq t x y (.agg xs) (.agg ys);binOp .neq t (.agg xs) (.agg ys))=some (.bool (!b)):=by
 have e1:am P program=some P:=rfl
 have h1:am P (eqGuard .neq t x y (.agg xs) (.agg ys))=some ():=by
  simp only [eqGuard,Bool.not_true,Bool.false_eq_true,if_false,dz,e1,zbS,hg,Bool.not_false,if_true];rfl
 rw [dz,h1];show am P (binOp .neq t (.agg xs) (.agg ys))=_;have h2:binOp .neq t (.agg xs) (.agg ys)=(do pure (.bool (!(<-Op.equal t (.agg xs) (.agg ys))))):=rfl;rw [h2,dz];unfold Op.equal Op.maxDepth;rw [h];rfl
theorem rO{a b:Bool}{q:Option Bool}(h:q=some b):(if a=true then q else some false)=some (a && b):=by cases a<;>simp [h]
end
end Ev
end
noncomputable section
namespace Ev
open Go Go.RowKit
def inK(k:IntKind)(x:Int):Prop:=(Lit.int k x).wf=true
def SlW{α:Type}(w:Nat)(Q:α->Prop)(s:Sl α):Prop:=s.sz=w/\(s.nn=false->s.l= [])/\s.l.length<=maxLen/\∀x∈s.l,Q x
section
variable {P : Program} {t : TypeId} {ts : List T}
theorem wo{k:IntKind}(hu:P.underlying t=some (.int k))(h:Typ P t ts):∃x:Int,ts= [iT k x]/\inK k x:=by
 cases h with
 |int _ k' n h hw=>rw [hu]at h;cases h;exact⟨n,rfl,hw⟩
 |bool _ b h=>rw [hu]at h;simp at h
 |str _ s h=>rw [hu]at h;simp at h
 |slice _ e nn l h=>rw [hu]at h;simp at h
 |struct _ fs tss h=>rw [hu]at h;simp at h
 |array _ n e tss h=>rw [hu]at h;simp at h
theorem Wb(hu:P.underlying t=some .bool)(h:Typ P t ts):∃x:Bool,ts= [bT x]/\True:=by
 cases h with
 |bool _ b h=>exact⟨b,rfl,trivial⟩
 |int _ k' n h hw=>rw [hu]at h;simp at h
 |str _ s h=>rw [hu]at h;simp at h
 |slice _ e nn l h=>rw [hu]at h;simp at h
 |struct _ fs tss h=>rw [hu]at h;simp at h
 |array _ n e tss h=>rw [hu]at h;simp at h
theorem Fc{α β:Type}{r:α->β}{Q:α->Prop}:∀{l:List β},(∀es∈l,∃x,es=r x/\Q x)->∃xs:List α,l=xs.map r/\∀x∈xs,Q x
 | [],_=>⟨[],rfl,λx hx=>by simp at hx⟩
 |e::l,h=>by
  obtain⟨x,rfl,hx⟩:=h e List.mem_cons_self;obtain⟨xs,rfl,hxs⟩:=Fc λe he=>h e (List.mem_cons_of_mem _ he);exact⟨x::xs,rfl,λy hy=>by rcases List.mem_cons.1 hy with rfl|hy;exact hx;exact hxs y hy⟩
theorem xE{α:Type}{r:α->List T}{Q:α->Prop}{e:TypeId}{w:Nat}(hu:P.underlying t=some (.slice e))(hw:P.cellsOf e=w)(he:∀ts,Typ P e ts->∃x,ts=r x/\Q x)(h:Typ P t ts):∃s:Sl α,ts= [Sl.t r s]/\SlW w Q s:=by
 cases h with
 |slice _ e' nn l h hn hl h1 h2=>
  rw [hu]at h;cases h;obtain⟨xs,rfl,hq⟩:=Fc (r:=r) (Q:=Q) λes hes=>he es (h2 es hes);exact⟨⟨nn,w,xs⟩,by rw [hw];rfl,rfl,λhh=>by simpa using hn hh,by simpa using hl,hq⟩
 |int _ k' n h hw=>rw [hu]at h;simp at h
 |bool _ b h=>rw [hu]at h;simp at h
 |str _ s h=>rw [hu]at h;simp at h
 |struct _ fs tss h=>rw [hu]at h;simp at h
 |array _ n e tss h=>rw [hu]at h;simp at h
theorem uD{fs:Array Field}(hu:P.underlying t=some (.struct fs))(h:Typ P t ts):∃tss:List (List T),ts=tss.flatten/\tss.length=fs.toList.length/\∀(i:Nat) f ts',fs.toList[i]? =some f->tss[i]? =some ts'->Typ P f.type ts':=by
 cases h with
 |struct _ fs' tss h hl hf=>rw [hu]at h;cases h;exact⟨tss,rfl,by simpa using hl,λi f ts' h1 h2=>hf i f ts' (by simpa using h1) h2⟩
 |int _ k' n h hw=>rw [hu]at h;simp at h
 |bool _ b h=>rw [hu]at h;simp at h
 |str _ s h=>rw [hu]at h;simp at h
 |slice _ e nn l h=>rw [hu]at h;simp at h
 |array _ n e tss h=>rw [hu]at h;simp at h
theorem Rv{n:Nat}{e:TypeId}(hu:P.underlying t=some (.array n e))(h:Typ P t ts):∃tss:List (List T),ts=tss.flatten/\tss.length=n/\∀ts'∈tss,Typ P e ts':=by
 cases h with
 |array _ n' e' tss h hl hf=>rw [hu]at h;cases h;exact⟨tss,rfl,hl,hf⟩
 |int _ k' n h hw=>rw [hu]at h;simp at h
 |bool _ b h=>rw [hu]at h;simp at h
 |str _ s h=>rw [hu]at h;simp at h
 |slice _ e nn l h=>rw [hu]at h;simp at h
 |struct _ fs tss h=>rw [hu]at h;simp at h
theorem Wc{ts:List TypeId}{tds:List TD}{d:TypeDesc}(hu:P.underlying t=some d)(ha:bG d=true)(h:wi P (t::ts) tds):∃x r,tds= .agg x::r/\Typ P t x/\wi P ts r:=by
 cases h with
 |cons t ts td ds h hr=>
  cases h with
  |agg x h _=>exact⟨x,ds,rfl,h,hr⟩
  |one xs h h2=>obtain⟨d',h3,h4⟩:=h2;rw [hu]at h3;cases h3;rw [ha]at h4;simp at h4
theorem We{tds:List TD}(h:wi P [] tds):tds= []:=by cases h;rfl
end
theorem acg{E:Env}{n:Nat}{k:FuncId}{tds:List TD}(h:RunsP E n k tds (.fresh,[.one (bT true)])):∃m n kind,(dC E m n).1 k tds=some (kind,[.one (.v (.bool true))]):=by
 obtain⟨M,hM⟩:=h;exact⟨M,n,.fresh,hM M (Nat.le_refl _)⟩
theorem cr{A R:Type}{b:A->Option (A ⊕ R)}(n:Nat)(I:Nat->A->Prop)(Q:R->Prop)(hs:∀j a,j<n->I j a->(∃a',b a=some (.inl a')/\I (j+1) a')∨∃r,b a=some (.inr r)/\Q r)(he:∀a,I n a->∃r,b a=some (.inr r)/\Q r)(j:Nat)(hj:j<=n)(a:A)(ha:I j a):∃r,aK b a=some r/\Q r:=by
 obtain⟨k,hk⟩:∃k,n=j+k:=⟨n - j,by omega⟩
 induction k generalizing j a with
 |zero=>
  have:j=n:=by omega
  subst this;obtain⟨r,h1,h2⟩:=he a ha;exact⟨r,jv h1,h2⟩
 |succ k ih=>
  rcases hs j a (by omega) ha with⟨a',h1,h2⟩|⟨r,h1,h2⟩
  .obtain⟨r,h3,h4⟩:=ih (j+1) (by omega) a' h2 (by omega);exact⟨r,(NK h1).trans h3,h4⟩
  .exact⟨r,jv h1,h2⟩
theorem cg{α:Type}{w:Nat}{s:Sl α}(hs:s.l= []∨s.sz=w){j:Nat}(hj:j<s.l.length):atS w s (j:Int)=some s.l[j]:=by
 have hw:s.sz=w:=hs.resolve_left (by intro h;rw [h]at hj;simp at hj);unfold atS;rw [if_pos ⟨by omega,hw⟩];simp
theorem Pr{α:Type}{l:List α}{j:Nat}(hj:j<l.length):atL l (j:Int)=some l[j]:=by
 unfold atL;rw [if_pos (by omega)];simp
theorem ik{α:Type}{l m:List α}(h:l.length+m.length<=cu):app l m=some (l++m):=by unfold app;rw [if_pos h]
theorem ci{j n:Nat}(h:j<n)(hn:n<=9223372036854775807):IntKind.i64.wrap ((j:Int)+1)=((j+1:Nat):Int):=by rw [cY (by omega) (by omega)];rfl
def neL{α:Type}(l:List α):Option Unit:=
 match l with
 | []=>none
 |_::_=>some ()
theorem Wf{α:Type}{l:List α}(h:l≠[]):neL l=some ():=by
 cases l with
 |nil=>exact absurd rfl h
 |cons a l=>rfl
end Ev
end
noncomputable section
namespace Ev
open Go Go.RowKit
section
variable {E : Env} {y : Nat → fP} {n nt : Nat} {f : Nat → D} {L : BL}
def Ic(nt:Nat)(f:Nat->D)(l:List Operand):Option (List C):=l.mapM λx=>do match<-ov nt f x with| .one c=>some c|_=>none
theorem mv{fn:Fn}{first cap:Array Operand}{fs cs:List C}(h1:Ic nt f first.toList=some fs)(h2:Ic nt f cap.toList=some cs):PS E n nt f L (.makeFunc fn first cap) (.one (.clo fn fs cs)):=λh nid hb=>by
 show((first.toList.mapM λx=>(aP (aT (tab nt f)) x).bind λd=>match d with| .one c=>some c|_=>none).bind λa=>(cap.toList.mapM λx=>(aP (aT (tab nt f)) x).bind λd=>match d with| .one c=>some c|_=>none).bind λb=>some (⟨.one (.clo fn a b),[]⟩:Eff))=_;rw [eV];have h1':(first.toList.mapM λx=>(ov nt f x).bind λd=>match d with| .one c=>some c|_=>none)=some fs:=h1;have h2':(cap.toList.mapM λx=>(ov nt f x).bind λd=>match d with| .one c=>some c|_=>none)=some cs:=h2;rw [h1',h2'];rfl
def Wg(k:IntKind)(a:Int):Int:=acd k (if k.signed then -1 else k.max) a
theorem Zn{ty:TypeId}{x:Operand}{fr:Bool}{k:IntKind}{a:Int}(hx:ov nt f x=some (.one (.p fr (.v (.int k a))))):PS E n nt f L (.unOp .xor ty x) (iD k (Wg k a)):=λh nid hb=>by
 show((aP (aT (tab nt f)) x).bind λd=>(plain d).bind λv=>(am E.P (Op.unary .xor v)).bind mkO)=_;rw [cj,hx];cases k<;>rfl
def Zo:C->Bool
 | .p _ _=>false
 | .own _ _ _=>false
 |_=>true
def unv:D->Bool
 | .one c=>Zo c
 | .agg cs=>cs.any Zo
 | .tup _=>true
theorem Ln{h:Heap}{c:C}(hc:Zo c=true)(m:Nat):fw h (m+1) c=none:=by
 cases c<;>simp [Zo]at hc<;>rfl
theorem xF{α β:Type}{g:α->Option β}:∀{l:List α},(∃x∈l,g x=none)->l.mapM g=none
 | [],h=>by obtain⟨x,hx,_⟩:=h;simp at hx
 |a::l,h=>by
  rw [List.mapM_cons]
  cases ha:g a with
  |none=>rfl
  |some b=>
   obtain⟨x,hx,hg⟩:=h;rcases List.mem_cons.1 hx with rfl|hx
   .rw [ha]at hg;simp at hg
   .rw [xF ⟨x,hx,hg⟩];rfl
theorem Rw{h:Heap}{d:D}(hd:unv d=true):cU h d=none:=by
 cases d with
 |one c=>
  show(fw h 6 c).bind _=none;rw [Ln hd];rfl
 |agg cs=>
  obtain⟨c,hc,hu⟩:=List.any_eq_true.1 hd;show(cs.mapM (fw h 6)).bind _=none;rw [xF ⟨c,hc,Ln hu 5⟩];rfl
 |tup ds=>rfl
theorem Rx{h:Heap}{ds:List D}(hd:ds.any unv=true):ds.mapM (cU h)=none:=by
 obtain⟨d,h1,h2⟩:=List.any_eq_true.1 hd;exact xF ⟨d,h1,Rw h2⟩
def fA(args:List D):Nat->D:=λi=>args.getD i cK
theorem Id{args:List D}{k:Nat}(hl:args.length<=k):args++List.replicate (k - args.length) cK=tab k (fA args):=by
 rw [VD (args++List.replicate (k - args.length) cK)];have hlen:(args++List.replicate (k - args.length) cK).length=k:=by simp;omega
 rw [hlen];refine List.ext_getElem? λi=> ?_;rw [kX,kX];split
 .rename_i hi;congr 1;unfold fA;rw [List.getD_eq_getElem?_getD,List.getD_eq_getElem?_getD,List.getElem?_append];split
  .rfl
  .rename_i hge;rw [List.getElem?_replicate,if_pos (by omega),List.getElem?_eq_none (by omega)];rfl
 .rfl
def Lo(E:Env)(y:Nat->fP)(n nt:Nat)(ops:Array Oper)(r:List Oper)(K:St->Prop)(f:Nat->D)(d:Nat)(rv:List ResultVar):Ex->St->Prop:=λe s=>(e= .normal∨e= .ret)/\∃ds,rv.mapM (dB E s)=some ds/\kG E y n ops r K {t:=tab nt (up f d (iR ds)),h:=s.h}
variable {ops : Array Oper} {o : Oper} {r : List Oper} {K : St → Prop} {d : Nat} {Q : Ex → St → Prop}
theorem jJ{b:Bool}(h:dZ ops o nt f=some b):iq ops (aT (tab nt f)) o=some b:=by
 obtain⟨g,g1,g2⟩:=eN h;unfold gOf at g1;unfold iq
 cases ho:o.guard with
 |none=>rw [ho]at g1;simp only [zsI]at g1;subst g1;exact g2
 |some p=>
  obtain⟨j,w⟩:=p;rw [ho]at g1;simp only [Option.map_eq_some_iff]at g1;obtain⟨d,h1,h2⟩:=g1;subst h2;rw [zbE]at h1;obtain⟨o',h3,h4⟩:=h1;have h3':ops[j]? =some o':=by simpa using h3
  simp only [h3',h4,zbB,zbS];exact g2
theorem sB{cp:dE}{c:Call}{nid:Nat}{H:Heap}(hw:dZ ops o nt f=some true)(hc:br o.op=some c):step E cp ops nid o (aT (tab nt f)) H=jx cp nid c (aT (tab nt f)) H:=by
 unfold step;rw [jJ hw];simp only [zbB,zbS,if_true,hc]
theorem wq{c:Call}{k:FuncId}{args:List D}{fi:FI}(hw:dZ ops o nt f=some true)(hc:br o.op=some c)(hr:bI c (ov nt f)=some (k,args))(hu:args.any unv=true)(hf:E.fn k=some fi)(hl:Nat.ble args.length fi.nt=true)(hd:o.dst=some d)(hn:Nat.blt d nt=true)
  (h:WpL E nY n fi.nt fi.body (Lo E y (n+1) nt ops r K f d fi.results) (fA args) L):eO E y (n+1) nt ops (o::r) K f L:=λH hb=>by
 obtain⟨e,s',⟨M,h1⟩,h2,ds,h3,h4⟩:=h H hb;refine py (s1:={t:=tab nt (up f d (iR ds)),h:=s'.h}) ⟨M,λm hm=> ?_⟩ h4;unfold FN
 have hs:step E (ba E y m (n+1)).1 ops H.length o (aT (tab nt f)) H=none:=by
  rw [sB hw hc];unfold jx;rw [eV,hr];simp only [zbB,zbS,Rx hu];rfl
 simp only;rw [hs];have hev:=h1 m hm
 have hsc:tc (ba E y m (n+1)).2 ops o {t:=tab nt f,h:=H}=some {t:=tab nt (up f d (iR ds)),h:=s'.h}:=by
  unfold tc;rw [jJ hw];simp only [zbB,zbS,if_true,hc]
  have hr':bI c (opnd (tab nt f))=some (k,args):=by
   show bI c (aP (aT (tab nt f)))=_;rw [eV];exact hr
  rw [hr']
  have hcall:(ba E y m (n+1)).2.f k args H=some (iR ds,s'.h):=by
   show((E.fn k).bind λf=>(qI E (aM E m n).1 ⟨(aM E m n).2.1,(aM E m n).2.2,noY⟩ m f args H).bind λx=>some (iR x.1,x.2))=_;rw [hf];simp only [zbS]
   have:qI E (aM E m n).1 ⟨(aM E m n).2.1,(aM E m n).2.2,noY⟩ m fi args H=some (ds,s'.h):=by
    unfold qI;rw [Id (Nat.le_of_ble_eq_true hl)];simp only [ba]at hev;rw [hev];rcases h2 with rfl|rfl<;>simp [h3]
   rw [this];rfl
  simp only [zbS,hcall,hd,oA,mr,fB hn,if_true,qd,jF]
 rw [hsc];rfl
theorem kJ{c:Call}{k:FuncId}{args:List D}{fi:FI}(hw:dZ ops o nt f=some true)(hc:br o.op=some c)(hr:bI c (ov nt f)=some (k,args))(hu:E.ax k=some λ_=>none)(hf:E.fn k=some fi)(hl:Nat.ble args.length fi.nt=true)(hd:o.dst=some d)(hn:Nat.blt d nt=true)
  (h:WpL E nY n fi.nt fi.body (Lo E y (n+1) nt ops r K f d fi.results) (fA args) L):eO E y (n+1) nt ops (o::r) K f L:=λH hb=>by
 obtain⟨e,s',⟨M,h1⟩,h2,ds,h3,h4⟩:=h H hb;refine py (s1:={t:=tab nt (up f d (iR ds)),h:=s'.h}) ⟨M,λm hm=> ?_⟩ h4;unfold FN
 have hs:step E (ba E y m (n+1)).1 ops H.length o (aT (tab nt f)) H=none:=by
  rw [sB hw hc];unfold jx;rw [eV,hr];simp only [zbB,zbS]
  cases args.mapM (cU H)with
  |none=>rfl
  |some vs=>
   have hn:(ba E y m (n+1)).1 k (vs.map (·.2))=none:=by
    show(match E.ax k with
     |some F=>F _
     |none=>_)=none
    rw [hu]
   simp only [zbS,hn];rfl
 simp only;rw [hs];have hev:=h1 m hm
 have hsc:tc (ba E y m (n+1)).2 ops o {t:=tab nt f,h:=H}=some {t:=tab nt (up f d (iR ds)),h:=s'.h}:=by
  unfold tc;rw [jJ hw];simp only [zbB,zbS,if_true,hc]
  have hr':bI c (opnd (tab nt f))=some (k,args):=by
   show bI c (aP (aT (tab nt f)))=_;rw [eV];exact hr
  rw [hr']
  have hcall:(ba E y m (n+1)).2.f k args H=some (iR ds,s'.h):=by
   show((E.fn k).bind λf=>(qI E (aM E m n).1 ⟨(aM E m n).2.1,(aM E m n).2.2,noY⟩ m f args H).bind λx=>some (iR x.1,x.2))=_;rw [hf];simp only [zbS]
   have:qI E (aM E m n).1 ⟨(aM E m n).2.1,(aM E m n).2.2,noY⟩ m fi args H=some (ds,s'.h):=by
    unfold qI;rw [Id (Nat.le_of_ble_eq_true hl)];simp only [ba]at hev;rw [hev];rcases h2 with rfl|rfl<;>simp [h3]
   rw [this];rfl
  simp only [zbS,hcall,hd,oA,mr,fB hn,if_true,qd,jF]
 rw [hsc];rfl
theorem kK{nt':Nat}{f':Nat->D}{L':BL}{rv:List ResultVar}{ds:List D}{e:Ex}{v:D}(he:e= .normal∨e= .ret)(hr:Ea E nt' f' L' rv ds)(hv:iR ds=v)(h:eO E y n nt ops r K (up f d v) L'):ew nt' (Lo E y n nt ops r K f d rv) e f' L':=λH hb=>by
 subst hv;exact⟨he,ds,hr H hb,h H hb⟩
def lW(E:Env)(y:Nat->fP)(n k:Nat)(t:List D)(ps:List Tmp)(asg body:Code):Nat->fP:=λm j args h=>
 if j=k/\args.length=ps.length then do
  let(e,s1)<-evC E (ba E y m n).1 (ba E y m n).2 m asg {t:=mG t ps args,h:=h}
  match e with
  | .normal=>do
   let(e,s2)<-evC E (ba E y m n).1 (ba E y m n).2 m body s1
   some (e,s2.h)
  |_=>none
 else none
def Wh(nt:Nat)(f:Nat->D)(k:Nat)(Q:Ex->St->Prop):Ex->St->Prop:=λe s=>(e= .normal∨e= .ret)/\∃es,aE s.h k=some (0,es)/\Q (FO es) {t:=tab nt f,h:=s.h}
theorem sD{g:Operand}{ps:Array Tmp}{asg body:Code}{k:FuncId}{fs cs:List C}{fi:FI}(hg:ov nt f g=some (.one (.clo (.func k) fs cs)))(hf:E.fn k=some fi)(hl:Nat.ble (fs.length+1+cs.length) fi.nt=true)(hres:fi.results= [])
  (h:∀kl,WpL E (lW E y (n+1) kl (tab nt f) ps.toList asg body) n fi.nt fi.body (Wh nt f kl Q) (fA (fs.map D.one++ [D.one (.yld kl)]++cs.map D.one)) ([(kl,0,[])]::L)):WpL E y (n+1) nt (.rangeFunc g ps asg body) Q f L:=λH hb=>by
 obtain⟨e,s',⟨M,h1⟩,h2,es,h3,h4⟩:=h H.length _ (hb.new 0 []);refine⟨FO es,{t:=tab nt f,h:=s'.h},⟨M,λm hm=> ?_⟩,h4⟩;have hev:=h1 m hm;have hg':opnd (tab nt f) g=some (.one (.clo (.func k) fs cs)):=(cj nt f g).trans hg;simp only [evC,zbB,hg',zbS]
 have hcall:(ba E y m (n+1)).2.r (lW E y (n+1) H.length (tab nt f) ps.toList asg body m) k (fs.map D.one++ [D.one (.yld H.length)]++cs.map D.one) (aF H H.length (.own 0 []))=some s'.h:=by
  show((E.fn k).bind λf=>(qI E (aM E m n).1 ⟨(aM E m n).2.1,(aM E m n).2.2,lW E y (n+1) H.length (tab nt _) ps.toList asg body m⟩ m f _ _).bind λx=>some x.2)=_;rw [hf];simp only [zbS]
  have:qI E (aM E m n).1 ⟨(aM E m n).2.1,(aM E m n).2.2,lW E y (n+1) H.length (tab nt f) ps.toList asg body m⟩ m fi (fs.map D.one++ [D.one (.yld H.length)]++cs.map D.one) (aF H H.length (.own 0 []))=some ([],s'.h):=by
   unfold qI;rw [Id (by have:=Nat.le_of_ble_eq_true hl;simp;omega)];simp only [ba]at hev;rw [hev,hres];rcases h2 with rfl|rfl<;>rfl
  rw [this];rfl
 refine(congrArg (λz:Option Heap=>z.bind λh=>(aE h H.length).bind λx=>if x.1=0 then some (FO x.2,({t:=tab nt f,h:=h}:St))else none) hcall).trans ?_;simp only [zbS,h3,if_true]
theorem qj{nt' k p:Nat}{f':Nat->D}{L':BL}{es:List (List C)}{e:Ex}(he:e= .normal∨e= .ret)(hp:L'[p]? =some [(k,0,es)])(h:ew nt Q (FO es) f L'):ew nt' (Wh nt f k Q) e f' L':=λH hb=>⟨he,es,hb.get hp,h H hb⟩
def aa7(K:St->Prop):Ex->St->Prop:=λe s=>e= .normal/\K s
def NR(E:Env)(y:Nat->fP)(n nt:Nat)(ops:Array Oper)(r:List Oper)(K:St->Prop)(f:Nat->D)(d k:Nat):Ex->St->Prop:=λe s=>kG E y n ops r K {t:=tab nt (up f d (bD (e== .normal))),h:=aF s.h k (nW e)}
def NS(f:Nat->D):List Tmp->List D->Nat->D
 |p::ps,d::ds=>NS (up f p d) ps ds
 |_,_=>f
theorem Wi(f:Nat->D)(p:Nat)(d:D):(tab nt f).set p d=tab nt (up f p d):=by
 rw [<-jF];refine List.ext_getElem? λi=> ?_;rw [List.getElem?_set,kX,kX,mr];unfold upd;by_cases h1:p=i
 .subst h1;by_cases h2:p<nt
  .simp [h2]
  .simp [h2]
 .rw [if_neg h1];split
  .rw [if_neg (λe:i=p=>h1 e.symm)]
  .rfl
theorem Fd:∀(ps:List Tmp) (ds:List D) (f:Nat->D),mG (tab nt f) ps ds=tab nt (NS f ps ds)
 | [],[],f=>by simp [mG,NS]
 | [],d::ds,f=>by simp [mG,NS]
 |p::ps,[],f=>by simp [mG,NS]
 |p::ps,d::ds,f=>by
  simp only [mG,NS];rw [Wi,Fd]
def ach(nt:Nat)(f:Nat->D)(l:List Operand):Option (List D):=l.mapM (ov nt f)
theorem nf{y0:Nat->fP}{n0 nt0 k p:Nat}{f0:Nat->D}{ps:List Tmp}{asg body:Code}{c:Call}{x:Operand}{args:List D}(hw:dZ ops o nt f=some true)(hc:br o.op=some c)(hcal:c.callee= .value x)(hx:ov nt f x=some (.one (.yld k)))(ha:ach nt f c.args.toList=some args)(hla:Nat.beq args.length ps.length=true)(hp:L[p]? =some [(k,0,[])])(hd:o.dst=some d)(hn:Nat.blt d nt=true)
  (h:WpL E y0 n0 nt0 asg (aa7 (WpC E y0 n0 body (NR E (lW E y0 n0 k (tab nt0 f0) ps asg body) n nt ops r K f d k))) (NS f0 ps args) L):eO E (lW E y0 n0 k (tab nt0 f0) ps asg body) n nt ops (o::r) K f L:=λH hb=>by
 obtain⟨e1,s1,⟨M1,h1⟩,rfl,e2,s2,⟨M2,h2⟩,h3⟩:=h H hb;refine py (s1:={t:=tab nt (up f d (bD (e2== .normal))),h:=aF s2.h k (nW e2)}) ⟨max M1 M2,λm hm=> ?_⟩ h3
 have hres:bI c (aP (aT (tab nt f)))=none:=by
  rw [eV];unfold bI;rw [hcal];have ha':c.args.toList.mapM (ov nt f)=some args:=ha;simp only [ha',hx,zbB,zbS]
 unfold FN
 have hs:step E (ba E (lW E y0 n0 k (tab nt0 f0) ps asg body) m n).1 ops H.length o (aT (tab nt f)) H=none:=by
  rw [sB hw hc];unfold jx;rw [hres];rfl
 simp only;rw [hs]
 have hsc:tc (ba E (lW E y0 n0 k (tab nt0 f0) ps asg body) m n).2 ops o {t:=tab nt f,h:=H}=none:=by
  unfold tc;rw [jJ hw];simp only [zbB,zbS,if_true,hc];have hr':bI c (opnd (tab nt f))=none:=hres;rw [hr'];rfl
 have hy:Oq (ba E (lW E y0 n0 k (tab nt0 f0) ps asg body) m n).2 ops o {t:=tab nt f,h:=H}=some {t:=tab nt (up f d (bD (e2== .normal))),h:=aF s2.h k (nW e2)}:=by
  unfold Oq;rw [jJ hw];simp only [zbB,zbS,if_true,hc,hcal]
  have ha':c.args.toList.mapM (opnd (tab nt f))=some args:=by
   show c.args.toList.mapM (aP (aT (tab nt f)))=_;rw [eV];exact ha
  have hx':opnd (tab nt f) x=some (.one (.yld k)):=(cj nt f x).trans hx;rw [ha',hx'];simp only [zbS,hb.get hp,and_self,if_true]
  have hround:(ba E (lW E y0 n0 k (tab nt0 f0) ps asg body) m n).2.y k args H=some (e2,s2.h):=by
   show lW E y0 n0 k (tab nt0 f0) ps asg body m k args H=_;unfold lW;rw [if_pos ⟨rfl,Nat.eq_of_beq_eq_true hla⟩,Fd,h1 m (by omega)];simp only [zbB,zbS];rw [h2 m (by omega)];rfl
  rw [hround];simp only [zbS,hd,oA,mr,fB hn,if_true,qd,jF];rfl
 rw [hsc,hy];rfl
theorem Cm{c:Code}(h:WpL E y n nt c Q f L):ew nt (aa7 (WpC E y n c Q)) .normal f L:=λH hb=>⟨rfl,h H hb⟩
theorem NT{h:Heap}{k sz:Nat}{es:List (List C)}(hk:aE h k=some (sz,es)):h[k]? =some (.own sz es):=cN hk
theorem lC{nt' k p:Nat}{f':Nat->D}(hp:L[p]? =some [(k,0,[])])(h:eO E y n nt ops r K (up f d (bD true)) L):ew nt' (NR E y n nt ops r K f d k) .normal f' L:=λH hb=>by
 have:=BO (NT (hb.get hp))
 show kG E y n ops r K {t:=_,h:=aF H k (.own 0 [])};rw [this];exact h H hb
theorem Wj{nt' k p:Nat}{f':Nat->D}{e:Ex}{es:List (List C)}{L':BL}(he:(e== .normal)=false)(hes:List.replicate (xR e) []=es)(hp:L[p]? =some [(k,0,[])])(hL:L.set p [(k,0,es)]=L')(h:eO E y n nt ops r K (up f d (bD false)) L'):ew nt' (NR E y n nt ops r K f d k) e f' L:=λH hb=>by
 subst hes hL;show kG E y n ops r K {t:=tab nt (up f d (bD (e== .normal))),h:=aF H k (.own 0 _)};rw [he];exact h _ (hb.set hp 0 _)
end
theorem ay{k b j:Nat}(h:k<b):k≠b+j:=by omega
theorem qk{b i j:Nat}(h:Nat.beq i j=false):b+i≠b+j:=by have:=Nat.ne_of_beq_eq_false h;omega
theorem fY{k:Nat}:k ∉([]:List Nat):=by simp
theorem dA{k m:Nat}{l:List Nat}(h1:k≠m)(h2:k ∉ l):k ∉ m::l:=λh=>by
 rcases List.mem_cons.1 h with h|h
 .exact h1 h
 .exact h2 h
theorem al{b:Nat}:∀k∈([]:List Nat),k<b:=λk h=>by simp at h
theorem ko{b m:Nat}{l:List Nat}(h1:m<b)(h2:∀k∈l,k<b):∀k∈m::l,k<b:=λk h=>by
 rcases List.mem_cons.1 h with h|h
 .subst h;exact h1
 .exact h2 k h
theorem gI{b:Nat}:∀l∈([]:List (List Nat)),∀k∈l,k<b:=λk h=>by simp at h
theorem ah{b:Nat}{a:List Nat}{O:List (List Nat)}(h1:∀k∈a,k<b)(h2:∀l∈O,∀k∈l,k<b):∀l∈a::O,∀k∈l,k<b:=λl h=>by
 rcases List.mem_cons.1 h with h|h
 .subst h;exact h1
 .exact h2 l h
theorem djE{O:List (List Nat)}{r:List Nat}:∀j∈r,∀x∈([]:List Nat),x ∉ O.getD j []:=λc _ x h=>by simp at h
theorem djN{O:List (List Nat)}{a:List Nat}:∀j∈([]:List Nat),∀x∈a,x ∉ O.getD j []:=λc h=>by simp at h
section
variable {X Up KT : Type} {nt : Nat}
def JE(nt:Nat)(ex:Ex)(S:X->KT->(Nat->D)->Nat->D)(SL:X->KT->BL)(J:Up->Ex->St->Prop):X ⊕ Up->Ex->St->Prop
 | .inl x,e,s=>e=ex/\∃k g,s.t=tab nt (S x k g)/\HB s.h (SL x k)
 | .inr u,e,s=>J u e s
def JU(G:Up->Ex->St->Prop):Up->Ex->St->Prop:=λu e s=>e= .ret/\G u .ret s
variable {ex : Ex} {S : X → KT → (Nat → D) → Nat → D} {SL : X → KT → BL} {J : Up → Ex → St → Prop} {G : Up → Ex → St → Prop}
theorem Zp(h:(ex== .normal)=false)(hJ:∀r s,¬J r .normal s):∀r s,¬JE nt ex S SL J r .normal s:=λr s hh=>by
 cases r with
 |inl x=>rw [<-hh.1]at h;simp at h
 |inr u=>exact hJ u s hh
theorem afb:∀r s,¬JU G r .normal s:=λr s h=>absurd h.1 (by simp)
theorem Zq{x:X}{f:Nat->D}{L:BL}(k:KT)(hf:f=S x k f)(is:List Nat)(hn:is.Nodup)(hL:is.filterMap (λi=>L[i]?)=SL x k):ew nt (JE nt ex S SL J (.inl x)) ex f L:=λH hb=>⟨rfl,k,f,congrArg (tab nt) hf,hb.sub is hn hL⟩
theorem afc{u:Up}{e:Ex}{f:Nat->D}{L:BL}(h:ew nt (J u) e f L):ew nt (JE nt ex S SL J (.inr u)) e f L:=h
theorem J_e{x:X}{Q:Ex->St->Prop}(h:∀k g,ew nt Q ex (S x k g) (SL x k)):∀e s,JE nt ex S SL J (.inl x) e s->Q e s:=λe s hs=>by
 obtain⟨rfl,k,g,h1,h2⟩:=hs;obtain⟨t,H⟩:=s;simp only at h1 h2;subst h1;exact h k g H h2
theorem J_s{u:Up}{Q:Ex->St->Prop}(h:∀e s,J u e s->Q e s):∀e s,JE nt ex S SL J (.inr u) e s->Q e s:=h
end
end Ev
end
noncomputable section
namespace Ev
open Go Go.ChangeShapes Go.WideShapes Go.ChangeAt Go.WideMaps Go.WideElems Go.RowKit Go.Joins
theorem agK:ownKnob Tryz.prog.godebug=none:=by kernel_rfl
theorem Wk:laidOutB Tryz.prog=true:=by kernel_rfl
theorem gTab:Tryz.prog.globalNamed "math/bits.deBruijn64tab" =some 0:=by kernel_rfl
theorem tTab:(Tryz.prog.globals[0]?).map (·.type)=some 166:=by kernel_rfl
theorem afd:Tryz.prog.cellsOf 5=1:=by kernel_rfl
theorem agL:Tryz.prog.cellsOf 166=64:=by kernel_rfl
abbrev Lp{H:Type}:List (String×DataW H):= [("math/bits.deBruijn64tab",Rows.laid_math_bits_deBruijn64tab)]
theorem Wl(os:Os)(args:Array Value):laidMetH Tryz.prog Lp ((World.doorLaid Tryz.prog 400 os).forCall (λ_ _=>0) ⟨#[],args,[]⟩).memory:=
 laidMetH_of_parts3 (fuel:=8) (laidMet_of_run' 8 (by kernel_rfl) (by kernel_rfl)) (by kernel_rfl) (by kernel_rfl)
def Cn{H:Type}:List (DataW H):=Lib.deBruijn64tab.map λn=> .lit (.int .u8 (n:Nat))
theorem Zr{H:Type}:(Rows.laid_math_bits_deBruijn64tab:DataW H)= .agg Cn:=rfl
theorem yQ{W:World}(h:laidMetH Tryz.prog Lp W):aag W:=by
 rw [MakeChecks.laidMetH_plain _ _ _ (by kernel_rfl)]at h;obtain⟨ps,⟨g0,t0,cs0,f0,p0,q0,hg0,ht0,hv0,hd0,_,_⟩,_,_⟩:=h;obtain rfl:=Option.some.inj (gTab.symm.trans hg0);obtain rfl:=Option.some.inj (tTab.symm.trans ht0);obtain⟨xs,m,_,hx,hlen,hxl,hel⟩:=DataW.trod_array Tryz.underlying166 hd0;rw [agL]at hlen;have hx1:=(Prod.mk.inj hx).1;rw [Zr]at hx1;have hx2:Cn=xs.map (·.1):=by injection hx1
 have cell:=λk=>World.var?_cell hg0 hv0 k;have hsz:cs0.size=64:=by simpa using hlen
 have key:∀j,j<64->cs0[j]? =some (.int .u8 (Lib.deBruijn64tab.getD j 0:Nat)):=by
  intro j hj;have hj':xs[j]? =some (xs[j]'(by omega)):=List.getElem?_eq_getElem (by omega);have h1:=hel j hj;rw [afd,hj']at h1
  have hcs:(cs0.toList.drop (j*1)).take 1= [cs0[j]'(by omega)]:=by
   rw [Nat.mul_one,List.drop_eq_getElem_cons (by simp;omega)];simp
  rw [hcs]at h1;obtain⟨a,e1,e2,_⟩:=DataW.trod_int Tryz.underlying5 h1;have h3:(Cn (H:=Unit))[j]? =some ((xs[j]'(by omega)).1):=by rw [hx2,List.getElem?_map,hj'];rfl
  rw [e2]at h3
  have h4:(Cn (H:=Unit))[j]? =some (.lit (.int .u8 (Lib.deBruijn64tab.getD j 0:Nat))):=by
   have hl:Lib.deBruijn64tab.length=64:=rfl;unfold Cn;rw [List.getElem?_map,List.getElem?_eq_getElem (by rw [hl];exact hj),List.getD_eq_getElem?_getD,List.getElem?_eq_getElem (by rw [hl];exact hj)];rfl
  rw [h3]at h4
  have h5:a=(Lib.deBruijn64tab.getD j 0:Nat):=by
   injection h4 with h4
   injection h4 with h4
   injection h4
  rw [Array.getElem?_eq_getElem (by omega)];simp only [List.cons.injEq,and_true]at e1;rw [e1,h5]
 have hl:Lib.deBruijn64tab.length=64:=rfl
 have c0:∀j,j<Lib.deBruijn64tab.length->W.cell? ⟨0,j,none⟩=some (.int .u8 (Lib.deBruijn64tab.getD j 0:Nat)):=λj hj=>by
  rw [hl]at hj
  have:=cell j
  rw [this];exact key j hj
 exact⟨block_lt_of_cell (c0 0 (by rw [hl];decide)),c0⟩
end Ev
end
end Go.Proofs.YtjjbpdldbdmoeaaGreatDoor
