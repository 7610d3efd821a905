/- Texts of a claim, joined. -/
import Derived.Test.YthkgcllekhnecaaZS4
import Derived.Laws.StructEq
set_option linter.unusedVariables false
set_option linter.unusedSimpArgs false
namespace Go.Proofs.Ythkgcllekhnecaa
noncomputable section
namespace Ev
open Go Go.RowKit
section
variable {E : Env} {y : Nat → dI} {n nt : Nat} {f : Nat → D} {L : BL}
theorem rR{x:Operand}{v:D}(hx:ov nt f x=some v):PS E n nt f L (.move x) v:=fun h nid hb=>by
 rw [Lf,bk,hx];rfl
theorem ky{x:Operand}{v:D}(hx:ov nt f x=some v):PS E n nt f L (.assign x) v:=fun h nid hb=>by
 rw [Lg,bk,hx];rfl
theorem cG{op:BinOp}{ty sh:TypeId}{x y:Operand}{fa fb:Bool}{ka kb:IntKind}{a b:Int}{v:Value}(hx:ov nt f x=some (.one (.p fa (.v (.int ka a)))))(hy:ov nt f y=some (.one (.p fb (.v (.int kb b)))))
  (hp:am E.P (do eqGuard op ty x y (.int ka a) (.int kb b);binOp op ty (.int ka a) (.int kb b))=some v) (h1:one1 v=true):PS E n nt f L (.binOp op ty x y sh) (mk v):=fun h nid hb=>by
 rw [Ei,bk,hx,bk,hy];refine Eq.trans (b:=sQ E.P E.ti op ty x y (.one (.p fa (.v (.int ka a)))) (.one (.p fb (.v (.int kb b))))) rfl ?_;rw [Pz,hp];show mkO v=_;unfold mkO;rw [if_pos h1]
theorem No{P:Program}{ti:TypeId→Option TI}{op:BinOp}{ty:TypeId}{x y:Operand}{fr fr':Bool}{a b:Bool}:
  sQ P ti op ty x y (.one (.p fr (.v (.bool a)))) (.one (.p fr' (.v (.bool b))))=(am P (do eqGuard op ty x y (.bool a) (.bool b);binOp op ty (.bool a) (.bool b))).bind mkO:=rfl
theorem Ll{op:BinOp}{ty sh:TypeId}{x y:Operand}{fa fb:Bool}{a b:Bool}{v:Value}(hx:ov nt f x=some (.one (.p fa (.v (.bool a)))))(hy:ov nt f y=some (.one (.p fb (.v (.bool b)))))
  (hp:am E.P (do eqGuard op ty x y (.bool a) (.bool b);binOp op ty (.bool a) (.bool b))=some v) (h1:one1 v=true):PS E n nt f L (.binOp op ty x y sh) (mk v):=fun h nid hb=>by
 rw [Ei,bk,hx,bk,hy];refine Eq.trans (b:=sQ E.P E.ti op ty x y (.one (.p fa (.v (.bool a)))) (.one (.p fb (.v (.bool b))))) rfl ?_;rw [No,hp];show mkO v=_;unfold mkO;rw [if_pos h1]
theorem PJ{P:Program}{ti:TypeId→Option TI}{op:BinOp}{ty:TypeId}{x y:Operand}{a b:List C}:sQ P ti op ty x y (.agg a) (.agg b)=(plain (.agg a)).bind fun va=>(plain (.agg b)).bind fun vb=>(am P (do eqGuard op ty x y va vb;binOp op ty va vb)).bind mkO:=rfl
theorem Lm{op:BinOp}{ty sh:TypeId}{x y:Operand}{a b:List C}{va vb v:Value}(hx:ov nt f x=some (.agg a))(hy:ov nt f y=some (.agg b))(ha:plain (.agg a)=some va)(hb':plain (.agg b)=some vb)
  (hp:am E.P (do eqGuard op ty x y va vb;binOp op ty va vb)=some v) (h1:one1 v=true):PS E n nt f L (.binOp op ty x y sh) (mk v):=fun h nid hb=>by
 rw [Ei,bk,hx,bk,hy];refine Eq.trans (b:=sQ E.P E.ti op ty x y (.agg a) (.agg b)) rfl ?_;rw [PJ,ha,hb'];simp only [zbS];rw [hp];show mkO v=_;unfold mkO;rw [if_pos h1]
theorem Ln{ty:TypeId}{x:Operand}{fr b:Bool}(hx:ov nt f x=some (.one (.p fr (.v (.bool b))))):PS E n nt f L (.unOp .not ty x) (bD (!b)):=fun h nid hb=>by
 show((ar (ay (tab nt f)) x).bind fun d=>(plain d).bind fun v=>(am E.P (Op.unary .not v)).bind mkO)=_;rw [bk,hx];rfl
theorem RY{ty:TypeId}{x:Operand}{fr:Bool}{k:IntKind}{a:Int}(hx:ov nt f x=some (.one (.p fr (.v (.int k a))))):PS E n nt f L (.unOp .neg ty x) (iD k (k.wrap (0 - a))):=fun h nid hb=>by
 show((ar (ay (tab nt f)) x).bind fun d=>(plain d).bind fun v=>(am E.P (Op.unary .neg v)).bind mkO)=_;rw [bk,hx];rfl
theorem PK{src dst:TypeId}{x:Operand}{fr:Bool}{k:IntKind}{a:Int}{v:Value}(hx:ov nt f x=some (.one (.p fr (.v (.int k a)))))(hp:am E.P (Go.convert src dst (.int k a))=some v)(h1:one1 v=true):PS E n nt f L (.convert src dst x) (mk v):=fun h nid hb=>by
 show((ar (ay (tab nt f)) x).bind fun d=>(plain d).bind fun v=>match v with
  | .int .. =>(am E.P (Go.convert src dst v)).bind mkO
  |_=>none)=_
 rw [bk,hx];show(am E.P (Go.convert src dst (.int k a))).bind mkO=_;rw [hp];show mkO v=_;unfold mkO;rw [if_pos h1]
theorem aW{ty:TypeId}{x:Operand}{m k i j off sz:Nat}{ag:Bool}(hx:ov nt f x=some (.one (.ptr k i j)))(ht:fieldAt E.ti ty m=some (off,sz,ag))(hz:Nat.beq sz 0=false):PS E n nt f L (.fieldAddr ty x m) (.one (.ptr k i (j+off))):=fun h nid hb=>by
 rw [Hs,bk,hx,ht];show(if sz=0 then none else _)=_;rw [if_neg (Nat.ne_of_beq_eq_false hz)]
theorem Lo{ty:TypeId}{x:Operand}{m i j off sz s:Nat}{fr:Bool}{l:List (List T)}{ag:Bool}(hx:ov nt f x=some (.one (.iptr fr s l i j)))(ht:fieldAt E.ti ty m=some (off,sz,ag))(hz:Nat.beq sz 0=false):PS E n nt f L (.fieldAddr ty x m) (.one (.iptr fr s l i (j+off))):=fun h nid hb=>by
 rw [Hs,bk,hx,ht];show(if sz=0 then none else _)=_;rw [if_neg (Nat.ne_of_beq_eq_false hz)]
theorem Lp{ty:TypeId}{x:Operand}{m off sz:Nat}{cs c2:List C}{ag:Bool}{v:D}(hx:ov nt f x=some (.agg cs))(ht:fieldAt E.ti ty m=some (off,sz,ag))(hc:cut cs off (cond ag sz 1)=some c2)(hv:bW ag c2=some v):PS E n nt f L (.field ty x m) v:=fun h nid hb=>by
 show((E.ti ty).bind fun t=>(gE t m).bind fun fd=>(E.ti fd.type).bind fun ft=>(ar (ay (tab nt f)) x).bind fun d=>match d with
  | .agg cs=>(cut cs fd.offset (if aH ft.desc then ft.size else 1)).bind fun c=>(bW (aH ft.desc) c).bind fun v=>some (⟨v,[]⟩:Eff)
  |_=>none)=_
 unfold fieldAt at ht;simp only [zbE,zsI,Prod.mk.injEq]at ht;obtain⟨t,h1,fd,h2,ft,h3,rfl,rfl,rfl⟩:=ht;rw [h1,bk,hx];simp only [zbS,h2,h3]
 have hc':cut cs fd.offset (if aH ft.desc then ft.size else 1)=some c2:=by
  rw [←hc];cases aH ft.desc<;>rfl
 rw [hc'];simp only [zbS,hv]
theorem Cm{α:Type}(b:Bool)(x y:α):(if b=true then x else y)=cond b x y:=by cases b<;>rfl
theorem bJ{ty:TypeId}{x:Operand}{k i j sz bz:Nat}{ag:Bool}{es:List (List C)}{e cs:List C}{v:D}(p:Nat)(hx:ov nt f x=some (.one (.ptr k i j)))(hz:fE E.ti ty=some (sz,ag))(hp:L[p]? =some [(k,bz,es)])(he:es[i]? =some e)(hc:cut e j (cond ag sz 1)=some cs)(hv:bW ag cs=some v):PS E n nt f L (.load ty x) v:=fun h nid hb=>by
 rw [Lh,bk,hx,hz];show Ci (kOf ag (FY j (if ag then sz else 1) (Py i (an h k))))=_;rw [hb.get hp,Cm];show Ci (kOf ag (FY j (cond ag sz 1) es[i]?))=_;rw [he];show Ci (kOf ag (cut e j (cond ag sz 1)))=_;rw [hc];show Ci (bW ag cs)=_;rw [hv];rfl
theorem Hy{ty:TypeId}{x:Operand}{i j sz s:Nat}{fr ag:Bool}{l:List (List T)}{e:List T}{cs:List C}{v:D}(hx:ov nt f x=some (.one (.iptr fr s l i j)))(hz:fE E.ti ty=some (sz,ag))(he:l[i]? =some e)(hc:cut (e.map (pC fr)) j (cond ag sz 1)=some cs)(hv:bW ag cs=some v):PS E n nt f L (.load ty x) v:=fun h nid hb=>by
 rw [Lh,bk,hx,hz];show Ci (kOf ag (FY j (if ag then sz else 1) (kIn fr l[i]?)))=_;rw [he,Cm];show Ci (kOf ag (cut (e.map (pC fr)) j (cond ag sz 1)))=_;rw [hc];show Ci (bW ag cs)=_;rw [hv];rfl
theorem dC{ty:TypeId}{a x:Operand}{k i j sz bz:Nat}{ag:Bool}{es es':List (List C)}{e e' cs:List C}{v:D}(p:Nat)(ha:ov nt f a=some (.one (.ptr k i j)))(hx:ov nt f x=some v)(hd:fu v=some cs)(hz:fE E.ti ty=some (sz,ag))(hs:Nat.beq cs.length sz=true)(hp:L[p]? =some [(k,bz,es)])(he:es[i]? =some e)(ht:patch e j cs=some e')(hes:es.set i e'=es'):PW E n nt f L (.store ty a x) bE p k bz es':=⟨⟨_,hp⟩,fun h nid hb=>by
 rw [Nj,bk,ha,bk,hx,hz];show Ni k i j sz (fu v) (an h k)=_;rw [hd,hb.get hp];show(if cs.length=sz then Ld k i bz es (FZ j cs es[i]?)else none)=_;rw [if_pos (Nat.eq_of_beq_eq_true hs),he];show Ld k i bz es (patch e j cs)=_;rw [ht];subst hes
 rfl⟩
theorem uz{ty:TypeId}{t:TI}{row:List C}{sz:Nat}(ht:E.ti ty=some t)(hr:im t=row)(hs:t.size=sz):PN E n nt f L (.alloc ty) (fun k=> .one (.ptr k 0 0)) sz [row]:=fun h nid hb=>by
 show((E.ti ty).bind fun t=>some (⟨.one (.ptr nid 0 0),[(nid,.own t.size [im t])]⟩:Eff))=_;rw [ht];subst hr hs;rfl
theorem RZ{ty:TypeId}{x:Operand}{t:TI}{d:D}{cs:List C}{sz:Nat}(ht:E.ti ty=some t)(hx:ov nt f x=some d)(hc:fu d=some cs)(hs:cs.length=sz):PN E n nt f L (.box ty x) (fun k=> .one (.ptr k 0 0)) sz [cs]:=fun h nid hb=>by
 show((E.ti ty).bind fun t=>(ar (ay (tab nt f)) x).bind fun d=>(fu d).bind fun cs=>some (⟨.one (.ptr nid 0 0),[(nid,.own cs.length [cs])]⟩:Eff))=_;rw [ht,bk,hx];simp only [zbS,hc];subst hs;rfl
def uA(nt:Nat)(f:Nat→D)(l:List (Nat×Operand)):Option (List (Nat×D)):=l.mapM fun((i,x):Nat×Operand)=>(ov nt f x).map fun d=>(i,d)
theorem uB{ty:TypeId}{parts:Array (Nat×Operand)}{t:TI}{ps:List (Nat×D)}{pl:Nat→Option (Nat×Nat)}{cs:List C}(ht:E.ti ty=some t)(hps:uA nt f parts.toList=some ps)(hpl:lK E.ti t=some pl)(hf:fill pl (im t) ps=some cs):PS E n nt f L (.build ty parts) (.agg cs):=fun h nid hb=>by
 show((E.ti ty).bind fun t=>(parts.toList.mapM fun((i,x):Nat×Operand)=>(ar (ay (tab nt f)) x).map fun d=>(i,d)).bind fun ps=>(lK E.ti t).bind fun pl=>(fill pl (im t) ps).bind fun cs=>some (⟨.agg cs,[]⟩:Eff))=_;rw [ht,ez];simp only [zbS];have h1:(parts.toList.mapM fun((i,x):Nat×Operand)=>(ov nt f x).map fun d=>(i,d))=some ps:=hps;simp only [h1,zbS,hpl,hf]
theorem eB{ti:TypeId→Option TI}{ty z:Nat}(h:cU ti ty=some z):∃t e te,ti ty=some t∧aL t=some e∧ti e=some te∧te.size=z:=by
 unfold cU at h;simp only [zbE,zsI]at h;obtain⟨t,h1,e,h2,te,h3,h4⟩:=h;exact⟨t,e,te,h1,h2,h3,h4⟩
theorem Lr{ty ety:TypeId}{len z:Nat}{parts:Array (Nat×Operand)}{t te:TI}{ps:List (Nat×D)}{cs:List C}{es:List (List C)}(ht:E.ti ty=some t)(he:aL t=some ety)(hte:E.ti ety=some te)(hz:te.size=z)(hps:uA nt f parts.toList=some ps)(hf:fill (fun i=>some (i*z,z)) (nj te len) ps=some cs)(hr:qS z cs len=some es)(hl:Nat.ble (len*z) 16777216=true):PN E n nt f L (.buildSlice ty len parts) (fun k=> .one (.own k 0 len)) z es:=fun h nid hb=>by
 show((E.ti ty).bind fun t=>(aL t).bind fun x=>(E.ti x).bind fun e=>(parts.toList.mapM fun((i,x):Nat×Operand)=>(ar (ay (tab nt f)) x).map fun d=>(i,d)).bind fun ps=>(fill (fun i=>some (i*e.size,e.size)) (nj e len) ps).bind fun cs=>(qS e.size cs len).bind fun es=>if len*e.size≤2 ^ 24 then some (⟨.one (.own nid 0 len),[(nid,.own e.size es)]⟩:Eff)else none)=_;subst hz;rw [ht,ez];have h1:(parts.toList.mapM fun((i,x):Nat×Operand)=>(ov nt f x).map fun d=>(i,d))=some ps:=hps;simp only [zbS,he,hte,h1,hf,hr];rw [if_pos (Nat.le_of_ble_eq_true hl)]
theorem Sa{x:Operand}{i:Nat}{ds:List D}{v:D}(hx:ov nt f x=some (.tup ds))(hi:ds[i]? =some v):PS E n nt f L (.extract x i) v:=fun h nid hb=>by
 show((ar (ay (tab nt f)) x).bind fun d=>match d with
  | .tup ds=>(ds[i]?).bind fun v=>some (⟨v,[]⟩:Eff)
  |_=>none)=_
 rw [bk,hx];show(ds[i]?).bind _=_;rw [hi];rfl
theorem uC{α β:Type}{r:α→β}{l:List α}{i:Nat}{x:α}(h:l[i]? =some x):(l.map r)[i]? =some (r x):=by rw [List.getElem?_map,h];rfl
theorem Ls{α:Type}{l:List α}{i:Nat}{x:α}(h:l[i]? =some x):i<l.length:=(List.getElem?_eq_some_iff.1 h).1
theorem map_set{α β:Type}{r:α→β}{l:List α}{i:Nat}{x:α}:(l.map r).set i (r x)=(l.set i x).map r:=(List.map_set).symm
theorem Oh{α:Type}{r:α→List T}{ty:TypeId}{x ix:Operand}{fr fb nn:Bool}{sz:Nat}{l:List α}{kb:IntKind}{i:Int}{y:α}(hx:ov nt f x=some (.one (.p fr (.s nn sz (l.map r)))))(hi:ov nt f ix=some (.one (.p fb (.v (.int kb i)))))(h0:0≤i)(hy:l[i.toNat]? =some y)(hz:cU E.ti ty=some sz):PS E n nt f L (.indexAddr ty x ix) (.one (.iptr fr sz (l.map r) i.toNat 0)):=fun h nid hb=>by
 rw [uw,bk,hx,bk,hi];show kIx E.ti ty h _ (fQ (.one (.p fb (.v (.int kb i)))))=_;rw [gg _ _ _ h0];refine Eq.trans (b:=Eh E.ti ty h i.toNat (.one (.p fr (.s nn sz (l.map r))))) rfl ?_;rw [Wm,hz];show(if i.toNat<(l.map r).length∧sz=sz then _ else _)=_;rw [if_pos ⟨by rw [List.length_map];exact Ls hy,rfl⟩]
theorem Oi{α:Type}{r:α→List C}{ty:TypeId}{x ix:Operand}{fb:Bool}{k sz:Nat}{l:List α}{kb:IntKind}{i:Int}{y:α}(p:Nat)(hx:ov nt f x=some (.one (.own k 0 l.length)))(hi:ov nt f ix=some (.one (.p fb (.v (.int kb i)))))(h0:0≤i)(hy:l[i.toNat]? =some y)(hp:L[p]? =some [(k,sz,l.map r)])(hz:cU E.ti ty=some sz):PS E n nt f L (.indexAddr ty x ix) (.one (.ptr k i.toNat 0)):=fun h nid hb=>by
 rw [uw,bk,hx,bk,hi];show kIx E.ti ty h _ (fQ (.one (.p fb (.v (.int kb i)))))=_;rw [gg _ _ _ h0];refine Eq.trans (b:=Eh E.ti ty h i.toNat (.one (.own k 0 l.length))) rfl ?_;rw [Wn,hz,hb.get hp];show(if i.toNat<l.length∧sz=sz then _ else _)=_;rw [if_pos ⟨Ls hy,rfl⟩,Nat.zero_add]
theorem Lt{c:Call}{a:Operand}{ty e:TypeId}{t:TI}{d:D}{m:Nat}(hc:c.callee= .builtin .len)(ha:c.args.toList= [a])(hty:c.argTypes[0]? =some ty)(ht:E.ti ty=some t)(hd:t.desc= .slice e)(hx:ov nt f a=some d)(hl:xX d=some m):PS E n nt f L (.call c) (iD .i64 m):=fun h nid hb=>by
 have h1:aK (.call c)=none:=by unfold aK;simp only [hc]
 rw [jc,h1];unfold sem wQ;simp only [hc,hty,ht,ha,ez,zbB,zbS,List.mapM_cons,List.mapM_nil,hx,Option.pure_def,hd,hl];rfl
theorem Gi{α:Type}{r:α→List T}{fr nn:Bool}{sz:Nat}{l:List α}:xX (.one (.p fr (.s nn sz (l.map r))))=some l.length:=by
 show some (l.map r).length=_;rw [List.length_map]
theorem PL{α:Type}{r:α→List T}{c:Call}{a:Operand}{ty e:TypeId}{t:TI}{fr nn:Bool}{sz:Nat}{l:List α}(hx:ov nt f a=some (.one (.p fr (.s nn sz (l.map r)))))(ht:E.ti ty=some t)(hd:t.desc= .slice e)(hc:c.callee= .builtin .len)(ha:c.args.toList= [a])(hty:c.argTypes[0]? =some ty):PS E n nt f L (.call c) (iD .i64 l.length):=Lt hc ha hty ht hd hx Gi
def zR(L:BL)(x:D)(xs:List (List C)):Prop:=∀h,HB h L→jp h x=some xs
theorem qt{α:Type}{r:α→List C}{k sz:Nat}{l:List α}(p:Nat)(hp:L[p]? =some [(k,sz,l.map r)]):zR L (.one (.own k 0 l.length)) (l.map r):=fun h hb=>by
 show((an h k).bind fun x=>cut x.2 0 l.length)=_;rw [hb.get hp];show cut (l.map r) 0 l.length=_;unfold cut;rw [if_pos (by simp),List.drop_zero,List.take_of_length_le (by simp)]
theorem PM{c:Call}{a x:Operand}{ty ty1 z e1:TypeId}{t1:TI}{fr:Bool}{bz:Nat}{d:D}{xs:List (List C)}(ha:ov nt f a=some (.one (.p fr (.s false bz []))))(hx:ov nt f x=some d)(hxs:zR L d xs)(hne:∃y ys,xs=y::ys)(hb:xs.length≤bi)(hall:xs.all (·.length==z)=true)(hz:cU E.ti ty=some z)(ht1:E.ti ty1=some t1)(he1:aL t1=some e1)
  (hc:c.callee= .builtin .append) (hargs:c.args.toList= [a,x]) (hty:c.argTypes[0]? =some ty) (hty1:c.argTypes[1]? =some ty1):PN E n nt f L (.call c) (fun k=> .one (.own k 0 xs.length)) z xs:=fun h nid hh=>by
 obtain⟨t,e,te,g1,g2,g3,g4⟩:=eB hz;have h1:aK (.call c)=none:=by unfold aK;simp only [hc]
 rw [jc,h1];unfold sem wQ;simp only [hc,hty,g1,hargs,ez,zbB,zbS,List.mapM_cons,List.mapM_nil,ha,hx,Option.pure_def,g2,g3,hty1,ht1,he1,g4];unfold Ev.append;simp only [hxs h hh,zbB,zbS];obtain⟨y,ys,rfl⟩:=hne;rw [if_neg (by simp),if_neg (by simp),if_pos hb,if_pos hall]
theorem PO{c:Call}{a x:Operand}{ty ty1 z e1:TypeId}{t1:TI}{fr:Bool}{bz:Nat}{d:D}(ha:ov nt f a=some (.one (.p fr (.s false bz []))))(hx:ov nt f x=some d)(hxs:zR L d [])(hz:cU E.ti ty=some z)(ht1:E.ti ty1=some t1)(he1:aL t1=some e1)
  (hc:c.callee= .builtin .append) (hargs:c.args.toList= [a,x]) (hty:c.argTypes[0]? =some ty) (hty1:c.argTypes[1]? =some ty1):PS E n nt f L (.call c) (.one (.p fr (.s false bz []))):=fun h nid hh=>by
 obtain⟨t,e,te,g1,g2,g3,g4⟩:=eB hz;have h1:aK (.call c)=none:=by unfold aK;simp only [hc]
 rw [jc,h1];unfold sem wQ;simp only [hc,hty,g1,hargs,ez,zbB,zbS,List.mapM_cons,List.mapM_nil,ha,hx,Option.pure_def,g2,g3,hty1,ht1,he1,g4];unfold Ev.append;simp only [hxs h hh,zbB,zbS];rw [if_neg (by simp),if_pos (show([]:List (List C)).length=0 from rfl)]
theorem Oj{α:Type}{r:α→List C}{c:Call}{a x:Operand}{ty ty1 z e1:TypeId}{t1:TI}{k:Nat}{l m lm:List α}{d:D}{xs:List (List C)}(p:Nat)(ha:ov nt f a=some (.one (.own k 0 l.length)))(hx:ov nt f x=some d)(hxs:zR L d xs)(hm:xs=m.map r)(hp:L[p]? =some [(k,z,l.map r)])(hlm:app l m=some lm)(hr:∀y,(r y).length=z)(hz:cU E.ti ty=some z)(ht1:E.ti ty1=some t1)(he1:aL t1=some e1)
  (hc:c.callee= .builtin .append) (hargs:c.args.toList= [a,x]) (hty:c.argTypes[0]? =some ty) (hty1:c.argTypes[1]? =some ty1) (hz0:Nat.beq z 0=false:=by rfl):PA E n nt f L (.call c) (fun k'=> .one (.own k' 0 lm.length)) p k z (lm.map r):=⟨⟨_,hp⟩,fun h nid hh=>by
 obtain⟨t,e,te,g1,g2,g3,g4⟩:=eB hz;obtain⟨hb,rfl⟩:=fe hlm;have h1:aK (.call c)=none:=by unfold aK;simp only [hc]
 rw [jc,h1];unfold sem wQ;simp only [hc,hty,g1,hargs,ez,zbB,zbS,List.mapM_cons,List.mapM_nil,ha,hx,Option.pure_def,g2,g3,hty1,ht1,he1,g4];unfold Ev.append;simp only [hxs h hh,zbB,zbS,hh.get hp,hm];rw [if_pos ⟨trivial,by simp,by simpa using hb,trivial,by simp [hr],Nat.ne_of_beq_eq_false hz0⟩]
 simp⟩
theorem Np{α:Type}{r:α→List C}{ty:Nat}{x y:Operand}{t te:TI}{ety z:Nat}{fa fb:Bool}{ka kb:IntKind}{i j:Int}{a:α}(ht:E.ti ty=some t)(he:aL t=some ety)(hte:E.ti ety=some te)(hx:ov nt f x=some (.one (.p fa (.v (.int ka i)))))(hy:ov nt f y=some (.one (.p fb (.v (.int kb j)))))(h0:0≤i)(hij:i≤j)(hj:j.toNat≤bi)(hz:im te=r a)(hs:te.size=z):PN E n nt f L (.makeSlice ty x y) (fun k=> .one (.own k 0 (List.replicate i.toNat a).length)) z ((List.replicate i.toNat a).map r):=fun h nid hb=>by
 show((E.ti ty).bind fun t=>(aL t).bind fun q=>(E.ti q).bind fun e=>(ar (ay (tab nt f)) x).bind fun dx=>(fQ dx).bind fun n=>(ar (ay (tab nt f)) y).bind fun dy=>(fQ dy).bind fun m=>if n≤m∧m≤bi then some (⟨.one (.own nid 0 n),[(nid,.own e.size (List.replicate n (im e)))]⟩:Eff)else none)=_;rw [ht];simp only [zbS,he,hte,bk,hx,hy,gg _ _ _ h0,gg _ _ _ (show 0≤j by omega)];rw [if_pos ⟨by omega,hj⟩,List.length_replicate,List.map_replicate,hz,hs]
def Vw(L:BL)(ds:List D)(vs:List (Bool×TD)):Prop:=∀h,HB h L→ds.mapM (bO h)=some vs
theorem mg:Vw L [] []:=fun h hb=>rfl
theorem dD{d:D}{ds:List D}{v:Bool×TD}{vs:List (Bool×TD)}(h1:∀h,HB h L→bO h d=some v)(h2:Vw L ds vs):Vw L (d::ds) (v::vs):=fun h hb=>by
 rw [List.mapM_cons,h1 h hb,h2 h hb];rfl
def VwC(L:BL)(cs:List C)(vs:List (Bool×T)):Prop:=∀h,HB h L→∀m,cs.mapM (cX h (m+2))=some vs
theorem wU:VwC L [] []:=fun h hb m=>rfl
theorem gM{c:C}{cs:List C}{v:Bool×T}{vs:List (Bool×T)}(h1:∀h,HB h L→∀m,cX h (m+2) c=some v)(h2:VwC L cs vs):VwC L (c::cs) (v::vs):=fun h hb m=>by
 rw [List.mapM_cons,h1 h hb m,h2 h hb m];rfl
theorem ug{x:Value}:∀h,HB h L→∀m,cX h (m+2) (.p true (.v x))=some (true,.v x):=fun h hb m=>rfl
theorem Gj{fr nn:Bool}{sz:Nat}{l:List (List T)}:∀h,HB h L→∀m,cX h (m+2) (.p fr (.s nn sz l))=some (fr,.s nn sz l):=fun h hb m=>rfl
theorem Eo{α β γ:Type}{r:α→List β}{q:α→List γ}{g:β→Option (Bool×γ)}(hq:∀x,(r x).mapM g=some ((q x).map fun t=>(true,t))):∀l:List α,((l.map r).mapM fun e=>e.mapM g)=some ((l.map q).map fun e=>e.map fun t=>(true,t))
 | []=>rfl
 |x::l=>by
  rw [List.map_cons,List.mapM_cons,hq x,Eo hq l];rfl
theorem Cn{α:Type}{r:α→List T}{k sz:Nat}{l:List α}(p:Nat)(hp:L[p]? =some [(k,sz,l.map (cv r))])(hr:∀x h m,(cv r x).mapM (cX h (m+1))=some ((r x).map fun t=>(true,t))):∀h,HB h L→∀m,cX h (m+2) (.own k 0 l.length)=some (true,.s true sz (l.map r)):=fun h hb m=>by
 have hc:cut (l.map (cv r)) 0 l.length=some (l.map (cv r)):=by
  unfold cut;rw [if_pos (by simp),List.drop_zero,List.take_of_length_le (by simp)]
 have e1:cX h (m+2) (.own k 0 l.length)=(an h k).bind fun x=>(cut x.2 0 l.length).bind fun es=>(es.mapM fun e:List C=>e.mapM (cX h (m+1))).bind fun q=>some (q.all (fun e=>e.all (·.1)),T.s true x.1 (q.map (fun e=>e.map (·.2)))):=rfl;rw [e1,hb.get hp];simp only [zbS,hc];rw [Eo (q:=r) fun x=>hr x h m];simp only [zbS,List.map_map];congr 2
 ·rw [List.all_eq_true];intro x hx;simp only [List.mem_map]at hx;obtain⟨y,_,rfl⟩:=hx;rw [List.all_eq_true];intro z hz;simp only [Function.comp,List.mem_map]at hz;obtain⟨w,_,rfl⟩:=hz;rfl
 ·congr 1;refine List.map_congr_left fun x hx=> ?_;simp [Function.comp_def]
theorem jS{c:C}{b:Bool}{t:T}(h1:∀h,HB h L→∀m,cX h (m+2) c=some (b,t)):∀h,HB h L→bO h (.one c)=some (b,.one t):=fun h hb=>by
 show(cX h 6 c).bind _=_;rw [h1 h hb 4];rfl
theorem wV{cs:List C}{vs:List (Bool×T)}(h1:VwC L cs vs):∀h,HB h L→bO h (.agg cs)=some (vs.all (·.1),.agg (vs.map (·.2))):=fun h hb=>by
 show(cs.mapM (cX h 6)).bind _=_;rw [h1 h hb 4];rfl
def Ep(E:Env)(n:Nat)(k:FuncId)(vs:List TD)(rs:List TD):Prop:=∃fr:Bool,RunsP E n k vs (cond fr .fresh .any,rs)
theorem rS{c:Call}{k:FuncId}{args:List D}{vs:List (Bool×TD)}{r:Kind×List TD}{e:Nat→Eff}(hc:aK (.call c)=some c)(hr:bH c (ov nt f)=some (k,args))(hv:Vw L args vs)(hk:cpR E n k (vs.map (·.2))=some r)
  (he:∀nid,(match r.1 with
   | .own=>match r.2 with
    | [.one (.s true sz l)]=>some ({v:= .one (.own nid 0 l.length),upd:= [(nid,.own sz (l.map (·.map (pC true))))]}:Eff)
    |_=>none
   | .fresh=>some {v:=iJ (r.2.map (bF true))}
   | .any=>if args.any ia then none else some {v:=iJ (r.2.map (bF (vs.all (·.1))))})=some (e nid)):∀(h:ah) (nid:Nat),HB h L→stepG E (cpR E n) none nid (.call c) (ay (tab nt f)) h=some (e nid):=fun h nid hb=>by
 rw [jc,hc];show gP (cpR E n) nid c (ay (tab nt f)) h=_;unfold gP;rw [ez,hr];simp only [zbB,zbS,hv h hb,hk];exact he nid
theorem Nq{c:Call}{k:FuncId}{args:List D}{vs:List (Bool×TD)}{vs2 rs:List TD}{v:D}(hk:RunsP E n k vs2 (.fresh,rs))(hc:aK (.call c)=some c)(hr:bH c (ov nt f)=some (k,args))(hv:Vw L args vs)(h2:vs.map (·.2)=vs2)(hrv:iJ (rs.map (bF true))=v):PS E n nt f L (.call c) v:=fun h nid hb=>by
 subst hrv h2;exact rS (e:=fun _=>⟨_,[]⟩) hc hr hv (jR hk) (fun _=>rfl) h nid hb
theorem Nr{c:Call}{k:FuncId}{args:List D}{vs:List (Bool×TD)}{vs2 rs:List TD}{v:Bool→D}(hk:Ep E n k vs2 rs)(hc:aK (.call c)=some c)(hr:bH c (ov nt f)=some (k,args))(hv:Vw L args vs)(h2:vs.map (·.2)=vs2)(ho:args.any ia=false)(hrv:∀fr,iJ (rs.map (bF fr))=v fr):∃fr,PS E n nt f L (.call c) (v fr):=by
 obtain⟨fr,hk⟩:=hk
 cases fr with
 |true=>exact⟨true,Nq hk hc hr hv h2 (hrv true)⟩
 |false=>
  subst h2;refine⟨vs.all (·.1),fun h nid hb=> ?_⟩;rw [←hrv];refine rS (e:=fun _=>⟨_,[]⟩) hc hr hv (jR hk) (fun _=> ?_) h nid hb;show(if args.any ia=true then none else _)=_;rw [ho];rfl
theorem Co{α:Type}{r:α→List T}{c:Call}{k:FuncId}{args:List D}{vs:List (Bool×TD)}{vs2:List TD}{sz:Nat}{l:List α}(hk:RunsP E n k vs2 (.own,[.one (.s true sz (l.map r))]))(hc:aK (.call c)=some c)(hr:bH c (ov nt f)=some (k,args))(hv:Vw L args vs)(h2:vs.map (·.2)=vs2):PN E n nt f L (.call c) (fun k'=> .one (.own k' 0 l.length)) sz (l.map (cv r)):=fun h nid hb=>by
 subst h2
 have:=rS (e:=fun nid=>⟨.one (.own nid 0 (l.map r).length),[(nid,.own sz ((l.map r).map (·.map (pC true))))]⟩) hc hr hv (jR hk) (fun _=>rfl) h nid hb
 rw [List.length_map,List.map_map]at this;exact this
def Jl(E:Env)(nt:Nat)(f:Nat→D)(L:BL)(rv:List ResultVar)(ds:List D):Prop:=∀h,HB h L→rv.mapM (bN E {t:=tab nt f,h:=h})=some ds
theorem uD:Jl E nt f L [] []:=fun h hb=>rfl
theorem uE{t:Tmp}{d:D}{rv:List ResultVar}{ds:List D}(ht:ov nt f (.tmp t)=some d)(h:Jl E nt f L rv ds):Jl E nt f L (.tmp t::rv) (d::ds):=fun H hb=>by
 have:(tab nt f)[t]? =some d:=(bk nt f (.tmp t)).trans ht
 rw [List.mapM_cons,h H hb];show((tab nt f)[t]?).bind _=_;rw [this];rfl
theorem qu{t:Tmp}{ty:TypeId}{k i j sz bz:Nat}{ag:Bool}{es:List (List C)}{e cs:List C}{d:D}{rv:List ResultVar}{ds:List D}(p:Nat)(ht:ov nt f (.tmp t)=some (.one (.ptr k i j)))(hz:fE E.ti ty=some (sz,ag))(hp:L[p]? =some [(k,bz,es)])(he:es[i]? =some e)(hc:cut e j (cond ag sz 1)=some cs)(hv:bW ag cs=some d)(h:Jl E nt f L rv ds):Jl E nt f L (.cell t ty::rv) (d::ds):=fun H hb=>by
 have h1:(tab nt f)[t]? =some (.one (.ptr k i j)):=(bk nt f (.tmp t)).trans ht;unfold fE at hz;simp only [zbE,zsI,Prod.mk.injEq]at hz;obtain⟨ti,g1,rfl,rfl⟩:=hz;rw [List.mapM_cons,h H hb];show(((E.ti ty).bind fun t'=>((tab nt f)[t]?).bind fun d=>load H (aH t'.desc) (if aH t'.desc then t'.size else 1) d).bind _)=_;rw [g1,h1];simp only [zbS,load,hb.get hp,zbB,he,Cm,hc,hv];rfl
theorem Cp{rv:List ResultVar}{ds:List D}{vs:List (Bool×TD)}{e:Ex}{rs:List TD}(he:e= .normal∨e= .ret)(hr:Jl E nt f L rv ds)(hv:Vw L ds vs)(ho:∀h,HB h L→cJ h ds=false)(hf:vs.all (·.1)=true)(hrs:vs.map (·.2)=rs):ie nt (wN E rv (.fresh,rs)) e f L:=fun H hb=>by
 have key:bI (fun l:Kind×List TD=>l=(.fresh,rs)) ((rv.mapM (bN E {t:=tab nt f,h:=H})).bind fun rs=>(rs.mapM (bO H)).map fun l=>(if cJ H rs then .own else if l.all (·.1)then .fresh else .any,l.map (·.2))):=by
  rw [hr H hb];simp only [zbS,hv H hb,Option.map_some,ho H hb,hf,hrs];rfl
 rcases he with rfl|rfl<;>exact key
theorem uF{d e:D}{ds:List D}{h:ah}:cJ h (d::e::ds)=false:=by
 unfold cJ;split
 ·rename_i hx;simp at hx
 ·rfl
def f0(vs:List TD):Nat→D:=fun i=>(vs.map (bF false)).getD i bE
theorem Wp{k:FuncId}{fi:FI}{vs rs:List TD}(ha:E.ax k=none)(hf:E.fn k=some fi)(hl:Nat.ble vs.length fi.nt=true)(h:WpL E nY n fi.nt fi.body (wN E fi.results (.fresh,rs)) (f0 vs) []):RunsP E (n+1) k vs (.fresh,rs):=qn ha hf (Nat.le_of_ble_eq_true hl) (h [] ⟨List.nodup_nil,fun x hx=>by simp at hx⟩)
theorem MI{k:FuncId}{fi:FI}{vs rs:List TD}(ha:E.ax k=none)(hf:E.fn k=some fi)(hl:Nat.ble vs.length fi.nt=true)(h:WpL E nY n fi.nt fi.body (wN E fi.results (.own,rs)) (f0 vs) []):RunsP E (n+1) k vs (.own,rs):=qn ha hf (Nat.le_of_ble_eq_true hl) (h [] ⟨List.nodup_nil,fun x hx=>by simp at hx⟩)
theorem RunsP.x{k:FuncId}{vs rs:List TD}(h:RunsP E n k vs (.fresh,rs)):Ep E n k vs rs:=⟨true,h⟩
end
section
variable (P : Program) (t : TypeId) (x y : Operand) (k : IntKind) {a b : Int}
theorem Ns(h:a<b):am P (do eqGuard .lss t x y (.int k a) (.int k b);binOp .lss t (.int k a) (.int k b))=some (.bool true):=by rw [KR,decide_eq_true h]
theorem Nt(h:¬a<b):am P (do eqGuard .lss t x y (.int k a) (.int k b);binOp .lss t (.int k a) (.int k b))=some (.bool false):=by rw [KR,decide_eq_false h]
theorem Cq(h:a>b):am P (do eqGuard .gtr t x y (.int k a) (.int k b);binOp .gtr t (.int k a) (.int k b))=some (.bool true):=by rw [KU,decide_eq_true h]
theorem Cr(h:¬a>b):am P (do eqGuard .gtr t x y (.int k a) (.int k b);binOp .gtr t (.int k a) (.int k b))=some (.bool false):=by rw [KU,decide_eq_false h]
end
def mo{α:Type}(w:Nat)(l:List α):Sl α:=
 match l with
 | []=>⟨false,0,[]⟩
 |_::_=>⟨true,w,l⟩
def moC{α:Type}(l:List α)(k:Nat):C:=
 match l with
 | []=> .p true (.s false 0 [])
 |_::_=> .own k 0 l.length
def moL{α:Type}(r:α→List T)(w:Nat)(l:List α)(k:Nat):List B1:=
 match l with
 | []=> []
 |_::_=> [(k,w,l.map (cv r))]
theorem ld{α:Type}(w:Nat)(l:List α):(mo w l).l=l:=by cases l<;>rfl
def PP(k:IntKind)(a b:Int):Option Int:=if b≠0 then some (k.wrap (a.tdiv b))else none
def ng(a b:Int):Option Int:=if b≠0 then some (a.tmod b)else none
theorem PQ{P:Program}{t:TypeId}{x y:Operand}{k:IntKind}{a b z:Int}(h:PP k a b=some z):am P (do eqGuard .quo t x y (.int k a) (.int k b);binOp .quo t (.int k a) (.int k b))=some (.int k z):=by
 unfold PP at h;split at h
 ·rename_i hc;rw [←Option.some.inj h];exact RK _ _ _ _ _ _ _ hc
 ·simp at h
theorem PU{P:Program}{t:TypeId}{x y:Operand}{k:IntKind}{a b z:Int}(h:ng a b=some z):am P (do eqGuard .rem t x y (.int k a) (.int k b);binOp .rem t (.int k a) (.int k b))=some (.int k z):=by
 unfold ng at h;split at h
 ·rename_i hc;rw [←Option.some.inj h];exact RL _ _ _ _ _ _ _ hc
 ·simp at h
def wW(i:Int):Option Unit:=if 0≤i∧i.toNat≤bi then some ()else none
def zS(i j:Int):Option Unit:=if i=j then some ()else if i≤j∧j.toNat≤bi then some ()else none
theorem wX(i:Int):zS i i=some ():=if_pos rfl
theorem Gk{i j:Int}{u:Unit}(h:zS i j=some u):i=j∨(i≤j∧j.toNat≤bi):=by
 unfold zS at h;split at h
 ·rename_i hi;exact .inl hi
 ·split at h
  ·rename_i hj;exact .inr hj
  ·simp at h
theorem Gl{i:Int}{u:Unit}(h:wW i=some u):0≤i∧i.toNat≤bi:=by
 unfold wW at h;split at h
 ·assumption
 ·simp at h
end Ev
end
noncomputable section
namespace Ev
open Go Go.RowKit
def Nu(x:Int)(k:IntKind)(y:Int):Int:=x.fdiv (2 ^(min y.toNat k.bits))
def Sb(x:Int)(k:IntKind)(y:Int):Int:=k.wrap (x*2 ^(min y.toNat k.bits))
def Er(k:IntKind)(x y:Int):Option Int:=if 0≤y then some (Nu x k y)else none
def PV(k:IntKind)(x y:Int):Option Int:=if 0≤y then some (Sb x k y)else none
theorem Sd{P:Program}{t:TypeId}{x y:Operand}{k k':IntKind}{a b z:Int}(h:Er k a b=some z):am P (do eqGuard .shr t x y (.int k a) (.int k' b);binOp .shr t (.int k a) (.int k' b))=some (.int k z):=by
 unfold Er at h;split at h
 ·rename_i hc;rw [←Option.some.inj h]
  have:(do eqGuard .shr t x y (.int k a) (.int k' b);binOp .shr t (.int k a) (.int k' b))=(pure (.int k (Nu a k b)):Sem Value):=by
   show Op.shift .shr k a k' b=_;unfold Op.shift;rw [if_neg (by omega)];rfl
  rw [this];rfl
 ·simp at h
theorem Se{P:Program}{t:TypeId}{x y:Operand}{k k':IntKind}{a b z:Int}(h:PV k a b=some z):am P (do eqGuard .shl t x y (.int k a) (.int k' b);binOp .shl t (.int k a) (.int k' b))=some (.int k z):=by
 unfold PV at h;split at h
 ·rename_i hc;rw [←Option.some.inj h]
  have:(do eqGuard .shl t x y (.int k a) (.int k' b);binOp .shl t (.int k a) (.int k' b))=(pure (.int k (Sb a k b)):Sem Value):=by
   show Op.shift .shl k a k' b=_;unfold Op.shift;rw [if_neg (by omega)];rfl
  rw [this];rfl
 ·simp at h
def Sf(k:IntKind)(x y:Int):Int:=k.wrap (BitVec.ofInt k.bits x &&& BitVec.ofInt k.bits y).toNat
def orI(k:IntKind)(x y:Int):Int:=k.wrap (BitVec.ofInt k.bits x|||BitVec.ofInt k.bits y).toNat
def PX(k:IntKind)(x y:Int):Int:=k.wrap (BitVec.ofInt k.bits x ^^^ BitVec.ofInt k.bits y).toNat
def Hz(k:IntKind)(x y:Int):Int:=k.wrap (BitVec.ofInt k.bits x &&& ~~~ BitVec.ofInt k.bits y).toNat
section
variable (P : Program) (t : TypeId) (x y : Operand) (k : IntKind) (a b : Int)
theorem Sg:am P (do eqGuard .and t x y (.int k a) (.int k b);binOp .and t (.int k a) (.int k b))=some (.int k (Sf k a b)):=by cases k<;>rfl
theorem Wq:am P (do eqGuard .or t x y (.int k a) (.int k b);binOp .or t (.int k a) (.int k b))=some (.int k (orI k a b)):=by cases k<;>rfl
theorem Si:am P (do eqGuard .xor t x y (.int k a) (.int k b);binOp .xor t (.int k a) (.int k b))=some (.int k (PX k a b)):=by cases k<;>rfl
theorem Lu:am P (do eqGuard .andNot t x y (.int k a) (.int k b);binOp .andNot t (.int k a) (.int k b))=some (.int k (Hz k a b)):=by cases k<;>rfl
end
section
variable {E : Env} {y : Nat → dI} {n nt : Nat} {f : Nat → D} {L : BL}
def uh{α:Type}(w:Nat)(s:Sl α)(lo hi:Int):Option (Sl α):=if 0≤lo∧lo≤hi∧hi≤(s.l.length:Int)∧(s.sz=w∨lo=0)then some ⟨s.nn,s.sz,(s.l.drop lo.toNat).take (hi.toNat - lo.toNat)⟩else none
theorem zT{α:Type}{w:Nat}{s s':Sl α}{lo hi:Int}(h:uh w s lo hi=some s'):(0≤lo∧lo≤hi∧hi≤(s.l.length:Int)∧(s.sz=w∨lo=0))∧s'=⟨s.nn,s.sz,(s.l.drop lo.toNat).take (hi.toNat - lo.toNat)⟩:=by
 unfold uh at h;split at h
 ·rename_i hc;exact⟨hc,(Option.some.inj h).symm⟩
 ·simp at h
theorem Nv{ρ:Operand→Option D}(d:Nat):dJ ρ none d=some ((d:Int)).toNat:=by simp [dJ]
theorem Nw{y:Operand}{fr:Bool}{k:IntKind}{i:Int}(hx:ov nt f y=some (.one (.p fr (.v (.int k i)))))(h0:0≤i)(d:Nat):dJ (ov nt f) (some y) d=some i.toNat:=by
 show(ov nt f y).bind fQ=_;rw [hx];exact gg fr k _ h0
theorem Lv{α:Type}{r:α→List T}{ty e:TypeId}{t te:TI}{x:Operand}{lo hi mx:Option Operand}{fr nn:Bool}{sz m:Nat}{l:List α}{s':Sl α}{i j:Int}(hc:uh te.size ⟨nn,sz,l⟩ i j=some s')(hx:ov nt f x=some (.one (.p fr (.s nn sz (l.map r)))))(ht:E.ti ty=some t)(he:aL t=some e)(hte:E.ti e=some te)(hlo:dJ (ov nt f) lo 0=some i.toNat)(hhi:dJ (ov nt f) hi l.length=some j.toNat)(hmx:dJ (ov nt f) mx l.length=some m)(hm:(mx.isSome && hi.isNone)=false)(hm1:j.toNat≤m)(hm2:m≤l.length):PS E n nt f L (.slice ty x lo hi mx) (.one (.p fr (Sl.t r s'))):=fun h nid hb=>by
 obtain⟨⟨c1,c2,c3,c4⟩,rfl⟩:=zT hc;simp only at c1 c2 c3 c4;show(if(mx.isSome && hi.isNone)=true then none else(E.ti ty).bind fun t=>(aL t).bind fun q=>(E.ti q).bind fun te=>(ar (ay (tab nt f)) x).bind fun d=>(xX d).bind fun n=>(dJ (ar (ay (tab nt f))) hi n).bind fun h'=>(dJ (ar (ay (tab nt f))) lo 0).bind fun l'=>(dJ (ar (ay (tab nt f))) mx n).bind fun m'=>if l'≤h'∧h'≤m'∧m'≤n then _ else _)=_;rw [if_neg (by rw [hm];simp),ht,ez];simp only [zbS,he,hte,hx,Gi,hhi,hlo,hmx];rw [if_pos (by omega)];show(if sz=te.size∨i.toNat=0 then _ else _)=_;rw [if_pos (by rcases c4 with h|h;exact .inl h;exact .inr (by omega))];unfold Sl.t;rw [List.map_take,List.map_drop]
theorem Sj{ty e:TypeId}{t te:TI}{m z:Nat}{x ix:Operand}{fb:Bool}{kb:IntKind}{k i j a:Nat}(ht:E.ti ty=some t)(hd:t.desc= .array m e)(hte:E.ti e=some te)(hz:te.size=z)(hx:ov nt f x=some (.one (.ptr k i j)))(hi:ov nt f ix=some (.one (.p fb (.v (.int kb (a:Int))))))(ha:Nat.blt a m=true):PS E n nt f L (.indexAddr ty x ix) (.one (.ptr k i (j+a*z))):=fun h nid hb=>by
 rw [uw,bk,hx,bk,hi];refine Eq.trans (b:=Eh E.ti ty h a (.one (.ptr k i j))) rfl ?_
 show((E.ti ty).bind fun t=>match t.desc with
  | .array n e=>(E.ti e).bind fun te=>if a<n then some (⟨.one (.ptr k i (j+a*te.size)),[]⟩:Eff)else none
  |_=>none)=_
 rw [ht];simp only [zbS,hd,hte];rw [if_pos (fF ha),hz]
theorem He{α:Type}{k i:Nat}{l:List α}{x:α}:D.one (C.own k 0 l.length)=D.one (C.own k 0 (l.set i x).length):=by rw [List.length_set]
variable {ops : Array Oper} {r : List Oper} {K : St → Prop}
def za(a b:Int):Int:=if b<a then b else a
def ui(a b:Int):Int:=if b>a then b else a
theorem Es{c:Call}{x y:Operand}{ty:TypeId}{t:TI}{fa fb:Bool}{ka kb:IntKind}{a b:Int}(hx:ov nt f x=some (.one (.p fa (.v (.int ka a)))))(hy:ov nt f y=some (.one (.p fb (.v (.int kb b)))))(ht:E.ti ty=some t)(hargs:c.args.toList= [x,y])(hty:c.argTypes[0]? =some ty):(c.callee= .builtin .min→PS E n nt f L (.call c) (iD ka (za a b)))∧(c.callee= .builtin .max→PS E n nt f L (.call c) (iD ka (ui a b))):=by
 constructor<;>intro hc h nid hb
 all_goals
  have h1:aK (.call c)=none:=by unfold aK;simp only [hc]
  rw [jc,h1];unfold sem wQ;simp only [hc,hty,ht,hargs,ez,zbB,zbS,List.mapM_cons,List.mapM_nil,hx,hy,Option.pure_def,plain,nS];rfl
theorem PY{α:Type}{l m x:List α}(h:app l m=some x):x=l++m:=(fe h).2
theorem Nx{α:Type}{l m x:List α}(h:app l m=some x):x.length≤bi:=by
 obtain⟨h1,rfl⟩:=fe h;simpa using h1
theorem Ny{α:Type}{ro:α→List C}{c:Call}{a x:Operand}{ty ty1 z e1:TypeId}{t1:TI}{fr:Bool}{bz:Nat}{d:D}{y:α}{ys:List α}(ha:ov nt f a=some (.one (.p fr (.s false bz []))))(hx:ov nt f x=some d)(hxs:zR L d ((y::ys).map ro))(hb:(y::ys).length≤bi)(hr:∀y,(ro y).length=z)(hz:cU E.ti ty=some z)(ht1:E.ti ty1=some t1)(he1:aL t1=some e1)
  (hc:c.callee= .builtin .append) (hargs:c.args.toList= [a,x]) (hty:c.argTypes[0]? =some ty) (hty1:c.argTypes[1]? =some ty1):PN E n nt f L (.call c) (fun k=> .one (.own k 0 (y::ys).length)) z ((y::ys).map ro):=by
 have:=PM (n:=n) ha hx hxs ⟨_,_,rfl⟩ (by simpa using hb) (by simp [hr]) hz ht1 he1 hc hargs hty hty1
 rw [List.length_map]at this;exact this
end
def PZ{α:Type}(w:Nat)(r:α→List T)(l:List α):Kind×List TD:=
 match l with
 | []=>(.fresh,[.one (.s false 0 [])])
 |y::t=>(.own,[.one (.s true w ((y::t).map r))])
section
variable {α : Type} {rw_ : α → List T} {w k : Nat} {l : List α}
theorem Qa:xX (.one (moC l k))=some l.length:=by cases l<;>rfl
end
section
variable {E : Env} {y : Nat → dI} {n nt : Nat} {f : Nat → D} {L : BL} {ops : Array Oper} {o : Oper} {rr : List Oper} {K : St → Prop} {d : Nat}
def moK{α:Type}(l:List α)(k:Nat):List Nat:=
 match l with
 | []=> []
 |_::_=> [k]
theorem HB.dropNil{h:ah}{L:BL}{p:Nat}(hp:L[p]? =some [])(hb:HB h L):HB h (L.eraseIdx p):=by unfold HB;rw [zN hp];exact hb
theorem Qb{α:Type}{Q:Ex→St→Prop}{c:Code}(r:α→List T)(w:Nat)(h:WpL E y n nt c Q f (moL r w ([]:List α) 0::L)):WpL E y n nt c Q f L:=fun H hb=>h H hb
theorem Et{α:Type}:∀{l:List α} {q:Nat} {s:α},l[q]? =some s→l.set q s=l
 | [],q,s,h=>by simp at h
 |a::l,0,s,h=>by simp at h;subst h;rfl
 |a::l,q+1,s,h=>by rw [List.set_cons_succ,Et (by simpa using h)]
theorem Lw{i wd b:Nat}{O:List (List Nat)}{N:List (Bool×List Nat)}{R:List (List Nat)}(q:Nat){s s':List B1}(hq:L[q]? =some s)(he:s=s')(h:TnL E n nt ops rr i wd O N R b K f (L.set q s')):TnL E n nt ops rr i wd O N R b K f L:=by subst he;rw [Et hq]at h;exact h
theorem rT{α:Type}{l:List α}{k k2:Nat}(h:k2 ∉ moK l k):∀x∈moK l k,¬x=k2:=fun x hx e=>h (e▸hx)
theorem Gm{i q b p:Nat}{O:List (List Nat)}{N:List (Bool×List Nat)}{R:List (List Nat)}(hp:L[p]? =some [])(h:TnL E n nt ops rr i q O N R b K f (L.eraseIdx p)):TnL E n nt ops rr i q O N R b K f L:=fun H hb hl=>h H (hb.dropNil hp) hl
theorem Nz{α:Type}{r:α→List T}{c:Call}{a x:Operand}{ty ty1 w e1:TypeId}{t1:TI}{k i wd b:Nat}{O:List (List Nat)}{N:List (Bool×List Nat)}{R:List (List Nat)}{A:BL}{l ys lm:List α}{y0:α}{dx:D}(p q:Nat)(hw:eV ops o nt f=some true)(hd:o.dst=some d)(hn:Nat.blt d nt=true)(ho:o.op= .call c)(is:List Nat)(hn2:is.Nodup)(hA:is.filterMap (fun i=>L[i]?)=A)(hm:∀x∈A.flatten,x.1 ∉(R.getD i []).flatMap (aG b O N))(hu:aG b O N i=moK l k++ [b+i])(hi:Nat.blt i wd=true)(hk:∀x∈L.flatten,x.1≠b+i)
  (ha:ov nt f a=some (.one (moC l k))) (hx:ov nt f x=some dx) (hxs:zR A dx ((y0::ys).map (cv r))) (hp:A[p]? =some (moL r w l k)) (hq:L[q]? =some (moL r w l k)) (hlm:app l (y0::ys)=some lm) (hr:∀y,(cv r y).length=w) (hz:cU E.ti ty=some w) (ht1:E.ti ty1=some t1) (he1:aL t1=some e1)
  (hc:c.callee= .builtin .append) (hargs:c.args.toList= [a,x]) (hty:c.argTypes[0]? =some ty) (hty1:c.argTypes[1]? =some ty1) (h:TnL E n nt ops rr (i+1) wd O N R b K (up f d (.one (moC lm (b+i)))) (moL r w lm (b+i)::L.eraseIdx q)) (hz0:Nat.beq w 0=false:=by rfl):TnL E n nt ops (o::rr) i wd O N R b K f L:=by
 cases l with
 |nil=>
  have hlm2:=PY hlm;rw [List.nil_append]at hlm2;subst hlm2;have hb:=Nx hlm;refine Ck hw hd hn is hn2 hA hm hu hi hk (by rw [ho];exact Ny (ro:=cv r) ha hx hxs hb hr hz ht1 he1 hc hargs hty hty1) ?_;exact Gm (p:=q+1) hq h
 |cons y l=>
  obtain⟨_,rfl⟩:=fe hlm;exact Lj hw hd hn is hn2 hA hm hu hi hk (by rw [ho];exact Oj (r:=cv r) p ha hx hxs rfl hp hlm hr hz ht1 he1 hc hargs hty hty1 hz0) hq rfl h
theorem hkM{α:Type}{r:α→List T}{w k z:Nat}{l:List α}{A:BL}(h1:l= []∨k≠z)(h2:∀x∈A.flatten,x.1≠z):∀x∈(moL r w l k::A:BL).flatten,x.1≠z:=fun x hx=>by
 rw [List.flatten_cons,List.mem_append]at hx;rcases hx with hx|hx
 ·cases l with
  |nil=>simp [moL]at hx
  |cons a l=>simp only [moL,List.mem_singleton]at hx;subst hx;exact h1.resolve_left (by simp)
 ·exact h2 x hx
theorem HE{α:Type}{r:α→List T}{w k b:Nat}{l:List α}(h:∀x∈L.flatten,x.1<b)(p:Nat)(hp:L[p]? =some (moL r w l k)):l= []∨k<b:=by
 cases l with
 |nil=>exact .inl rfl
 |cons a l=>exact .inr (bw h p hp)
theorem mP{α:Type}{r:α→List T}{w k k2:Nat}{l:List α}{x2:Nat×List (List C)}(hn:(L.flatten.map (·.1)).Nodup)(p q:Nat)(hp:L[p]? =some (moL r w l k))(hq:L[q]? =some [(k2,x2)])(hpq:Nat.beq p q=false):k2 ∉ moK l k:=by
 cases l with
 |nil=>simp [moK]
 |cons a l=>have:=wT hn p q hp hq hpq;simp [moK];omega
theorem Lx{α:Type}{l:List α}{k b:Nat}(h:l= []∨k<b):∀x∈moK l k,x<b:=fun x hx=>by
 cases l with
 |nil=>simp [moK]at hx
 |cons a l=>simp only [moK,List.mem_singleton]at hx;subst hx;exact h.resolve_left (by simp)
theorem Wr{α:Type}{r:α→List T}{w k:Nat}{l:List α}(p:Nat)(hp:L[p]? =some (moL r w l k))(hr:∀x h m,(cv r x).mapM (cX h (m+1))=some ((r x).map fun t=>(true,t))):∀h,HB h L→∀m,cX h (m+2) (moC l k)=some (true,Sl.t r (mo w l)):=by
 cases l with
 |nil=>exact fun h hb m=>rfl
 |cons a l=>exact Cn (r:=r) p hp hr
end
theorem bK{α β:Type}(P:Program)(s:Sem α)(k:α→Sem β):am P (s>>=k)=(am P s).bind fun a=>am P (k a):=by
 induction s with
 |pure a=>rfl
 |program q ih=>exact ih P
 |_=>rfl
section
variable {P : Program}
theorem qv{t:TypeId}{d:TypeDesc}(h:P.underlying t=some d):am P (underlying t)=some d:=by
 have:am P (underlying t)=match P.underlying t with|some d=>some d|none=>none:=by
  show am P (underlying t)=_
  cases hx:P.underlying t with
  |none=>rw [hx]at h;simp at h
  |some d'=>
   unfold underlying;simp [bK,program,am,hx];rfl
 rw [this,h]
theorem lf(d:Nat)(t:TypeId)(xs ys:Array Value){fs:Array Field}(ht:P.underlying t=some (.struct fs))(hp:P.stoodInHeld t=false):
  am P (Op.equalIn (d+1) t (.agg xs) (.agg ys))=am P (Op.eqFields d xs ys fs.toList):=by
 have e1:am P program=some P:=rfl;simp only [Op.equalIn,bK,qv ht,zbS,e1,hp,Bool.false_eq_true,if_false];rw [←Array.forIn_toList];generalize fs.toList=fs;clear ht
 induction fs with
 |nil=>rfl
 |cons f fs ih=>
  simp only [List.forIn_cons,Op.eqFields,bK];by_cases hf:f.name≠ "_"
  ·simp only [if_pos hf,bK]
   cases am P (part f.type xs f.offset)with
   |none=>rfl
   |some a=>
    cases am P (part f.type ys f.offset)with
    |none=>rfl
    |some b=>
     simp only [zbS]
     cases am P (Op.equalIn d f.type a b)with
     |none=>rfl
     |some q=>
      cases q
      ·rfl
      ·exact ih
  ·simp only [if_neg hf,bK];exact ih
theorem fL{d:Nat}{xs ys:Array Value}{f:Field}{fs:List Field}{k k':IntKind}{a b:Int}(hf:(f.name== "_")=false)(h1:am P (part f.type xs f.offset)=some (.int k a))(h2:am P (part f.type ys f.offset)=some (.int k b))(h3:P.underlying f.type=some (.int k')):
  am P (Op.eqFields (d+1) xs ys (f::fs))=if(a==b)=true then am P (Op.eqFields (d+1) xs ys fs)else some false:=by
 have hf':f.name≠ "_" :=by simpa using hf
 have h4:am P (Op.equalIn (d+1) f.type (.int k a) (.int k b))=some (a==b):=by
  simp only [Op.equalIn,bK,qv h3,zbS,if_true];rfl
 simp only [Op.eqFields,if_pos hf',bK,h1,h2,h4,zbS];cases a==b<;>rfl
theorem jG{d:Nat}{xs ys:Array Value}:am P (Op.eqFields d xs ys [])=some true:=rfl
theorem Eu{t:TypeId}{x y:Operand}{xs ys:Array Value}{b:Bool}(hg:P.eqGuardType P.depth t=false)(h:am P (Op.equalIn 10000 t (.agg xs) (.agg ys))=some b):am P (do eqGuard .eql t x y (.agg xs) (.agg ys);binOp .eql t (.agg xs) (.agg ys))=some (.bool b):=by
 have e1:am P program=some P:=rfl
 have h1:am P (eqGuard .eql t x y (.agg xs) (.agg ys))=some ():=by
  simp only [eqGuard,Bool.not_true,Bool.false_eq_true,if_false,bK,e1,zbS,hg,Bool.not_false,if_true];rfl
 rw [bK,h1];show am P (binOp .eql t (.agg xs) (.agg ys))=_;have h2:binOp .eql t (.agg xs) (.agg ys)=(do pure (.bool (←Op.equal t (.agg xs) (.agg ys)))):=rfl;rw [h2,bK];unfold Op.equal Op.maxDepth;rw [h];rfl
theorem Ew{t:TypeId}{x y:Operand}{xs ys:Array Value}{b:Bool}(hg:P.eqGuardType P.depth t=false)(h:am P (Op.equalIn 10000 t (.agg xs) (.agg ys))=some b):am P (do eqGuard .neq t x y (.agg xs) (.agg ys);binOp .neq t (.agg xs) (.agg ys))=some (.bool (!b)):=by
 have e1:am P program=some P:=rfl
 have h1:am P (eqGuard .neq t x y (.agg xs) (.agg ys))=some ():=by
  simp only [eqGuard,Bool.not_true,Bool.false_eq_true,if_false,bK,e1,zbS,hg,Bool.not_false,if_true];rfl
 rw [bK,h1];show am P (binOp .neq t (.agg xs) (.agg ys))=_;have h2:binOp .neq t (.agg xs) (.agg ys)=(do pure (.bool (!(←Op.equal t (.agg xs) (.agg ys))))):=rfl;rw [h2,bK];unfold Op.equal Op.maxDepth;rw [h];rfl
theorem mh{a b:Bool}{q:Option Bool}(h:q=some b):(if a=true then q else some false)=some (a && b):=by cases a<;>simp [h]
end
end Ev
end
noncomputable section
namespace Ev
open Go Go.RowKit
def inK(k:IntKind)(x:Int):Prop:=(Lit.int k x).wf=true
def SlW{α:Type}(w:Nat)(Q:α→Prop)(s:Sl α):Prop:=s.sz=w∧(s.nn=false→s.l= [])∧s.l.length≤maxLen∧∀x∈s.l,Q x
section
variable {P : Program} {t : TypeId} {ts : List T}
theorem NA{k:IntKind}(hu:P.underlying t=some (.int k))(h:Typ P t ts):∃x:Int,ts= [iT k x]∧inK k x:=by
 cases h with
 |int _ k' n h hw=>rw [hu]at h;cases h;exact⟨n,rfl,hw⟩
 |bool _ b h=>rw [hu]at h;simp at h
 |str _ s h=>rw [hu]at h;simp at h
 |slice _ e nn l h=>rw [hu]at h;simp at h
 |struct _ fs tss h=>rw [hu]at h;simp at h
 |array _ n e tss h=>rw [hu]at h;simp at h
theorem zU{α β:Type}{r:α→β}{Q:α→Prop}:∀{l:List β},(∀es∈l,∃x,es=r x∧Q x)→∃xs:List α,l=xs.map r∧∀x∈xs,Q x
 | [],_=>⟨[],rfl,fun x hx=>by simp at hx⟩
 |e::l,h=>by
  obtain⟨x,rfl,hx⟩:=h e List.mem_cons_self;obtain⟨xs,rfl,hxs⟩:=zU fun e he=>h e (List.mem_cons_of_mem _ he);exact⟨x::xs,rfl,fun y hy=>by rcases List.mem_cons.1 hy with rfl|hy;exact hx;exact hxs y hy⟩
theorem Jm{α:Type}{r:α→List T}{Q:α→Prop}{e:TypeId}{w:Nat}(hu:P.underlying t=some (.slice e))(hw:P.cellsOf e=w)(he:∀ts,Typ P e ts→∃x,ts=r x∧Q x)(h:Typ P t ts):∃s:Sl α,ts= [Sl.t r s]∧SlW w Q s:=by
 cases h with
 |slice _ e' nn l h hn hl h1 h2=>
  rw [hu]at h;cases h;obtain⟨xs,rfl,hq⟩:=zU (r:=r) (Q:=Q) fun es hes=>he es (h2 es hes);exact⟨⟨nn,w,xs⟩,by rw [hw];rfl,rfl,fun hh=>by simpa using hn hh,by simpa using hl,hq⟩
 |int _ k' n h hw=>rw [hu]at h;simp at h
 |bool _ b h=>rw [hu]at h;simp at h
 |str _ s h=>rw [hu]at h;simp at h
 |struct _ fs tss h=>rw [hu]at h;simp at h
 |array _ n e tss h=>rw [hu]at h;simp at h
theorem Gn{fs:Array Field}(hu:P.underlying t=some (.struct fs))(h:Typ P t ts):∃tss:List (List T),ts=tss.flatten∧tss.length=fs.toList.length∧∀(i:Nat) f ts',fs.toList[i]? =some f→tss[i]? =some ts'→Typ P f.type ts':=by
 cases h with
 |struct _ fs' tss h hl hf=>rw [hu]at h;cases h;exact⟨tss,rfl,by simpa using hl,fun i f ts' h1 h2=>hf i f ts' (by simpa using h1) h2⟩
 |int _ k' n h hw=>rw [hu]at h;simp at h
 |bool _ b h=>rw [hu]at h;simp at h
 |str _ s h=>rw [hu]at h;simp at h
 |slice _ e nn l h=>rw [hu]at h;simp at h
 |array _ n e tss h=>rw [hu]at h;simp at h
theorem Jn{n:Nat}{e:TypeId}(hu:P.underlying t=some (.array n e))(h:Typ P t ts):∃tss:List (List T),ts=tss.flatten∧tss.length=n∧∀ts'∈tss,Typ P e ts':=by
 cases h with
 |array _ n' e' tss h hl hf=>rw [hu]at h;cases h;exact⟨tss,rfl,hl,hf⟩
 |int _ k' n h hw=>rw [hu]at h;simp at h
 |bool _ b h=>rw [hu]at h;simp at h
 |str _ s h=>rw [hu]at h;simp at h
 |slice _ e nn l h=>rw [hu]at h;simp at h
 |struct _ fs tss h=>rw [hu]at h;simp at h
theorem Ly{ts:List TypeId}{tds:List TD}{d:TypeDesc}(hu:P.underlying t=some d)(ha:aH d=false)(h:gm P (t::ts) tds):∃x r,tds= .one x::r∧Typ P t [x]∧gm P ts r:=by
 cases h with
 |cons t ts td ds h hr=>
  cases h with
  |one x h _=>exact⟨x,ds,rfl,h,hr⟩
  |agg xs h h2=>obtain⟨d',h3,h4⟩:=h2;rw [hu]at h3;cases h3;rw [ha]at h4;simp at h4
theorem Lz{ts:List TypeId}{tds:List TD}{d:TypeDesc}(hu:P.underlying t=some d)(ha:aH d=true)(h:gm P (t::ts) tds):∃x r,tds= .agg x::r∧Typ P t x∧gm P ts r:=by
 cases h with
 |cons t ts td ds h hr=>
  cases h with
  |agg x h _=>exact⟨x,ds,rfl,h,hr⟩
  |one xs h h2=>obtain⟨d',h3,h4⟩:=h2;rw [hu]at h3;cases h3;rw [ha]at h4;simp at h4
theorem qw{tds:List TD}(h:gm P [] tds):tds= []:=by cases h;rfl
end
theorem Qc{E:Env}{n:Nat}{k:FuncId}{tds:List TD}(h:RunsP E n k tds (.fresh,[.one (bT true)])):∃m n kind,(bY E m n).1 k tds=some (kind,[.one (.v (.bool true))]):=by
 obtain⟨M,hM⟩:=h;exact⟨M,n,.fresh,hM M (Nat.le_refl _)⟩
theorem gN{A R:Type}{b:A→Option (A ⊕ R)}(n:Nat)(I:Nat→A→Prop)(Q:R→Prop)(hs:∀j a,j<n→I j a→(∃a',b a=some (.inl a')∧I (j+1) a')∨∃r,b a=some (.inr r)∧Q r)(he:∀a,I n a→∃r,b a=some (.inr r)∧Q r)(j:Nat)(hj:j≤n)(a:A)(ha:I j a):∃r,aM b a=some r∧Q r:=by
 obtain⟨k,hk⟩:∃k,n=j+k:=⟨n - j,by omega⟩
 induction k generalizing j a with
 |zero=>
  have:j=n:=by omega
  subst this;obtain⟨r,h1,h2⟩:=he a ha;exact⟨r,je h1,h2⟩
 |succ k ih=>
  rcases hs j a (by omega) ha with⟨a',h1,h2⟩|⟨r,h1,h2⟩
  ·obtain⟨r,h3,h4⟩:=ih (j+1) (by omega) a' h2 (by omega);exact⟨r,(kZ h1).trans h3,h4⟩
  ·exact⟨r,je h1,h2⟩
theorem bS{α:Type}{w:Nat}{s:Sl α}(hs:s.l= []∨s.sz=w){j:Nat}(hj:j<s.l.length):atS w s (j:Int)=some s.l[j]:=by
 have hw:s.sz=w:=hs.resolve_left (by intro h;rw [h]at hj;simp at hj);unfold atS;rw [if_pos ⟨by omega,hw⟩];simp
theorem Cs{α:Type}{l:List α}{j:Nat}(hj:j<l.length):atL l (j:Int)=some l[j]:=by
 unfold atL;rw [if_pos (by omega)];simp
theorem dn{α:Type}{l m:List α}(h:l.length+m.length≤bi):app l m=some (l++m):=by unfold app;rw [if_pos h]
theorem cd{j n:Nat}(h:j<n)(hn:n≤9223372036854775807):IntKind.i64.wrap ((j:Int)+1)=((j+1:Nat):Int):=by rw [wrap64 (by omega) (by omega)];rfl
def neL{α:Type}(l:List α):Option Unit:=
 match l with
 | []=>none
 |_::_=>some ()
theorem LA{α:Type}{l:List α}(h:l≠[]):neL l=some ():=by
 cases l with
 |nil=>exact absurd rfl h
 |cons a l=>rfl
end Ev
end
noncomputable section
namespace Ev
open Go Go.RowKit
section
variable {E : Env} {y : Nat → dI} {n nt : Nat} {f : Nat → D} {L : BL}
def Ct(nt:Nat)(f:Nat→D)(l:List Operand):Option (List C):=l.mapM fun x=>do match←ov nt f x with| .one c=>some c|_=>none
theorem NC{fn:Fn}{first cap:Array Operand}{fs cs:List C}(h1:Ct nt f first.toList=some fs)(h2:Ct nt f cap.toList=some cs):PS E n nt f L (.makeFunc fn first cap) (.one (.clo fn fs cs)):=fun h nid hb=>by
 show((first.toList.mapM fun x=>(ar (ay (tab nt f)) x).bind fun d=>match d with| .one c=>some c|_=>none).bind fun a=>(cap.toList.mapM fun x=>(ar (ay (tab nt f)) x).bind fun d=>match d with| .one c=>some c|_=>none).bind fun b=>some (⟨.one (.clo fn a b),[]⟩:Eff))=_;rw [ez];have h1':(first.toList.mapM fun x=>(ov nt f x).bind fun d=>match d with| .one c=>some c|_=>none)=some fs:=h1;have h2':(cap.toList.mapM fun x=>(ov nt f x).bind fun d=>match d with| .one c=>some c|_=>none)=some cs:=h2;rw [h1',h2'];rfl
def LB(k:IntKind)(a:Int):Int:=PX k (if k.signed then -1 else k.max) a
theorem ND{ty:TypeId}{x:Operand}{fr:Bool}{k:IntKind}{a:Int}(hx:ov nt f x=some (.one (.p fr (.v (.int k a))))):PS E n nt f L (.unOp .xor ty x) (iD k (LB k a)):=fun h nid hb=>by
 show((ar (ay (tab nt f)) x).bind fun d=>(plain d).bind fun v=>(am E.P (Op.unary .xor v)).bind mkO)=_;rw [bk,hx];cases k<;>rfl
def fA(args:List D):Nat→D:=fun i=>args.getD i bE
theorem Qd{args:List D}{k:Nat}(hl:args.length≤k):args++List.replicate (k - args.length) bE=tab k (fA args):=by
 rw [KX (args++List.replicate (k - args.length) bE)];have hlen:(args++List.replicate (k - args.length) bE).length=k:=by simp;omega
 rw [hlen];refine List.ext_getElem? fun i=> ?_;rw [jF,jF];split
 ·rename_i hi;congr 1;unfold fA;rw [List.getD_eq_getElem?_getD,List.getD_eq_getElem?_getD,List.getElem?_append];split
  ·rfl
  ·rename_i hge;rw [List.getElem?_replicate,if_pos (by omega),List.getElem?_eq_none (by omega)];rfl
 ·rfl
def Ol(E:Env)(y:Nat→dI)(n nt:Nat)(ops:Array Oper)(r:List Oper)(K:St→Prop)(f:Nat→D)(d:Nat)(rv:List ResultVar):Ex→St→Prop:=fun e s=>(e= .normal∨e= .ret)∧∃ds,rv.mapM (bN E s)=some ds∧jo E y n ops r K {t:=tab nt (up f d (iJ ds)),h:=s.h}
variable {ops : Array Oper} {o : Oper} {r : List Oper} {K : St → Prop} {d : Nat} {Q : Ex → St → Prop}
theorem sR{b:Bool}(h:eV ops o nt f=some b):eG ops (ay (tab nt f)) o=some b:=by
 obtain⟨g,g1,g2⟩:=dN h;unfold gOf at g1;unfold eG
 cases ho:o.guard with
 |none=>rw [ho]at g1;simp only [zsI]at g1;subst g1;exact g2
 |some p=>
  obtain⟨j,w⟩:=p;rw [ho]at g1;simp only [Option.map_eq_some_iff]at g1;obtain⟨d,h1,h2⟩:=g1;subst h2;rw [zbE]at h1;obtain⟨o',h3,h4⟩:=h1;have h3':ops[j]? =some o':=by simpa using h3
  simp only [h3',h4,zbB,zbS];exact g2
theorem Jo{cp:bG}{c:Call}{nid:Nat}{H:ah}(hw:eV ops o nt f=some true)(hc:aK o.op=some c):step E cp ops nid o (ay (tab nt f)) H=gP cp nid c (ay (tab nt f)) H:=by
 unfold step;rw [sR hw];simp only [zbB,zbS,if_true,hc]
def tw(f:Nat→D):List Tmp→List D→Nat→D
 |p::ps,d::ds=>tw (up f p d) ps ds
 |_,_=>f
end
theorem dp{k b j:Nat}(h:k<b):k≠b+j:=by omega
theorem LC{b i j:Nat}(h:Nat.beq i j=false):b+i≠b+j:=by have:=Nat.ne_of_beq_eq_false h;omega
theorem Cu{k:Nat}:k ∉([]:List Nat):=by simp
theorem wY{k m:Nat}{l:List Nat}(h1:k≠m)(h2:k ∉ l):k ∉ m::l:=fun h=>by
 rcases List.mem_cons.1 h with h|h
 ·exact h1 h
 ·exact h2 h
theorem ck{b:Nat}:∀k∈([]:List Nat),k<b:=fun k h=>by simp at h
theorem wZ{b m:Nat}{l:List Nat}(h1:m<b)(h2:∀k∈l,k<b):∀k∈m::l,k<b:=fun k h=>by
 rcases List.mem_cons.1 h with h|h
 ·subst h;exact h1
 ·exact h2 k h
theorem HG{b:Nat}:∀l∈([]:List (List Nat)),∀k∈l,k<b:=fun k h=>by simp at h
theorem bu{b:Nat}{a:List Nat}{O:List (List Nat)}(h1:∀k∈a,k<b)(h2:∀l∈O,∀k∈l,k<b):∀l∈a::O,∀k∈l,k<b:=fun l h=>by
 rcases List.mem_cons.1 h with h|h
 ·subst h;exact h1
 ·exact h2 l h
theorem djE{O:List (List Nat)}{r:List Nat}:∀j∈r,∀x∈([]:List Nat),x ∉ O.getD j []:=fun c _ x h=>by simp at h
theorem djN{O:List (List Nat)}{a:List Nat}:∀j∈([]:List Nat),∀x∈a,x ∉ O.getD j []:=fun c h=>by simp at h
section
variable {X Up KT : Type} {nt : Nat}
variable {ex : Ex} {S : X → KT → (Nat → D) → Nat → D} {SL : X → KT → BL} {J : Up → Ex → St → Prop} {G : Up → Ex → St → Prop}
end
end Ev
end
noncomputable section
namespace Ev
namespace K
open Go Go.RowKit
inductive Ty where
 |I (k:IntKind)
 |B
 |S (e:Ty)
 |U
 |C (x y:Ty)
 deriving DecidableEq,Inhabited
namespace Ty
@[reducible] def val:Ty→Type
 | .I _=>Int
 | .B=>Bool
 | .S e=>Sl e.val
 | .U=>Unit
 | .C x y=>x.val×y.val
def size:Ty→Nat
 | .U=>0
 | .C x y=>x.size+y.size
 |_=>1
def row:(t:Ty)→t.val→List T
 | .I k,x=> [iT k x]
 | .B,x=> [bT x]
 | .S e,x=> [Sl.t e.row x]
 | .U,_=> []
 | .C a b,x=>a.row x.1++b.row x.2
def zero:(t:Ty)→t.val
 | .I _=>(0:Int)
 | .B=>false
 | .S _=>⟨false,0,[]⟩
 | .U=>()
 | .C a b=>(a.zero,b.zero)
def plain:Ty→Bool
 | .S _=>false
 | .C a b=>a.plain && b.plain
 |_=>true
end Ty
def fg(t t':Ty)(x:t.val):Option t'.val:=if h:t=t' then some (h▸x)else none
inductive KC where
 |n (k:IntKind) (x:Int)
 |b (v:Bool)
 |p (tag:Nat) (P:Prop) (d:Decidable P)
 |bv (x:Bool)
 |v (x:Value)
 |nil
 |s (e:Ty) (fr:Bool) (x:Sl e.val)
 |o (e:Ty) (p:Nat)
 |m (e:Ty) (p:Nat)
 |ptr (p j:Nat)
 |pe (p:Nat) (i:Int) (j:Nat)
 |ip (e:Ty) (fr:Bool) (x:Sl e.val) (i:Int) (y:e.val) (j:Nat)
 |clo (fn:FuncId) (ps:List Nat)
 |yld (p:Nat)
inductive KD where
 |one (c:KC)
 |agg (cs:List KC)
 |tup (ds:List (Bool×List KC))
inductive KB where
 |box (cs:List KC)
 |rows (e:Ty) (ne:Bool) (l:List e.val)
 |mrows (e:Ty) (l:List e.val)
 |dead
structure KS where
 sl:List (Nat×KD)
 bl:List (Nat×KB)
 nx:Nat
structure KF where
 nt:Nat:=0
 sl:List (Nat×KD):= []
 bl:List (Nat×KB):= []
def ae{α:Type}:List (Nat×α)→Nat→Option α
 | [],_=>none
 |x::r,i=>cond (Nat.beq x.1 i) (some x.2) (ae r i)
def aT{α:Type}(l m:List (Nat×α))(i:Nat):Option α:=
 match ae l i with
 |some a=>some a
 |none=>ae m i
def jf(F:KF)(ks:KS)(i:Nat):Option KD:=aT ks.sl F.sl i
def ao(F:KF)(ks:KS)(p:Nat):Option KB:=
 match aT ks.bl F.bl p with
 |some .dead=>none
 |x=>x
def bU(fr:Bool):(e:Ty)→e.val→List KC
 | .I k,x=> [.n k x]
 | .B,x=> [.bv x]
 | .S e,x=> [.s e fr x]
 | .U,_=> []
 | .C a b,x=>bU fr a x.1++bU fr b x.2
def lg(B:Nat→Option KB):(e:Ty)→KC→Option e.val
 | .I k,.n k' x=>if k=k' then some x else none
 | .B,.b v=>some v
 | .B,.p _ P d=>some (@decide P d)
 | .B,.bv x=>some x
 | .S e,.nil=>some ⟨false,0,[]⟩
 | .S e,.s e' _ x=>fg (.S e') (.S e) x
 | .S e,.o _ p=>match B p with
  |some (.rows e' _ l)=>fg (.S e') (.S e) ⟨true,e'.size,l⟩
  |_=>none
 | .S e,.m _ p=>match B p with
  |some (.mrows e' l)=>fg (.S e') (.S e) (mo e'.size l)
  |_=>none
 |_,_=>none
def dec(B:Nat→Option KB):(e:Ty)→List KC→Option e.val
 | .U,[]=>some ()
 | .C a b,cs=>(dec B a (cs.take a.size)).bind fun x=>(dec B b (cs.drop a.size)).bind fun y=>some (x,y)
 |e,[c]=>lg B e c
 |_,_=>none
def noB:Nat→Option KB:=fun _=>none
def frC:KC→Bool
 | .s _ fr _=>fr
 |_=>true
def qx:KC→Bool
 | .n .. | .b _| .p .. | .bv _| .v _| .nil| .s .. =>true
 |_=>false
abbrev TyD:=Bool×Ty
@[reducible] def aE:List TyD→Type
 | []=>Unit
 | [t]=>t.2.val
 |t::r=>t.2.val×aE r
def kA(t:TyD)(x:t.2.val):TD:=
 match t with
 |(true,e)=> .agg (e.row x)
 |(false,e)=>match e.row x with
  | [y]=> .one y
  |ys=> .agg ys
def bp:(ts:List TyD)→aE ts→List TD
 | [],_=> []
 | [t],x=> [kA t x]
 |t::t'::r,x=>kA t x.1::bp (t'::r) x.2
def mkD(x:Bool×List KC):KD:=
 match x with
 |(true,cs)=> .agg cs
 |(false,[c])=> .one c
 |(false,cs)=> .agg cs
def LE(fr:Bool)(t:TyD)(x:t.2.val):Bool×List KC:=(t.1,bU fr t.2 x)
def ml(fr:Bool):(ts:List TyD)→aE ts→List (Bool×List KC)
 | [],_=> []
 | [t],x=> [LE fr t x]
 |t::t'::r,x=>LE fr t x.1::ml fr (t'::r) x.2
def Cv(B:Nat→Option KB)(t:TyD):KD→Option t.2.val
 | .one c=>if t.1 then none else lg B t.2 c
 | .agg cs=>if t.1 then dec B t.2 cs else none
 | .tup _=>none
def jH(B:Nat→Option KB):(ts:List TyD)→List KD→Option (aE ts)
 | [],[]=>some ()
 | [t],[d]=>Cv B t d
 |t::t'::r,d::ds=>(Cv B t d).bind fun x=>(jH B (t'::r) ds).bind fun y=>some (x,y)
 |_,_=>none
def qy:KD→Bool
 | .one c=>qx c
 | .agg cs=>cs.all qx
 | .tup _=>false
inductive OutK where
 |data (fr:Bool) (ts:List TyD)
 |own (e:Ty)
 |mown (e:Ty)
 |gown (e:Ty)
@[reducible] def OutK.val:OutK→Type
 | .data _ ts=>aE ts
 | .own e=>List e.val
 | .mown e=>List e.val
 | .gown e=>Sl e.val
structure aF where
 k:FuncId
 ins:List TyD
 out:OutK
 f:aE ins→Option out.val
 d:Nat
structure KG where
 ti:List (Nat×TI)
 eqs:List (Nat×List IntKind)
 fns:List aF
 fi:List (FuncId×FI)
def KG.fn(G:KG)(k:FuncId):Option aF:=G.fns.find? fun e=>Nat.beq e.k k
def NE(ti:List (Nat×TI)):Nat→TypeId→Option Ty
 |0,_=>none
 |n+1,t=>match ae ti t with
  |none=>none
  |some i=>match i.desc with
   | .int k=>some (.I k)
   | .bool=>some .B
   | .slice e=>(NE ti n e).map .S
   | .array m e=>(NE ti n e).bind fun x=>prod (List.replicate m x)
   | .struct fs=>(seqO (fs.toList.map fun f=>NE ti n f.type)).bind prod
   |_=>none
where
 prod:List Ty→Option Ty
  | []=>some .U
  | [x]=>some x
  |x::y::r=>(prod (y::r)).map (.C x)
 seqO:List (Option Ty)→Option (List Ty)
  | []=>some []
  |none::_=>none
  |some x::r=>(seqO r).map (x::·)
def KG.ty(G:KG)(t:TypeId):Option Ty:=NE G.ti 9 t
def KG.elem(G:KG)(t:TypeId):Option (TypeId×Ty×Nat):=
 match ae G.ti t with
 |some i=>match aL i with
  |some e=>match ae G.ti e with
   |some te=>(G.ty e).map fun x=>(e,x,te.size)
   |none=>none
  |none=>none
 |none=>none
structure KE where
 v:KD
 upd:Option (Nat×KB):=none
 new:Option KB:=none
def kC:Value→KC
 | .int k n=> .n k n
 | .bool b=> .b b
 | .slice none 0 0=> .nil
 |x=> .v x
def rU:Value→Option KD
 | .agg cs=>if cs.toList.all one1 then some (.agg (cs.toList.map kC))else none
 | .tuple _=>none
 |v=>some (.one (kC v))
def kO(F:KF)(ks:KS):Operand→Option KD
 | .tmp i=>jf F ks i
 | .const v=>rU v
 | .global _=>none
 | .func f=>some (.one (.v (.func (.func f) #[] #[])))
def kUn:KD:= .tup []
def Qe(tag:Nat)(op:BinOp)(k k':IntKind)(a b:Int){R:Type}(κ:KE→Option R):Option R:=
 match op with
 | .shl=>(PV k a b).bind fun z=>κ ⟨.one (.n k z),none,none⟩
 | .shr=>(Er k a b).bind fun z=>κ ⟨.one (.n k z),none,none⟩
 |op=>if k=k' then match op with
  | .add=>κ ⟨.one (.n k (k.wrap (a+b))),none,none⟩
  | .sub=>κ ⟨.one (.n k (k.wrap (a - b))),none,none⟩
  | .mul=>κ ⟨.one (.n k (k.wrap (a*b))),none,none⟩
  | .and=>κ ⟨.one (.n k (Sf k a b)),none,none⟩
  | .or=>κ ⟨.one (.n k (orI k a b)),none,none⟩
  | .xor=>κ ⟨.one (.n k (PX k a b)),none,none⟩
  | .andNot=>κ ⟨.one (.n k (Hz k a b)),none,none⟩
  | .quo=>(PP k a b).bind fun z=>κ ⟨.one (.n k z),none,none⟩
  | .rem=>(ng a b).bind fun z=>κ ⟨.one (.n k z),none,none⟩
  | .eql=>κ ⟨.one (.p tag (a=b) (Int.instDecidableEq a b)),none,none⟩
  | .neq=>κ ⟨.one (.p tag (a≠b) (@instDecidableNot _ (Int.instDecidableEq a b))),none,none⟩
  | .lss=>κ ⟨.one (.p tag (a<b) (Int.decLt a b)),none,none⟩
  | .leq=>κ ⟨.one (.p tag (a≤b) (Int.decLe a b)),none,none⟩
  | .gtr=>κ ⟨.one (.p tag (a>b) (Int.decLt b a)),none,none⟩
  | .geq=>κ ⟨.one (.p tag (a ≥ b) (Int.decLe b a)),none,none⟩
  |_=>none
 else none
def xa:Operand→Bool
 | .const (.slice none 0 0)=>true
 |_=>false
def rV(op:BinOp)(tag:Nat)(P:Prop)(d:Decidable P):Option KC:=
 match op with
 | .eql=>some (.p tag P d)
 | .neq=>some (.p tag (¬P) (@instDecidableNot P d))
 |_=>none
def HH(op:BinOp)(v:Bool):Option KC:=
 match op with
 | .eql=>some (.b v)
 | .neq=>some (.b (!v))
 |_=>none
def eqP:List (Int×Int)→Prop
 | []=>True
 | [x]=>x.1=x.2
 |x::y::r=>x.1=x.2∧eqP (y::r)
def eqD:(l:List (Int×Int))→Decidable (eqP l)
 | []=> .isTrue trivial
 | [x]=>Int.instDecidableEq x.1 x.2
 |x::y::r=> @instDecidableAnd _ _ (Int.instDecidableEq x.1 x.2) (eqD (y::r))
def eT:List IntKind→List KC→List KC→Option (List (Int×Int))
 | [],[],[]=>some []
 |k::ks,.n k1 x::r,.n k2 y::s=>if k1=k∧k2=k then(eT ks r s).map ((x,y)::·)else none
 |_,_,_=>none
def HJ:KC→Option Bool
 | .b v=>some v
 | .p _ P d=>some (@decide P d)
 | .bv x=>some x
 |_=>none
def Cw(ti:List (Nat×TI))(t:TypeId):Bool:=match ae ti t with
 |some i=>match i.desc with
  | .bool=>true
  |_=>false
 |none=>false
def Nh(G:KG)(F:KF)(ks:KS)(tag:Nat)(op:BinOp)(ty:TypeId)(y:Operand)(a b:KD){R:Type}(κ:KE→Option R):Option R:=
 match a,b with
 | .one (.n k x),.one (.n k' x')=>Qe tag op k k' x x' κ
 | .one (.s e fr x),_=>match xa y,G.elem ty with
  |true,some _=>(rV op tag (x.nn=false) (instDecidableEqBool x.nn false)).bind fun c=>κ ⟨.one c,none,none⟩
  |_,_=>none
 | .one (.o e p),_=>match xa y,G.elem ty,ao F ks p with
  |true,some _,some (.rows _ _ _)=>(HH op false).bind fun c=>κ ⟨.one c,none,none⟩
  |_,_,_=>none
 | .one .nil,_=>match xa y,G.elem ty with
  |true,some _=>(HH op true).bind fun c=>κ ⟨.one c,none,none⟩
  |_,_=>none
 | .agg cs,.agg ds=>match ae G.eqs ty with
  |some kinds=>match eT kinds cs ds with
   |some l=>(rV op tag (eqP l) (eqD l)).bind fun c=>κ ⟨.one c,none,none⟩
   |none=>none
  |none=>none
 | .one c,.one d=>match Cw G.ti ty,HJ c,HJ d with
  |true,some x,some x'=>(rV op tag (x=x') (instDecidableEqBool x x')).bind fun c=>κ ⟨.one c,none,none⟩
  |_,_,_=>none
 |_,_=>none
def kOf(agg:Bool)(cs:List KC):Option KD:=
 if agg then some (.agg cs)else match cs with
  | [c]=>some (.one c)
  |_=>none
def kCs:KD→Option (List KC)
 | .one c=>some [c]
 | .agg cs=>some cs
 | .tup _=>none
def wd(z:Nat×Bool):Nat:=cond z.2 z.1 1
def LF(ti:List (Nat×TI))(t:TypeId):Option (Nat×Bool):=match ae ti t with
 |some i=>some (i.size,aH i.desc)
 |none=>none
def NF(ti:List (Nat×TI))(t:TypeId)(m:Nat):Option (Nat×Nat×Bool):=match ae ti t with
 |some i=>match gE i m with
  |some fd=>match ae ti fd.type with
   |some ft=>some (fd.offset,ft.size,aH ft.desc)
   |none=>none
  |none=>none
 |none=>none
def gh(F:KF)(ks:KS)(z:Nat×Bool)(a:KD){R:Type}(κ:KD→Option R):Option R:=
 match a with
 | .one (.ptr p j)=>match ao F ks p with
  |some (.box cs)=>((cut cs j (wd z)).bind (kOf z.2)).bind κ
  |_=>none
 | .one (.ip e fr x i y j)=>((cut (bU fr e y) j (wd z)).bind (kOf z.2)).bind κ
 | .one (.pe p i j)=>match ao F ks p with
  |some (.rows e _ l)=>(atL l i).bind fun y=>((cut (bU true e y) j (wd z)).bind (kOf z.2)).bind κ
  |some (.mrows e l)=>(atL l i).bind fun y=>((cut (bU true e y) j (wd z)).bind (kOf z.2)).bind κ
  |_=>none
 |_=>none
def wR(ks:KS)(sz:Nat)(a x:KD){R:Type}(κ:KE→Option R):Option R:=
 match kCs x with
 |none=>none
 |some cs=>if cs.length=sz then match a with
  | .one (.ptr p j)=>match ae ks.bl p with
   |some (.box es)=>(patch es j cs).bind fun es'=>κ ⟨kUn,some (p,.box es'),none⟩
   |_=>none
  | .one (.pe p i j)=>match ae ks.bl p with
   |some (.rows e ne l)=>if cs.all frC then(atL l i).bind fun y=>(patch (bU true e y) j cs).bind fun es'=>(dec noB e es').bind fun y'=>κ ⟨kUn,some (p,.rows e ne (l.set i.toNat y')),none⟩else none
   |some (.mrows e l)=>if cs.all frC then(atL l i).bind fun y=>(patch (bU true e y) j cs).bind fun es'=>(dec noB e es').bind fun y'=>κ ⟨kUn,some (p,.mrows e (l.set i.toNat y')),none⟩else none
   |_=>none
  |_=>none
 else none
def kPlaces(ti:List (Nat×TI))(t:TypeId):Option (Nat→Option (Nat×Nat)):=match ae ti t with
 |some i=>match i.desc with
  | .struct fs=>(seqP (fs.toList.map fun f=>match ae ti f.type with
   |some q=>some (f.offset,q.size)
   |none=>none)).map fun l n=>l[n]?
  | .array _ e=>match ae ti e with
   |some te=>some fun n=>some (n*te.size,te.size)
   |none=>none
  |_=>none
 |none=>none
where
 seqP:List (Option (Nat×Nat))→Option (List (Nat×Nat))
  | []=>some []
  |none::_=>none
  |some x::r=>(seqP r).map (x::·)
def Ey(place:Nat→Option (Nat×Nat))(cells:List KC):List (Nat×KD)→Option (List KC)
 | []=>some cells
 |(i,d)::r=>match place i,kCs d with
  |some (off,size),some cs=>if cs.length=size then(patch cells off cs).bind fun c=>Ey place c r else none
  |_,_=>none
def xb(F:KF)(ks:KS):List (Nat×Operand)→Option (List (Nat×KD))
 | []=>some []
 |(i,x)::r=>(kO F ks x).bind fun d=>(xb F ks r).bind fun l=>some ((i,d)::l)
def il(F:KF)(ks:KS):List Operand→Option (List KD)
 | []=>some []
 |x::r=>(kO F ks x).bind fun d=>(il F ks r).bind fun l=>some (d::l)
def mQ(e:Ty):List (List KC)→Option (List e.val)
 | []=>some []
 |cs::r=>if cs.all frC=true then(dec noB e cs).bind fun x=>(mQ e r).bind fun l=>some (x::l)else none
def zV(z:Nat)(cs:List KC):Nat→Nat→Option (List (List KC))
 |0,_=>some []
 |n+1,i=>(cut cs (i*z) z).bind fun a=>(zV z cs n (i+1)).bind fun l=>some (a::l)
def Cx(F:KF)(ks:KS)(e:Ty):KC→Option (List e.val×Bool)
 | .nil=>some ([],false)
 | .s e' fr x=>if(fr||e'.plain)=true then(fg (.S e') (.S e) x).map fun x=>(x.l,false)else none
 | .o _ p=>match ao F ks p with
  |some (.rows e' ne l)=>(fg (.S e') (.S e) ⟨true,0,l⟩).map fun x=>(x.l,ne)
  |_=>none
 | .m _ p=>match ao F ks p with
  |some (.mrows e' l)=>(fg (.S e') (.S e) ⟨true,0,l⟩).map fun x=>(x.l,false)
  |_=>none
 |_=>none
def Cy(F:KF)(ks:KS)(nid:Nat)(e:Ty)(a x:KC){R:Type}(κ:KE→Option R):Option R:=
 match Cx F ks e x with
 |none=>none
 |some (xs,ne)=>match a with
  | .nil=>(app [] xs).bind fun lm=>cond ne (κ ⟨.one (.o e nid),none,some (.rows e true lm)⟩) (κ ⟨.one (.m e nid),none,some (.mrows e lm)⟩)
  | .o _ p=>match ae ks.bl p with
   |some (.rows e' ne' l)=>(fg (.S e') (.S e) ⟨true,0,l⟩).bind fun l=>(app l.l xs).bind fun lm=>κ ⟨.one (.o e nid),some (p,.dead),some (.rows e (ne||ne') lm)⟩
   |_=>none
  | .m _ p=>match ae ks.bl p with
   |some (.mrows e' l)=>(fg (.S e') (.S e) ⟨true,0,l⟩).bind fun l=>(app l.l xs).bind fun lm=>cond ne (κ ⟨.one (.o e nid),some (p,.dead),some (.rows e true lm)⟩) (κ ⟨.one (.m e nid),some (p,.dead),some (.mrows e lm)⟩)
   |_=>none
  |_=>none
def Qf(F:KF)(ks:KS):KC→Option Int
 | .nil=>some 0
 | .s _ _ x=>some ((x.l.length:Nat):Int)
 | .o _ p=>match ao F ks p with
  |some (.rows _ _ l)=>some ((l.length:Nat):Int)
  |_=>none
 | .m _ p=>match ao F ks p with
  |some (.mrows _ l)=>some ((l.length:Nat):Int)
  |_=>none
 |_=>none
def xc(G:KG)(F:KF)(ks:KS)(nid:Nat)(c:Call)(b:Builtin)(args:List KD){R:Type}(κ:KE→Option R):Option R:=
 match c.argTypes[0]? with
 |none=>none
 |some ty=>match b,args with
  | .len,[.one x]=>match G.elem ty with
   |some _=>(Qf F ks x).bind fun n=>κ ⟨.one (.n .i64 n),none,none⟩
   |none=>none
  | .min,[.one (.n k x),.one (.n _ y)]=>match ae G.ti ty with
   |some _=>κ ⟨.one (.n k (za x y)),none,none⟩
   |none=>none
  | .max,[.one (.n k x),.one (.n _ y)]=>match ae G.ti ty with
   |some _=>κ ⟨.one (.n k (ui x y)),none,none⟩
   |none=>none
  | .append,[.one a,.one x]=>match G.elem ty,(c.argTypes[1]?).bind G.elem with
   |some (_,e,z),some _=>if e.size=z∧z≠0 then Cy F ks nid e a x κ else none
   |_,_=>none
  | .copy,[.one (.o _ p),.one x]=>match G.elem ty,(c.argTypes[1]?).bind G.elem,ae ks.bl p with
   |some (_,e,z),some _,some (.rows e' ne l)=>if e.size=z∧z≠0 then match Cx F ks e x with
    |some (xs,_)=>(fg (.S e') (.S e) ⟨true,0,l⟩).bind fun l=>(cpL l.l xs).bind fun lm=>κ ⟨.one (.n .i64 ((xs.length:Nat):Int)),some (p,.rows e ne lm),none⟩
    |none=>none
    else none
   |_,_,_=>none
  |_,_=>none
def LG:List (Bool×List KC)→KD
 | [d]=>mkD d
 |ds=> .tup ds
def Qg(nid:Nat):(o:OutK)→o.val→KE
 | .data fr ts,x=>⟨LG (ml fr ts x),none,none⟩
 | .own e,l=>⟨.one (.o e nid),none,some (.rows e false l)⟩
 | .mown e,l=>⟨.one (.m e nid),none,some (.mrows e l)⟩
 | .gown _,_=>⟨.one .nil,none,none⟩
def Gp(F:KF)(ks:KS)(nid:Nat)(en:aF)(args:List KD){R:Type}(κ:KE→Option R):Option R:=
 match en.out with
 | .data false _=>if args.all qy then(jH (ao F ks) en.ins args).bind fun a=>(en.f a).bind fun out=>κ (Qg nid en.out out)else none
 | .gown _=>none
 |_=>(jH (ao F ks) en.ins args).bind fun a=>(en.f a).bind fun out=>κ (Qg nid en.out out)
def mm(F:KF)(ks:KS)(c:Call):Option (FuncId×List KD):=
 match c.callee with
 | .value f=>match kO F ks f,il F ks c.args.toList with
  |some (.one (.v (.func (.func k) first cap))),some args=>if first.size=0∧cap.size=0 then some (k,args)else none
  |some (.one (.clo k ps)),some args=>some (k,args++ps.map fun p=> .one (.ptr p 0))
  |_,_=>none
 |_=>none
def HK:List KD→Option (List Nat)
 | []=>some []
 | .one (.ptr p j)::r=>if j=0 then(HK r).map (p::·)else none
 |_=>none
def xd(F:KF)(ks:KS)(o:Option Operand)(d:Int):Option Int:=
 match o with
 |none=>some d
 |some x=>match kO F ks x with
  |some (.one (.n _ i))=>some i
  |_=>none
def Qh{R:Type}(b:Bool)(n:Nat)(j m:Int)(x:Option R):Option R:=cond b (if j≤m∧m≤(n:Int)then x else none) x
theorem Jp{R:Type}{b:Bool}{n:Nat}{j m:Int}{x:Option R}{r:R}(h:Qh b n j m x=some r):x=some r∧(b=true→j≤m∧m≤(n:Int)):=by
 unfold Qh at h
 cases b with
 |false=>exact⟨h,fun h=>by simp at h⟩
 |true=>
  simp only [cond_true]at h;split at h
  ·rename_i hc;exact⟨h,fun _=>hc⟩
  ·simp at h
def bB(G:KG)(F:KF)(ks:KS)(tag nid:Nat)(op:Op){R:Type}(κ:KE→Option R):Option R:=
 match op with
 | .move x| .assign x=>(kO F ks x).bind fun d=>κ ⟨d,none,none⟩
 | .alloc t=>match ae G.ti t with
  |some i=>κ ⟨.one (.ptr nid 0),none,some (.box (i.zero.map kC))⟩
  |none=>none
 | .box t x=>match ae G.ti t,(kO F ks x).bind kCs with
  |some _,some cs=>κ ⟨.one (.ptr nid 0),none,some (.box cs)⟩
  |_,_=>none
 | .build t parts=>match ae G.ti t,kPlaces G.ti t,xb F ks parts.toList with
  |some i,some pl,some ps=>(Ey pl (i.zero.map kC) ps).bind fun cs=>κ ⟨.agg cs,none,none⟩
  |_,_,_=>none
 | .buildSlice t len parts=>match G.elem t,xb F ks parts.toList with
  |some (te,e,z),some ps=>match ae G.ti te with
   |some i=>if e.size=z∧z*len≤1000000 then(Ey (fun n=>some (n*z,z)) ((List.replicate len (i.zero.map kC)).flatten) ps).bind fun cs=>(zV z cs len 0).bind fun rs=>(mQ e rs).bind fun l=>κ ⟨.one (.o e nid),none,some (.rows e (Nat.blt 0 len) l)⟩else none
   |none=>none
  |_,_=>none
 | .load t a=>match LF G.ti t,kO F ks a with
  |some z,some d=>gh F ks z d fun v=>κ ⟨v,none,none⟩
  |_,_=>none
 | .store t a x=>match LF G.ti t,kO F ks a,kO F ks x with
  |some z,some d,some v=>wR ks z.1 d v κ
  |_,_,_=>none
 | .binOp op ty x y _=>match kO F ks x,kO F ks y with
  |some a,some b=>Nh G F ks tag op ty y a b κ
  |_,_=>none
 | .unOp op _ x=>match op,kO F ks x with
  | .not,some (.one (.b v))=>κ ⟨.one (.b (!v)),none,none⟩
  | .not,some (.one (.p _ P d))=>κ ⟨.one (.p tag (¬P) (@instDecidableNot P d)),none,none⟩
  | .not,some (.one (.bv x))=>κ ⟨.one (.p tag (¬x=true) (@instDecidableNot _ (instDecidableEqBool x true))),none,none⟩
  | .neg,some (.one (.n k x))=>κ ⟨.one (.n k (k.wrap (0 - x))),none,none⟩
  | .xor,some (.one (.n k x))=>κ ⟨.one (.n k (LB k x)),none,none⟩
  |_,_=>none
 | .convert src dst x=>match ae G.ti src,ae G.ti dst,kO F ks x with
  |some s,some d,some (.one (.n k a))=>match s.desc,d.desc with
   | .int k1,.int k2=>if k1=k then κ ⟨.one (.n k2 (k2.wrap a)),none,none⟩else none
   |_,_=>none
  |_,_,_=>none
 | .makeFunc fn first cap=>match fn,first.toList,(il F ks cap.toList).bind HK with
  | .func k,[],some ps=>κ ⟨.one (.clo k ps),none,none⟩
  |_,_,_=>none
 | .makeSlice t l c=>match G.elem t,kO F ks l,kO F ks c with
  |some (te,e,z),some (.one (.n _ n)),some (.one (.n _ m))=>match ae G.ti te with
   |some i=>if e.size=z∧z≠0 then(zS n m).bind fun _=>(wW n).bind fun _=>(dec noB e (i.zero.map kC)).bind fun x=>κ ⟨.one (.o e nid),none,some (.rows e false (List.replicate n.toNat x))⟩else none
   |none=>none
  |_,_,_=>none
 | .slice t x lo hi mx=>match mx.isSome && hi.isNone,G.elem t,kO F ks x with
  |false,some (te,e,z),some (.one (.s e' fr s))=>match xd F ks lo 0,xd F ks hi ((s.l.length:Nat):Int),xd F ks mx ((s.l.length:Nat):Int)with
   |some i,some j,some m=>Qh mx.isSome s.l.length j m ((uh z s i j).bind fun s'=>κ ⟨.one (.s e' fr s'),none,none⟩)
   |_,_,_=>none
  |_,_,_=>none
 | .fieldAddr t x f=>match NF G.ti t f,kO F ks x with
  |some (off,sz,_),some (.one (.ptr p j))=>if sz=0 then none else κ ⟨.one (.ptr p (j+off)),none,none⟩
  |some (off,sz,_),some (.one (.pe p i j))=>if sz=0 then none else κ ⟨.one (.pe p i (j+off)),none,none⟩
  |some (off,sz,_),some (.one (.ip e fr x i y j))=>if sz=0 then none else κ ⟨.one (.ip e fr x i y (j+off)),none,none⟩
  |_,_=>none
 | .field t x f=>match NF G.ti t f,kO F ks x with
  |some (off,sz,ag),some (.agg cs)=>((cut cs off (wd (sz,ag))).bind (kOf ag)).bind fun d=>κ ⟨d,none,none⟩
  |_,_=>none
 | .indexAddr t x ix=>match kO F ks x,kO F ks ix with
  |some (.one (.s e fr s)),some (.one (.n _ i))=>match G.elem t with
   |some (_,_,z)=>(atS z s i).bind fun y=>κ ⟨.one (.ip e fr s i y 0),none,none⟩
   |none=>none
  |some (.one (.o _ p)),some (.one (.n _ i))=>match G.elem t,ao F ks p with
   |some (_,_,z),some (.rows e _ l)=>if e.size=z then(atL l i).bind fun _=>κ ⟨.one (.pe p i 0),none,none⟩else none
   |_,_=>none
  |some (.one (.m _ p)),some (.one (.n _ i))=>match G.elem t,ao F ks p with
   |some (_,_,z),some (.mrows e l)=>if e.size=z then(atL l i).bind fun _=>κ ⟨.one (.pe p i 0),none,none⟩else none
   |_,_=>none
  |some (.one (.ptr p j)),some (.one (.n _ (.ofNat a)))=>match ae G.ti t with
   |some ti=>match ti.desc with
    | .array n e=>match ae G.ti e with
     |some te=>if a<n then κ ⟨.one (.ptr p (j+a*te.size)),none,none⟩else none
     |none=>none
    |_=>none
   |none=>none
  |some (.one (.ip e fr s i y j)),some (.one (.n _ (.ofNat a)))=>match ae G.ti t with
   |some ti=>match ti.desc with
    | .array n e'=>match ae G.ti e' with
     |some te=>if a<n then κ ⟨.one (.ip e fr s i y (j+a*te.size)),none,none⟩else none
     |none=>none
    |_=>none
   |none=>none
  |_,_=>none
 | .index t x ix=>match ae G.ti t,kO F ks x,kO F ks ix with
  |some ti,some (.agg cs),some (.one (.n _ (.ofNat a)))=>match ti.desc with
   | .array n e=>match ae G.ti e with
    |some te=>if a<n then((cut cs (a*te.size) (wd (te.size,aH te.desc))).bind (kOf (aH te.desc))).bind fun d=>κ ⟨d,none,none⟩else none
    |none=>none
   |_=>none
  |_,_,_=>none
 | .extract x i=>match kO F ks x with
  |some (.tup ds)=>(ds[i]?).bind fun d=>κ ⟨mkD d,none,none⟩
  |_=>none
 | .call c=>match c.callee with
  | .builtin b=>(il F ks c.args.toList).bind fun args=>xc G F ks nid c b args κ
  |_=>match mm F ks c with
   |some (k,args)=>match G.fn k with
    |some en=>Gp F ks nid en args κ
    |none=>none
   |none=>none
 |_=>none
def mn(tag:Nat)(v:Bool):KC→KC
 | .p t P d=>cond (Nat.beq t tag) (.b v) (.p t P d)
 |c=>c
def Qi(tag:Nat)(v:Bool):KD→KD
 | .one c=> .one (mn tag v c)
 | .agg cs=> .agg (cs.map (mn tag v))
 | .tup ds=> .tup ds
def LH(tag:Nat)(v:Bool):KB→KB
 | .box cs=> .box (cs.map (mn tag v))
 |b=>b
def subst(tag:Nat)(v:Bool)(ks:KS):KS:={ks with sl:=ks.sl.map fun x=>(x.1,Qi tag v x.2),bl:=ks.bl.map fun x=>(x.1,LH tag v x.2)}
def kIf(c:KC)(ks:KS){R:Type}(κ:Bool→KS→Option R):Option R:=
 match c with
 | .b v=>κ v ks
 | .p tag P d=> @ite _ P d (κ true (subst tag true ks)) (κ false (subst tag false ks))
 | .bv x=>if x=true then κ true ks else κ false ks
 |_=>none
def lG(tag:Nat):KD→KD
 | .one (.bv x)=> .one (.p tag (x=true) (instDecidableEqBool x true))
 |d=>d
def blU(e:KE)(bl:List (Nat×KB)):List (Nat×KB):=
 match e.upd with
 |some x=>x::bl
 |none=>bl
def blE(e:KE)(nid:Nat)(bl:List (Nat×KB)):List (Nat×KB):=
 match e.new with
 |some b=>(nid,b)::blU e bl
 |none=>blU e bl
def slE(dst:Option Tmp)(v:KD)(sl:List (Nat×KD)):List (Nat×KD):=
 match dst with
 |some d=>(d,v)::sl
 |none=>sl
def Gq(dst:Option Tmp)(tag nid:Nat)(e:KE)(ks:KS):KS:={sl:=slE dst (lG tag e.v) ks.sl,bl:=blE e nid ks.bl,nx:=ks.nx+2}
def gX(F:KF):Option Tmp→Bool
 |some d=>Nat.blt d F.nt
 |none=>true
def zW(dst:Option Tmp)(ks:KS):KS:={ks with sl:=slE dst kUn ks.sl}
def zX(F:KF)(op:Op)(ks:KS){R:Type}(κ:Op→KS→Option R):Option R:=
 match op with
 | .pick c a b=>match kO F ks c with
  |some (.one c)=>kIf c ks fun t ks=>κ (.move (cond t a b)) ks
  |_=>none
 |op=>κ op ks
def zY(F:KF)(ops:List Oper)(o:Oper)(ks:KS){R:Type}(κ:Bool→KS→Option R):Option R:=
 cond (gX F o.dst) (match o.guard with
 |none=>κ true ks
 |some (j,w)=>match(ops[j]?).bind fun g=>g.dst with
  |some d=>match jf F ks d with
   |some (.one c)=>kIf c ks fun b ks=>κ (b==w) ks
   |some (.tup [])=>κ false ks
   |_=>none
  |none=>none) none
abbrev zZ:=(R:Type)→KF→FuncId→List KD→KS→(KD→KS→Option R)→Option R
def xe(G:KG)(F:KF)(ks:KS)(op:Op):Option (FuncId×List KD):=
 match op with
 | .call c=>match c.callee with
  | .builtin _=>none
  |_=>match mm F ks c with
   |some (k,args)=>match ae G.fi k with
    |some _=>some (k,args)
    |none=>none
   |none=>none
 |_=>none
def zb(G:KG)(call:zZ)(F:KF)(ops:List Oper){R:Type}(κ:KS→Option R):List Oper→KS→Option R
 | [],ks=>κ ks
 |o::r,ks=>zY F ops o ks fun w ks=>cond w
   (zX F o.op ks fun op ks=>match xe G F ks op with
    |some (k,args)=>match o.dst with
     |some d=>call R F k args ks fun v ks2=>zb G call F ops κ r {ks2 with sl:=(d,v)::ks.sl}
     |none=>none
    |none=>bB G F ks ks.nx (ks.nx+1) op fun e=>zb G call F ops κ r (Gq o.dst ks.nx (ks.nx+1) e ks))
   (zb G call F ops κ r (zW o.dst ks))
def mq(G:KG)(F:KF)(ops:List Oper){R:Type}(κ:KS→Option R):List Oper→KS→Option R
 | [],ks=>κ ks
 |o::r,ks=>zY F ops o ks fun w ks=>cond w
   (zX F o.op ks fun op ks=>bB G F ks ks.nx (ks.nx+1) op fun e=>match e.upd,e.new with
    |none,none=>mq G F ops κ r (Gq o.dst ks.nx (ks.nx+1) e ks)
    |_,_=>none)
   (mq G F ops κ r (zW o.dst ks))
end K
end Ev
end
end Go.Proofs.Ythkgcllekhnecaa
