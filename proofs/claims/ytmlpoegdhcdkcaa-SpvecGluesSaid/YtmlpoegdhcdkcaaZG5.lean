/- Texts of a claim, joined. -/
import Derived.Test.YtmlpoegdhcdkcaaZG4
import Derived.Laws.StructEq
set_option linter.unusedVariables false
set_option linter.unusedSimpArgs false
namespace Go.Proofs.Ytmlpoegdhcdkcaa
noncomputable section
namespace Ev
open Go Go.RowKit
section
variable {E : Env} {y : Nat → cR} {n nt : Nat} {f : Nat → D} {L : BL}
theorem Ej{x:Operand}{v:D}(hx:ov nt f x=some v):PS E n nt f L (.move x) v:=λh nid hb=>by
 rw [Eb,aT,hx];rfl
theorem xQ{x:Operand}{v:D}(hx:ov nt f x=some v):PS E n nt f L (.assign x) v:=λh nid hb=>by
 rw [Ec,aT,hx];rfl
theorem Gm{c a b:Operand}{fr:Bool}{v:D}(hc:ov nt f c=some (.one (.p fr (.v (.bool true)))))(hx:ov nt f a=some v):PS E n nt f L (.pick c a b) v:=λh nid hb=>by
 rw [zE,aT,hc,aT,hx];rfl
theorem Gn{c a b:Operand}{fr:Bool}{v:D}(hc:ov nt f c=some (.one (.p fr (.v (.bool false)))))(hx:ov nt f b=some v):PS E n nt f L (.pick c a b) v:=λh nid hb=>by
 rw [zE,aT,hc,aT (x:=b),hx];rfl
theorem fy{op:BinOp}{ty sh:TypeId}{x y:Operand}{fa fb:Bool}{ka kb:IntKind}{a b:Int}{v:Value}(hx:ov nt f x=some (.one (.p fa (.v (.int ka a)))))(hy:ov nt f y=some (.one (.p fb (.v (.int kb b)))))
  (hp:ae E.P (do eqGuard op ty x y (.int ka a) (.int kb b);binOp op ty (.int ka a) (.int kb b))=some v) (h1:one1 v=true):PS E n nt f L (.binOp op ty x y sh) (mk v):=λh nid hb=>by
 rw [xL,aT,hx,aT,hy];refine Eq.trans (b:=oH E.P E.ti op ty x y (.one (.p fa (.v (.int ka a)))) (.one (.p fb (.v (.int kb b))))) rfl ?_;rw [Iv,hp];show mkO v=_;unfold mkO;rw [if_pos h1]
theorem Gp{P:Program}{ti:TypeId->Option TI}{op:BinOp}{ty:TypeId}{x y:Operand}{fr fr':Bool}{a b:Bool}:
  oH P ti op ty x y (.one (.p fr (.v (.bool a)))) (.one (.p fr' (.v (.bool b))))=(ae P (do eqGuard op ty x y (.bool a) (.bool b);binOp op ty (.bool a) (.bool b))).bind mkO:=rfl
theorem Ek{op:BinOp}{ty sh:TypeId}{x y:Operand}{fa fb:Bool}{a b:Bool}{v:Value}(hx:ov nt f x=some (.one (.p fa (.v (.bool a)))))(hy:ov nt f y=some (.one (.p fb (.v (.bool b)))))
  (hp:ae E.P (do eqGuard op ty x y (.bool a) (.bool b);binOp op ty (.bool a) (.bool b))=some v) (h1:one1 v=true):PS E n nt f L (.binOp op ty x y sh) (mk v):=λh nid hb=>by
 rw [xL,aT,hx,aT,hy];refine Eq.trans (b:=oH E.P E.ti op ty x y (.one (.p fa (.v (.bool a)))) (.one (.p fb (.v (.bool b))))) rfl ?_;rw [Gp,hp];show mkO v=_;unfold mkO;rw [if_pos h1]
theorem IB{P:Program}{ti:TypeId->Option TI}{op:BinOp}{ty:TypeId}{x y:Operand}{a b:List C}:oH P ti op ty x y (.agg a) (.agg b)=(plain (.agg a)).bind λva=>(plain (.agg b)).bind λvb=>(ae P (do eqGuard op ty x y va vb;binOp op ty va vb)).bind mkO:=rfl
theorem wg{op:BinOp}{ty sh:TypeId}{x y:Operand}{a b:List C}{va vb v:Value}(hx:ov nt f x=some (.agg a))(hy:ov nt f y=some (.agg b))(ha:plain (.agg a)=some va)(hb':plain (.agg b)=some vb)
  (hp:ae E.P (do eqGuard op ty x y va vb;binOp op ty va vb)=some v) (h1:one1 v=true):PS E n nt f L (.binOp op ty x y sh) (mk v):=λh nid hb=>by
 rw [xL,aT,hx,aT,hy];refine Eq.trans (b:=oH E.P E.ti op ty x y (.agg a) (.agg b)) rfl ?_;rw [IB,ha,hb'];simp only [zbS];rw [hp];show mkO v=_;unfold mkO;rw [if_pos h1]
theorem xR{ty:TypeId}{x:Operand}{fr b:Bool}(hx:ov nt f x=some (.one (.p fr (.v (.bool b))))):PS E n nt f L (.unOp .not ty x) (bD (!b)):=λh nid hb=>by
 show((av (aw (tab nt f)) x).bind λd=>(plain d).bind λv=>(ae E.P (Op.unary .not v)).bind mkO)=_;rw [aT,hx];rfl
theorem Mg{ty:TypeId}{x:Operand}{fr:Bool}{k:IntKind}{a:Int}(hx:ov nt f x=some (.one (.p fr (.v (.int k a))))):PS E n nt f L (.unOp .neg ty x) (iD k (k.wrap (0 - a))):=λh nid hb=>by
 show((av (aw (tab nt f)) x).bind λd=>(plain d).bind λv=>(ae E.P (Op.unary .neg v)).bind mkO)=_;rw [aT,hx];rfl
theorem IC{src dst:TypeId}{x:Operand}{fr:Bool}{k:IntKind}{a:Int}{v:Value}(hx:ov nt f x=some (.one (.p fr (.v (.int k a)))))(hp:ae E.P (Go.convert src dst (.int k a))=some v)(h1:one1 v=true):PS E n nt f L (.convert src dst x) (mk v):=λh nid hb=>by
 show((av (aw (tab nt f)) x).bind λd=>(plain d).bind λv=>match v with
  | .int .. =>(ae E.P (Go.convert src dst v)).bind mkO
  |_=>none)=_
 rw [aT,hx];show(ae E.P (Go.convert src dst (.int k a))).bind mkO=_;rw [hp];show mkO v=_;unfold mkO;rw [if_pos h1]
theorem ao{ty:TypeId}{x:Operand}{m k i j off sz:Nat}{ag:Bool}(hx:ov nt f x=some (.one (.ptr k i j)))(ht:fieldAt E.ti ty m=some (off,sz,ag))(hz:Nat.beq sz 0=false):PS E n nt f L (.fieldAddr ty x m) (.one (.ptr k i (j+off))):=λh nid hb=>by
 rw [AE,aT,hx,ht];show(if sz=0 then none else _)=_;rw [if_neg (Nat.ne_of_beq_eq_false hz)]
theorem gD{ty:TypeId}{x:Operand}{m i j off sz s:Nat}{fr:Bool}{l:List (List T)}{ag:Bool}(hx:ov nt f x=some (.one (.iptr fr s l i j)))(ht:fieldAt E.ti ty m=some (off,sz,ag))(hz:Nat.beq sz 0=false):PS E n nt f L (.fieldAddr ty x m) (.one (.iptr fr s l i (j+off))):=λh nid hb=>by
 rw [AE,aT,hx,ht];show(if sz=0 then none else _)=_;rw [if_neg (Nat.ne_of_beq_eq_false hz)]
theorem El{ty:TypeId}{x:Operand}{m off sz:Nat}{cs c2:List C}{ag:Bool}{v:D}(hx:ov nt f x=some (.agg cs))(ht:fieldAt E.ti ty m=some (off,sz,ag))(hc:cut cs off (cond ag sz 1)=some c2)(hv:bJ ag c2=some v):PS E n nt f L (.field ty x m) v:=λh nid hb=>by
 show((E.ti ty).bind λt=>(fK t m).bind λfd=>(E.ti fd.type).bind λft=>(av (aw (tab nt f)) x).bind λd=>match d with
  | .agg cs=>(cut cs fd.offset (if aL ft.desc then ft.size else 1)).bind λc=>(bJ (aL ft.desc) c).bind λv=>some (⟨v,[]⟩:Eff)
  |_=>none)=_
 unfold fieldAt at ht;simp only [zbE,zsI,Prod.mk.injEq]at ht;obtain⟨t,h1,fd,h2,ft,h3,rfl,rfl,rfl⟩:=ht;rw [h1,aT,hx];simp only [zbS,h2,h3]
 have hc':cut cs fd.offset (if aL ft.desc then ft.size else 1)=some c2:=by
  rw [<-hc];cases aL ft.desc<;>rfl
 rw [hc'];simp only [zbS,hv]
theorem wh{α:Type}(b:Bool)(x y:α):(if b=true then x else y)=cond b x y:=by cases b<;>rfl
theorem pG{ty:TypeId}{x:Operand}{k i j sz bz:Nat}{ag:Bool}{es:List (List C)}{e cs:List C}{v:D}(p:Nat)(hx:ov nt f x=some (.one (.ptr k i j)))(hz:cY E.ti ty=some (sz,ag))(hp:L[p]? =some [(k,bz,es)])(he:es[i]? =some e)(hc:cut e j (cond ag sz 1)=some cs)(hv:bJ ag cs=some v):PS E n nt f L (.load ty x) v:=λh nid hb=>by
 rw [Ee,aT,hx,hz];show vX (kOf ag (zC j (if ag then sz else 1) (Iu i (aq h k))))=_;rw [hb.get hp,wh];show vX (kOf ag (zC j (cond ag sz 1) es[i]?))=_;rw [he];show vX (kOf ag (cut e j (cond ag sz 1)))=_;rw [hc];show vX (bJ ag cs)=_;rw [hv];rfl
theorem dE{ty:TypeId}{x:Operand}{i j sz s:Nat}{fr ag:Bool}{l:List (List T)}{e:List T}{cs:List C}{v:D}(hx:ov nt f x=some (.one (.iptr fr s l i j)))(hz:cY E.ti ty=some (sz,ag))(he:l[i]? =some e)(hc:cut (e.map (pC fr)) j (cond ag sz 1)=some cs)(hv:bJ ag cs=some v):PS E n nt f L (.load ty x) v:=λh nid hb=>by
 rw [Ee,aT,hx,hz];show vX (kOf ag (zC j (if ag then sz else 1) (kIn fr l[i]?)))=_;rw [he,wh];show vX (kOf ag (cut (e.map (pC fr)) j (cond ag sz 1)))=_;rw [hc];show vX (bJ ag cs)=_;rw [hv];rfl
theorem gr{ty:TypeId}{a x:Operand}{k i j sz bz:Nat}{ag:Bool}{es es':List (List C)}{e e' cs:List C}{v:D}(p:Nat)(ha:ov nt f a=some (.one (.ptr k i j)))(hx:ov nt f x=some v)(hd:eA v=some cs)(hz:cY E.ti ty=some (sz,ag))(hs:Nat.beq cs.length sz=true)(hp:L[p]? =some [(k,bz,es)])(he:es[i]? =some e)(ht:patch e j cs=some e')(hes:es.set i e'=es'):PW E n nt f L (.store ty a x) bh p k bz es':=⟨⟨_,hp⟩,λh nid hb=>by
 rw [Gg,aT,ha,aT,hx,hz];show Gf k i j sz (eA v) (aq h k)=_;rw [hd,hb.get hp];show(if cs.length=sz then Ea k i bz es (zD j cs es[i]?)else none)=_;rw [if_pos (Nat.eq_of_beq_eq_true hs),he];show Ea k i bz es (patch e j cs)=_;rw [ht];subst hes
 rfl⟩
theorem dF{ty:TypeId}{t:TI}{row:List C}{sz:Nat}(ht:E.ti ty=some t)(hr:fO t=row)(hs:t.size=sz):PN E n nt f L (.alloc ty) (λk=> .one (.ptr k 0 0)) sz [row]:=λh nid hb=>by
 show((E.ti ty).bind λt=>some (⟨.one (.ptr nid 0 0),[(nid,.own t.size [fO t])]⟩:Eff))=_;rw [ht];subst hr hs;rfl
theorem oK{ty:TypeId}{x:Operand}{t:TI}{d:D}{cs:List C}{sz:Nat}(ht:E.ti ty=some t)(hx:ov nt f x=some d)(hc:eA d=some cs)(hs:cs.length=sz):PN E n nt f L (.box ty x) (λk=> .one (.ptr k 0 0)) sz [cs]:=λh nid hb=>by
 show((E.ti ty).bind λt=>(av (aw (tab nt f)) x).bind λd=>(eA d).bind λcs=>some (⟨.one (.ptr nid 0 0),[(nid,.own cs.length [cs])]⟩:Eff))=_;rw [ht,aT,hx];simp only [zbS,hc];subst hs;rfl
def pH(nt:Nat)(f:Nat->D)(l:List (Nat×Operand)):Option (List (Nat×D)):=l.mapM λ((i,x):Nat×Operand)=>(ov nt f x).map λd=>(i,d)
theorem gu{ty:TypeId}{parts:Array (Nat×Operand)}{t:TI}{ps:List (Nat×D)}{pl:Nat->Option (Nat×Nat)}{cs:List C}(ht:E.ti ty=some t)(hps:pH nt f parts.toList=some ps)(hpl:iz E.ti t=some pl)(hf:fill pl (fO t) ps=some cs):PS E n nt f L (.build ty parts) (.agg cs):=λh nid hb=>by
 show((E.ti ty).bind λt=>(parts.toList.mapM λ((i,x):Nat×Operand)=>(av (aw (tab nt f)) x).map λd=>(i,d)).bind λps=>(iz E.ti t).bind λpl=>(fill pl (fO t) ps).bind λcs=>some (⟨.agg cs,[]⟩:Eff))=_;rw [ht,dq];simp only [zbS];have h1:(parts.toList.mapM λ((i,x):Nat×Operand)=>(ov nt f x).map λd=>(i,d))=some ps:=hps;simp only [h1,zbS,hpl,hf]
theorem dS{ti:TypeId->Option TI}{ty z:Nat}(h:cG ti ty=some z):∃t e te,ti ty=some t/\aG t=some e/\ti e=some te/\te.size=z:=by
 unfold cG at h;simp only [zbE,zsI]at h;obtain⟨t,h1,e,h2,te,h3,h4⟩:=h;exact⟨t,e,te,h1,h2,h3,h4⟩
theorem mK{ty ety:TypeId}{len z:Nat}{parts:Array (Nat×Operand)}{t te:TI}{ps:List (Nat×D)}{cs:List C}{es:List (List C)}(ht:E.ti ty=some t)(he:aG t=some ety)(hte:E.ti ety=some te)(hz:te.size=z)(hps:pH nt f parts.toList=some ps)(hf:fill (λi=>some (i*z,z)) (ku te len) ps=some cs)(hr:ng z cs len=some es)(hl:Nat.ble (len*z) 16777216=true):PN E n nt f L (.buildSlice ty len parts) (λk=> .one (.own k 0 len)) z es:=λh nid hb=>by
 show((E.ti ty).bind λt=>(aG t).bind λx=>(E.ti x).bind λe=>(parts.toList.mapM λ((i,x):Nat×Operand)=>(av (aw (tab nt f)) x).map λd=>(i,d)).bind λps=>(fill (λi=>some (i*e.size,e.size)) (ku e len) ps).bind λcs=>(ng e.size cs len).bind λes=>if len*e.size<=2 ^ 24 then some (⟨.one (.own nid 0 len),[(nid,.own e.size es)]⟩:Eff)else none)=_;subst hz;rw [ht,dq];have h1:(parts.toList.mapM λ((i,x):Nat×Operand)=>(ov nt f x).map λd=>(i,d))=some ps:=hps;simp only [zbS,he,hte,h1,hf,hr];rw [if_pos (Nat.le_of_ble_eq_true hl)]
theorem xS{x:Operand}{i:Nat}{ds:List D}{v:D}(hx:ov nt f x=some (.tup ds))(hi:ds[i]? =some v):PS E n nt f L (.extract x i) v:=λh nid hb=>by
 show((av (aw (tab nt f)) x).bind λd=>match d with
  | .tup ds=>(ds[i]?).bind λv=>some (⟨v,[]⟩:Eff)
  |_=>none)=_
 rw [aT,hx];show(ds[i]?).bind _=_;rw [hi];rfl
theorem cK{α β:Type}{r:α->β}{l:List α}{i:Nat}{x:α}(h:l[i]? =some x):(l.map r)[i]? =some (r x):=by rw [List.getElem?_map,h];rfl
theorem Em{α:Type}{l:List α}{i:Nat}{x:α}(h:l[i]? =some x):i<l.length:=(List.getElem?_eq_some_iff.1 h).1
theorem map_set{α β:Type}{r:α->β}{l:List α}{i:Nat}{x:α}:(l.map r).set i (r x)=(l.set i x).map r:=(List.map_set).symm
theorem gT{α:Type}{r:α->List T}{ty:TypeId}{x ix:Operand}{fr fb nn:Bool}{sz:Nat}{l:List α}{kb:IntKind}{i:Int}{y:α}(hx:ov nt f x=some (.one (.p fr (.s nn sz (l.map r)))))(hi:ov nt f ix=some (.one (.p fb (.v (.int kb i)))))(h0:0<=i)(hy:l[i.toNat]? =some y)(hz:cG E.ti ty=some sz):PS E n nt f L (.indexAddr ty x ix) (.one (.iptr fr sz (l.map r) i.toNat 0)):=λh nid hb=>by
 rw [pF,aT,hx,aT,hi];show kIx E.ti ty h _ (eD (.one (.p fb (.v (.int kb i)))))=_;rw [eo _ _ _ h0];refine Eq.trans (b:=xK E.ti ty h i.toNat (.one (.p fr (.s nn sz (l.map r))))) rfl ?_;rw [MU,hz];show(if i.toNat<(l.map r).length/\sz=sz then _ else _)=_;rw [if_pos ⟨by rw [List.length_map];exact Em hy,rfl⟩]
theorem En{α:Type}{r:α->List C}{ty:TypeId}{x ix:Operand}{fb:Bool}{k sz:Nat}{l:List α}{kb:IntKind}{i:Int}{y:α}(p:Nat)(hx:ov nt f x=some (.one (.own k 0 l.length)))(hi:ov nt f ix=some (.one (.p fb (.v (.int kb i)))))(h0:0<=i)(hy:l[i.toNat]? =some y)(hp:L[p]? =some [(k,sz,l.map r)])(hz:cG E.ti ty=some sz):PS E n nt f L (.indexAddr ty x ix) (.one (.ptr k i.toNat 0)):=λh nid hb=>by
 rw [pF,aT,hx,aT,hi];show kIx E.ti ty h _ (eD (.one (.p fb (.v (.int kb i)))))=_;rw [eo _ _ _ h0];refine Eq.trans (b:=xK E.ti ty h i.toNat (.one (.own k 0 l.length))) rfl ?_;rw [MV,hz,hb.get hp];show(if i.toNat<l.length/\sz=sz then _ else _)=_;rw [if_pos ⟨Em hy,rfl⟩,Nat.zero_add]
theorem Eo{c:Call}{a:Operand}{ty e:TypeId}{t:TI}{d:D}{m:Nat}(hc:c.callee= .builtin .len)(ha:c.args.toList= [a])(hty:c.argTypes[0]? =some ty)(ht:E.ti ty=some t)(hd:t.desc= .slice e)(hx:ov nt f a=some d)(hl:sk d=some m):PS E n nt f L (.call c) (iD .i64 m):=λh nid hb=>by
 have h1:aI (.call c)=none:=by unfold aI;simp only [hc]
 rw [gB,h1];unfold sem qY;simp only [hc,hty,ht,ha,dq,zbB,zbS,List.mapM_cons,List.mapM_nil,hx,Option.pure_def,hd,hl];rfl
theorem zI{α:Type}{r:α->List T}{fr nn:Bool}{sz:Nat}{l:List α}:sk (.one (.p fr (.s nn sz (l.map r))))=some l.length:=by
 show some (l.map r).length=_;rw [List.length_map]
theorem gf{α:Type}{r:α->List T}{c:Call}{a:Operand}{ty e:TypeId}{t:TI}{fr nn:Bool}{sz:Nat}{l:List α}(hx:ov nt f a=some (.one (.p fr (.s nn sz (l.map r)))))(ht:E.ti ty=some t)(hd:t.desc= .slice e)(hc:c.callee= .builtin .len)(ha:c.args.toList= [a])(hty:c.argTypes[0]? =some ty):PS E n nt f L (.call c) (iD .i64 l.length):=Eo hc ha hty ht hd hx zI
def re(L:BL)(x:D)(xs:List (List C)):Prop:=∀h,HB h L->gO h x=some xs
theorem gU{α:Type}{r:α->List C}{k sz:Nat}{l:List α}(p:Nat)(hp:L[p]? =some [(k,sz,l.map r)]):re L (.one (.own k 0 l.length)) (l.map r):=λh hb=>by
 show((aq h k).bind λx=>cut x.2 0 l.length)=_;rw [hb.get hp];show cut (l.map r) 0 l.length=_;unfold cut;rw [if_pos (by simp),List.drop_zero,List.take_of_length_le (by simp)]
theorem ID{c:Call}{a x:Operand}{ty ty1 z e1:TypeId}{t1:TI}{fr:Bool}{bz:Nat}{d:D}{xs:List (List C)}(ha:ov nt f a=some (.one (.p fr (.s false bz []))))(hx:ov nt f x=some d)(hxs:re L d xs)(hne:∃y ys,xs=y::ys)(hb:xs.length<=cz)(hall:xs.all (·.length==z)=true)(hz:cG E.ti ty=some z)(ht1:E.ti ty1=some t1)(he1:aG t1=some e1)
  (hc:c.callee= .builtin .append) (hargs:c.args.toList= [a,x]) (hty:c.argTypes[0]? =some ty) (hty1:c.argTypes[1]? =some ty1):PN E n nt f L (.call c) (λk=> .one (.own k 0 xs.length)) z xs:=λh nid hh=>by
 obtain⟨t,e,te,g1,g2,g3,g4⟩:=dS hz;have h1:aI (.call c)=none:=by unfold aI;simp only [hc]
 rw [gB,h1];unfold sem qY;simp only [hc,hty,g1,hargs,dq,zbB,zbS,List.mapM_cons,List.mapM_nil,ha,hx,Option.pure_def,g2,g3,hty1,ht1,he1,g4];unfold Ev.append;simp only [hxs h hh,zbB,zbS];obtain⟨y,ys,rfl⟩:=hne;rw [if_neg (by simp),if_neg (by simp),if_pos hb,if_pos hall]
theorem Ep{c:Call}{a x:Operand}{ty ty1 z e1:TypeId}{t1:TI}{fr:Bool}{bz:Nat}{d:D}(ha:ov nt f a=some (.one (.p fr (.s false bz []))))(hx:ov nt f x=some d)(hxs:re L d [])(hz:cG E.ti ty=some z)(ht1:E.ti ty1=some t1)(he1:aG t1=some e1)
  (hc:c.callee= .builtin .append) (hargs:c.args.toList= [a,x]) (hty:c.argTypes[0]? =some ty) (hty1:c.argTypes[1]? =some ty1):PS E n nt f L (.call c) (.one (.p fr (.s false bz []))):=λh nid hh=>by
 obtain⟨t,e,te,g1,g2,g3,g4⟩:=dS hz;have h1:aI (.call c)=none:=by unfold aI;simp only [hc]
 rw [gB,h1];unfold sem qY;simp only [hc,hty,g1,hargs,dq,zbB,zbS,List.mapM_cons,List.mapM_nil,ha,hx,Option.pure_def,g2,g3,hty1,ht1,he1,g4];unfold Ev.append;simp only [hxs h hh,zbB,zbS];rw [if_neg (by simp),if_pos (show([]:List (List C)).length=0 from rfl)]
theorem Er{α:Type}{r:α->List C}{c:Call}{a x:Operand}{ty ty1 z e1:TypeId}{t1:TI}{k:Nat}{l m lm:List α}{d:D}{xs:List (List C)}(p:Nat)(ha:ov nt f a=some (.one (.own k 0 l.length)))(hx:ov nt f x=some d)(hxs:re L d xs)(hm:xs=m.map r)(hp:L[p]? =some [(k,z,l.map r)])(hlm:app l m=some lm)(hr:∀y,(r y).length=z)(hz:cG E.ti ty=some z)(ht1:E.ti ty1=some t1)(he1:aG t1=some e1)
  (hc:c.callee= .builtin .append) (hargs:c.args.toList= [a,x]) (hty:c.argTypes[0]? =some ty) (hty1:c.argTypes[1]? =some ty1) (hz0:Nat.beq z 0=false:=by rfl):PA E n nt f L (.call c) (λk'=> .one (.own k' 0 lm.length)) p k z (lm.map r):=⟨⟨_,hp⟩,λh nid hh=>by
 obtain⟨t,e,te,g1,g2,g3,g4⟩:=dS hz;obtain⟨hb,rfl⟩:=cJ hlm;have h1:aI (.call c)=none:=by unfold aI;simp only [hc]
 rw [gB,h1];unfold sem qY;simp only [hc,hty,g1,hargs,dq,zbB,zbS,List.mapM_cons,List.mapM_nil,ha,hx,Option.pure_def,g2,g3,hty1,ht1,he1,g4];unfold Ev.append;simp only [hxs h hh,zbB,zbS,hh.get hp,hm];rw [if_pos ⟨trivial,by simp,by simpa using hb,trivial,by simp [hr],Nat.ne_of_beq_eq_false hz0⟩]
 simp⟩
theorem Cu{α:Type}{r:α->List C}{ty:Nat}{x y:Operand}{t te:TI}{ety z:Nat}{fa fb:Bool}{ka kb:IntKind}{i:Int}{a:α}(ht:E.ti ty=some t)(he:aG t=some ety)(hte:E.ti ety=some te)(hx:ov nt f x=some (.one (.p fa (.v (.int ka i)))))(hy:ov nt f y=some (.one (.p fb (.v (.int kb i)))))(h0:0<=i)(hi:i.toNat<=cz)(hz:fO te=r a)(hs:te.size=z):PN E n nt f L (.makeSlice ty x y) (λk=> .one (.own k 0 (List.replicate i.toNat a).length)) z ((List.replicate i.toNat a).map r):=λh nid hb=>by
 show((E.ti ty).bind λt=>(aG t).bind λq=>(E.ti q).bind λe=>(av (aw (tab nt f)) x).bind λdx=>(eD dx).bind λn=>(av (aw (tab nt f)) y).bind λdy=>(eD dy).bind λm=>if n<=m/\m<=cz then some (⟨.one (.own nid 0 n),[(nid,.own e.size (List.replicate n (fO e)))]⟩:Eff)else none)=_;rw [ht];simp only [zbS,he,hte,aT,hx,hy,eo _ _ _ h0];rw [if_pos ⟨Nat.le_refl _,hi⟩,List.length_replicate,List.map_replicate,hz,hs]
theorem Gq{α:Type}{r:α->List C}{ty:Nat}{x y:Operand}{t te:TI}{ety z:Nat}{fa fb:Bool}{ka kb:IntKind}{i j:Int}{a:α}(ht:E.ti ty=some t)(he:aG t=some ety)(hte:E.ti ety=some te)(hx:ov nt f x=some (.one (.p fa (.v (.int ka i)))))(hy:ov nt f y=some (.one (.p fb (.v (.int kb j)))))(h0:0<=i)(hij:i<=j)(hj:j.toNat<=cz)(hz:fO te=r a)(hs:te.size=z):PN E n nt f L (.makeSlice ty x y) (λk=> .one (.own k 0 (List.replicate i.toNat a).length)) z ((List.replicate i.toNat a).map r):=λh nid hb=>by
 show((E.ti ty).bind λt=>(aG t).bind λq=>(E.ti q).bind λe=>(av (aw (tab nt f)) x).bind λdx=>(eD dx).bind λn=>(av (aw (tab nt f)) y).bind λdy=>(eD dy).bind λm=>if n<=m/\m<=cz then some (⟨.one (.own nid 0 n),[(nid,.own e.size (List.replicate n (fO e)))]⟩:Eff)else none)=_;rw [ht];simp only [zbS,he,hte,aT,hx,hy,eo _ _ _ h0,eo _ _ _ (show 0<=j by omega)];rw [if_pos ⟨by omega,hj⟩,List.length_replicate,List.map_replicate,hz,hs]
def Vw(L:BL)(ds:List D)(vs:List (Bool×TD)):Prop:=∀h,HB h L->ds.mapM (bn h)=some vs
theorem ck:Vw L [] []:=λh hb=>rfl
theorem aM{d:D}{ds:List D}{v:Bool×TD}{vs:List (Bool×TD)}(h1:∀h,HB h L->bn h d=some v)(h2:Vw L ds vs):Vw L (d::ds) (v::vs):=λh hb=>by
 rw [List.mapM_cons,h1 h hb,h2 h hb];rfl
def VwC(L:BL)(cs:List C)(vs:List (Bool×T)):Prop:=∀h,HB h L->∀m,cs.mapM (cu h (m+2))=some vs
theorem eB:VwC L [] []:=λh hb m=>rfl
theorem aS{c:C}{cs:List C}{v:Bool×T}{vs:List (Bool×T)}(h1:∀h,HB h L->∀m,cu h (m+2) c=some v)(h2:VwC L cs vs):VwC L (c::cs) (v::vs):=λh hb m=>by
 rw [List.mapM_cons,h1 h hb m,h2 h hb m];rfl
theorem fF{x:Value}:∀h,HB h L->∀m,cu h (m+2) (.p true (.v x))=some (true,.v x):=λh hb m=>rfl
theorem iP{fr nn:Bool}{sz:Nat}{l:List (List T)}:∀h,HB h L->∀m,cu h (m+2) (.p fr (.s nn sz l))=some (fr,.s nn sz l):=λh hb m=>rfl
theorem xT{α β γ:Type}{r:α->List β}{q:α->List γ}{g:β->Option (Bool×γ)}(hq:∀x,(r x).mapM g=some ((q x).map λt=>(true,t))):∀l:List α,((l.map r).mapM λe=>e.mapM g)=some ((l.map q).map λe=>e.map λt=>(true,t))
 | []=>rfl
 |x::l=>by
  rw [List.map_cons,List.mapM_cons,hq x,xT hq l];rfl
theorem rg{α:Type}{r:α->List T}{k sz:Nat}{l:List α}(p:Nat)(hp:L[p]? =some [(k,sz,l.map (bA r))])(hr:∀x h m,(bA r x).mapM (cu h (m+1))=some ((r x).map λt=>(true,t))):∀h,HB h L->∀m,cu h (m+2) (.own k 0 l.length)=some (true,.s true sz (l.map r)):=λh hb m=>by
 have hc:cut (l.map (bA r)) 0 l.length=some (l.map (bA r)):=by
  unfold cut;rw [if_pos (by simp),List.drop_zero,List.take_of_length_le (by simp)]
 have e1:cu h (m+2) (.own k 0 l.length)=(aq h k).bind λx=>(cut x.2 0 l.length).bind λes=>(es.mapM λe:List C=>e.mapM (cu h (m+1))).bind λq=>some (q.all (λe=>e.all (·.1)),T.s true x.1 (q.map (λe=>e.map (·.2)))):=rfl;rw [e1,hb.get hp];simp only [zbS,hc];rw [xT (q:=r) λx=>hr x h m];simp only [zbS,List.map_map];congr 2
 .rw [List.all_eq_true];intro x hx;simp only [List.mem_map]at hx;obtain⟨y,_,rfl⟩:=hx;rw [List.all_eq_true];intro z hz;simp only [Function.comp,List.mem_map]at hz;obtain⟨w,_,rfl⟩:=hz;rfl
 .congr 1;refine List.map_congr_left λx hx=> ?_;simp [Function.comp_def]
theorem dr{c:C}{b:Bool}{t:T}(h1:∀h,HB h L->∀m,cu h (m+2) c=some (b,t)):∀h,HB h L->bn h (.one c)=some (b,.one t):=λh hb=>by
 show(cu h 6 c).bind _=_;rw [h1 h hb 4];rfl
theorem eC{cs:List C}{vs:List (Bool×T)}(h1:VwC L cs vs):∀h,HB h L->bn h (.agg cs)=some (vs.all (·.1),.agg (vs.map (·.2))):=λh hb=>by
 show(cs.mapM (cu h 6)).bind _=_;rw [h1 h hb 4];rfl
def xU(E:Env)(n:Nat)(k:FuncId)(vs:List TD)(rs:List TD):Prop:=∃fr:Bool,RunsP E n k vs (cond fr .fresh .any,rs)
theorem nQ{c:Call}{k:FuncId}{args:List D}{vs:List (Bool×TD)}{r:Kind×List TD}{e:Nat->Eff}(hc:aI (.call c)=some c)(hr:aW c (ov nt f)=some (k,args))(hv:Vw L args vs)(hk:cpR E n k (vs.map (·.2))=some r)
  (he:∀nid,(match r.1 with
   | .own=>match r.2 with
    | [.one (.s true sz l)]=>some ({v:= .one (.own nid 0 l.length),upd:= [(nid,.own sz (l.map (·.map (pC true))))]}:Eff)
    |_=>none
   | .fresh=>some {v:=eZ (r.2.map (bu true))}
   | .any=>if args.any gb then none else some {v:=eZ (r.2.map (bu (vs.all (·.1))))})=some (e nid)):∀(h:aj) (nid:Nat),HB h L->stepG E (cpR E n) none nid (.call c) (aw (tab nt f)) h=some (e nid):=λh nid hb=>by
 rw [gB,hc];show fx (cpR E n) nid c (aw (tab nt f)) h=_;unfold fx;rw [dq,hr];simp only [zbB,zbS,hv h hb,hk];exact he nid
theorem AL{c:Call}{k:FuncId}{args:List D}{vs:List (Bool×TD)}{vs2 rs:List TD}{v:D}(hk:RunsP E n k vs2 (.fresh,rs))(hc:aI (.call c)=some c)(hr:aW c (ov nt f)=some (k,args))(hv:Vw L args vs)(h2:vs.map (·.2)=vs2)(hrv:eZ (rs.map (bu true))=v):PS E n nt f L (.call c) v:=λh nid hb=>by
 subst hrv h2;exact nQ (e:=λ_=>⟨_,[]⟩) hc hr hv (hZ hk) (λ_=>rfl) h nid hb
theorem AM{c:Call}{k:FuncId}{args:List D}{vs:List (Bool×TD)}{vs2 rs:List TD}{v:Bool->D}(hk:xU E n k vs2 rs)(hc:aI (.call c)=some c)(hr:aW c (ov nt f)=some (k,args))(hv:Vw L args vs)(h2:vs.map (·.2)=vs2)(ho:args.any gb=false)(hrv:∀fr,eZ (rs.map (bu fr))=v fr):∃fr,PS E n nt f L (.call c) (v fr):=by
 obtain⟨fr,hk⟩:=hk
 cases fr with
 |true=>exact⟨true,AL hk hc hr hv h2 (hrv true)⟩
 |false=>
  subst h2;refine⟨vs.all (·.1),λh nid hb=> ?_⟩;rw [<-hrv];refine nQ (e:=λ_=>⟨_,[]⟩) hc hr hv (hZ hk) (λ_=> ?_) h nid hb;show(if args.any gb=true then none else _)=_;rw [ho];rfl
theorem wi{α:Type}{r:α->List T}{c:Call}{k:FuncId}{args:List D}{vs:List (Bool×TD)}{vs2:List TD}{sz:Nat}{l:List α}(hk:RunsP E n k vs2 (.own,[.one (.s true sz (l.map r))]))(hc:aI (.call c)=some c)(hr:aW c (ov nt f)=some (k,args))(hv:Vw L args vs)(h2:vs.map (·.2)=vs2):PN E n nt f L (.call c) (λk'=> .one (.own k' 0 l.length)) sz (l.map (bA r)):=λh nid hb=>by
 subst h2
 have:=nQ (e:=λnid=>⟨.one (.own nid 0 (l.map r).length),[(nid,.own sz ((l.map r).map (·.map (pC true))))]⟩) hc hr hv (hZ hk) (λ_=>rfl) h nid hb
 rw [List.length_map,List.map_map]at this;exact this
def Mh(E:Env)(rv:List ResultVar)(rs:List TD):Ex->St->Prop:=λe s=>∃fr:Bool,im E rv (cond fr .fresh .any,rs) e s
def wk(E:Env)(nt:Nat)(f:Nat->D)(L:BL)(rv:List ResultVar)(ds:List D):Prop:=∀h,HB h L->rv.mapM (br E {t:=tab nt f,h:=h})=some ds
theorem dG:wk E nt f L [] []:=λh hb=>rfl
theorem gV{t:Tmp}{d:D}{rv:List ResultVar}{ds:List D}(ht:ov nt f (.tmp t)=some d)(h:wk E nt f L rv ds):wk E nt f L (.tmp t::rv) (d::ds):=λH hb=>by
 have:(tab nt f)[t]? =some d:=(aT nt f (.tmp t)).trans ht
 rw [List.mapM_cons,h H hb];show((tab nt f)[t]?).bind _=_;rw [this];rfl
theorem dw{t:Tmp}{ty:TypeId}{k i j sz bz:Nat}{ag:Bool}{es:List (List C)}{e cs:List C}{d:D}{rv:List ResultVar}{ds:List D}(p:Nat)(ht:ov nt f (.tmp t)=some (.one (.ptr k i j)))(hz:cY E.ti ty=some (sz,ag))(hp:L[p]? =some [(k,bz,es)])(he:es[i]? =some e)(hc:cut e j (cond ag sz 1)=some cs)(hv:bJ ag cs=some d)(h:wk E nt f L rv ds):wk E nt f L (.cell t ty::rv) (d::ds):=λH hb=>by
 have h1:(tab nt f)[t]? =some (.one (.ptr k i j)):=(aT nt f (.tmp t)).trans ht;unfold cY at hz;simp only [zbE,zsI,Prod.mk.injEq]at hz;obtain⟨ti,g1,rfl,rfl⟩:=hz;rw [List.mapM_cons,h H hb];show(((E.ti ty).bind λt'=>((tab nt f)[t]?).bind λd=>load H (aL t'.desc) (if aL t'.desc then t'.size else 1) d).bind _)=_;rw [g1,h1];simp only [zbS,load,hb.get hp,zbB,he,wh,hc,hv];rfl
theorem ls{rv:List ResultVar}{ds:List D}{vs:List (Bool×TD)}{e:Ex}{rs:List TD}(he:e= .normal∨e= .ret)(hr:wk E nt f L rv ds)(hv:Vw L ds vs)(ho:∀h,HB h L->bk h ds=false)(hf:vs.all (·.1)=true)(hrs:vs.map (·.2)=rs):cP nt (im E rv (.fresh,rs)) e f L:=λH hb=>by
 have key:bm (λl:Kind×List TD=>l=(.fresh,rs)) ((rv.mapM (br E {t:=tab nt f,h:=H})).bind λrs=>(rs.mapM (bn H)).map λl=>(if bk H rs then .own else if l.all (·.1)then .fresh else .any,l.map (·.2))):=by
  rw [hr H hb];simp only [zbS,hv H hb,Option.map_some,ho H hb,hf,hrs];rfl
 rcases he with rfl|rfl<;>exact key
theorem wl{rv:List ResultVar}{ds:List D}{vs:List (Bool×TD)}{e:Ex}{rs:List TD}(he:e= .normal∨e= .ret)(hr:wk E nt f L rv ds)(hv:Vw L ds vs)(ho:∀h,HB h L->bk h ds=false)(hrs:vs.map (·.2)=rs):cP nt (Mh E rv rs) e f L:=λH hb=>by
 have key:bm (λl:Kind×List TD=>l=(cond (vs.all (·.1)) .fresh .any,rs)) ((rv.mapM (br E {t:=tab nt f,h:=H})).bind λrs=>(rs.mapM (bn H)).map λl=>(if bk H rs then .own else if l.all (·.1)then .fresh else .any,l.map (·.2))):=by
  rw [hr H hb];simp only [zbS,hv H hb,Option.map_some,ho H hb,hrs];show(_,_)=(_,_);cases vs.all (·.1)<;>rfl
 refine⟨vs.all (·.1),?_⟩;rcases he with rfl|rfl<;>exact key
theorem IE{α:Type}{r:α->List T}{rv:List ResultVar}{k sz:Nat}{l:List α}{e:Ex}(p:Nat)(he:e= .normal∨e= .ret)(hr:wk E nt f L rv [.one (.own k 0 l.length)])(hp:L[p]? =some [(k,sz,l.map (bA r))])(hr2:∀x h m,(bA r x).mapM (cu h (m+1))=some ((r x).map λt=>(true,t)))(hpl:∀x,(bA r x).all nh=true):cP nt (im E rv (.own,[.one (.s true sz (l.map r))])) e f L:=λH hb=>by
 have ho:bk H [.one (.own k 0 l.length)]=true:=by
  simp [bk,hb.get hp,hpl]
 have key:bm (λl':Kind×List TD=>l'=(.own,[.one (.s true sz (l.map r))])) ((rv.mapM (br E {t:=tab nt f,h:=H})).bind λrs=>(rs.mapM (bn H)).map λl=>(if bk H rs then .own else if l.all (·.1)then .fresh else .any,l.map (·.2))):=by
  rw [hr H hb];have hv: [D.one (.own k 0 l.length)].mapM (bn H)=some [(true,.one (.s true sz (l.map r)))]:=aM (dr (rg p hp hr2)) ck H hb;simp only [zbS,hv,Option.map_some,ho];rfl
 rcases he with rfl|rfl<;>exact key
theorem Gr{d e:D}{ds:List D}{h:aj}:bk h (d::e::ds)=false:=by
 unfold bk;split
 .rename_i hx;simp at hx
 .rfl
theorem Gs{cs:List C}{h:aj}:bk h [.agg cs]=false:=rfl
theorem Mi{fr:Bool}{t:T}{h:aj}:bk h [.one (.p fr t)]=false:=rfl
def f0(vs:List TD):Nat->D:=λi=>(vs.map (bu false)).getD i bh
theorem xV{k:FuncId}{fi:FI}{vs rs:List TD}(ha:E.ax k=none)(hf:E.fn k=some fi)(hl:Nat.ble vs.length fi.nt=true)(h:WpL E nY n fi.nt fi.body (im E fi.results (.fresh,rs)) (f0 vs) []):RunsP E (n+1) k vs (.fresh,rs):=jz ha hf (Nat.le_of_ble_eq_true hl) (h [] ⟨List.nodup_nil,λx hx=>by simp at hx⟩)
theorem Ds{k:FuncId}{fi:FI}{vs rs:List TD}(ha:E.ax k=none)(hf:E.fn k=some fi)(hl:Nat.ble vs.length fi.nt=true)(h:WpL E nY n fi.nt fi.body (im E fi.results (.own,rs)) (f0 vs) []):RunsP E (n+1) k vs (.own,rs):=jz ha hf (Nat.le_of_ble_eq_true hl) (h [] ⟨List.nodup_nil,λx hx=>by simp at hx⟩)
theorem Mj{k:FuncId}{fi:FI}{vs rs:List TD}(ha:E.ax k=none)(hf:E.fn k=some fi)(hl:Nat.ble vs.length fi.nt=true)(h:WpL E nY n fi.nt fi.body (Mh E fi.results rs) (f0 vs) []):xU E (n+1) k vs rs:=by
 obtain⟨e,s',h1,fr,h2⟩:=h [] ⟨List.nodup_nil,λx hx=>by simp at hx⟩;exact⟨fr,jz ha hf (Nat.le_of_ble_eq_true hl) ⟨e,s',h1,h2⟩⟩
end
section
variable (P : Program) (t : TypeId) (x y : Operand) (k : IntKind) {a b : Int}
theorem Gt(h:a<b):ae P (do eqGuard .lss t x y (.int k a) (.int k b);binOp .lss t (.int k a) (.int k b))=some (.bool true):=by rw [DO,decide_eq_true h]
theorem Gu(h:¬a<b):ae P (do eqGuard .lss t x y (.int k a) (.int k b);binOp .lss t (.int k a) (.int k b))=some (.bool false):=by rw [DO,decide_eq_false h]
theorem Gv(h:a<=b):ae P (do eqGuard .leq t x y (.int k a) (.int k b);binOp .leq t (.int k a) (.int k b))=some (.bool true):=by rw [DP,decide_eq_true h]
theorem Gw(h:¬a<=b):ae P (do eqGuard .leq t x y (.int k a) (.int k b);binOp .leq t (.int k a) (.int k b))=some (.bool false):=by rw [DP,decide_eq_false h]
theorem Gx(h:a>b):ae P (do eqGuard .gtr t x y (.int k a) (.int k b);binOp .gtr t (.int k a) (.int k b))=some (.bool true):=by rw [DQ,decide_eq_true h]
theorem Gy(h:¬a>b):ae P (do eqGuard .gtr t x y (.int k a) (.int k b);binOp .gtr t (.int k a) (.int k b))=some (.bool false):=by rw [DQ,decide_eq_false h]
theorem Gz(h:a >= b):ae P (do eqGuard .geq t x y (.int k a) (.int k b);binOp .geq t (.int k a) (.int k b))=some (.bool true):=by rw [DR,decide_eq_true h]
theorem GA(h:¬a >= b):ae P (do eqGuard .geq t x y (.int k a) (.int k b);binOp .geq t (.int k a) (.int k b))=some (.bool false):=by rw [DR,decide_eq_false h]
theorem GB(h:a=b):ae P (do eqGuard .eql t x y (.int k a) (.int k b);binOp .eql t (.int k a) (.int k b))=some (.bool true):=by rw [DS,h];simp
theorem GC(h:¬a=b):ae P (do eqGuard .eql t x y (.int k a) (.int k b);binOp .eql t (.int k a) (.int k b))=some (.bool false):=by rw [DS];simp [h]
theorem GD(h:a≠b):ae P (do eqGuard .neq t x y (.int k a) (.int k b);binOp .neq t (.int k a) (.int k b))=some (.bool true):=by rw [DT];simp [h]
theorem GE(h:¬a≠b):ae P (do eqGuard .neq t x y (.int k a) (.int k b);binOp .neq t (.int k a) (.int k b))=some (.bool false):=by rw [DT,Classical.not_not.1 h];simp
end
def mo{α:Type}(w:Nat)(l:List α):Sl α:=
 match l with
 | []=>⟨false,0,[]⟩
 |_::_=>⟨true,w,l⟩
def moC{α:Type}(l:List α)(k:Nat):C:=
 match l with
 | []=> .p true (.s false 0 [])
 |_::_=> .own k 0 l.length
def moL{α:Type}(r:α->List T)(w:Nat)(l:List α)(k:Nat):List B1:=
 match l with
 | []=> []
 |_::_=> [(k,w,l.map (bA r))]
theorem wm{α:Type}(w:Nat)(l:List α):(mo w l).l=l:=by cases l<;>rfl
def IF(k:IntKind)(a b:Int):Option Int:=if b≠0 then some (k.wrap (a.tdiv b))else none
def IG(a b:Int):Option Int:=if b≠0 then some (a.tmod b)else none
theorem IH{P:Program}{t:TypeId}{x y:Operand}{k:IntKind}{a b z:Int}(h:IF k a b=some z):ae P (do eqGuard .quo t x y (.int k a) (.int k b);binOp .quo t (.int k a) (.int k b))=some (.int k z):=by
 unfold IF at h;split at h
 .rename_i hc;rw [<-Option.some.inj h];exact Ma _ _ _ _ _ _ _ hc
 .simp at h
theorem II{P:Program}{t:TypeId}{x y:Operand}{k:IntKind}{a b z:Int}(h:IG a b=some z):ae P (do eqGuard .rem t x y (.int k a) (.int k b);binOp .rem t (.int k a) (.int k b))=some (.int k z):=by
 unfold IG at h;split at h
 .rename_i hc;rw [<-Option.some.inj h];exact Mb _ _ _ _ _ _ _ hc
 .simp at h
def tU(i:Int):Option Unit:=if 0<=i/\i.toNat<=cz then some ()else none
def Es(i j:Int):Option Unit:=if i=j then some ()else if i<=j/\j.toNat<=cz then some ()else none
theorem zJ{i j:Int}{u:Unit}(h:Es i j=some u):i=j∨(i<=j/\j.toNat<=cz):=by
 unfold Es at h;split at h
 .rename_i hi;exact .inl hi
 .split at h
  .rename_i hj;exact .inr hj
  .simp at h
theorem lu{i:Int}{u:Unit}(h:tU i=some u):0<=i/\i.toNat<=cz:=by
 unfold tU at h;split at h
 .assumption
 .simp at h
end Ev
end
noncomputable section
namespace Ev
open Go Go.RowKit
def GF(x:Int)(k:IntKind)(y:Int):Int:=x.fdiv (2 ^(min y.toNat k.bits))
def Mk(x:Int)(k:IntKind)(y:Int):Int:=k.wrap (x*2 ^(min y.toNat k.bits))
def xW(k:IntKind)(x y:Int):Option Int:=if 0<=y then some (GF x k y)else none
def IJ(k:IntKind)(x y:Int):Option Int:=if 0<=y then some (Mk x k y)else none
theorem Ml{P:Program}{t:TypeId}{x y:Operand}{k k':IntKind}{a b z:Int}(h:xW k a b=some z):ae P (do eqGuard .shr t x y (.int k a) (.int k' b);binOp .shr t (.int k a) (.int k' b))=some (.int k z):=by
 unfold xW at h;split at h
 .rename_i hc;rw [<-Option.some.inj h]
  have:(do eqGuard .shr t x y (.int k a) (.int k' b);binOp .shr t (.int k a) (.int k' b))=(pure (.int k (GF a k b)):Sem Value):=by
   show Op.shift .shr k a k' b=_;unfold Op.shift;rw [if_neg (by omega)];rfl
  rw [this];rfl
 .simp at h
theorem Mm{P:Program}{t:TypeId}{x y:Operand}{k k':IntKind}{a b z:Int}(h:IJ k a b=some z):ae P (do eqGuard .shl t x y (.int k a) (.int k' b);binOp .shl t (.int k a) (.int k' b))=some (.int k z):=by
 unfold IJ at h;split at h
 .rename_i hc;rw [<-Option.some.inj h]
  have:(do eqGuard .shl t x y (.int k a) (.int k' b);binOp .shl t (.int k a) (.int k' b))=(pure (.int k (Mk a k b)):Sem Value):=by
   show Op.shift .shl k a k' b=_;unfold Op.shift;rw [if_neg (by omega)];rfl
  rw [this];rfl
 .simp at h
def Mn(k:IntKind)(x y:Int):Int:=k.wrap (BitVec.ofInt k.bits x &&& BitVec.ofInt k.bits y).toNat
def orI(k:IntKind)(x y:Int):Int:=k.wrap (BitVec.ofInt k.bits x|||BitVec.ofInt k.bits y).toNat
def IK(k:IntKind)(x y:Int):Int:=k.wrap (BitVec.ofInt k.bits x ^^^ BitVec.ofInt k.bits y).toNat
def AN(k:IntKind)(x y:Int):Int:=k.wrap (BitVec.ofInt k.bits x &&& ~~~ BitVec.ofInt k.bits y).toNat
section
variable (P : Program) (t : TypeId) (x y : Operand) (k : IntKind) (a b : Int)
theorem Mo:ae P (do eqGuard .and t x y (.int k a) (.int k b);binOp .and t (.int k a) (.int k b))=some (.int k (Mn k a b)):=by cases k<;>rfl
theorem MW:ae P (do eqGuard .or t x y (.int k a) (.int k b);binOp .or t (.int k a) (.int k b))=some (.int k (orI k a b)):=by cases k<;>rfl
theorem Mp:ae P (do eqGuard .xor t x y (.int k a) (.int k b);binOp .xor t (.int k a) (.int k b))=some (.int k (IK k a b)):=by cases k<;>rfl
theorem Et:ae P (do eqGuard .andNot t x y (.int k a) (.int k b);binOp .andNot t (.int k a) (.int k b))=some (.int k (AN k a b)):=by cases k<;>rfl
end
section
variable {E : Env} {y : Nat → cR} {n nt : Nat} {f : Nat → D} {L : BL}
def xX{α:Type}(w:Nat)(s:Sl α)(lo hi:Int):Option (Sl α):=if 0<=lo/\lo<=hi/\hi<=(s.l.length:Int)/\(s.sz=w∨lo=0)then some ⟨s.nn,s.sz,(s.l.drop lo.toNat).take (hi.toNat - lo.toNat)⟩else none
theorem iu{α:Type}{w:Nat}{s s':Sl α}{lo hi:Int}(h:xX w s lo hi=some s'):(0<=lo/\lo<=hi/\hi<=(s.l.length:Int)/\(s.sz=w∨lo=0))/\s'=⟨s.nn,s.sz,(s.l.drop lo.toNat).take (hi.toNat - lo.toNat)⟩:=by
 unfold xX at h;split at h
 .rename_i hc;exact⟨hc,(Option.some.inj h).symm⟩
 .simp at h
theorem GG{ρ:Operand->Option D}(d:Nat):cN ρ none d=some ((d:Int)).toNat:=by simp [cN]
theorem GH{ρ:Operand->Option D}:cN ρ none 0=some ((0:Int)).toNat:=rfl
theorem AO{y:Operand}{fr:Bool}{k:IntKind}{i:Int}(hx:ov nt f y=some (.one (.p fr (.v (.int k i)))))(h0:0<=i)(d:Nat):cN (ov nt f) (some y) d=some i.toNat:=by
 show(ov nt f y).bind eD=_;rw [hx];exact eo fr k _ h0
theorem xY{α:Type}{r:α->List T}{ty e:TypeId}{t te:TI}{x:Operand}{lo hi mx:Option Operand}{fr nn:Bool}{sz m:Nat}{l:List α}{s':Sl α}{i j:Int}(hc:xX te.size ⟨nn,sz,l⟩ i j=some s')(hx:ov nt f x=some (.one (.p fr (.s nn sz (l.map r)))))(ht:E.ti ty=some t)(he:aG t=some e)(hte:E.ti e=some te)(hlo:cN (ov nt f) lo 0=some i.toNat)(hhi:cN (ov nt f) hi l.length=some j.toNat)(hmx:cN (ov nt f) mx l.length=some m)(hm:(mx.isSome && hi.isNone)=false)(hm1:j.toNat<=m)(hm2:m<=l.length):PS E n nt f L (.slice ty x lo hi mx) (.one (.p fr (Sl.t r s'))):=λh nid hb=>by
 obtain⟨⟨c1,c2,c3,c4⟩,rfl⟩:=iu hc;simp only at c1 c2 c3 c4;show(if(mx.isSome && hi.isNone)=true then none else(E.ti ty).bind λt=>(aG t).bind λq=>(E.ti q).bind λte=>(av (aw (tab nt f)) x).bind λd=>(sk d).bind λn=>(cN (av (aw (tab nt f))) hi n).bind λh'=>(cN (av (aw (tab nt f))) lo 0).bind λl'=>(cN (av (aw (tab nt f))) mx n).bind λm'=>if l'<=h'/\h'<=m'/\m'<=n then _ else _)=_;rw [if_neg (by rw [hm];simp),ht,dq];simp only [zbS,he,hte,hx,zI,hhi,hlo,hmx];rw [if_pos (by omega)];show(if sz=te.size∨i.toNat=0 then _ else _)=_;rw [if_pos (by rcases c4 with h|h;exact .inl h;exact .inr (by omega))];unfold Sl.t;rw [List.map_take,List.map_drop]
theorem Eu{α:Type}{r:α->List T}{ty e:TypeId}{t te:TI}{x:Operand}{lo hi:Option Operand}{fr nn:Bool}{sz:Nat}{l:List α}{s':Sl α}{i j:Int}(hc:xX te.size ⟨nn,sz,l⟩ i j=some s')(hx:ov nt f x=some (.one (.p fr (.s nn sz (l.map r)))))(ht:E.ti ty=some t)(he:aG t=some e)(hte:E.ti e=some te)(hlo:cN (ov nt f) lo 0=some i.toNat)(hhi:cN (ov nt f) hi l.length=some j.toNat):PS E n nt f L (.slice ty x lo hi none) (.one (.p fr (Sl.t r s'))):=
 xY hc hx ht he hte hlo hhi (m:=l.length) rfl rfl (by have:=(iu hc).1;simp only at this;omega) (Nat.le_refl _)
theorem Mq{ty e:TypeId}{t te:TI}{m z:Nat}{x ix:Operand}{fb:Bool}{kb:IntKind}{k i j a:Nat}(ht:E.ti ty=some t)(hd:t.desc= .array m e)(hte:E.ti e=some te)(hz:te.size=z)(hx:ov nt f x=some (.one (.ptr k i j)))(hi:ov nt f ix=some (.one (.p fb (.v (.int kb (a:Int))))))(ha:Nat.blt a m=true):PS E n nt f L (.indexAddr ty x ix) (.one (.ptr k i (j+a*z))):=λh nid hb=>by
 rw [pF,aT,hx,aT,hi];refine Eq.trans (b:=xK E.ti ty h a (.one (.ptr k i j))) rfl ?_
 show((E.ti ty).bind λt=>match t.desc with
  | .array n e=>(E.ti e).bind λte=>if a<n then some (⟨.one (.ptr k i (j+a*te.size)),[]⟩:Eff)else none
  |_=>none)=_
 rw [ht];simp only [zbS,hd,hte];rw [if_pos (dh ha),hz]
theorem Aw{α:Type}{k i:Nat}{l:List α}{x:α}:D.one (C.own k 0 l.length)=D.one (C.own k 0 (l.set i x).length):=by rw [List.length_set]
variable {ops : Array Oper} {r : List Oper} {K : St → Prop}
theorem HM(i:Nat){v:D}(h:f i=v)(h2:cZ E y n nt ops r K (up f i v) L):cZ E y n nt ops r K f L:=by rw [AF h]at h2;exact h2
def Mr(a b:Int):Int:=if b<a then b else a
def Ms(a b:Int):Int:=if b>a then b else a
theorem xZ{c:Call}{x y:Operand}{ty:TypeId}{t:TI}{fa fb:Bool}{ka kb:IntKind}{a b:Int}(hx:ov nt f x=some (.one (.p fa (.v (.int ka a)))))(hy:ov nt f y=some (.one (.p fb (.v (.int kb b)))))(ht:E.ti ty=some t)(hargs:c.args.toList= [x,y])(hty:c.argTypes[0]? =some ty):(c.callee= .builtin .min->PS E n nt f L (.call c) (iD ka (Mr a b)))/\(c.callee= .builtin .max->PS E n nt f L (.call c) (iD ka (Ms a b))):=by
 constructor<;>intro hc h nid hb
 all_goals
  have h1:aI (.call c)=none:=by unfold aI;simp only [hc]
  rw [gB,h1];unfold sem qY;simp only [hc,hty,ht,hargs,dq,zbB,zbS,List.mapM_cons,List.mapM_nil,hx,hy,Option.pure_def,plain,kJ];rfl
theorem Ew{α:Type}{l m x:List α}(h:app l m=some x):x=l++m:=(cJ h).2
theorem AP{α:Type}{l m x:List α}(h:app l m=some x):x.length<=cz:=by
 obtain⟨h1,rfl⟩:=cJ h;simpa using h1
theorem AQ{α:Type}{ro:α->List C}{c:Call}{a x:Operand}{ty ty1 z e1:TypeId}{t1:TI}{fr:Bool}{bz:Nat}{d:D}{y:α}{ys:List α}(ha:ov nt f a=some (.one (.p fr (.s false bz []))))(hx:ov nt f x=some d)(hxs:re L d ((y::ys).map ro))(hb:(y::ys).length<=cz)(hr:∀y,(ro y).length=z)(hz:cG E.ti ty=some z)(ht1:E.ti ty1=some t1)(he1:aG t1=some e1)
  (hc:c.callee= .builtin .append) (hargs:c.args.toList= [a,x]) (hty:c.argTypes[0]? =some ty) (hty1:c.argTypes[1]? =some ty1):PN E n nt f L (.call c) (λk=> .one (.own k 0 (y::ys).length)) z ((y::ys).map ro):=by
 have:=ID (n:=n) ha hx hxs ⟨_,_,rfl⟩ (by simpa using hb) (by simp [hr]) hz ht1 he1 hc hargs hty hty1
 rw [List.length_map]at this;exact this
end
def Mt{α:Type}(w:Nat)(r:α->List T)(l:List α):Kind×List TD:=
 match l with
 | []=>(.fresh,[.one (.s false 0 [])])
 |y::t=>(.own,[.one (.s true w ((y::t).map r))])
section
variable {α : Type} {rw_ : α → List T} {w k : Nat} {l : List α}
theorem IL:sk (.one (moC l k))=some l.length:=by cases l<;>rfl
end
section
variable {E : Env} {y : Nat → cR} {n nt : Nat} {f : Nat → D} {L : BL} {ops : Array Oper} {o : Oper} {rr : List Oper} {K : St → Prop} {d : Nat}
def moK{α:Type}(l:List α)(k:Nat):List Nat:=
 match l with
 | []=> []
 |_::_=> [k]
theorem HB.dropNil{h:aj}{L:BL}{p:Nat}(hp:L[p]? =some [])(hb:HB h L):HB h (L.eraseIdx p):=by unfold HB;rw [tR hp];exact hb
theorem rh{p:Nat}(hp:L[p]? =some [])(h:cZ E y n nt ops rr K f (L.eraseIdx p)):cZ E y n nt ops rr K f L:=λH hb=>h H (hb.dropNil hp)
theorem Ey{α:Type}{Q:Ex->St->Prop}{c:Code}(r:α->List T)(w:Nat)(h:WpL E y n nt c Q f (moL r w ([]:List α) 0::L)):WpL E y n nt c Q f L:=λH hb=>h H hb
theorem ya{α:Type}:∀{l:List α} {q:Nat} {s:α},l[q]? =some s->l.set q s=l
 | [],q,s,h=>by simp at h
 |a::l,0,s,h=>by simp at h;subst h;rfl
 |a::l,q+1,s,h=>by rw [List.set_cons_succ,ya (by simpa using h)]
theorem Ez{i wd b:Nat}{O:List (List Nat)}{N:List (Bool×List Nat)}{R:List (List Nat)}(q:Nat){s s':List B1}(hq:L[q]? =some s)(he:s=s')(h:TnL E n nt ops rr i wd O N R b K f (L.set q s')):TnL E n nt ops rr i wd O N R b K f L:=by subst he;rw [ya hq]at h;exact h
theorem yb{α:Type}{k i:Nat}{l:List α}{x:α}:C.own k 0 l.length=C.own k 0 (l.set i x).length:=by rw [List.length_set]
theorem gg{α:Type}{l:List α}{k k2:Nat}(h:k2 ∉ moK l k):∀x∈moK l k,¬x=k2:=λx hx e=>h (e▸hx)
theorem zK{i q b p:Nat}{O:List (List Nat)}{N:List (Bool×List Nat)}{R:List (List Nat)}(hp:L[p]? =some [])(h:TnL E n nt ops rr i q O N R b K f (L.eraseIdx p)):TnL E n nt ops rr i q O N R b K f L:=λH hb hl=>h H (hb.dropNil hp) hl
theorem AR{α:Type}{r:α->List T}{c:Call}{a x:Operand}{ty ty1 w e1:TypeId}{t1:TI}{k i wd b:Nat}{O:List (List Nat)}{N:List (Bool×List Nat)}{R:List (List Nat)}{A:BL}{l ys lm:List α}{y0:α}{dx:D}(p q:Nat)(hw:bY ops o nt f=some true)(hd:o.dst=some d)(hn:Nat.blt d nt=true)(ho:o.op= .call c)(is:List Nat)(hn2:is.Nodup)(hA:is.filterMap (λi=>L[i]?)=A)(hm:∀x∈A.flatten,x.1 ∉(R.getD i []).flatMap (aE b O N))(hu:aE b O N i=moK l k++ [b+i])(hi:Nat.blt i wd=true)(hk:∀x∈L.flatten,x.1≠b+i)
  (ha:ov nt f a=some (.one (moC l k))) (hx:ov nt f x=some dx) (hxs:re A dx ((y0::ys).map (bA r))) (hp:A[p]? =some (moL r w l k)) (hq:L[q]? =some (moL r w l k)) (hlm:app l (y0::ys)=some lm) (hr:∀y,(bA r y).length=w) (hz:cG E.ti ty=some w) (ht1:E.ti ty1=some t1) (he1:aG t1=some e1)
  (hc:c.callee= .builtin .append) (hargs:c.args.toList= [a,x]) (hty:c.argTypes[0]? =some ty) (hty1:c.argTypes[1]? =some ty1) (h:TnL E n nt ops rr (i+1) wd O N R b K (up f d (.one (moC lm (b+i)))) (moL r w lm (b+i)::L.eraseIdx q)) (hz0:Nat.beq w 0=false:=by rfl):TnL E n nt ops (o::rr) i wd O N R b K f L:=by
 cases l with
 |nil=>
  have hlm2:=Ew hlm;rw [List.nil_append]at hlm2;subst hlm2;have hb:=AP hlm;refine rb hw hd hn is hn2 hA hm hu hi hk (by rw [ho];exact AQ (ro:=bA r) ha hx hxs hb hr hz ht1 he1 hc hargs hty hty1) ?_;exact zK (p:=q+1) hq h
 |cons y l=>
  obtain⟨_,rfl⟩:=cJ hlm;exact Eg hw hd hn is hn2 hA hm hu hi hk (by rw [ho];exact Er (r:=bA r) p ha hx hxs rfl hp hlm hr hz ht1 he1 hc hargs hty hty1 hz0) hq rfl h
theorem hkM{α:Type}{r:α->List T}{w k z:Nat}{l:List α}{A:BL}(h1:l= []∨k≠z)(h2:∀x∈A.flatten,x.1≠z):∀x∈(moL r w l k::A:BL).flatten,x.1≠z:=λx hx=>by
 rw [List.flatten_cons,List.mem_append]at hx;rcases hx with hx|hx
 .cases l with
  |nil=>simp [moL]at hx
  |cons a l=>simp only [moL,List.mem_singleton]at hx;subst hx;exact h1.resolve_left (by simp)
 .exact h2 x hx
theorem pI{α:Type}{r:α->List T}{w k b:Nat}{l:List α}(h:∀x∈L.flatten,x.1<b)(p:Nat)(hp:L[p]? =some (moL r w l k)):l= []∨k<b:=by
 cases l with
 |nil=>exact .inl rfl
 |cons a l=>exact .inr (aP h p hp)
theorem eK{α:Type}{r:α->List T}{w k k2:Nat}{l:List α}{x2:Nat×List (List C)}(hn:(L.flatten.map (·.1)).Nodup)(p q:Nat)(hp:L[p]? =some (moL r w l k))(hq:L[q]? =some [(k2,x2)])(hpq:Nat.beq p q=false):k2 ∉ moK l k:=by
 cases l with
 |nil=>simp [moK]
 |cons a l=>have:=iK hn p q hp hq hpq;simp [moK];omega
theorem wn{α:Type}{l:List α}{k b:Nat}(h:l= []∨k<b):∀x∈moK l k,x<b:=λx hx=>by
 cases l with
 |nil=>simp [moK]at hx
 |cons a l=>simp only [moK,List.mem_singleton]at hx;subst hx;exact h.resolve_left (by simp)
theorem Mu{α:Type}{r:α->List T}{w k:Nat}{l:List α}(p:Nat)(hp:L[p]? =some (moL r w l k))(hr:∀x h m,(bA r x).mapM (cu h (m+1))=some ((r x).map λt=>(true,t))):∀h,HB h L->∀m,cu h (m+2) (moC l k)=some (true,Sl.t r (mo w l)):=by
 cases l with
 |nil=>exact λh hb m=>rfl
 |cons a l=>exact rg (r:=r) p hp hr
end
theorem bF{α β:Type}(P:Program)(s:Sem α)(k:α->Sem β):ae P (s>>=k)=(ae P s).bind λa=>ae P (k a):=by
 induction s with
 |pure a=>rfl
 |program q ih=>exact ih P
 |_=>rfl
section
variable {P : Program}
theorem mL{t:TypeId}{d:TypeDesc}(h:P.underlying t=some d):ae P (underlying t)=some d:=by
 have:ae P (underlying t)=match P.underlying t with|some d=>some d|none=>none:=by
  show ae P (underlying t)=_
  cases hx:P.underlying t with
  |none=>rw [hx]at h;simp at h
  |some d'=>
   unfold underlying;simp [bF,program,ae,hx];rfl
 rw [this,h]
theorem gE(d:Nat)(t:TypeId)(xs ys:Array Value){fs:Array Field}(ht:P.underlying t=some (.struct fs))(hp:P.stoodInHeld t=false):
  ae P (Op.equalIn (d+1) t (.agg xs) (.agg ys))=ae P (Op.eqFields d xs ys fs.toList):=by
 have e1:ae P program=some P:=rfl;simp only [Op.equalIn,bF,mL ht,zbS,e1,hp,Bool.false_eq_true,if_false];rw [<-Array.forIn_toList];generalize fs.toList=fs;clear ht
 induction fs with
 |nil=>rfl
 |cons f fs ih=>
  simp only [List.forIn_cons,Op.eqFields,bF];by_cases hf:f.name≠ "_"
  .simp only [if_pos hf,bF]
   cases ae P (part f.type xs f.offset)with
   |none=>rfl
   |some a=>
    cases ae P (part f.type ys f.offset)with
    |none=>rfl
    |some b=>
     simp only [zbS]
     cases ae P (Op.equalIn d f.type a b)with
     |none=>rfl
     |some q=>
      cases q
      .rfl
      .exact ih
  .simp only [if_neg hf,bF];exact ih
theorem dA{d:Nat}{xs ys:Array Value}{f:Field}{fs:List Field}{k k':IntKind}{a b:Int}(hf:(f.name== "_")=false)(h1:ae P (part f.type xs f.offset)=some (.int k a))(h2:ae P (part f.type ys f.offset)=some (.int k b))(h3:P.underlying f.type=some (.int k')):
  ae P (Op.eqFields (d+1) xs ys (f::fs))=if(a==b)=true then ae P (Op.eqFields (d+1) xs ys fs)else some false:=by
 have hf':f.name≠ "_" :=by simpa using hf
 have h4:ae P (Op.equalIn (d+1) f.type (.int k a) (.int k b))=some (a==b):=by
  simp only [Op.equalIn,bF,mL h3,zbS,if_true];rfl
 simp only [Op.eqFields,if_pos hf',bF,h1,h2,h4,zbS];cases a==b<;>rfl
theorem fW{d:Nat}{xs ys:Array Value}:ae P (Op.eqFields d xs ys [])=some true:=rfl
theorem yc{t:TypeId}{x y:Operand}{xs ys:Array Value}{b:Bool}(hg:P.eqGuardType P.depth t=false)(h:ae P (Op.equalIn 10000 t (.agg xs) (.agg ys))=some b):ae P (do eqGuard .eql t x y (.agg xs) (.agg ys);binOp .eql t (.agg xs) (.agg ys))=some (.bool b):=by
 have e1:ae P program=some P:=rfl
 have h1:ae P (eqGuard .eql t x y (.agg xs) (.agg ys))=some ():=by
  simp only [eqGuard,Bool.not_true,Bool.false_eq_true,if_false,bF,e1,zbS,hg,Bool.not_false,if_true];rfl
 rw [bF,h1];show ae P (binOp .eql t (.agg xs) (.agg ys))=_;have h2:binOp .eql t (.agg xs) (.agg ys)=(do pure (.bool (<-Op.equal t (.agg xs) (.agg ys)))):=rfl;rw [h2,bF];unfold Op.equal Op.maxDepth;rw [h];rfl
theorem rj{t:TypeId}{x y:Operand}{xs ys:Array Value}{b:Bool}(hg:P.eqGuardType P.depth t=false)(h:ae P (Op.equalIn 10000 t (.agg xs) (.agg ys))=some b):ae P (do eqGuard .neq t x y (.agg xs) (.agg ys);binOp .neq t (.agg xs) (.agg ys))=some (.bool (!b)):=by
 have e1:ae P program=some P:=rfl
 have h1:ae P (eqGuard .neq t x y (.agg xs) (.agg ys))=some ():=by
  simp only [eqGuard,Bool.not_true,Bool.false_eq_true,if_false,bF,e1,zbS,hg,Bool.not_false,if_true];rfl
 rw [bF,h1];show ae P (binOp .neq t (.agg xs) (.agg ys))=_;have h2:binOp .neq t (.agg xs) (.agg ys)=(do pure (.bool (!(<-Op.equal t (.agg xs) (.agg ys))))):=rfl;rw [h2,bF];unfold Op.equal Op.maxDepth;rw [h];rfl
theorem ia{a b:Bool}{q:Option Bool}(h:q=some b):(if a=true then q else some false)=some (a && b):=by cases a<;>simp [h]
end
end Ev
end
noncomputable section
namespace Ev
open Go Go.RowKit
def inK(k:IntKind)(x:Int):Prop:=(Lit.int k x).wf=true
def SlW{α:Type}(w:Nat)(Q:α->Prop)(s:Sl α):Prop:=s.sz=w/\(s.nn=false->s.l= [])/\s.l.length<=maxLen/\∀x∈s.l,Q x
section
variable {P : Program} {t : TypeId} {ts : List T}
theorem AS{k:IntKind}(hu:P.underlying t=some (.int k))(h:Typ P t ts):∃x:Int,ts= [iT k x]/\inK k x:=by
 cases h with
 |int _ k' n h hw=>rw [hu]at h;cases h;exact⟨n,rfl,hw⟩
 |bool _ b h=>rw [hu]at h;simp at h
 |str _ s h=>rw [hu]at h;simp at h
 |slice _ e nn l h=>rw [hu]at h;simp at h
 |struct _ fs tss h=>rw [hu]at h;simp at h
 |array _ n e tss h=>rw [hu]at h;simp at h
theorem tV{α β:Type}{r:α->β}{Q:α->Prop}:∀{l:List β},(∀es∈l,∃x,es=r x/\Q x)->∃xs:List α,l=xs.map r/\∀x∈xs,Q x
 | [],_=>⟨[],rfl,λx hx=>by simp at hx⟩
 |e::l,h=>by
  obtain⟨x,rfl,hx⟩:=h e List.mem_cons_self;obtain⟨xs,rfl,hxs⟩:=tV λe he=>h e (List.mem_cons_of_mem _ he);exact⟨x::xs,rfl,λy hy=>by rcases List.mem_cons.1 hy with rfl|hy;exact hx;exact hxs y hy⟩
theorem tW{α:Type}{r:α->List T}{Q:α->Prop}{e:TypeId}{w:Nat}(hu:P.underlying t=some (.slice e))(hw:P.cellsOf e=w)(he:∀ts,Typ P e ts->∃x,ts=r x/\Q x)(h:Typ P t ts):∃s:Sl α,ts= [Sl.t r s]/\SlW w Q s:=by
 cases h with
 |slice _ e' nn l h hn hl h1 h2=>
  rw [hu]at h;cases h;obtain⟨xs,rfl,hq⟩:=tV (r:=r) (Q:=Q) λes hes=>he es (h2 es hes);exact⟨⟨nn,w,xs⟩,by rw [hw];rfl,rfl,λhh=>by simpa using hn hh,by simpa using hl,hq⟩
 |int _ k' n h hw=>rw [hu]at h;simp at h
 |bool _ b h=>rw [hu]at h;simp at h
 |str _ s h=>rw [hu]at h;simp at h
 |struct _ fs tss h=>rw [hu]at h;simp at h
 |array _ n e tss h=>rw [hu]at h;simp at h
theorem rk{fs:Array Field}(hu:P.underlying t=some (.struct fs))(h:Typ P t ts):∃tss:List (List T),ts=tss.flatten/\tss.length=fs.toList.length/\∀(i:Nat) f ts',fs.toList[i]? =some f->tss[i]? =some ts'->Typ P f.type ts':=by
 cases h with
 |struct _ fs' tss h hl hf=>rw [hu]at h;cases h;exact⟨tss,rfl,by simpa using hl,λi f ts' h1 h2=>hf i f ts' (by simpa using h1) h2⟩
 |int _ k' n h hw=>rw [hu]at h;simp at h
 |bool _ b h=>rw [hu]at h;simp at h
 |str _ s h=>rw [hu]at h;simp at h
 |slice _ e nn l h=>rw [hu]at h;simp at h
 |array _ n e tss h=>rw [hu]at h;simp at h
theorem EA{ts:List TypeId}{tds:List TD}{d:TypeDesc}(hu:P.underlying t=some d)(ha:aL d=false)(h:mH P (t::ts) tds):∃x r,tds= .one x::r/\Typ P t [x]/\mH P ts r:=by
 cases h with
 |cons t ts td ds h hr=>
  cases h with
  |one x h _=>exact⟨x,ds,rfl,h,hr⟩
  |agg xs h h2=>obtain⟨d',h3,h4⟩:=h2;rw [hu]at h3;cases h3;rw [ha]at h4;simp at h4
theorem EB{tds:List TD}(h:mH P [] tds):tds= []:=by cases h;rfl
end
theorem IM{E:Env}{n:Nat}{k:FuncId}{tds:List TD}(h:RunsP E n k tds (.fresh,[.one (bT true)])):∃m n kind,(cH E m n).1 k tds=some (kind,[.one (.v (.bool true))]):=by
 obtain⟨M,hM⟩:=h;exact⟨M,n,.fresh,hM M (Nat.le_refl _)⟩
theorem gv{A R:Type}{b:A->Option (A ⊕ R)}(n:Nat)(I:Nat->A->Prop)(Q:R->Prop)(hs:∀j a,j<n->I j a->(∃a',b a=some (.inl a')/\I (j+1) a')∨∃r,b a=some (.inr r)/\Q r)(he:∀a,I n a->∃r,b a=some (.inr r)/\Q r)(j:Nat)(hj:j<=n)(a:A)(ha:I j a):∃r,cB b a=some r/\Q r:=by
 obtain⟨k,hk⟩:∃k,n=j+k:=⟨n - j,by omega⟩
 induction k generalizing j a with
 |zero=>
  have:j=n:=by omega
  subst this;obtain⟨r,h1,h2⟩:=he a ha;exact⟨r,lq h1,h2⟩
 |succ k ih=>
  rcases hs j a (by omega) ha with⟨a',h1,h2⟩|⟨r,h1,h2⟩
  .obtain⟨r,h3,h4⟩:=ih (j+1) (by omega) a' h2 (by omega);exact⟨r,(lr h1).trans h3,h4⟩
  .exact⟨r,lq h1,h2⟩
theorem gh{α:Type}{w:Nat}{s:Sl α}(hs:s.l= []∨s.sz=w){j:Nat}(hj:j<s.l.length):atS w s (j:Int)=some s.l[j]:=by
 have hw:s.sz=w:=hs.resolve_left (by intro h;rw [h]at hj;simp at hj);unfold atS;rw [if_pos ⟨by omega,hw⟩];simp
theorem wo{α:Type}{l m:List α}(h:l.length+m.length<=cz):app l m=some (l++m):=by unfold app;rw [if_pos h]
theorem iQ{j n:Nat}(h:j<n)(hn:n<=9223372036854775807):IntKind.i64.wrap ((j:Int)+1)=((j+1:Nat):Int):=by rw [wrap64 (by omega) (by omega)];rfl
def neL{α:Type}(l:List α):Option Unit:=
 match l with
 | []=>none
 |_::_=>some ()
end Ev
end
noncomputable section
namespace Ev
open Go Go.RowKit
section
variable {E : Env} {y : Nat → cR} {n nt : Nat} {f : Nat → D} {L : BL}
def wq(nt:Nat)(f:Nat->D)(l:List Operand):Option (List C):=l.mapM λx=>do match<-ov nt f x with| .one c=>some c|_=>none
theorem GI{fn:Fn}{first cap:Array Operand}{fs cs:List C}(h1:wq nt f first.toList=some fs)(h2:wq nt f cap.toList=some cs):PS E n nt f L (.makeFunc fn first cap) (.one (.clo fn fs cs)):=λh nid hb=>by
 show((first.toList.mapM λx=>(av (aw (tab nt f)) x).bind λd=>match d with| .one c=>some c|_=>none).bind λa=>(cap.toList.mapM λx=>(av (aw (tab nt f)) x).bind λd=>match d with| .one c=>some c|_=>none).bind λb=>some (⟨.one (.clo fn a b),[]⟩:Eff))=_;rw [dq];have h1':(first.toList.mapM λx=>(ov nt f x).bind λd=>match d with| .one c=>some c|_=>none)=some fs:=h1;have h2':(cap.toList.mapM λx=>(ov nt f x).bind λd=>match d with| .one c=>some c|_=>none)=some cs:=h2;rw [h1',h2'];rfl
def EC(k:IntKind)(a:Int):Int:=IK k (if k.signed then -1 else k.max) a
theorem GJ{ty:TypeId}{x:Operand}{fr:Bool}{k:IntKind}{a:Int}(hx:ov nt f x=some (.one (.p fr (.v (.int k a))))):PS E n nt f L (.unOp .xor ty x) (iD k (EC k a)):=λh nid hb=>by
 show((av (aw (tab nt f)) x).bind λd=>(plain d).bind λv=>(ae E.P (Op.unary .xor v)).bind mkO)=_;rw [aT,hx];cases k<;>rfl
def fA(args:List D):Nat->D:=λi=>args.getD i bh
theorem ED{args:List D}{k:Nat}(hl:args.length<=k):args++List.replicate (k - args.length) bh=tab k (fA args):=by
 rw [DU (args++List.replicate (k - args.length) bh)];have hlen:(args++List.replicate (k - args.length) bh).length=k:=by simp;omega
 rw [hlen];refine List.ext_getElem? λi=> ?_;rw [gR,gR];split
 .rename_i hi;congr 1;unfold fA;rw [List.getD_eq_getElem?_getD,List.getD_eq_getElem?_getD,List.getElem?_append];split
  .rfl
  .rename_i hge;rw [List.getElem?_replicate,if_pos (by omega),List.getElem?_eq_none (by omega)];rfl
 .rfl
def AT(E:Env)(y:Nat->cR)(n nt:Nat)(ops:Array Oper)(r:List Oper)(K:St->Prop)(f:Nat->D)(d:Nat)(rv:List ResultVar):Ex->St->Prop:=λe s=>(e= .normal∨e= .ret)/\∃ds,rv.mapM (br E s)=some ds/\gN E y n ops r K {t:=tab nt (up f d (eZ ds)),h:=s.h}
variable {ops : Array Oper} {o : Oper} {r : List Oper} {K : St → Prop} {d : Nat} {Q : Ex → St → Prop}
theorem jB{b:Bool}(h:bY ops o nt f=some b):ea ops (aw (tab nt f)) o=some b:=by
 obtain⟨g,g1,g2⟩:=cm h;unfold gOf at g1;unfold ea
 cases ho:o.guard with
 |none=>rw [ho]at g1;simp only [zsI]at g1;subst g1;exact g2
 |some p=>
  obtain⟨j,w⟩:=p;rw [ho]at g1;simp only [Option.map_eq_some_iff]at g1;obtain⟨d,h1,h2⟩:=g1;subst h2;rw [zbE]at h1;obtain⟨o',h3,h4⟩:=h1;have h3':ops[j]? =some o':=by simpa using h3
  simp only [h3',h4,zbB,zbS];exact g2
theorem tX{cp:bB}{c:Call}{nid:Nat}{H:aj}(hw:bY ops o nt f=some true)(hc:aI o.op=some c):step E cp ops nid o (aw (tab nt f)) H=fx cp nid c (aw (tab nt f)) H:=by
 unfold step;rw [jB hw];simp only [zbB,zbS,if_true,hc]
theorem Cv{c:Call}{k:FuncId}{args:List D}{fi:FI}(hw:bY ops o nt f=some true)(hc:aI o.op=some c)(hr:aW c (ov nt f)=some (k,args))(hu:E.ax k=some λ_=>none)(hf:E.fn k=some fi)(hl:Nat.ble args.length fi.nt=true)(hd:o.dst=some d)(hn:Nat.blt d nt=true)
  (h:WpL E nY n fi.nt fi.body (AT E y (n+1) nt ops r K f d fi.results) (fA args) L):cZ E y (n+1) nt ops (o::r) K f L:=λH hb=>by
 obtain⟨e,s',⟨M,h1⟩,h2,ds,h3,h4⟩:=h H hb;refine nO (s1:={t:=tab nt (up f d (eZ ds)),h:=s'.h}) ⟨M,λm hm=> ?_⟩ h4;unfold yG
 have hs:step E (aX E y m (n+1)).1 ops H.length o (aw (tab nt f)) H=none:=by
  rw [tX hw hc];unfold fx;rw [dq,hr];simp only [zbB,zbS]
  cases args.mapM (bn H)with
  |none=>rfl
  |some vs=>
   have hn:(aX E y m (n+1)).1 k (vs.map (·.2))=none:=by
    show(match E.ax k with
     |some F=>F _
     |none=>_)=none
    rw [hu]
   simp only [zbS,hn];rfl
 simp only;rw [hs];have hev:=h1 m hm
 have hsc:tj (aX E y m (n+1)).2 ops o {t:=tab nt f,h:=H}=some {t:=tab nt (up f d (eZ ds)),h:=s'.h}:=by
  unfold tj;rw [jB hw];simp only [zbB,zbS,if_true,hc]
  have hr':aW c (opnd (tab nt f))=some (k,args):=by
   show aW c (av (aw (tab nt f)))=_;rw [dq];exact hr
  rw [hr']
  have hcall:(aX E y m (n+1)).2.f k args H=some (eZ ds,s'.h):=by
   show((E.fn k).bind λf=>(oX E (aC E m n).1 ⟨(aC E m n).2.1,(aC E m n).2.2,noY⟩ m f args H).bind λx=>some (eZ x.1,x.2))=_;rw [hf];simp only [zbS]
   have:oX E (aC E m n).1 ⟨(aC E m n).2.1,(aC E m n).2.2,noY⟩ m fi args H=some (ds,s'.h):=by
    unfold oX;rw [ED (Nat.le_of_ble_eq_true hl)];simp only [aX]at hev;rw [hev];rcases h2 with rfl|rfl<;>simp [h3]
   rw [this];rfl
  simp only [zbS,hcall,hd,jd,jS,dh hn,if_true,mJ,fV]
 rw [hsc];rfl
theorem EE{nt':Nat}{f':Nat->D}{L':BL}{rv:List ResultVar}{ds:List D}{e:Ex}{v:D}(he:e= .normal∨e= .ret)(hr:wk E nt' f' L' rv ds)(hv:eZ ds=v)(h:cZ E y n nt ops r K (up f d v) L'):cP nt' (AT E y n nt ops r K f d rv) e f' L':=λH hb=>by
 subst hv;exact⟨he,ds,hr H hb,h H hb⟩
def pf(f:Nat->D):List Tmp->List D->Nat->D
 |p::ps,d::ds=>pf (up f p d) ps ds
 |_,_=>f
end
theorem bS{k b j:Nat}(h:k<b):k≠b+j:=by omega
theorem zL{b i j:Nat}(h:Nat.beq i j=false):b+i≠b+j:=by have:=Nat.ne_of_beq_eq_false h;omega
theorem pJ{k:Nat}:k ∉([]:List Nat):=by simp
theorem mM{k m:Nat}{l:List Nat}(h1:k≠m)(h2:k ∉ l):k ∉ m::l:=λh=>by
 rcases List.mem_cons.1 h with h|h
 .exact h1 h
 .exact h2 h
theorem bZ{b:Nat}:∀k∈([]:List Nat),k<b:=λk h=>by simp at h
theorem rl{b m:Nat}{l:List Nat}(h1:m<b)(h2:∀k∈l,k<b):∀k∈m::l,k<b:=λk h=>by
 rcases List.mem_cons.1 h with h|h
 .subst h;exact h1
 .exact h2 k h
theorem AU{b:Nat}:∀l∈([]:List (List Nat)),∀k∈l,k<b:=λk h=>by simp at h
theorem bq{b:Nat}{a:List Nat}{O:List (List Nat)}(h1:∀k∈a,k<b)(h2:∀l∈O,∀k∈l,k<b):∀l∈a::O,∀k∈l,k<b:=λl h=>by
 rcases List.mem_cons.1 h with h|h
 .subst h;exact h1
 .exact h2 l h
theorem djE{O:List (List Nat)}{r:List Nat}:∀j∈r,∀x∈([]:List Nat),x ∉ O.getD j []:=λc _ x h=>by simp at h
theorem djN{O:List (List Nat)}{a:List Nat}:∀j∈([]:List Nat),∀x∈a,x ∉ O.getD j []:=λc h=>by simp at h
section
variable {X Up KT : Type} {nt : Nat}
variable {ex : Ex} {S : X → KT → (Nat → D) → Nat → D} {SL : X → KT → BL} {J : Up → Ex → St → Prop} {G : Up → Ex → St → Prop}
end
end Ev
end
noncomputable section
namespace Ev
open Go Go.RowKit
abbrev bf:D:= .one (bC false)
abbrev bt:D:= .one (bC true)
abbrev iO(n:Int):D:= .one (iC .i64 n)
abbrev bO(b:Bool):D:= .one (bC b)
abbrev iI(n:Int):C:=iC .i64 n
abbrev nC:C:= .p true (.s false 0 [])
abbrev sC{α:Type}(r:α->List T)(s:Sl α):C:= .p true (Sl.t r s)
abbrev sF{α:Type}(r:α->List T)(s:Sl α):C:= .p false (Sl.t r s)
theorem sj{α:Type}{a b:α}(h:some a=some b):a=b:=Option.some.inj h
theorem wF{α:Type}{a b:α}{r:α}(h:(if false=true then a else b)=r):b=r:=h
theorem wT{α:Type}{a b:α}{r:α}(h:(if true=true then a else b)=r):a=r:=h
theorem dU{P:Program}{t:TypeId}{x y:Operand}{k:IntKind}{a b:Int}(h:a<b):ae P (do eqGuard .lss t x y (.int k a) (.int k b);binOp .lss t (.int k a) (.int k b))=some (.bool true):=Gt P t x y k h
theorem dV{P:Program}{t:TypeId}{x y:Operand}{k:IntKind}{a b:Int}(h:¬a<b):ae P (do eqGuard .lss t x y (.int k a) (.int k b);binOp .lss t (.int k a) (.int k b))=some (.bool false):=Gu P t x y k h
theorem rm{P:Program}{t:TypeId}{x y:Operand}{k:IntKind}{a b:Int}(h:a<=b):ae P (do eqGuard .leq t x y (.int k a) (.int k b);binOp .leq t (.int k a) (.int k b))=some (.bool true):=Gv P t x y k h
theorem rn{P:Program}{t:TypeId}{x y:Operand}{k:IntKind}{a b:Int}(h:¬a<=b):ae P (do eqGuard .leq t x y (.int k a) (.int k b);binOp .leq t (.int k a) (.int k b))=some (.bool false):=Gw P t x y k h
theorem gF{P:Program}{t:TypeId}{x y:Operand}{k:IntKind}{a b:Int}(h:a>b):ae P (do eqGuard .gtr t x y (.int k a) (.int k b);binOp .gtr t (.int k a) (.int k b))=some (.bool true):=Gx P t x y k h
theorem gG{P:Program}{t:TypeId}{x y:Operand}{k:IntKind}{a b:Int}(h:¬a>b):ae P (do eqGuard .gtr t x y (.int k a) (.int k b);binOp .gtr t (.int k a) (.int k b))=some (.bool false):=Gy P t x y k h
theorem rp{P:Program}{t:TypeId}{x y:Operand}{k:IntKind}{a b:Int}(h:a >= b):ae P (do eqGuard .geq t x y (.int k a) (.int k b);binOp .geq t (.int k a) (.int k b))=some (.bool true):=Gz P t x y k h
theorem rq{P:Program}{t:TypeId}{x y:Operand}{k:IntKind}{a b:Int}(h:¬a >= b):ae P (do eqGuard .geq t x y (.int k a) (.int k b);binOp .geq t (.int k a) (.int k b))=some (.bool false):=GA P t x y k h
theorem yd{P:Program}{t:TypeId}{x y:Operand}{k:IntKind}{a b:Int}(h:a=b):ae P (do eqGuard .eql t x y (.int k a) (.int k b);binOp .eql t (.int k a) (.int k b))=some (.bool true):=GB P t x y k h
theorem ye{P:Program}{t:TypeId}{x y:Operand}{k:IntKind}{a b:Int}(h:¬a=b):ae P (do eqGuard .eql t x y (.int k a) (.int k b);binOp .eql t (.int k a) (.int k b))=some (.bool false):=GC P t x y k h
theorem EF{P:Program}{t:TypeId}{x y:Operand}{k:IntKind}{a b:Int}(h:a≠b):ae P (do eqGuard .neq t x y (.int k a) (.int k b);binOp .neq t (.int k a) (.int k b))=some (.bool true):=GD P t x y k h
theorem EG{P:Program}{t:TypeId}{x y:Operand}{k:IntKind}{a b:Int}(h:¬a≠b):ae P (do eqGuard .neq t x y (.int k a) (.int k b);binOp .neq t (.int k a) (.int k b))=some (.bool false):=GE P t x y k h
theorem dD{P:Program}{t:TypeId}{x y:Operand}{k:IntKind}{a b:Int}:ae P (do eqGuard .add t x y (.int k a) (.int k b);binOp .add t (.int k a) (.int k b))=some (.int k (k.wrap (a+b))):=HG P t x y k a b
theorem IN{P:Program}{t:TypeId}{x y:Operand}{k:IntKind}{a b:Int}:ae P (do eqGuard .sub t x y (.int k a) (.int k b);binOp .sub t (.int k a) (.int k b))=some (.int k (k.wrap (a - b))):=HH P t x y k a b
section
variable {E : Env} {y : Nat → cR} {n nt : Nat} {ops : Array Oper} {o : Oper} {r : List Oper} {K : St → Prop} {f : Nat → D} {L : BL} {d : Nat} {Q : Ex → St → Prop}
theorem pq{v:D}(hs:PS E n nt f L o.op v)(h:cZ E y n nt ops r K (up f d v) L)(hw:bY ops o nt f=some true:=by exact rfl)(hd:o.dst=some d:=by exact rfl)(hn:Nat.blt d nt=true:=by exact rfl):cZ E y n nt ops (o::r) K f L:=zF hw hd hn hs h
theorem sq{v:D}{i:Nat}(hs:PS E n nt f L o.op v)(h:StL E n nt ops r (i+1) K (up f d v) L)(hw:bY ops o nt f=some true:=by exact rfl)(hd:o.dst=some d:=by exact rfl)(hn:Nat.blt d nt=true:=by exact rfl):StL E n nt ops (o::r) i K f L:=Ix hw hd hn hs h
theorem os(h:cZ E y n nt ops r K (up f d bh) L)(hw:bY ops o nt f=some false:=by exact rfl)(hd:o.dst=some d:=by exact rfl)(hn:Nat.blt d nt=true:=by exact rfl):cZ E y n nt ops (o::r) K f L:=Gh hw hd hn h
theorem ss{i:Nat}(h:StL E n nt ops r (i+1) K (up f d bh) L)(hw:bY ops o nt f=some false:=by exact rfl)(hd:o.dst=some d:=by exact rfl)(hn:Nat.blt d nt=true:=by exact rfl):StL E n nt ops (o::r) i K f L:=Gi hw hd hn h
theorem qm{x:Operand}(v:D)(hx:ov nt f x=some v:=by exact rfl):PS E n nt f L (.move x) v:=Ej hx
theorem qa{x:Operand}(v:D)(hx:ov nt f x=some v:=by exact rfl):PS E n nt f L (.assign x) v:=xQ hx
theorem qpt{c a b:Operand}{fr:Bool}(v:D)(hc:ov nt f c=some (.one (.p fr (.v (.bool true)))):=by exact rfl)(hx:ov nt f a=some v:=by exact rfl):PS E n nt f L (.pick c a b) v:=Gm hc hx
theorem qpf{c a b:Operand}{fr:Bool}(v:D)(hc:ov nt f c=some (.one (.p fr (.v (.bool false)))):=by exact rfl)(hx:ov nt f b=some v:=by exact rfl):PS E n nt f L (.pick c a b) v:=Gn hc hx
theorem ql{ty:TypeId}{x:Operand}{k i j sz bz:Nat}{ag:Bool}{es:List (List C)}{e cs:List C}(v:D)(p:Nat)(hz:cY E.ti ty=some (sz,ag))(hx:ov nt f x=some (.one (.ptr k i j)):=by exact rfl)(hp:L[p]? =some [(k,bz,es)]:=by exact rfl)(he:es[i]? =some e:=by exact rfl)(hc:cut e j (cond ag sz 1)=some cs:=by exact rfl)(hv:bJ ag cs=some v:=by exact rfl):PS E n nt f L (.load ty x) v:=pG p hx hz hp he hc hv
theorem qc{c:Call}{k:FuncId}{vs:List (Bool×TD)}{vs2 rs:List TD}(v:D)(args:List D)(hk:RunsP E n k vs2 (.fresh,rs))(hv:Vw L args vs)(hc:aI (.call c)=some c:=by exact rfl)(hr:aW c (ov nt f)=some (k,args):=by exact rfl)(h2:vs.map (·.2)=vs2:=by exact rfl)(hrv:eZ (rs.map (bu true))=v:=by exact rfl):PS E n nt f L (.call c) v:=AL hk hc hr hv h2 hrv
theorem qb{op:BinOp}{ty sh:TypeId}{x y:Operand}{fa fb:Bool}{ka kb:IntKind}{a b:Int}{v:Value}(hp:ae E.P (do eqGuard op ty x y (.int ka a) (.int kb b);binOp op ty (.int ka a) (.int kb b))=some v)(hx:ov nt f x=some (.one (.p fa (.v (.int ka a)))):=by exact rfl)(hy:ov nt f y=some (.one (.p fb (.v (.int kb b)))):=by exact rfl)(h1:one1 v=true:=by exact rfl):PS E n nt f L (.binOp op ty x y sh) (mk v):=fy hx hy hp h1
theorem ow{ty:TypeId}{a x:Operand}{k i j sz bz:Nat}{ag:Bool}{es:List (List C)}{e e' cs:List C}{v:D}{L':BL}(es':List (List C))(p:Nat)(hz:cY E.ti ty=some (sz,ag))(h:cZ E y n nt ops r K f L')(hop:o.op= .store ty a x:=by exact rfl)(ha:ov nt f a=some (.one (.ptr k i j)):=by exact rfl)(hx:ov nt f x=some v:=by exact rfl)(hd:eA v=some cs:=by exact rfl)(hs:Nat.beq cs.length sz=true:=by exact rfl)(hp:L[p]? =some [(k,bz,es)]:=by exact rfl)(he:es[i]? =some e:=by exact rfl)(ht:patch e j cs=some e':=by exact rfl)(hes:es.set i e'=es':=by exact rfl)(hw:bY ops o nt f=some true:=by exact rfl)(hdst:o.dst=none:=by exact rfl)(hL:L.set p [(k,bz,es')]=L':=by exact rfl):cZ E y n nt ops (o::r) K f L:=HK hw hdst (by rw [hop];exact gr p ha hx hd hz hs hp he ht hes) hL h
theorem tq{v:D}{i w b:Nat}{O:List (List Nat)}{N:List (Bool×List Nat)}{R:List (List Nat)}{A:BL}(is:List Nat)(hA:is.filterMap (λi=>L[i]?)=A)(hm:∀x∈A.flatten,x.1 ∉(R.getD i []).flatMap (aE b O N))(hs:PS E n nt f A o.op v)(h:TnL E n nt ops r (i+1) w O N R b K (up f d v) L)(hw:bY ops o nt f=some true:=by exact rfl)(hd:o.dst=some d:=by exact rfl)(hn:Nat.blt d nt=true:=by exact rfl)(hn2:is.Nodup:=by decide)(hu:aE b O N i= []:=by exact rfl):TnL E n nt ops (o::r) i w O N R b K f L:=Ef hw hd hn is hn2 hA hm hu hs h
theorem oW{d1 d2:D}{ds:List D}(h:aj)(hb:HB h L):bk h (d1::d2::ds)=false:=Gr
theorem oG{cs:List C}(h:aj)(hb:HB h L):bk h [.agg cs]=false:=Gs
theorem eF1{t:Tmp}{fr:Bool}{x:Value}{rs:List TD}(hr:ov nt f (.tmp t)=some (.one (.p fr (.v x))):=by exact rfl)(hrs: [TD.one (.v x)]=rs:=by exact rfl):cP nt (im E [.tmp t] (.fresh,rs)) .ret f L:=ls (.inr rfl) (gV hr dG) (aM (dr fF) ck) (λh hb=>Mi) rfl hrs
theorem eR{KK:St->Prop}(h:cP nt Q .ret f L):cP nt (jy KK Q) .ret f L:=h
theorem bR{id:Nat}(h:cP nt Q .ret f L):cP nt (zH id Q) .ret f L:=h
theorem bN{id:Nat}(h:cP nt Q .normal f L):cP nt (zH id Q) .normal f L:=h
theorem bH{id:Nat}(h:cP nt Q .normal f L):cP nt (zH id Q) (.exit id) f L:=Iz h
theorem cT{c:Operand}{a b:Code}{fr:Bool}(hc:ov nt f c=some (.one (.p fr (.v (.bool true)))))(h:WpL E y n nt a Q f L):WpL E y n nt (.cond c a b) Q f L:=Gk hc h
theorem cF{c:Operand}{a b:Code}{fr:Bool}(hc:ov nt f c=some (.one (.p fr (.v (.bool false)))))(h:WpL E y n nt b Q f L):WpL E y n nt (.cond c a b) Q f L:=Gl hc h
theorem lK(h:cP nt Q .normal f L):WpL E y n nt .skip Q f L:=Iy h
theorem lR(h:cP nt Q .ret f L):WpL E y n nt .ret Q f L:=Me h
theorem lB{id:Nat}{c:Code}(h:WpL E y n nt c (zH id Q) f L):WpL E y n nt (.block id c) Q f L:=Gj h
theorem eS{b:Code}(h:WpL E y n nt b Q f L):cP nt (jy (WpC E y n b Q) Q) .normal f L:=Ei h
theorem oE(h:cP nt Q .normal f L):cZ E y n nt ops [] (Q .normal) f L:=zG h
theorem lS{a b:Code}(h:WpL E y n nt a (jy (WpC E y n b Q) Q) f L):WpL E y n nt (.seq a b) Q f L:=HL h
theorem lO{id:Nat}{l:List Oper}(h:cZ E y n nt l.toArray l (Q .normal) f L):WpL E y n nt (.region id l.toArray false) Q f L:=Eh h
theorem oN{id:Nat}{l:List Oper}{b:Code}(h:cZ E y n nt l.toArray l (jy (WpC E y n b Q) Q .normal) f L):cZ E y n nt ops [] (jy (WpC E y n (.seq (.region id l.toArray false) b) Q) Q .normal) f L:=zG (Ei (HL (Eh h)))
theorem oR{id:Nat}{l:List Oper}(h:cZ E y n nt l.toArray l (Q .normal) f L):cZ E y n nt ops [] (jy (WpC E y n (.region id l.toArray false) Q) Q .normal) f L:=zG (Ei (Eh h))
end
end Ev
end
noncomputable section
namespace Ev
open Go Go.RowKit
def moG{α:Type}(ro:α->List C)(w:Nat)(l:List α)(k:Nat):List B1:=
 match l with
 | []=> []
 |_::_=> [(k,w,l.map ro)]
section
variable {E : Env} {y : Nat → cR} {n nt : Nat} {f : Nat → D} {L : BL} {ops : Array Oper} {rr : List Oper} {K : St → Prop}
theorem AV{α:Type}{ro:α->List C}{o:Oper}{d:Nat}{c:Call}{a x:Operand}{ty ty1 w e1:TypeId}{t1:TI}{k:Nat}{l ys lm:List α}{dx:D}(p:Nat)(hw:bY ops o nt f=some true)(hd:o.dst=some d)(hn:Nat.blt d nt=true)(ho:o.op= .call c)(ha:ov nt f a=some (.one (moC l k)))(hx:ov nt f x=some dx)(hxs:re L dx (ys.map ro))(hp:L[p]? =some (moG ro w l k))(hlm:app l ys=some lm)(hr:∀y,(ro y).length=w)(hz:cG E.ti ty=some w)(ht1:E.ti ty1=some t1)(he1:aG t1=some e1)
  (hc:c.callee= .builtin .append) (hargs:c.args.toList= [a,x]) (hty:c.argTypes[0]? =some ty) (hty1:c.argTypes[1]? =some ty1) (h:∀k',cZ E y n nt ops rr K (up f d (.one (moC lm k'))) (moG ro w lm k'::L.eraseIdx p)) (hz0:Nat.beq w 0=false:=by rfl):cZ E y n nt ops (o::rr) K f L:=by
 cases l with
 |nil=>
  have hlm2:=Ew hlm;rw [List.nil_append]at hlm2;subst hlm2;have hb:=AP hlm
  cases lm with
  |nil=>exact zF hw hd hn (by rw [ho];exact Ep ha hx hxs hz ht1 he1 hc hargs hty hty1) (rh hp (h 0))
  |cons y ys=>
   refine cn hw hd hn (by rw [ho];exact AQ (ro:=ro) ha hx hxs hb hr hz ht1 he1 hc hargs hty hty1) λk'=> ?_;exact rh (p:=p+1) hp (h k')
 |cons y l=>
  obtain⟨_,rfl⟩:=cJ hlm;exact Iw hw hd hn (by rw [ho];exact Er (r:=ro) p ha hx hxs rfl hp hlm hr hz ht1 he1 hc hargs hty hty1 hz0) rfl h
end
theorem IP{E:Env}{y:Nat->cR}{n nt:Nat}{f:Nat->D}{L:BL}{α:Type}{Q:Ex->St->Prop}{c:Code}(ro:α->List C)(w:Nat)(h:WpL E y n nt c Q f (moG ro w ([]:List α) 0::L)):WpL E y n nt c Q f L:=λH hb=>h H hb
theorem tY{α β γ:Type}{ro:α->List β}{rv:α->List (Bool×γ)}{g:β->Option (Bool×γ)}(hq:∀x,(ro x).mapM g=some (rv x)):∀l:List α,((l.map ro).mapM λe=>e.mapM g)=some (l.map rv)
 | []=>rfl
 |x::l=>by
  rw [List.map_cons,List.mapM_cons,hq x,tY hq l];rfl
theorem GK{L:BL}{α:Type}{ro:α->List C}{rv:α->List (Bool×T)}{r:α->List T}{k sz:Nat}{l:List α}(p:Nat)(hp:L[p]? =some [(k,sz,l.map ro)])(hr:∀x h m,(ro x).mapM (cu h (m+1))=some (rv x))(h2:∀x,(rv x).map (·.2)=r x):∀h,HB h L->∀m,cu h (m+2) (.own k 0 l.length)=some ((l.map rv).all (λe=>e.all (·.1)),.s true sz (l.map r)):=λh hb m=>by
 have hc:cut (l.map ro) 0 l.length=some (l.map ro):=by
  unfold cut;rw [if_pos (by simp),List.drop_zero,List.take_of_length_le (by simp)]
 have e1:cu h (m+2) (.own k 0 l.length)=(aq h k).bind λx=>(cut x.2 0 l.length).bind λes=>(es.mapM λe:List C=>e.mapM (cu h (m+1))).bind λq=>some (q.all (λe=>e.all (·.1)),T.s true x.1 (q.map (λe=>e.map (·.2)))):=rfl;rw [e1,hb.get hp];simp only [zbS,hc];rw [tY (rv:=rv) λx=>hr x h m];simp only [zbS,List.map_map];congr 3;refine List.map_congr_left λx hx=> ?_;simp [Function.comp_def,h2]
theorem HO{L:BL}{α:Type}{ro:α->List C}{rv:α->List (Bool×T)}{r:α->List T}{w k:Nat}{l:List α}(p:Nat)(hp:L[p]? =some (moG ro w l k))(hr:∀x h m,(ro x).mapM (cu h (m+1))=some (rv x))(h2:∀x,(rv x).map (·.2)=r x):∀h,HB h L->∀m,cu h (m+2) (moC l k)=some ((l.map rv).all (λe=>e.all (·.1)),Sl.t r (mo w l)):=by
 cases l with
 |nil=>exact λh hb m=>rfl
 |cons a l=>exact GK p hp hr h2
end Ev
end
end Go.Proofs.Ytmlpoegdhcdkcaa
