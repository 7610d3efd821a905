/- Texts of a claim, joined. -/
import Derived.Test.YtjjbpdldbdmoeaaZT4
import Derived.Laws.StructEq
set_option linter.unusedVariables false
set_option linter.unusedSimpArgs false
namespace Go.Proofs.Ytjjbpdldbdmoeaa
noncomputable section
namespace Ev
open Go Go.RowKit
section
variable {E : Env} {y : Nat → fG} {n nt : Nat} {f : Nat → D} {L : BL}
theorem wv{x:Operand}{v:D}(hx:ov nt f x=some v):PS E n nt f L (.move x) v:=fun h nid hb=>by
 rw [TF,bY,hx];rfl
theorem Bd{x:Operand}{v:D}(hx:ov nt f x=some v):PS E n nt f L (.assign x) v:=fun h nid hb=>by
 rw [TG,bY,hx];rfl
theorem pB{x:Operand}{k i j:Nat}(hx:ov nt f x=some (.one (.ptr k i j))):PS E n nt f L (.nilCheck x) (.one (.ptr k i j)):=fun h nid hb=>by
 rw [Mm];unfold sem wt;simp only [fg,zbB,hx,zbS]
theorem WC{c a b:Operand}{fr:Bool}{v:D}(hc:ov nt f c=some (.one (.p fr (.v (.bool true)))))(hx:ov nt f a=some v):PS E n nt f L (.pick c a b) v:=fun h nid hb=>by
 rw [Ml,bY,hc,bY,hx];rfl
theorem WD{c a b:Operand}{fr:Bool}{v:D}(hc:ov nt f c=some (.one (.p fr (.v (.bool false)))))(hx:ov nt f b=some v):PS E n nt f L (.pick c a b) v:=fun h nid hb=>by
 rw [Ml,bY,hc,bY (x:=b),hx];rfl
theorem de{op:BinOp}{ty sh:TypeId}{x y:Operand}{fa fb:Bool}{ka kb:IntKind}{a b:Int}{v:Value}(hx:ov nt f x=some (.one (.p fa (.v (.int ka a)))))(hy:ov nt f y=some (.one (.p fb (.v (.int kb b)))))
  (hp:ak E.P (do eqGuard op ty x y (.int ka a) (.int kb b);binOp op ty (.int ka a) (.int kb b))=some v) (h1:one1 v=true):PS E n nt f L (.binOp op ty x y sh) (mk v):=fun h nid hb=>by
 rw [JC,bY,hx,bY,hy];refine Eq.trans (b:=xG E.P E.ti op ty x y (.one (.p fa (.v (.int ka a)))) (.one (.p fb (.v (.int kb b))))) rfl ?_;rw [ZX,hp];show mkO v=_;unfold mkO;rw [if_pos h1]
theorem WE{P:Program}{ti:TypeId→Option TI}{op:BinOp}{ty:TypeId}{x y:Operand}{fr fr':Bool}{a b:Bool}:
  xG P ti op ty x y (.one (.p fr (.v (.bool a)))) (.one (.p fr' (.v (.bool b))))=(ak P (do eqGuard op ty x y (.bool a) (.bool b);binOp op ty (.bool a) (.bool b))).bind mkO:=rfl
theorem nT{op:BinOp}{ty sh:TypeId}{x y:Operand}{fa fb:Bool}{a b:Bool}{v:Value}(hx:ov nt f x=some (.one (.p fa (.v (.bool a)))))(hy:ov nt f y=some (.one (.p fb (.v (.bool b)))))
  (hp:ak E.P (do eqGuard op ty x y (.bool a) (.bool b);binOp op ty (.bool a) (.bool b))=some v) (h1:one1 v=true):PS E n nt f L (.binOp op ty x y sh) (mk v):=fun h nid hb=>by
 rw [JC,bY,hx,bY,hy];refine Eq.trans (b:=xG E.P E.ti op ty x y (.one (.p fa (.v (.bool a)))) (.one (.p fb (.v (.bool b))))) rfl ?_;rw [WE,hp];show mkO v=_;unfold mkO;rw [if_pos h1]
theorem aa4{P:Program}{ti:TypeId→Option TI}{op:BinOp}{ty:TypeId}{x y:Operand}{a b:List C}:xG P ti op ty x y (.agg a) (.agg b)=(plain (.agg a)).bind fun va=>(plain (.agg b)).bind fun vb=>(ak P (do eqGuard op ty x y va vb;binOp op ty va vb)).bind mkO:=rfl
theorem nU{op:BinOp}{ty sh:TypeId}{x y:Operand}{a b:List C}{va vb v:Value}(hx:ov nt f x=some (.agg a))(hy:ov nt f y=some (.agg b))(ha:plain (.agg a)=some va)(hb':plain (.agg b)=some vb)
  (hp:ak E.P (do eqGuard op ty x y va vb;binOp op ty va vb)=some v) (h1:one1 v=true):PS E n nt f L (.binOp op ty x y sh) (mk v):=fun h nid hb=>by
 rw [JC,bY,hx,bY,hy];refine Eq.trans (b:=xG E.P E.ti op ty x y (.agg a) (.agg b)) rfl ?_;rw [aa4,ha,hb'];simp only [zbS];rw [hp];show mkO v=_;unfold mkO;rw [if_pos h1]
theorem pU{ty:TypeId}{x:Operand}{fr b:Bool}(hx:ov nt f x=some (.one (.p fr (.v (.bool b))))):PS E n nt f L (.unOp .not ty x) (bD (!b)):=fun h nid hb=>by
 show((aH (aO (tab nt f)) x).bind fun d=>(plain d).bind fun v=>(ak E.P (Op.unary .not v)).bind mkO)=_;rw [bY,hx];rfl
theorem acS{ty:TypeId}{x:Operand}{fr:Bool}{k:IntKind}{a:Int}(hx:ov nt f x=some (.one (.p fr (.v (.int k a))))):PS E n nt f L (.unOp .neg ty x) (iD k (k.wrap (0 - a))):=fun h nid hb=>by
 show((aH (aO (tab nt f)) x).bind fun d=>(plain d).bind fun v=>(ak E.P (Op.unary .neg v)).bind mkO)=_;rw [bY,hx];rfl
theorem ik{src dst:TypeId}{x:Operand}{fr:Bool}{k:IntKind}{a:Int}{v:Value}(hx:ov nt f x=some (.one (.p fr (.v (.int k a)))))(hp:ak E.P (Go.convert src dst (.int k a))=some v)(h1:one1 v=true):PS E n nt f L (.convert src dst x) (mk v):=fun h nid hb=>by
 show((aH (aO (tab nt f)) x).bind fun d=>(plain d).bind fun v=>match v with
  | .int .. =>(ak E.P (Go.convert src dst v)).bind mkO
  |_=>none)=_
 rw [bY,hx];show(ak E.P (Go.convert src dst (.int k a))).bind mkO=_;rw [hp];show mkO v=_;unfold mkO;rw [if_pos h1]
theorem ai{ty:TypeId}{x:Operand}{m k i j off sz:Nat}{ag:Bool}(hx:ov nt f x=some (.one (.ptr k i j)))(ht:fieldAt E.ti ty m=some (off,sz,ag))(hz:Nat.beq sz 0=false):PS E n nt f L (.fieldAddr ty x m) (.one (.ptr k i (j+off))):=fun h nid hb=>by
 rw [NI,bY,hx,ht];show(if sz=0 then none else _)=_;rw [if_neg (Nat.ne_of_beq_eq_false hz)]
theorem dh{ty:TypeId}{x:Operand}{m i j off sz s:Nat}{fr:Bool}{l:List (List T)}{ag:Bool}(hx:ov nt f x=some (.one (.iptr fr s l i j)))(ht:fieldAt E.ti ty m=some (off,sz,ag))(hz:Nat.beq sz 0=false):PS E n nt f L (.fieldAddr ty x m) (.one (.iptr fr s l i (j+off))):=fun h nid hb=>by
 rw [NI,bY,hx,ht];show(if sz=0 then none else _)=_;rw [if_neg (Nat.ne_of_beq_eq_false hz)]
theorem TN{ty:TypeId}{x:Operand}{m off sz:Nat}{cs c2:List C}{ag:Bool}{v:D}(hx:ov nt f x=some (.agg cs))(ht:fieldAt E.ti ty m=some (off,sz,ag))(hc:cut cs off (cond ag sz 1)=some c2)(hv:dH ag c2=some v):PS E n nt f L (.field ty x m) v:=fun h nid hb=>by
 show((E.ti ty).bind fun t=>(kM t m).bind fun fd=>(E.ti fd.type).bind fun ft=>(aH (aO (tab nt f)) x).bind fun d=>match d with
  | .agg cs=>(cut cs fd.offset (if bn ft.desc then ft.size else 1)).bind fun c=>(dH (bn ft.desc) c).bind fun v=>some (⟨v,[]⟩:Eff)
  |_=>none)=_
 unfold fieldAt at ht;simp only [zbE,zsI,Prod.mk.injEq]at ht;obtain⟨t,h1,fd,h2,ft,h3,rfl,rfl,rfl⟩:=ht;rw [h1,bY,hx];simp only [zbS,h2,h3]
 have hc':cut cs fd.offset (if bn ft.desc then ft.size else 1)=some c2:=by
  rw [←hc];cases bn ft.desc<;>rfl
 rw [hc'];simp only [zbS,hv]
theorem GJ{α:Type}(b:Bool)(x y:α):(if b=true then x else y)=cond b x y:=by cases b<;>rfl
theorem ny{ty:TypeId}{x:Operand}{k i j sz bz:Nat}{ag:Bool}{es:List (List C)}{e cs:List C}{v:D}(p:Nat)(hx:ov nt f x=some (.one (.ptr k i j)))(hz:cj E.ti ty=some (sz,ag))(hp:L[p]? =some [(k,bz,es)])(he:es[i]? =some e)(hc:cut e j (cond ag sz 1)=some cs)(hv:dH ag cs=some v):PS E n nt f L (.load ty x) v:=fun h nid hb=>by
 rw [TH,bY,hx,hz];show GG (kOf ag (Mj j (if ag then sz else 1) (ZW i (az h k))))=_;rw [hb.get hp,GJ];show GG (kOf ag (Mj j (cond ag sz 1) es[i]?))=_;rw [he];show GG (kOf ag (cut e j (cond ag sz 1)))=_;rw [hc];show GG (dH ag cs)=_;rw [hv];rfl
theorem bL{ty:TypeId}{x:Operand}{i j sz s:Nat}{fr ag:Bool}{l:List (List T)}{e:List T}{cs:List C}{v:D}(hx:ov nt f x=some (.one (.iptr fr s l i j)))(hz:cj E.ti ty=some (sz,ag))(he:l[i]? =some e)(hc:cut (e.map (pC fr)) j (cond ag sz 1)=some cs)(hv:dH ag cs=some v):PS E n nt f L (.load ty x) v:=fun h nid hb=>by
 rw [TH,bY,hx,hz];show GG (kOf ag (Mj j (if ag then sz else 1) (kIn fr l[i]?)))=_;rw [he,GJ];show GG (kOf ag (cut (e.map (pC fr)) j (cond ag sz 1)))=_;rw [hc];show GG (dH ag cs)=_;rw [hv];rfl
theorem gT{ty:TypeId}{a x:Operand}{k i j sz bz:Nat}{ag:Bool}{es es':List (List C)}{e e' cs:List C}{v:D}(p:Nat)(ha:ov nt f a=some (.one (.ptr k i j)))(hx:ov nt f x=some v)(hd:iU v=some cs)(hz:cj E.ti ty=some (sz,ag))(hs:Nat.beq cs.length sz=true)(hp:L[p]? =some [(k,bz,es)])(he:es[i]? =some e)(ht:patch e j cs=some e')(hes:es.set i e'=es'):PW E n nt f L (.store ty a x) cB p k bz es':=⟨⟨_,hp⟩,fun h nid hb=>by
 rw [Ww,bY,ha,bY,hx,hz];show Wv k i j sz (iU v) (az h k)=_;rw [hd,hb.get hp];show(if cs.length=sz then TE k i bz es (Mk j cs es[i]?)else none)=_;rw [if_pos (Nat.eq_of_beq_eq_true hs),he];show TE k i bz es (patch e j cs)=_;rw [ht];subst hes
 rfl⟩
theorem br{ty:TypeId}{t:TI}{row:List C}{sz:Nat}(ht:E.ti ty=some t)(hr:lf t=row)(hs:t.size=sz):PN E n nt f L (.alloc ty) (fun k=> .one (.ptr k 0 0)) sz [row]:=fun h nid hb=>by
 show((E.ti ty).bind fun t=>some (⟨.one (.ptr nid 0 0),[(nid,.own t.size [lf t])]⟩:Eff))=_;rw [ht];subst hr hs;rfl
theorem gH{ty:TypeId}{x:Operand}{t:TI}{d:D}{cs:List C}{sz:Nat}(ht:E.ti ty=some t)(hx:ov nt f x=some d)(hc:iU d=some cs)(hs:cs.length=sz):PN E n nt f L (.box ty x) (fun k=> .one (.ptr k 0 0)) sz [cs]:=fun h nid hb=>by
 show((E.ti ty).bind fun t=>(aH (aO (tab nt f)) x).bind fun d=>(iU d).bind fun cs=>some (⟨.one (.ptr nid 0 0),[(nid,.own cs.length [cs])]⟩:Eff))=_;rw [ht,bY,hx];simp only [zbS,hc];subst hs;rfl
def yF(nt:Nat)(f:Nat→D)(l:List (Nat×Operand)):Option (List (Nat×D)):=l.mapM fun((i,x):Nat×Operand)=>(ov nt f x).map fun d=>(i,d)
theorem aU{ty:TypeId}{parts:Array (Nat×Operand)}{t:TI}{ps:List (Nat×D)}{pl:Nat→Option (Nat×Nat)}{cs:List C}(ht:E.ti ty=some t)(hps:yF nt f parts.toList=some ps)(hpl:jG E.ti t=some pl)(hf:fill pl (lf t) ps=some cs):PS E n nt f L (.build ty parts) (.agg cs):=fun h nid hb=>by
 show((E.ti ty).bind fun t=>(parts.toList.mapM fun((i,x):Nat×Operand)=>(aH (aO (tab nt f)) x).map fun d=>(i,d)).bind fun ps=>(jG E.ti t).bind fun pl=>(fill pl (lf t) ps).bind fun cs=>some (⟨.agg cs,[]⟩:Eff))=_;rw [ht,fg];simp only [zbS];have h1:(parts.toList.mapM fun((i,x):Nat×Operand)=>(ov nt f x).map fun d=>(i,d))=some ps:=hps;simp only [h1,zbS,hpl,hf]
theorem il{ti:TypeId→Option TI}{ty z:Nat}(h:dM ti ty=some z):∃t e te,ti ty=some t∧bk t=some e∧ti e=some te∧te.size=z:=by
 unfold dM at h;simp only [zbE,zsI]at h;obtain⟨t,h1,e,h2,te,h3,h4⟩:=h;exact⟨t,e,te,h1,h2,h3,h4⟩
theorem fD{ty ety:TypeId}{len z:Nat}{parts:Array (Nat×Operand)}{t te:TI}{ps:List (Nat×D)}{cs:List C}{es:List (List C)}(ht:E.ti ty=some t)(he:bk t=some ety)(hte:E.ti ety=some te)(hz:te.size=z)(hps:yF nt f parts.toList=some ps)(hf:fill (fun i=>some (i*z,z)) (rP te len) ps=some cs)(hr:vD z cs len=some es)(hl:Nat.ble (len*z) 16777216=true):PN E n nt f L (.buildSlice ty len parts) (fun k=> .one (.own k 0 len)) z es:=fun h nid hb=>by
 show((E.ti ty).bind fun t=>(bk t).bind fun x=>(E.ti x).bind fun e=>(parts.toList.mapM fun((i,x):Nat×Operand)=>(aH (aO (tab nt f)) x).map fun d=>(i,d)).bind fun ps=>(fill (fun i=>some (i*e.size,e.size)) (rP e len) ps).bind fun cs=>(vD e.size cs len).bind fun es=>if len*e.size≤2 ^ 24 then some (⟨.one (.own nid 0 len),[(nid,.own e.size es)]⟩:Eff)else none)=_;subst hz;rw [ht,fg];have h1:(parts.toList.mapM fun((i,x):Nat×Operand)=>(ov nt f x).map fun d=>(i,d))=some ps:=hps;simp only [zbS,he,hte,h1,hf,hr];rw [if_pos (Nat.le_of_ble_eq_true hl)]
theorem mP{x:Operand}{i:Nat}{ds:List D}{v:D}(hx:ov nt f x=some (.tup ds))(hi:ds[i]? =some v):PS E n nt f L (.extract x i) v:=fun h nid hb=>by
 show((aH (aO (tab nt f)) x).bind fun d=>match d with
  | .tup ds=>(ds[i]?).bind fun v=>some (⟨v,[]⟩:Eff)
  |_=>none)=_
 rw [bY,hx];show(ds[i]?).bind _=_;rw [hi];rfl
theorem ba{α β:Type}{r:α→β}{l:List α}{i:Nat}{x:α}(h:l[i]? =some x):(l.map r)[i]? =some (r x):=by rw [List.getElem?_map,h];rfl
theorem TO{α:Type}{l:List α}{i:Nat}{x:α}(h:l[i]? =some x):i<l.length:=(List.getElem?_eq_some_iff.1 h).1
theorem map_set{α β:Type}{r:α→β}{l:List α}{i:Nat}{x:α}:(l.map r).set i (r x)=(l.set i x).map r:=(List.map_set).symm
theorem eO{α:Type}{r:α→List T}{ty:TypeId}{x ix:Operand}{fr fb nn:Bool}{sz:Nat}{l:List α}{kb:IntKind}{i:Int}{y:α}(hx:ov nt f x=some (.one (.p fr (.s nn sz (l.map r)))))(hi:ov nt f ix=some (.one (.p fb (.v (.int kb i)))))(h0:0≤i)(hy:l[i.toNat]? =some y)(hz:dM E.ti ty=some sz):PS E n nt f L (.indexAddr ty x ix) (.one (.iptr fr sz (l.map r) i.toNat 0)):=fun h nid hb=>by
 rw [yE,bY,hx,bY,hi];show kIx E.ti ty h _ (iX (.one (.p fb (.v (.int kb i)))))=_;rw [iM _ _ _ h0];refine Eq.trans (b:=JB E.ti ty h i.toNat (.one (.p fr (.s nn sz (l.map r))))) rfl ?_;rw [aes,hz];show(if i.toNat<(l.map r).length∧sz=sz then _ else _)=_;rw [if_pos ⟨by rw [List.length_map];exact TO hy,rfl⟩]
theorem JH{α:Type}{r:α→List C}{ty:TypeId}{x ix:Operand}{fb:Bool}{k sz:Nat}{l:List α}{kb:IntKind}{i:Int}{y:α}(p:Nat)(hx:ov nt f x=some (.one (.own k 0 l.length)))(hi:ov nt f ix=some (.one (.p fb (.v (.int kb i)))))(h0:0≤i)(hy:l[i.toNat]? =some y)(hp:L[p]? =some [(k,sz,l.map r)])(hz:dM E.ti ty=some sz):PS E n nt f L (.indexAddr ty x ix) (.one (.ptr k i.toNat 0)):=fun h nid hb=>by
 rw [yE,bY,hx,bY,hi];show kIx E.ti ty h _ (iX (.one (.p fb (.v (.int kb i)))))=_;rw [iM _ _ _ h0];refine Eq.trans (b:=JB E.ti ty h i.toNat (.one (.own k 0 l.length))) rfl ?_;rw [aet,hz,hb.get hp];show(if i.toNat<l.length∧sz=sz then _ else _)=_;rw [if_pos ⟨TO hy,rfl⟩,Nat.zero_add]
theorem Mr{c:Call}{a:Operand}{ty e:TypeId}{t:TI}{d:D}{m:Nat}(hc:c.callee= .builtin .len)(ha:c.args.toList= [a])(hty:c.argTypes[0]? =some ty)(ht:E.ti ty=some t)(hd:t.desc= .slice e)(hx:ov nt f a=some d)(hl:BX d=some m):PS E n nt f L (.call c) (iD .i64 m):=fun h nid hb=>by
 have h1:bm (.call c)=none:=by unfold bm;simp only [hc]
 rw [mL,h1];unfold sem wt;simp only [hc,hty,ht,ha,fg,zbB,zbS,List.mapM_cons,List.mapM_nil,hx,Option.pure_def,hd,hl];rfl
theorem Ms{α:Type}{r:α→List T}{fr nn:Bool}{sz:Nat}{l:List α}:BX (.one (.p fr (.s nn sz (l.map r))))=some l.length:=by
 show some (l.map r).length=_;rw [List.length_map]
theorem iW{α:Type}{r:α→List T}{c:Call}{a:Operand}{ty e:TypeId}{t:TI}{fr nn:Bool}{sz:Nat}{l:List α}(hx:ov nt f a=some (.one (.p fr (.s nn sz (l.map r)))))(ht:E.ti ty=some t)(hd:t.desc= .slice e)(hc:c.callee= .builtin .len)(ha:c.args.toList= [a])(hty:c.argTypes[0]? =some ty):PS E n nt f L (.call c) (iD .i64 l.length):=Mr hc ha hty ht hd hx Ms
theorem TP{c:Call}{a:Operand}{ty e:TypeId}{t:TI}{k m:Nat}(hx:ov nt f a=some (.one (.own k 0 m)))(ht:E.ti ty=some t)(hd:t.desc= .slice e)(hc:c.callee= .builtin .len)(ha:c.args.toList= [a])(hty:c.argTypes[0]? =some ty):PS E n nt f L (.call c) (iD .i64 m):=Mr hc ha hty ht hd hx rfl
def Bf(L:BL)(x:D)(xs:List (List C)):Prop:=∀h,HB h L→nc h x=some xs
theorem jh{α:Type}{r:α→List C}{k sz:Nat}{l:List α}(p:Nat)(hp:L[p]? =some [(k,sz,l.map r)]):Bf L (.one (.own k 0 l.length)) (l.map r):=fun h hb=>by
 show((az h k).bind fun x=>cut x.2 0 l.length)=_;rw [hb.get hp];show cut (l.map r) 0 l.length=_;unfold cut;rw [if_pos (by simp),List.drop_zero,List.take_of_length_le (by simp)]
theorem aa5{c:Call}{a x:Operand}{ty ty1 z e1:TypeId}{t1:TI}{fr:Bool}{bz:Nat}{d:D}{xs:List (List C)}(ha:ov nt f a=some (.one (.p fr (.s false bz []))))(hx:ov nt f x=some d)(hxs:Bf L d xs)(hne:∃y ys,xs=y::ys)(hb:xs.length≤bX)(hall:xs.all (·.length==z)=true)(hz:dM E.ti ty=some z)(ht1:E.ti ty1=some t1)(he1:bk t1=some e1)
  (hc:c.callee= .builtin .append) (hargs:c.args.toList= [a,x]) (hty:c.argTypes[0]? =some ty) (hty1:c.argTypes[1]? =some ty1):PN E n nt f L (.call c) (fun k=> .one (.own k 0 xs.length)) z xs:=fun h nid hh=>by
 obtain⟨t,e,te,g1,g2,g3,g4⟩:=il hz;have h1:bm (.call c)=none:=by unfold bm;simp only [hc]
 rw [mL,h1];unfold sem wt;simp only [hc,hty,g1,hargs,fg,zbB,zbS,List.mapM_cons,List.mapM_nil,ha,hx,Option.pure_def,g2,g3,hty1,ht1,he1,g4];unfold Ev.append;simp only [hxs h hh,zbB,zbS];obtain⟨y,ys,rfl⟩:=hne;rw [if_neg (by simp),if_neg (by simp),if_pos hb,if_pos hall]
theorem aa6{c:Call}{a x:Operand}{ty ty1 z e1:TypeId}{t1:TI}{fr:Bool}{bz:Nat}{d:D}(ha:ov nt f a=some (.one (.p fr (.s false bz []))))(hx:ov nt f x=some d)(hxs:Bf L d [])(hz:dM E.ti ty=some z)(ht1:E.ti ty1=some t1)(he1:bk t1=some e1)
  (hc:c.callee= .builtin .append) (hargs:c.args.toList= [a,x]) (hty:c.argTypes[0]? =some ty) (hty1:c.argTypes[1]? =some ty1):PS E n nt f L (.call c) (.one (.p fr (.s false bz []))):=fun h nid hh=>by
 obtain⟨t,e,te,g1,g2,g3,g4⟩:=il hz;have h1:bm (.call c)=none:=by unfold bm;simp only [hc]
 rw [mL,h1];unfold sem wt;simp only [hc,hty,g1,hargs,fg,zbB,zbS,List.mapM_cons,List.mapM_nil,ha,hx,Option.pure_def,g2,g3,hty1,ht1,he1,g4];unfold Ev.append;simp only [hxs h hh,zbB,zbS];rw [if_neg (by simp),if_pos (show([]:List (List C)).length=0 from rfl)]
theorem XL{α:Type}{r:α→List C}{c:Call}{a x:Operand}{ty ty1 z e1:TypeId}{t1:TI}{k:Nat}{l m lm:List α}{d:D}{xs:List (List C)}(p:Nat)(ha:ov nt f a=some (.one (.own k 0 l.length)))(hx:ov nt f x=some d)(hxs:Bf L d xs)(hm:xs=m.map r)(hp:L[p]? =some [(k,z,l.map r)])(hlm:app l m=some lm)(hr:∀y,(r y).length=z)(hz:dM E.ti ty=some z)(ht1:E.ti ty1=some t1)(he1:bk t1=some e1)
  (hc:c.callee= .builtin .append) (hargs:c.args.toList= [a,x]) (hty:c.argTypes[0]? =some ty) (hty1:c.argTypes[1]? =some ty1) (hz0:Nat.beq z 0=false:=by rfl):PA E n nt f L (.call c) (fun k'=> .one (.own k' 0 lm.length)) p k z (lm.map r):=⟨⟨_,hp⟩,fun h nid hh=>by
 obtain⟨t,e,te,g1,g2,g3,g4⟩:=il hz;obtain⟨hb,rfl⟩:=dE hlm;have h1:bm (.call c)=none:=by unfold bm;simp only [hc]
 rw [mL,h1];unfold sem wt;simp only [hc,hty,g1,hargs,fg,zbB,zbS,List.mapM_cons,List.mapM_nil,ha,hx,Option.pure_def,g2,g3,hty1,ht1,he1,g4];unfold Ev.append;simp only [hxs h hh,zbB,zbS,hh.get hp,hm];rw [if_pos ⟨trivial,by simp,by simpa using hb,trivial,by simp [hr],Nat.ne_of_beq_eq_false hz0⟩]
 simp⟩
theorem DX{α:Type}{r:α→List C}{ty:Nat}{x y:Operand}{t te:TI}{ety z:Nat}{fa fb:Bool}{ka kb:IntKind}{i:Int}{a:α}(ht:E.ti ty=some t)(he:bk t=some ety)(hte:E.ti ety=some te)(hx:ov nt f x=some (.one (.p fa (.v (.int ka i)))))(hy:ov nt f y=some (.one (.p fb (.v (.int kb i)))))(h0:0≤i)(hi:i.toNat≤bX)(hz:lf te=r a)(hs:te.size=z):PN E n nt f L (.makeSlice ty x y) (fun k=> .one (.own k 0 (List.replicate i.toNat a).length)) z ((List.replicate i.toNat a).map r):=fun h nid hb=>by
 show((E.ti ty).bind fun t=>(bk t).bind fun q=>(E.ti q).bind fun e=>(aH (aO (tab nt f)) x).bind fun dx=>(iX dx).bind fun n=>(aH (aO (tab nt f)) y).bind fun dy=>(iX dy).bind fun m=>if n≤m∧m≤bX then some (⟨.one (.own nid 0 n),[(nid,.own e.size (List.replicate n (lf e)))]⟩:Eff)else none)=_;rw [ht];simp only [zbS,he,hte,bY,hx,hy,iM _ _ _ h0];rw [if_pos ⟨Nat.le_refl _,hi⟩,List.length_replicate,List.map_replicate,hz,hs]
theorem WF{α:Type}{r:α→List C}{ty:Nat}{x y:Operand}{t te:TI}{ety z:Nat}{fa fb:Bool}{ka kb:IntKind}{i j:Int}{a:α}(ht:E.ti ty=some t)(he:bk t=some ety)(hte:E.ti ety=some te)(hx:ov nt f x=some (.one (.p fa (.v (.int ka i)))))(hy:ov nt f y=some (.one (.p fb (.v (.int kb j)))))(h0:0≤i)(hij:i≤j)(hj:j.toNat≤bX)(hz:lf te=r a)(hs:te.size=z):PN E n nt f L (.makeSlice ty x y) (fun k=> .one (.own k 0 (List.replicate i.toNat a).length)) z ((List.replicate i.toNat a).map r):=fun h nid hb=>by
 show((E.ti ty).bind fun t=>(bk t).bind fun q=>(E.ti q).bind fun e=>(aH (aO (tab nt f)) x).bind fun dx=>(iX dx).bind fun n=>(aH (aO (tab nt f)) y).bind fun dy=>(iX dy).bind fun m=>if n≤m∧m≤bX then some (⟨.one (.own nid 0 n),[(nid,.own e.size (List.replicate n (lf e)))]⟩:Eff)else none)=_;rw [ht];simp only [zbS,he,hte,bY,hx,hy,iM _ _ _ h0,iM _ _ _ (show 0≤j by omega)];rw [if_pos ⟨by omega,hj⟩,List.length_replicate,List.map_replicate,hz,hs]
def Vw(L:BL)(ds:List D)(vs:List (Bool×TD)):Prop:=∀h,HB h L→ds.mapM (du h)=some vs
theorem aj:Vw L [] []:=fun h hb=>rfl
theorem af{d:D}{ds:List D}{v:Bool×TD}{vs:List (Bool×TD)}(h1:∀h,HB h L→du h d=some v)(h2:Vw L ds vs):Vw L (d::ds) (v::vs):=fun h hb=>by
 rw [List.mapM_cons,h1 h hb,h2 h hb];rfl
def VwC(L:BL)(cs:List C)(vs:List (Bool×T)):Prop:=∀h,HB h L→∀m,cs.mapM (fO h (m+2))=some vs
theorem an:VwC L [] []:=fun h hb m=>rfl
theorem ae{c:C}{cs:List C}{v:Bool×T}{vs:List (Bool×T)}(h1:∀h,HB h L→∀m,fO h (m+2) c=some v)(h2:VwC L cs vs):VwC L (c::cs) (v::vs):=fun h hb m=>by
 rw [List.mapM_cons,h1 h hb m,h2 h hb m];rfl
theorem al{x:Value}:∀h,HB h L→∀m,fO h (m+2) (.p true (.v x))=some (true,.v x):=fun h hb m=>rfl
theorem bw{fr nn:Bool}{sz:Nat}{l:List (List T)}:∀h,HB h L→∀m,fO h (m+2) (.p fr (.s nn sz l))=some (fr,.s nn sz l):=fun h hb m=>rfl
theorem JI{α β γ:Type}{r:α→List β}{q:α→List γ}{g:β→Option (Bool×γ)}(hq:∀x,(r x).mapM g=some ((q x).map fun t=>(true,t))):∀l:List α,((l.map r).mapM fun e=>e.mapM g)=some ((l.map q).map fun e=>e.map fun t=>(true,t))
 | []=>rfl
 |x::l=>by
  rw [List.map_cons,List.mapM_cons,hq x,JI hq l];rfl
theorem tA{α:Type}{r:α→List T}{k sz:Nat}{l:List α}(p:Nat)(hp:L[p]? =some [(k,sz,l.map (bI r))])(hr:∀x h m,(bI r x).mapM (fO h (m+1))=some ((r x).map fun t=>(true,t))):∀h,HB h L→∀m,fO h (m+2) (.own k 0 l.length)=some (true,.s true sz (l.map r)):=fun h hb m=>by
 have hc:cut (l.map (bI r)) 0 l.length=some (l.map (bI r)):=by
  unfold cut;rw [if_pos (by simp),List.drop_zero,List.take_of_length_le (by simp)]
 have e1:fO h (m+2) (.own k 0 l.length)=(az h k).bind fun x=>(cut x.2 0 l.length).bind fun es=>(es.mapM fun e:List C=>e.mapM (fO h (m+1))).bind fun q=>some (q.all (fun e=>e.all (·.1)),T.s true x.1 (q.map (fun e=>e.map (·.2)))):=rfl;rw [e1,hb.get hp];simp only [zbS,hc];rw [JI (q:=r) fun x=>hr x h m];simp only [zbS,List.map_map];congr 2
 ·rw [List.all_eq_true];intro x hx;simp only [List.mem_map]at hx;obtain⟨y,_,rfl⟩:=hx;rw [List.all_eq_true];intro z hz;simp only [Function.comp,List.mem_map]at hz;obtain⟨w,_,rfl⟩:=hz;rfl
 ·congr 1;refine List.map_congr_left fun x hx=> ?_;simp [Function.comp_def]
theorem au{c:C}{b:Bool}{t:T}(h1:∀h,HB h L→∀m,fO h (m+2) c=some (b,t)):∀h,HB h L→du h (.one c)=some (b,.one t):=fun h hb=>by
 show(fO h 6 c).bind _=_;rw [h1 h hb 4];rfl
theorem ar{cs:List C}{vs:List (Bool×T)}(h1:VwC L cs vs):∀h,HB h L→du h (.agg cs)=some (vs.all (·.1),.agg (vs.map (·.2))):=fun h hb=>by
 show(cs.mapM (fO h 6)).bind _=_;rw [h1 h hb 4];rfl
def JJ(E:Env)(n:Nat)(k:FuncId)(vs:List TD)(rs:List TD):Prop:=∃fr:Bool,RunsP E n k vs (cond fr .fresh .any,rs)
theorem DY{c:Call}{k:FuncId}{args:List D}{vs:List (Bool×TD)}{r:Kind×List TD}{e:Nat→Eff}(hc:bm (.call c)=some c)(hr:cd c (ov nt f)=some (k,args))(hv:Vw L args vs)(hk:cpR E n k (vs.map (·.2))=some r)
  (he:∀nid,(match r.1 with
   | .own=>match r.2 with
    | [.one (.s true sz l)]=>some ({v:= .one (.own nid 0 l.length),upd:= [(nid,.own sz (l.map (·.map (pC true))))]}:Eff)
    |_=>none
   | .fresh=>some {v:=jH (r.2.map (dm true))}
   | .any=>if args.any lH then none else some {v:=jH (r.2.map (dm (vs.all (·.1))))})=some (e nid)):∀(h:Heap) (nid:Nat),HB h L→stepG E (cpR E n) none nid (.call c) (aO (tab nt f)) h=some (e nid):=fun h nid hb=>by
 rw [mL,hc];show jI (cpR E n) nid c (aO (tab nt f)) h=_;unfold jI;rw [fg,hr];simp only [zbB,zbS,hv h hb,hk];exact he nid
theorem NN{c:Call}{k:FuncId}{args:List D}{vs:List (Bool×TD)}{vs2 rs:List TD}{v:D}(hk:RunsP E n k vs2 (.fresh,rs))(hc:bm (.call c)=some c)(hr:cd c (ov nt f)=some (k,args))(hv:Vw L args vs)(h2:vs.map (·.2)=vs2)(hrv:jH (rs.map (dm true))=v):PS E n nt f L (.call c) v:=fun h nid hb=>by
 subst hrv h2;exact DY (e:=fun _=>⟨_,[]⟩) hc hr hv (jp hk) (fun _=>rfl) h nid hb
theorem NO{c:Call}{k:FuncId}{args:List D}{vs:List (Bool×TD)}{vs2 rs:List TD}{v:Bool→D}(hk:JJ E n k vs2 rs)(hc:bm (.call c)=some c)(hr:cd c (ov nt f)=some (k,args))(hv:Vw L args vs)(h2:vs.map (·.2)=vs2)(ho:args.any lH=false)(hrv:∀fr,jH (rs.map (dm fr))=v fr):∃fr,PS E n nt f L (.call c) (v fr):=by
 obtain⟨fr,hk⟩:=hk
 cases fr with
 |true=>exact⟨true,NN hk hc hr hv h2 (hrv true)⟩
 |false=>
  subst h2;refine⟨vs.all (·.1),fun h nid hb=> ?_⟩;rw [←hrv];refine DY (e:=fun _=>⟨_,[]⟩) hc hr hv (jp hk) (fun _=> ?_) h nid hb;show(if args.any lH=true then none else _)=_;rw [ho];rfl
def acT(E:Env)(rv:List ResultVar)(rs:List TD):Ex→St→Prop:=fun e s=>∃fr:Bool,nb E rv (cond fr .fresh .any,rs) e s
def JK(E:Env)(nt:Nat)(f:Nat→D)(L:BL)(rv:List ResultVar)(ds:List D):Prop:=∀h,HB h L→rv.mapM (dv E {t:=tab nt f,h:=h})=some ds
theorem aE:JK E nt f L [] []:=fun h hb=>rfl
theorem ec{t:Tmp}{d:D}{rv:List ResultVar}{ds:List D}(ht:ov nt f (.tmp t)=some d)(h:JK E nt f L rv ds):JK E nt f L (.tmp t::rv) (d::ds):=fun H hb=>by
 have:(tab nt f)[t]? =some d:=(bY nt f (.tmp t)).trans ht
 rw [List.mapM_cons,h H hb];show((tab nt f)[t]?).bind _=_;rw [this];rfl
theorem aD{t:Tmp}{ty:TypeId}{k i j sz bz:Nat}{ag:Bool}{es:List (List C)}{e cs:List C}{d:D}{rv:List ResultVar}{ds:List D}(p:Nat)(ht:ov nt f (.tmp t)=some (.one (.ptr k i j)))(hz:cj E.ti ty=some (sz,ag))(hp:L[p]? =some [(k,bz,es)])(he:es[i]? =some e)(hc:cut e j (cond ag sz 1)=some cs)(hv:dH ag cs=some d)(h:JK E nt f L rv ds):JK E nt f L (.cell t ty::rv) (d::ds):=fun H hb=>by
 have h1:(tab nt f)[t]? =some (.one (.ptr k i j)):=(bY nt f (.tmp t)).trans ht;unfold cj at hz;simp only [zbE,zsI,Prod.mk.injEq]at hz;obtain⟨ti,g1,rfl,rfl⟩:=hz;rw [List.mapM_cons,h H hb];show(((E.ti ty).bind fun t'=>((tab nt f)[t]?).bind fun d=>load H (bn t'.desc) (if bn t'.desc then t'.size else 1) d).bind _)=_;rw [g1,h1];simp only [zbS,load,hb.get hp,zbB,he,GJ,hc,hv];rfl
theorem aS{rv:List ResultVar}{ds:List D}{vs:List (Bool×TD)}{e:Ex}{rs:List TD}(he:e= .normal∨e= .ret)(hr:JK E nt f L rv ds)(hv:Vw L ds vs)(ho:∀h,HB h L→dF h ds=false)(hf:vs.all (·.1)=true)(hrs:vs.map (·.2)=rs):dZ nt (nb E rv (.fresh,rs)) e f L:=fun H hb=>by
 have key:dp (fun l:Kind×List TD=>l=(.fresh,rs)) ((rv.mapM (dv E {t:=tab nt f,h:=H})).bind fun rs=>(rs.mapM (du H)).map fun l=>(if dF H rs then .own else if l.all (·.1)then .fresh else .any,l.map (·.2))):=by
  rw [hr H hb];simp only [zbS,hv H hb,Option.map_some,ho H hb,hf,hrs];rfl
 rcases he with rfl|rfl<;>exact key
theorem GK{rv:List ResultVar}{ds:List D}{vs:List (Bool×TD)}{e:Ex}{rs:List TD}(he:e= .normal∨e= .ret)(hr:JK E nt f L rv ds)(hv:Vw L ds vs)(ho:∀h,HB h L→dF h ds=false)(hrs:vs.map (·.2)=rs):dZ nt (acT E rv rs) e f L:=fun H hb=>by
 have key:dp (fun l:Kind×List TD=>l=(cond (vs.all (·.1)) .fresh .any,rs)) ((rv.mapM (dv E {t:=tab nt f,h:=H})).bind fun rs=>(rs.mapM (du H)).map fun l=>(if dF H rs then .own else if l.all (·.1)then .fresh else .any,l.map (·.2))):=by
  rw [hr H hb];simp only [zbS,hv H hb,Option.map_some,ho H hb,hrs];show(_,_)=(_,_);cases vs.all (·.1)<;>rfl
 refine⟨vs.all (·.1),?_⟩;rcases he with rfl|rfl<;>exact key
theorem WG{d e:D}{ds:List D}{h:Heap}:dF h (d::e::ds)=false:=by
 unfold dF;split
 ·rename_i hx;simp at hx
 ·rfl
theorem WH{cs:List C}{h:Heap}:dF h [.agg cs]=false:=rfl
theorem acU{fr:Bool}{t:T}{h:Heap}:dF h [.one (.p fr t)]=false:=rfl
def f0(vs:List TD):Nat→D:=fun i=>(vs.map (dm false)).getD i cB
theorem jF{k:FuncId}{fi:FI}{vs rs:List TD}(ha:E.ax k=none)(hf:E.fn k=some fi)(hl:Nat.ble vs.length fi.nt=true)(h:WpL E nY n fi.nt fi.body (nb E fi.results (.fresh,rs)) (f0 vs) []):RunsP E (n+1) k vs (.fresh,rs):=uW ha hf (Nat.le_of_ble_eq_true hl) (h [] ⟨List.nodup_nil,fun x hx=>by simp at hx⟩)
theorem acV{k:FuncId}{fi:FI}{vs rs:List TD}(ha:E.ax k=none)(hf:E.fn k=some fi)(hl:Nat.ble vs.length fi.nt=true)(h:WpL E nY n fi.nt fi.body (acT E fi.results rs) (f0 vs) []):JJ E (n+1) k vs rs:=by
 obtain⟨e,s',h1,fr,h2⟩:=h [] ⟨List.nodup_nil,fun x hx=>by simp at hx⟩;exact⟨fr,uW ha hf (Nat.le_of_ble_eq_true hl) ⟨e,s',h1,h2⟩⟩
end
section
variable (P : Program) (t : TypeId) (x y : Operand) (k : IntKind) {a b : Int}
theorem WI(h:a<b):ak P (do eqGuard .lss t x y (.int k a) (.int k b);binOp .lss t (.int k a) (.int k b))=some (.bool true):=by rw [Tq,decide_eq_true h]
theorem WJ(h:¬a<b):ak P (do eqGuard .lss t x y (.int k a) (.int k b);binOp .lss t (.int k a) (.int k b))=some (.bool false):=by rw [Tq,decide_eq_false h]
theorem WK(h:a≤b):ak P (do eqGuard .leq t x y (.int k a) (.int k b);binOp .leq t (.int k a) (.int k b))=some (.bool true):=by rw [Tr,decide_eq_true h]
theorem WL(h:¬a≤b):ak P (do eqGuard .leq t x y (.int k a) (.int k b);binOp .leq t (.int k a) (.int k b))=some (.bool false):=by rw [Tr,decide_eq_false h]
theorem WM(h:a>b):ak P (do eqGuard .gtr t x y (.int k a) (.int k b);binOp .gtr t (.int k a) (.int k b))=some (.bool true):=by rw [Ts,decide_eq_true h]
theorem WN(h:¬a>b):ak P (do eqGuard .gtr t x y (.int k a) (.int k b);binOp .gtr t (.int k a) (.int k b))=some (.bool false):=by rw [Ts,decide_eq_false h]
theorem WO(h:a ≥ b):ak P (do eqGuard .geq t x y (.int k a) (.int k b);binOp .geq t (.int k a) (.int k b))=some (.bool true):=by rw [Tt,decide_eq_true h]
theorem WP(h:¬a ≥ b):ak P (do eqGuard .geq t x y (.int k a) (.int k b);binOp .geq t (.int k a) (.int k b))=some (.bool false):=by rw [Tt,decide_eq_false h]
theorem WQ(h:a=b):ak P (do eqGuard .eql t x y (.int k a) (.int k b);binOp .eql t (.int k a) (.int k b))=some (.bool true):=by rw [Tu,h];simp
theorem WR(h:¬a=b):ak P (do eqGuard .eql t x y (.int k a) (.int k b);binOp .eql t (.int k a) (.int k b))=some (.bool false):=by rw [Tu];simp [h]
theorem WS(h:a≠b):ak P (do eqGuard .neq t x y (.int k a) (.int k b);binOp .neq t (.int k a) (.int k b))=some (.bool true):=by rw [Tv];simp [h]
theorem WT(h:¬a≠b):ak P (do eqGuard .neq t x y (.int k a) (.int k b);binOp .neq t (.int k a) (.int k b))=some (.bool false):=by rw [Tv,Classical.not_not.1 h];simp
end
def mo{α:Type}(w:Nat)(l:List α):Sl α:=
 match l with
 | []=>⟨false,0,[]⟩
 |_::_=>⟨true,w,l⟩
def moC{α:Type}(l:List α)(k:Nat):C:=
 match l with
 | []=> .p true (.s false 0 [])
 |_::_=> .own k 0 l.length
def moL{α:Type}(r:α→List T)(w:Nat)(l:List α)(k:Nat):List B1:=
 match l with
 | []=> []
 |_::_=> [(k,w,l.map (bI r))]
theorem eZ{α:Type}(w:Nat)(l:List α):(mo w l).l=l:=by cases l<;>rfl
def JL(k:IntKind)(a b:Int):Option Int:=if b≠0 then some (k.wrap (a.tdiv b))else none
def iZ(a b:Int):Option Int:=if b≠0 then some (a.tmod b)else none
theorem Mt{P:Program}{t:TypeId}{x y:Operand}{k:IntKind}{a b z:Int}(h:JL k a b=some z):ak P (do eqGuard .quo t x y (.int k a) (.int k b);binOp .quo t (.int k a) (.int k b))=some (.int k z):=by
 unfold JL at h;split at h
 ·rename_i hc;rw [←Option.some.inj h];exact acL _ _ _ _ _ _ _ hc
 ·simp at h
theorem qM{P:Program}{t:TypeId}{x y:Operand}{k:IntKind}{a b z:Int}(h:iZ a b=some z):ak P (do eqGuard .rem t x y (.int k a) (.int k b);binOp .rem t (.int k a) (.int k b))=some (.int k z):=by
 unfold iZ at h;split at h
 ·rename_i hc;rw [←Option.some.inj h];exact acM _ _ _ _ _ _ _ hc
 ·simp at h
def mQ(i:Int):Option Unit:=if 0≤i∧i.toNat≤bX then some ()else none
def Bg(i j:Int):Option Unit:=if i=j then some ()else if i≤j∧j.toNat≤bX then some ()else none
theorem Bh(i:Int):Bg i i=some ():=if_pos rfl
theorem Mu{i j:Int}{u:Unit}(h:Bg i j=some u):i=j∨(i≤j∧j.toNat≤bX):=by
 unfold Bg at h;split at h
 ·rename_i hi;exact .inl hi
 ·split at h
  ·rename_i hj;exact .inr hj
  ·simp at h
theorem mR{i:Int}{u:Unit}(h:mQ i=some u):0≤i∧i.toNat≤bX:=by
 unfold mQ at h;split at h
 ·assumption
 ·simp at h
end Ev
end
noncomputable section
namespace Ev
open Go Go.RowKit
def TQ(x:Int)(k:IntKind)(y:Int):Int:=x.fdiv (2 ^(min y.toNat k.bits))
def WU(x:Int)(k:IntKind)(y:Int):Int:=k.wrap (x*2 ^(min y.toNat k.bits))
def uX(k:IntKind)(x y:Int):Option Int:=if 0≤y then some (TQ x k y)else none
def GL(k:IntKind)(x y:Int):Option Int:=if 0≤y then some (WU x k y)else none
theorem JM{P:Program}{t:TypeId}{x y:Operand}{k k':IntKind}{a b z:Int}(h:uX k a b=some z):ak P (do eqGuard .shr t x y (.int k a) (.int k' b);binOp .shr t (.int k a) (.int k' b))=some (.int k z):=by
 unfold uX at h;split at h
 ·rename_i hc;rw [←Option.some.inj h]
  have:(do eqGuard .shr t x y (.int k a) (.int k' b);binOp .shr t (.int k a) (.int k' b))=(pure (.int k (TQ a k b)):Sem Value):=by
   show Op.shift .shr k a k' b=_;unfold Op.shift;rw [if_neg (by omega)];rfl
  rw [this];rfl
 ·simp at h
theorem JN{P:Program}{t:TypeId}{x y:Operand}{k k':IntKind}{a b z:Int}(h:GL k a b=some z):ak P (do eqGuard .shl t x y (.int k a) (.int k' b);binOp .shl t (.int k a) (.int k' b))=some (.int k z):=by
 unfold GL at h;split at h
 ·rename_i hc;rw [←Option.some.inj h]
  have:(do eqGuard .shl t x y (.int k a) (.int k' b);binOp .shl t (.int k a) (.int k' b))=(pure (.int k (WU a k b)):Sem Value):=by
   show Op.shift .shl k a k' b=_;unfold Op.shift;rw [if_neg (by omega)];rfl
  rw [this];rfl
 ·simp at h
def eA(k:IntKind)(x y:Int):Int:=k.wrap (BitVec.ofInt k.bits x &&& BitVec.ofInt k.bits y).toNat
def orI(k:IntKind)(x y:Int):Int:=k.wrap (BitVec.ofInt k.bits x|||BitVec.ofInt k.bits y).toNat
def aa7(k:IntKind)(x y:Int):Int:=k.wrap (BitVec.ofInt k.bits x ^^^ BitVec.ofInt k.bits y).toNat
def NP(k:IntKind)(x y:Int):Int:=k.wrap (BitVec.ofInt k.bits x &&& ~~~ BitVec.ofInt k.bits y).toNat
section
variable (P : Program) (t : TypeId) (x y : Operand) (k : IntKind) (a b : Int)
theorem DZ:ak P (do eqGuard .and t x y (.int k a) (.int k b);binOp .and t (.int k a) (.int k b))=some (.int k (eA k a b)):=by cases k<;>rfl
theorem acW:ak P (do eqGuard .or t x y (.int k a) (.int k b);binOp .or t (.int k a) (.int k b))=some (.int k (orI k a b)):=by cases k<;>rfl
theorem acX:ak P (do eqGuard .xor t x y (.int k a) (.int k b);binOp .xor t (.int k a) (.int k b))=some (.int k (aa7 k a b)):=by cases k<;>rfl
theorem TR:ak P (do eqGuard .andNot t x y (.int k a) (.int k b);binOp .andNot t (.int k a) (.int k b))=some (.int k (NP k a b)):=by cases k<;>rfl
end
section
variable {E : Env} {y : Nat → fG} {n nt : Nat} {f : Nat → D} {L : BL}
def GM{α:Type}(w:Nat)(s:Sl α)(lo hi:Int):Option (Sl α):=if 0≤lo∧lo≤hi∧hi≤(s.l.length:Int)∧(s.sz=w∨lo=0)then some ⟨s.nn,s.sz,(s.l.drop lo.toNat).take (hi.toNat - lo.toNat)⟩else none
theorem Ea{α:Type}{w:Nat}{s s':Sl α}{lo hi:Int}(h:GM w s lo hi=some s'):(0≤lo∧lo≤hi∧hi≤(s.l.length:Int)∧(s.sz=w∨lo=0))∧s'=⟨s.nn,s.sz,(s.l.drop lo.toNat).take (hi.toNat - lo.toNat)⟩:=by
 unfold GM at h;split at h
 ·rename_i hc;exact⟨hc,(Option.some.inj h).symm⟩
 ·simp at h
theorem WW{ρ:Operand→Option D}(d:Nat):gB ρ none d=some ((d:Int)).toNat:=by simp [gB]
theorem WX{y:Operand}{fr:Bool}{k:IntKind}{i:Int}(hx:ov nt f y=some (.one (.p fr (.v (.int k i)))))(h0:0≤i)(d:Nat):gB (ov nt f) (some y) d=some i.toNat:=by
 show(ov nt f y).bind iX=_;rw [hx];exact iM fr k _ h0
theorem TS{α:Type}{r:α→List T}{ty e:TypeId}{t te:TI}{x:Operand}{lo hi mx:Option Operand}{fr nn:Bool}{sz m:Nat}{l:List α}{s':Sl α}{i j:Int}(hc:GM te.size ⟨nn,sz,l⟩ i j=some s')(hx:ov nt f x=some (.one (.p fr (.s nn sz (l.map r)))))(ht:E.ti ty=some t)(he:bk t=some e)(hte:E.ti e=some te)(hlo:gB (ov nt f) lo 0=some i.toNat)(hhi:gB (ov nt f) hi l.length=some j.toNat)(hmx:gB (ov nt f) mx l.length=some m)(hm:(mx.isSome && hi.isNone)=false)(hm1:j.toNat≤m)(hm2:m≤l.length):PS E n nt f L (.slice ty x lo hi mx) (.one (.p fr (Sl.t r s'))):=fun h nid hb=>by
 obtain⟨⟨c1,c2,c3,c4⟩,rfl⟩:=Ea hc;simp only at c1 c2 c3 c4;show(if(mx.isSome && hi.isNone)=true then none else(E.ti ty).bind fun t=>(bk t).bind fun q=>(E.ti q).bind fun te=>(aH (aO (tab nt f)) x).bind fun d=>(BX d).bind fun n=>(gB (aH (aO (tab nt f))) hi n).bind fun h'=>(gB (aH (aO (tab nt f))) lo 0).bind fun l'=>(gB (aH (aO (tab nt f))) mx n).bind fun m'=>if l'≤h'∧h'≤m'∧m'≤n then _ else _)=_;rw [if_neg (by rw [hm];simp),ht,fg];simp only [zbS,he,hte,hx,Ms,hhi,hlo,hmx];rw [if_pos (by omega)];show(if sz=te.size∨i.toNat=0 then _ else _)=_;rw [if_pos (by rcases c4 with h|h;exact .inl h;exact .inr (by omega))];unfold Sl.t;rw [List.map_take,List.map_drop]
theorem Eb{ty e:TypeId}{t te:TI}{m z:Nat}{x ix:Operand}{fb:Bool}{kb:IntKind}{k i j a:Nat}(ht:E.ti ty=some t)(hd:t.desc= .array m e)(hte:E.ti e=some te)(hz:te.size=z)(hx:ov nt f x=some (.one (.ptr k i j)))(hi:ov nt f ix=some (.one (.p fb (.v (.int kb (a:Int))))))(ha:Nat.blt a m=true):PS E n nt f L (.indexAddr ty x ix) (.one (.ptr k i (j+a*z))):=fun h nid hb=>by
 rw [yE,bY,hx,bY,hi];refine Eq.trans (b:=JB E.ti ty h a (.one (.ptr k i j))) rfl ?_
 show((E.ti ty).bind fun t=>match t.desc with
  | .array n e=>(E.ti e).bind fun te=>if a<n then some (⟨.one (.ptr k i (j+a*te.size)),[]⟩:Eff)else none
  |_=>none)=_
 rw [ht];simp only [zbS,hd,hte];rw [if_pos (fK ha),hz]
variable {ops : Array Oper} {r : List Oper} {K : St → Prop}
theorem XM(i:Nat){v:D}(h:f i=v)(h2:ez E y n nt ops r K (up f i v) L):ez E y n nt ops r K f L:=by rw [NJ h]at h2;exact h2
def iN(a b:Int):Int:=if b<a then b else a
def fh(a b:Int):Int:=if b>a then b else a
theorem uY{c:Call}{x y:Operand}{ty:TypeId}{t:TI}{fa fb:Bool}{ka kb:IntKind}{a b:Int}(hx:ov nt f x=some (.one (.p fa (.v (.int ka a)))))(hy:ov nt f y=some (.one (.p fb (.v (.int kb b)))))(ht:E.ti ty=some t)(hargs:c.args.toList= [x,y])(hty:c.argTypes[0]? =some ty):(c.callee= .builtin .min→PS E n nt f L (.call c) (iD ka (iN a b)))∧(c.callee= .builtin .max→PS E n nt f L (.call c) (iD ka (fh a b))):=by
 constructor<;>intro hc h nid hb
 all_goals
  have h1:bm (.call c)=none:=by unfold bm;simp only [hc]
  rw [mL,h1];unfold sem wt;simp only [hc,hty,ht,hargs,fg,zbB,zbS,List.mapM_cons,List.mapM_nil,hx,hy,Option.pure_def,plain,sv];rfl
theorem TU{α:Type}{l m x:List α}(h:app l m=some x):x=l++m:=(dE h).2
theorem NQ{α:Type}{l m x:List α}(h:app l m=some x):x.length≤bX:=by
 obtain⟨h1,rfl⟩:=dE h;simpa using h1
theorem NR{α:Type}{ro:α→List C}{c:Call}{a x:Operand}{ty ty1 z e1:TypeId}{t1:TI}{fr:Bool}{bz:Nat}{d:D}{y:α}{ys:List α}(ha:ov nt f a=some (.one (.p fr (.s false bz []))))(hx:ov nt f x=some d)(hxs:Bf L d ((y::ys).map ro))(hb:(y::ys).length≤bX)(hr:∀y,(ro y).length=z)(hz:dM E.ti ty=some z)(ht1:E.ti ty1=some t1)(he1:bk t1=some e1)
  (hc:c.callee= .builtin .append) (hargs:c.args.toList= [a,x]) (hty:c.argTypes[0]? =some ty) (hty1:c.argTypes[1]? =some ty1):PN E n nt f L (.call c) (fun k=> .one (.own k 0 (y::ys).length)) z ((y::ys).map ro):=by
 have:=aa5 (n:=n) ha hx hxs ⟨_,_,rfl⟩ (by simpa using hb) (by simp [hr]) hz ht1 he1 hc hargs hty hty1
 rw [List.length_map]at this;exact this
end
theorem WY{α:Type}{w:Nat}{i:Int}{x:α}(h:atS w (⟨false,0,[]⟩:Sl α) i=some x):False:=by
 obtain⟨_,_,h2⟩:=cP h;simp at h2
def acY{α:Type}(w:Nat)(r:α→List T)(l:List α):Kind×List TD:=
 match l with
 | []=>(.fresh,[.one (.s false 0 [])])
 |y::t=>(.own,[.one (.s true w ((y::t).map r))])
section
variable {α : Type} {rw_ : α → List T} {w k : Nat} {l : List α}
theorem aa8:BX (.one (moC l k))=some l.length:=by cases l<;>rfl
end
section
variable {E : Env} {y : Nat → fG} {n nt : Nat} {f : Nat → D} {L : BL} {ops : Array Oper} {o : Oper} {rr : List Oper} {K : St → Prop} {d : Nat}
def moK{α:Type}(l:List α)(k:Nat):List Nat:=
 match l with
 | []=> []
 |_::_=> [k]
theorem HB.dropNil{h:Heap}{L:BL}{p:Nat}(hp:L[p]? =some [])(hb:HB h L):HB h (L.eraseIdx p):=by unfold HB;rw [DU hp];exact hb
theorem Bi{p:Nat}(hp:L[p]? =some [])(h:ez E y n nt ops rr K f (L.eraseIdx p)):ez E y n nt ops rr K f L:=fun H hb=>h H (hb.dropNil hp)
theorem qN{α:Type}{Q:Ex→St→Prop}{c:Code}(r:α→List T)(w:Nat)(h:WpL E y n nt c Q f (moL r w ([]:List α) 0::L)):WpL E y n nt c Q f L:=fun H hb=>h H hb
theorem ud{α:Type}:∀{l:List α} {q:Nat} {s:α},l[q]? =some s→l.set q s=l
 | [],q,s,h=>by simp at h
 |a::l,0,s,h=>by simp at h;subst h;rfl
 |a::l,q+1,s,h=>by rw [List.set_cons_succ,ud (by simpa using h)]
theorem TV(q:Nat){s s':List B1}(hq:L[q]? =some s)(he:s=s')(h:ez E y n nt ops rr K f (L.set q s')):ez E y n nt ops rr K f L:=by subst he;rw [ud hq]at h;exact h
theorem uZ{α:Type}{k i:Nat}{l:List α}{x:α}:C.own k 0 l.length=C.own k 0 (l.set i x).length:=by rw [List.length_set]
theorem fZ{α:Type}{l:List α}{k k2:Nat}(h:k2 ∉ moK l k):∀x∈moK l k,¬x=k2:=fun x hx e=>h (e▸hx)
theorem vc{α:Type}{r:α→List T}{c:Call}{a x:Operand}{ty ty1 w e1:TypeId}{t1:TI}{k:Nat}{l ys lm:List α}{dx:D}(p:Nat)(hw:dY ops o nt f=some true)(hd:o.dst=some d)(hn:Nat.blt d nt=true)(ho:o.op= .call c)(ha:ov nt f a=some (.one (moC l k)))(hx:ov nt f x=some dx)(hxs:Bf L dx (ys.map (bI r)))(hp:L[p]? =some (moL r w l k))(hlm:app l ys=some lm)(hr:∀y,(bI r y).length=w)(hz:dM E.ti ty=some w)(ht1:E.ti ty1=some t1)(he1:bk t1=some e1)
  (hc:c.callee= .builtin .append) (hargs:c.args.toList= [a,x]) (hty:c.argTypes[0]? =some ty) (hty1:c.argTypes[1]? =some ty1) (h:∀k',ez E y n nt ops rr K (up f d (.one (moC lm k'))) (moL r w lm k'::L.eraseIdx p)) (hz0:Nat.beq w 0=false:=by rfl):ez E y n nt ops (o::rr) K f L:=by
 cases l with
 |nil=>
  have hlm2:=TU hlm;rw [List.nil_append]at hlm2;subst hlm2;have hb:=NQ hlm
  cases lm with
  |nil=>exact Mn hw hd hn (by rw [ho];exact aa6 ha hx hxs hz ht1 he1 hc hargs hty hty1) (Bi hp (h 0))
  |cons y ys=>
   refine aJ hw hd hn (by rw [ho];exact NR (ro:=bI r) ha hx hxs hb hr hz ht1 he1 hc hargs hty hty1) fun k'=> ?_;exact Bi (p:=p+1) hp (h k')
 |cons y l=>
  obtain⟨_,rfl⟩:=dE hlm;exact ZY hw hd hn (by rw [ho];exact XL (r:=bI r) p ha hx hxs rfl hp hlm hr hz ht1 he1 hc hargs hty hty1 hz0) rfl h
theorem Mv{i q b p:Nat}{O:List (List Nat)}{N:List (Bool×List Nat)}{R:List (List Nat)}(hp:L[p]? =some [])(h:TnL E n nt ops rr i q O N R b K f (L.eraseIdx p)):TnL E n nt ops rr i q O N R b K f L:=fun H hb hl=>h H (hb.dropNil hp) hl
theorem vd{α:Type}{r:α→List T}{c:Call}{a x:Operand}{ty ty1 w e1:TypeId}{t1:TI}{k i wd b:Nat}{O:List (List Nat)}{N:List (Bool×List Nat)}{R:List (List Nat)}{A:BL}{l ys lm:List α}{y0:α}{dx:D}(p q:Nat)(hw:dY ops o nt f=some true)(hd:o.dst=some d)(hn:Nat.blt d nt=true)(ho:o.op= .call c)(is:List Nat)(hn2:is.Nodup)(hA:is.filterMap (fun i=>L[i]?)=A)(hm:∀x∈A.flatten,x.1 ∉(R.getD i []).flatMap (aX b O N))(hu:aX b O N i=moK l k++ [b+i])(hi:Nat.blt i wd=true)(hk:∀x∈L.flatten,x.1≠b+i)
  (ha:ov nt f a=some (.one (moC l k))) (hx:ov nt f x=some dx) (hxs:Bf A dx ((y0::ys).map (bI r))) (hp:A[p]? =some (moL r w l k)) (hq:L[q]? =some (moL r w l k)) (hlm:app l (y0::ys)=some lm) (hr:∀y,(bI r y).length=w) (hz:dM E.ti ty=some w) (ht1:E.ti ty1=some t1) (he1:bk t1=some e1)
  (hc:c.callee= .builtin .append) (hargs:c.args.toList= [a,x]) (hty:c.argTypes[0]? =some ty) (hty1:c.argTypes[1]? =some ty1) (h:TnL E n nt ops rr (i+1) wd O N R b K (up f d (.one (moC lm (b+i)))) (moL r w lm (b+i)::L.eraseIdx q)) (hz0:Nat.beq w 0=false:=by rfl):TnL E n nt ops (o::rr) i wd O N R b K f L:=by
 cases l with
 |nil=>
  have hlm2:=TU hlm;rw [List.nil_append]at hlm2;subst hlm2;have hb:=NQ hlm;refine pA hw hd hn is hn2 hA hm hu hi hk (by rw [ho];exact NR (ro:=bI r) ha hx hxs hb hr hz ht1 he1 hc hargs hty hty1) ?_;exact Mv (p:=q+1) hq h
 |cons y l=>
  obtain⟨_,rfl⟩:=dE hlm;exact aa0 hw hd hn is hn2 hA hm hu hi hk (by rw [ho];exact XL (r:=bI r) p ha hx hxs rfl hp hlm hr hz ht1 he1 hc hargs hty hty1 hz0) hq rfl h
theorem hkM{α:Type}{r:α→List T}{w k z:Nat}{l:List α}{A:BL}(h1:l= []∨k≠z)(h2:∀x∈A.flatten,x.1≠z):∀x∈(moL r w l k::A:BL).flatten,x.1≠z:=fun x hx=>by
 rw [List.flatten_cons,List.mem_append]at hx;rcases hx with hx|hx
 ·cases l with
  |nil=>simp [moL]at hx
  |cons a l=>simp only [moL,List.mem_singleton]at hx;subst hx;exact h1.resolve_left (by simp)
 ·exact h2 x hx
theorem lb{α:Type}{r:α→List T}{w k b:Nat}{l:List α}(h:∀x∈L.flatten,x.1<b)(p:Nat)(hp:L[p]? =some (moL r w l k)):l= []∨k<b:=by
 cases l with
 |nil=>exact .inl rfl
 |cons a l=>exact .inr (aL h p hp)
theorem ee{α:Type}{r:α→List T}{w k k2:Nat}{l:List α}{x2:Nat×List (List C)}(hn:(L.flatten.map (·.1)).Nodup)(p q:Nat)(hp:L[p]? =some (moL r w l k))(hq:L[q]? =some [(k2,x2)])(hpq:Nat.beq p q=false):k2 ∉ moK l k:=by
 cases l with
 |nil=>simp [moK]
 |cons a l=>have:=tu hn p q hp hq hpq;simp [moK];omega
theorem nV{α:Type}{l:List α}{k b:Nat}(h:l= []∨k<b):∀x∈moK l k,x<b:=fun x hx=>by
 cases l with
 |nil=>simp [moK]at hx
 |cons a l=>simp only [moK,List.mem_singleton]at hx;subst hx;exact h.resolve_left (by simp)
theorem JO{α:Type}{r:α→List T}{w k:Nat}{l:List α}(p:Nat)(hp:L[p]? =some (moL r w l k))(hr:∀x h m,(bI r x).mapM (fO h (m+1))=some ((r x).map fun t=>(true,t))):∀h,HB h L→∀m,fO h (m+2) (moC l k)=some (true,Sl.t r (mo w l)):=by
 cases l with
 |nil=>exact fun h hb m=>rfl
 |cons a l=>exact tA (r:=r) p hp hr
end
theorem dj{α β:Type}(P:Program)(s:Sem α)(k:α→Sem β):ak P (s>>=k)=(ak P s).bind fun a=>ak P (k a):=by
 induction s with
 |pure a=>rfl
 |program q ih=>exact ih P
 |_=>rfl
section
variable {P : Program}
theorem ve{t:TypeId}{d:TypeDesc}(h:P.underlying t=some d):ak P (underlying t)=some d:=by
 have:ak P (underlying t)=match P.underlying t with|some d=>some d|none=>none:=by
  show ak P (underlying t)=_
  cases hx:P.underlying t with
  |none=>rw [hx]at h;simp at h
  |some d'=>
   unfold underlying;simp [dj,program,ak,hx];rfl
 rw [this,h]
theorem kI(d:Nat)(t:TypeId)(xs ys:Array Value){fs:Array Field}(ht:P.underlying t=some (.struct fs))(hp:P.stoodInHeld t=false):
  ak P (Op.equalIn (d+1) t (.agg xs) (.agg ys))=ak P (Op.eqFields d xs ys fs.toList):=by
 have e1:ak P program=some P:=rfl;simp only [Op.equalIn,dj,ve ht,zbS,e1,hp,Bool.false_eq_true,if_false];rw [←Array.forIn_toList];generalize fs.toList=fs;clear ht
 induction fs with
 |nil=>rfl
 |cons f fs ih=>
  simp only [List.forIn_cons,Op.eqFields,dj];by_cases hf:f.name≠ "_"
  ·simp only [if_pos hf,dj]
   cases ak P (part f.type xs f.offset)with
   |none=>rfl
   |some a=>
    cases ak P (part f.type ys f.offset)with
    |none=>rfl
    |some b=>
     simp only [zbS]
     cases ak P (Op.equalIn d f.type a b)with
     |none=>rfl
     |some q=>
      cases q
      ·rfl
      ·exact ih
  ·simp only [if_neg hf,dj];exact ih
theorem gb{d:Nat}{xs ys:Array Value}{f:Field}{fs:List Field}{k k':IntKind}{a b:Int}(hf:(f.name== "_")=false)(h1:ak P (part f.type xs f.offset)=some (.int k a))(h2:ak P (part f.type ys f.offset)=some (.int k b))(h3:P.underlying f.type=some (.int k')):
  ak P (Op.eqFields (d+1) xs ys (f::fs))=if(a==b)=true then ak P (Op.eqFields (d+1) xs ys fs)else some false:=by
 have hf':f.name≠ "_" :=by simpa using hf
 have h4:ak P (Op.equalIn (d+1) f.type (.int k a) (.int k b))=some (a==b):=by
  simp only [Op.equalIn,dj,ve h3,zbS,if_true];rfl
 simp only [Op.eqFields,if_pos hf',dj,h1,h2,h4,zbS];cases a==b<;>rfl
theorem Mw{d:Nat}{xs ys us vs:Array Value}{f:Field}{fs:List Field}{c:Bool}(hf:(f.name== "_")=false)(h1:ak P (part f.type xs f.offset)=some (.agg us))(h2:ak P (part f.type ys f.offset)=some (.agg vs))(h4:ak P (Op.equalIn (d+1) f.type (.agg us) (.agg vs))=some c):
  ak P (Op.eqFields (d+1) xs ys (f::fs))=if c=true then ak P (Op.eqFields (d+1) xs ys fs)else some false:=by
 have hf':f.name≠ "_" :=by simpa using hf
 simp only [Op.eqFields,if_pos hf',dj,h1,h2,h4,zbS];cases c<;>rfl
theorem jB{d:Nat}{xs ys:Array Value}:ak P (Op.eqFields d xs ys [])=some true:=rfl
theorem JP{t:TypeId}{x y:Operand}{xs ys:Array Value}{b:Bool}(hg:P.eqGuardType P.depth t=false)(h:ak P (Op.equalIn 10000 t (.agg xs) (.agg ys))=some b):ak P (do eqGuard .eql t x y (.agg xs) (.agg ys);binOp .eql t (.agg xs) (.agg ys))=some (.bool b):=by
 have e1:ak P program=some P:=rfl
 have h1:ak P (eqGuard .eql t x y (.agg xs) (.agg ys))=some ():=by
  simp only [eqGuard,Bool.not_true,Bool.false_eq_true,if_false,dj,e1,zbS,hg,Bool.not_false,if_true];rfl
 rw [dj,h1];show ak P (binOp .eql t (.agg xs) (.agg ys))=_;have h2:binOp .eql t (.agg xs) (.agg ys)=(do pure (.bool (←Op.equal t (.agg xs) (.agg ys)))):=rfl;rw [h2,dj];unfold Op.equal Op.maxDepth;rw [h];rfl
theorem Bj{t:TypeId}{x y:Operand}{xs ys:Array Value}{b:Bool}(hg:P.eqGuardType P.depth t=false)(h:ak P (Op.equalIn 10000 t (.agg xs) (.agg ys))=some b):ak P (do eqGuard .neq t x y (.agg xs) (.agg ys);binOp .neq t (.agg xs) (.agg ys))=some (.bool (!b)):=by
 have e1:ak P program=some P:=rfl
 have h1:ak P (eqGuard .neq t x y (.agg xs) (.agg ys))=some ():=by
  simp only [eqGuard,Bool.not_true,Bool.false_eq_true,if_false,dj,e1,zbS,hg,Bool.not_false,if_true];rfl
 rw [dj,h1];show ak P (binOp .neq t (.agg xs) (.agg ys))=_;have h2:binOp .neq t (.agg xs) (.agg ys)=(do pure (.bool (!(←Op.equal t (.agg xs) (.agg ys))))):=rfl;rw [h2,dj];unfold Op.equal Op.maxDepth;rw [h];rfl
theorem lT{a b:Bool}{q:Option Bool}(h:q=some b):(if a=true then q else some false)=some (a && b):=by cases a<;>simp [h]
end
end Ev
end
noncomputable section
namespace Ev
open Go Go.RowKit
def inK(k:IntKind)(x:Int):Prop:=(Lit.int k x).wf=true
def SlW{α:Type}(w:Nat)(Q:α→Prop)(s:Sl α):Prop:=s.sz=w∧(s.nn=false→s.l= [])∧s.l.length≤maxLen∧∀x∈s.l,Q x
section
variable {P : Program} {t : TypeId} {ts : List T}
theorem vh{k:IntKind}(hu:P.underlying t=some (.int k))(h:Typ P t ts):∃x:Int,ts= [iT k x]∧inK k x:=by
 cases h with
 |int _ k' n h hw=>rw [hu]at h;cases h;exact⟨n,rfl,hw⟩
 |bool _ b h=>rw [hu]at h;simp at h
 |str _ s h=>rw [hu]at h;simp at h
 |slice _ e nn l h=>rw [hu]at h;simp at h
 |struct _ fs tss h=>rw [hu]at h;simp at h
 |array _ n e tss h=>rw [hu]at h;simp at h
theorem TW(hu:P.underlying t=some .bool)(h:Typ P t ts):∃x:Bool,ts= [bT x]∧True:=by
 cases h with
 |bool _ b h=>exact⟨b,rfl,trivial⟩
 |int _ k' n h hw=>rw [hu]at h;simp at h
 |str _ s h=>rw [hu]at h;simp at h
 |slice _ e nn l h=>rw [hu]at h;simp at h
 |struct _ fs tss h=>rw [hu]at h;simp at h
 |array _ n e tss h=>rw [hu]at h;simp at h
theorem Ec{α β:Type}{r:α→β}{Q:α→Prop}:∀{l:List β},(∀es∈l,∃x,es=r x∧Q x)→∃xs:List α,l=xs.map r∧∀x∈xs,Q x
 | [],_=>⟨[],rfl,fun x hx=>by simp at hx⟩
 |e::l,h=>by
  obtain⟨x,rfl,hx⟩:=h e List.mem_cons_self;obtain⟨xs,rfl,hxs⟩:=Ec fun e he=>h e (List.mem_cons_of_mem _ he);exact⟨x::xs,rfl,fun y hy=>by rcases List.mem_cons.1 hy with rfl|hy;exact hx;exact hxs y hy⟩
theorem ww{α:Type}{r:α→List T}{Q:α→Prop}{e:TypeId}{w:Nat}(hu:P.underlying t=some (.slice e))(hw:P.cellsOf e=w)(he:∀ts,Typ P e ts→∃x,ts=r x∧Q x)(h:Typ P t ts):∃s:Sl α,ts= [Sl.t r s]∧SlW w Q s:=by
 cases h with
 |slice _ e' nn l h hn hl h1 h2=>
  rw [hu]at h;cases h;obtain⟨xs,rfl,hq⟩:=Ec (r:=r) (Q:=Q) fun es hes=>he es (h2 es hes);exact⟨⟨nn,w,xs⟩,by rw [hw];rfl,rfl,fun hh=>by simpa using hn hh,by simpa using hl,hq⟩
 |int _ k' n h hw=>rw [hu]at h;simp at h
 |bool _ b h=>rw [hu]at h;simp at h
 |str _ s h=>rw [hu]at h;simp at h
 |struct _ fs tss h=>rw [hu]at h;simp at h
 |array _ n e tss h=>rw [hu]at h;simp at h
theorem tB{fs:Array Field}(hu:P.underlying t=some (.struct fs))(h:Typ P t ts):∃tss:List (List T),ts=tss.flatten∧tss.length=fs.toList.length∧∀(i:Nat) f ts',fs.toList[i]? =some f→tss[i]? =some ts'→Typ P f.type ts':=by
 cases h with
 |struct _ fs' tss h hl hf=>rw [hu]at h;cases h;exact⟨tss,rfl,by simpa using hl,fun i f ts' h1 h2=>hf i f ts' (by simpa using h1) h2⟩
 |int _ k' n h hw=>rw [hu]at h;simp at h
 |bool _ b h=>rw [hu]at h;simp at h
 |str _ s h=>rw [hu]at h;simp at h
 |slice _ e nn l h=>rw [hu]at h;simp at h
 |array _ n e tss h=>rw [hu]at h;simp at h
theorem PU{n:Nat}{e:TypeId}(hu:P.underlying t=some (.array n e))(h:Typ P t ts):∃tss:List (List T),ts=tss.flatten∧tss.length=n∧∀ts'∈tss,Typ P e ts':=by
 cases h with
 |array _ n' e' tss h hl hf=>rw [hu]at h;cases h;exact⟨tss,rfl,hl,hf⟩
 |int _ k' n h hw=>rw [hu]at h;simp at h
 |bool _ b h=>rw [hu]at h;simp at h
 |str _ s h=>rw [hu]at h;simp at h
 |slice _ e nn l h=>rw [hu]at h;simp at h
 |struct _ fs tss h=>rw [hu]at h;simp at h
theorem TX{ts:List TypeId}{tds:List TD}{d:TypeDesc}(hu:P.underlying t=some d)(ha:bn d=false)(h:qI P (t::ts) tds):∃x r,tds= .one x::r∧Typ P t [x]∧qI P ts r:=by
 cases h with
 |cons t ts td ds h hr=>
  cases h with
  |one x h _=>exact⟨x,ds,rfl,h,hr⟩
  |agg xs h h2=>obtain⟨d',h3,h4⟩:=h2;rw [hu]at h3;cases h3;rw [ha]at h4;simp at h4
theorem TY{ts:List TypeId}{tds:List TD}{d:TypeDesc}(hu:P.underlying t=some d)(ha:bn d=true)(h:qI P (t::ts) tds):∃x r,tds= .agg x::r∧Typ P t x∧qI P ts r:=by
 cases h with
 |cons t ts td ds h hr=>
  cases h with
  |agg x h _=>exact⟨x,ds,rfl,h,hr⟩
  |one xs h h2=>obtain⟨d',h3,h4⟩:=h2;rw [hu]at h3;cases h3;rw [ha]at h4;simp at h4
theorem TZ{tds:List TD}(h:qI P [] tds):tds= []:=by cases h;rfl
end
theorem aa9{E:Env}{n:Nat}{k:FuncId}{tds:List TD}(h:RunsP E n k tds (.fresh,[.one (bT true)])):∃m n kind,(dk E m n).1 k tds=some (kind,[.one (.v (.bool true))]):=by
 obtain⟨M,hM⟩:=h;exact⟨M,n,.fresh,hM M (Nat.le_refl _)⟩
theorem cz{A R:Type}{b:A→Option (A ⊕ R)}(n:Nat)(I:Nat→A→Prop)(Q:R→Prop)(hs:∀j a,j<n→I j a→(∃a',b a=some (.inl a')∧I (j+1) a')∨∃r,b a=some (.inr r)∧Q r)(he:∀a,I n a→∃r,b a=some (.inr r)∧Q r)(j:Nat)(hj:j≤n)(a:A)(ha:I j a):∃r,aN b a=some r∧Q r:=by
 obtain⟨k,hk⟩:∃k,n=j+k:=⟨n - j,by omega⟩
 induction k generalizing j a with
 |zero=>
  have:j=n:=by omega
  subst this;obtain⟨r,h1,h2⟩:=he a ha;exact⟨r,tz h1,h2⟩
 |succ k ih=>
  rcases hs j a (by omega) ha with⟨a',h1,h2⟩|⟨r,h1,h2⟩
  ·obtain⟨r,h3,h4⟩:=ih (j+1) (by omega) a' h2 (by omega);exact⟨r,(Mq h1).trans h3,h4⟩
  ·exact⟨r,tz h1,h2⟩
theorem bq{α:Type}{w:Nat}{s:Sl α}(hs:s.l= []∨s.sz=w){j:Nat}(hj:j<s.l.length):atS w s (j:Int)=some s.l[j]:=by
 have hw:s.sz=w:=hs.resolve_left (by intro h;rw [h]at hj;simp at hj);unfold atS;rw [if_pos ⟨by omega,hw⟩];simp
theorem WZ{α:Type}{l:List α}{j:Nat}(hj:j<l.length):atL l (j:Int)=some l[j]:=by
 unfold atL;rw [if_pos (by omega)];simp
theorem fj{α:Type}{l m:List α}(h:l.length+m.length≤bX):app l m=some (l++m):=by unfold app;rw [if_pos h]
theorem bM{j n:Nat}(h:j<n)(hn:n≤9223372036854775807):IntKind.i64.wrap ((j:Int)+1)=((j+1:Nat):Int):=by rw [cV (by omega) (by omega)];rfl
def neL{α:Type}(l:List α):Option Unit:=
 match l with
 | []=>none
 |_::_=>some ()
theorem Ua{α:Type}{l:List α}(h:l≠[]):neL l=some ():=by
 cases l with
 |nil=>exact absurd rfl h
 |cons a l=>rfl
end Ev
end
noncomputable section
namespace Ev
open Go Go.RowKit
section
variable {E : Env} {y : Nat → fG} {n nt : Nat} {f : Nat → D} {L : BL}
def GN(nt:Nat)(f:Nat→D)(l:List Operand):Option (List C):=l.mapM fun x=>do match←ov nt f x with| .one c=>some c|_=>none
theorem GO{fn:Fn}{first cap:Array Operand}{fs cs:List C}(h1:GN nt f first.toList=some fs)(h2:GN nt f cap.toList=some cs):PS E n nt f L (.makeFunc fn first cap) (.one (.clo fn fs cs)):=fun h nid hb=>by
 show((first.toList.mapM fun x=>(aH (aO (tab nt f)) x).bind fun d=>match d with| .one c=>some c|_=>none).bind fun a=>(cap.toList.mapM fun x=>(aH (aO (tab nt f)) x).bind fun d=>match d with| .one c=>some c|_=>none).bind fun b=>some (⟨.one (.clo fn a b),[]⟩:Eff))=_;rw [fg];have h1':(first.toList.mapM fun x=>(ov nt f x).bind fun d=>match d with| .one c=>some c|_=>none)=some fs:=h1;have h2':(cap.toList.mapM fun x=>(ov nt f x).bind fun d=>match d with| .one c=>some c|_=>none)=some cs:=h2;rw [h1',h2'];rfl
def Ub(k:IntKind)(a:Int):Int:=aa7 k (if k.signed then -1 else k.max) a
theorem Xa{ty:TypeId}{x:Operand}{fr:Bool}{k:IntKind}{a:Int}(hx:ov nt f x=some (.one (.p fr (.v (.int k a))))):PS E n nt f L (.unOp .xor ty x) (iD k (Ub k a)):=fun h nid hb=>by
 show((aH (aO (tab nt f)) x).bind fun d=>(plain d).bind fun v=>(ak E.P (Op.unary .xor v)).bind mkO)=_;rw [bY,hx];cases k<;>rfl
def fA(args:List D):Nat→D:=fun i=>args.getD i cB
theorem My{args:List D}{k:Nat}(hl:args.length≤k):args++List.replicate (k - args.length) cB=tab k (fA args):=by
 rw [Tw (args++List.replicate (k - args.length) cB)];have hlen:(args++List.replicate (k - args.length) cB).length=k:=by simp;omega
 rw [hlen];refine List.ext_getElem? fun i=> ?_;rw [kZ,kZ];split
 ·rename_i hi;congr 1;unfold fA;rw [List.getD_eq_getElem?_getD,List.getD_eq_getElem?_getD,List.getElem?_append];split
  ·rfl
  ·rename_i hge;rw [List.getElem?_replicate,if_pos (by omega),List.getElem?_eq_none (by omega)];rfl
 ·rfl
def NS(E:Env)(y:Nat→fG)(n nt:Nat)(ops:Array Oper)(r:List Oper)(K:St→Prop)(f:Nat→D)(d:Nat)(rv:List ResultVar):Ex→St→Prop:=fun e s=>(e= .normal∨e= .ret)∧∃ds,rv.mapM (dv E s)=some ds∧lA E y n ops r K {t:=tab nt (up f d (jH ds)),h:=s.h}
variable {ops : Array Oper} {o : Oper} {r : List Oper} {K : St → Prop} {d : Nat} {Q : Ex → St → Prop}
theorem lC{b:Bool}(h:dY ops o nt f=some b):iu ops (aO (tab nt f)) o=some b:=by
 obtain⟨g,g1,g2⟩:=eD h;unfold gOf at g1;unfold iu
 cases ho:o.guard with
 |none=>rw [ho]at g1;simp only [zsI]at g1;subst g1;exact g2
 |some p=>
  obtain⟨j,w⟩:=p;rw [ho]at g1;simp only [Option.map_eq_some_iff]at g1;obtain⟨d,h1,h2⟩:=g1;subst h2;rw [zbE]at h1;obtain⟨o',h3,h4⟩:=h1;have h3':ops[j]? =some o':=by simpa using h3
  simp only [h3',h4,zbB,zbS];exact g2
theorem wx{cp:dq}{c:Call}{nid:Nat}{H:Heap}(hw:dY ops o nt f=some true)(hc:bm o.op=some c):step E cp ops nid o (aO (tab nt f)) H=jI cp nid c (aO (tab nt f)) H:=by
 unfold step;rw [lC hw];simp only [zbB,zbS,if_true,hc]
theorem Ee{c:Call}{k:FuncId}{args:List D}{fi:FI}(hw:dY ops o nt f=some true)(hc:bm o.op=some c)(hr:cd c (ov nt f)=some (k,args))(hu:E.ax k=some fun _=>none)(hf:E.fn k=some fi)(hl:Nat.ble args.length fi.nt=true)(hd:o.dst=some d)(hn:Nat.blt d nt=true)
  (h:WpL E nY n fi.nt fi.body (NS E y (n+1) nt ops r K f d fi.results) (fA args) L):ez E y (n+1) nt ops (o::r) K f L:=fun H hb=>by
 obtain⟨e,s',⟨M,h1⟩,h2,ds,h3,h4⟩:=h H hb;refine rx (s1:={t:=tab nt (up f d (jH ds)),h:=s'.h}) ⟨M,fun m hm=> ?_⟩ h4;unfold Hn
 have hs:step E (be E y m (n+1)).1 ops H.length o (aO (tab nt f)) H=none:=by
  rw [wx hw hc];unfold jI;rw [fg,hr];simp only [zbB,zbS]
  cases args.mapM (du H)with
  |none=>rfl
  |some vs=>
   have hn:(be E y m (n+1)).1 k (vs.map (·.2))=none:=by
    show(match E.ax k with
     |some F=>F _
     |none=>_)=none
    rw [hu]
   simp only [zbS,hn];rfl
 simp only;rw [hs];have hev:=h1 m hm
 have hsc:wM (be E y m (n+1)).2 ops o {t:=tab nt f,h:=H}=some {t:=tab nt (up f d (jH ds)),h:=s'.h}:=by
  unfold wM;rw [lC hw];simp only [zbB,zbS,if_true,hc]
  have hr':cd c (opnd (tab nt f))=some (k,args):=by
   show cd c (aH (aO (tab nt f)))=_;rw [fg];exact hr
  rw [hr']
  have hcall:(be E y m (n+1)).2.f k args H=some (jH ds,s'.h):=by
   show((E.fn k).bind fun f=>(sx E (aM E m n).1 ⟨(aM E m n).2.1,(aM E m n).2.2,noY⟩ m f args H).bind fun x=>some (jH x.1,x.2))=_;rw [hf];simp only [zbS]
   have:sx E (aM E m n).1 ⟨(aM E m n).2.1,(aM E m n).2.2,noY⟩ m fi args H=some (ds,s'.h):=by
    unfold sx;rw [My (Nat.le_of_ble_eq_true hl)];simp only [be]at hev;rw [hev];rcases h2 with rfl|rfl<;>simp [h3]
   rw [this];rfl
  simp only [zbS,hcall,hd,oO,nv,fK hn,if_true,rq,ke]
 rw [hsc];rfl
theorem Uc{nt':Nat}{f':Nat→D}{L':BL}{rv:List ResultVar}{ds:List D}{e:Ex}{v:D}(he:e= .normal∨e= .ret)(hr:JK E nt' f' L' rv ds)(hv:jH ds=v)(h:ez E y n nt ops r K (up f d v) L'):dZ nt' (NS E y n nt ops r K f d rv) e f' L':=fun H hb=>by
 subst hv;exact⟨he,ds,hr H hb,h H hb⟩
def lU(E:Env)(y:Nat→fG)(n k:Nat)(t:List D)(ps:List Tmp)(asg body:Code):Nat→fG:=fun m j args h=>
 if j=k∧args.length=ps.length then do
  let(e,s1)←evC E (be E y m n).1 (be E y m n).2 m asg {t:=mw t ps args,h:=h}
  match e with
  | .normal=>do
   let(e,s2)←evC E (be E y m n).1 (be E y m n).2 m body s1
   some (e,s2.h)
  |_=>none
 else none
def Ud(nt:Nat)(f:Nat→D)(k:Nat)(Q:Ex→St→Prop):Ex→St→Prop:=fun e s=>(e= .normal∨e= .ret)∧∃es,az s.h k=some (0,es)∧Q (EO es) {t:=tab nt f,h:=s.h}
theorem NT{g:Operand}{ps:Array Tmp}{asg body:Code}{k:FuncId}{fs cs:List C}{fi:FI}(hg:ov nt f g=some (.one (.clo (.func k) fs cs)))(hf:E.fn k=some fi)(hl:Nat.ble (fs.length+1+cs.length) fi.nt=true)(hres:fi.results= [])
  (h:∀kl,WpL E (lU E y (n+1) kl (tab nt f) ps.toList asg body) n fi.nt fi.body (Ud nt f kl Q) (fA (fs.map D.one++ [D.one (.yld kl)]++cs.map D.one)) ([(kl,0,[])]::L)):WpL E y (n+1) nt (.rangeFunc g ps asg body) Q f L:=fun H hb=>by
 obtain⟨e,s',⟨M,h1⟩,h2,es,h3,h4⟩:=h H.length _ (hb.new 0 []);refine⟨EO es,{t:=tab nt f,h:=s'.h},⟨M,fun m hm=> ?_⟩,h4⟩;have hev:=h1 m hm;have hg':opnd (tab nt f) g=some (.one (.clo (.func k) fs cs)):=(bY nt f g).trans hg;simp only [evC,zbB,hg',zbS]
 have hcall:(be E y m (n+1)).2.r (lU E y (n+1) H.length (tab nt f) ps.toList asg body m) k (fs.map D.one++ [D.one (.yld H.length)]++cs.map D.one) (aA H H.length (.own 0 []))=some s'.h:=by
  show((E.fn k).bind fun f=>(sx E (aM E m n).1 ⟨(aM E m n).2.1,(aM E m n).2.2,lU E y (n+1) H.length (tab nt _) ps.toList asg body m⟩ m f _ _).bind fun x=>some x.2)=_;rw [hf];simp only [zbS]
  have:sx E (aM E m n).1 ⟨(aM E m n).2.1,(aM E m n).2.2,lU E y (n+1) H.length (tab nt f) ps.toList asg body m⟩ m fi (fs.map D.one++ [D.one (.yld H.length)]++cs.map D.one) (aA H H.length (.own 0 []))=some ([],s'.h):=by
   unfold sx;rw [My (by have:=Nat.le_of_ble_eq_true hl;simp;omega)];simp only [be]at hev;rw [hev,hres];rcases h2 with rfl|rfl<;>rfl
  rw [this];rfl
 refine(congrArg (fun z:Option Heap=>z.bind fun h=>(az h H.length).bind fun x=>if x.1=0 then some (EO x.2,({t:=tab nt f,h:=h}:St))else none) hcall).trans ?_;simp only [zbS,h3,if_true]
theorem NU{nt' k p:Nat}{f':Nat→D}{L':BL}{es:List (List C)}{e:Ex}(he:e= .normal∨e= .ret)(hp:L'[p]? =some [(k,0,es)])(h:dZ nt Q (EO es) f L'):dZ nt' (Ud nt f k Q) e f' L':=fun H hb=>⟨he,es,hb.get hp,h H hb⟩
def XN(K:St→Prop):Ex→St→Prop:=fun e s=>e= .normal∧K s
def Ue(E:Env)(y:Nat→fG)(n nt:Nat)(ops:Array Oper)(r:List Oper)(K:St→Prop)(f:Nat→D)(d k:Nat):Ex→St→Prop:=fun e s=>lA E y n ops r K {t:=tab nt (up f d (bD (e== .normal))),h:=aA s.h k (nA e)}
def Mz(f:Nat→D):List Tmp→List D→Nat→D
 |p::ps,d::ds=>Mz (up f p d) ps ds
 |_,_=>f
theorem Uf(f:Nat→D)(p:Nat)(d:D):(tab nt f).set p d=tab nt (up f p d):=by
 rw [←ke];refine List.ext_getElem? fun i=> ?_;rw [List.getElem?_set,kZ,kZ,nv];unfold upd;by_cases h1:p=i
 ·subst h1;by_cases h2:p<nt
  ·simp [h2]
  ·simp [h2]
 ·rw [if_neg h1];split
  ·rw [if_neg (fun e:i=p=>h1 e.symm)]
  ·rfl
theorem Ef:∀(ps:List Tmp) (ds:List D) (f:Nat→D),mw (tab nt f) ps ds=tab nt (Mz f ps ds)
 | [],[],f=>by simp [mw,Mz]
 | [],d::ds,f=>by simp [mw,Mz]
 |p::ps,[],f=>by simp [mw,Mz]
 |p::ps,d::ds,f=>by
  simp only [mw,Mz];rw [Uf,Ef]
def aaa(nt:Nat)(f:Nat→D)(l:List Operand):Option (List D):=l.mapM (ov nt f)
theorem Ug{y0:Nat→fG}{n0 nt0 k p:Nat}{f0:Nat→D}{ps:List Tmp}{asg body:Code}{c:Call}{x:Operand}{args:List D}(hw:dY ops o nt f=some true)(hc:bm o.op=some c)(hcal:c.callee= .value x)(hx:ov nt f x=some (.one (.yld k)))(ha:aaa nt f c.args.toList=some args)(hla:Nat.beq args.length ps.length=true)(hp:L[p]? =some [(k,0,[])])(hd:o.dst=some d)(hn:Nat.blt d nt=true)
  (h:WpL E y0 n0 nt0 asg (XN (WpC E y0 n0 body (Ue E (lU E y0 n0 k (tab nt0 f0) ps asg body) n nt ops r K f d k))) (Mz f0 ps args) L):ez E (lU E y0 n0 k (tab nt0 f0) ps asg body) n nt ops (o::r) K f L:=fun H hb=>by
 obtain⟨e1,s1,⟨M1,h1⟩,rfl,e2,s2,⟨M2,h2⟩,h3⟩:=h H hb;refine rx (s1:={t:=tab nt (up f d (bD (e2== .normal))),h:=aA s2.h k (nA e2)}) ⟨max M1 M2,fun m hm=> ?_⟩ h3
 have hres:cd c (aH (aO (tab nt f)))=none:=by
  rw [fg];unfold cd;rw [hcal];have ha':c.args.toList.mapM (ov nt f)=some args:=ha;simp only [ha',hx,zbB,zbS]
 unfold Hn
 have hs:step E (be E (lU E y0 n0 k (tab nt0 f0) ps asg body) m n).1 ops H.length o (aO (tab nt f)) H=none:=by
  rw [wx hw hc];unfold jI;rw [hres];rfl
 simp only;rw [hs]
 have hsc:wM (be E (lU E y0 n0 k (tab nt0 f0) ps asg body) m n).2 ops o {t:=tab nt f,h:=H}=none:=by
  unfold wM;rw [lC hw];simp only [zbB,zbS,if_true,hc];have hr':cd c (opnd (tab nt f))=none:=hres;rw [hr'];rfl
 have hy:MW (be E (lU E y0 n0 k (tab nt0 f0) ps asg body) m n).2 ops o {t:=tab nt f,h:=H}=some {t:=tab nt (up f d (bD (e2== .normal))),h:=aA s2.h k (nA e2)}:=by
  unfold MW;rw [lC hw];simp only [zbB,zbS,if_true,hc,hcal]
  have ha':c.args.toList.mapM (opnd (tab nt f))=some args:=by
   show c.args.toList.mapM (aH (aO (tab nt f)))=_;rw [fg];exact ha
  have hx':opnd (tab nt f) x=some (.one (.yld k)):=(bY nt f x).trans hx;rw [ha',hx'];simp only [zbS,hb.get hp,and_self,if_true]
  have hround:(be E (lU E y0 n0 k (tab nt0 f0) ps asg body) m n).2.y k args H=some (e2,s2.h):=by
   show lU E y0 n0 k (tab nt0 f0) ps asg body m k args H=_;unfold lU;rw [if_pos ⟨rfl,Nat.eq_of_beq_eq_true hla⟩,Ef,h1 m (by omega)];simp only [zbB,zbS];rw [h2 m (by omega)];rfl
  rw [hround];simp only [zbS,hd,oO,nv,fK hn,if_true,rq,ke];rfl
 rw [hsc,hy];rfl
theorem acZ{c:Code}(h:WpL E y n nt c Q f L):dZ nt (XN (WpC E y n c Q)) .normal f L:=fun H hb=>⟨rfl,h H hb⟩
theorem MA{h:Heap}{k sz:Nat}{es:List (List C)}(hk:az h k=some (sz,es)):h[k]? =some (.own sz es):=cD hk
theorem Uh{nt' k p:Nat}{f':Nat→D}(hp:L[p]? =some [(k,0,[])])(h:ez E y n nt ops r K (up f d (bD true)) L):dZ nt' (Ue E y n nt ops r K f d k) .normal f' L:=fun H hb=>by
 have:=AF (MA (hb.get hp))
 show lA E y n ops r K {t:=_,h:=aA H k (.own 0 [])};rw [this];exact h H hb
end
theorem bW{k b j:Nat}(h:k<b):k≠b+j:=by omega
theorem wy{b i j:Nat}(h:Nat.beq i j=false):b+i≠b+j:=by have:=Nat.ne_of_beq_eq_false h;omega
theorem pD{k:Nat}:k ∉([]:List Nat):=by simp
theorem ja{k m:Nat}{l:List Nat}(h1:k≠m)(h2:k ∉ l):k ∉ m::l:=fun h=>by
 rcases List.mem_cons.1 h with h|h
 ·exact h1 h
 ·exact h2 h
theorem aY{b:Nat}:∀k∈([]:List Nat),k<b:=fun k h=>by simp at h
theorem Bk{b m:Nat}{l:List Nat}(h1:m<b)(h2:∀k∈l,k<b):∀k∈m::l,k<b:=fun k h=>by
 rcases List.mem_cons.1 h with h|h
 ·subst h;exact h1
 ·exact h2 k h
theorem vi{b:Nat}:∀l∈([]:List (List Nat)),∀k∈l,k<b:=fun k h=>by simp at h
theorem aK{b:Nat}{a:List Nat}{O:List (List Nat)}(h1:∀k∈a,k<b)(h2:∀l∈O,∀k∈l,k<b):∀l∈a::O,∀k∈l,k<b:=fun l h=>by
 rcases List.mem_cons.1 h with h|h
 ·subst h;exact h1
 ·exact h2 l h
theorem djE{O:List (List Nat)}{r:List Nat}:∀j∈r,∀x∈([]:List Nat),x ∉ O.getD j []:=fun c _ x h=>by simp at h
theorem djN{O:List (List Nat)}{a:List Nat}:∀j∈([]:List Nat),∀x∈a,x ∉ O.getD j []:=fun c h=>by simp at h
section
variable {X Up KT : Type} {nt : Nat}
variable {ex : Ex} {S : X → KT → (Nat → D) → Nat → D} {SL : X → KT → BL} {J : Up → Ex → St → Prop} {G : Up → Ex → St → Prop}
end
end Ev
end
end Go.Proofs.Ytjjbpdldbdmoeaa
