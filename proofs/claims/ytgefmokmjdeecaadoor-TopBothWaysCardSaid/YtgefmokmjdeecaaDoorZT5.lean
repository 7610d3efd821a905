/- Texts of a claim, joined. -/
import Derived.Test.YtgefmokmjdeecaaDoorZT4
import Derived.Laws.StructEq
import Derived.Test.YtgefmokmjdeecaaDoorZT0
import Derived.Test.YtgefmokmjdeecaaDoorChecked
import Derived.Test.YtgefmokmjdeecaaDoorRows
import Derived.LaidMore
import Derived.OpenShut
import Derived.Stop.Joined
import Derived.ChangeSlices
set_option linter.unusedVariables false
set_option linter.unusedSimpArgs false
namespace Go.Proofs.YtgefmokmjdeecaaDoor
noncomputable section
namespace Ev
open Go Go.RowKit
section
variable {E : Env} {y : Nat → fH} {n nt : Nat} {f : Nat → D} {L : BL}
theorem we{x:Operand}{v:D}(hx:ov nt f x=some v):PS E n nt f L (.move x) v:=fun h nid hb=>by
 rw [Po,bZ,hx];rfl
theorem Af{x:Operand}{v:D}(hx:ov nt f x=some v):PS E n nt f L (.assign x) v:=fun h nid hb=>by
 rw [Pp,bZ,hx];rfl
theorem pV{x:Operand}{k i j:Nat}(hx:ov nt f x=some (.one (.ptr k i j))):PS E n nt f L (.nilCheck x) (.one (.ptr k i j)):=fun h nid hb=>by
 rw [Kd];unfold sem vZ;simp only [ew,zbB,hx,zbS]
theorem RH{c a b:Operand}{fr:Bool}{v:D}(hc:ov nt f c=some (.one (.p fr (.v (.bool true)))))(hx:ov nt f a=some v):PS E n nt f L (.pick c a b) v:=fun h nid hb=>by
 rw [Kc,bZ,hc,bZ,hx];rfl
theorem RI{c a b:Operand}{fr:Bool}{v:D}(hc:ov nt f c=some (.one (.p fr (.v (.bool false)))))(hx:ov nt f b=some v):PS E n nt f L (.pick c a b) v:=fun h nid hb=>by
 rw [Kc,bZ,hc,bZ (x:=b),hx];rfl
theorem cC{op:BinOp}{ty sh:TypeId}{x y:Operand}{fa fb:Bool}{ka kb:IntKind}{a b:Int}{v:Value}(hx:ov nt f x=some (.one (.p fa (.v (.int ka a)))))(hy:ov nt f y=some (.one (.p fb (.v (.int kb b)))))
  (hp:az E.P (do eqGuard op ty x y (.int ka a) (.int kb b);binOp op ty (.int ka a) (.int kb b))=some v) (h1:one1 v=true):PS E n nt f L (.binOp op ty x y sh) (mk v):=fun h nid hb=>by
 rw [HU,bZ,hx,bZ,hy];refine Eq.trans (b:=xz E.P E.ti op ty x y (.one (.p fa (.v (.int ka a)))) (.one (.p fb (.v (.int kb b))))) rfl ?_;rw [Vd,hp];show mkO v=_;unfold mkO;rw [if_pos h1]
theorem RJ{P:Program}{ti:TypeId→Option TI}{op:BinOp}{ty:TypeId}{x y:Operand}{fr fr':Bool}{a b:Bool}:
  xz P ti op ty x y (.one (.p fr (.v (.bool a)))) (.one (.p fr' (.v (.bool b))))=(az P (do eqGuard op ty x y (.bool a) (.bool b);binOp op ty (.bool a) (.bool b))).bind mkO:=rfl
theorem gQ{op:BinOp}{ty sh:TypeId}{x y:Operand}{fa fb:Bool}{a b:Bool}{v:Value}(hx:ov nt f x=some (.one (.p fa (.v (.bool a)))))(hy:ov nt f y=some (.one (.p fb (.v (.bool b)))))
  (hp:az E.P (do eqGuard op ty x y (.bool a) (.bool b);binOp op ty (.bool a) (.bool b))=some v) (h1:one1 v=true):PS E n nt f L (.binOp op ty x y sh) (mk v):=fun h nid hb=>by
 rw [HU,bZ,hx,bZ,hy];refine Eq.trans (b:=xz E.P E.ti op ty x y (.one (.p fa (.v (.bool a)))) (.one (.p fb (.v (.bool b))))) rfl ?_;rw [RJ,hp];show mkO v=_;unfold mkO;rw [if_pos h1]
theorem Vj{P:Program}{ti:TypeId→Option TI}{op:BinOp}{ty:TypeId}{x y:Operand}{a b:List C}:xz P ti op ty x y (.agg a) (.agg b)=(plain (.agg a)).bind fun va=>(plain (.agg b)).bind fun vb=>(az P (do eqGuard op ty x y va vb;binOp op ty va vb)).bind mkO:=rfl
theorem lN{op:BinOp}{ty sh:TypeId}{x y:Operand}{a b:List C}{va vb v:Value}(hx:ov nt f x=some (.agg a))(hy:ov nt f y=some (.agg b))(ha:plain (.agg a)=some va)(hb':plain (.agg b)=some vb)
  (hp:az E.P (do eqGuard op ty x y va vb;binOp op ty va vb)=some v) (h1:one1 v=true):PS E n nt f L (.binOp op ty x y sh) (mk v):=fun h nid hb=>by
 rw [HU,bZ,hx,bZ,hy];refine Eq.trans (b:=xz E.P E.ti op ty x y (.agg a) (.agg b)) rfl ?_;rw [Vj,ha,hb'];simp only [zbS];rw [hp];show mkO v=_;unfold mkO;rw [if_pos h1]
theorem ck{ty:TypeId}{x:Operand}{fr b:Bool}(hx:ov nt f x=some (.one (.p fr (.v (.bool b))))):PS E n nt f L (.unOp .not ty x) (bD (!b)):=fun h nid hb=>by
 show((bd (bg (tab nt f)) x).bind fun d=>(plain d).bind fun v=>(az E.P (Op.unary .not v)).bind mkO)=_;rw [bZ,hx];rfl
theorem Xx{ty:TypeId}{x:Operand}{fr:Bool}{k:IntKind}{a:Int}(hx:ov nt f x=some (.one (.p fr (.v (.int k a))))):PS E n nt f L (.unOp .neg ty x) (iD k (k.wrap (0 - a))):=fun h nid hb=>by
 show((bd (bg (tab nt f)) x).bind fun d=>(plain d).bind fun v=>(az E.P (Op.unary .neg v)).bind mkO)=_;rw [bZ,hx];rfl
theorem gR{src dst:TypeId}{x:Operand}{fr:Bool}{k:IntKind}{a:Int}{v:Value}(hx:ov nt f x=some (.one (.p fr (.v (.int k a)))))(hp:az E.P (Go.convert src dst (.int k a))=some v)(h1:one1 v=true):PS E n nt f L (.convert src dst x) (mk v):=fun h nid hb=>by
 show((bd (bg (tab nt f)) x).bind fun d=>(plain d).bind fun v=>match v with
  | .int .. =>(az E.P (Go.convert src dst v)).bind mkO
  |_=>none)=_
 rw [bZ,hx];show(az E.P (Go.convert src dst (.int k a))).bind mkO=_;rw [hp];show mkO v=_;unfold mkO;rw [if_pos h1]
theorem ah{ty:TypeId}{x:Operand}{m k i j off sz:Nat}{ag:Bool}(hx:ov nt f x=some (.one (.ptr k i j)))(ht:fieldAt E.ti ty m=some (off,sz,ag))(hz:Nat.beq sz 0=false):PS E n nt f L (.fieldAddr ty x m) (.one (.ptr k i (j+off))):=fun h nid hb=>by
 rw [Lv,bZ,hx,ht];show(if sz=0 then none else _)=_;rw [if_neg (Nat.ne_of_beq_eq_false hz)]
theorem fE{ty:TypeId}{x:Operand}{m i j off sz s:Nat}{fr:Bool}{l:List (List T)}{ag:Bool}(hx:ov nt f x=some (.one (.iptr fr s l i j)))(ht:fieldAt E.ti ty m=some (off,sz,ag))(hz:Nat.beq sz 0=false):PS E n nt f L (.fieldAddr ty x m) (.one (.iptr fr s l i (j+off))):=fun h nid hb=>by
 rw [Lv,bZ,hx,ht];show(if sz=0 then none else _)=_;rw [if_neg (Nat.ne_of_beq_eq_false hz)]
theorem uY{ty:TypeId}{x:Operand}{m off sz:Nat}{cs c2:List C}{ag:Bool}{v:D}(hx:ov nt f x=some (.agg cs))(ht:fieldAt E.ti ty m=some (off,sz,ag))(hc:cut cs off (cond ag sz 1)=some c2)(hv:dC ag c2=some v):PS E n nt f L (.field ty x m) v:=fun h nid hb=>by
 show((E.ti ty).bind fun t=>(kQ t m).bind fun fd=>(E.ti fd.type).bind fun ft=>(bd (bg (tab nt f)) x).bind fun d=>match d with
  | .agg cs=>(cut cs fd.offset (if bI ft.desc then ft.size else 1)).bind fun c=>(dC (bI ft.desc) c).bind fun v=>some (⟨v,[]⟩:Eff)
  |_=>none)=_
 unfold fieldAt at ht;simp only [zbE,zsI,Prod.mk.injEq]at ht;obtain⟨t,h1,fd,h2,ft,h3,rfl,rfl,rfl⟩:=ht;rw [h1,bZ,hx];simp only [zbS,h2,h3]
 have hc':cut cs fd.offset (if bI ft.desc then ft.size else 1)=some c2:=by
  rw [←hc];cases bI ft.desc<;>rfl
 rw [hc'];simp only [zbS,hv]
theorem Fu{α:Type}(b:Bool)(x y:α):(if b=true then x else y)=cond b x y:=by cases b<;>rfl
theorem mh{ty:TypeId}{x:Operand}{k i j sz bz:Nat}{ag:Bool}{es:List (List C)}{e cs:List C}{v:D}(p:Nat)(hx:ov nt f x=some (.one (.ptr k i j)))(hz:bX E.ti ty=some (sz,ag))(hp:L[p]? =some [(k,bz,es)])(he:es[i]? =some e)(hc:cut e j (cond ag sz 1)=some cs)(hv:dC ag cs=some v):PS E n nt f L (.load ty x) v:=fun h nid hb=>by
 rw [Pq,bZ,hx,hz];show Fq (kOf ag (Ka j (if ag then sz else 1) (Vc i (aP h k))))=_;rw [hb.get hp,Fu];show Fq (kOf ag (Ka j (cond ag sz 1) es[i]?))=_;rw [he];show Fq (kOf ag (cut e j (cond ag sz 1)))=_;rw [hc];show Fq (dC ag cs)=_;rw [hv];rfl
theorem aR{ty:TypeId}{x:Operand}{i j sz s:Nat}{fr ag:Bool}{l:List (List T)}{e:List T}{cs:List C}{v:D}(hx:ov nt f x=some (.one (.iptr fr s l i j)))(hz:bX E.ti ty=some (sz,ag))(he:l[i]? =some e)(hc:cut (e.map (pC fr)) j (cond ag sz 1)=some cs)(hv:dC ag cs=some v):PS E n nt f L (.load ty x) v:=fun h nid hb=>by
 rw [Pq,bZ,hx,hz];show Fq (kOf ag (Ka j (if ag then sz else 1) (kIn fr l[i]?)))=_;rw [he,Fu];show Fq (kOf ag (cut (e.map (pC fr)) j (cond ag sz 1)))=_;rw [hc];show Fq (dC ag cs)=_;rw [hv];rfl
theorem cO{ty:TypeId}{a x:Operand}{k i j sz bz:Nat}{ag:Bool}{es es':List (List C)}{e e' cs:List C}{v:D}(p:Nat)(ha:ov nt f a=some (.one (.ptr k i j)))(hx:ov nt f x=some v)(hd:iW v=some cs)(hz:bX E.ti ty=some (sz,ag))(hs:Nat.beq cs.length sz=true)(hp:L[p]? =some [(k,bz,es)])(he:es[i]? =some e)(ht:patch e j cs=some e')(hes:es.set i e'=es'):PW E n nt f L (.store ty a x) cJ p k bz es':=⟨⟨_,hp⟩,fun h nid hb=>by
 rw [Rw,bZ,ha,bZ,hx,hz];show Rv k i j sz (iW v) (aP h k)=_;rw [hd,hb.get hp];show(if cs.length=sz then Pn k i bz es (Kb j cs es[i]?)else none)=_;rw [if_pos (Nat.eq_of_beq_eq_true hs),he];show Pn k i bz es (patch e j cs)=_;rw [ht];subst hes
 rfl⟩
theorem aF{ty:TypeId}{t:TI}{row:List C}{sz:Nat}(ht:E.ti ty=some t)(hr:lb t=row)(hs:t.size=sz):PN E n nt f L (.alloc ty) (fun k=> .one (.ptr k 0 0)) sz [row]:=fun h nid hb=>by
 show((E.ti ty).bind fun t=>some (⟨.one (.ptr nid 0 0),[(nid,.own t.size [lb t])]⟩:Eff))=_;rw [ht];subst hr hs;rfl
theorem ci{ty:TypeId}{x:Operand}{t:TI}{d:D}{cs:List C}{sz:Nat}(ht:E.ti ty=some t)(hx:ov nt f x=some d)(hc:iW d=some cs)(hs:cs.length=sz):PN E n nt f L (.box ty x) (fun k=> .one (.ptr k 0 0)) sz [cs]:=fun h nid hb=>by
 show((E.ti ty).bind fun t=>(bd (bg (tab nt f)) x).bind fun d=>(iW d).bind fun cs=>some (⟨.one (.ptr nid 0 0),[(nid,.own cs.length [cs])]⟩:Eff))=_;rw [ht,bZ,hx];simp only [zbS,hc];subst hs;rfl
def yf(nt:Nat)(f:Nat→D)(l:List (Nat×Operand)):Option (List (Nat×D)):=l.mapM fun((i,x):Nat×Operand)=>(ov nt f x).map fun d=>(i,d)
theorem aW{ty:TypeId}{parts:Array (Nat×Operand)}{t:TI}{ps:List (Nat×D)}{pl:Nat→Option (Nat×Nat)}{cs:List C}(ht:E.ti ty=some t)(hps:yf nt f parts.toList=some ps)(hpl:iX E.ti t=some pl)(hf:fill pl (lb t) ps=some cs):PS E n nt f L (.build ty parts) (.agg cs):=fun h nid hb=>by
 show((E.ti ty).bind fun t=>(parts.toList.mapM fun((i,x):Nat×Operand)=>(bd (bg (tab nt f)) x).map fun d=>(i,d)).bind fun ps=>(iX E.ti t).bind fun pl=>(fill pl (lb t) ps).bind fun cs=>some (⟨.agg cs,[]⟩:Eff))=_;rw [ht,ew];simp only [zbS];have h1:(parts.toList.mapM fun((i,x):Nat×Operand)=>(ov nt f x).map fun d=>(i,d))=some ps:=hps;simp only [h1,zbS,hpl,hf]
theorem ir{ti:TypeId→Option TI}{ty z:Nat}(h:dP ti ty=some z):∃t e te,ti ty=some t∧bB t=some e∧ti e=some te∧te.size=z:=by
 unfold dP at h;simp only [zbE,zsI]at h;obtain⟨t,h1,e,h2,te,h3,h4⟩:=h;exact⟨t,e,te,h1,h2,h3,h4⟩
theorem cU{ty ety:TypeId}{len z:Nat}{parts:Array (Nat×Operand)}{t te:TI}{ps:List (Nat×D)}{cs:List C}{es:List (List C)}(ht:E.ti ty=some t)(he:bB t=some ety)(hte:E.ti ety=some te)(hz:te.size=z)(hps:yf nt f parts.toList=some ps)(hf:fill (fun i=>some (i*z,z)) (sd te len) ps=some cs)(hr:vF z cs len=some es)(hl:Nat.ble (len*z) 16777216=true):PN E n nt f L (.buildSlice ty len parts) (fun k=> .one (.own k 0 len)) z es:=fun h nid hb=>by
 show((E.ti ty).bind fun t=>(bB t).bind fun x=>(E.ti x).bind fun e=>(parts.toList.mapM fun((i,x):Nat×Operand)=>(bd (bg (tab nt f)) x).map fun d=>(i,d)).bind fun ps=>(fill (fun i=>some (i*e.size,e.size)) (sd e len) ps).bind fun cs=>(vF e.size cs len).bind fun es=>if len*e.size≤2 ^ 24 then some (⟨.one (.own nid 0 len),[(nid,.own e.size es)]⟩:Eff)else none)=_;subst hz;rw [ht,ew];have h1:(parts.toList.mapM fun((i,x):Nat×Operand)=>(ov nt f x).map fun d=>(i,d))=some ps:=hps;simp only [zbS,he,hte,h1,hf,hr];rw [if_pos (Nat.le_of_ble_eq_true hl)]
theorem eM{x:Operand}{i:Nat}{ds:List D}{v:D}(hx:ov nt f x=some (.tup ds))(hi:ds[i]? =some v):PS E n nt f L (.extract x i) v:=fun h nid hb=>by
 show((bd (bg (tab nt f)) x).bind fun d=>match d with
  | .tup ds=>(ds[i]?).bind fun v=>some (⟨v,[]⟩:Eff)
  |_=>none)=_
 rw [bZ,hx];show(ds[i]?).bind _=_;rw [hi];rfl
theorem aG{α β:Type}{r:α→β}{l:List α}{i:Nat}{x:α}(h:l[i]? =some x):(l.map r)[i]? =some (r x):=by rw [List.getElem?_map,h];rfl
theorem Px{α:Type}{l:List α}{i:Nat}{x:α}(h:l[i]? =some x):i<l.length:=(List.getElem?_eq_some_iff.1 h).1
theorem map_set{α β:Type}{r:α→β}{l:List α}{i:Nat}{x:α}:(l.map r).set i (r x)=(l.set i x).map r:=(List.map_set).symm
theorem bF{α:Type}{r:α→List T}{ty:TypeId}{x ix:Operand}{fr fb nn:Bool}{sz:Nat}{l:List α}{kb:IntKind}{i:Int}{y:α}(hx:ov nt f x=some (.one (.p fr (.s nn sz (l.map r)))))(hi:ov nt f ix=some (.one (.p fb (.v (.int kb i)))))(h0:0≤i)(hy:l[i.toNat]? =some y)(hz:dP E.ti ty=some sz):PS E n nt f L (.indexAddr ty x ix) (.one (.iptr fr sz (l.map r) i.toNat 0)):=fun h nid hb=>by
 rw [ye,bZ,hx,bZ,hi];show kIx E.ti ty h _ (ja (.one (.p fb (.v (.int kb i)))))=_;rw [iQ _ _ _ h0];refine Eq.trans (b:=HT E.ti ty h i.toNat (.one (.p fr (.s nn sz (l.map r))))) rfl ?_;rw [aa6,hz];show(if i.toNat<(l.map r).length∧sz=sz then _ else _)=_;rw [if_pos ⟨by rw [List.length_map];exact Px hy,rfl⟩]
theorem uZ{α:Type}{r:α→List C}{ty:TypeId}{x ix:Operand}{fb:Bool}{k sz:Nat}{l:List α}{kb:IntKind}{i:Int}{y:α}(p:Nat)(hx:ov nt f x=some (.one (.own k 0 l.length)))(hi:ov nt f ix=some (.one (.p fb (.v (.int kb i)))))(h0:0≤i)(hy:l[i.toNat]? =some y)(hp:L[p]? =some [(k,sz,l.map r)])(hz:dP E.ti ty=some sz):PS E n nt f L (.indexAddr ty x ix) (.one (.ptr k i.toNat 0)):=fun h nid hb=>by
 rw [ye,bZ,hx,bZ,hi];show kIx E.ti ty h _ (ja (.one (.p fb (.v (.int kb i)))))=_;rw [iQ _ _ _ h0];refine Eq.trans (b:=HT E.ti ty h i.toNat (.one (.own k 0 l.length))) rfl ?_;rw [aa7,hz,hb.get hp];show(if i.toNat<l.length∧sz=sz then _ else _)=_;rw [if_pos ⟨Px hy,rfl⟩,Nat.zero_add]
theorem Kh{c:Call}{a:Operand}{ty e:TypeId}{t:TI}{d:D}{m:Nat}(hc:c.callee= .builtin .len)(ha:c.args.toList= [a])(hty:c.argTypes[0]? =some ty)(ht:E.ti ty=some t)(hd:t.desc= .slice e)(hx:ov nt f a=some d)(hl:AZ d=some m):PS E n nt f L (.call c) (iD .i64 m):=fun h nid hb=>by
 have h1:bw (.call c)=none:=by unfold bw;simp only [hc]
 rw [mV,h1];unfold sem vZ;simp only [hc,hty,ht,ha,ew,zbB,zbS,List.mapM_cons,List.mapM_nil,hx,Option.pure_def,hd,hl];rfl
theorem Ki{α:Type}{r:α→List T}{fr nn:Bool}{sz:Nat}{l:List α}:AZ (.one (.p fr (.s nn sz (l.map r))))=some l.length:=by
 show some (l.map r).length=_;rw [List.length_map]
theorem cn{α:Type}{r:α→List T}{c:Call}{a:Operand}{ty e:TypeId}{t:TI}{fr nn:Bool}{sz:Nat}{l:List α}(hx:ov nt f a=some (.one (.p fr (.s nn sz (l.map r)))))(ht:E.ti ty=some t)(hd:t.desc= .slice e)(hc:c.callee= .builtin .len)(ha:c.args.toList= [a])(hty:c.argTypes[0]? =some ty):PS E n nt f L (.call c) (iD .i64 l.length):=Kh hc ha hty ht hd hx Ki
theorem Py{c:Call}{a:Operand}{ty e:TypeId}{t:TI}{k m:Nat}(hx:ov nt f a=some (.one (.own k 0 m)))(ht:E.ti ty=some t)(hd:t.desc= .slice e)(hc:c.callee= .builtin .len)(ha:c.args.toList= [a])(hty:c.argTypes[0]? =some ty):PS E n nt f L (.call c) (iD .i64 m):=Kh hc ha hty ht hd hx rfl
def Ag(L:BL)(x:D)(xs:List (List C)):Prop:=∀h,HB h L→np h x=some xs
theorem eP{α:Type}{r:α→List C}{k sz:Nat}{l:List α}(p:Nat)(hp:L[p]? =some [(k,sz,l.map r)]):Ag L (.one (.own k 0 l.length)) (l.map r):=fun h hb=>by
 show((aP h k).bind fun x=>cut x.2 0 l.length)=_;rw [hb.get hp];show cut (l.map r) 0 l.length=_;unfold cut;rw [if_pos (by simp),List.drop_zero,List.take_of_length_le (by simp)]
theorem Vk{c:Call}{a x:Operand}{ty ty1 z e1:TypeId}{t1:TI}{fr:Bool}{bz:Nat}{d:D}{xs:List (List C)}(ha:ov nt f a=some (.one (.p fr (.s false bz []))))(hx:ov nt f x=some d)(hxs:Ag L d xs)(hne:∃y ys,xs=y::ys)(hb:xs.length≤cd)(hall:xs.all (·.length==z)=true)(hz:dP E.ti ty=some z)(ht1:E.ti ty1=some t1)(he1:bB t1=some e1)
  (hc:c.callee= .builtin .append) (hargs:c.args.toList= [a,x]) (hty:c.argTypes[0]? =some ty) (hty1:c.argTypes[1]? =some ty1):PN E n nt f L (.call c) (fun k=> .one (.own k 0 xs.length)) z xs:=fun h nid hh=>by
 obtain⟨t,e,te,g1,g2,g3,g4⟩:=ir hz;have h1:bw (.call c)=none:=by unfold bw;simp only [hc]
 rw [mV,h1];unfold sem vZ;simp only [hc,hty,g1,hargs,ew,zbB,zbS,List.mapM_cons,List.mapM_nil,ha,hx,Option.pure_def,g2,g3,hty1,ht1,he1,g4];unfold Ev.append;simp only [hxs h hh,zbB,zbS];obtain⟨y,ys,rfl⟩:=hne;rw [if_neg (by simp),if_neg (by simp),if_pos hb,if_pos hall]
theorem Vm{c:Call}{a x:Operand}{ty ty1 z e1:TypeId}{t1:TI}{fr:Bool}{bz:Nat}{d:D}(ha:ov nt f a=some (.one (.p fr (.s false bz []))))(hx:ov nt f x=some d)(hxs:Ag L d [])(hz:dP E.ti ty=some z)(ht1:E.ti ty1=some t1)(he1:bB t1=some e1)
  (hc:c.callee= .builtin .append) (hargs:c.args.toList= [a,x]) (hty:c.argTypes[0]? =some ty) (hty1:c.argTypes[1]? =some ty1):PS E n nt f L (.call c) (.one (.p fr (.s false bz []))):=fun h nid hh=>by
 obtain⟨t,e,te,g1,g2,g3,g4⟩:=ir hz;have h1:bw (.call c)=none:=by unfold bw;simp only [hc]
 rw [mV,h1];unfold sem vZ;simp only [hc,hty,g1,hargs,ew,zbB,zbS,List.mapM_cons,List.mapM_nil,ha,hx,Option.pure_def,g2,g3,hty1,ht1,he1,g4];unfold Ev.append;simp only [hxs h hh,zbB,zbS];rw [if_neg (by simp),if_pos (show([]:List (List C)).length=0 from rfl)]
theorem Pz{α:Type}{r:α→List C}{c:Call}{a x:Operand}{ty ty1 z e1:TypeId}{t1:TI}{k:Nat}{l m lm:List α}{d:D}{xs:List (List C)}(p:Nat)(ha:ov nt f a=some (.one (.own k 0 l.length)))(hx:ov nt f x=some d)(hxs:Ag L d xs)(hm:xs=m.map r)(hp:L[p]? =some [(k,z,l.map r)])(hlm:app l m=some lm)(hr:∀y,(r y).length=z)(hz:dP E.ti ty=some z)(ht1:E.ti ty1=some t1)(he1:bB t1=some e1)
  (hc:c.callee= .builtin .append) (hargs:c.args.toList= [a,x]) (hty:c.argTypes[0]? =some ty) (hty1:c.argTypes[1]? =some ty1) (hz0:Nat.beq z 0=false:=by rfl):PA E n nt f L (.call c) (fun k'=> .one (.own k' 0 lm.length)) p k z (lm.map r):=⟨⟨_,hp⟩,fun h nid hh=>by
 obtain⟨t,e,te,g1,g2,g3,g4⟩:=ir hz;obtain⟨hb,rfl⟩:=cg hlm;have h1:bw (.call c)=none:=by unfold bw;simp only [hc]
 rw [mV,h1];unfold sem vZ;simp only [hc,hty,g1,hargs,ew,zbB,zbS,List.mapM_cons,List.mapM_nil,ha,hx,Option.pure_def,g2,g3,hty1,ht1,he1,g4];unfold Ev.append;simp only [hxs h hh,zbB,zbS,hh.get hp,hm];rw [if_pos ⟨trivial,by simp,by simpa using hb,trivial,by simp [hr],Nat.ne_of_beq_eq_false hz0⟩]
 simp⟩
theorem rJ{α:Type}{r:α→List C}{ty:Nat}{x y:Operand}{t te:TI}{ety z:Nat}{fa fb:Bool}{ka kb:IntKind}{i:Int}{a:α}(ht:E.ti ty=some t)(he:bB t=some ety)(hte:E.ti ety=some te)(hx:ov nt f x=some (.one (.p fa (.v (.int ka i)))))(hy:ov nt f y=some (.one (.p fb (.v (.int kb i)))))(h0:0≤i)(hi:i.toNat≤cd)(hz:lb te=r a)(hs:te.size=z):PN E n nt f L (.makeSlice ty x y) (fun k=> .one (.own k 0 (List.replicate i.toNat a).length)) z ((List.replicate i.toNat a).map r):=fun h nid hb=>by
 show((E.ti ty).bind fun t=>(bB t).bind fun q=>(E.ti q).bind fun e=>(bd (bg (tab nt f)) x).bind fun dx=>(ja dx).bind fun n=>(bd (bg (tab nt f)) y).bind fun dy=>(ja dy).bind fun m=>if n≤m∧m≤cd then some (⟨.one (.own nid 0 n),[(nid,.own e.size (List.replicate n (lb e)))]⟩:Eff)else none)=_;rw [ht];simp only [zbS,he,hte,bZ,hx,hy,iQ _ _ _ h0];rw [if_pos ⟨Nat.le_refl _,hi⟩,List.length_replicate,List.map_replicate,hz,hs]
theorem RK{α:Type}{r:α→List C}{ty:Nat}{x y:Operand}{t te:TI}{ety z:Nat}{fa fb:Bool}{ka kb:IntKind}{i j:Int}{a:α}(ht:E.ti ty=some t)(he:bB t=some ety)(hte:E.ti ety=some te)(hx:ov nt f x=some (.one (.p fa (.v (.int ka i)))))(hy:ov nt f y=some (.one (.p fb (.v (.int kb j)))))(h0:0≤i)(hij:i≤j)(hj:j.toNat≤cd)(hz:lb te=r a)(hs:te.size=z):PN E n nt f L (.makeSlice ty x y) (fun k=> .one (.own k 0 (List.replicate i.toNat a).length)) z ((List.replicate i.toNat a).map r):=fun h nid hb=>by
 show((E.ti ty).bind fun t=>(bB t).bind fun q=>(E.ti q).bind fun e=>(bd (bg (tab nt f)) x).bind fun dx=>(ja dx).bind fun n=>(bd (bg (tab nt f)) y).bind fun dy=>(ja dy).bind fun m=>if n≤m∧m≤cd then some (⟨.one (.own nid 0 n),[(nid,.own e.size (List.replicate n (lb e)))]⟩:Eff)else none)=_;rw [ht];simp only [zbS,he,hte,bZ,hx,hy,iQ _ _ _ h0,iQ _ _ _ (show 0≤j by omega)];rw [if_pos ⟨by omega,hj⟩,List.length_replicate,List.map_replicate,hz,hs]
def Vw(L:BL)(ds:List D)(vs:List (Bool×TD)):Prop:=∀h,HB h L→ds.mapM (cP h)=some vs
theorem ak:Vw L [] []:=fun h hb=>rfl
theorem af{d:D}{ds:List D}{v:Bool×TD}{vs:List (Bool×TD)}(h1:∀h,HB h L→cP h d=some v)(h2:Vw L ds vs):Vw L (d::ds) (v::vs):=fun h hb=>by
 rw [List.mapM_cons,h1 h hb,h2 h hb];rfl
def VwC(L:BL)(cs:List C)(vs:List (Bool×T)):Prop:=∀h,HB h L→∀m,cs.mapM (eQ h (m+2))=some vs
theorem ar:VwC L [] []:=fun h hb m=>rfl
theorem ae{c:C}{cs:List C}{v:Bool×T}{vs:List (Bool×T)}(h1:∀h,HB h L→∀m,eQ h (m+2) c=some v)(h2:VwC L cs vs):VwC L (c::cs) (v::vs):=fun h hb m=>by
 rw [List.mapM_cons,h1 h hb m,h2 h hb m];rfl
theorem an{x:Value}:∀h,HB h L→∀m,eQ h (m+2) (.p true (.v x))=some (true,.v x):=fun h hb m=>rfl
theorem aM{fr nn:Bool}{sz:Nat}{l:List (List T)}:∀h,HB h L→∀m,eQ h (m+2) (.p fr (.s nn sz l))=some (fr,.s nn sz l):=fun h hb m=>rfl
theorem HZ{α β γ:Type}{r:α→List β}{q:α→List γ}{g:β→Option (Bool×γ)}(hq:∀x,(r x).mapM g=some ((q x).map fun t=>(true,t))):∀l:List α,((l.map r).mapM fun e=>e.mapM g)=some ((l.map q).map fun e=>e.map fun t=>(true,t))
 | []=>rfl
 |x::l=>by
  rw [List.map_cons,List.mapM_cons,hq x,HZ hq l];rfl
theorem fN{α:Type}{r:α→List T}{k sz:Nat}{l:List α}(p:Nat)(hp:L[p]? =some [(k,sz,l.map (be r))])(hr:∀x h m,(be r x).mapM (eQ h (m+1))=some ((r x).map fun t=>(true,t))):∀h,HB h L→∀m,eQ h (m+2) (.own k 0 l.length)=some (true,.s true sz (l.map r)):=fun h hb m=>by
 have hc:cut (l.map (be r)) 0 l.length=some (l.map (be r)):=by
  unfold cut;rw [if_pos (by simp),List.drop_zero,List.take_of_length_le (by simp)]
 have e1:eQ h (m+2) (.own k 0 l.length)=(aP h k).bind fun x=>(cut x.2 0 l.length).bind fun es=>(es.mapM fun e:List C=>e.mapM (eQ h (m+1))).bind fun q=>some (q.all (fun e=>e.all (·.1)),T.s true x.1 (q.map (fun e=>e.map (·.2)))):=rfl;rw [e1,hb.get hp];simp only [zbS,hc];rw [HZ (q:=r) fun x=>hr x h m];simp only [zbS,List.map_map];congr 2
 ·rw [List.all_eq_true];intro x hx;simp only [List.mem_map]at hx;obtain⟨y,_,rfl⟩:=hx;rw [List.all_eq_true];intro z hz;simp only [Function.comp,List.mem_map]at hz;obtain⟨w,_,rfl⟩:=hz;rfl
 ·congr 1;refine List.map_congr_left fun x hx=> ?_;simp [Function.comp_def]
theorem am{c:C}{b:Bool}{t:T}(h1:∀h,HB h L→∀m,eQ h (m+2) c=some (b,t)):∀h,HB h L→cP h (.one c)=some (b,.one t):=fun h hb=>by
 show(eQ h 6 c).bind _=_;rw [h1 h hb 4];rfl
theorem au{cs:List C}{vs:List (Bool×T)}(h1:VwC L cs vs):∀h,HB h L→cP h (.agg cs)=some (vs.all (·.1),.agg (vs.map (·.2))):=fun h hb=>by
 show(cs.mapM (eQ h 6)).bind _=_;rw [h1 h hb 4];rfl
def Ah(E:Env)(n:Nat)(k:FuncId)(vs:List TD)(rs:List TD):Prop:=∃fr:Bool,RunsP E n k vs (cond fr .fresh .any,rs)
theorem wg{c:Call}{k:FuncId}{args:List D}{vs:List (Bool×TD)}{r:Kind×List TD}{e:Nat→Eff}(hc:bw (.call c)=some c)(hr:bJ c (ov nt f)=some (k,args))(hv:Vw L args vs)(hk:cpR E n k (vs.map (·.2))=some r)
  (he:∀nid,(match r.1 with
   | .own=>match r.2 with
    | [.one (.s true sz l)]=>some ({v:= .one (.own nid 0 l.length),upd:= [(nid,.own sz (l.map (·.map (pC true))))]}:Eff)
    |_=>none
   | .fresh=>some {v:=iY (r.2.map (dj true))}
   | .any=>if args.any lH then none else some {v:=iY (r.2.map (dj (vs.all (·.1))))})=some (e nid)):∀(h:aE) (nid:Nat),HB h L→stepG E (cpR E n) none nid (.call c) (bg (tab nt f)) h=some (e nid):=fun h nid hb=>by
 rw [mV,hc];show jz (cpR E n) nid c (bg (tab nt f)) h=_;unfold jz;rw [ew,hr];simp only [zbB,zbS,hv h hb,hk];exact he nid
theorem Ly{c:Call}{k:FuncId}{args:List D}{vs:List (Bool×TD)}{vs2 rs:List TD}{v:D}(hk:RunsP E n k vs2 (.fresh,rs))(hc:bw (.call c)=some c)(hr:bJ c (ov nt f)=some (k,args))(hv:Vw L args vs)(h2:vs.map (·.2)=vs2)(hrv:iY (rs.map (dj true))=v):PS E n nt f L (.call c) v:=fun h nid hb=>by
 subst hrv h2;exact wg (e:=fun _=>⟨_,[]⟩) hc hr hv (jv hk) (fun _=>rfl) h nid hb
theorem rK{c:Call}{k:FuncId}{args:List D}{vs:List (Bool×TD)}{vs2 rs:List TD}{v:Bool→D}(hk:Ah E n k vs2 rs)(hc:bw (.call c)=some c)(hr:bJ c (ov nt f)=some (k,args))(hv:Vw L args vs)(h2:vs.map (·.2)=vs2)(ho:args.any lH=false)(hrv:∀fr,iY (rs.map (dj fr))=v fr):∃fr,PS E n nt f L (.call c) (v fr):=by
 obtain⟨fr,hk⟩:=hk
 cases fr with
 |true=>exact⟨true,Ly hk hc hr hv h2 (hrv true)⟩
 |false=>
  subst h2;refine⟨vs.all (·.1),fun h nid hb=> ?_⟩;rw [←hrv];refine wg (e:=fun _=>⟨_,[]⟩) hc hr hv (jv hk) (fun _=> ?_) h nid hb;show(if args.any lH=true then none else _)=_;rw [ho];rfl
theorem jq{α:Type}{r:α→List T}{c:Call}{k:FuncId}{args:List D}{vs:List (Bool×TD)}{vs2:List TD}{sz:Nat}{l:List α}(hk:RunsP E n k vs2 (.own,[.one (.s true sz (l.map r))]))(hc:bw (.call c)=some c)(hr:bJ c (ov nt f)=some (k,args))(hv:Vw L args vs)(h2:vs.map (·.2)=vs2):PN E n nt f L (.call c) (fun k'=> .one (.own k' 0 l.length)) sz (l.map (be r)):=fun h nid hb=>by
 subst h2
 have:=wg (e:=fun nid=>⟨.one (.own nid 0 (l.map r).length),[(nid,.own sz ((l.map r).map (·.map (pC true))))]⟩) hc hr hv (jv hk) (fun _=>rfl) h nid hb
 rw [List.length_map,List.map_map]at this;exact this
def Xy(E:Env)(rv:List ResultVar)(rs:List TD):Ex→St→Prop:=fun e s=>∃fr:Bool,gv E rv (cond fr .fresh .any,rs) e s
def BU(E:Env)(nt:Nat)(f:Nat→D)(L:BL)(rv:List ResultVar)(ds:List D):Prop:=∀h,HB h L→rv.mapM (dh E {t:=tab nt f,h:=h})=some ds
theorem ay:BU E nt f L [] []:=fun h hb=>rfl
theorem aZ{t:Tmp}{d:D}{rv:List ResultVar}{ds:List D}(ht:ov nt f (.tmp t)=some d)(h:BU E nt f L rv ds):BU E nt f L (.tmp t::rv) (d::ds):=fun H hb=>by
 have:(tab nt f)[t]? =some d:=(bZ nt f (.tmp t)).trans ht
 rw [List.mapM_cons,h H hb];show((tab nt f)[t]?).bind _=_;rw [this];rfl
theorem aA{t:Tmp}{ty:TypeId}{k i j sz bz:Nat}{ag:Bool}{es:List (List C)}{e cs:List C}{d:D}{rv:List ResultVar}{ds:List D}(p:Nat)(ht:ov nt f (.tmp t)=some (.one (.ptr k i j)))(hz:bX E.ti ty=some (sz,ag))(hp:L[p]? =some [(k,bz,es)])(he:es[i]? =some e)(hc:cut e j (cond ag sz 1)=some cs)(hv:dC ag cs=some d)(h:BU E nt f L rv ds):BU E nt f L (.cell t ty::rv) (d::ds):=fun H hb=>by
 have h1:(tab nt f)[t]? =some (.one (.ptr k i j)):=(bZ nt f (.tmp t)).trans ht;unfold bX at hz;simp only [zbE,zsI,Prod.mk.injEq]at hz;obtain⟨ti,g1,rfl,rfl⟩:=hz;rw [List.mapM_cons,h H hb];show(((E.ti ty).bind fun t'=>((tab nt f)[t]?).bind fun d=>load H (bI t'.desc) (if bI t'.desc then t'.size else 1) d).bind _)=_;rw [g1,h1];simp only [zbS,load,hb.get hp,zbB,he,Fu,hc,hv];rfl
theorem aN{rv:List ResultVar}{ds:List D}{vs:List (Bool×TD)}{e:Ex}{rs:List TD}(he:e= .normal∨e= .ret)(hr:BU E nt f L rv ds)(hv:Vw L ds vs)(ho:∀h,HB h L→cQ h ds=false)(hf:vs.all (·.1)=true)(hrs:vs.map (·.2)=rs):dz nt (gv E rv (.fresh,rs)) e f L:=fun H hb=>by
 have key:cZ (fun l:Kind×List TD=>l=(.fresh,rs)) ((rv.mapM (dh E {t:=tab nt f,h:=H})).bind fun rs=>(rs.mapM (cP H)).map fun l=>(if cQ H rs then .own else if l.all (·.1)then .fresh else .any,l.map (·.2))):=by
  rw [hr H hb];simp only [zbS,hv H hb,Option.map_some,ho H hb,hf,hrs];rfl
 rcases he with rfl|rfl<;>exact key
theorem rg{rv:List ResultVar}{ds:List D}{vs:List (Bool×TD)}{e:Ex}{rs:List TD}(he:e= .normal∨e= .ret)(hr:BU E nt f L rv ds)(hv:Vw L ds vs)(ho:∀h,HB h L→cQ h ds=false)(hrs:vs.map (·.2)=rs):dz nt (Xy E rv rs) e f L:=fun H hb=>by
 have key:cZ (fun l:Kind×List TD=>l=(cond (vs.all (·.1)) .fresh .any,rs)) ((rv.mapM (dh E {t:=tab nt f,h:=H})).bind fun rs=>(rs.mapM (cP H)).map fun l=>(if cQ H rs then .own else if l.all (·.1)then .fresh else .any,l.map (·.2))):=by
  rw [hr H hb];simp only [zbS,hv H hb,Option.map_some,ho H hb,hrs];show(_,_)=(_,_);cases vs.all (·.1)<;>rfl
 refine⟨vs.all (·.1),?_⟩;rcases he with rfl|rfl<;>exact key
theorem Kj{α:Type}{r:α→List T}{rv:List ResultVar}{k sz:Nat}{l:List α}{e:Ex}(p:Nat)(he:e= .normal∨e= .ret)(hr:BU E nt f L rv [.one (.own k 0 l.length)])(hp:L[p]? =some [(k,sz,l.map (be r))])(hr2:∀x h m,(be r x).mapM (eQ h (m+1))=some ((r x).map fun t=>(true,t)))(hpl:∀x,(be r x).all sH=true):dz nt (gv E rv (.own,[.one (.s true sz (l.map r))])) e f L:=fun H hb=>by
 have ho:cQ H [.one (.own k 0 l.length)]=true:=by
  simp [cQ,hb.get hp,hpl]
 have key:cZ (fun l':Kind×List TD=>l'=(.own,[.one (.s true sz (l.map r))])) ((rv.mapM (dh E {t:=tab nt f,h:=H})).bind fun rs=>(rs.mapM (cP H)).map fun l=>(if cQ H rs then .own else if l.all (·.1)then .fresh else .any,l.map (·.2))):=by
  rw [hr H hb];have hv: [D.one (.own k 0 l.length)].mapM (cP H)=some [(true,.one (.s true sz (l.map r)))]:=af (am (fN p hp hr2)) ak H hb;simp only [zbS,hv,Option.map_some,ho];rfl
 rcases he with rfl|rfl<;>exact key
theorem RL{d e:D}{ds:List D}{h:aE}:cQ h (d::e::ds)=false:=by
 unfold cQ;split
 ·rename_i hx;simp at hx
 ·rfl
theorem RM{cs:List C}{h:aE}:cQ h [.agg cs]=false:=rfl
theorem PB{fr:Bool}{t:T}{h:aE}:cQ h [.one (.p fr t)]=false:=rfl
def f0(vs:List TD):Nat→D:=fun i=>(vs.map (dj false)).getD i cJ
theorem eI{k:FuncId}{fi:FI}{vs rs:List TD}(ha:E.ax k=none)(hf:E.fn k=some fi)(hl:Nat.ble vs.length fi.nt=true)(h:WpL E nY n fi.nt fi.body (gv E fi.results (.fresh,rs)) (f0 vs) []):RunsP E (n+1) k vs (.fresh,rs):=pf ha hf (Nat.le_of_ble_eq_true hl) (h [] ⟨List.nodup_nil,fun x hx=>by simp at hx⟩)
theorem Xz{k:FuncId}{fi:FI}{vs rs:List TD}(ha:E.ax k=none)(hf:E.fn k=some fi)(hl:Nat.ble vs.length fi.nt=true)(h:WpL E nY n fi.nt fi.body (gv E fi.results (.own,rs)) (f0 vs) []):RunsP E (n+1) k vs (.own,rs):=pf ha hf (Nat.le_of_ble_eq_true hl) (h [] ⟨List.nodup_nil,fun x hx=>by simp at hx⟩)
theorem RN{k:FuncId}{fi:FI}{vs rs:List TD}(ha:E.ax k=none)(hf:E.fn k=some fi)(hl:Nat.ble vs.length fi.nt=true)(h:WpL E nY n fi.nt fi.body (Xy E fi.results rs) (f0 vs) []):Ah E (n+1) k vs rs:=by
 obtain⟨e,s',h1,fr,h2⟩:=h [] ⟨List.nodup_nil,fun x hx=>by simp at hx⟩;exact⟨fr,pf ha hf (Nat.le_of_ble_eq_true hl) ⟨e,s',h1,h2⟩⟩
end
section
variable (P : Program) (t : TypeId) (x y : Operand) (k : IntKind) {a b : Int}
theorem RO(h:a<b):az P (do eqGuard .lss t x y (.int k a) (.int k b);binOp .lss t (.int k a) (.int k b))=some (.bool true):=by rw [Pa,decide_eq_true h]
theorem RP(h:¬a<b):az P (do eqGuard .lss t x y (.int k a) (.int k b);binOp .lss t (.int k a) (.int k b))=some (.bool false):=by rw [Pa,decide_eq_false h]
theorem RQ(h:a≤b):az P (do eqGuard .leq t x y (.int k a) (.int k b);binOp .leq t (.int k a) (.int k b))=some (.bool true):=by rw [Pb,decide_eq_true h]
theorem RS(h:¬a≤b):az P (do eqGuard .leq t x y (.int k a) (.int k b);binOp .leq t (.int k a) (.int k b))=some (.bool false):=by rw [Pb,decide_eq_false h]
theorem RT(h:a>b):az P (do eqGuard .gtr t x y (.int k a) (.int k b);binOp .gtr t (.int k a) (.int k b))=some (.bool true):=by rw [Pc,decide_eq_true h]
theorem RU(h:¬a>b):az P (do eqGuard .gtr t x y (.int k a) (.int k b);binOp .gtr t (.int k a) (.int k b))=some (.bool false):=by rw [Pc,decide_eq_false h]
theorem RV(h:a ≥ b):az P (do eqGuard .geq t x y (.int k a) (.int k b);binOp .geq t (.int k a) (.int k b))=some (.bool true):=by rw [Pd,decide_eq_true h]
theorem RW(h:¬a ≥ b):az P (do eqGuard .geq t x y (.int k a) (.int k b);binOp .geq t (.int k a) (.int k b))=some (.bool false):=by rw [Pd,decide_eq_false h]
theorem RX(h:a=b):az P (do eqGuard .eql t x y (.int k a) (.int k b);binOp .eql t (.int k a) (.int k b))=some (.bool true):=by rw [Pe,h];simp
theorem RY(h:¬a=b):az P (do eqGuard .eql t x y (.int k a) (.int k b);binOp .eql t (.int k a) (.int k b))=some (.bool false):=by rw [Pe];simp [h]
theorem RZ(h:a≠b):az P (do eqGuard .neq t x y (.int k a) (.int k b);binOp .neq t (.int k a) (.int k b))=some (.bool true):=by rw [Pf];simp [h]
theorem Sa(h:¬a≠b):az P (do eqGuard .neq t x y (.int k a) (.int k b);binOp .neq t (.int k a) (.int k b))=some (.bool false):=by rw [Pf,Classical.not_not.1 h];simp
end
def mo{α:Type}(w:Nat)(l:List α):Sl α:=
 match l with
 | []=>⟨false,0,[]⟩
 |_::_=>⟨true,w,l⟩
def moC{α:Type}(l:List α)(k:Nat):C:=
 match l with
 | []=> .p true (.s false 0 [])
 |_::_=> .own k 0 l.length
def moL{α:Type}(r:α→List T)(w:Nat)(l:List α)(k:Nat):List B1:=
 match l with
 | []=> []
 |_::_=> [(k,w,l.map (be r))]
theorem gS{α:Type}(w:Nat)(l:List α):(mo w l).l=l:=by cases l<;>rfl
def vc(k:IntKind)(a b:Int):Option Int:=if b≠0 then some (k.wrap (a.tdiv b))else none
def kJ(a b:Int):Option Int:=if b≠0 then some (a.tmod b)else none
theorem tE{P:Program}{t:TypeId}{x y:Operand}{k:IntKind}{a b z:Int}(h:vc k a b=some z):az P (do eqGuard .quo t x y (.int k a) (.int k b);binOp .quo t (.int k a) (.int k b))=some (.int k z):=by
 unfold vc at h;split at h
 ·rename_i hc;rw [←Option.some.inj h];exact Xp _ _ _ _ _ _ _ hc
 ·simp at h
theorem rh{P:Program}{t:TypeId}{x y:Operand}{k:IntKind}{a b z:Int}(h:kJ a b=some z):az P (do eqGuard .rem t x y (.int k a) (.int k b);binOp .rem t (.int k a) (.int k b))=some (.int k z):=by
 unfold kJ at h;split at h
 ·rename_i hc;rw [←Option.some.inj h];exact Xq _ _ _ _ _ _ _ hc
 ·simp at h
def gU(i:Int):Option Unit:=if 0≤i∧i.toNat≤cd then some ()else none
def vd(i j:Int):Option Unit:=if i=j then some ()else if i≤j∧j.toNat≤cd then some ()else none
theorem pW(i:Int):vd i i=some ():=if_pos rfl
theorem Kk{i j:Int}{u:Unit}(h:vd i j=some u):i=j∨(i≤j∧j.toNat≤cd):=by
 unfold vd at h;split at h
 ·rename_i hi;exact .inl hi
 ·split at h
  ·rename_i hj;exact .inr hj
  ·simp at h
theorem gz{i:Int}{u:Unit}(h:gU i=some u):0≤i∧i.toNat≤cd:=by
 unfold gU at h;split at h
 ·assumption
 ·simp at h
end Ev
end
noncomputable section
namespace Ev
open Go Go.RowKit
def PC(x:Int)(k:IntKind)(y:Int):Int:=x.fdiv (2 ^(min y.toNat k.bits))
def PD(x:Int)(k:IntKind)(y:Int):Int:=k.wrap (x*2 ^(min y.toNat k.bits))
def wh(k:IntKind)(x y:Int):Option Int:=if 0≤y then some (PC x k y)else none
def Ai(k:IntKind)(x y:Int):Option Int:=if 0≤y then some (PD x k y)else none
theorem CR{P:Program}{t:TypeId}{x y:Operand}{k k':IntKind}{a b z:Int}(h:wh k a b=some z):az P (do eqGuard .shr t x y (.int k a) (.int k' b);binOp .shr t (.int k a) (.int k' b))=some (.int k z):=by
 unfold wh at h;split at h
 ·rename_i hc;rw [←Option.some.inj h]
  have:(do eqGuard .shr t x y (.int k a) (.int k' b);binOp .shr t (.int k a) (.int k' b))=(pure (.int k (PC a k b)):Sem Value):=by
   show Op.shift .shr k a k' b=_;unfold Op.shift;rw [if_neg (by omega)];rfl
  rw [this];rfl
 ·simp at h
theorem Ia{P:Program}{t:TypeId}{x y:Operand}{k k':IntKind}{a b z:Int}(h:Ai k a b=some z):az P (do eqGuard .shl t x y (.int k a) (.int k' b);binOp .shl t (.int k a) (.int k' b))=some (.int k z):=by
 unfold Ai at h;split at h
 ·rename_i hc;rw [←Option.some.inj h]
  have:(do eqGuard .shl t x y (.int k a) (.int k' b);binOp .shl t (.int k a) (.int k' b))=(pure (.int k (PD a k b)):Sem Value):=by
   show Op.shift .shl k a k' b=_;unfold Op.shift;rw [if_neg (by omega)];rfl
  rw [this];rfl
 ·simp at h
def fO(k:IntKind)(x y:Int):Int:=k.wrap (BitVec.ofInt k.bits x &&& BitVec.ofInt k.bits y).toNat
def orI(k:IntKind)(x y:Int):Int:=k.wrap (BitVec.ofInt k.bits x|||BitVec.ofInt k.bits y).toNat
def Vn(k:IntKind)(x y:Int):Int:=k.wrap (BitVec.ofInt k.bits x ^^^ BitVec.ofInt k.bits y).toNat
def Lz(k:IntKind)(x y:Int):Int:=k.wrap (BitVec.ofInt k.bits x &&& ~~~ BitVec.ofInt k.bits y).toNat
section
variable (P : Program) (t : TypeId) (x y : Operand) (k : IntKind) (a b : Int)
theorem CS:az P (do eqGuard .and t x y (.int k a) (.int k b);binOp .and t (.int k a) (.int k b))=some (.int k (fO k a b)):=by cases k<;>rfl
theorem Vo:az P (do eqGuard .or t x y (.int k a) (.int k b);binOp .or t (.int k a) (.int k b))=some (.int k (orI k a b)):=by cases k<;>rfl
theorem XA:az P (do eqGuard .xor t x y (.int k a) (.int k b);binOp .xor t (.int k a) (.int k b))=some (.int k (Vn k a b)):=by cases k<;>rfl
theorem PE:az P (do eqGuard .andNot t x y (.int k a) (.int k b);binOp .andNot t (.int k a) (.int k b))=some (.int k (Lz k a b)):=by cases k<;>rfl
end
section
variable {E : Env} {y : Nat → fH} {n nt : Nat} {f : Nat → D} {L : BL}
def kq{α:Type}(w:Nat)(s:Sl α)(lo hi:Int):Option (Sl α):=if 0≤lo∧lo≤hi∧hi≤(s.l.length:Int)∧(s.sz=w∨lo=0)then some ⟨s.nn,s.sz,(s.l.drop lo.toNat).take (hi.toNat - lo.toNat)⟩else none
theorem gf{α:Type}{w:Nat}{s s':Sl α}{lo hi:Int}(h:kq w s lo hi=some s'):(0≤lo∧lo≤hi∧hi≤(s.l.length:Int)∧(s.sz=w∨lo=0))∧s'=⟨s.nn,s.sz,(s.l.drop lo.toNat).take (hi.toNat - lo.toNat)⟩:=by
 unfold kq at h;split at h
 ·rename_i hc;exact⟨hc,(Option.some.inj h).symm⟩
 ·simp at h
theorem LA{ρ:Operand→Option D}(d:Nat):fP ρ none d=some ((d:Int)).toNat:=by simp [fP]
theorem LB{ρ:Operand→Option D}:fP ρ none 0=some ((0:Int)).toNat:=rfl
theorem rL{y:Operand}{fr:Bool}{k:IntKind}{i:Int}(hx:ov nt f y=some (.one (.p fr (.v (.int k i)))))(h0:0≤i)(d:Nat):fP (ov nt f) (some y) d=some i.toNat:=by
 show(ov nt f y).bind ja=_;rw [hx];exact iQ fr k _ h0
theorem Ib{α:Type}{r:α→List T}{ty e:TypeId}{t te:TI}{x:Operand}{lo hi mx:Option Operand}{fr nn:Bool}{sz m:Nat}{l:List α}{s':Sl α}{i j:Int}(hc:kq te.size ⟨nn,sz,l⟩ i j=some s')(hx:ov nt f x=some (.one (.p fr (.s nn sz (l.map r)))))(ht:E.ti ty=some t)(he:bB t=some e)(hte:E.ti e=some te)(hlo:fP (ov nt f) lo 0=some i.toNat)(hhi:fP (ov nt f) hi l.length=some j.toNat)(hmx:fP (ov nt f) mx l.length=some m)(hm:(mx.isSome && hi.isNone)=false)(hm1:j.toNat≤m)(hm2:m≤l.length):PS E n nt f L (.slice ty x lo hi mx) (.one (.p fr (Sl.t r s'))):=fun h nid hb=>by
 obtain⟨⟨c1,c2,c3,c4⟩,rfl⟩:=gf hc;simp only at c1 c2 c3 c4;show(if(mx.isSome && hi.isNone)=true then none else(E.ti ty).bind fun t=>(bB t).bind fun q=>(E.ti q).bind fun te=>(bd (bg (tab nt f)) x).bind fun d=>(AZ d).bind fun n=>(fP (bd (bg (tab nt f))) hi n).bind fun h'=>(fP (bd (bg (tab nt f))) lo 0).bind fun l'=>(fP (bd (bg (tab nt f))) mx n).bind fun m'=>if l'≤h'∧h'≤m'∧m'≤n then _ else _)=_;rw [if_neg (by rw [hm];simp),ht,ew];simp only [zbS,he,hte,hx,Ki,hhi,hlo,hmx];rw [if_pos (by omega)];show(if sz=te.size∨i.toNat=0 then _ else _)=_;rw [if_pos (by rcases c4 with h|h;exact .inl h;exact .inr (by omega))];unfold Sl.t;rw [List.map_take,List.map_drop]
theorem ve{α:Type}{r:α→List T}{ty e:TypeId}{t te:TI}{x:Operand}{lo hi:Option Operand}{fr nn:Bool}{sz:Nat}{l:List α}{s':Sl α}{i j:Int}(hc:kq te.size ⟨nn,sz,l⟩ i j=some s')(hx:ov nt f x=some (.one (.p fr (.s nn sz (l.map r)))))(ht:E.ti ty=some t)(he:bB t=some e)(hte:E.ti e=some te)(hlo:fP (ov nt f) lo 0=some i.toNat)(hhi:fP (ov nt f) hi l.length=some j.toNat):PS E n nt f L (.slice ty x lo hi none) (.one (.p fr (Sl.t r s'))):=
 Ib hc hx ht he hte hlo hhi (m:=l.length) rfl rfl (by have:=(gf hc).1;simp only at this;omega) (Nat.le_refl _)
theorem CT{ty e:TypeId}{t te:TI}{m z:Nat}{x ix:Operand}{fb:Bool}{kb:IntKind}{k i j a:Nat}(ht:E.ti ty=some t)(hd:t.desc= .array m e)(hte:E.ti e=some te)(hz:te.size=z)(hx:ov nt f x=some (.one (.ptr k i j)))(hi:ov nt f ix=some (.one (.p fb (.v (.int kb (a:Int))))))(ha:Nat.blt a m=true):PS E n nt f L (.indexAddr ty x ix) (.one (.ptr k i (j+a*z))):=fun h nid hb=>by
 rw [ye,bZ,hx,bZ,hi];refine Eq.trans (b:=HT E.ti ty h a (.one (.ptr k i j))) rfl ?_
 show((E.ti ty).bind fun t=>match t.desc with
  | .array n e=>(E.ti e).bind fun te=>if a<n then some (⟨.one (.ptr k i (j+a*te.size)),[]⟩:Eff)else none
  |_=>none)=_
 rw [ht];simp only [zbS,hd,hte];rw [if_pos (eZ ha),hz]
variable {ops : Array Oper} {r : List Oper} {K : St → Prop}
theorem LC(i:Nat){v:D}(h:f i=v)(h2:el E y n nt ops r K (up f i v) L):el E y n nt ops r K f L:=by rw [Fr h]at h2;exact h2
theorem Ub{q w b:Nat}{O:List (List Nat)}{N:List (Bool×List Nat)}{R:List (List Nat)}(i:Nat){v:D}(h:f i=v)(h2:TnL E n nt ops r q w O N R b K (up f i v) L):TnL E n nt ops r q w O N R b K f L:=by rw [Fr h]at h2;exact h2
def PF(a b:Int):Int:=if b<a then b else a
def pk(a b:Int):Int:=if b>a then b else a
theorem ri{c:Call}{x y:Operand}{ty:TypeId}{t:TI}{fa fb:Bool}{ka kb:IntKind}{a b:Int}(hx:ov nt f x=some (.one (.p fa (.v (.int ka a)))))(hy:ov nt f y=some (.one (.p fb (.v (.int kb b)))))(ht:E.ti ty=some t)(hargs:c.args.toList= [x,y])(hty:c.argTypes[0]? =some ty):(c.callee= .builtin .min→PS E n nt f L (.call c) (iD ka (PF a b)))∧(c.callee= .builtin .max→PS E n nt f L (.call c) (iD ka (pk a b))):=by
 constructor<;>intro hc h nid hb
 all_goals
  have h1:bw (.call c)=none:=by unfold bw;simp only [hc]
  rw [mV,h1];unfold sem vZ;simp only [hc,hty,ht,hargs,ew,zbB,zbS,List.mapM_cons,List.mapM_nil,hx,hy,Option.pure_def,plain,sE];rfl
theorem PG{α:Type}{l m x:List α}(h:app l m=some x):x=l++m:=(cg h).2
theorem LE{α:Type}{l m x:List α}(h:app l m=some x):x.length≤cd:=by
 obtain⟨h1,rfl⟩:=cg h;simpa using h1
theorem LF{α:Type}{ro:α→List C}{c:Call}{a x:Operand}{ty ty1 z e1:TypeId}{t1:TI}{fr:Bool}{bz:Nat}{d:D}{y:α}{ys:List α}(ha:ov nt f a=some (.one (.p fr (.s false bz []))))(hx:ov nt f x=some d)(hxs:Ag L d ((y::ys).map ro))(hb:(y::ys).length≤cd)(hr:∀y,(ro y).length=z)(hz:dP E.ti ty=some z)(ht1:E.ti ty1=some t1)(he1:bB t1=some e1)
  (hc:c.callee= .builtin .append) (hargs:c.args.toList= [a,x]) (hty:c.argTypes[0]? =some ty) (hty1:c.argTypes[1]? =some ty1):PN E n nt f L (.call c) (fun k=> .one (.own k 0 (y::ys).length)) z ((y::ys).map ro):=by
 have:=Vk (n:=n) ha hx hxs ⟨_,_,rfl⟩ (by simpa using hb) (by simp [hr]) hz ht1 he1 hc hargs hty hty1
 rw [List.length_map]at this;exact this
end
theorem pX{α:Type}{w:Nat}{i:Int}{x:α}(h:atS w (⟨false,0,[]⟩:Sl α) i=some x):False:=by
 obtain⟨_,_,h2⟩:=aK h;simp at h2
def PH{α:Type}(w:Nat)(r:α→List T)(l:List α):Kind×List TD:=
 match l with
 | []=>(.fresh,[.one (.s false 0 [])])
 |y::t=>(.own,[.one (.s true w ((y::t).map r))])
theorem aa8{E:Env}{n:Nat}{k:FuncId}{fi:FI}{vs:List TD}{rs:Kind×List TD}(ha:E.ax k=none)(hf:E.fn k=some fi)(hl:Nat.ble vs.length fi.nt=true)(h:WpL E nY n fi.nt fi.body (gv E fi.results rs) (f0 vs) []):RunsP E (n+1) k vs rs:=pf ha hf (Nat.le_of_ble_eq_true hl) (h [] ⟨List.nodup_nil,fun x hx=>by simp at hx⟩)
section
variable {α : Type} {rw_ : α → List T} {w k : Nat} {l : List α}
theorem Vp:AZ (.one (moC l k))=some l.length:=by cases l<;>rfl
end
section
variable {E : Env} {y : Nat → fH} {n nt : Nat} {f : Nat → D} {L : BL} {ops : Array Oper} {o : Oper} {rr : List Oper} {K : St → Prop} {d : Nat}
def moK{α:Type}(l:List α)(k:Nat):List Nat:=
 match l with
 | []=> []
 |_::_=> [k]
theorem HB.dropNil{h:aE}{L:BL}{p:Nat}(hp:L[p]? =some [])(hb:HB h L):HB h (L.eraseIdx p):=by unfold HB;rw [CO hp];exact hb
theorem Aj{p:Nat}(hp:L[p]? =some [])(h:el E y n nt ops rr K f (L.eraseIdx p)):el E y n nt ops rr K f L:=fun H hb=>h H (hb.dropNil hp)
theorem lP{α:Type}{Q:Ex→St→Prop}{c:Code}(r:α→List T)(w:Nat)(h:WpL E y n nt c Q f (moL r w ([]:List α) 0::L)):WpL E y n nt c Q f L:=fun H hb=>h H hb
theorem Ic{α:Type}:∀{l:List α} {q:Nat} {s:α},l[q]? =some s→l.set q s=l
 | [],q,s,h=>by simp at h
 |a::l,0,s,h=>by simp at h;subst h;rfl
 |a::l,q+1,s,h=>by rw [List.set_cons_succ,Ic (by simpa using h)]
theorem Fv(q:Nat){s s':List B1}(hq:L[q]? =some s)(he:s=s')(h:el E y n nt ops rr K f (L.set q s')):el E y n nt ops rr K f L:=by subst he;rw [Ic hq]at h;exact h
theorem jh{α:Type}{k i:Nat}{l:List α}{x:α}:C.own k 0 l.length=C.own k 0 (l.set i x).length:=by rw [List.length_set]
theorem kr{α:Type}{l:List α}{k k2:Nat}(h:k2 ∉ moK l k):∀x∈moK l k,¬x=k2:=fun x hx e=>h (e▸hx)
theorem ku{α:Type}{r:α→List T}{c:Call}{a x:Operand}{ty ty1 w e1:TypeId}{t1:TI}{k:Nat}{l ys lm:List α}{dx:D}(p:Nat)(hw:dE ops o nt f=some true)(hd:o.dst=some d)(hn:Nat.blt d nt=true)(ho:o.op= .call c)(ha:ov nt f a=some (.one (moC l k)))(hx:ov nt f x=some dx)(hxs:Ag L dx (ys.map (be r)))(hp:L[p]? =some (moL r w l k))(hlm:app l ys=some lm)(hr:∀y,(be r y).length=w)(hz:dP E.ti ty=some w)(ht1:E.ti ty1=some t1)(he1:bB t1=some e1)
  (hc:c.callee= .builtin .append) (hargs:c.args.toList= [a,x]) (hty:c.argTypes[0]? =some ty) (hty1:c.argTypes[1]? =some ty1) (h:∀k',el E y n nt ops rr K (up f d (.one (moC lm k'))) (moL r w lm k'::L.eraseIdx p)) (hz0:Nat.beq w 0=false:=by rfl):el E y n nt ops (o::rr) K f L:=by
 cases l with
 |nil=>
  have hlm2:=PG hlm;rw [List.nil_append]at hlm2;subst hlm2;have hb:=LE hlm
  cases lm with
  |nil=>exact Ke hw hd hn (by rw [ho];exact Vm ha hx hxs hz ht1 he1 hc hargs hty hty1) (Aj hp (h 0))
  |cons y ys=>
   refine av hw hd hn (by rw [ho];exact LF (ro:=be r) ha hx hxs hb hr hz ht1 he1 hc hargs hty hty1) fun k'=> ?_;exact Aj (p:=p+1) hp (h k')
 |cons y l=>
  obtain⟨_,rfl⟩:=cg hlm;exact Pr hw hd hn (by rw [ho];exact Pz (r:=be r) p ha hx hxs rfl hp hlm hr hz ht1 he1 hc hargs hty hty1 hz0) rfl h
theorem Kl{i q b p:Nat}{O:List (List Nat)}{N:List (Bool×List Nat)}{R:List (List Nat)}(hp:L[p]? =some [])(h:TnL E n nt ops rr i q O N R b K f (L.eraseIdx p)):TnL E n nt ops rr i q O N R b K f L:=fun H hb hl=>h H (hb.dropNil hp) hl
theorem yg{α:Type}{r:α→List T}{c:Call}{a x:Operand}{ty ty1 w e1:TypeId}{t1:TI}{k i wd b:Nat}{O:List (List Nat)}{N:List (Bool×List Nat)}{R:List (List Nat)}{A:BL}{l ys lm:List α}{y0:α}{dx:D}(p q:Nat)(hw:dE ops o nt f=some true)(hd:o.dst=some d)(hn:Nat.blt d nt=true)(ho:o.op= .call c)(is:List Nat)(hn2:is.Nodup)(hA:is.filterMap (fun i=>L[i]?)=A)(hm:∀x∈A.flatten,x.1 ∉(R.getD i []).flatMap (bm b O N))(hu:bm b O N i=moK l k++ [b+i])(hi:Nat.blt i wd=true)(hk:∀x∈L.flatten,x.1≠b+i)
  (ha:ov nt f a=some (.one (moC l k))) (hx:ov nt f x=some dx) (hxs:Ag A dx ((y0::ys).map (be r))) (hp:A[p]? =some (moL r w l k)) (hq:L[q]? =some (moL r w l k)) (hlm:app l (y0::ys)=some lm) (hr:∀y,(be r y).length=w) (hz:dP E.ti ty=some w) (ht1:E.ti ty1=some t1) (he1:bB t1=some e1)
  (hc:c.callee= .builtin .append) (hargs:c.args.toList= [a,x]) (hty:c.argTypes[0]? =some ty) (hty1:c.argTypes[1]? =some ty1) (h:TnL E n nt ops rr (i+1) wd O N R b K (up f d (.one (moC lm (b+i)))) (moL r w lm (b+i)::L.eraseIdx q)) (hz0:Nat.beq w 0=false:=by rfl):TnL E n nt ops (o::rr) i wd O N R b K f L:=by
 cases l with
 |nil=>
  have hlm2:=PG hlm;rw [List.nil_append]at hlm2;subst hlm2;have hb:=LE hlm;refine eL hw hd hn is hn2 hA hm hu hi hk (by rw [ho];exact LF (ro:=be r) ha hx hxs hb hr hz ht1 he1 hc hargs hty hty1) ?_;exact Kl (p:=q+1) hq h
 |cons y l=>
  obtain⟨_,rfl⟩:=cg hlm;exact Vf hw hd hn is hn2 hA hm hu hi hk (by rw [ho];exact Pz (r:=be r) p ha hx hxs rfl hp hlm hr hz ht1 he1 hc hargs hty hty1 hz0) hq rfl h
theorem hkM{α:Type}{r:α→List T}{w k z:Nat}{l:List α}{A:BL}(h1:l= []∨k≠z)(h2:∀x∈A.flatten,x.1≠z):∀x∈(moL r w l k::A:BL).flatten,x.1≠z:=fun x hx=>by
 rw [List.flatten_cons,List.mem_append]at hx;rcases hx with hx|hx
 ·cases l with
  |nil=>simp [moL]at hx
  |cons a l=>simp only [moL,List.mem_singleton]at hx;subst hx;exact h1.resolve_left (by simp)
 ·exact h2 x hx
theorem kY{α:Type}{r:α→List T}{w k b:Nat}{l:List α}(h:∀x∈L.flatten,x.1<b)(p:Nat)(hp:L[p]? =some (moL r w l k)):l= []∨k<b:=by
 cases l with
 |nil=>exact .inl rfl
 |cons a l=>exact .inr (aw h p hp)
theorem gV{α:Type}{r:α→List T}{w k k2:Nat}{l:List α}{x2:Nat×List (List C)}(hn:(L.flatten.map (·.1)).Nodup)(p q:Nat)(hp:L[p]? =some (moL r w l k))(hq:L[q]? =some [(k2,x2)])(hpq:Nat.beq p q=false):k2 ∉ moK l k:=by
 cases l with
 |nil=>simp [moK]
 |cons a l=>have:=Kg hn p q hp hq hpq;simp [moK];omega
theorem rj{α:Type}{l:List α}{k b:Nat}(h:l= []∨k<b):∀x∈moK l k,x<b:=fun x hx=>by
 cases l with
 |nil=>simp [moK]at hx
 |cons a l=>simp only [moK,List.mem_singleton]at hx;subst hx;exact h.resolve_left (by simp)
theorem Ak{α:Type}{r:α→List T}{w k:Nat}{l:List α}(p:Nat)(hp:L[p]? =some (moL r w l k))(hr:∀x h m,(be r x).mapM (eQ h (m+1))=some ((r x).map fun t=>(true,t))):∀h,HB h L→∀m,eQ h (m+2) (moC l k)=some (true,Sl.t r (mo w l)):=by
 cases l with
 |nil=>exact fun h hb m=>rfl
 |cons a l=>exact fN (r:=r) p hp hr
theorem Vq{α:Type}{r:α→List T}{rv:List ResultVar}{k w:Nat}{l:List α}{e:Ex}(p:Nat)(he:e= .normal∨e= .ret)(hr:BU E nt f L rv [.one (moC l k)])(hp:L[p]? =some (moL r w l k))(hr2:∀x h m,(be r x).mapM (eQ h (m+1))=some ((r x).map fun t=>(true,t)))(hpl:∀x,(be r x).all sH=true):dz nt (gv E rv (PH w r l)) e f L:=by
 cases l with
 |nil=>exact aN he hr (af (am aM) ak) (fun h hb=>PB) rfl rfl
 |cons a l=>exact Kj (r:=r) p he hr hp hr2 hpl
end
theorem dt{α β:Type}(P:Program)(s:Sem α)(k:α→Sem β):az P (s>>=k)=(az P s).bind fun a=>az P (k a):=by
 induction s with
 |pure a=>rfl
 |program q ih=>exact ih P
 |_=>rfl
section
variable {P : Program}
theorem vh{t:TypeId}{d:TypeDesc}(h:P.underlying t=some d):az P (underlying t)=some d:=by
 have:az P (underlying t)=match P.underlying t with|some d=>some d|none=>none:=by
  show az P (underlying t)=_
  cases hx:P.underlying t with
  |none=>rw [hx]at h;simp at h
  |some d'=>
   unfold underlying;simp [dt,program,az,hx];rfl
 rw [this,h]
theorem mY(d:Nat)(t:TypeId)(xs ys:Array Value){fs:Array Field}(ht:P.underlying t=some (.struct fs))(hp:P.stoodInHeld t=false):
  az P (Op.equalIn (d+1) t (.agg xs) (.agg ys))=az P (Op.eqFields d xs ys fs.toList):=by
 have e1:az P program=some P:=rfl;simp only [Op.equalIn,dt,vh ht,zbS,e1,hp,Bool.false_eq_true,if_false];rw [←Array.forIn_toList];generalize fs.toList=fs;clear ht
 induction fs with
 |nil=>rfl
 |cons f fs ih=>
  simp only [List.forIn_cons,Op.eqFields,dt];by_cases hf:f.name≠ "_"
  ·simp only [if_pos hf,dt]
   cases az P (part f.type xs f.offset)with
   |none=>rfl
   |some a=>
    cases az P (part f.type ys f.offset)with
    |none=>rfl
    |some b=>
     simp only [zbS]
     cases az P (Op.equalIn d f.type a b)with
     |none=>rfl
     |some q=>
      cases q
      ·rfl
      ·exact ih
  ·simp only [if_neg hf,dt];exact ih
theorem gM{d:Nat}{xs ys:Array Value}{f:Field}{fs:List Field}{k k':IntKind}{a b:Int}(hf:(f.name== "_")=false)(h1:az P (part f.type xs f.offset)=some (.int k a))(h2:az P (part f.type ys f.offset)=some (.int k b))(h3:P.underlying f.type=some (.int k')):
  az P (Op.eqFields (d+1) xs ys (f::fs))=if(a==b)=true then az P (Op.eqFields (d+1) xs ys fs)else some false:=by
 have hf':f.name≠ "_" :=by simpa using hf
 have h4:az P (Op.equalIn (d+1) f.type (.int k a) (.int k b))=some (a==b):=by
  simp only [Op.equalIn,dt,vh h3,zbS,if_true];rfl
 simp only [Op.eqFields,if_pos hf',dt,h1,h2,h4,zbS];cases a==b<;>rfl
theorem ly{d:Nat}{xs ys:Array Value}:az P (Op.eqFields d xs ys [])=some true:=rfl
theorem Id{t:TypeId}{x y:Operand}{xs ys:Array Value}{b:Bool}(hg:P.eqGuardType P.depth t=false)(h:az P (Op.equalIn 10000 t (.agg xs) (.agg ys))=some b):az P (do eqGuard .eql t x y (.agg xs) (.agg ys);binOp .eql t (.agg xs) (.agg ys))=some (.bool b):=by
 have e1:az P program=some P:=rfl
 have h1:az P (eqGuard .eql t x y (.agg xs) (.agg ys))=some ():=by
  simp only [eqGuard,Bool.not_true,Bool.false_eq_true,if_false,dt,e1,zbS,hg,Bool.not_false,if_true];rfl
 rw [dt,h1];show az P (binOp .eql t (.agg xs) (.agg ys))=_;have h2:binOp .eql t (.agg xs) (.agg ys)=(do pure (.bool (←Op.equal t (.agg xs) (.agg ys)))):=rfl;rw [h2,dt];unfold Op.equal Op.maxDepth;rw [h];rfl
theorem Al{t:TypeId}{x y:Operand}{xs ys:Array Value}{b:Bool}(hg:P.eqGuardType P.depth t=false)(h:az P (Op.equalIn 10000 t (.agg xs) (.agg ys))=some b):az P (do eqGuard .neq t x y (.agg xs) (.agg ys);binOp .neq t (.agg xs) (.agg ys))=some (.bool (!b)):=by
 have e1:az P program=some P:=rfl
 have h1:az P (eqGuard .neq t x y (.agg xs) (.agg ys))=some ():=by
  simp only [eqGuard,Bool.not_true,Bool.false_eq_true,if_false,dt,e1,zbS,hg,Bool.not_false,if_true];rfl
 rw [dt,h1];show az P (binOp .neq t (.agg xs) (.agg ys))=_;have h2:binOp .neq t (.agg xs) (.agg ys)=(do pure (.bool (!(←Op.equal t (.agg xs) (.agg ys))))):=rfl;rw [h2,dt];unfold Op.equal Op.maxDepth;rw [h];rfl
theorem oc{a b:Bool}{q:Option Bool}(h:q=some b):(if a=true then q else some false)=some (a && b):=by cases a<;>simp [h]
end
end Ev
end
noncomputable section
namespace Ev
open Go Go.RowKit
def inK(k:IntKind)(x:Int):Prop:=(Lit.int k x).wf=true
def SlW{α:Type}(w:Nat)(Q:α→Prop)(s:Sl α):Prop:=s.sz=w∧(s.nn=false→s.l= [])∧s.l.length≤maxLen∧∀x∈s.l,Q x
section
variable {P : Program} {t : TypeId} {ts : List T}
theorem vi{k:IntKind}(hu:P.underlying t=some (.int k))(h:Typ P t ts):∃x:Int,ts= [iT k x]∧inK k x:=by
 cases h with
 |int _ k' n h hw=>rw [hu]at h;cases h;exact⟨n,rfl,hw⟩
 |bool _ b h=>rw [hu]at h;simp at h
 |str _ s h=>rw [hu]at h;simp at h
 |slice _ e nn l h=>rw [hu]at h;simp at h
 |struct _ fs tss h=>rw [hu]at h;simp at h
 |array _ n e tss h=>rw [hu]at h;simp at h
theorem PI(hu:P.underlying t=some .bool)(h:Typ P t ts):∃x:Bool,ts= [bT x]∧True:=by
 cases h with
 |bool _ b h=>exact⟨b,rfl,trivial⟩
 |int _ k' n h hw=>rw [hu]at h;simp at h
 |str _ s h=>rw [hu]at h;simp at h
 |slice _ e nn l h=>rw [hu]at h;simp at h
 |struct _ fs tss h=>rw [hu]at h;simp at h
 |array _ n e tss h=>rw [hu]at h;simp at h
theorem CU{α β:Type}{r:α→β}{Q:α→Prop}:∀{l:List β},(∀es∈l,∃x,es=r x∧Q x)→∃xs:List α,l=xs.map r∧∀x∈xs,Q x
 | [],_=>⟨[],rfl,fun x hx=>by simp at hx⟩
 |e::l,h=>by
  obtain⟨x,rfl,hx⟩:=h e List.mem_cons_self;obtain⟨xs,rfl,hxs⟩:=CU fun e he=>h e (List.mem_cons_of_mem _ he);exact⟨x::xs,rfl,fun y hy=>by rcases List.mem_cons.1 hy with rfl|hy;exact hx;exact hxs y hy⟩
theorem wi{α:Type}{r:α→List T}{Q:α→Prop}{e:TypeId}{w:Nat}(hu:P.underlying t=some (.slice e))(hw:P.cellsOf e=w)(he:∀ts,Typ P e ts→∃x,ts=r x∧Q x)(h:Typ P t ts):∃s:Sl α,ts= [Sl.t r s]∧SlW w Q s:=by
 cases h with
 |slice _ e' nn l h hn hl h1 h2=>
  rw [hu]at h;cases h;obtain⟨xs,rfl,hq⟩:=CU (r:=r) (Q:=Q) fun es hes=>he es (h2 es hes);exact⟨⟨nn,w,xs⟩,by rw [hw];rfl,rfl,fun hh=>by simpa using hn hh,by simpa using hl,hq⟩
 |int _ k' n h hw=>rw [hu]at h;simp at h
 |bool _ b h=>rw [hu]at h;simp at h
 |str _ s h=>rw [hu]at h;simp at h
 |struct _ fs tss h=>rw [hu]at h;simp at h
 |array _ n e tss h=>rw [hu]at h;simp at h
theorem tF{fs:Array Field}(hu:P.underlying t=some (.struct fs))(h:Typ P t ts):∃tss:List (List T),ts=tss.flatten∧tss.length=fs.toList.length∧∀(i:Nat) f ts',fs.toList[i]? =some f→tss[i]? =some ts'→Typ P f.type ts':=by
 cases h with
 |struct _ fs' tss h hl hf=>rw [hu]at h;cases h;exact⟨tss,rfl,by simpa using hl,fun i f ts' h1 h2=>hf i f ts' (by simpa using h1) h2⟩
 |int _ k' n h hw=>rw [hu]at h;simp at h
 |bool _ b h=>rw [hu]at h;simp at h
 |str _ s h=>rw [hu]at h;simp at h
 |slice _ e nn l h=>rw [hu]at h;simp at h
 |array _ n e tss h=>rw [hu]at h;simp at h
theorem Nc{n:Nat}{e:TypeId}(hu:P.underlying t=some (.array n e))(h:Typ P t ts):∃tss:List (List T),ts=tss.flatten∧tss.length=n∧∀ts'∈tss,Typ P e ts':=by
 cases h with
 |array _ n' e' tss h hl hf=>rw [hu]at h;cases h;exact⟨tss,rfl,hl,hf⟩
 |int _ k' n h hw=>rw [hu]at h;simp at h
 |bool _ b h=>rw [hu]at h;simp at h
 |str _ s h=>rw [hu]at h;simp at h
 |slice _ e nn l h=>rw [hu]at h;simp at h
 |struct _ fs tss h=>rw [hu]at h;simp at h
theorem PJ{ts:List TypeId}{tds:List TD}{d:TypeDesc}(hu:P.underlying t=some d)(ha:bI d=true)(h:uV P (t::ts) tds):∃x r,tds= .agg x::r∧Typ P t x∧uV P ts r:=by
 cases h with
 |cons t ts td ds h hr=>
  cases h with
  |agg x h _=>exact⟨x,ds,rfl,h,hr⟩
  |one xs h h2=>obtain⟨d',h3,h4⟩:=h2;rw [hu]at h3;cases h3;rw [ha]at h4;simp at h4
theorem PK{tds:List TD}(h:uV P [] tds):tds= []:=by cases h;rfl
end
theorem Vr{E:Env}{n:Nat}{k:FuncId}{tds:List TD}(h:RunsP E n k tds (.fresh,[.one (bT true)])):∃m n kind,(gl E m n).1 k tds=some (kind,[.one (.v (.bool true))]):=by
 obtain⟨M,hM⟩:=h;exact⟨M,n,.fresh,hM M (Nat.le_refl _)⟩
theorem bK{A R:Type}{b:A→Option (A ⊕ R)}(n:Nat)(I:Nat→A→Prop)(Q:R→Prop)(hs:∀j a,j<n→I j a→(∃a',b a=some (.inl a')∧I (j+1) a')∨∃r,b a=some (.inr r)∧Q r)(he:∀a,I n a→∃r,b a=some (.inr r)∧Q r)(j:Nat)(hj:j≤n)(a:A)(ha:I j a):∃r,aL b a=some r∧Q r:=by
 obtain⟨k,hk⟩:∃k,n=j+k:=⟨n - j,by omega⟩
 induction k generalizing j a with
 |zero=>
  have:j=n:=by omega
  subst this;obtain⟨r,h1,h2⟩:=he a ha;exact⟨r,iq h1,h2⟩
 |succ k ih=>
  rcases hs j a (by omega) ha with⟨a',h1,h2⟩|⟨r,h1,h2⟩
  ·obtain⟨r,h3,h4⟩:=ih (j+1) (by omega) a' h2 (by omega);exact⟨r,(tC h1).trans h3,h4⟩
  ·exact⟨r,iq h1,h2⟩
theorem bu{α:Type}{w:Nat}{s:Sl α}(hs:s.l= []∨s.sz=w){j:Nat}(hj:j<s.l.length):atS w s (j:Int)=some s.l[j]:=by
 have hw:s.sz=w:=hs.resolve_left (by intro h;rw [h]at hj;simp at hj);unfold atS;rw [if_pos ⟨by omega,hw⟩];simp
theorem LG{α:Type}{l:List α}{j:Nat}(hj:j<l.length):atL l (j:Int)=some l[j]:=by
 unfold atL;rw [if_pos (by omega)];simp
theorem gA{α:Type}{l m:List α}(h:l.length+m.length≤cd):app l m=some (l++m):=by unfold app;rw [if_pos h]
theorem bL{j n:Nat}(h:j<n)(hn:n≤9223372036854775807):IntKind.i64.wrap ((j:Int)+1)=((j+1:Nat):Int):=by rw [bW (by omega) (by omega)];rfl
def neL{α:Type}(l:List α):Option Unit:=
 match l with
 | []=>none
 |_::_=>some ()
theorem PL{α:Type}{l:List α}(h:l≠[]):neL l=some ():=by
 cases l with
 |nil=>exact absurd rfl h
 |cons a l=>rfl
end Ev
end
noncomputable section
namespace Ev
open Go Go.RowKit
section
variable {E : Env} {y : Nat → fH} {n nt : Nat} {f : Nat → D} {L : BL}
def Fw(nt:Nat)(f:Nat→D)(l:List Operand):Option (List C):=l.mapM fun x=>do match←ov nt f x with| .one c=>some c|_=>none
theorem ml{fn:Fn}{first cap:Array Operand}{fs cs:List C}(h1:Fw nt f first.toList=some fs)(h2:Fw nt f cap.toList=some cs):PS E n nt f L (.makeFunc fn first cap) (.one (.clo fn fs cs)):=fun h nid hb=>by
 show((first.toList.mapM fun x=>(bd (bg (tab nt f)) x).bind fun d=>match d with| .one c=>some c|_=>none).bind fun a=>(cap.toList.mapM fun x=>(bd (bg (tab nt f)) x).bind fun d=>match d with| .one c=>some c|_=>none).bind fun b=>some (⟨.one (.clo fn a b),[]⟩:Eff))=_;rw [ew];have h1':(first.toList.mapM fun x=>(ov nt f x).bind fun d=>match d with| .one c=>some c|_=>none)=some fs:=h1;have h2':(cap.toList.mapM fun x=>(ov nt f x).bind fun d=>match d with| .one c=>some c|_=>none)=some cs:=h2;rw [h1',h2'];rfl
def PM(k:IntKind)(a:Int):Int:=Vn k (if k.signed then -1 else k.max) a
theorem Sb{ty:TypeId}{x:Operand}{fr:Bool}{k:IntKind}{a:Int}(hx:ov nt f x=some (.one (.p fr (.v (.int k a))))):PS E n nt f L (.unOp .xor ty x) (iD k (PM k a)):=fun h nid hb=>by
 show((bd (bg (tab nt f)) x).bind fun d=>(plain d).bind fun v=>(az E.P (Op.unary .xor v)).bind mkO)=_;rw [bZ,hx];cases k<;>rfl
def Sd:C→Bool
 | .p _ _=>false
 | .own _ _ _=>false
 |_=>true
def unv:D→Bool
 | .one c=>Sd c
 | .agg cs=>cs.any Sd
 | .tup _=>true
theorem Ie{h:aE}{c:C}(hc:Sd c=true)(m:Nat):eQ h (m+1) c=none:=by
 cases c<;>simp [Sd]at hc<;>rfl
theorem wj{α β:Type}{g:α→Option β}:∀{l:List α},(∃x∈l,g x=none)→l.mapM g=none
 | [],h=>by obtain⟨x,hx,_⟩:=h;simp at hx
 |a::l,h=>by
  rw [List.mapM_cons]
  cases ha:g a with
  |none=>rfl
  |some b=>
   obtain⟨x,hx,hg⟩:=h;rcases List.mem_cons.1 hx with rfl|hx
   ·rw [ha]at hg;simp at hg
   ·rw [wj ⟨x,hx,hg⟩];rfl
theorem Nd{h:aE}{d:D}(hd:unv d=true):cP h d=none:=by
 cases d with
 |one c=>
  show(eQ h 6 c).bind _=none;rw [Ie hd];rfl
 |agg cs=>
  obtain⟨c,hc,hu⟩:=List.any_eq_true.1 hd;show(cs.mapM (eQ h 6)).bind _=none;rw [wj ⟨c,hc,Ie hu 5⟩];rfl
 |tup ds=>rfl
theorem Nf{h:aE}{ds:List D}(hd:ds.any unv=true):ds.mapM (cP h)=none:=by
 obtain⟨d,h1,h2⟩:=List.any_eq_true.1 hd;exact wj ⟨d,h1,Nd h2⟩
def fA(args:List D):Nat→D:=fun i=>args.getD i cJ
theorem Fx{args:List D}{k:Nat}(hl:args.length≤k):args++List.replicate (k - args.length) cJ=tab k (fA args):=by
 rw [Pg (args++List.replicate (k - args.length) cJ)];have hlen:(args++List.replicate (k - args.length) cJ).length=k:=by simp;omega
 rw [hlen];refine List.ext_getElem? fun i=> ?_;rw [kX,kX];split
 ·rename_i hi;congr 1;unfold fA;rw [List.getD_eq_getElem?_getD,List.getD_eq_getElem?_getD,List.getElem?_append];split
  ·rfl
  ·rename_i hge;rw [List.getElem?_replicate,if_pos (by omega),List.getElem?_eq_none (by omega)];rfl
 ·rfl
def If(E:Env)(y:Nat→fH)(n nt:Nat)(ops:Array Oper)(r:List Oper)(K:St→Prop)(f:Nat→D)(d:Nat)(rv:List ResultVar):Ex→St→Prop:=fun e s=>(e= .normal∨e= .ret)∧∃ds,rv.mapM (dh E s)=some ds∧kI E y n ops r K {t:=tab nt (up f d (iY ds)),h:=s.h}
variable {ops : Array Oper} {o : Oper} {r : List Oper} {K : St → Prop} {d : Nat} {Q : Ex → St → Prop}
theorem jN{b:Bool}(h:dE ops o nt f=some b):iA ops (bg (tab nt f)) o=some b:=by
 obtain⟨g,g1,g2⟩:=eo h;unfold gOf at g1;unfold iA
 cases ho:o.guard with
 |none=>rw [ho]at g1;simp only [zsI]at g1;subst g1;exact g2
 |some p=>
  obtain⟨j,w⟩:=p;rw [ho]at g1;simp only [Option.map_eq_some_iff]at g1;obtain⟨d,h1,h2⟩:=g1;subst h2;rw [zbE]at h1;obtain⟨o',h3,h4⟩:=h1;have h3':ops[j]? =some o':=by simpa using h3
  simp only [h3',h4,zbB,zbS];exact g2
theorem rM{cp:dp}{c:Call}{nid:Nat}{H:aE}(hw:dE ops o nt f=some true)(hc:bw o.op=some c):step E cp ops nid o (bg (tab nt f)) H=jz cp nid c (bg (tab nt f)) H:=by
 unfold step;rw [jN hw];simp only [zbB,zbS,if_true,hc]
theorem vj{c:Call}{k:FuncId}{args:List D}{fi:FI}(hw:dE ops o nt f=some true)(hc:bw o.op=some c)(hr:bJ c (ov nt f)=some (k,args))(hu:args.any unv=true)(hf:E.fn k=some fi)(hl:Nat.ble args.length fi.nt=true)(hd:o.dst=some d)(hn:Nat.blt d nt=true)
  (h:WpL E nY n fi.nt fi.body (If E y (n+1) nt ops r K f d fi.results) (fA args) L):el E y (n+1) nt ops (o::r) K f L:=fun H hb=>by
 obtain⟨e,s',⟨M,h1⟩,h2,ds,h3,h4⟩:=h H hb;refine ph (s1:={t:=tab nt (up f d (iY ds)),h:=s'.h}) ⟨M,fun m hm=> ?_⟩ h4;unfold DD
 have hs:step E (bk E y m (n+1)).1 ops H.length o (bg (tab nt f)) H=none:=by
  rw [rM hw hc];unfold jz;rw [ew,hr];simp only [zbB,zbS,Nf hu];rfl
 simp only;rw [hs];have hev:=h1 m hm
 have hsc:se (bk E y m (n+1)).2 ops o {t:=tab nt f,h:=H}=some {t:=tab nt (up f d (iY ds)),h:=s'.h}:=by
  unfold se;rw [jN hw];simp only [zbB,zbS,if_true,hc]
  have hr':bJ c (opnd (tab nt f))=some (k,args):=by
   show bJ c (bd (bg (tab nt f)))=_;rw [ew];exact hr
  rw [hr']
  have hcall:(bk E y m (n+1)).2.f k args H=some (iY ds,s'.h):=by
   show((E.fn k).bind fun f=>(qx E (aX E m n).1 ⟨(aX E m n).2.1,(aX E m n).2.2,noY⟩ m f args H).bind fun x=>some (iY x.1,x.2))=_;rw [hf];simp only [zbS]
   have:qx E (aX E m n).1 ⟨(aX E m n).2.1,(aX E m n).2.2,noY⟩ m fi args H=some (ds,s'.h):=by
    unfold qx;rw [Fx (Nat.le_of_ble_eq_true hl)];simp only [bk]at hev;rw [hev];rcases h2 with rfl|rfl<;>simp [h3]
   rw [this];rfl
  simp only [zbS,hcall,hd,oe,me,eZ hn,if_true,pU,jL]
 rw [hsc];rfl
theorem kK{c:Call}{k:FuncId}{args:List D}{fi:FI}(hw:dE ops o nt f=some true)(hc:bw o.op=some c)(hr:bJ c (ov nt f)=some (k,args))(hu:E.ax k=some fun _=>none)(hf:E.fn k=some fi)(hl:Nat.ble args.length fi.nt=true)(hd:o.dst=some d)(hn:Nat.blt d nt=true)
  (h:WpL E nY n fi.nt fi.body (If E y (n+1) nt ops r K f d fi.results) (fA args) L):el E y (n+1) nt ops (o::r) K f L:=fun H hb=>by
 obtain⟨e,s',⟨M,h1⟩,h2,ds,h3,h4⟩:=h H hb;refine ph (s1:={t:=tab nt (up f d (iY ds)),h:=s'.h}) ⟨M,fun m hm=> ?_⟩ h4;unfold DD
 have hs:step E (bk E y m (n+1)).1 ops H.length o (bg (tab nt f)) H=none:=by
  rw [rM hw hc];unfold jz;rw [ew,hr];simp only [zbB,zbS]
  cases args.mapM (cP H)with
  |none=>rfl
  |some vs=>
   have hn:(bk E y m (n+1)).1 k (vs.map (·.2))=none:=by
    show(match E.ax k with
     |some F=>F _
     |none=>_)=none
    rw [hu]
   simp only [zbS,hn];rfl
 simp only;rw [hs];have hev:=h1 m hm
 have hsc:se (bk E y m (n+1)).2 ops o {t:=tab nt f,h:=H}=some {t:=tab nt (up f d (iY ds)),h:=s'.h}:=by
  unfold se;rw [jN hw];simp only [zbB,zbS,if_true,hc]
  have hr':bJ c (opnd (tab nt f))=some (k,args):=by
   show bJ c (bd (bg (tab nt f)))=_;rw [ew];exact hr
  rw [hr']
  have hcall:(bk E y m (n+1)).2.f k args H=some (iY ds,s'.h):=by
   show((E.fn k).bind fun f=>(qx E (aX E m n).1 ⟨(aX E m n).2.1,(aX E m n).2.2,noY⟩ m f args H).bind fun x=>some (iY x.1,x.2))=_;rw [hf];simp only [zbS]
   have:qx E (aX E m n).1 ⟨(aX E m n).2.1,(aX E m n).2.2,noY⟩ m fi args H=some (ds,s'.h):=by
    unfold qx;rw [Fx (Nat.le_of_ble_eq_true hl)];simp only [bk]at hev;rw [hev];rcases h2 with rfl|rfl<;>simp [h3]
   rw [this];rfl
  simp only [zbS,hcall,hd,oe,me,eZ hn,if_true,pU,jL]
 rw [hsc];rfl
theorem kL{nt':Nat}{f':Nat→D}{L':BL}{rv:List ResultVar}{ds:List D}{e:Ex}{v:D}(he:e= .normal∨e= .ret)(hr:BU E nt' f' L' rv ds)(hv:iY ds=v)(h:el E y n nt ops r K (up f d v) L'):dz nt' (If E y n nt ops r K f d rv) e f' L':=fun H hb=>by
 subst hv;exact⟨he,ds,hr H hb,h H hb⟩
def lQ(E:Env)(y:Nat→fH)(n k:Nat)(t:List D)(ps:List Tmp)(asg body:Code):Nat→fH:=fun m j args h=>
 if j=k∧args.length=ps.length then do
  let(e,s1)←evC E (bk E y m n).1 (bk E y m n).2 m asg {t:=mB t ps args,h:=h}
  match e with
  | .normal=>do
   let(e,s2)←evC E (bk E y m n).1 (bk E y m n).2 m body s1
   some (e,s2.h)
  |_=>none
 else none
def PO(nt:Nat)(f:Nat→D)(k:Nat)(Q:Ex→St→Prop):Ex→St→Prop:=fun e s=>(e= .normal∨e= .ret)∧∃es,aP s.h k=some (0,es)∧Q (DE es) {t:=tab nt f,h:=s.h}
theorem rN{g:Operand}{ps:Array Tmp}{asg body:Code}{k:FuncId}{fs cs:List C}{fi:FI}(hg:ov nt f g=some (.one (.clo (.func k) fs cs)))(hf:E.fn k=some fi)(hl:Nat.ble (fs.length+1+cs.length) fi.nt=true)(hres:fi.results= [])
  (h:∀kl,WpL E (lQ E y (n+1) kl (tab nt f) ps.toList asg body) n fi.nt fi.body (PO nt f kl Q) (fA (fs.map D.one++ [D.one (.yld kl)]++cs.map D.one)) ([(kl,0,[])]::L)):WpL E y (n+1) nt (.rangeFunc g ps asg body) Q f L:=fun H hb=>by
 obtain⟨e,s',⟨M,h1⟩,h2,es,h3,h4⟩:=h H.length _ (hb.new 0 []);refine⟨DE es,{t:=tab nt f,h:=s'.h},⟨M,fun m hm=> ?_⟩,h4⟩;have hev:=h1 m hm;have hg':opnd (tab nt f) g=some (.one (.clo (.func k) fs cs)):=(bZ nt f g).trans hg;simp only [evC,zbB,hg',zbS]
 have hcall:(bk E y m (n+1)).2.r (lQ E y (n+1) H.length (tab nt f) ps.toList asg body m) k (fs.map D.one++ [D.one (.yld H.length)]++cs.map D.one) (aQ H H.length (.own 0 []))=some s'.h:=by
  show((E.fn k).bind fun f=>(qx E (aX E m n).1 ⟨(aX E m n).2.1,(aX E m n).2.2,lQ E y (n+1) H.length (tab nt _) ps.toList asg body m⟩ m f _ _).bind fun x=>some x.2)=_;rw [hf];simp only [zbS]
  have:qx E (aX E m n).1 ⟨(aX E m n).2.1,(aX E m n).2.2,lQ E y (n+1) H.length (tab nt f) ps.toList asg body m⟩ m fi (fs.map D.one++ [D.one (.yld H.length)]++cs.map D.one) (aQ H H.length (.own 0 []))=some ([],s'.h):=by
   unfold qx;rw [Fx (by have:=Nat.le_of_ble_eq_true hl;simp;omega)];simp only [bk]at hev;rw [hev,hres];rcases h2 with rfl|rfl<;>rfl
  rw [this];rfl
 refine(congrArg (fun z:Option aE=>z.bind fun h=>(aP h H.length).bind fun x=>if x.1=0 then some (DE x.2,({t:=tab nt f,h:=h}:St))else none) hcall).trans ?_;simp only [zbS,h3,if_true]
theorem pY{nt' k p:Nat}{f':Nat→D}{L':BL}{es:List (List C)}{e:Ex}(he:e= .normal∨e= .ret)(hp:L'[p]? =some [(k,0,es)])(h:dz nt Q (DE es) f L'):dz nt' (PO nt f k Q) e f' L':=fun H hb=>⟨he,es,hb.get hp,h H hb⟩
def Uc(K:St→Prop):Ex→St→Prop:=fun e s=>e= .normal∧K s
def Km(E:Env)(y:Nat→fH)(n nt:Nat)(ops:Array Oper)(r:List Oper)(K:St→Prop)(f:Nat→D)(d k:Nat):Ex→St→Prop:=fun e s=>kI E y n ops r K {t:=tab nt (up f d (bD (e== .normal))),h:=aQ s.h k (nO e)}
def Kn(f:Nat→D):List Tmp→List D→Nat→D
 |p::ps,d::ds=>Kn (up f p d) ps ds
 |_,_=>f
theorem PP(f:Nat→D)(p:Nat)(d:D):(tab nt f).set p d=tab nt (up f p d):=by
 rw [←jL];refine List.ext_getElem? fun i=> ?_;rw [List.getElem?_set,kX,kX,me];unfold upd;by_cases h1:p=i
 ·subst h1;by_cases h2:p<nt
  ·simp [h2]
  ·simp [h2]
 ·rw [if_neg h1];split
  ·rw [if_neg (fun e:i=p=>h1 e.symm)]
  ·rfl
theorem CV:∀(ps:List Tmp) (ds:List D) (f:Nat→D),mB (tab nt f) ps ds=tab nt (Kn f ps ds)
 | [],[],f=>by simp [mB,Kn]
 | [],d::ds,f=>by simp [mB,Kn]
 |p::ps,[],f=>by simp [mB,Kn]
 |p::ps,d::ds,f=>by
  simp only [mB,Kn];rw [PP,CV]
def Vs(nt:Nat)(f:Nat→D)(l:List Operand):Option (List D):=l.mapM (ov nt f)
theorem mZ{y0:Nat→fH}{n0 nt0 k p:Nat}{f0:Nat→D}{ps:List Tmp}{asg body:Code}{c:Call}{x:Operand}{args:List D}(hw:dE ops o nt f=some true)(hc:bw o.op=some c)(hcal:c.callee= .value x)(hx:ov nt f x=some (.one (.yld k)))(ha:Vs nt f c.args.toList=some args)(hla:Nat.beq args.length ps.length=true)(hp:L[p]? =some [(k,0,[])])(hd:o.dst=some d)(hn:Nat.blt d nt=true)
  (h:WpL E y0 n0 nt0 asg (Uc (WpC E y0 n0 body (Km E (lQ E y0 n0 k (tab nt0 f0) ps asg body) n nt ops r K f d k))) (Kn f0 ps args) L):el E (lQ E y0 n0 k (tab nt0 f0) ps asg body) n nt ops (o::r) K f L:=fun H hb=>by
 obtain⟨e1,s1,⟨M1,h1⟩,rfl,e2,s2,⟨M2,h2⟩,h3⟩:=h H hb;refine ph (s1:={t:=tab nt (up f d (bD (e2== .normal))),h:=aQ s2.h k (nO e2)}) ⟨max M1 M2,fun m hm=> ?_⟩ h3
 have hres:bJ c (bd (bg (tab nt f)))=none:=by
  rw [ew];unfold bJ;rw [hcal];have ha':c.args.toList.mapM (ov nt f)=some args:=ha;simp only [ha',hx,zbB,zbS]
 unfold DD
 have hs:step E (bk E (lQ E y0 n0 k (tab nt0 f0) ps asg body) m n).1 ops H.length o (bg (tab nt f)) H=none:=by
  rw [rM hw hc];unfold jz;rw [hres];rfl
 simp only;rw [hs]
 have hsc:se (bk E (lQ E y0 n0 k (tab nt0 f0) ps asg body) m n).2 ops o {t:=tab nt f,h:=H}=none:=by
  unfold se;rw [jN hw];simp only [zbB,zbS,if_true,hc];have hr':bJ c (opnd (tab nt f))=none:=hres;rw [hr'];rfl
 have hy:KU (bk E (lQ E y0 n0 k (tab nt0 f0) ps asg body) m n).2 ops o {t:=tab nt f,h:=H}=some {t:=tab nt (up f d (bD (e2== .normal))),h:=aQ s2.h k (nO e2)}:=by
  unfold KU;rw [jN hw];simp only [zbB,zbS,if_true,hc,hcal]
  have ha':c.args.toList.mapM (opnd (tab nt f))=some args:=by
   show c.args.toList.mapM (bd (bg (tab nt f)))=_;rw [ew];exact ha
  have hx':opnd (tab nt f) x=some (.one (.yld k)):=(bZ nt f x).trans hx;rw [ha',hx'];simp only [zbS,hb.get hp,and_self,if_true]
  have hround:(bk E (lQ E y0 n0 k (tab nt0 f0) ps asg body) m n).2.y k args H=some (e2,s2.h):=by
   show lQ E y0 n0 k (tab nt0 f0) ps asg body m k args H=_;unfold lQ;rw [if_pos ⟨rfl,Nat.eq_of_beq_eq_true hla⟩,CV,h1 m (by omega)];simp only [zbB,zbS];rw [h2 m (by omega)];rfl
  rw [hround];simp only [zbS,hd,oe,me,eZ hn,if_true,pU,jL];rfl
 rw [hsc,hy];rfl
theorem Am{c:Code}(h:WpL E y n nt c Q f L):dz nt (Uc (WpC E y n c Q)) .normal f L:=fun H hb=>⟨rfl,h H hb⟩
theorem Ko{h:aE}{k sz:Nat}{es:List (List C)}(hk:aP h k=some (sz,es)):h[k]? =some (.own sz es):=cM hk
theorem lz{nt' k p:Nat}{f':Nat→D}(hp:L[p]? =some [(k,0,[])])(h:el E y n nt ops r K (up f d (bD true)) L):dz nt' (Km E y n nt ops r K f d k) .normal f' L:=fun H hb=>by
 have:=zV (Ko (hb.get hp))
 show kI E y n ops r K {t:=_,h:=aQ H k (.own 0 [])};rw [this];exact h H hb
theorem PQ{nt' k p:Nat}{f':Nat→D}{e:Ex}{es:List (List C)}{L':BL}(he:(e== .normal)=false)(hes:List.replicate (wx e) []=es)(hp:L[p]? =some [(k,0,[])])(hL:L.set p [(k,0,es)]=L')(h:el E y n nt ops r K (up f d (bD false)) L'):dz nt' (Km E y n nt ops r K f d k) e f' L:=fun H hb=>by
 subst hes hL;show kI E y n ops r K {t:=tab nt (up f d (bD (e== .normal))),h:=aQ H k (.own 0 _)};rw [he];exact h _ (hb.set hp 0 _)
end
theorem aD{k b j:Nat}(h:k<b):k≠b+j:=by omega
theorem pZ{b i j:Nat}(h:Nat.beq i j=false):b+i≠b+j:=by have:=Nat.ne_of_beq_eq_false h;omega
theorem dZ{k:Nat}:k ∉([]:List Nat):=by simp
theorem cq{k m:Nat}{l:List Nat}(h1:k≠m)(h2:k ∉ l):k ∉ m::l:=fun h=>by
 rcases List.mem_cons.1 h with h|h
 ·exact h1 h
 ·exact h2 h
theorem aj{b:Nat}:∀k∈([]:List Nat),k<b:=fun k h=>by simp at h
theorem iu{b m:Nat}{l:List Nat}(h1:m<b)(h2:∀k∈l,k<b):∀k∈m::l,k<b:=fun k h=>by
 rcases List.mem_cons.1 h with h|h
 ·subst h;exact h1
 ·exact h2 k h
theorem ea{b:Nat}:∀l∈([]:List (List Nat)),∀k∈l,k<b:=fun k h=>by simp at h
theorem ai{b:Nat}{a:List Nat}{O:List (List Nat)}(h1:∀k∈a,k<b)(h2:∀l∈O,∀k∈l,k<b):∀l∈a::O,∀k∈l,k<b:=fun l h=>by
 rcases List.mem_cons.1 h with h|h
 ·subst h;exact h1
 ·exact h2 l h
theorem djE{O:List (List Nat)}{r:List Nat}:∀j∈r,∀x∈([]:List Nat),x ∉ O.getD j []:=fun c _ x h=>by simp at h
theorem djN{O:List (List Nat)}{a:List Nat}:∀j∈([]:List Nat),∀x∈a,x ∉ O.getD j []:=fun c h=>by simp at h
section
variable {X Up KT : Type} {nt : Nat}
def JE(nt:Nat)(ex:Ex)(S:X→KT→(Nat→D)→Nat→D)(SL:X→KT→BL)(J:Up→Ex→St→Prop):X ⊕ Up→Ex→St→Prop
 | .inl x,e,s=>e=ex∧∃k g,s.t=tab nt (S x k g)∧HB s.h (SL x k)
 | .inr u,e,s=>J u e s
def JU(G:Up→Ex→St→Prop):Up→Ex→St→Prop:=fun u e s=>e= .ret∧G u .ret s
variable {ex : Ex} {S : X → KT → (Nat → D) → Nat → D} {SL : X → KT → BL} {J : Up → Ex → St → Prop} {G : Up → Ex → St → Prop}
theorem Se(h:(ex== .normal)=false)(hJ:∀r s,¬J r .normal s):∀r s,¬JE nt ex S SL J r .normal s:=fun r s hh=>by
 cases r with
 |inl x=>rw [←hh.1]at h;simp at h
 |inr u=>exact hJ u s hh
theorem XB:∀r s,¬JU G r .normal s:=fun r s h=>absurd h.1 (by simp)
theorem Sf{x:X}{f:Nat→D}{L:BL}(k:KT)(hf:f=S x k f)(is:List Nat)(hn:is.Nodup)(hL:is.filterMap (fun i=>L[i]?)=SL x k):dz nt (JE nt ex S SL J (.inl x)) ex f L:=fun H hb=>⟨rfl,k,f,congrArg (tab nt) hf,hb.sub is hn hL⟩
theorem XC{u:Up}{e:Ex}{f:Nat→D}{L:BL}(h:dz nt (J u) e f L):dz nt (JE nt ex S SL J (.inr u)) e f L:=h
theorem J_e{x:X}{Q:Ex→St→Prop}(h:∀k g,dz nt Q ex (S x k g) (SL x k)):∀e s,JE nt ex S SL J (.inl x) e s→Q e s:=fun e s hs=>by
 obtain⟨rfl,k,g,h1,h2⟩:=hs;obtain⟨t,H⟩:=s;simp only at h1 h2;subst h1;exact h k g H h2
theorem J_s{u:Up}{Q:Ex→St→Prop}(h:∀e s,J u e s→Q e s):∀e s,JE nt ex S SL J (.inr u) e s→Q e s:=h
end
end Ev
end
noncomputable section
namespace Ev
open Go Go.ChangeShapes Go.WideShapes Go.ChangeAt Go.WideMaps Go.WideElems Go.RowKit Go.Joins
theorem aa9:ownKnob Tryd.prog.godebug=none:=by kernel_rfl
theorem PR:laidOutB Tryd.prog=true:=by kernel_rfl
theorem gTab:Tryd.prog.globalNamed "math/bits.deBruijn64tab" =some 0:=by kernel_rfl
theorem tTab:(Tryd.prog.globals[0]?).map (·.type)=some 146:=by kernel_rfl
theorem XD:Tryd.prog.cellsOf 5=1:=by kernel_rfl
theorem aaa:Tryd.prog.cellsOf 146=64:=by kernel_rfl
abbrev Ig{H:Type}:List (String×DataW H):= [("math/bits.deBruijn64tab",Rows.laid_math_bits_deBruijn64tab)]
theorem PT(os:Os)(args:Array Value):laidMetH Tryd.prog Ig ((World.doorLaid Tryd.prog 400 os).forCall (fun _ _=>0) ⟨#[],args,[]⟩).memory:=
 laidMetH_of_parts3 (fuel:=8) (laidMet_of_run' 8 (by kernel_rfl) (by kernel_rfl)) (by kernel_rfl) (by kernel_rfl)
def An{H:Type}:List (DataW H):=Lib.deBruijn64tab.map fun n=> .lit (.int .u8 (n:Nat))
theorem Sg{H:Type}:(Rows.laid_math_bits_deBruijn64tab:DataW H)= .agg An:=rfl
theorem xA{W:World}(h:laidMetH Tryd.prog Ig W):Uk W:=by
 rw [MakeChecks.laidMetH_plain _ _ _ (by kernel_rfl)]at h;obtain⟨ps,⟨g0,t0,cs0,f0,p0,q0,hg0,ht0,hv0,hd0,_,_⟩,_,_⟩:=h;obtain rfl:=Option.some.inj (gTab.symm.trans hg0);obtain rfl:=Option.some.inj (tTab.symm.trans ht0);obtain⟨xs,m,_,hx,hlen,hxl,hel⟩:=DataW.trod_array Tryd.underlying146 hd0;rw [aaa]at hlen;have hx1:=(Prod.mk.inj hx).1;rw [Sg]at hx1;have hx2:An=xs.map (·.1):=by injection hx1
 have cell:=fun k=>World.var?_cell hg0 hv0 k;have hsz:cs0.size=64:=by simpa using hlen
 have key:∀j,j<64→cs0[j]? =some (.int .u8 (Lib.deBruijn64tab.getD j 0:Nat)):=by
  intro j hj;have hj':xs[j]? =some (xs[j]'(by omega)):=List.getElem?_eq_getElem (by omega);have h1:=hel j hj;rw [XD,hj']at h1
  have hcs:(cs0.toList.drop (j*1)).take 1= [cs0[j]'(by omega)]:=by
   rw [Nat.mul_one,List.drop_eq_getElem_cons (by simp;omega)];simp
  rw [hcs]at h1;obtain⟨a,e1,e2,_⟩:=DataW.trod_int Tryd.underlying5 h1;have h3:(An (H:=Unit))[j]? =some ((xs[j]'(by omega)).1):=by rw [hx2,List.getElem?_map,hj'];rfl
  rw [e2]at h3
  have h4:(An (H:=Unit))[j]? =some (.lit (.int .u8 (Lib.deBruijn64tab.getD j 0:Nat))):=by
   have hl:Lib.deBruijn64tab.length=64:=rfl;unfold An;rw [List.getElem?_map,List.getElem?_eq_getElem (by rw [hl];exact hj),List.getD_eq_getElem?_getD,List.getElem?_eq_getElem (by rw [hl];exact hj)];rfl
  rw [h3]at h4
  have h5:a=(Lib.deBruijn64tab.getD j 0:Nat):=by
   injection h4 with h4
   injection h4 with h4
   injection h4
  rw [Array.getElem?_eq_getElem (by omega)];simp only [List.cons.injEq,and_true]at e1;rw [e1,h5]
 have hl:Lib.deBruijn64tab.length=64:=rfl
 have c0:∀j,j<Lib.deBruijn64tab.length→W.cell? ⟨0,j,none⟩=some (.int .u8 (Lib.deBruijn64tab.getD j 0:Nat)):=fun j hj=>by
  rw [hl]at hj
  have:=cell j
  rw [this];exact key j hj
 exact⟨block_lt_of_cell (c0 0 (by rw [hl];decide)),c0⟩
end Ev
end
end Go.Proofs.YtgefmokmjdeecaaDoor
