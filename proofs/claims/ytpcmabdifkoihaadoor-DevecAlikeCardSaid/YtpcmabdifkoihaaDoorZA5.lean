/- Texts of a claim, joined. -/
import Derived.Test.YtpcmabdifkoihaaDoorZA4
import Derived.Laws.StructEq
import Derived.Test.YtpcmabdifkoihaaDoorChecked
import Derived.Test.YtpcmabdifkoihaaDoorRows
import Derived.LaidMore
import Derived.Stop.Joined
import Derived.ChangeSlices
set_option linter.unusedVariables false
set_option linter.unusedSimpArgs false
namespace Go.Proofs.YtpcmabdifkoihaaDoor
noncomputable section
namespace Ev
open Go Go.RowKit
section
variable {E : Env} {y : Nat → fu} {n nt : Nat} {f : Nat → D} {L : BL}
theorem JV{x:Operand}{v:D}(hx:ov nt f x=some v):PS E n nt f L (.move x) v:=λh nid hb=>by
 rw [JP,bV,hx];rfl
theorem CL{x:Operand}{v:D}(hx:ov nt f x=some v):PS E n nt f L (.assign x) v:=λh nid hb=>by
 rw [JQ,bV,hx];rfl
theorem Mh{c a b:Operand}{fr:Bool}{v:D}(hc:ov nt f c=some (.one (.p fr (.v (.bool true)))))(hx:ov nt f a=some v):PS E n nt f L (.pick c a b) v:=λh nid hb=>by
 rw [EH,bV,hc,bV,hx];rfl
theorem Mi{c a b:Operand}{fr:Bool}{v:D}(hc:ov nt f c=some (.one (.p fr (.v (.bool false)))))(hx:ov nt f b=some v):PS E n nt f L (.pick c a b) v:=λh nid hb=>by
 rw [EH,bV,hc,bV (x:=b),hx];rfl
theorem cG{op:BinOp}{ty sh:TypeId}{x y:Operand}{fa fb:Bool}{ka kb:IntKind}{a b:Int}{v:Value}(hx:ov nt f x=some (.one (.p fa (.v (.int ka a)))))(hy:ov nt f y=some (.one (.p fb (.v (.int kb b)))))
  (hp:aq E.P (do eqGuard op ty x y (.int ka a) (.int kb b);binOp op ty (.int ka a) (.int kb b))=some v) (h1:one1 v=true):PS E n nt f L (.binOp op ty x y sh) (mk v):=λh nid hb=>by
 rw [CH,bV,hx,bV,hy];refine Eq.trans (b:=tI E.P E.ti op ty x y (.one (.p fa (.v (.int ka a)))) (.one (.p fb (.v (.int kb b))))) rfl ?_;rw [OM,hp];show mkO v=_;unfold mkO;rw [if_pos h1]
theorem Mj{P:Program}{ti:TypeId->Option TI}{op:BinOp}{ty:TypeId}{x y:Operand}{fr fr':Bool}{a b:Bool}:
  tI P ti op ty x y (.one (.p fr (.v (.bool a)))) (.one (.p fr' (.v (.bool b))))=(aq P (do eqGuard op ty x y (.bool a) (.bool b);binOp op ty (.bool a) (.bool b))).bind mkO:=rfl
theorem sG{op:BinOp}{ty sh:TypeId}{x y:Operand}{fa fb:Bool}{a b:Bool}{v:Value}(hx:ov nt f x=some (.one (.p fa (.v (.bool a)))))(hy:ov nt f y=some (.one (.p fb (.v (.bool b)))))
  (hp:aq E.P (do eqGuard op ty x y (.bool a) (.bool b);binOp op ty (.bool a) (.bool b))=some v) (h1:one1 v=true):PS E n nt f L (.binOp op ty x y sh) (mk v):=λh nid hb=>by
 rw [CH,bV,hx,bV,hy];refine Eq.trans (b:=tI E.P E.ti op ty x y (.one (.p fa (.v (.bool a)))) (.one (.p fb (.v (.bool b))))) rfl ?_;rw [Mj,hp];show mkO v=_;unfold mkO;rw [if_pos h1]
theorem OV{P:Program}{ti:TypeId->Option TI}{op:BinOp}{ty:TypeId}{x y:Operand}{a b:List C}:tI P ti op ty x y (.agg a) (.agg b)=(plain (.agg a)).bind λva=>(plain (.agg b)).bind λvb=>(aq P (do eqGuard op ty x y va vb;binOp op ty va vb)).bind mkO:=rfl
theorem kr{op:BinOp}{ty sh:TypeId}{x y:Operand}{a b:List C}{va vb v:Value}(hx:ov nt f x=some (.agg a))(hy:ov nt f y=some (.agg b))(ha:plain (.agg a)=some va)(hb':plain (.agg b)=some vb)
  (hp:aq E.P (do eqGuard op ty x y va vb;binOp op ty va vb)=some v) (h1:one1 v=true):PS E n nt f L (.binOp op ty x y sh) (mk v):=λh nid hb=>by
 rw [CH,bV,hx,bV,hy];refine Eq.trans (b:=tI E.P E.ti op ty x y (.agg a) (.agg b)) rfl ?_;rw [OV,ha,hb'];simp only [zbS];rw [hp];show mkO v=_;unfold mkO;rw [if_pos h1]
theorem eg{ty:TypeId}{x:Operand}{fr b:Bool}(hx:ov nt f x=some (.one (.p fr (.v (.bool b))))):PS E n nt f L (.unOp .not ty x) (bD (!b)):=λh nid hb=>by
 show((aS (aU (tab nt f)) x).bind λd=>(plain d).bind λv=>(aq E.P (Op.unary .not v)).bind mkO)=_;rw [bV,hx];rfl
theorem NP{ty:TypeId}{x:Operand}{fr:Bool}{k:IntKind}{a:Int}(hx:ov nt f x=some (.one (.p fr (.v (.int k a))))):PS E n nt f L (.unOp .neg ty x) (iD k (k.wrap (0 - a))):=λh nid hb=>by
 show((aS (aU (tab nt f)) x).bind λd=>(plain d).bind λv=>(aq E.P (Op.unary .neg v)).bind mkO)=_;rw [bV,hx];rfl
theorem nf{src dst:TypeId}{x:Operand}{fr:Bool}{k:IntKind}{a:Int}{v:Value}(hx:ov nt f x=some (.one (.p fr (.v (.int k a)))))(hp:aq E.P (Go.convert src dst (.int k a))=some v)(h1:one1 v=true):PS E n nt f L (.convert src dst x) (mk v):=λh nid hb=>by
 show((aS (aU (tab nt f)) x).bind λd=>(plain d).bind λv=>match v with
  | .int .. =>(aq E.P (Go.convert src dst v)).bind mkO
  |_=>none)=_
 rw [bV,hx];show(aq E.P (Go.convert src dst (.int k a))).bind mkO=_;rw [hp];show mkO v=_;unfold mkO;rw [if_pos h1]
theorem ah{ty:TypeId}{x:Operand}{m k i j off sz:Nat}{ag:Bool}(hx:ov nt f x=some (.one (.ptr k i j)))(ht:fieldAt E.ti ty m=some (off,sz,ag))(hz:Nat.beq sz 0=false):PS E n nt f L (.fieldAddr ty x m) (.one (.ptr k i (j+off))):=λh nid hb=>by
 rw [Ga,bV,hx,ht];show(if sz=0 then none else _)=_;rw [if_neg (Nat.ne_of_beq_eq_false hz)]
theorem dw{ty:TypeId}{x:Operand}{m i j off sz s:Nat}{fr:Bool}{l:List (List T)}{ag:Bool}(hx:ov nt f x=some (.one (.iptr fr s l i j)))(ht:fieldAt E.ti ty m=some (off,sz,ag))(hz:Nat.beq sz 0=false):PS E n nt f L (.fieldAddr ty x m) (.one (.iptr fr s l i (j+off))):=λh nid hb=>by
 rw [Ga,bV,hx,ht];show(if sz=0 then none else _)=_;rw [if_neg (Nat.ne_of_beq_eq_false hz)]
theorem CM{ty:TypeId}{x:Operand}{m off sz:Nat}{cs c2:List C}{ag:Bool}{v:D}(hx:ov nt f x=some (.agg cs))(ht:fieldAt E.ti ty m=some (off,sz,ag))(hc:cut cs off (cond ag sz 1)=some c2)(hv:dr ag c2=some v):PS E n nt f L (.field ty x m) v:=λh nid hb=>by
 show((E.ti ty).bind λt=>(jz t m).bind λfd=>(E.ti fd.type).bind λft=>(aS (aU (tab nt f)) x).bind λd=>match d with
  | .agg cs=>(cut cs fd.offset (if br ft.desc then ft.size else 1)).bind λc=>(dr (br ft.desc) c).bind λv=>some (⟨v,[]⟩:Eff)
  |_=>none)=_
 unfold fieldAt at ht;simp only [zbE,zsI,Prod.mk.injEq]at ht;obtain⟨t,h1,fd,h2,ft,h3,rfl,rfl,rfl⟩:=ht;rw [h1,bV,hx];simp only [zbS,h2,h3]
 have hc':cut cs fd.offset (if br ft.desc then ft.size else 1)=some c2:=by
  rw [<-hc];cases br ft.desc<;>rfl
 rw [hc'];simp only [zbS,hv]
theorem AF{α:Type}(b:Bool)(x y:α):(if b=true then x else y)=cond b x y:=by cases b<;>rfl
theorem fC{ty:TypeId}{x:Operand}{k i j sz bz:Nat}{ag:Bool}{es:List (List C)}{e cs:List C}{v:D}(p:Nat)(hx:ov nt f x=some (.one (.ptr k i j)))(hz:dM E.ti ty=some (sz,ag))(hp:L[p]? =some [(k,bz,es)])(he:es[i]? =some e)(hc:cut e j (cond ag sz 1)=some cs)(hv:dr ag cs=some v):PS E n nt f L (.load ty x) v:=λh nid hb=>by
 rw [JR,bV,hx,hz];show AA (kOf ag (EF j (if ag then sz else 1) (OL i (aJ h k))))=_;rw [hb.get hp,AF];show AA (kOf ag (EF j (cond ag sz 1) es[i]?))=_;rw [he];show AA (kOf ag (cut e j (cond ag sz 1)))=_;rw [hc];show AA (dr ag cs)=_;rw [hv];rfl
theorem bq{ty:TypeId}{x:Operand}{i j sz s:Nat}{fr ag:Bool}{l:List (List T)}{e:List T}{cs:List C}{v:D}(hx:ov nt f x=some (.one (.iptr fr s l i j)))(hz:dM E.ti ty=some (sz,ag))(he:l[i]? =some e)(hc:cut (e.map (pC fr)) j (cond ag sz 1)=some cs)(hv:dr ag cs=some v):PS E n nt f L (.load ty x) v:=λh nid hb=>by
 rw [JR,bV,hx,hz];show AA (kOf ag (EF j (if ag then sz else 1) (kIn fr l[i]?)))=_;rw [he,AF];show AA (kOf ag (cut (e.map (pC fr)) j (cond ag sz 1)))=_;rw [hc];show AA (dr ag cs)=_;rw [hv];rfl
theorem bI{ty:TypeId}{a x:Operand}{k i j sz bz:Nat}{ag:Bool}{es es':List (List C)}{e e' cs:List C}{v:D}(p:Nat)(ha:ov nt f a=some (.one (.ptr k i j)))(hx:ov nt f x=some v)(hd:gU v=some cs)(hz:dM E.ti ty=some (sz,ag))(hs:Nat.beq cs.length sz=true)(hp:L[p]? =some [(k,bz,es)])(he:es[i]? =some e)(ht:patch e j cs=some e')(hes:es.set i e'=es'):PW E n nt f L (.store ty a x) co p k bz es':=⟨⟨_,hp⟩,λh nid hb=>by
 rw [Mb,bV,ha,bV,hx,hz];show Ma k i j sz (gU v) (aJ h k)=_;rw [hd,hb.get hp];show(if cs.length=sz then JO k i bz es (EG j cs es[i]?)else none)=_;rw [if_pos (Nat.eq_of_beq_eq_true hs),he];show JO k i bz es (patch e j cs)=_;rw [ht];subst hes
 rfl⟩
theorem aX{ty:TypeId}{t:TI}{row:List C}{sz:Nat}(ht:E.ti ty=some t)(hr:jG t=row)(hs:t.size=sz):PN E n nt f L (.alloc ty) (λk=> .one (.ptr k 0 0)) sz [row]:=λh nid hb=>by
 show((E.ti ty).bind λt=>some (⟨.one (.ptr nid 0 0),[(nid,.own t.size [jG t])]⟩:Eff))=_;rw [ht];subst hr hs;rfl
theorem dN{ty:TypeId}{x:Operand}{t:TI}{d:D}{cs:List C}{sz:Nat}(ht:E.ti ty=some t)(hx:ov nt f x=some d)(hc:gU d=some cs)(hs:cs.length=sz):PN E n nt f L (.box ty x) (λk=> .one (.ptr k 0 0)) sz [cs]:=λh nid hb=>by
 show((E.ti ty).bind λt=>(aS (aU (tab nt f)) x).bind λd=>(gU d).bind λcs=>some (⟨.one (.ptr nid 0 0),[(nid,.own cs.length [cs])]⟩:Eff))=_;rw [ht,bV,hx];simp only [zbS,hc];subst hs;rfl
def ut(nt:Nat)(f:Nat->D)(l:List (Nat×Operand)):Option (List (Nat×D)):=l.mapM λ((i,x):Nat×Operand)=>(ov nt f x).map λd=>(i,d)
theorem bj{ty:TypeId}{parts:Array (Nat×Operand)}{t:TI}{ps:List (Nat×D)}{pl:Nat->Option (Nat×Nat)}{cs:List C}(ht:E.ti ty=some t)(hps:ut nt f parts.toList=some ps)(hpl:jY E.ti t=some pl)(hf:fill pl (jG t) ps=some cs):PS E n nt f L (.build ty parts) (.agg cs):=λh nid hb=>by
 show((E.ti ty).bind λt=>(parts.toList.mapM λ((i,x):Nat×Operand)=>(aS (aU (tab nt f)) x).map λd=>(i,d)).bind λps=>(jY E.ti t).bind λpl=>(fill pl (jG t) ps).bind λcs=>some (⟨.agg cs,[]⟩:Eff))=_;rw [ht,dY];simp only [zbS];have h1:(parts.toList.mapM λ((i,x):Nat×Operand)=>(ov nt f x).map λd=>(i,d))=some ps:=hps;simp only [h1,zbS,hpl,hf]
theorem fc{ti:TypeId->Option TI}{ty z:Nat}(h:cZ ti ty=some z):∃t e te,ti ty=some t/\bn t=some e/\ti e=some te/\te.size=z:=by
 unfold cZ at h;simp only [zbE,zsI]at h;obtain⟨t,h1,e,h2,te,h3,h4⟩:=h;exact⟨t,e,te,h1,h2,h3,h4⟩
theorem ia{ty ety:TypeId}{len z:Nat}{parts:Array (Nat×Operand)}{t te:TI}{ps:List (Nat×D)}{cs:List C}{es:List (List C)}(ht:E.ti ty=some t)(he:bn t=some ety)(hte:E.ti ety=some te)(hz:te.size=z)(hps:ut nt f parts.toList=some ps)(hf:fill (λi=>some (i*z,z)) (pg te len) ps=some cs)(hr:rP z cs len=some es)(hl:Nat.ble (len*z) 16777216=true):PN E n nt f L (.buildSlice ty len parts) (λk=> .one (.own k 0 len)) z es:=λh nid hb=>by
 show((E.ti ty).bind λt=>(bn t).bind λx=>(E.ti x).bind λe=>(parts.toList.mapM λ((i,x):Nat×Operand)=>(aS (aU (tab nt f)) x).map λd=>(i,d)).bind λps=>(fill (λi=>some (i*e.size,e.size)) (pg e len) ps).bind λcs=>(rP e.size cs len).bind λes=>if len*e.size<=2 ^ 24 then some (⟨.one (.own nid 0 len),[(nid,.own e.size es)]⟩:Eff)else none)=_;subst hz;rw [ht,dY];have h1:(parts.toList.mapM λ((i,x):Nat×Operand)=>(ov nt f x).map λd=>(i,d))=some ps:=hps;simp only [zbS,he,hte,h1,hf,hr];rw [if_pos (Nat.le_of_ble_eq_true hl)]
theorem jR{x:Operand}{i:Nat}{ds:List D}{v:D}(hx:ov nt f x=some (.tup ds))(hi:ds[i]? =some v):PS E n nt f L (.extract x i) v:=λh nid hb=>by
 show((aS (aU (tab nt f)) x).bind λd=>match d with
  | .tup ds=>(ds[i]?).bind λv=>some (⟨v,[]⟩:Eff)
  |_=>none)=_
 rw [bV,hx];show(ds[i]?).bind _=_;rw [hi];rfl
theorem aG{α β:Type}{r:α->β}{l:List α}{i:Nat}{x:α}(h:l[i]? =some x):(l.map r)[i]? =some (r x):=by rw [List.getElem?_map,h];rfl
theorem JW{α:Type}{l:List α}{i:Nat}{x:α}(h:l[i]? =some x):i<l.length:=(List.getElem?_eq_some_iff.1 h).1
theorem map_set{α β:Type}{r:α->β}{l:List α}{i:Nat}{x:α}:(l.map r).set i (r x)=(l.set i x).map r:=(List.map_set).symm
theorem de{α:Type}{r:α->List T}{ty:TypeId}{x ix:Operand}{fr fb nn:Bool}{sz:Nat}{l:List α}{kb:IntKind}{i:Int}{y:α}(hx:ov nt f x=some (.one (.p fr (.s nn sz (l.map r)))))(hi:ov nt f ix=some (.one (.p fb (.v (.int kb i)))))(h0:0<=i)(hy:l[i.toNat]? =some y)(hz:cZ E.ti ty=some sz):PS E n nt f L (.indexAddr ty x ix) (.one (.iptr fr sz (l.map r) i.toNat 0)):=λh nid hb=>by
 rw [ur,bV,hx,bV,hi];show kIx E.ti ty h _ (gY (.one (.p fb (.v (.int kb i)))))=_;rw [gO _ _ _ h0];refine Eq.trans (b:=CG E.ti ty h i.toNat (.one (.p fr (.s nn sz (l.map r))))) rfl ?_;rw [Tl,hz];show(if i.toNat<(l.map r).length/\sz=sz then _ else _)=_;rw [if_pos ⟨by rw [List.length_map];exact JW hy,rfl⟩]
theorem kD{α:Type}{r:α->List C}{ty:TypeId}{x ix:Operand}{fb:Bool}{k sz:Nat}{l:List α}{kb:IntKind}{i:Int}{y:α}(p:Nat)(hx:ov nt f x=some (.one (.own k 0 l.length)))(hi:ov nt f ix=some (.one (.p fb (.v (.int kb i)))))(h0:0<=i)(hy:l[i.toNat]? =some y)(hp:L[p]? =some [(k,sz,l.map r)])(hz:cZ E.ti ty=some sz):PS E n nt f L (.indexAddr ty x ix) (.one (.ptr k i.toNat 0)):=λh nid hb=>by
 rw [ur,bV,hx,bV,hi];show kIx E.ti ty h _ (gY (.one (.p fb (.v (.int kb i)))))=_;rw [gO _ _ _ h0];refine Eq.trans (b:=CG E.ti ty h i.toNat (.one (.own k 0 l.length))) rfl ?_;rw [Tm,hz,hb.get hp];show(if i.toNat<l.length/\sz=sz then _ else _)=_;rw [if_pos ⟨JW hy,rfl⟩,Nat.zero_add]
theorem EN{c:Call}{a:Operand}{ty e:TypeId}{t:TI}{d:D}{m:Nat}(hc:c.callee= .builtin .len)(ha:c.args.toList= [a])(hty:c.argTypes[0]? =some ty)(ht:E.ti ty=some t)(hd:t.desc= .slice e)(hx:ov nt f a=some d)(hl:xp d=some m):PS E n nt f L (.call c) (iD .i64 m):=λh nid hb=>by
 have h1:bi (.call c)=none:=by unfold bi;simp only [hc]
 rw [ju,h1];unfold sem sD;simp only [hc,hty,ht,ha,dY,zbB,zbS,List.mapM_cons,List.mapM_nil,hx,Option.pure_def,hd,hl];rfl
theorem EO{α:Type}{r:α->List T}{fr nn:Bool}{sz:Nat}{l:List α}:xp (.one (.p fr (.s nn sz (l.map r))))=some l.length:=by
 show some (l.map r).length=_;rw [List.length_map]
theorem cD{α:Type}{r:α->List T}{c:Call}{a:Operand}{ty e:TypeId}{t:TI}{fr nn:Bool}{sz:Nat}{l:List α}(hx:ov nt f a=some (.one (.p fr (.s nn sz (l.map r)))))(ht:E.ti ty=some t)(hd:t.desc= .slice e)(hc:c.callee= .builtin .len)(ha:c.args.toList= [a])(hty:c.argTypes[0]? =some ty):PS E n nt f L (.call c) (iD .i64 l.length):=EN hc ha hty ht hd hx EO
def pA(L:BL)(x:D)(xs:List (List C)):Prop:=∀h,HB h L->lA h x=some xs
theorem iY{α:Type}{r:α->List C}{k sz:Nat}{l:List α}(p:Nat)(hp:L[p]? =some [(k,sz,l.map r)]):pA L (.one (.own k 0 l.length)) (l.map r):=λh hb=>by
 show((aJ h k).bind λx=>cut x.2 0 l.length)=_;rw [hb.get hp];show cut (l.map r) 0 l.length=_;unfold cut;rw [if_pos (by simp),List.drop_zero,List.take_of_length_le (by simp)]
theorem oc{α:Type}{r:α->List T}{fr nn:Bool}{sz:Nat}{l:List α}(hr:∀x,(r x).map (pC fr)=aL r x):pA L (.one (.p fr (.s nn sz (l.map r)))) (l.map (aL r)):=λh hb=>by
 show some ((l.map r).map (·.map (pC fr)))=_;rw [List.map_map];congr 1;exact List.map_congr_left λx _=>hr x
theorem OW{c:Call}{a x:Operand}{ty ty1 z e1:TypeId}{t1:TI}{fr:Bool}{bz:Nat}{d:D}{xs:List (List C)}(ha:ov nt f a=some (.one (.p fr (.s false bz []))))(hx:ov nt f x=some d)(hxs:pA L d xs)(hne:∃y ys,xs=y::ys)(hb:xs.length<=cE)(hall:xs.all (·.length==z)=true)(hz:cZ E.ti ty=some z)(ht1:E.ti ty1=some t1)(he1:bn t1=some e1)
  (hc:c.callee= .builtin .append) (hargs:c.args.toList= [a,x]) (hty:c.argTypes[0]? =some ty) (hty1:c.argTypes[1]? =some ty1):PN E n nt f L (.call c) (λk=> .one (.own k 0 xs.length)) z xs:=λh nid hh=>by
 obtain⟨t,e,te,g1,g2,g3,g4⟩:=fc hz;have h1:bi (.call c)=none:=by unfold bi;simp only [hc]
 rw [ju,h1];unfold sem sD;simp only [hc,hty,g1,hargs,dY,zbB,zbS,List.mapM_cons,List.mapM_nil,ha,hx,Option.pure_def,g2,g3,hty1,ht1,he1,g4];unfold Ev.append;simp only [hxs h hh,zbB,zbS];obtain⟨y,ys,rfl⟩:=hne;rw [if_neg (by simp),if_neg (by simp),if_pos hb,if_pos hall]
theorem OX{c:Call}{a x:Operand}{ty ty1 z e1:TypeId}{t1:TI}{fr:Bool}{bz:Nat}{d:D}(ha:ov nt f a=some (.one (.p fr (.s false bz []))))(hx:ov nt f x=some d)(hxs:pA L d [])(hz:cZ E.ti ty=some z)(ht1:E.ti ty1=some t1)(he1:bn t1=some e1)
  (hc:c.callee= .builtin .append) (hargs:c.args.toList= [a,x]) (hty:c.argTypes[0]? =some ty) (hty1:c.argTypes[1]? =some ty1):PS E n nt f L (.call c) (.one (.p fr (.s false bz []))):=λh nid hh=>by
 obtain⟨t,e,te,g1,g2,g3,g4⟩:=fc hz;have h1:bi (.call c)=none:=by unfold bi;simp only [hc]
 rw [ju,h1];unfold sem sD;simp only [hc,hty,g1,hargs,dY,zbB,zbS,List.mapM_cons,List.mapM_nil,ha,hx,Option.pure_def,g2,g3,hty1,ht1,he1,g4];unfold Ev.append;simp only [hxs h hh,zbB,zbS];rw [if_neg (by simp),if_pos (show([]:List (List C)).length=0 from rfl)]
theorem NQ{α:Type}{r:α->List C}{c:Call}{a x:Operand}{ty ty1 z e1:TypeId}{t1:TI}{k:Nat}{l m lm:List α}{d:D}{xs:List (List C)}(p:Nat)(ha:ov nt f a=some (.one (.own k 0 l.length)))(hx:ov nt f x=some d)(hxs:pA L d xs)(hm:xs=m.map r)(hp:L[p]? =some [(k,z,l.map r)])(hlm:app l m=some lm)(hr:∀y,(r y).length=z)(hz:cZ E.ti ty=some z)(ht1:E.ti ty1=some t1)(he1:bn t1=some e1)
  (hc:c.callee= .builtin .append) (hargs:c.args.toList= [a,x]) (hty:c.argTypes[0]? =some ty) (hty1:c.argTypes[1]? =some ty1) (hz0:Nat.beq z 0=false:=by rfl):PA E n nt f L (.call c) (λk'=> .one (.own k' 0 lm.length)) p k z (lm.map r):=⟨⟨_,hp⟩,λh nid hh=>by
 obtain⟨t,e,te,g1,g2,g3,g4⟩:=fc hz;obtain⟨hb,rfl⟩:=dv hlm;have h1:bi (.call c)=none:=by unfold bi;simp only [hc]
 rw [ju,h1];unfold sem sD;simp only [hc,hty,g1,hargs,dY,zbB,zbS,List.mapM_cons,List.mapM_nil,ha,hx,Option.pure_def,g2,g3,hty1,ht1,he1,g4];unfold Ev.append;simp only [hxs h hh,zbB,zbS,hh.get hp,hm];rw [if_pos ⟨trivial,by simp,by simpa using hb,trivial,by simp [hr],Nat.ne_of_beq_eq_false hz0⟩]
 simp⟩
theorem sH{α:Type}{r:α->List C}{c:Call}{a x:Operand}{ty ty1 z e1:TypeId}{t1:TI}{k:Nat}{l m lm:List α}{d:D}{xs:List (List C)}(p:Nat)(ha:ov nt f a=some (.one (.own k 0 l.length)))(hx:ov nt f x=some d)(hxs:pA L d xs)(hm:xs=m.map r)(hp:L[p]? =some [(k,z,l.map r)])(hlm:cpL l m=some lm)(hr:∀y,(r y).length=z)(hz:cZ E.ti ty=some z)(ht1:E.ti ty1=some t1)(he1:bn t1=some e1)
  (hc:c.callee= .builtin .copy) (hargs:c.args.toList= [a,x]) (hty:c.argTypes[0]? =some ty) (hty1:c.argTypes[1]? =some ty1) (hz0:Nat.beq z 0=false:=by rfl):PW E n nt f L (.call c) (iD .i64 (m.length:Nat)) p k z (lm.map r):=⟨⟨_,hp⟩,λh nid hh=>by
 obtain⟨t,e,te,g1,g2,g3,g4⟩:=fc hz;obtain⟨hb,rfl⟩:=wt hlm;have h1:bi (.call c)=none:=by unfold bi;simp only [hc]
 rw [ju,h1];unfold sem sD;simp only [hc,hty,g1,hargs,dY,zbB,zbS,List.mapM_cons,List.mapM_nil,ha,hx,Option.pure_def,g2,g3,hty1,ht1,he1,g4];unfold qC;simp only [hxs h hh,zbB,zbS,hh.get hp,hm]
 have hpt:patch (l.map r) 0 (m.map r)=some ((m++l.drop m.length).map r):=by
  unfold patch;rw [if_pos (by simpa using hb)];simp
 rw [hpt];simp only [zbS];rw [if_pos ⟨trivial,by simpa using hb,by simp [hr],Nat.ne_of_beq_eq_false hz0⟩]
 simp [iD,mk]⟩
theorem Gc{c:Call}{a x:Operand}{ty ty1 z e1:TypeId}{t1:TI}{fr nn:Bool}{bz:Nat}{d:D}{xs:List (List C)}(ha:ov nt f a=some (.one (.p fr (.s nn bz []))))(hx:ov nt f x=some d)(hxs:pA L d xs)(hz:cZ E.ti ty=some z)(ht1:E.ti ty1=some t1)(he1:bn t1=some e1)
  (hc:c.callee= .builtin .copy) (hargs:c.args.toList= [a,x]) (hty:c.argTypes[0]? =some ty) (hty1:c.argTypes[1]? =some ty1):PS E n nt f L (.call c) (iD .i64 0):=λh nid hh=>by
 obtain⟨t,e,te,g1,g2,g3,g4⟩:=fc hz;have h1:bi (.call c)=none:=by unfold bi;simp only [hc]
 rw [ju,h1];unfold sem sD;simp only [hc,hty,g1,hargs,dY,zbB,zbS,List.mapM_cons,List.mapM_nil,ha,hx,Option.pure_def,g2,g3,hty1,ht1,he1,g4];unfold qC;simp only [hxs h hh,zbB,zbS];rfl
theorem gP{α:Type}{r:α->List C}{ty:Nat}{x y:Operand}{t te:TI}{ety z:Nat}{fa fb:Bool}{ka kb:IntKind}{i:Int}{a:α}(ht:E.ti ty=some t)(he:bn t=some ety)(hte:E.ti ety=some te)(hx:ov nt f x=some (.one (.p fa (.v (.int ka i)))))(hy:ov nt f y=some (.one (.p fb (.v (.int kb i)))))(h0:0<=i)(hi:i.toNat<=cE)(hz:jG te=r a)(hs:te.size=z):PN E n nt f L (.makeSlice ty x y) (λk=> .one (.own k 0 (List.replicate i.toNat a).length)) z ((List.replicate i.toNat a).map r):=λh nid hb=>by
 show((E.ti ty).bind λt=>(bn t).bind λq=>(E.ti q).bind λe=>(aS (aU (tab nt f)) x).bind λdx=>(gY dx).bind λn=>(aS (aU (tab nt f)) y).bind λdy=>(gY dy).bind λm=>if n<=m/\m<=cE then some (⟨.one (.own nid 0 n),[(nid,.own e.size (List.replicate n (jG e)))]⟩:Eff)else none)=_;rw [ht];simp only [zbS,he,hte,bV,hx,hy,gO _ _ _ h0];rw [if_pos ⟨Nat.le_refl _,hi⟩,List.length_replicate,List.map_replicate,hz,hs]
theorem Mk{α:Type}{r:α->List C}{ty:Nat}{x y:Operand}{t te:TI}{ety z:Nat}{fa fb:Bool}{ka kb:IntKind}{i j:Int}{a:α}(ht:E.ti ty=some t)(he:bn t=some ety)(hte:E.ti ety=some te)(hx:ov nt f x=some (.one (.p fa (.v (.int ka i)))))(hy:ov nt f y=some (.one (.p fb (.v (.int kb j)))))(h0:0<=i)(hij:i<=j)(hj:j.toNat<=cE)(hz:jG te=r a)(hs:te.size=z):PN E n nt f L (.makeSlice ty x y) (λk=> .one (.own k 0 (List.replicate i.toNat a).length)) z ((List.replicate i.toNat a).map r):=λh nid hb=>by
 show((E.ti ty).bind λt=>(bn t).bind λq=>(E.ti q).bind λe=>(aS (aU (tab nt f)) x).bind λdx=>(gY dx).bind λn=>(aS (aU (tab nt f)) y).bind λdy=>(gY dy).bind λm=>if n<=m/\m<=cE then some (⟨.one (.own nid 0 n),[(nid,.own e.size (List.replicate n (jG e)))]⟩:Eff)else none)=_;rw [ht];simp only [zbS,he,hte,bV,hx,hy,gO _ _ _ h0,gO _ _ _ (show 0<=j by omega)];rw [if_pos ⟨by omega,hj⟩,List.length_replicate,List.map_replicate,hz,hs]
def Vw(L:BL)(ds:List D)(vs:List (Bool×TD)):Prop:=∀h,HB h L->ds.mapM (cz h)=some vs
theorem aj:Vw L [] []:=λh hb=>rfl
theorem ae{d:D}{ds:List D}{v:Bool×TD}{vs:List (Bool×TD)}(h1:∀h,HB h L->cz h d=some v)(h2:Vw L ds vs):Vw L (d::ds) (v::vs):=λh hb=>by
 rw [List.mapM_cons,h1 h hb,h2 h hb];rfl
def VwC(L:BL)(cs:List C)(vs:List (Bool×T)):Prop:=∀h,HB h L->∀m,cs.mapM (eN h (m+2))=some vs
theorem aw:VwC L [] []:=λh hb m=>rfl
theorem ab{c:C}{cs:List C}{v:Bool×T}{vs:List (Bool×T)}(h1:∀h,HB h L->∀m,eN h (m+2) c=some v)(h2:VwC L cs vs):VwC L (c::cs) (v::vs):=λh hb m=>by
 rw [List.mapM_cons,h1 h hb m,h2 h hb m];rfl
theorem ao{x:Value}:∀h,HB h L->∀m,eN h (m+2) (.p true (.v x))=some (true,.v x):=λh hb m=>rfl
theorem aV{fr nn:Bool}{sz:Nat}{l:List (List T)}:∀h,HB h L->∀m,eN h (m+2) (.p fr (.s nn sz l))=some (fr,.s nn sz l):=λh hb m=>rfl
theorem CN{α β γ:Type}{r:α->List β}{q:α->List γ}{g:β->Option (Bool×γ)}(hq:∀x,(r x).mapM g=some ((q x).map λt=>(true,t))):∀l:List α,((l.map r).mapM λe=>e.mapM g)=some ((l.map q).map λe=>e.map λt=>(true,t))
 | []=>rfl
 |x::l=>by
  rw [List.map_cons,List.mapM_cons,hq x,CN hq l];rfl
theorem cd{α:Type}{r:α->List T}{k sz:Nat}{l:List α}(p:Nat)(hp:L[p]? =some [(k,sz,l.map (aL r))])(hr:∀x h m,(aL r x).mapM (eN h (m+1))=some ((r x).map λt=>(true,t))):∀h,HB h L->∀m,eN h (m+2) (.own k 0 l.length)=some (true,.s true sz (l.map r)):=λh hb m=>by
 have hc:cut (l.map (aL r)) 0 l.length=some (l.map (aL r)):=by
  unfold cut;rw [if_pos (by simp),List.drop_zero,List.take_of_length_le (by simp)]
 have e1:eN h (m+2) (.own k 0 l.length)=(aJ h k).bind λx=>(cut x.2 0 l.length).bind λes=>(es.mapM λe:List C=>e.mapM (eN h (m+1))).bind λq=>some (q.all (λe=>e.all (·.1)),T.s true x.1 (q.map (λe=>e.map (·.2)))):=rfl;rw [e1,hb.get hp];simp only [zbS,hc];rw [CN (q:=r) λx=>hr x h m];simp only [zbS,List.map_map];congr 2
 .rw [List.all_eq_true];intro x hx;simp only [List.mem_map]at hx;obtain⟨y,_,rfl⟩:=hx;rw [List.all_eq_true];intro z hz;simp only [Function.comp,List.mem_map]at hz;obtain⟨w,_,rfl⟩:=hz;rfl
 .congr 1;refine List.map_congr_left λx hx=> ?_;simp [Function.comp_def]
theorem ak{c:C}{b:Bool}{t:T}(h1:∀h,HB h L->∀m,eN h (m+2) c=some (b,t)):∀h,HB h L->cz h (.one c)=some (b,.one t):=λh hb=>by
 show(eN h 6 c).bind _=_;rw [h1 h hb 4];rfl
theorem ay{cs:List C}{vs:List (Bool×T)}(h1:VwC L cs vs):∀h,HB h L->cz h (.agg cs)=some (vs.all (·.1),.agg (vs.map (·.2))):=λh hb=>by
 show(cs.mapM (eN h 6)).bind _=_;rw [h1 h hb 4];rfl
def CO(E:Env)(n:Nat)(k:FuncId)(vs:List TD)(rs:List TD):Prop:=∃fr:Bool,RunsP E n k vs (cond fr .fresh .any,rs)
theorem sI{c:Call}{k:FuncId}{args:List D}{vs:List (Bool×TD)}{r:Kind×List TD}{e:Nat->Eff}(hc:bi (.call c)=some c)(hr:bB c (ov nt f)=some (k,args))(hv:Vw L args vs)(hk:cpR E n k (vs.map (·.2))=some r)
  (he:∀nid,(match r.1 with
   | .own=>match r.2 with
    | [.one (.s true sz l)]=>some ({v:= .one (.own nid 0 l.length),upd:= [(nid,.own sz (l.map (·.map (pC true))))]}:Eff)
    |_=>none
   | .fresh=>some {v:=gV (r.2.map (cR true))}
   | .any=>if args.any jZ then none else some {v:=gV (r.2.map (cR (vs.all (·.1))))})=some (e nid)):∀(h:aC) (nid:Nat),HB h L->stepG E (cpR E n) none nid (.call c) (aU (tab nt f)) h=some (e nid):=λh nid hb=>by
 rw [ju,hc];show iv (cpR E n) nid c (aU (tab nt f)) h=_;unfold iv;rw [dY,hr];simp only [zbB,zbS,hv h hb,hk];exact he nid
theorem Gd{c:Call}{k:FuncId}{args:List D}{vs:List (Bool×TD)}{vs2 rs:List TD}{v:D}(hk:RunsP E n k vs2 (.fresh,rs))(hc:bi (.call c)=some c)(hr:bB c (ov nt f)=some (k,args))(hv:Vw L args vs)(h2:vs.map (·.2)=vs2)(hrv:gV (rs.map (cR true))=v):PS E n nt f L (.call c) v:=λh nid hb=>by
 subst hrv h2;exact sI (e:=λ_=>⟨_,[]⟩) hc hr hv (ln hk) (λ_=>rfl) h nid hb
theorem lT{c:Call}{k:FuncId}{args:List D}{vs:List (Bool×TD)}{vs2 rs:List TD}{v:Bool->D}(hk:CO E n k vs2 rs)(hc:bi (.call c)=some c)(hr:bB c (ov nt f)=some (k,args))(hv:Vw L args vs)(h2:vs.map (·.2)=vs2)(ho:args.any jZ=false)(hrv:∀fr,gV (rs.map (cR fr))=v fr):∃fr,PS E n nt f L (.call c) (v fr):=by
 obtain⟨fr,hk⟩:=hk
 cases fr with
 |true=>exact⟨true,Gd hk hc hr hv h2 (hrv true)⟩
 |false=>
  subst h2;refine⟨vs.all (·.1),λh nid hb=> ?_⟩;rw [<-hrv];refine sI (e:=λ_=>⟨_,[]⟩) hc hr hv (ln hk) (λ_=> ?_) h nid hb;show(if args.any jZ=true then none else _)=_;rw [ho];rfl
theorem dt{α:Type}{r:α->List T}{c:Call}{k:FuncId}{args:List D}{vs:List (Bool×TD)}{vs2:List TD}{sz:Nat}{l:List α}(hk:RunsP E n k vs2 (.own,[.one (.s true sz (l.map r))]))(hc:bi (.call c)=some c)(hr:bB c (ov nt f)=some (k,args))(hv:Vw L args vs)(h2:vs.map (·.2)=vs2):PN E n nt f L (.call c) (λk'=> .one (.own k' 0 l.length)) sz (l.map (aL r)):=λh nid hb=>by
 subst h2
 have:=sI (e:=λnid=>⟨.one (.own nid 0 (l.map r).length),[(nid,.own sz ((l.map r).map (·.map (pC true))))]⟩) hc hr hv (ln hk) (λ_=>rfl) h nid hb
 rw [List.length_map,List.map_map]at this;exact this
def Sf(E:Env)(rv:List ResultVar)(rs:List TD):Ex->St->Prop:=λe s=>∃fr:Bool,hZ E rv (cond fr .fresh .any,rs) e s
def yb(E:Env)(nt:Nat)(f:Nat->D)(L:BL)(rv:List ResultVar)(ds:List D):Prop:=∀h,HB h L->rv.mapM (cQ E {t:=tab nt f,h:=h})=some ds
theorem ar:yb E nt f L [] []:=λh hb=>rfl
theorem aM{t:Tmp}{d:D}{rv:List ResultVar}{ds:List D}(ht:ov nt f (.tmp t)=some d)(h:yb E nt f L rv ds):yb E nt f L (.tmp t::rv) (d::ds):=λH hb=>by
 have:(tab nt f)[t]? =some d:=(bV nt f (.tmp t)).trans ht
 rw [List.mapM_cons,h H hb];show((tab nt f)[t]?).bind _=_;rw [this];rfl
theorem aF{t:Tmp}{ty:TypeId}{k i j sz bz:Nat}{ag:Bool}{es:List (List C)}{e cs:List C}{d:D}{rv:List ResultVar}{ds:List D}(p:Nat)(ht:ov nt f (.tmp t)=some (.one (.ptr k i j)))(hz:dM E.ti ty=some (sz,ag))(hp:L[p]? =some [(k,bz,es)])(he:es[i]? =some e)(hc:cut e j (cond ag sz 1)=some cs)(hv:dr ag cs=some d)(h:yb E nt f L rv ds):yb E nt f L (.cell t ty::rv) (d::ds):=λH hb=>by
 have h1:(tab nt f)[t]? =some (.one (.ptr k i j)):=(bV nt f (.tmp t)).trans ht;unfold dM at hz;simp only [zbE,zsI,Prod.mk.injEq]at hz;obtain⟨ti,g1,rfl,rfl⟩:=hz;rw [List.mapM_cons,h H hb];show(((E.ti ty).bind λt'=>((tab nt f)[t]?).bind λd=>load H (br t'.desc) (if br t'.desc then t'.size else 1) d).bind _)=_;rw [g1,h1];simp only [zbS,load,hb.get hp,zbB,he,AF,hc,hv];rfl
theorem aR{rv:List ResultVar}{ds:List D}{vs:List (Bool×TD)}{e:Ex}{rs:List TD}(he:e= .normal∨e= .ret)(hr:yb E nt f L rv ds)(hv:Vw L ds vs)(ho:∀h,HB h L->cA h ds=false)(hf:vs.all (·.1)=true)(hrs:vs.map (·.2)=rs):cP nt (hZ E rv (.fresh,rs)) e f L:=λH hb=>by
 have key:cH (λl:Kind×List TD=>l=(.fresh,rs)) ((rv.mapM (cQ E {t:=tab nt f,h:=H})).bind λrs=>(rs.mapM (cz H)).map λl=>(if cA H rs then .own else if l.all (·.1)then .fresh else .any,l.map (·.2))):=by
  rw [hr H hb];simp only [zbS,hv H hb,Option.map_some,ho H hb,hf,hrs];rfl
 rcases he with rfl|rfl<;>exact key
theorem AG{rv:List ResultVar}{ds:List D}{vs:List (Bool×TD)}{e:Ex}{rs:List TD}(he:e= .normal∨e= .ret)(hr:yb E nt f L rv ds)(hv:Vw L ds vs)(ho:∀h,HB h L->cA h ds=false)(hrs:vs.map (·.2)=rs):cP nt (Sf E rv rs) e f L:=λH hb=>by
 have key:cH (λl:Kind×List TD=>l=(cond (vs.all (·.1)) .fresh .any,rs)) ((rv.mapM (cQ E {t:=tab nt f,h:=H})).bind λrs=>(rs.mapM (cz H)).map λl=>(if cA H rs then .own else if l.all (·.1)then .fresh else .any,l.map (·.2))):=by
  rw [hr H hb];simp only [zbS,hv H hb,Option.map_some,ho H hb,hrs];show(_,_)=(_,_);cases vs.all (·.1)<;>rfl
 refine⟨vs.all (·.1),?_⟩;rcases he with rfl|rfl<;>exact key
theorem ku{α:Type}{r:α->List T}{rv:List ResultVar}{k sz:Nat}{l:List α}{e:Ex}(p:Nat)(he:e= .normal∨e= .ret)(hr:yb E nt f L rv [.one (.own k 0 l.length)])(hp:L[p]? =some [(k,sz,l.map (aL r))])(hr2:∀x h m,(aL r x).mapM (eN h (m+1))=some ((r x).map λt=>(true,t)))(hpl:∀x,(aL r x).all pG=true):cP nt (hZ E rv (.own,[.one (.s true sz (l.map r))])) e f L:=λH hb=>by
 have ho:cA H [.one (.own k 0 l.length)]=true:=by
  simp [cA,hb.get hp,hpl]
 have key:cH (λl':Kind×List TD=>l'=(.own,[.one (.s true sz (l.map r))])) ((rv.mapM (cQ E {t:=tab nt f,h:=H})).bind λrs=>(rs.mapM (cz H)).map λl=>(if cA H rs then .own else if l.all (·.1)then .fresh else .any,l.map (·.2))):=by
  rw [hr H hb];have hv: [D.one (.own k 0 l.length)].mapM (cz H)=some [(true,.one (.s true sz (l.map r)))]:=ae (ak (cd p hp hr2)) aj H hb;simp only [zbS,hv,Option.map_some,ho];rfl
 rcases he with rfl|rfl<;>exact key
theorem Ml{d e:D}{ds:List D}{h:aC}:cA h (d::e::ds)=false:=by
 unfold cA;split
 .rename_i hx;simp at hx
 .rfl
theorem Mm{cs:List C}{h:aC}:cA h [.agg cs]=false:=rfl
theorem JY{fr:Bool}{t:T}{h:aC}:cA h [.one (.p fr t)]=false:=rfl
def f0(vs:List TD):Nat->D:=λi=>(vs.map (cR false)).getD i co
theorem ib{k:FuncId}{fi:FI}{vs rs:List TD}(ha:E.ax k=none)(hf:E.fn k=some fi)(hl:Nat.ble vs.length fi.nt=true)(h:WpL E nY n fi.nt fi.body (hZ E fi.results (.fresh,rs)) (f0 vs) []):RunsP E (n+1) k vs (.fresh,rs):=mE ha hf (Nat.le_of_ble_eq_true hl) (h [] ⟨List.nodup_nil,λx hx=>by simp at hx⟩)
theorem vh{k:FuncId}{fi:FI}{vs rs:List TD}(ha:E.ax k=none)(hf:E.fn k=some fi)(hl:Nat.ble vs.length fi.nt=true)(h:WpL E nY n fi.nt fi.body (hZ E fi.results (.own,rs)) (f0 vs) []):RunsP E (n+1) k vs (.own,rs):=mE ha hf (Nat.le_of_ble_eq_true hl) (h [] ⟨List.nodup_nil,λx hx=>by simp at hx⟩)
theorem Sg{k:FuncId}{fi:FI}{vs rs:List TD}(ha:E.ax k=none)(hf:E.fn k=some fi)(hl:Nat.ble vs.length fi.nt=true)(h:WpL E nY n fi.nt fi.body (Sf E fi.results rs) (f0 vs) []):CO E (n+1) k vs rs:=by
 obtain⟨e,s',h1,fr,h2⟩:=h [] ⟨List.nodup_nil,λx hx=>by simp at hx⟩;exact⟨fr,mE ha hf (Nat.le_of_ble_eq_true hl) ⟨e,s',h1,h2⟩⟩
end
section
variable (P : Program) (t : TypeId) (x y : Operand) (k : IntKind) {a b : Int}
theorem Mn(h:a<b):aq P (do eqGuard .lss t x y (.int k a) (.int k b);binOp .lss t (.int k a) (.int k b))=some (.bool true):=by rw [JB,decide_eq_true h]
theorem Mo(h:¬a<b):aq P (do eqGuard .lss t x y (.int k a) (.int k b);binOp .lss t (.int k a) (.int k b))=some (.bool false):=by rw [JB,decide_eq_false h]
theorem Mp(h:a<=b):aq P (do eqGuard .leq t x y (.int k a) (.int k b);binOp .leq t (.int k a) (.int k b))=some (.bool true):=by rw [JC,decide_eq_true h]
theorem Mq(h:¬a<=b):aq P (do eqGuard .leq t x y (.int k a) (.int k b);binOp .leq t (.int k a) (.int k b))=some (.bool false):=by rw [JC,decide_eq_false h]
theorem Mr(h:a>b):aq P (do eqGuard .gtr t x y (.int k a) (.int k b);binOp .gtr t (.int k a) (.int k b))=some (.bool true):=by rw [JD,decide_eq_true h]
theorem Ms(h:¬a>b):aq P (do eqGuard .gtr t x y (.int k a) (.int k b);binOp .gtr t (.int k a) (.int k b))=some (.bool false):=by rw [JD,decide_eq_false h]
theorem Mt(h:a >= b):aq P (do eqGuard .geq t x y (.int k a) (.int k b);binOp .geq t (.int k a) (.int k b))=some (.bool true):=by rw [JF,decide_eq_true h]
theorem Mu(h:¬a >= b):aq P (do eqGuard .geq t x y (.int k a) (.int k b);binOp .geq t (.int k a) (.int k b))=some (.bool false):=by rw [JF,decide_eq_false h]
theorem Mv(h:a=b):aq P (do eqGuard .eql t x y (.int k a) (.int k b);binOp .eql t (.int k a) (.int k b))=some (.bool true):=by rw [JG,h];simp
theorem Mw(h:¬a=b):aq P (do eqGuard .eql t x y (.int k a) (.int k b);binOp .eql t (.int k a) (.int k b))=some (.bool false):=by rw [JG];simp [h]
theorem Mx(h:a≠b):aq P (do eqGuard .neq t x y (.int k a) (.int k b);binOp .neq t (.int k a) (.int k b))=some (.bool true):=by rw [JH];simp [h]
theorem My(h:¬a≠b):aq P (do eqGuard .neq t x y (.int k a) (.int k b);binOp .neq t (.int k a) (.int k b))=some (.bool false):=by rw [JH,Classical.not_not.1 h];simp
end
def mo{α:Type}(w:Nat)(l:List α):Sl α:=
 match l with
 | []=>⟨false,0,[]⟩
 |_::_=>⟨true,w,l⟩
def moC{α:Type}(l:List α)(k:Nat):C:=
 match l with
 | []=> .p true (.s false 0 [])
 |_::_=> .own k 0 l.length
def moL{α:Type}(r:α->List T)(w:Nat)(l:List α)(k:Nat):List B1:=
 match l with
 | []=> []
 |_::_=> [(k,w,l.map (aL r))]
theorem nB{α:Type}(w:Nat)(l:List α):(mo w l).l=l:=by cases l<;>rfl
def qf(k:IntKind)(a b:Int):Option Int:=if b≠0 then some (k.wrap (a.tdiv b))else none
def sJ(a b:Int):Option Int:=if b≠0 then some (a.tmod b)else none
theorem mh{P:Program}{t:TypeId}{x y:Operand}{k:IntKind}{a b z:Int}(h:qf k a b=some z):aq P (do eqGuard .quo t x y (.int k a) (.int k b);binOp .quo t (.int k a) (.int k b))=some (.int k z):=by
 unfold qf at h;split at h
 .rename_i hc;rw [<-Option.some.inj h];exact RY _ _ _ _ _ _ _ hc
 .simp at h
theorem wu{P:Program}{t:TypeId}{x y:Operand}{k:IntKind}{a b z:Int}(h:sJ a b=some z):aq P (do eqGuard .rem t x y (.int k a) (.int k b);binOp .rem t (.int k a) (.int k b))=some (.int k z):=by
 unfold sJ at h;split at h
 .rename_i hc;rw [<-Option.some.inj h];exact RZ _ _ _ _ _ _ _ hc
 .simp at h
def eP(i:Int):Option Unit:=if 0<=i/\i.toNat<=cE then some ()else none
def JZ(i j:Int):Option Unit:=if i=j then some ()else if i<=j/\j.toNat<=cE then some ()else none
theorem EP{i j:Int}{u:Unit}(h:JZ i j=some u):i=j∨(i<=j/\j.toNat<=cE):=by
 unfold JZ at h;split at h
 .rename_i hi;exact .inl hi
 .split at h
  .rename_i hj;exact .inr hj
  .simp at h
theorem bU{i:Int}{u:Unit}(h:eP i=some u):0<=i/\i.toNat<=cE:=by
 unfold eP at h;split at h
 .assumption
 .simp at h
end Ev
end
noncomputable section
namespace Ev
open Go Go.RowKit
def Ka(x:Int)(k:IntKind)(y:Int):Int:=x.fdiv (2 ^(min y.toNat k.bits))
def Mz(x:Int)(k:IntKind)(y:Int):Int:=k.wrap (x*2 ^(min y.toNat k.bits))
def uh(k:IntKind)(x y:Int):Option Int:=if 0<=y then some (Ka x k y)else none
def EQ(k:IntKind)(x y:Int):Option Int:=if 0<=y then some (Mz x k y)else none
theorem Kb{P:Program}{t:TypeId}{x y:Operand}{k k':IntKind}{a b z:Int}(h:uh k a b=some z):aq P (do eqGuard .shr t x y (.int k a) (.int k' b);binOp .shr t (.int k a) (.int k' b))=some (.int k z):=by
 unfold uh at h;split at h
 .rename_i hc;rw [<-Option.some.inj h]
  have:(do eqGuard .shr t x y (.int k a) (.int k' b);binOp .shr t (.int k a) (.int k' b))=(pure (.int k (Ka a k b)):Sem Value):=by
   show Op.shift .shr k a k' b=_;unfold Op.shift;rw [if_neg (by omega)];rfl
  rw [this];rfl
 .simp at h
theorem NR{P:Program}{t:TypeId}{x y:Operand}{k k':IntKind}{a b z:Int}(h:EQ k a b=some z):aq P (do eqGuard .shl t x y (.int k a) (.int k' b);binOp .shl t (.int k a) (.int k' b))=some (.int k z):=by
 unfold EQ at h;split at h
 .rename_i hc;rw [<-Option.some.inj h]
  have:(do eqGuard .shl t x y (.int k a) (.int k' b);binOp .shl t (.int k a) (.int k' b))=(pure (.int k (Mz a k b)):Sem Value):=by
   show Op.shift .shl k a k' b=_;unfold Op.shift;rw [if_neg (by omega)];rfl
  rw [this];rfl
 .simp at h
def sK(k:IntKind)(x y:Int):Int:=k.wrap (BitVec.ofInt k.bits x &&& BitVec.ofInt k.bits y).toNat
def orI(k:IntKind)(x y:Int):Int:=k.wrap (BitVec.ofInt k.bits x|||BitVec.ofInt k.bits y).toNat
def OY(k:IntKind)(x y:Int):Int:=k.wrap (BitVec.ofInt k.bits x ^^^ BitVec.ofInt k.bits y).toNat
def fW(k:IntKind)(x y:Int):Int:=k.wrap (BitVec.ofInt k.bits x &&& ~~~ BitVec.ofInt k.bits y).toNat
section
variable (P : Program) (t : TypeId) (x y : Operand) (k : IntKind) (a b : Int)
theorem CP:aq P (do eqGuard .and t x y (.int k a) (.int k b);binOp .and t (.int k a) (.int k b))=some (.int k (sK k a b)):=by cases k<;>rfl
theorem MA:aq P (do eqGuard .or t x y (.int k a) (.int k b);binOp .or t (.int k a) (.int k b))=some (.int k (orI k a b)):=by cases k<;>rfl
theorem Si:aq P (do eqGuard .xor t x y (.int k a) (.int k b);binOp .xor t (.int k a) (.int k b))=some (.int k (OY k a b)):=by cases k<;>rfl
theorem CQ:aq P (do eqGuard .andNot t x y (.int k a) (.int k b);binOp .andNot t (.int k a) (.int k b))=some (.int k (fW k a b)):=by cases k<;>rfl
end
section
variable {E : Env} {y : Nat → fu} {n nt : Nat} {f : Nat → D} {L : BL}
def pc{α:Type}(w:Nat)(s:Sl α)(lo hi:Int):Option (Sl α):=if 0<=lo/\lo<=hi/\hi<=(s.l.length:Int)/\(s.sz=w∨lo=0)then some ⟨s.nn,s.sz,(s.l.drop lo.toNat).take (hi.toNat - lo.toNat)⟩else none
theorem dj{α:Type}{w:Nat}{s s':Sl α}{lo hi:Int}(h:pc w s lo hi=some s'):(0<=lo/\lo<=hi/\hi<=(s.l.length:Int)/\(s.sz=w∨lo=0))/\s'=⟨s.nn,s.sz,(s.l.drop lo.toNat).take (hi.toNat - lo.toNat)⟩:=by
 unfold pc at h;split at h
 .rename_i hc;exact⟨hc,(Option.some.inj h).symm⟩
 .simp at h
theorem Ge{ρ:Operand->Option D}(d:Nat):fD ρ none d=some ((d:Int)).toNat:=by simp [fD]
theorem jD{y:Operand}{fr:Bool}{k:IntKind}{i:Int}(hx:ov nt f y=some (.one (.p fr (.v (.int k i)))))(h0:0<=i)(d:Nat):fD (ov nt f) (some y) d=some i.toNat:=by
 show(ov nt f y).bind gY=_;rw [hx];exact gO fr k _ h0
theorem CR{α:Type}{r:α->List T}{ty e:TypeId}{t te:TI}{x:Operand}{lo hi mx:Option Operand}{fr nn:Bool}{sz m:Nat}{l:List α}{s':Sl α}{i j:Int}(hc:pc te.size ⟨nn,sz,l⟩ i j=some s')(hx:ov nt f x=some (.one (.p fr (.s nn sz (l.map r)))))(ht:E.ti ty=some t)(he:bn t=some e)(hte:E.ti e=some te)(hlo:fD (ov nt f) lo 0=some i.toNat)(hhi:fD (ov nt f) hi l.length=some j.toNat)(hmx:fD (ov nt f) mx l.length=some m)(hm:(mx.isSome && hi.isNone)=false)(hm1:j.toNat<=m)(hm2:m<=l.length):PS E n nt f L (.slice ty x lo hi mx) (.one (.p fr (Sl.t r s'))):=λh nid hb=>by
 obtain⟨⟨c1,c2,c3,c4⟩,rfl⟩:=dj hc;simp only at c1 c2 c3 c4;show(if(mx.isSome && hi.isNone)=true then none else(E.ti ty).bind λt=>(bn t).bind λq=>(E.ti q).bind λte=>(aS (aU (tab nt f)) x).bind λd=>(xp d).bind λn=>(fD (aS (aU (tab nt f))) hi n).bind λh'=>(fD (aS (aU (tab nt f))) lo 0).bind λl'=>(fD (aS (aU (tab nt f))) mx n).bind λm'=>if l'<=h'/\h'<=m'/\m'<=n then _ else _)=_;rw [if_neg (by rw [hm];simp),ht,dY];simp only [zbS,he,hte,hx,EO,hhi,hlo,hmx];rw [if_pos (by omega)];show(if sz=te.size∨i.toNat=0 then _ else _)=_;rw [if_pos (by rcases c4 with h|h;exact .inl h;exact .inr (by omega))];unfold Sl.t;rw [List.map_take,List.map_drop]
theorem od{α:Type}{r:α->List T}{ty e:TypeId}{t te:TI}{x:Operand}{lo hi:Option Operand}{fr nn:Bool}{sz:Nat}{l:List α}{s':Sl α}{i j:Int}(hc:pc te.size ⟨nn,sz,l⟩ i j=some s')(hx:ov nt f x=some (.one (.p fr (.s nn sz (l.map r)))))(ht:E.ti ty=some t)(he:bn t=some e)(hte:E.ti e=some te)(hlo:fD (ov nt f) lo 0=some i.toNat)(hhi:fD (ov nt f) hi l.length=some j.toNat):PS E n nt f L (.slice ty x lo hi none) (.one (.p fr (Sl.t r s'))):=
 CR hc hx ht he hte hlo hhi (m:=l.length) rfl rfl (by have:=(dj hc).1;simp only at this;omega) (Nat.le_refl _)
theorem iZ{ty e:TypeId}{t te:TI}{m z:Nat}{x ix:Operand}{fb:Bool}{kb:IntKind}{k i j a:Nat}(ht:E.ti ty=some t)(hd:t.desc= .array m e)(hte:E.ti e=some te)(hz:te.size=z)(hx:ov nt f x=some (.one (.ptr k i j)))(hi:ov nt f ix=some (.one (.p fb (.v (.int kb (a:Int))))))(ha:Nat.blt a m=true):PS E n nt f L (.indexAddr ty x ix) (.one (.ptr k i (j+a*z))):=λh nid hb=>by
 rw [ur,bV,hx,bV,hi];refine Eq.trans (b:=CG E.ti ty h a (.one (.ptr k i j))) rfl ?_
 show((E.ti ty).bind λt=>match t.desc with
  | .array n e=>(E.ti e).bind λte=>if a<n then some (⟨.one (.ptr k i (j+a*te.size)),[]⟩:Eff)else none
  |_=>none)=_
 rw [ht];simp only [zbS,hd,hte];rw [if_pos (ew ha),hz]
theorem FO{α:Type}{k i:Nat}{l:List α}{x:α}:D.one (C.own k 0 l.length)=D.one (C.own k 0 (l.set i x).length):=by rw [List.length_set]
variable {ops : Array Oper} {r : List Oper} {K : St → Prop}
theorem dH(i:Nat){v:D}(h:f i=v)(h2:dp E y n nt ops r K (up f i v) L):dp E y n nt ops r K f L:=by rw [AB h]at h2;exact h2
theorem jg{q w b:Nat}{O:List (List Nat)}{N:List (Bool×List Nat)}{R:List (List Nat)}(i:Nat){v:D}(h:f i=v)(h2:TnL E n nt ops r q w O N R b K (up f i v) L):TnL E n nt ops r q w O N R b K f L:=by rw [AB h]at h2;exact h2
def bM(a b:Int):Int:=if b<a then b else a
def aT(a b:Int):Int:=if b>a then b else a
theorem ic{c:Call}{x y:Operand}{ty:TypeId}{t:TI}{fa fb:Bool}{ka kb:IntKind}{a b:Int}(hx:ov nt f x=some (.one (.p fa (.v (.int ka a)))))(hy:ov nt f y=some (.one (.p fb (.v (.int kb b)))))(ht:E.ti ty=some t)(hargs:c.args.toList= [x,y])(hty:c.argTypes[0]? =some ty):(c.callee= .builtin .min->PS E n nt f L (.call c) (iD ka (bM a b)))/\(c.callee= .builtin .max->PS E n nt f L (.call c) (iD ka (aT a b))):=by
 constructor<;>intro hc h nid hb
 all_goals
  have h1:bi (.call c)=none:=by unfold bi;simp only [hc]
  rw [ju,h1];unfold sem sD;simp only [hc,hty,ht,hargs,dY,zbB,zbS,List.mapM_cons,List.mapM_nil,hx,hy,Option.pure_def,plain,pE];rfl
theorem Kc{α:Type}{l m x:List α}(h:app l m=some x):x=l++m:=(dv h).2
theorem Gf{α:Type}{l m x:List α}(h:app l m=some x):x.length<=cE:=by
 obtain⟨h1,rfl⟩:=dv h;simpa using h1
theorem Gg{α:Type}{ro:α->List C}{c:Call}{a x:Operand}{ty ty1 z e1:TypeId}{t1:TI}{fr:Bool}{bz:Nat}{d:D}{y:α}{ys:List α}(ha:ov nt f a=some (.one (.p fr (.s false bz []))))(hx:ov nt f x=some d)(hxs:pA L d ((y::ys).map ro))(hb:(y::ys).length<=cE)(hr:∀y,(ro y).length=z)(hz:cZ E.ti ty=some z)(ht1:E.ti ty1=some t1)(he1:bn t1=some e1)
  (hc:c.callee= .builtin .append) (hargs:c.args.toList= [a,x]) (hty:c.argTypes[0]? =some ty) (hty1:c.argTypes[1]? =some ty1):PN E n nt f L (.call c) (λk=> .one (.own k 0 (y::ys).length)) z ((y::ys).map ro):=by
 have:=OW (n:=n) ha hx hxs ⟨_,_,rfl⟩ (by simpa using hb) (by simp [hr]) hz ht1 he1 hc hargs hty hty1
 rw [List.length_map]at this;exact this
end
theorem dO{α:Type}{w:Nat}{l:List α}{i:Int}{x:α}(h:atS w (mo w l) i=some x):0<=i/\l[i.toNat]? =some x:=by
 obtain⟨h1,_,h2⟩:=bw h;rw [nB]at h2;exact⟨h1,h2⟩
theorem uv{α:Type}{w:Nat}{i:Int}{x:α}(h:atS w (⟨false,0,[]⟩:Sl α) i=some x):False:=by
 obtain⟨_,_,h2⟩:=bw h;simp at h2
def Kd{α:Type}(w:Nat)(r:α->List T)(l:List α):Kind×List TD:=
 match l with
 | []=>(.fresh,[.one (.s false 0 [])])
 |y::t=>(.own,[.one (.s true w ((y::t).map r))])
theorem Tn{E:Env}{n:Nat}{k:FuncId}{fi:FI}{vs:List TD}{rs:Kind×List TD}(ha:E.ax k=none)(hf:E.fn k=some fi)(hl:Nat.ble vs.length fi.nt=true)(h:WpL E nY n fi.nt fi.body (hZ E fi.results rs) (f0 vs) []):RunsP E (n+1) k vs rs:=mE ha hf (Nat.le_of_ble_eq_true hl) (h [] ⟨List.nodup_nil,λx hx=>by simp at hx⟩)
section
variable {α : Type} {rw_ : α → List T} {w k : Nat} {l : List α}
theorem ml{L:BL}{p:Nat}{r:α->List T}(hp:L[p]? =some (moL r w l k)){i:Nat}{y:α}(hy:l[i]? =some y):L[p]? =some [(k,w,l.map (aL r))]:=by
 cases l with
 |nil=>simp at hy
 |cons a l=>exact hp
theorem yc{r:α->List T}{i:Nat}{y y':α}(hy:l[i]? =some y): [(k,w,(l.set i y').map (aL r))]=moL r w (l.set i y') k:=by
 cases l with
 |nil=>simp at hy
 |cons a l=>cases i<;>rfl
theorem cv{i:Nat}{x:α}:moC l k=moC (l.set i x) k:=by
 cases l with
 |nil=>rfl
 |cons a l=>
  have h:∀m:List α,m≠[]->moC m k= .own k 0 m.length:=λm hm=>by cases m with|nil=>exact absurd rfl hm|cons b m=>rfl
  rw [h _ (by simp),h _ (by simp),List.length_set]
theorem Ke:xp (.one (moC l k))=some l.length:=by cases l<;>rfl
end
section
variable {E : Env} {y : Nat → fu} {n nt : Nat} {f : Nat → D} {L : BL} {ops : Array Oper} {o : Oper} {rr : List Oper} {K : St → Prop} {d : Nat}
theorem wv{α:Type}{l:List α}{c:Call}{a:Operand}{ty e:TypeId}{t:TI}{k:Nat}(hx:ov nt f a=some (.one (moC l k)))(ht:E.ti ty=some t)(hd:t.desc= .slice e)(hc:c.callee= .builtin .len)(ha:c.args.toList= [a])(hty:c.argTypes[0]? =some ty):PS E n nt f L (.call c) (iD .i64 l.length):=EN hc ha hty ht hd hx Ke
theorem jh{α:Type}{r:α->List T}{ty:TypeId}{x ix:Operand}{fb:Bool}{k w:Nat}{l:List α}{kb:IntKind}{i:Int}{y:α}(p:Nat)(hx:ov nt f x=some (.one (moC l k)))(hi:ov nt f ix=some (.one (.p fb (.v (.int kb i)))))(h0:0<=i)(hy:l[i.toNat]? =some y)(hp:L[p]? =some (moL r w l k))(hz:cZ E.ti ty=some w):PS E n nt f L (.indexAddr ty x ix) (.one (.ptr k i.toNat 0)):=by
 cases l with
 |nil=>simp at hy
 |cons a l=>exact kD (r:=aL r) p hx hi h0 hy hp hz
def moK{α:Type}(l:List α)(k:Nat):List Nat:=
 match l with
 | []=> []
 |_::_=> [k]
theorem huM{α:Type}{l:List α}{k j:Nat}{y:α}{u:List Nat}(hy:l[j]? =some y)(h:u=moK l k++ []):u= [k]:=by
 cases l with
 |nil=>simp at hy
 |cons a l=>rw [h];rfl
theorem HB.dropNil{h:aC}{L:BL}{p:Nat}(hp:L[p]? =some [])(hb:HB h L):HB h (L.eraseIdx p):=by unfold HB;rw [yK hp];exact hb
theorem ww{p:Nat}(hp:L[p]? =some [])(h:dp E y n nt ops rr K f (L.eraseIdx p)):dp E y n nt ops rr K f L:=λH hb=>h H (hb.dropNil hp)
theorem qg{α:Type}{Q:Ex->St->Prop}{c:Code}(r:α->List T)(w:Nat)(h:WpL E y n nt c Q f (moL r w ([]:List α) 0::L)):WpL E y n nt c Q f L:=λH hb=>h H hb
theorem wx{α:Type}:∀{l:List α} {q:Nat} {s:α},l[q]? =some s->l.set q s=l
 | [],q,s,h=>by simp at h
 |a::l,0,s,h=>by simp at h;subst h;rfl
 |a::l,q+1,s,h=>by rw [List.set_cons_succ,wx (by simpa using h)]
theorem kv(q:Nat){s s':List B1}(hq:L[q]? =some s)(he:s=s')(h:dp E y n nt ops rr K f (L.set q s')):dp E y n nt ops rr K f L:=by subst he;rw [wx hq]at h;exact h
theorem Kf{i wd b:Nat}{O:List (List Nat)}{N:List (Bool×List Nat)}{R:List (List Nat)}(q:Nat){s s':List B1}(hq:L[q]? =some s)(he:s=s')(h:TnL E n nt ops rr i wd O N R b K f (L.set q s')):TnL E n nt ops rr i wd O N R b K f L:=by subst he;rw [wx hq]at h;exact h
theorem fe{α:Type}{k:Nat}{l m r:List α}(h:cpL l m=some r):C.own k 0 l.length=C.own k 0 r.length:=by rw [AE h]
theorem bW{α:Type}{k i:Nat}{l:List α}{x:α}:C.own k 0 l.length=C.own k 0 (l.set i x).length:=by rw [List.length_set]
theorem ja{α:Type}{l:List α}{k k2:Nat}(h:k2 ∉ moK l k):∀x∈moK l k,¬x=k2:=λx hx e=>h (e▸hx)
theorem oK{α:Type}{r:α->List T}{c:Call}{a x:Operand}{ty ty1 w e1:TypeId}{t1:TI}{k:Nat}{l ys lm:List α}{dx:D}(p:Nat)(hw:dn ops o nt f=some true)(hd:o.dst=some d)(hn:Nat.blt d nt=true)(ho:o.op= .call c)(ha:ov nt f a=some (.one (moC l k)))(hx:ov nt f x=some dx)(hxs:pA L dx (ys.map (aL r)))(hp:L[p]? =some (moL r w l k))(hlm:app l ys=some lm)(hr:∀y,(aL r y).length=w)(hz:cZ E.ti ty=some w)(ht1:E.ti ty1=some t1)(he1:bn t1=some e1)
  (hc:c.callee= .builtin .append) (hargs:c.args.toList= [a,x]) (hty:c.argTypes[0]? =some ty) (hty1:c.argTypes[1]? =some ty1) (h:∀k',dp E y n nt ops rr K (up f d (.one (moC lm k'))) (moL r w lm k'::L.eraseIdx p)) (hz0:Nat.beq w 0=false:=by rfl):dp E y n nt ops (o::rr) K f L:=by
 cases l with
 |nil=>
  have hlm2:=Kc hlm;rw [List.nil_append]at hlm2;subst hlm2;have hb:=Gf hlm
  cases lm with
  |nil=>exact EI hw hd hn (by rw [ho];exact OX ha hx hxs hz ht1 he1 hc hargs hty hty1) (ww hp (h 0))
  |cons y ys=>
   refine aD hw hd hn (by rw [ho];exact Gg (ro:=aL r) ha hx hxs hb hr hz ht1 he1 hc hargs hty hty1) λk'=> ?_;exact ww (p:=p+1) hp (h k')
 |cons y l=>
  obtain⟨_,rfl⟩:=dv hlm;exact ON hw hd hn (by rw [ho];exact NQ (r:=aL r) p ha hx hxs rfl hp hlm hr hz ht1 he1 hc hargs hty hty1 hz0) rfl h
theorem ER{i q b p:Nat}{O:List (List Nat)}{N:List (Bool×List Nat)}{R:List (List Nat)}(hp:L[p]? =some [])(h:TnL E n nt ops rr i q O N R b K f (L.eraseIdx p)):TnL E n nt ops rr i q O N R b K f L:=λH hb hl=>h H (hb.dropNil hp) hl
theorem AH{α:Type}{r:α->List T}{c:Call}{a x:Operand}{ty ty1 w e1:TypeId}{t1:TI}{k i wd b:Nat}{O:List (List Nat)}{N:List (Bool×List Nat)}{R:List (List Nat)}{A:BL}{l ys lm:List α}{y0:α}{dx:D}(p q:Nat)(hw:dn ops o nt f=some true)(hd:o.dst=some d)(hn:Nat.blt d nt=true)(ho:o.op= .call c)(is:List Nat)(hn2:is.Nodup)(hA:is.filterMap (λi=>L[i]?)=A)(hm:∀x∈A.flatten,x.1 ∉(R.getD i []).flatMap (bg b O N))(hu:bg b O N i=moK l k++ [b+i])(hi:Nat.blt i wd=true)(hk:∀x∈L.flatten,x.1≠b+i)
  (ha:ov nt f a=some (.one (moC l k))) (hx:ov nt f x=some dx) (hxs:pA A dx ((y0::ys).map (aL r))) (hp:A[p]? =some (moL r w l k)) (hq:L[q]? =some (moL r w l k)) (hlm:app l (y0::ys)=some lm) (hr:∀y,(aL r y).length=w) (hz:cZ E.ti ty=some w) (ht1:E.ti ty1=some t1) (he1:bn t1=some e1)
  (hc:c.callee= .builtin .append) (hargs:c.args.toList= [a,x]) (hty:c.argTypes[0]? =some ty) (hty1:c.argTypes[1]? =some ty1) (h:TnL E n nt ops rr (i+1) wd O N R b K (up f d (.one (moC lm (b+i)))) (moL r w lm (b+i)::L.eraseIdx q)) (hz0:Nat.beq w 0=false:=by rfl):TnL E n nt ops (o::rr) i wd O N R b K f L:=by
 cases l with
 |nil=>
  have hlm2:=Kc hlm;rw [List.nil_append]at hlm2;subst hlm2;have hb:=Gf hlm;refine eH hw hd hn is hn2 hA hm hu hi hk (by rw [ho];exact Gg (ro:=aL r) ha hx hxs hb hr hz ht1 he1 hc hargs hty hty1) ?_;exact ER (p:=q+1) hq h
 |cons y l=>
  obtain⟨_,rfl⟩:=dv hlm;exact OQ hw hd hn is hn2 hA hm hu hi hk (by rw [ho];exact NQ (r:=aL r) p ha hx hxs rfl hp hlm hr hz ht1 he1 hc hargs hty hty1 hz0) hq rfl h
theorem hkM{α:Type}{r:α->List T}{w k z:Nat}{l:List α}{A:BL}(h1:l= []∨k≠z)(h2:∀x∈A.flatten,x.1≠z):∀x∈(moL r w l k::A:BL).flatten,x.1≠z:=λx hx=>by
 rw [List.flatten_cons,List.mem_append]at hx;rcases hx with hx|hx
 .cases l with
  |nil=>simp [moL]at hx
  |cons a l=>simp only [moL,List.mem_singleton]at hx;subst hx;exact h1.resolve_left (by simp)
 .exact h2 x hx
theorem eL{α:Type}{r:α->List T}{w k b:Nat}{l:List α}(h:∀x∈L.flatten,x.1<b)(p:Nat)(hp:L[p]? =some (moL r w l k)):l= []∨k<b:=by
 cases l with
 |nil=>exact .inl rfl
 |cons a l=>exact .inr (av h p hp)
theorem gn{α:Type}{r:α->List T}{w k k2:Nat}{l:List α}{x2:Nat×List (List C)}(hn:(L.flatten.map (·.1)).Nodup)(p q:Nat)(hp:L[p]? =some (moL r w l k))(hq:L[q]? =some [(k2,x2)])(hpq:Nat.beq p q=false):k2 ∉ moK l k:=by
 cases l with
 |nil=>simp [moK]
 |cons a l=>have:=EL hn p q hp hq hpq;simp [moK];omega
theorem kw{α:Type}{l:List α}{k b:Nat}(h:l= []∨k<b):∀x∈moK l k,x<b:=λx hx=>by
 cases l with
 |nil=>simp [moK]at hx
 |cons a l=>simp only [moK,List.mem_singleton]at hx;subst hx;exact h.resolve_left (by simp)
theorem Kg{α:Type}{r:α->List T}{w k:Nat}{l:List α}(p:Nat)(hp:L[p]? =some (moL r w l k))(hr:∀x h m,(aL r x).mapM (eN h (m+1))=some ((r x).map λt=>(true,t))):∀h,HB h L->∀m,eN h (m+2) (moC l k)=some (true,Sl.t r (mo w l)):=by
 cases l with
 |nil=>exact λh hb m=>rfl
 |cons a l=>exact cd (r:=r) p hp hr
theorem OZ{α:Type}{r:α->List T}{rv:List ResultVar}{k w:Nat}{l:List α}{e:Ex}(p:Nat)(he:e= .normal∨e= .ret)(hr:yb E nt f L rv [.one (moC l k)])(hp:L[p]? =some (moL r w l k))(hr2:∀x h m,(aL r x).mapM (eN h (m+1))=some ((r x).map λt=>(true,t)))(hpl:∀x,(aL r x).all pG=true):cP nt (hZ E rv (Kd w r l)) e f L:=by
 cases l with
 |nil=>exact aR he hr (ae (ak aV) aj) (λh hb=>JY) rfl rfl
 |cons a l=>exact ku (r:=r) p he hr hp hr2 hpl
end
theorem dh{α β:Type}(P:Program)(s:Sem α)(k:α->Sem β):aq P (s>>=k)=(aq P s).bind λa=>aq P (k a):=by
 induction s with
 |pure a=>rfl
 |program q ih=>exact ih P
 |_=>rfl
section
variable {P : Program}
theorem rn{t:TypeId}{d:TypeDesc}(h:P.underlying t=some d):aq P (underlying t)=some d:=by
 have:aq P (underlying t)=match P.underlying t with|some d=>some d|none=>none:=by
  show aq P (underlying t)=_
  cases hx:P.underlying t with
  |none=>rw [hx]at h;simp at h
  |some d'=>
   unfold underlying;simp [dh,program,aq,hx];rfl
 rw [this,h]
theorem iu(d:Nat)(t:TypeId)(xs ys:Array Value){fs:Array Field}(ht:P.underlying t=some (.struct fs))(hp:P.stoodInHeld t=false):
  aq P (Op.equalIn (d+1) t (.agg xs) (.agg ys))=aq P (Op.eqFields d xs ys fs.toList):=by
 have e1:aq P program=some P:=rfl;simp only [Op.equalIn,dh,rn ht,zbS,e1,hp,Bool.false_eq_true,if_false];rw [<-Array.forIn_toList];generalize fs.toList=fs;clear ht
 induction fs with
 |nil=>rfl
 |cons f fs ih=>
  simp only [List.forIn_cons,Op.eqFields,dh];by_cases hf:f.name≠ "_"
  .simp only [if_pos hf,dh]
   cases aq P (part f.type xs f.offset)with
   |none=>rfl
   |some a=>
    cases aq P (part f.type ys f.offset)with
    |none=>rfl
    |some b=>
     simp only [zbS]
     cases aq P (Op.equalIn d f.type a b)with
     |none=>rfl
     |some q=>
      cases q
      .rfl
      .exact ih
  .simp only [if_neg hf,dh];exact ih
theorem dP{d:Nat}{xs ys:Array Value}{f:Field}{fs:List Field}{k k':IntKind}{a b:Int}(hf:(f.name== "_")=false)(h1:aq P (part f.type xs f.offset)=some (.int k a))(h2:aq P (part f.type ys f.offset)=some (.int k b))(h3:P.underlying f.type=some (.int k')):
  aq P (Op.eqFields (d+1) xs ys (f::fs))=if(a==b)=true then aq P (Op.eqFields (d+1) xs ys fs)else some false:=by
 have hf':f.name≠ "_" :=by simpa using hf
 have h4:aq P (Op.equalIn (d+1) f.type (.int k a) (.int k b))=some (a==b):=by
  simp only [Op.equalIn,dh,rn h3,zbS,if_true];rfl
 simp only [Op.eqFields,if_pos hf',dh,h1,h2,h4,zbS];cases a==b<;>rfl
theorem gC{d:Nat}{xs ys:Array Value}:aq P (Op.eqFields d xs ys [])=some true:=rfl
theorem wy{t:TypeId}{x y:Operand}{xs ys:Array Value}{b:Bool}(hg:P.eqGuardType P.depth t=false)(h:aq P (Op.equalIn 10000 t (.agg xs) (.agg ys))=some b):aq P (do eqGuard .eql t x y (.agg xs) (.agg ys);binOp .eql t (.agg xs) (.agg ys))=some (.bool b):=by
 have e1:aq P program=some P:=rfl
 have h1:aq P (eqGuard .eql t x y (.agg xs) (.agg ys))=some ():=by
  simp only [eqGuard,Bool.not_true,Bool.false_eq_true,if_false,dh,e1,zbS,hg,Bool.not_false,if_true];rfl
 rw [dh,h1];show aq P (binOp .eql t (.agg xs) (.agg ys))=_;have h2:binOp .eql t (.agg xs) (.agg ys)=(do pure (.bool (<-Op.equal t (.agg xs) (.agg ys)))):=rfl;rw [h2,dh];unfold Op.equal Op.maxDepth;rw [h];rfl
theorem rp{t:TypeId}{x y:Operand}{xs ys:Array Value}{b:Bool}(hg:P.eqGuardType P.depth t=false)(h:aq P (Op.equalIn 10000 t (.agg xs) (.agg ys))=some b):aq P (do eqGuard .neq t x y (.agg xs) (.agg ys);binOp .neq t (.agg xs) (.agg ys))=some (.bool (!b)):=by
 have e1:aq P program=some P:=rfl
 have h1:aq P (eqGuard .neq t x y (.agg xs) (.agg ys))=some ():=by
  simp only [eqGuard,Bool.not_true,Bool.false_eq_true,if_false,dh,e1,zbS,hg,Bool.not_false,if_true];rfl
 rw [dh,h1];show aq P (binOp .neq t (.agg xs) (.agg ys))=_;have h2:binOp .neq t (.agg xs) (.agg ys)=(do pure (.bool (!(<-Op.equal t (.agg xs) (.agg ys))))):=rfl;rw [h2,dh];unfold Op.equal Op.maxDepth;rw [h];rfl
theorem jb{a b:Bool}{q:Option Bool}(h:q=some b):(if a=true then q else some false)=some (a && b):=by cases a<;>simp [h]
end
end Ev
end
noncomputable section
namespace Ev
open Go Go.RowKit
def inK(k:IntKind)(x:Int):Prop:=(Lit.int k x).wf=true
def SlW{α:Type}(w:Nat)(Q:α->Prop)(s:Sl α):Prop:=s.sz=w/\(s.nn=false->s.l= [])/\s.l.length<=maxLen/\∀x∈s.l,Q x
section
variable {P : Program} {t : TypeId} {ts : List T}
theorem AI{k:IntKind}(hu:P.underlying t=some (.int k))(h:Typ P t ts):∃x:Int,ts= [iT k x]/\inK k x:=by
 cases h with
 |int _ k' n h hw=>rw [hu]at h;cases h;exact⟨n,rfl,hw⟩
 |bool _ b h=>rw [hu]at h;simp at h
 |str _ s h=>rw [hu]at h;simp at h
 |slice _ e nn l h=>rw [hu]at h;simp at h
 |struct _ fs tss h=>rw [hu]at h;simp at h
 |array _ n e tss h=>rw [hu]at h;simp at h
theorem yN{α β:Type}{r:α->β}{Q:α->Prop}:∀{l:List β},(∀es∈l,∃x,es=r x/\Q x)->∃xs:List α,l=xs.map r/\∀x∈xs,Q x
 | [],_=>⟨[],rfl,λx hx=>by simp at hx⟩
 |e::l,h=>by
  obtain⟨x,rfl,hx⟩:=h e List.mem_cons_self;obtain⟨xs,rfl,hxs⟩:=yN λe he=>h e (List.mem_cons_of_mem _ he);exact⟨x::xs,rfl,λy hy=>by rcases List.mem_cons.1 hy with rfl|hy;exact hx;exact hxs y hy⟩
theorem HY{α:Type}{r:α->List T}{Q:α->Prop}{e:TypeId}{w:Nat}(hu:P.underlying t=some (.slice e))(hw:P.cellsOf e=w)(he:∀ts,Typ P e ts->∃x,ts=r x/\Q x)(h:Typ P t ts):∃s:Sl α,ts= [Sl.t r s]/\SlW w Q s:=by
 cases h with
 |slice _ e' nn l h hn hl h1 h2=>
  rw [hu]at h;cases h;obtain⟨xs,rfl,hq⟩:=yN (r:=r) (Q:=Q) λes hes=>he es (h2 es hes);exact⟨⟨nn,w,xs⟩,by rw [hw];rfl,rfl,λhh=>by simpa using hn hh,by simpa using hl,hq⟩
 |int _ k' n h hw=>rw [hu]at h;simp at h
 |bool _ b h=>rw [hu]at h;simp at h
 |str _ s h=>rw [hu]at h;simp at h
 |struct _ fs tss h=>rw [hu]at h;simp at h
 |array _ n e tss h=>rw [hu]at h;simp at h
theorem ES{fs:Array Field}(hu:P.underlying t=some (.struct fs))(h:Typ P t ts):∃tss:List (List T),ts=tss.flatten/\tss.length=fs.toList.length/\∀(i:Nat) f ts',fs.toList[i]? =some f->tss[i]? =some ts'->Typ P f.type ts':=by
 cases h with
 |struct _ fs' tss h hl hf=>rw [hu]at h;cases h;exact⟨tss,rfl,by simpa using hl,λi f ts' h1 h2=>hf i f ts' (by simpa using h1) h2⟩
 |int _ k' n h hw=>rw [hu]at h;simp at h
 |bool _ b h=>rw [hu]at h;simp at h
 |str _ s h=>rw [hu]at h;simp at h
 |slice _ e nn l h=>rw [hu]at h;simp at h
 |array _ n e tss h=>rw [hu]at h;simp at h
theorem HZ{n:Nat}{e:TypeId}(hu:P.underlying t=some (.array n e))(h:Typ P t ts):∃tss:List (List T),ts=tss.flatten/\tss.length=n/\∀ts'∈tss,Typ P e ts':=by
 cases h with
 |array _ n' e' tss h hl hf=>rw [hu]at h;cases h;exact⟨tss,rfl,hl,hf⟩
 |int _ k' n h hw=>rw [hu]at h;simp at h
 |bool _ b h=>rw [hu]at h;simp at h
 |str _ s h=>rw [hu]at h;simp at h
 |slice _ e nn l h=>rw [hu]at h;simp at h
 |struct _ fs tss h=>rw [hu]at h;simp at h
theorem CS{ts:List TypeId}{tds:List TD}{d:TypeDesc}(hu:P.underlying t=some d)(ha:br d=false)(h:nX P (t::ts) tds):∃x r,tds= .one x::r/\Typ P t [x]/\nX P ts r:=by
 cases h with
 |cons t ts td ds h hr=>
  cases h with
  |one x h _=>exact⟨x,ds,rfl,h,hr⟩
  |agg xs h h2=>obtain⟨d',h3,h4⟩:=h2;rw [hu]at h3;cases h3;rw [ha]at h4;simp at h4
theorem Kh{ts:List TypeId}{tds:List TD}{d:TypeDesc}(hu:P.underlying t=some d)(ha:br d=true)(h:nX P (t::ts) tds):∃x r,tds= .agg x::r/\Typ P t x/\nX P ts r:=by
 cases h with
 |cons t ts td ds h hr=>
  cases h with
  |agg x h _=>exact⟨x,ds,rfl,h,hr⟩
  |one xs h h2=>obtain⟨d',h3,h4⟩:=h2;rw [hu]at h3;cases h3;rw [ha]at h4;simp at h4
theorem Ki{tds:List TD}(h:nX P [] tds):tds= []:=by cases h;rfl
end
theorem Pa{E:Env}{n:Nat}{k:FuncId}{tds:List TD}(h:RunsP E n k tds (.fresh,[.one (bT true)])):∃m n kind,(bS E m n).1 k tds=some (kind,[.one (.v (.bool true))]):=by
 obtain⟨M,hM⟩:=h;exact⟨M,n,.fresh,hM M (Nat.le_refl _)⟩
theorem eM{A R:Type}{b:A->Option (A ⊕ R)}(n:Nat)(I:Nat->A->Prop)(Q:R->Prop)(hs:∀j a,j<n->I j a->(∃a',b a=some (.inl a')/\I (j+1) a')∨∃r,b a=some (.inr r)/\Q r)(he:∀a,I n a->∃r,b a=some (.inr r)/\Q r)(j:Nat)(hj:j<=n)(a:A)(ha:I j a):∃r,bF b a=some r/\Q r:=by
 obtain⟨k,hk⟩:∃k,n=j+k:=⟨n - j,by omega⟩
 induction k generalizing j a with
 |zero=>
  have:j=n:=by omega
  subst this;obtain⟨r,h1,h2⟩:=he a ha;exact⟨r,ir h1,h2⟩
 |succ k ih=>
  rcases hs j a (by omega) ha with⟨a',h1,h2⟩|⟨r,h1,h2⟩
  .obtain⟨r,h3,h4⟩:=ih (j+1) (by omega) a' h2 (by omega);exact⟨r,(jv h1).trans h3,h4⟩
  .exact⟨r,ir h1,h2⟩
theorem ez{α:Type}{w:Nat}{s:Sl α}(hs:s.l= []∨s.sz=w){j:Nat}(hj:j<s.l.length):atS w s (j:Int)=some s.l[j]:=by
 have hw:s.sz=w:=hs.resolve_left (by intro h;rw [h]at hj;simp at hj);unfold atS;rw [if_pos ⟨by omega,hw⟩];simp
theorem rq{α:Type}{l:List α}{j:Nat}(hj:j<l.length):atL l (j:Int)=some l[j]:=by
 unfold atL;rw [if_pos (by omega)];simp
theorem qh{α:Type}{l m:List α}(h:l.length+m.length<=cE):app l m=some (l++m):=by unfold app;rw [if_pos h]
theorem gg{j n:Nat}(h:j<n)(hn:n<=9223372036854775807):IntKind.i64.wrap ((j:Int)+1)=((j+1:Nat):Int):=by rw [wrap64 (by omega) (by omega)];rfl
def neL{α:Type}(l:List α):Option Unit:=
 match l with
 | []=>none
 |_::_=>some ()
end Ev
end
noncomputable section
namespace Ev
open Go Go.RowKit
section
variable {E : Env} {y : Nat → fu} {n nt : Nat} {f : Nat → D} {L : BL}
def AJ(nt:Nat)(f:Nat->D)(l:List Operand):Option (List C):=l.mapM λx=>do match<-ov nt f x with| .one c=>some c|_=>none
theorem rt{fn:Fn}{first cap:Array Operand}{fs cs:List C}(h1:AJ nt f first.toList=some fs)(h2:AJ nt f cap.toList=some cs):PS E n nt f L (.makeFunc fn first cap) (.one (.clo fn fs cs)):=λh nid hb=>by
 show((first.toList.mapM λx=>(aS (aU (tab nt f)) x).bind λd=>match d with| .one c=>some c|_=>none).bind λa=>(cap.toList.mapM λx=>(aS (aU (tab nt f)) x).bind λd=>match d with| .one c=>some c|_=>none).bind λb=>some (⟨.one (.clo fn a b),[]⟩:Eff))=_;rw [dY];have h1':(first.toList.mapM λx=>(ov nt f x).bind λd=>match d with| .one c=>some c|_=>none)=some fs:=h1;have h2':(cap.toList.mapM λx=>(ov nt f x).bind λd=>match d with| .one c=>some c|_=>none)=some cs:=h2;rw [h1',h2'];rfl
def Kj(k:IntKind)(a:Int):Int:=OY k (if k.signed then -1 else k.max) a
theorem MB{ty:TypeId}{x:Operand}{fr:Bool}{k:IntKind}{a:Int}(hx:ov nt f x=some (.one (.p fr (.v (.int k a))))):PS E n nt f L (.unOp .xor ty x) (iD k (Kj k a)):=λh nid hb=>by
 show((aS (aU (tab nt f)) x).bind λd=>(plain d).bind λv=>(aq E.P (Op.unary .xor v)).bind mkO)=_;rw [bV,hx];cases k<;>rfl
def MC:C->Bool
 | .p _ _=>false
 | .own _ _ _=>false
 |_=>true
def unv:D->Bool
 | .one c=>MC c
 | .agg cs=>cs.any MC
 | .tup _=>true
theorem CT{h:aC}{c:C}(hc:MC c=true)(m:Nat):eN h (m+1) c=none:=by
 cases c<;>simp [MC]at hc<;>rfl
theorem sL{α β:Type}{g:α->Option β}:∀{l:List α},(∃x∈l,g x=none)->l.mapM g=none
 | [],h=>by obtain⟨x,hx,_⟩:=h;simp at hx
 |a::l,h=>by
  rw [List.mapM_cons]
  cases ha:g a with
  |none=>rfl
  |some b=>
   obtain⟨x,hx,hg⟩:=h;rcases List.mem_cons.1 hx with rfl|hx
   .rw [ha]at hg;simp at hg
   .rw [sL ⟨x,hx,hg⟩];rfl
theorem Ia{h:aC}{d:D}(hd:unv d=true):cz h d=none:=by
 cases d with
 |one c=>
  show(eN h 6 c).bind _=none;rw [CT hd];rfl
 |agg cs=>
  obtain⟨c,hc,hu⟩:=List.any_eq_true.1 hd;show(cs.mapM (eN h 6)).bind _=none;rw [sL ⟨c,hc,CT hu 5⟩];rfl
 |tup ds=>rfl
theorem Ib{h:aC}{ds:List D}(hd:ds.any unv=true):ds.mapM (cz h)=none:=by
 obtain⟨d,h1,h2⟩:=List.any_eq_true.1 hd;exact sL ⟨d,h1,Ia h2⟩
def fA(args:List D):Nat->D:=λi=>args.getD i co
theorem AK{args:List D}{k:Nat}(hl:args.length<=k):args++List.replicate (k - args.length) co=tab k (fA args):=by
 rw [JI (args++List.replicate (k - args.length) co)];have hlen:(args++List.replicate (k - args.length) co).length=k:=by simp;omega
 rw [hlen];refine List.ext_getElem? λi=> ?_;rw [jC,jC];split
 .rename_i hi;congr 1;unfold fA;rw [List.getD_eq_getElem?_getD,List.getD_eq_getElem?_getD,List.getElem?_append];split
  .rfl
  .rename_i hge;rw [List.getElem?_replicate,if_pos (by omega),List.getElem?_eq_none (by omega)];rfl
 .rfl
def CU(E:Env)(y:Nat->fu)(n nt:Nat)(ops:Array Oper)(r:List Oper)(K:St->Prop)(f:Nat->D)(d:Nat)(rv:List ResultVar):Ex->St->Prop:=λe s=>(e= .normal∨e= .ret)/\∃ds,rv.mapM (cQ E s)=some ds/\kp E y n ops r K {t:=tab nt (up f d (gV ds)),h:=s.h}
variable {ops : Array Oper} {o : Oper} {r : List Oper} {K : St → Prop} {d : Nat} {Q : Ex → St → Prop}
theorem iE{b:Bool}(h:dn ops o nt f=some b):gH ops (aU (tab nt f)) o=some b:=by
 obtain⟨g,g1,g2⟩:=du h;unfold gOf at g1;unfold gH
 cases ho:o.guard with
 |none=>rw [ho]at g1;simp only [zsI]at g1;subst g1;exact g2
 |some p=>
  obtain⟨j,w⟩:=p;rw [ho]at g1;simp only [Option.map_eq_some_iff]at g1;obtain⟨d,h1,h2⟩:=g1;subst h2;rw [zbE]at h1;obtain⟨o',h3,h4⟩:=h1;have h3':ops[j]? =some o':=by simpa using h3
  simp only [h3',h4,zbB,zbS];exact g2
theorem oL{cp:cU}{c:Call}{nid:Nat}{H:aC}(hw:dn ops o nt f=some true)(hc:bi o.op=some c):step E cp ops nid o (aU (tab nt f)) H=iv cp nid c (aU (tab nt f)) H:=by
 unfold step;rw [iE hw];simp only [zbB,zbS,if_true,hc]
theorem Kk{c:Call}{k:FuncId}{args:List D}{fi:FI}(hw:dn ops o nt f=some true)(hc:bi o.op=some c)(hr:bB c (ov nt f)=some (k,args))(hu:args.any unv=true)(hf:E.fn k=some fi)(hl:Nat.ble args.length fi.nt=true)(hd:o.dst=some d)(hn:Nat.blt d nt=true)
  (h:WpL E nY n fi.nt fi.body (CU E y (n+1) nt ops r K f d fi.results) (fA args) L):dp E y (n+1) nt ops (o::r) K f L:=λH hb=>by
 obtain⟨e,s',⟨M,h1⟩,h2,ds,h3,h4⟩:=h H hb;refine mG (s1:={t:=tab nt (up f d (gV ds)),h:=s'.h}) ⟨M,λm hm=> ?_⟩ h4;unfold zx
 have hs:step E (be E y m (n+1)).1 ops H.length o (aU (tab nt f)) H=none:=by
  rw [oL hw hc];unfold iv;rw [dY,hr];simp only [zbB,zbS,Ib hu];rfl
 simp only;rw [hs];have hev:=h1 m hm
 have hsc:ph (be E y m (n+1)).2 ops o {t:=tab nt f,h:=H}=some {t:=tab nt (up f d (gV ds)),h:=s'.h}:=by
  unfold ph;rw [iE hw];simp only [zbB,zbS,if_true,hc]
  have hr':bB c (opnd (tab nt f))=some (k,args):=by
   show bB c (aS (aU (tab nt f)))=_;rw [dY];exact hr
  rw [hr']
  have hcall:(be E y m (n+1)).2.f k args H=some (gV ds,s'.h):=by
   show((E.fn k).bind λf=>(nu E (aN E m n).1 ⟨(aN E m n).2.1,(aN E m n).2.2,noY⟩ m f args H).bind λx=>some (gV x.1,x.2))=_;rw [hf];simp only [zbS]
   have:nu E (aN E m n).1 ⟨(aN E m n).2.1,(aN E m n).2.2,noY⟩ m fi args H=some (ds,s'.h):=by
    unfold nu;rw [AK (Nat.le_of_ble_eq_true hl)];simp only [be]at hev;rw [hev];rcases h2 with rfl|rfl<;>simp [h3]
   rw [this];rfl
  simp only [zbS,hcall,hd,mn,kK,ew hn,if_true,nc,gS]
 rw [hsc];rfl
theorem iF{c:Call}{k:FuncId}{args:List D}{fi:FI}(hw:dn ops o nt f=some true)(hc:bi o.op=some c)(hr:bB c (ov nt f)=some (k,args))(hu:E.ax k=some λ_=>none)(hf:E.fn k=some fi)(hl:Nat.ble args.length fi.nt=true)(hd:o.dst=some d)(hn:Nat.blt d nt=true)
  (h:WpL E nY n fi.nt fi.body (CU E y (n+1) nt ops r K f d fi.results) (fA args) L):dp E y (n+1) nt ops (o::r) K f L:=λH hb=>by
 obtain⟨e,s',⟨M,h1⟩,h2,ds,h3,h4⟩:=h H hb;refine mG (s1:={t:=tab nt (up f d (gV ds)),h:=s'.h}) ⟨M,λm hm=> ?_⟩ h4;unfold zx
 have hs:step E (be E y m (n+1)).1 ops H.length o (aU (tab nt f)) H=none:=by
  rw [oL hw hc];unfold iv;rw [dY,hr];simp only [zbB,zbS]
  cases args.mapM (cz H)with
  |none=>rfl
  |some vs=>
   have hn:(be E y m (n+1)).1 k (vs.map (·.2))=none:=by
    show(match E.ax k with
     |some F=>F _
     |none=>_)=none
    rw [hu]
   simp only [zbS,hn];rfl
 simp only;rw [hs];have hev:=h1 m hm
 have hsc:ph (be E y m (n+1)).2 ops o {t:=tab nt f,h:=H}=some {t:=tab nt (up f d (gV ds)),h:=s'.h}:=by
  unfold ph;rw [iE hw];simp only [zbB,zbS,if_true,hc]
  have hr':bB c (opnd (tab nt f))=some (k,args):=by
   show bB c (aS (aU (tab nt f)))=_;rw [dY];exact hr
  rw [hr']
  have hcall:(be E y m (n+1)).2.f k args H=some (gV ds,s'.h):=by
   show((E.fn k).bind λf=>(nu E (aN E m n).1 ⟨(aN E m n).2.1,(aN E m n).2.2,noY⟩ m f args H).bind λx=>some (gV x.1,x.2))=_;rw [hf];simp only [zbS]
   have:nu E (aN E m n).1 ⟨(aN E m n).2.1,(aN E m n).2.2,noY⟩ m fi args H=some (ds,s'.h):=by
    unfold nu;rw [AK (Nat.le_of_ble_eq_true hl)];simp only [be]at hev;rw [hev];rcases h2 with rfl|rfl<;>simp [h3]
   rw [this];rfl
  simp only [zbS,hcall,hd,mn,kK,ew hn,if_true,nc,gS]
 rw [hsc];rfl
theorem jc{nt':Nat}{f':Nat->D}{L':BL}{rv:List ResultVar}{ds:List D}{e:Ex}{v:D}(he:e= .normal∨e= .ret)(hr:yb E nt' f' L' rv ds)(hv:gV ds=v)(h:dp E y n nt ops r K (up f d v) L'):cP nt' (CU E y n nt ops r K f d rv) e f' L':=λH hb=>by
 subst hv;exact⟨he,ds,hr H hb,h H hb⟩
def ky(E:Env)(y:Nat->fu)(n k:Nat)(t:List D)(ps:List Tmp)(asg body:Code):Nat->fu:=λm j args h=>
 if j=k/\args.length=ps.length then do
  let(e,s1)<-evC E (be E y m n).1 (be E y m n).2 m asg {t:=kZ t ps args,h:=h}
  match e with
  | .normal=>do
   let(e,s2)<-evC E (be E y m n).1 (be E y m n).2 m body s1
   some (e,s2.h)
  |_=>none
 else none
def Kl(nt:Nat)(f:Nat->D)(k:Nat)(Q:Ex->St->Prop):Ex->St->Prop:=λe s=>(e= .normal∨e= .ret)/\∃es,aJ s.h k=some (0,es)/\Q (zy es) {t:=tab nt f,h:=s.h}
theorem AL{g:Operand}{ps:Array Tmp}{asg body:Code}{k:FuncId}{fs cs:List C}{fi:FI}(hg:ov nt f g=some (.one (.clo (.func k) fs cs)))(hf:E.fn k=some fi)(hl:Nat.ble (fs.length+1+cs.length) fi.nt=true)(hres:fi.results= [])
  (h:∀kl,WpL E (ky E y (n+1) kl (tab nt f) ps.toList asg body) n fi.nt fi.body (Kl nt f kl Q) (fA (fs.map D.one++ [D.one (.yld kl)]++cs.map D.one)) ([(kl,0,[])]::L)):WpL E y (n+1) nt (.rangeFunc g ps asg body) Q f L:=λH hb=>by
 obtain⟨e,s',⟨M,h1⟩,h2,es,h3,h4⟩:=h H.length _ (hb.new 0 []);refine⟨zy es,{t:=tab nt f,h:=s'.h},⟨M,λm hm=> ?_⟩,h4⟩;have hev:=h1 m hm;have hg':opnd (tab nt f) g=some (.one (.clo (.func k) fs cs)):=(bV nt f g).trans hg;simp only [evC,zbB,hg',zbS]
 have hcall:(be E y m (n+1)).2.r (ky E y (n+1) H.length (tab nt f) ps.toList asg body m) k (fs.map D.one++ [D.one (.yld H.length)]++cs.map D.one) (aK H H.length (.own 0 []))=some s'.h:=by
  show((E.fn k).bind λf=>(nu E (aN E m n).1 ⟨(aN E m n).2.1,(aN E m n).2.2,ky E y (n+1) H.length (tab nt _) ps.toList asg body m⟩ m f _ _).bind λx=>some x.2)=_;rw [hf];simp only [zbS]
  have:nu E (aN E m n).1 ⟨(aN E m n).2.1,(aN E m n).2.2,ky E y (n+1) H.length (tab nt f) ps.toList asg body m⟩ m fi (fs.map D.one++ [D.one (.yld H.length)]++cs.map D.one) (aK H H.length (.own 0 []))=some ([],s'.h):=by
   unfold nu;rw [AK (by have:=Nat.le_of_ble_eq_true hl;simp;omega)];simp only [be]at hev;rw [hev,hres];rcases h2 with rfl|rfl<;>rfl
  rw [this];rfl
 refine(congrArg (λz:Option aC=>z.bind λh=>(aJ h H.length).bind λx=>if x.1=0 then some (zy x.2,({t:=tab nt f,h:=h}:St))else none) hcall).trans ?_;simp only [zbS,h3,if_true]
theorem ru{nt' k p:Nat}{f':Nat->D}{L':BL}{es:List (List C)}{e:Ex}(he:e= .normal∨e= .ret)(hp:L'[p]? =some [(k,0,es)])(h:cP nt Q (zy es) f L'):cP nt' (Kl nt f k Q) e f' L':=λH hb=>⟨he,es,hb.get hp,h H hb⟩
def NS(K:St->Prop):Ex->St->Prop:=λe s=>e= .normal/\K s
def ET(E:Env)(y:Nat->fu)(n nt:Nat)(ops:Array Oper)(r:List Oper)(K:St->Prop)(f:Nat->D)(d k:Nat):Ex->St->Prop:=λe s=>kp E y n ops r K {t:=tab nt (up f d (bD (e== .normal))),h:=aK s.h k (lV e)}
def EU(f:Nat->D):List Tmp->List D->Nat->D
 |p::ps,d::ds=>EU (up f p d) ps ds
 |_,_=>f
theorem Km(f:Nat->D)(p:Nat)(d:D):(tab nt f).set p d=tab nt (up f p d):=by
 rw [<-gS];refine List.ext_getElem? λi=> ?_;rw [List.getElem?_set,jC,jC,kK];unfold upd;by_cases h1:p=i
 .subst h1;by_cases h2:p<nt
  .simp [h2]
  .simp [h2]
 .rw [if_neg h1];split
  .rw [if_neg (λe:i=p=>h1 e.symm)]
  .rfl
theorem yO:∀(ps:List Tmp) (ds:List D) (f:Nat->D),kZ (tab nt f) ps ds=tab nt (EU f ps ds)
 | [],[],f=>by simp [kZ,EU]
 | [],d::ds,f=>by simp [kZ,EU]
 |p::ps,[],f=>by simp [kZ,EU]
 |p::ps,d::ds,f=>by
  simp only [kZ,EU];rw [Km,yO]
def Pb(nt:Nat)(f:Nat->D)(l:List Operand):Option (List D):=l.mapM (ov nt f)
theorem wz{y0:Nat->fu}{n0 nt0 k p:Nat}{f0:Nat->D}{ps:List Tmp}{asg body:Code}{c:Call}{x:Operand}{args:List D}(hw:dn ops o nt f=some true)(hc:bi o.op=some c)(hcal:c.callee= .value x)(hx:ov nt f x=some (.one (.yld k)))(ha:Pb nt f c.args.toList=some args)(hla:Nat.beq args.length ps.length=true)(hp:L[p]? =some [(k,0,[])])(hd:o.dst=some d)(hn:Nat.blt d nt=true)
  (h:WpL E y0 n0 nt0 asg (NS (WpC E y0 n0 body (ET E (ky E y0 n0 k (tab nt0 f0) ps asg body) n nt ops r K f d k))) (EU f0 ps args) L):dp E (ky E y0 n0 k (tab nt0 f0) ps asg body) n nt ops (o::r) K f L:=λH hb=>by
 obtain⟨e1,s1,⟨M1,h1⟩,rfl,e2,s2,⟨M2,h2⟩,h3⟩:=h H hb;refine mG (s1:={t:=tab nt (up f d (bD (e2== .normal))),h:=aK s2.h k (lV e2)}) ⟨max M1 M2,λm hm=> ?_⟩ h3
 have hres:bB c (aS (aU (tab nt f)))=none:=by
  rw [dY];unfold bB;rw [hcal];have ha':c.args.toList.mapM (ov nt f)=some args:=ha;simp only [ha',hx,zbB,zbS]
 unfold zx
 have hs:step E (be E (ky E y0 n0 k (tab nt0 f0) ps asg body) m n).1 ops H.length o (aU (tab nt f)) H=none:=by
  rw [oL hw hc];unfold iv;rw [hres];rfl
 simp only;rw [hs]
 have hsc:ph (be E (ky E y0 n0 k (tab nt0 f0) ps asg body) m n).2 ops o {t:=tab nt f,h:=H}=none:=by
  unfold ph;rw [iE hw];simp only [zbB,zbS,if_true,hc];have hr':bB c (opnd (tab nt f))=none:=hres;rw [hr'];rfl
 have hy:Fv (be E (ky E y0 n0 k (tab nt0 f0) ps asg body) m n).2 ops o {t:=tab nt f,h:=H}=some {t:=tab nt (up f d (bD (e2== .normal))),h:=aK s2.h k (lV e2)}:=by
  unfold Fv;rw [iE hw];simp only [zbB,zbS,if_true,hc,hcal]
  have ha':c.args.toList.mapM (opnd (tab nt f))=some args:=by
   show c.args.toList.mapM (aS (aU (tab nt f)))=_;rw [dY];exact ha
  have hx':opnd (tab nt f) x=some (.one (.yld k)):=(bV nt f x).trans hx;rw [ha',hx'];simp only [zbS,hb.get hp,and_self,if_true]
  have hround:(be E (ky E y0 n0 k (tab nt0 f0) ps asg body) m n).2.y k args H=some (e2,s2.h):=by
   show ky E y0 n0 k (tab nt0 f0) ps asg body m k args H=_;unfold ky;rw [if_pos ⟨rfl,Nat.eq_of_beq_eq_true hla⟩,yO,h1 m (by omega)];simp only [zbB,zbS];rw [h2 m (by omega)];rfl
  rw [hround];simp only [zbS,hd,mn,kK,ew hn,if_true,nc,gS];rfl
 rw [hsc,hy];rfl
theorem Kn{c:Code}(h:WpL E y n nt c Q f L):cP nt (NS (WpC E y n c Q)) .normal f L:=λH hb=>⟨rfl,h H hb⟩
theorem EV{h:aC}{k sz:Nat}{es:List (List C)}(hk:aJ h k=some (sz,es)):h[k]? =some (.own sz es):=ct hk
theorem rx{nt' k p:Nat}{f':Nat->D}(hp:L[p]? =some [(k,0,[])])(h:dp E y n nt ops r K (up f d (bD true)) L):cP nt' (ET E y n nt ops r K f d k) .normal f' L:=λH hb=>by
 have:=wg (EV (hb.get hp))
 show kp E y n ops r K {t:=_,h:=aK H k (.own 0 [])};rw [this];exact h H hb
theorem CV{nt' k p:Nat}{f':Nat->D}{e:Ex}{es:List (List C)}{L':BL}(he:(e== .normal)=false)(hes:List.replicate (sY e) []=es)(hp:L[p]? =some [(k,0,[])])(hL:L.set p [(k,0,es)]=L')(h:dp E y n nt ops r K (up f d (bD false)) L'):cP nt' (ET E y n nt ops r K f d k) e f' L:=λH hb=>by
 subst hes hL;show kp E y n ops r K {t:=tab nt (up f d (bD (e== .normal))),h:=aK H k (.own 0 _)};rw [he];exact h _ (hb.set hp 0 _)
end
theorem aI{k b j:Nat}(h:k<b):k≠b+j:=by omega
theorem jd{b i j:Nat}(h:Nat.beq i j=false):b+i≠b+j:=by have:=Nat.ne_of_beq_eq_false h;omega
theorem jE{k:Nat}:k ∉([]:List Nat):=by simp
theorem dz{k m:Nat}{l:List Nat}(h1:k≠m)(h2:k ∉ l):k ∉ m::l:=λh=>by
 rcases List.mem_cons.1 h with h|h
 .exact h1 h
 .exact h2 h
theorem ai{b:Nat}:∀k∈([]:List Nat),k<b:=λk h=>by simp at h
theorem fN{b m:Nat}{l:List Nat}(h1:m<b)(h2:∀k∈l,k<b):∀k∈m::l,k<b:=λk h=>by
 rcases List.mem_cons.1 h with h|h
 .subst h;exact h1
 .exact h2 k h
theorem fg{b:Nat}:∀l∈([]:List (List Nat)),∀k∈l,k<b:=λk h=>by simp at h
theorem af{b:Nat}{a:List Nat}{O:List (List Nat)}(h1:∀k∈a,k<b)(h2:∀l∈O,∀k∈l,k<b):∀l∈a::O,∀k∈l,k<b:=λl h=>by
 rcases List.mem_cons.1 h with h|h
 .subst h;exact h1
 .exact h2 l h
theorem djE{O:List (List Nat)}{r:List Nat}:∀j∈r,∀x∈([]:List Nat),x ∉ O.getD j []:=λc _ x h=>by simp at h
theorem djN{O:List (List Nat)}{a:List Nat}:∀j∈([]:List Nat),∀x∈a,x ∉ O.getD j []:=λc h=>by simp at h
section
variable {X Up KT : Type} {nt : Nat}
def JE(nt:Nat)(ex:Ex)(S:X->KT->(Nat->D)->Nat->D)(SL:X->KT->BL)(J:Up->Ex->St->Prop):X ⊕ Up->Ex->St->Prop
 | .inl x,e,s=>e=ex/\∃k g,s.t=tab nt (S x k g)/\HB s.h (SL x k)
 | .inr u,e,s=>J u e s
def JU(G:Up->Ex->St->Prop):Up->Ex->St->Prop:=λu e s=>e= .ret/\G u .ret s
variable {ex : Ex} {S : X → KT → (Nat → D) → Nat → D} {SL : X → KT → BL} {J : Up → Ex → St → Prop} {G : Up → Ex → St → Prop}
theorem CW(h:(ex== .normal)=false)(hJ:∀r s,¬J r .normal s):∀r s,¬JE nt ex S SL J r .normal s:=λr s hh=>by
 cases r with
 |inl x=>rw [<-hh.1]at h;simp at h
 |inr u=>exact hJ u s hh
theorem MD:∀r s,¬JU G r .normal s:=λr s h=>absurd h.1 (by simp)
theorem CX{x:X}{f:Nat->D}{L:BL}(k:KT)(hf:f=S x k f)(is:List Nat)(hn:is.Nodup)(hL:is.filterMap (λi=>L[i]?)=SL x k):cP nt (JE nt ex S SL J (.inl x)) ex f L:=λH hb=>⟨rfl,k,f,congrArg (tab nt) hf,hb.sub is hn hL⟩
theorem ME{u:Up}{e:Ex}{f:Nat->D}{L:BL}(h:cP nt (J u) e f L):cP nt (JE nt ex S SL J (.inr u)) e f L:=h
theorem J_e{x:X}{Q:Ex->St->Prop}(h:∀k g,cP nt Q ex (S x k g) (SL x k)):∀e s,JE nt ex S SL J (.inl x) e s->Q e s:=λe s hs=>by
 obtain⟨rfl,k,g,h1,h2⟩:=hs;obtain⟨t,H⟩:=s;simp only at h1 h2;subst h1;exact h k g H h2
theorem J_s{u:Up}{Q:Ex->St->Prop}(h:∀e s,J u e s->Q e s):∀e s,JE nt ex S SL J (.inr u) e s->Q e s:=h
end
end Ev
end
noncomputable section
namespace Ev
open Go Go.ChangeShapes Go.WideShapes Go.ChangeAt Go.WideMaps Go.WideElems Go.RowKit Go.Joins
theorem Tp:ownKnob Tryd.prog.godebug=none:=by kernel_rfl
theorem Ko:laidOutB Tryd.prog=true:=by kernel_rfl
theorem gTab:Tryd.prog.globalNamed "math/bits.deBruijn64tab" =some 0:=by kernel_rfl
theorem tTab:(Tryd.prog.globals[0]?).map (·.type)=some 113:=by kernel_rfl
theorem Sj:Tryd.prog.cellsOf 5=1:=by kernel_rfl
theorem Tq:Tryd.prog.cellsOf 113=64:=by kernel_rfl
abbrev CY{H:Type}:List (String×DataW H):= [("math/bits.deBruijn64tab",Rows.laid_math_bits_deBruijn64tab)]
theorem Kp(os:Os)(args:Array Value):laidMetH Tryd.prog CY ((World.doorLaid Tryd.prog 400 os).forCall (λ_ _=>0) ⟨#[],args,[]⟩).memory:=
 laidMetH_of_parts3 (fuel:=8) (laidMet_of_run' 8 (by kernel_rfl) (by kernel_rfl)) (by kernel_rfl) (by kernel_rfl)
def wA{H:Type}:List (DataW H):=Lib.deBruijn64tab.map λn=> .lit (.int .u8 (n:Nat))
theorem MF{H:Type}:(Rows.laid_math_bits_deBruijn64tab:DataW H)= .agg wA:=rfl
theorem tJ{W:World}(h:laidMetH Tryd.prog CY W):Ob W:=by
 rw [MakeChecks.laidMetH_plain _ _ _ (by kernel_rfl)]at h;obtain⟨ps,⟨g0,t0,cs0,f0,p0,q0,hg0,ht0,hv0,hd0,_,_⟩,_,_⟩:=h;obtain rfl:=Option.some.inj (gTab.symm.trans hg0);obtain rfl:=Option.some.inj (tTab.symm.trans ht0);obtain⟨xs,m,_,hx,hlen,hxl,hel⟩:=DataW.trod_array Tryd.underlying113 hd0;rw [Tq]at hlen;have hx1:=(Prod.mk.inj hx).1;rw [MF]at hx1;have hx2:wA=xs.map (·.1):=by injection hx1
 have cell:=λk=>World.var?_cell hg0 hv0 k;have hsz:cs0.size=64:=by simpa using hlen
 have key:∀j,j<64->cs0[j]? =some (.int .u8 (Lib.deBruijn64tab.getD j 0:Nat)):=by
  intro j hj;have hj':xs[j]? =some (xs[j]'(by omega)):=List.getElem?_eq_getElem (by omega);have h1:=hel j hj;rw [Sj,hj']at h1
  have hcs:(cs0.toList.drop (j*1)).take 1= [cs0[j]'(by omega)]:=by
   rw [Nat.mul_one,List.drop_eq_getElem_cons (by simp;omega)];simp
  rw [hcs]at h1;obtain⟨a,e1,e2,_⟩:=DataW.trod_int Tryd.underlying5 h1;have h3:(wA (H:=Unit))[j]? =some ((xs[j]'(by omega)).1):=by rw [hx2,List.getElem?_map,hj'];rfl
  rw [e2]at h3
  have h4:(wA (H:=Unit))[j]? =some (.lit (.int .u8 (Lib.deBruijn64tab.getD j 0:Nat))):=by
   have hl:Lib.deBruijn64tab.length=64:=rfl;unfold wA;rw [List.getElem?_map,List.getElem?_eq_getElem (by rw [hl];exact hj),List.getD_eq_getElem?_getD,List.getElem?_eq_getElem (by rw [hl];exact hj)];rfl
  rw [h3]at h4
  have h5:a=(Lib.deBruijn64tab.getD j 0:Nat):=by
   injection h4 with h4
   injection h4 with h4
   injection h4
  rw [Array.getElem?_eq_getElem (by omega)];simp only [List.cons.injEq,and_true]at e1;rw [e1,h5]
 have hl:Lib.deBruijn64tab.length=64:=rfl
 have c0:∀j,j<Lib.deBruijn64tab.length->W.cell? ⟨0,j,none⟩=some (.int .u8 (Lib.deBruijn64tab.getD j 0:Nat)):=λj hj=>by
  rw [hl]at hj
  have:=cell j
  rw [this];exact key j hj
 exact⟨block_lt_of_cell (c0 0 (by rw [hl];decide)),c0⟩
end Ev
end
end Go.Proofs.YtpcmabdifkoihaaDoor
