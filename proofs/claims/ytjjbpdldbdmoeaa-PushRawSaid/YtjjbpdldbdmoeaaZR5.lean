/- Texts of a claim, joined. -/
import Derived.Test.YtjjbpdldbdmoeaaZR4
import Derived.Laws.StructEq
set_option linter.unusedVariables false
set_option linter.unusedSimpArgs false
namespace Go.Proofs.Ytjjbpdldbdmoeaa
noncomputable section
namespace Ev
open Go Go.RowKit
section
variable {E : Env} {y : Nat → gg} {n nt : Nat} {f : Nat → D} {L : BL}
theorem xi{x:Operand}{v:D}(hx:ov nt f x=some v):PS E n nt f L (.move x) v:=fun h nid hb=>by
 rw [UE,ck,hx];rfl
theorem BF{x:Operand}{v:D}(hx:ov nt f x=some v):PS E n nt f L (.assign x) v:=fun h nid hb=>by
 rw [UF,ck,hx];rfl
theorem pK{x:Operand}{k i j:Nat}(hx:ov nt f x=some (.one (.ptr k i j))):PS E n nt f L (.nilCheck x) (.one (.ptr k i j)):=fun h nid hb=>by
 rw [Nf];unfold sem xg;simp only [fS,zbB,hx,zbS]
theorem XG{c a b:Operand}{fr:Bool}{v:D}(hc:ov nt f c=some (.one (.p fr (.v (.bool true)))))(hx:ov nt f a=some v):PS E n nt f L (.pick c a b) v:=fun h nid hb=>by
 rw [Nd,ck,hc,ck,hx];rfl
theorem XH{c a b:Operand}{fr:Bool}{v:D}(hc:ov nt f c=some (.one (.p fr (.v (.bool false)))))(hx:ov nt f b=some v):PS E n nt f L (.pick c a b) v:=fun h nid hb=>by
 rw [Nd,ck,hc,ck (x:=b),hx];rfl
theorem cW{op:BinOp}{ty sh:TypeId}{x y:Operand}{fa fb:Bool}{ka kb:IntKind}{a b:Int}{v:Value}(hx:ov nt f x=some (.one (.p fa (.v (.int ka a)))))(hy:ov nt f y=some (.one (.p fb (.v (.int kb b)))))
  (hp:aw E.P (do eqGuard op ty x y (.int ka a) (.int kb b);binOp op ty (.int ka a) (.int kb b))=some v) (h1:one1 v=true):PS E n nt f L (.binOp op ty x y sh) (mk v):=fun h nid hb=>by
 rw [KA,ck,hx,ck,hy];refine Eq.trans (b:=yw E.P E.ti op ty x y (.one (.p fa (.v (.int ka a)))) (.one (.p fb (.v (.int kb b))))) rfl ?_;rw [aaX,hp];show mkO v=_;unfold mkO;rw [if_pos h1]
theorem XI{P:Program}{ti:TypeId→Option TI}{op:BinOp}{ty:TypeId}{x y:Operand}{fr fr':Bool}{a b:Bool}:
  yw P ti op ty x y (.one (.p fr (.v (.bool a)))) (.one (.p fr' (.v (.bool b))))=(aw P (do eqGuard op ty x y (.bool a) (.bool b);binOp op ty (.bool a) (.bool b))).bind mkO:=rfl
theorem ky{op:BinOp}{ty sh:TypeId}{x y:Operand}{fa fb:Bool}{a b:Bool}{v:Value}(hx:ov nt f x=some (.one (.p fa (.v (.bool a)))))(hy:ov nt f y=some (.one (.p fb (.v (.bool b)))))
  (hp:aw E.P (do eqGuard op ty x y (.bool a) (.bool b);binOp op ty (.bool a) (.bool b))=some v) (h1:one1 v=true):PS E n nt f L (.binOp op ty x y sh) (mk v):=fun h nid hb=>by
 rw [KA,ck,hx,ck,hy];refine Eq.trans (b:=yw E.P E.ti op ty x y (.one (.p fa (.v (.bool a)))) (.one (.p fb (.v (.bool b))))) rfl ?_;rw [XI,hp];show mkO v=_;unfold mkO;rw [if_pos h1]
theorem ab5{P:Program}{ti:TypeId→Option TI}{op:BinOp}{ty:TypeId}{x y:Operand}{a b:List C}:yw P ti op ty x y (.agg a) (.agg b)=(plain (.agg a)).bind fun va=>(plain (.agg b)).bind fun vb=>(aw P (do eqGuard op ty x y va vb;binOp op ty va vb)).bind mkO:=rfl
theorem Hn{op:BinOp}{ty sh:TypeId}{x y:Operand}{a b:List C}{va vb v:Value}(hx:ov nt f x=some (.agg a))(hy:ov nt f y=some (.agg b))(ha:plain (.agg a)=some va)(hb':plain (.agg b)=some vb)
  (hp:aw E.P (do eqGuard op ty x y va vb;binOp op ty va vb)=some v) (h1:one1 v=true):PS E n nt f L (.binOp op ty x y sh) (mk v):=fun h nid hb=>by
 rw [KA,ck,hx,ck,hy];refine Eq.trans (b:=yw E.P E.ti op ty x y (.agg a) (.agg b)) rfl ?_;rw [ab5,ha,hb'];simp only [zbS];rw [hp];show mkO v=_;unfold mkO;rw [if_pos h1]
theorem iW{ty:TypeId}{x:Operand}{fr b:Bool}(hx:ov nt f x=some (.one (.p fr (.v (.bool b))))):PS E n nt f L (.unOp .not ty x) (bD (!b)):=fun h nid hb=>by
 show((aN (aV (tab nt f)) x).bind fun d=>(plain d).bind fun v=>(aw E.P (Op.unary .not v)).bind mkO)=_;rw [ck,hx];rfl
theorem YN{ty:TypeId}{x:Operand}{fr:Bool}{k:IntKind}{a:Int}(hx:ov nt f x=some (.one (.p fr (.v (.int k a))))):PS E n nt f L (.unOp .neg ty x) (iD k (k.wrap (0 - a))):=fun h nid hb=>by
 show((aN (aV (tab nt f)) x).bind fun d=>(plain d).bind fun v=>(aw E.P (Op.unary .neg v)).bind mkO)=_;rw [ck,hx];rfl
theorem rd{src dst:TypeId}{x:Operand}{fr:Bool}{k:IntKind}{a:Int}{v:Value}(hx:ov nt f x=some (.one (.p fr (.v (.int k a)))))(hp:aw E.P (Go.convert src dst (.int k a))=some v)(h1:one1 v=true):PS E n nt f L (.convert src dst x) (mk v):=fun h nid hb=>by
 show((aN (aV (tab nt f)) x).bind fun d=>(plain d).bind fun v=>match v with
  | .int .. =>(aw E.P (Go.convert src dst v)).bind mkO
  |_=>none)=_
 rw [ck,hx];show(aw E.P (Go.convert src dst (.int k a))).bind mkO=_;rw [hp];show mkO v=_;unfold mkO;rw [if_pos h1]
theorem aj{ty:TypeId}{x:Operand}{m k i j off sz:Nat}{ag:Bool}(hx:ov nt f x=some (.one (.ptr k i j)))(ht:fieldAt E.ti ty m=some (off,sz,ag))(hz:Nat.beq sz 0=false):PS E n nt f L (.fieldAddr ty x m) (.one (.ptr k i (j+off))):=fun h nid hb=>by
 rw [OD,ck,hx,ht];show(if sz=0 then none else _)=_;rw [if_neg (Nat.ne_of_beq_eq_false hz)]
theorem fh{ty:TypeId}{x:Operand}{m i j off sz s:Nat}{fr:Bool}{l:List (List T)}{ag:Bool}(hx:ov nt f x=some (.one (.iptr fr s l i j)))(ht:fieldAt E.ti ty m=some (off,sz,ag))(hz:Nat.beq sz 0=false):PS E n nt f L (.fieldAddr ty x m) (.one (.iptr fr s l i (j+off))):=fun h nid hb=>by
 rw [OD,ck,hx,ht];show(if sz=0 then none else _)=_;rw [if_neg (Nat.ne_of_beq_eq_false hz)]
theorem UJ{ty:TypeId}{x:Operand}{m off sz:Nat}{cs c2:List C}{ag:Bool}{v:D}(hx:ov nt f x=some (.agg cs))(ht:fieldAt E.ti ty m=some (off,sz,ag))(hc:cut cs off (cond ag sz 1)=some c2)(hv:dK ag c2=some v):PS E n nt f L (.field ty x m) v:=fun h nid hb=>by
 show((E.ti ty).bind fun t=>(lf t m).bind fun fd=>(E.ti fd.type).bind fun ft=>(aN (aV (tab nt f)) x).bind fun d=>match d with
  | .agg cs=>(cut cs fd.offset (if bJ ft.desc then ft.size else 1)).bind fun c=>(dK (bJ ft.desc) c).bind fun v=>some (⟨v,[]⟩:Eff)
  |_=>none)=_
 unfold fieldAt at ht;simp only [zbE,zsI,Prod.mk.injEq]at ht;obtain⟨t,h1,fd,h2,ft,h3,rfl,rfl,rfl⟩:=ht;rw [h1,ck,hx];simp only [zbS,h2,h3]
 have hc':cut cs fd.offset (if bJ ft.desc then ft.size else 1)=some c2:=by
  rw [←hc];cases bJ ft.desc<;>rfl
 rw [hc'];simp only [zbS,hv]
theorem Ho{α:Type}(b:Bool)(x y:α):(if b=true then x else y)=cond b x y:=by cases b<;>rfl
theorem iQ{ty:TypeId}{x:Operand}{k i j sz bz:Nat}{ag:Bool}{es:List (List C)}{e cs:List C}{v:D}(p:Nat)(hx:ov nt f x=some (.one (.ptr k i j)))(hz:cJ E.ti ty=some (sz,ag))(hp:L[p]? =some [(k,bz,es)])(he:es[i]? =some e)(hc:cut e j (cond ag sz 1)=some cs)(hv:dK ag cs=some v):PS E n nt f L (.load ty x) v:=fun h nid hb=>by
 rw [UG,ck,hx,hz];show Hj (kOf ag (Nb j (if ag then sz else 1) (aaW i (aG h k))))=_;rw [hb.get hp,Ho];show Hj (kOf ag (Nb j (cond ag sz 1) es[i]?))=_;rw [he];show Hj (kOf ag (cut e j (cond ag sz 1)))=_;rw [hc];show Hj (dK ag cs)=_;rw [hv];rfl
theorem bj{ty:TypeId}{x:Operand}{i j sz s:Nat}{fr ag:Bool}{l:List (List T)}{e:List T}{cs:List C}{v:D}(hx:ov nt f x=some (.one (.iptr fr s l i j)))(hz:cJ E.ti ty=some (sz,ag))(he:l[i]? =some e)(hc:cut (e.map (pC fr)) j (cond ag sz 1)=some cs)(hv:dK ag cs=some v):PS E n nt f L (.load ty x) v:=fun h nid hb=>by
 rw [UG,ck,hx,hz];show Hj (kOf ag (Nb j (if ag then sz else 1) (kIn fr l[i]?)))=_;rw [he,Ho];show Hj (kOf ag (cut (e.map (pC fr)) j (cond ag sz 1)))=_;rw [hc];show Hj (dK ag cs)=_;rw [hv];rfl
theorem fv{ty:TypeId}{a x:Operand}{k i j sz bz:Nat}{ag:Bool}{es es':List (List C)}{e e' cs:List C}{v:D}(p:Nat)(ha:ov nt f a=some (.one (.ptr k i j)))(hx:ov nt f x=some v)(hd:iZ v=some cs)(hz:cJ E.ti ty=some (sz,ag))(hs:Nat.beq cs.length sz=true)(hp:L[p]? =some [(k,bz,es)])(he:es[i]? =some e)(ht:patch e j cs=some e')(hes:es.set i e'=es'):PW E n nt f L (.store ty a x) cM p k bz es':=⟨⟨_,hp⟩,fun h nid hb=>by
 rw [XA,ck,ha,ck,hx,hz];show Xz k i j sz (iZ v) (aG h k)=_;rw [hd,hb.get hp];show(if cs.length=sz then UD k i bz es (Nc j cs es[i]?)else none)=_;rw [if_pos (Nat.eq_of_beq_eq_true hs),he];show UD k i bz es (patch e j cs)=_;rw [ht];subst hes
 rfl⟩
theorem bA{ty:TypeId}{t:TI}{row:List C}{sz:Nat}(ht:E.ti ty=some t)(hr:lD t=row)(hs:t.size=sz):PN E n nt f L (.alloc ty) (fun k=> .one (.ptr k 0 0)) sz [row]:=fun h nid hb=>by
 show((E.ti ty).bind fun t=>some (⟨.one (.ptr nid 0 0),[(nid,.own t.size [lD t])]⟩:Eff))=_;rw [ht];subst hr hs;rfl
theorem gH{ty:TypeId}{x:Operand}{t:TI}{d:D}{cs:List C}{sz:Nat}(ht:E.ti ty=some t)(hx:ov nt f x=some d)(hc:iZ d=some cs)(hs:cs.length=sz):PN E n nt f L (.box ty x) (fun k=> .one (.ptr k 0 0)) sz [cs]:=fun h nid hb=>by
 show((E.ti ty).bind fun t=>(aN (aV (tab nt f)) x).bind fun d=>(iZ d).bind fun cs=>some (⟨.one (.ptr nid 0 0),[(nid,.own cs.length [cs])]⟩:Eff))=_;rw [ht,ck,hx];simp only [zbS,hc];subst hs;rfl
def zx(nt:Nat)(f:Nat→D)(l:List (Nat×Operand)):Option (List (Nat×D)):=l.mapM fun((i,x):Nat×Operand)=>(ov nt f x).map fun d=>(i,d)
theorem cn{ty:TypeId}{parts:Array (Nat×Operand)}{t:TI}{ps:List (Nat×D)}{pl:Nat→Option (Nat×Nat)}{cs:List C}(ht:E.ti ty=some t)(hps:zx nt f parts.toList=some ps)(hpl:jw E.ti t=some pl)(hf:fill pl (lD t) ps=some cs):PS E n nt f L (.build ty parts) (.agg cs):=fun h nid hb=>by
 show((E.ti ty).bind fun t=>(parts.toList.mapM fun((i,x):Nat×Operand)=>(aN (aV (tab nt f)) x).map fun d=>(i,d)).bind fun ps=>(jw E.ti t).bind fun pl=>(fill pl (lD t) ps).bind fun cs=>some (⟨.agg cs,[]⟩:Eff))=_;rw [ht,fS];simp only [zbS];have h1:(parts.toList.mapM fun((i,x):Nat×Operand)=>(ov nt f x).map fun d=>(i,d))=some ps:=hps;simp only [h1,zbS,hpl,hf]
theorem io{ti:TypeId→Option TI}{ty z:Nat}(h:dU ti ty=some z):∃t e te,ti ty=some t∧bu t=some e∧ti e=some te∧te.size=z:=by
 unfold dU at h;simp only [zbE,zsI]at h;obtain⟨t,h1,e,h2,te,h3,h4⟩:=h;exact⟨t,e,te,h1,h2,h3,h4⟩
theorem gI{ty ety:TypeId}{len z:Nat}{parts:Array (Nat×Operand)}{t te:TI}{ps:List (Nat×D)}{cs:List C}{es:List (List C)}(ht:E.ti ty=some t)(he:bu t=some ety)(hte:E.ti ety=some te)(hz:te.size=z)(hps:zx nt f parts.toList=some ps)(hf:fill (fun i=>some (i*z,z)) (sk te len) ps=some cs)(hr:wl z cs len=some es)(hl:Nat.ble (len*z) 16777216=true):PN E n nt f L (.buildSlice ty len parts) (fun k=> .one (.own k 0 len)) z es:=fun h nid hb=>by
 show((E.ti ty).bind fun t=>(bu t).bind fun x=>(E.ti x).bind fun e=>(parts.toList.mapM fun((i,x):Nat×Operand)=>(aN (aV (tab nt f)) x).map fun d=>(i,d)).bind fun ps=>(fill (fun i=>some (i*e.size,e.size)) (sk e len) ps).bind fun cs=>(wl e.size cs len).bind fun es=>if len*e.size≤2 ^ 24 then some (⟨.one (.own nid 0 len),[(nid,.own e.size es)]⟩:Eff)else none)=_;subst hz;rw [ht,fS];have h1:(parts.toList.mapM fun((i,x):Nat×Operand)=>(ov nt f x).map fun d=>(i,d))=some ps:=hps;simp only [zbS,he,hte,h1,hf,hr];rw [if_pos (Nat.le_of_ble_eq_true hl)]
theorem re{x:Operand}{i:Nat}{ds:List D}{v:D}(hx:ov nt f x=some (.tup ds))(hi:ds[i]? =some v):PS E n nt f L (.extract x i) v:=fun h nid hb=>by
 show((aN (aV (tab nt f)) x).bind fun d=>match d with
  | .tup ds=>(ds[i]?).bind fun v=>some (⟨v,[]⟩:Eff)
  |_=>none)=_
 rw [ck,hx];show(ds[i]?).bind _=_;rw [hi];rfl
theorem aK{α β:Type}{r:α→β}{l:List α}{i:Nat}{x:α}(h:l[i]? =some x):(l.map r)[i]? =some (r x):=by rw [List.getElem?_map,h];rfl
theorem UK{α:Type}{l:List α}{i:Nat}{x:α}(h:l[i]? =some x):i<l.length:=(List.getElem?_eq_some_iff.1 h).1
theorem map_set{α β:Type}{r:α→β}{l:List α}{i:Nat}{x:α}:(l.map r).set i (r x)=(l.set i x).map r:=(List.map_set).symm
theorem cZ{α:Type}{r:α→List T}{ty:TypeId}{x ix:Operand}{fr fb nn:Bool}{sz:Nat}{l:List α}{kb:IntKind}{i:Int}{y:α}(hx:ov nt f x=some (.one (.p fr (.s nn sz (l.map r)))))(hi:ov nt f ix=some (.one (.p fb (.v (.int kb i)))))(h0:0≤i)(hy:l[i.toNat]? =some y)(hz:dU E.ti ty=some sz):PS E n nt f L (.indexAddr ty x ix) (.one (.iptr fr sz (l.map r) i.toNat 0)):=fun h nid hb=>by
 rw [zv,ck,hx,ck,hi];show kIx E.ti ty h _ (jc (.one (.p fb (.v (.int kb i)))))=_;rw [iP _ _ _ h0];refine Eq.trans (b:=Kz E.ti ty h i.toNat (.one (.p fr (.s nn sz (l.map r))))) rfl ?_;rw [afp,hz];show(if i.toNat<(l.map r).length∧sz=sz then _ else _)=_;rw [if_pos ⟨by rw [List.length_map];exact UK hy,rfl⟩]
theorem vK{α:Type}{r:α→List C}{ty:TypeId}{x ix:Operand}{fb:Bool}{k sz:Nat}{l:List α}{kb:IntKind}{i:Int}{y:α}(p:Nat)(hx:ov nt f x=some (.one (.own k 0 l.length)))(hi:ov nt f ix=some (.one (.p fb (.v (.int kb i)))))(h0:0≤i)(hy:l[i.toNat]? =some y)(hp:L[p]? =some [(k,sz,l.map r)])(hz:dU E.ti ty=some sz):PS E n nt f L (.indexAddr ty x ix) (.one (.ptr k i.toNat 0)):=fun h nid hb=>by
 rw [zv,ck,hx,ck,hi];show kIx E.ti ty h _ (jc (.one (.p fb (.v (.int kb i)))))=_;rw [iP _ _ _ h0];refine Eq.trans (b:=Kz E.ti ty h i.toNat (.one (.own k 0 l.length))) rfl ?_;rw [afq,hz,hb.get hp];show(if i.toNat<l.length∧sz=sz then _ else _)=_;rw [if_pos ⟨UK hy,rfl⟩,Nat.zero_add]
theorem Hq{c:Call}{a:Operand}{ty e:TypeId}{t:TI}{d:D}{m:Nat}(hc:c.callee= .builtin .len)(ha:c.args.toList= [a])(hty:c.argTypes[0]? =some ty)(ht:E.ti ty=some t)(hd:t.desc= .slice e)(hx:ov nt f a=some d)(hl:Cz d=some m):PS E n nt f L (.call c) (iD .i64 m):=fun h nid hb=>by
 have h1:bn (.call c)=none:=by unfold bn;simp only [hc]
 rw [mU,h1];unfold sem xg;simp only [hc,hty,ht,ha,fS,zbB,zbS,List.mapM_cons,List.mapM_nil,hx,Option.pure_def,hd,hl];rfl
theorem Ni{α:Type}{r:α→List T}{fr nn:Bool}{sz:Nat}{l:List α}:Cz (.one (.p fr (.s nn sz (l.map r))))=some l.length:=by
 show some (l.map r).length=_;rw [List.length_map]
theorem fw{α:Type}{r:α→List T}{c:Call}{a:Operand}{ty e:TypeId}{t:TI}{fr nn:Bool}{sz:Nat}{l:List α}(hx:ov nt f a=some (.one (.p fr (.s nn sz (l.map r)))))(ht:E.ti ty=some t)(hd:t.desc= .slice e)(hc:c.callee= .builtin .len)(ha:c.args.toList= [a])(hty:c.argTypes[0]? =some ty):PS E n nt f L (.call c) (iD .i64 l.length):=Hq hc ha hty ht hd hx Ni
theorem UL{c:Call}{a:Operand}{ty e:TypeId}{t:TI}{k m:Nat}(hx:ov nt f a=some (.one (.own k 0 m)))(ht:E.ti ty=some t)(hd:t.desc= .slice e)(hc:c.callee= .builtin .len)(ha:c.args.toList= [a])(hty:c.argTypes[0]? =some ty):PS E n nt f L (.call c) (iD .i64 m):=Hq hc ha hty ht hd hx rfl
def yx(L:BL)(x:D)(xs:List (List C)):Prop:=∀h,HB h L→nm h x=some xs
theorem iR{α:Type}{r:α→List C}{k sz:Nat}{l:List α}(p:Nat)(hp:L[p]? =some [(k,sz,l.map r)]):yx L (.one (.own k 0 l.length)) (l.map r):=fun h hb=>by
 show((aG h k).bind fun x=>cut x.2 0 l.length)=_;rw [hb.get hp];show cut (l.map r) 0 l.length=_;unfold cut;rw [if_pos (by simp),List.drop_zero,List.take_of_length_le (by simp)]
theorem ab6{α:Type}{r:α→List T}{fr nn:Bool}{sz:Nat}{l:List α}(hr:∀x,(r x).map (pC fr)=aT r x):yx L (.one (.p fr (.s nn sz (l.map r)))) (l.map (aT r)):=fun h hb=>by
 show some ((l.map r).map (·.map (pC fr)))=_;rw [List.map_map];congr 1;exact List.map_congr_left fun x _=>hr x
theorem ab7{c:Call}{a x:Operand}{ty ty1 z e1:TypeId}{t1:TI}{fr:Bool}{bz:Nat}{d:D}{xs:List (List C)}(ha:ov nt f a=some (.one (.p fr (.s false bz []))))(hx:ov nt f x=some d)(hxs:yx L d xs)(hne:∃y ys,xs=y::ys)(hb:xs.length≤cS)(hall:xs.all (·.length==z)=true)(hz:dU E.ti ty=some z)(ht1:E.ti ty1=some t1)(he1:bu t1=some e1)
  (hc:c.callee= .builtin .append) (hargs:c.args.toList= [a,x]) (hty:c.argTypes[0]? =some ty) (hty1:c.argTypes[1]? =some ty1):PN E n nt f L (.call c) (fun k=> .one (.own k 0 xs.length)) z xs:=fun h nid hh=>by
 obtain⟨t,e,te,g1,g2,g3,g4⟩:=io hz;have h1:bn (.call c)=none:=by unfold bn;simp only [hc]
 rw [mU,h1];unfold sem xg;simp only [hc,hty,g1,hargs,fS,zbB,zbS,List.mapM_cons,List.mapM_nil,ha,hx,Option.pure_def,g2,g3,hty1,ht1,he1,g4];unfold Ev.append;simp only [hxs h hh,zbB,zbS];obtain⟨y,ys,rfl⟩:=hne;rw [if_neg (by simp),if_neg (by simp),if_pos hb,if_pos hall]
theorem ab8{c:Call}{a x:Operand}{ty ty1 z e1:TypeId}{t1:TI}{fr:Bool}{bz:Nat}{d:D}(ha:ov nt f a=some (.one (.p fr (.s false bz []))))(hx:ov nt f x=some d)(hxs:yx L d [])(hz:dU E.ti ty=some z)(ht1:E.ti ty1=some t1)(he1:bu t1=some e1)
  (hc:c.callee= .builtin .append) (hargs:c.args.toList= [a,x]) (hty:c.argTypes[0]? =some ty) (hty1:c.argTypes[1]? =some ty1):PS E n nt f L (.call c) (.one (.p fr (.s false bz []))):=fun h nid hh=>by
 obtain⟨t,e,te,g1,g2,g3,g4⟩:=io hz;have h1:bn (.call c)=none:=by unfold bn;simp only [hc]
 rw [mU,h1];unfold sem xg;simp only [hc,hty,g1,hargs,fS,zbB,zbS,List.mapM_cons,List.mapM_nil,ha,hx,Option.pure_def,g2,g3,hty1,ht1,he1,g4];unfold Ev.append;simp only [hxs h hh,zbB,zbS];rw [if_neg (by simp),if_pos (show([]:List (List C)).length=0 from rfl)]
theorem YO{α:Type}{r:α→List C}{c:Call}{a x:Operand}{ty ty1 z e1:TypeId}{t1:TI}{k:Nat}{l m lm:List α}{d:D}{xs:List (List C)}(p:Nat)(ha:ov nt f a=some (.one (.own k 0 l.length)))(hx:ov nt f x=some d)(hxs:yx L d xs)(hm:xs=m.map r)(hp:L[p]? =some [(k,z,l.map r)])(hlm:app l m=some lm)(hr:∀y,(r y).length=z)(hz:dU E.ti ty=some z)(ht1:E.ti ty1=some t1)(he1:bu t1=some e1)
  (hc:c.callee= .builtin .append) (hargs:c.args.toList= [a,x]) (hty:c.argTypes[0]? =some ty) (hty1:c.argTypes[1]? =some ty1) (hz0:Nat.beq z 0=false:=by rfl):PA E n nt f L (.call c) (fun k'=> .one (.own k' 0 lm.length)) p k z (lm.map r):=⟨⟨_,hp⟩,fun h nid hh=>by
 obtain⟨t,e,te,g1,g2,g3,g4⟩:=io hz;obtain⟨hb,rfl⟩:=cV hlm;have h1:bn (.call c)=none:=by unfold bn;simp only [hc]
 rw [mU,h1];unfold sem xg;simp only [hc,hty,g1,hargs,fS,zbB,zbS,List.mapM_cons,List.mapM_nil,ha,hx,Option.pure_def,g2,g3,hty1,ht1,he1,g4];unfold Ev.append;simp only [hxs h hh,zbB,zbS,hh.get hp,hm];rw [if_pos ⟨trivial,by simp,by simpa using hb,trivial,by simp [hr],Nat.ne_of_beq_eq_false hz0⟩]
 simp⟩
theorem kX{α:Type}{r:α→List C}{ty:Nat}{x y:Operand}{t te:TI}{ety z:Nat}{fa fb:Bool}{ka kb:IntKind}{i:Int}{a:α}(ht:E.ti ty=some t)(he:bu t=some ety)(hte:E.ti ety=some te)(hx:ov nt f x=some (.one (.p fa (.v (.int ka i)))))(hy:ov nt f y=some (.one (.p fb (.v (.int kb i)))))(h0:0≤i)(hi:i.toNat≤cS)(hz:lD te=r a)(hs:te.size=z):PN E n nt f L (.makeSlice ty x y) (fun k=> .one (.own k 0 (List.replicate i.toNat a).length)) z ((List.replicate i.toNat a).map r):=fun h nid hb=>by
 show((E.ti ty).bind fun t=>(bu t).bind fun q=>(E.ti q).bind fun e=>(aN (aV (tab nt f)) x).bind fun dx=>(jc dx).bind fun n=>(aN (aV (tab nt f)) y).bind fun dy=>(jc dy).bind fun m=>if n≤m∧m≤cS then some (⟨.one (.own nid 0 n),[(nid,.own e.size (List.replicate n (lD e)))]⟩:Eff)else none)=_;rw [ht];simp only [zbS,he,hte,ck,hx,hy,iP _ _ _ h0];rw [if_pos ⟨Nat.le_refl _,hi⟩,List.length_replicate,List.map_replicate,hz,hs]
theorem XJ{α:Type}{r:α→List C}{ty:Nat}{x y:Operand}{t te:TI}{ety z:Nat}{fa fb:Bool}{ka kb:IntKind}{i j:Int}{a:α}(ht:E.ti ty=some t)(he:bu t=some ety)(hte:E.ti ety=some te)(hx:ov nt f x=some (.one (.p fa (.v (.int ka i)))))(hy:ov nt f y=some (.one (.p fb (.v (.int kb j)))))(h0:0≤i)(hij:i≤j)(hj:j.toNat≤cS)(hz:lD te=r a)(hs:te.size=z):PN E n nt f L (.makeSlice ty x y) (fun k=> .one (.own k 0 (List.replicate i.toNat a).length)) z ((List.replicate i.toNat a).map r):=fun h nid hb=>by
 show((E.ti ty).bind fun t=>(bu t).bind fun q=>(E.ti q).bind fun e=>(aN (aV (tab nt f)) x).bind fun dx=>(jc dx).bind fun n=>(aN (aV (tab nt f)) y).bind fun dy=>(jc dy).bind fun m=>if n≤m∧m≤cS then some (⟨.one (.own nid 0 n),[(nid,.own e.size (List.replicate n (lD e)))]⟩:Eff)else none)=_;rw [ht];simp only [zbS,he,hte,ck,hx,hy,iP _ _ _ h0,iP _ _ _ (show 0≤j by omega)];rw [if_pos ⟨by omega,hj⟩,List.length_replicate,List.map_replicate,hz,hs]
def Vw(L:BL)(ds:List D)(vs:List (Bool×TD)):Prop:=∀h,HB h L→ds.mapM (dm h)=some vs
theorem ai:Vw L [] []:=fun h hb=>rfl
theorem af{d:D}{ds:List D}{v:Bool×TD}{vs:List (Bool×TD)}(h1:∀h,HB h L→dm h d=some v)(h2:Vw L ds vs):Vw L (d::ds) (v::vs):=fun h hb=>by
 rw [List.mapM_cons,h1 h hb,h2 h hb];rfl
def VwC(L:BL)(cs:List C)(vs:List (Bool×T)):Prop:=∀h,HB h L→∀m,cs.mapM (gh h (m+2))=some vs
theorem az:VwC L [] []:=fun h hb m=>rfl
theorem ae{c:C}{cs:List C}{v:Bool×T}{vs:List (Bool×T)}(h1:∀h,HB h L→∀m,gh h (m+2) c=some v)(h2:VwC L cs vs):VwC L (c::cs) (v::vs):=fun h hb m=>by
 rw [List.mapM_cons,h1 h hb m,h2 h hb m];rfl
theorem ak{x:Value}:∀h,HB h L→∀m,gh h (m+2) (.p true (.v x))=some (true,.v x):=fun h hb m=>rfl
theorem bV{fr nn:Bool}{sz:Nat}{l:List (List T)}:∀h,HB h L→∀m,gh h (m+2) (.p fr (.s nn sz l))=some (fr,.s nn sz l):=fun h hb m=>rfl
theorem KO{α β γ:Type}{r:α→List β}{q:α→List γ}{g:β→Option (Bool×γ)}(hq:∀x,(r x).mapM g=some ((q x).map fun t=>(true,t))):∀l:List α,((l.map r).mapM fun e=>e.mapM g)=some ((l.map q).map fun e=>e.map fun t=>(true,t))
 | []=>rfl
 |x::l=>by
  rw [List.map_cons,List.mapM_cons,hq x,KO hq l];rfl
theorem kA{α:Type}{r:α→List T}{k sz:Nat}{l:List α}(p:Nat)(hp:L[p]? =some [(k,sz,l.map (aT r))])(hr:∀x h m,(aT r x).mapM (gh h (m+1))=some ((r x).map fun t=>(true,t))):∀h,HB h L→∀m,gh h (m+2) (.own k 0 l.length)=some (true,.s true sz (l.map r)):=fun h hb m=>by
 have hc:cut (l.map (aT r)) 0 l.length=some (l.map (aT r)):=by
  unfold cut;rw [if_pos (by simp),List.drop_zero,List.take_of_length_le (by simp)]
 have e1:gh h (m+2) (.own k 0 l.length)=(aG h k).bind fun x=>(cut x.2 0 l.length).bind fun es=>(es.mapM fun e:List C=>e.mapM (gh h (m+1))).bind fun q=>some (q.all (fun e=>e.all (·.1)),T.s true x.1 (q.map (fun e=>e.map (·.2)))):=rfl;rw [e1,hb.get hp];simp only [zbS,hc];rw [KO (q:=r) fun x=>hr x h m];simp only [zbS,List.map_map];congr 2
 ·rw [List.all_eq_true];intro x hx;simp only [List.mem_map]at hx;obtain⟨y,_,rfl⟩:=hx;rw [List.all_eq_true];intro z hz;simp only [Function.comp,List.mem_map]at hz;obtain⟨w,_,rfl⟩:=hz;rfl
 ·congr 1;refine List.map_congr_left fun x hx=> ?_;simp [Function.comp_def]
theorem au{c:C}{b:Bool}{t:T}(h1:∀h,HB h L→∀m,gh h (m+2) c=some (b,t)):∀h,HB h L→dm h (.one c)=some (b,.one t):=fun h hb=>by
 show(gh h 6 c).bind _=_;rw [h1 h hb 4];rfl
theorem aA{cs:List C}{vs:List (Bool×T)}(h1:VwC L cs vs):∀h,HB h L→dm h (.agg cs)=some (vs.all (·.1),.agg (vs.map (·.2))):=fun h hb=>by
 show(cs.mapM (gh h 6)).bind _=_;rw [h1 h hb 4];rfl
def BG(E:Env)(n:Nat)(k:FuncId)(vs:List TD)(rs:List TD):Prop:=∃fr:Bool,RunsP E n k vs (cond fr .fresh .any,rs)
theorem xj{c:Call}{k:FuncId}{args:List D}{vs:List (Bool×TD)}{r:Kind×List TD}{e:Nat→Eff}(hc:bn (.call c)=some c)(hr:bX c (ov nt f)=some (k,args))(hv:Vw L args vs)(hk:cpR E n k (vs.map (·.2))=some r)
  (he:∀nid,(match r.1 with
   | .own=>match r.2 with
    | [.one (.s true sz l)]=>some ({v:= .one (.own nid 0 l.length),upd:= [(nid,.own sz (l.map (·.map (pC true))))]}:Eff)
    |_=>none
   | .fresh=>some {v:=jP (r.2.map (dt true))}
   | .any=>if args.any lW then none else some {v:=jP (r.2.map (dt (vs.all (·.1))))})=some (e nid)):∀(h:Heap) (nid:Nat),HB h L→stepG E (cpR E n) none nid (.call c) (aV (tab nt f)) h=some (e nid):=fun h nid hb=>by
 rw [mU,hc];show jQ (cpR E n) nid c (aV (tab nt f)) h=_;unfold jQ;rw [fS,hr];simp only [zbB,zbS,hv h hb,hk];exact he nid
theorem Hr{c:Call}{k:FuncId}{args:List D}{vs:List (Bool×TD)}{vs2 rs:List TD}{v:D}(hk:RunsP E n k vs2 (.fresh,rs))(hc:bn (.call c)=some c)(hr:bX c (ov nt f)=some (k,args))(hv:Vw L args vs)(h2:vs.map (·.2)=vs2)(hrv:jP (rs.map (dt true))=v):PS E n nt f L (.call c) v:=fun h nid hb=>by
 subst hrv h2;exact xj (e:=fun _=>⟨_,[]⟩) hc hr hv (eW hk) (fun _=>rfl) h nid hb
theorem vL{c:Call}{k:FuncId}{args:List D}{vs:List (Bool×TD)}{vs2 rs:List TD}{v:Bool→D}(hk:BG E n k vs2 rs)(hc:bn (.call c)=some c)(hr:bX c (ov nt f)=some (k,args))(hv:Vw L args vs)(h2:vs.map (·.2)=vs2)(ho:args.any lW=false)(hrv:∀fr,jP (rs.map (dt fr))=v fr):∃fr,PS E n nt f L (.call c) (v fr):=by
 obtain⟨fr,hk⟩:=hk
 cases fr with
 |true=>exact⟨true,Hr hk hc hr hv h2 (hrv true)⟩
 |false=>
  subst h2;refine⟨vs.all (·.1),fun h nid hb=> ?_⟩;rw [←hrv];refine xj (e:=fun _=>⟨_,[]⟩) hc hr hv (eW hk) (fun _=> ?_) h nid hb;show(if args.any lW=true then none else _)=_;rw [ho];rfl
theorem nJ{α:Type}{r:α→List T}{c:Call}{k:FuncId}{args:List D}{vs:List (Bool×TD)}{vs2:List TD}{sz:Nat}{l:List α}(hk:RunsP E n k vs2 (.own,[.one (.s true sz (l.map r))]))(hc:bn (.call c)=some c)(hr:bX c (ov nt f)=some (k,args))(hv:Vw L args vs)(h2:vs.map (·.2)=vs2):PN E n nt f L (.call c) (fun k'=> .one (.own k' 0 l.length)) sz (l.map (aT r)):=fun h nid hb=>by
 subst h2
 have:=xj (e:=fun nid=>⟨.one (.own nid 0 (l.map r).length),[(nid,.own sz ((l.map r).map (·.map (pC true))))]⟩) hc hr hv (eW hk) (fun _=>rfl) h nid hb
 rw [List.length_map,List.map_map]at this;exact this
def adR(E:Env)(rv:List ResultVar)(rs:List TD):Ex→St→Prop:=fun e s=>∃fr:Bool,jA E rv (cond fr .fresh .any,rs) e s
def DL(E:Env)(nt:Nat)(f:Nat→D)(L:BL)(rv:List ResultVar)(ds:List D):Prop:=∀h,HB h L→rv.mapM (dq E {t:=tab nt f,h:=h})=some ds
theorem aC:DL E nt f L [] []:=fun h hb=>rfl
theorem bW{t:Tmp}{d:D}{rv:List ResultVar}{ds:List D}(ht:ov nt f (.tmp t)=some d)(h:DL E nt f L rv ds):DL E nt f L (.tmp t::rv) (d::ds):=fun H hb=>by
 have:(tab nt f)[t]? =some d:=(ck nt f (.tmp t)).trans ht
 rw [List.mapM_cons,h H hb];show((tab nt f)[t]?).bind _=_;rw [this];rfl
theorem aD{t:Tmp}{ty:TypeId}{k i j sz bz:Nat}{ag:Bool}{es:List (List C)}{e cs:List C}{d:D}{rv:List ResultVar}{ds:List D}(p:Nat)(ht:ov nt f (.tmp t)=some (.one (.ptr k i j)))(hz:cJ E.ti ty=some (sz,ag))(hp:L[p]? =some [(k,bz,es)])(he:es[i]? =some e)(hc:cut e j (cond ag sz 1)=some cs)(hv:dK ag cs=some d)(h:DL E nt f L rv ds):DL E nt f L (.cell t ty::rv) (d::ds):=fun H hb=>by
 have h1:(tab nt f)[t]? =some (.one (.ptr k i j)):=(ck nt f (.tmp t)).trans ht;unfold cJ at hz;simp only [zbE,zsI,Prod.mk.injEq]at hz;obtain⟨ti,g1,rfl,rfl⟩:=hz;rw [List.mapM_cons,h H hb];show(((E.ti ty).bind fun t'=>((tab nt f)[t]?).bind fun d=>load H (bJ t'.desc) (if bJ t'.desc then t'.size else 1) d).bind _)=_;rw [g1,h1];simp only [zbS,load,hb.get hp,zbB,he,Ho,hc,hv];rfl
theorem aR{rv:List ResultVar}{ds:List D}{vs:List (Bool×TD)}{e:Ex}{rs:List TD}(he:e= .normal∨e= .ret)(hr:DL E nt f L rv ds)(hv:Vw L ds vs)(ho:∀h,HB h L→de h ds=false)(hf:vs.all (·.1)=true)(hrs:vs.map (·.2)=rs):dV nt (jA E rv (.fresh,rs)) e f L:=fun H hb=>by
 have key:dj (fun l:Kind×List TD=>l=(.fresh,rs)) ((rv.mapM (dq E {t:=tab nt f,h:=H})).bind fun rs=>(rs.mapM (dm H)).map fun l=>(if de H rs then .own else if l.all (·.1)then .fresh else .any,l.map (·.2))):=by
  rw [hr H hb];simp only [zbS,hv H hb,Option.map_some,ho H hb,hf,hrs];rfl
 rcases he with rfl|rfl<;>exact key
theorem rg{rv:List ResultVar}{ds:List D}{vs:List (Bool×TD)}{e:Ex}{rs:List TD}(he:e= .normal∨e= .ret)(hr:DL E nt f L rv ds)(hv:Vw L ds vs)(ho:∀h,HB h L→de h ds=false)(hrs:vs.map (·.2)=rs):dV nt (adR E rv rs) e f L:=fun H hb=>by
 have key:dj (fun l:Kind×List TD=>l=(cond (vs.all (·.1)) .fresh .any,rs)) ((rv.mapM (dq E {t:=tab nt f,h:=H})).bind fun rs=>(rs.mapM (dm H)).map fun l=>(if de H rs then .own else if l.all (·.1)then .fresh else .any,l.map (·.2))):=by
  rw [hr H hb];simp only [zbS,hv H hb,Option.map_some,ho H hb,hrs];show(_,_)=(_,_);cases vs.all (·.1)<;>rfl
 refine⟨vs.all (·.1),?_⟩;rcases he with rfl|rfl<;>exact key
theorem Nj{α:Type}{r:α→List T}{rv:List ResultVar}{k sz:Nat}{l:List α}{e:Ex}(p:Nat)(he:e= .normal∨e= .ret)(hr:DL E nt f L rv [.one (.own k 0 l.length)])(hp:L[p]? =some [(k,sz,l.map (aT r))])(hr2:∀x h m,(aT r x).mapM (gh h (m+1))=some ((r x).map fun t=>(true,t)))(hpl:∀x,(aT r x).all sX=true):dV nt (jA E rv (.own,[.one (.s true sz (l.map r))])) e f L:=fun H hb=>by
 have ho:de H [.one (.own k 0 l.length)]=true:=by
  simp [de,hb.get hp,hpl]
 have key:dj (fun l':Kind×List TD=>l'=(.own,[.one (.s true sz (l.map r))])) ((rv.mapM (dq E {t:=tab nt f,h:=H})).bind fun rs=>(rs.mapM (dm H)).map fun l=>(if de H rs then .own else if l.all (·.1)then .fresh else .any,l.map (·.2))):=by
  rw [hr H hb];have hv: [D.one (.own k 0 l.length)].mapM (dm H)=some [(true,.one (.s true sz (l.map r)))]:=af (au (kA p hp hr2)) ai H hb;simp only [zbS,hv,Option.map_some,ho];rfl
 rcases he with rfl|rfl<;>exact key
theorem XK{d e:D}{ds:List D}{h:Heap}:de h (d::e::ds)=false:=by
 unfold de;split
 ·rename_i hx;simp at hx
 ·rfl
theorem XL{cs:List C}{h:Heap}:de h [.agg cs]=false:=rfl
theorem YP{fr:Bool}{t:T}{h:Heap}:de h [.one (.p fr t)]=false:=rfl
def f0(vs:List TD):Nat→D:=fun i=>(vs.map (dt false)).getD i cM
theorem ml{k:FuncId}{fi:FI}{vs rs:List TD}(ha:E.ax k=none)(hf:E.fn k=some fi)(hl:Nat.ble vs.length fi.nt=true)(h:WpL E nY n fi.nt fi.body (jA E fi.results (.fresh,rs)) (f0 vs) []):RunsP E (n+1) k vs (.fresh,rs):=oP ha hf (Nat.le_of_ble_eq_true hl) (h [] ⟨List.nodup_nil,fun x hx=>by simp at hx⟩)
theorem adS{k:FuncId}{fi:FI}{vs rs:List TD}(ha:E.ax k=none)(hf:E.fn k=some fi)(hl:Nat.ble vs.length fi.nt=true)(h:WpL E nY n fi.nt fi.body (jA E fi.results (.own,rs)) (f0 vs) []):RunsP E (n+1) k vs (.own,rs):=oP ha hf (Nat.le_of_ble_eq_true hl) (h [] ⟨List.nodup_nil,fun x hx=>by simp at hx⟩)
theorem XM{k:FuncId}{fi:FI}{vs rs:List TD}(ha:E.ax k=none)(hf:E.fn k=some fi)(hl:Nat.ble vs.length fi.nt=true)(h:WpL E nY n fi.nt fi.body (adR E fi.results rs) (f0 vs) []):BG E (n+1) k vs rs:=by
 obtain⟨e,s',h1,fr,h2⟩:=h [] ⟨List.nodup_nil,fun x hx=>by simp at hx⟩;exact⟨fr,oP ha hf (Nat.le_of_ble_eq_true hl) ⟨e,s',h1,h2⟩⟩
end
section
variable (P : Program) (t : TypeId) (x y : Operand) (k : IntKind) {a b : Int}
theorem XN(h:a<b):aw P (do eqGuard .lss t x y (.int k a) (.int k b);binOp .lss t (.int k a) (.int k b))=some (.bool true):=by rw [Ur,decide_eq_true h]
theorem XO(h:¬a<b):aw P (do eqGuard .lss t x y (.int k a) (.int k b);binOp .lss t (.int k a) (.int k b))=some (.bool false):=by rw [Ur,decide_eq_false h]
theorem XP(h:a≤b):aw P (do eqGuard .leq t x y (.int k a) (.int k b);binOp .leq t (.int k a) (.int k b))=some (.bool true):=by rw [Us,decide_eq_true h]
theorem XQ(h:¬a≤b):aw P (do eqGuard .leq t x y (.int k a) (.int k b);binOp .leq t (.int k a) (.int k b))=some (.bool false):=by rw [Us,decide_eq_false h]
theorem XR(h:a>b):aw P (do eqGuard .gtr t x y (.int k a) (.int k b);binOp .gtr t (.int k a) (.int k b))=some (.bool true):=by rw [Ut,decide_eq_true h]
theorem XS(h:¬a>b):aw P (do eqGuard .gtr t x y (.int k a) (.int k b);binOp .gtr t (.int k a) (.int k b))=some (.bool false):=by rw [Ut,decide_eq_false h]
theorem XU(h:a ≥ b):aw P (do eqGuard .geq t x y (.int k a) (.int k b);binOp .geq t (.int k a) (.int k b))=some (.bool true):=by rw [Uu,decide_eq_true h]
theorem XV(h:¬a ≥ b):aw P (do eqGuard .geq t x y (.int k a) (.int k b);binOp .geq t (.int k a) (.int k b))=some (.bool false):=by rw [Uu,decide_eq_false h]
theorem XW(h:a=b):aw P (do eqGuard .eql t x y (.int k a) (.int k b);binOp .eql t (.int k a) (.int k b))=some (.bool true):=by rw [Uv,h];simp
theorem XX(h:¬a=b):aw P (do eqGuard .eql t x y (.int k a) (.int k b);binOp .eql t (.int k a) (.int k b))=some (.bool false):=by rw [Uv];simp [h]
theorem XY(h:a≠b):aw P (do eqGuard .neq t x y (.int k a) (.int k b);binOp .neq t (.int k a) (.int k b))=some (.bool true):=by rw [Uw];simp [h]
theorem XZ(h:¬a≠b):aw P (do eqGuard .neq t x y (.int k a) (.int k b);binOp .neq t (.int k a) (.int k b))=some (.bool false):=by rw [Uw,Classical.not_not.1 h];simp
end
def mo{α:Type}(w:Nat)(l:List α):Sl α:=
 match l with
 | []=>⟨false,0,[]⟩
 |_::_=>⟨true,w,l⟩
def moC{α:Type}(l:List α)(k:Nat):C:=
 match l with
 | []=> .p true (.s false 0 [])
 |_::_=> .own k 0 l.length
def moL{α:Type}(r:α→List T)(w:Nat)(l:List α)(k:Nat):List B1:=
 match l with
 | []=> []
 |_::_=> [(k,w,l.map (aT r))]
theorem kI{α:Type}(w:Nat)(l:List α):(mo w l).l=l:=by cases l<;>rfl
def mZ(k:IntKind)(a b:Int):Option Int:=if b≠0 then some (k.wrap (a.tdiv b))else none
def vM(a b:Int):Option Int:=if b≠0 then some (a.tmod b)else none
theorem jb{P:Program}{t:TypeId}{x y:Operand}{k:IntKind}{a b z:Int}(h:mZ k a b=some z):aw P (do eqGuard .quo t x y (.int k a) (.int k b);binOp .quo t (.int k a) (.int k b))=some (.int k z):=by
 unfold mZ at h;split at h
 ·rename_i hc;rw [←Option.some.inj h];exact adK _ _ _ _ _ _ _ hc
 ·simp at h
theorem BH{P:Program}{t:TypeId}{x y:Operand}{k:IntKind}{a b z:Int}(h:vM a b=some z):aw P (do eqGuard .rem t x y (.int k a) (.int k b);binOp .rem t (.int k a) (.int k b))=some (.int k z):=by
 unfold vM at h;split at h
 ·rename_i hc;rw [←Option.some.inj h];exact adL _ _ _ _ _ _ _ hc
 ·simp at h
def iX(i:Int):Option Unit:=if 0≤i∧i.toNat≤cS then some ()else none
def EF(i j:Int):Option Unit:=if i=j then some ()else if i≤j∧j.toNat≤cS then some ()else none
theorem Nk(i:Int):EF i i=some ():=if_pos rfl
theorem Nl{i j:Int}{u:Unit}(h:EF i j=some u):i=j∨(i≤j∧j.toNat≤cS):=by
 unfold EF at h;split at h
 ·rename_i hi;exact .inl hi
 ·split at h
  ·rename_i hj;exact .inr hj
  ·simp at h
theorem dk{i:Int}{u:Unit}(h:iX i=some u):0≤i∧i.toNat≤cS:=by
 unfold iX at h;split at h
 ·assumption
 ·simp at h
end Ev
end
noncomputable section
namespace Ev
open Go Go.RowKit
def QD(x:Int)(k:IntKind)(y:Int):Int:=x.fdiv (2 ^(min y.toNat k.bits))
def UM(x:Int)(k:IntKind)(y:Int):Int:=k.wrap (x*2 ^(min y.toNat k.bits))
def rh(k:IntKind)(x y:Int):Option Int:=if 0≤y then some (QD x k y)else none
def zm(k:IntKind)(x y:Int):Option Int:=if 0≤y then some (UM x k y)else none
theorem YQ{P:Program}{t:TypeId}{x y:Operand}{k k':IntKind}{a b z:Int}(h:rh k a b=some z):aw P (do eqGuard .shr t x y (.int k a) (.int k' b);binOp .shr t (.int k a) (.int k' b))=some (.int k z):=by
 unfold rh at h;split at h
 ·rename_i hc;rw [←Option.some.inj h]
  have:(do eqGuard .shr t x y (.int k a) (.int k' b);binOp .shr t (.int k a) (.int k' b))=(pure (.int k (QD a k b)):Sem Value):=by
   show Op.shift .shr k a k' b=_;unfold Op.shift;rw [if_neg (by omega)];rfl
  rw [this];rfl
 ·simp at h
theorem YR{P:Program}{t:TypeId}{x y:Operand}{k k':IntKind}{a b z:Int}(h:zm k a b=some z):aw P (do eqGuard .shl t x y (.int k a) (.int k' b);binOp .shl t (.int k a) (.int k' b))=some (.int k z):=by
 unfold zm at h;split at h
 ·rename_i hc;rw [←Option.some.inj h]
  have:(do eqGuard .shl t x y (.int k a) (.int k' b);binOp .shl t (.int k a) (.int k' b))=(pure (.int k (UM a k b)):Sem Value):=by
   show Op.shift .shl k a k' b=_;unfold Op.shift;rw [if_neg (by omega)];rfl
  rw [this];rfl
 ·simp at h
def oT(k:IntKind)(x y:Int):Int:=k.wrap (BitVec.ofInt k.bits x &&& BitVec.ofInt k.bits y).toNat
def orI(k:IntKind)(x y:Int):Int:=k.wrap (BitVec.ofInt k.bits x|||BitVec.ofInt k.bits y).toNat
def UN(k:IntKind)(x y:Int):Int:=k.wrap (BitVec.ofInt k.bits x ^^^ BitVec.ofInt k.bits y).toNat
def kB(k:IntKind)(x y:Int):Int:=k.wrap (BitVec.ofInt k.bits x &&& ~~~ BitVec.ofInt k.bits y).toNat
section
variable (P : Program) (t : TypeId) (x y : Operand) (k : IntKind) (a b : Int)
theorem UO:aw P (do eqGuard .and t x y (.int k a) (.int k b);binOp .and t (.int k a) (.int k b))=some (.int k (oT k a b)):=by cases k<;>rfl
theorem adT:aw P (do eqGuard .or t x y (.int k a) (.int k b);binOp .or t (.int k a) (.int k b))=some (.int k (orI k a b)):=by cases k<;>rfl
theorem adU:aw P (do eqGuard .xor t x y (.int k a) (.int k b);binOp .xor t (.int k a) (.int k b))=some (.int k (UN k a b)):=by cases k<;>rfl
theorem KP:aw P (do eqGuard .andNot t x y (.int k a) (.int k b);binOp .andNot t (.int k a) (.int k b))=some (.int k (kB k a b)):=by cases k<;>rfl
end
section
variable {E : Env} {y : Nat → gg} {n nt : Nat} {f : Nat → D} {L : BL}
def zn{α:Type}(w:Nat)(s:Sl α)(lo hi:Int):Option (Sl α):=if 0≤lo∧lo≤hi∧hi≤(s.l.length:Int)∧(s.sz=w∨lo=0)then some ⟨s.nn,s.sz,(s.l.drop lo.toNat).take (hi.toNat - lo.toNat)⟩else none
theorem oU{α:Type}{w:Nat}{s s':Sl α}{lo hi:Int}(h:zn w s lo hi=some s'):(0≤lo∧lo≤hi∧hi≤(s.l.length:Int)∧(s.sz=w∨lo=0))∧s'=⟨s.nn,s.sz,(s.l.drop lo.toNat).take (hi.toNat - lo.toNat)⟩:=by
 unfold zn at h;split at h
 ·rename_i hc;exact⟨hc,(Option.some.inj h).symm⟩
 ·simp at h
theorem Ya{ρ:Operand→Option D}(d:Nat):go ρ none d=some ((d:Int)).toNat:=by simp [go]
theorem Yb{ρ:Operand→Option D}:go ρ none 0=some ((0:Int)).toNat:=rfl
theorem OG{y:Operand}{fr:Bool}{k:IntKind}{i:Int}(hx:ov nt f y=some (.one (.p fr (.v (.int k i)))))(h0:0≤i)(d:Nat):go (ov nt f) (some y) d=some i.toNat:=by
 show(ov nt f y).bind jc=_;rw [hx];exact iP fr k _ h0
theorem KQ{α:Type}{r:α→List T}{ty e:TypeId}{t te:TI}{x:Operand}{lo hi mx:Option Operand}{fr nn:Bool}{sz m:Nat}{l:List α}{s':Sl α}{i j:Int}(hc:zn te.size ⟨nn,sz,l⟩ i j=some s')(hx:ov nt f x=some (.one (.p fr (.s nn sz (l.map r)))))(ht:E.ti ty=some t)(he:bu t=some e)(hte:E.ti e=some te)(hlo:go (ov nt f) lo 0=some i.toNat)(hhi:go (ov nt f) hi l.length=some j.toNat)(hmx:go (ov nt f) mx l.length=some m)(hm:(mx.isSome && hi.isNone)=false)(hm1:j.toNat≤m)(hm2:m≤l.length):PS E n nt f L (.slice ty x lo hi mx) (.one (.p fr (Sl.t r s'))):=fun h nid hb=>by
 obtain⟨⟨c1,c2,c3,c4⟩,rfl⟩:=oU hc;simp only at c1 c2 c3 c4;show(if(mx.isSome && hi.isNone)=true then none else(E.ti ty).bind fun t=>(bu t).bind fun q=>(E.ti q).bind fun te=>(aN (aV (tab nt f)) x).bind fun d=>(Cz d).bind fun n=>(go (aN (aV (tab nt f))) hi n).bind fun h'=>(go (aN (aV (tab nt f))) lo 0).bind fun l'=>(go (aN (aV (tab nt f))) mx n).bind fun m'=>if l'≤h'∧h'≤m'∧m'≤n then _ else _)=_;rw [if_neg (by rw [hm];simp),ht,fS];simp only [zbS,he,hte,hx,Ni,hhi,hlo,hmx];rw [if_pos (by omega)];show(if sz=te.size∨i.toNat=0 then _ else _)=_;rw [if_pos (by rcases c4 with h|h;exact .inl h;exact .inr (by omega))];unfold Sl.t;rw [List.map_take,List.map_drop]
theorem UP{α:Type}{r:α→List T}{ty e:TypeId}{t te:TI}{x:Operand}{lo hi:Option Operand}{fr nn:Bool}{sz:Nat}{l:List α}{s':Sl α}{i j:Int}(hc:zn te.size ⟨nn,sz,l⟩ i j=some s')(hx:ov nt f x=some (.one (.p fr (.s nn sz (l.map r)))))(ht:E.ti ty=some t)(he:bu t=some e)(hte:E.ti e=some te)(hlo:go (ov nt f) lo 0=some i.toNat)(hhi:go (ov nt f) hi l.length=some j.toNat):PS E n nt f L (.slice ty x lo hi none) (.one (.p fr (Sl.t r s'))):=
 KQ hc hx ht he hte hlo hhi (m:=l.length) rfl rfl (by have:=(oU hc).1;simp only at this;omega) (Nat.le_refl _)
theorem KR{ty e:TypeId}{t te:TI}{m z:Nat}{x ix:Operand}{fb:Bool}{kb:IntKind}{k i j a:Nat}(ht:E.ti ty=some t)(hd:t.desc= .array m e)(hte:E.ti e=some te)(hz:te.size=z)(hx:ov nt f x=some (.one (.ptr k i j)))(hi:ov nt f ix=some (.one (.p fb (.v (.int kb (a:Int))))))(ha:Nat.blt a m=true):PS E n nt f L (.indexAddr ty x ix) (.one (.ptr k i (j+a*z))):=fun h nid hb=>by
 rw [zv,ck,hx,ck,hi];refine Eq.trans (b:=Kz E.ti ty h a (.one (.ptr k i j))) rfl ?_
 show((E.ti ty).bind fun t=>match t.desc with
  | .array n e=>(E.ti e).bind fun te=>if a<n then some (⟨.one (.ptr k i (j+a*te.size)),[]⟩:Eff)else none
  |_=>none)=_
 rw [ht];simp only [zbS,hd,hte];rw [if_pos (gm ha),hz]
variable {ops : Array Oper} {r : List Oper} {K : St → Prop}
theorem sQ(i:Nat){v:D}(h:f i=v)(h2:eJ E y n nt ops r K (up f i v) L):eJ E y n nt ops r K f L:=by rw [zw h]at h2;exact h2
theorem UQ{q w b:Nat}{O:List (List Nat)}{N:List (Bool×List Nat)}{R:List (List Nat)}(i:Nat){v:D}(h:f i=v)(h2:TnL E n nt ops r q w O N R b K (up f i v) L):TnL E n nt ops r q w O N R b K f L:=by rw [zw h]at h2;exact h2
def adV(a b:Int):Int:=if b<a then b else a
def adW(a b:Int):Int:=if b>a then b else a
theorem KU{c:Call}{x y:Operand}{ty:TypeId}{t:TI}{fa fb:Bool}{ka kb:IntKind}{a b:Int}(hx:ov nt f x=some (.one (.p fa (.v (.int ka a)))))(hy:ov nt f y=some (.one (.p fb (.v (.int kb b)))))(ht:E.ti ty=some t)(hargs:c.args.toList= [x,y])(hty:c.argTypes[0]? =some ty):(c.callee= .builtin .min→PS E n nt f L (.call c) (iD ka (adV a b)))∧(c.callee= .builtin .max→PS E n nt f L (.call c) (iD ka (adW a b))):=by
 constructor<;>intro hc h nid hb
 all_goals
  have h1:bn (.call c)=none:=by unfold bn;simp only [hc]
  rw [mU,h1];unfold sem xg;simp only [hc,hty,ht,hargs,fS,zbB,zbS,List.mapM_cons,List.mapM_nil,hx,hy,Option.pure_def,plain,sU];rfl
theorem UR{α:Type}{l m x:List α}(h:app l m=some x):x=l++m:=(cV h).2
theorem OH{α:Type}{l m x:List α}(h:app l m=some x):x.length≤cS:=by
 obtain⟨h1,rfl⟩:=cV h;simpa using h1
theorem OI{α:Type}{ro:α→List C}{c:Call}{a x:Operand}{ty ty1 z e1:TypeId}{t1:TI}{fr:Bool}{bz:Nat}{d:D}{y:α}{ys:List α}(ha:ov nt f a=some (.one (.p fr (.s false bz []))))(hx:ov nt f x=some d)(hxs:yx L d ((y::ys).map ro))(hb:(y::ys).length≤cS)(hr:∀y,(ro y).length=z)(hz:dU E.ti ty=some z)(ht1:E.ti ty1=some t1)(he1:bu t1=some e1)
  (hc:c.callee= .builtin .append) (hargs:c.args.toList= [a,x]) (hty:c.argTypes[0]? =some ty) (hty1:c.argTypes[1]? =some ty1):PN E n nt f L (.call c) (fun k=> .one (.own k 0 (y::ys).length)) z ((y::ys).map ro):=by
 have:=ab7 (n:=n) ha hx hxs ⟨_,_,rfl⟩ (by simpa using hb) (by simp [hr]) hz ht1 he1 hc hargs hty hty1
 rw [List.length_map]at this;exact this
end
theorem vN{α:Type}{w:Nat}{l:List α}{i:Int}{x:α}(h:atS w (mo w l) i=some x):0≤i∧l[i.toNat]? =some x:=by
 obtain⟨h1,_,h2⟩:=bF h;rw [kI]at h2;exact⟨h1,h2⟩
theorem Yc{α:Type}{w:Nat}{i:Int}{x:α}(h:atS w (⟨false,0,[]⟩:Sl α) i=some x):False:=by
 obtain⟨_,_,h2⟩:=bF h;simp at h2
def KV{α:Type}(w:Nat)(r:α→List T)(l:List α):Kind×List TD:=
 match l with
 | []=>(.fresh,[.one (.s false 0 [])])
 |y::t=>(.own,[.one (.s true w ((y::t).map r))])
theorem ab9{E:Env}{n:Nat}{k:FuncId}{fi:FI}{vs:List TD}{rs:Kind×List TD}(ha:E.ax k=none)(hf:E.fn k=some fi)(hl:Nat.ble vs.length fi.nt=true)(h:WpL E nY n fi.nt fi.body (jA E fi.results rs) (f0 vs) []):RunsP E (n+1) k vs rs:=oP ha hf (Nat.le_of_ble_eq_true hl) (h [] ⟨List.nodup_nil,fun x hx=>by simp at hx⟩)
section
variable {α : Type} {rw_ : α → List T} {w k : Nat} {l : List α}
theorem Nm{L:BL}{p:Nat}{r:α→List T}(hp:L[p]? =some (moL r w l k)){i:Nat}{y:α}(hy:l[i]? =some y):L[p]? =some [(k,w,l.map (aT r))]:=by
 cases l with
 |nil=>simp at hy
 |cons a l=>exact hp
theorem adX{r:α→List T}{i:Nat}{y y':α}(hy:l[i]? =some y): [(k,w,(l.set i y').map (aT r))]=moL r w (l.set i y') k:=by
 cases l with
 |nil=>simp at hy
 |cons a l=>cases i<;>rfl
theorem nK{i:Nat}{x:α}:moC l k=moC (l.set i x) k:=by
 cases l with
 |nil=>rfl
 |cons a l=>
  have h:∀m:List α,m≠[]→moC m k= .own k 0 m.length:=fun m hm=>by cases m with|nil=>exact absurd rfl hm|cons b m=>rfl
  rw [h _ (by simp),h _ (by simp),List.length_set]
theorem US:Cz (.one (moC l k))=some l.length:=by cases l<;>rfl
end
section
variable {E : Env} {y : Nat → gg} {n nt : Nat} {f : Nat → D} {L : BL} {ops : Array Oper} {o : Oper} {rr : List Oper} {K : St → Prop} {d : Nat}
theorem Nn{α:Type}{l:List α}{c:Call}{a:Operand}{ty e:TypeId}{t:TI}{k:Nat}(hx:ov nt f a=some (.one (moC l k)))(ht:E.ti ty=some t)(hd:t.desc= .slice e)(hc:c.callee= .builtin .len)(ha:c.args.toList= [a])(hty:c.argTypes[0]? =some ty):PS E n nt f L (.call c) (iD .i64 l.length):=Hq hc ha hty ht hd hx US
theorem BI{α:Type}{r:α→List T}{ty:TypeId}{x ix:Operand}{fb:Bool}{k w:Nat}{l:List α}{kb:IntKind}{i:Int}{y:α}(p:Nat)(hx:ov nt f x=some (.one (moC l k)))(hi:ov nt f ix=some (.one (.p fb (.v (.int kb i)))))(h0:0≤i)(hy:l[i.toNat]? =some y)(hp:L[p]? =some (moL r w l k))(hz:dU E.ti ty=some w):PS E n nt f L (.indexAddr ty x ix) (.one (.ptr k i.toNat 0)):=by
 cases l with
 |nil=>simp at hy
 |cons a l=>exact vK (r:=aT r) p hx hi h0 hy hp hz
def moK{α:Type}(l:List α)(k:Nat):List Nat:=
 match l with
 | []=> []
 |_::_=> [k]
theorem HB.dropNil{h:Heap}{L:BL}{p:Nat}(hp:L[p]? =some [])(hb:HB h L):HB h (L.eraseIdx p):=by unfold HB;rw [EC hp];exact hb
theorem BJ{p:Nat}(hp:L[p]? =some [])(h:eJ E y n nt ops rr K f (L.eraseIdx p)):eJ E y n nt ops rr K f L:=fun H hb=>h H (hb.dropNil hp)
theorem Yd{α:Type}(r:α→List T)(w:Nat)(h:eJ E y n nt ops rr K f (moL r w ([]:List α) 0::L)):eJ E y n nt ops rr K f L:=fun H hb=>h H hb
theorem rj{α:Type}{Q:Ex→St→Prop}{c:Code}(r:α→List T)(w:Nat)(h:WpL E y n nt c Q f (moL r w ([]:List α) 0::L)):WpL E y n nt c Q f L:=fun H hb=>h H hb
theorem oe{α:Type}:∀{l:List α} {q:Nat} {s:α},l[q]? =some s→l.set q s=l
 | [],q,s,h=>by simp at h
 |a::l,0,s,h=>by simp at h;subst h;rfl
 |a::l,q+1,s,h=>by rw [List.set_cons_succ,oe (by simpa using h)]
theorem UT(q:Nat){s s':List B1}(hq:L[q]? =some s)(he:s=s')(h:eJ E y n nt ops rr K f (L.set q s')):eJ E y n nt ops rr K f L:=by subst he;rw [oe hq]at h;exact h
theorem No{i wd b:Nat}{O:List (List Nat)}{N:List (Bool×List Nat)}{R:List (List Nat)}(q:Nat){s s':List B1}(hq:L[q]? =some s)(he:s=s')(h:TnL E n nt ops rr i wd O N R b K f (L.set q s')):TnL E n nt ops rr i wd O N R b K f L:=by subst he;rw [oe hq]at h;exact h
theorem jp{α:Type}{k i:Nat}{l:List α}{x:α}:C.own k 0 l.length=C.own k 0 (l.set i x).length:=by rw [List.length_set]
theorem xm{α:Type}{l:List α}{k k2:Nat}(h:k2 ∉ moK l k):∀x∈moK l k,¬x=k2:=fun x hx e=>h (e▸hx)
theorem kD{α:Type}{r:α→List T}{c:Call}{a x:Operand}{ty ty1 w e1:TypeId}{t1:TI}{k:Nat}{l ys lm:List α}{dx:D}(p:Nat)(hw:dX ops o nt f=some true)(hd:o.dst=some d)(hn:Nat.blt d nt=true)(ho:o.op= .call c)(ha:ov nt f a=some (.one (moC l k)))(hx:ov nt f x=some dx)(hxs:yx L dx (ys.map (aT r)))(hp:L[p]? =some (moL r w l k))(hlm:app l ys=some lm)(hr:∀y,(aT r y).length=w)(hz:dU E.ti ty=some w)(ht1:E.ti ty1=some t1)(he1:bu t1=some e1)
  (hc:c.callee= .builtin .append) (hargs:c.args.toList= [a,x]) (hty:c.argTypes[0]? =some ty) (hty1:c.argTypes[1]? =some ty1) (h:∀k',eJ E y n nt ops rr K (up f d (.one (moC lm k'))) (moL r w lm k'::L.eraseIdx p)) (hz0:Nat.beq w 0=false:=by rfl):eJ E y n nt ops (o::rr) K f L:=by
 cases l with
 |nil=>
  have hlm2:=UR hlm;rw [List.nil_append]at hlm2;subst hlm2;have hb:=OH hlm
  cases lm with
  |nil=>exact Hl hw hd hn (by rw [ho];exact ab8 ha hx hxs hz ht1 he1 hc hargs hty hty1) (BJ hp (h 0))
  |cons y ys=>
   refine aF hw hd hn (by rw [ho];exact OI (ro:=aT r) ha hx hxs hb hr hz ht1 he1 hc hargs hty hty1) fun k'=> ?_;exact BJ (p:=p+1) hp (h k')
 |cons y l=>
  obtain⟨_,rfl⟩:=cV hlm;exact aaY hw hd hn (by rw [ho];exact YO (r:=aT r) p ha hx hxs rfl hp hlm hr hz ht1 he1 hc hargs hty hty1 hz0) rfl h
theorem Np{i q b p:Nat}{O:List (List Nat)}{N:List (Bool×List Nat)}{R:List (List Nat)}(hp:L[p]? =some [])(h:TnL E n nt ops rr i q O N R b K f (L.eraseIdx p)):TnL E n nt ops rr i q O N R b K f L:=fun H hb hl=>h H (hb.dropNil hp) hl
theorem Ye{α:Type}{r:α→List T}{c:Call}{a x:Operand}{ty ty1 w e1:TypeId}{t1:TI}{k i wd b:Nat}{O:List (List Nat)}{N:List (Bool×List Nat)}{R:List (List Nat)}{A:BL}{l ys lm:List α}{y0:α}{dx:D}(p q:Nat)(hw:dX ops o nt f=some true)(hd:o.dst=some d)(hn:Nat.blt d nt=true)(ho:o.op= .call c)(is:List Nat)(hn2:is.Nodup)(hA:is.filterMap (fun i=>L[i]?)=A)(hm:∀x∈A.flatten,x.1 ∉(R.getD i []).flatMap (bi b O N))(hu:bi b O N i=moK l k++ [b+i])(hi:Nat.blt i wd=true)(hk:∀x∈L.flatten,x.1≠b+i)
  (ha:ov nt f a=some (.one (moC l k))) (hx:ov nt f x=some dx) (hxs:yx A dx ((y0::ys).map (aT r))) (hp:A[p]? =some (moL r w l k)) (hq:L[q]? =some (moL r w l k)) (hlm:app l (y0::ys)=some lm) (hr:∀y,(aT r y).length=w) (hz:dU E.ti ty=some w) (ht1:E.ti ty1=some t1) (he1:bu t1=some e1)
  (hc:c.callee= .builtin .append) (hargs:c.args.toList= [a,x]) (hty:c.argTypes[0]? =some ty) (hty1:c.argTypes[1]? =some ty1) (h:TnL E n nt ops rr (i+1) wd O N R b K (up f d (.one (moC lm (b+i)))) (moL r w lm (b+i)::L.eraseIdx q)) (hz0:Nat.beq w 0=false:=by rfl):TnL E n nt ops (o::rr) i wd O N R b K f L:=by
 cases l with
 |nil=>
  have hlm2:=UR hlm;rw [List.nil_append]at hlm2;subst hlm2;have hb:=OH hlm;refine pI hw hd hn is hn2 hA hm hu hi hk (by rw [ho];exact OI (ro:=aT r) ha hx hxs hb hr hz ht1 he1 hc hargs hty hty1) ?_;exact Np (p:=q+1) hq h
 |cons y l=>
  obtain⟨_,rfl⟩:=cV hlm;exact ab1 hw hd hn is hn2 hA hm hu hi hk (by rw [ho];exact YO (r:=aT r) p ha hx hxs rfl hp hlm hr hz ht1 he1 hc hargs hty hty1 hz0) hq rfl h
theorem hkM{α:Type}{r:α→List T}{w k z:Nat}{l:List α}{A:BL}(h1:l= []∨k≠z)(h2:∀x∈A.flatten,x.1≠z):∀x∈(moL r w l k::A:BL).flatten,x.1≠z:=fun x hx=>by
 rw [List.flatten_cons,List.mem_append]at hx;rcases hx with hx|hx
 ·cases l with
  |nil=>simp [moL]at hx
  |cons a l=>simp only [moL,List.mem_singleton]at hx;subst hx;exact h1.resolve_left (by simp)
 ·exact h2 x hx
theorem pL{α:Type}{r:α→List T}{w k b:Nat}{l:List α}(h:∀x∈L.flatten,x.1<b)(p:Nat)(hp:L[p]? =some (moL r w l k)):l= []∨k<b:=by
 cases l with
 |nil=>exact .inl rfl
 |cons a l=>exact .inr (br h p hp)
theorem rS{α:Type}{r:α→List T}{w k k2:Nat}{l:List α}{x2:Nat×List (List C)}(hn:(L.flatten.map (·.1)).Nodup)(p q:Nat)(hp:L[p]? =some (moL r w l k))(hq:L[q]? =some [(k2,x2)])(hpq:Nat.beq p q=false):k2 ∉ moK l k:=by
 cases l with
 |nil=>simp [moK]
 |cons a l=>have:=BE hn p q hp hq hpq;simp [moK];omega
theorem UU{α:Type}{l:List α}{k b:Nat}(h:l= []∨k<b):∀x∈moK l k,x<b:=fun x hx=>by
 cases l with
 |nil=>simp [moK]at hx
 |cons a l=>simp only [moK,List.mem_singleton]at hx;subst hx;exact h.resolve_left (by simp)
theorem Nq{α:Type}{r:α→List T}{w k:Nat}{l:List α}(p:Nat)(hp:L[p]? =some (moL r w l k))(hr:∀x h m,(aT r x).mapM (gh h (m+1))=some ((r x).map fun t=>(true,t))):∀h,HB h L→∀m,gh h (m+2) (moC l k)=some (true,Sl.t r (mo w l)):=by
 cases l with
 |nil=>exact fun h hb m=>rfl
 |cons a l=>exact kA (r:=r) p hp hr
theorem xn{α:Type}{r:α→List T}{rv:List ResultVar}{k w:Nat}{l:List α}{e:Ex}(p:Nat)(he:e= .normal∨e= .ret)(hr:DL E nt f L rv [.one (moC l k)])(hp:L[p]? =some (moL r w l k))(hr2:∀x h m,(aT r x).mapM (gh h (m+1))=some ((r x).map fun t=>(true,t)))(hpl:∀x,(aT r x).all sX=true):dV nt (jA E rv (KV w r l)) e f L:=by
 cases l with
 |nil=>exact aR he hr (af (au bV) ai) (fun h hb=>YP) rfl rfl
 |cons a l=>exact Nj (r:=r) p he hr hp hr2 hpl
theorem vO{α:Type}{r:α→List T}{c:Call}{k:FuncId}{args:List D}{vs:List (Bool×TD)}{vs2:List TD}{w:Nat}{l:List α}(hk:RunsP E n k vs2 (KV w r l))(hw:dX ops o nt f=some true)(hd:o.dst=some d)(hn:Nat.blt d nt=true)(ho:o.op= .call c)(hc:bn (.call c)=some c)(hr:bX c (ov nt f)=some (k,args))(hv:Vw L args vs)(h2:vs.map (·.2)=vs2)(h:∀k',eJ E y n nt ops rr K (up f d (.one (moC l k'))) (moL r w l k'::L)):eJ E y n nt ops (o::rr) K f L:=by
 cases l with
 |nil=>exact Hl hw hd hn (by rw [ho];exact Hr hk hc hr hv h2 rfl) fun H hb=>h 0 H hb
 |cons a l=>exact aF hw hd hn (by rw [ho];exact nJ (r:=r) hk hc hr hv h2) h
end
theorem dp{α β:Type}(P:Program)(s:Sem α)(k:α→Sem β):aw P (s>>=k)=(aw P s).bind fun a=>aw P (k a):=by
 induction s with
 |pure a=>rfl
 |program q ih=>exact ih P
 |_=>rfl
section
variable {P : Program}
theorem vP{t:TypeId}{d:TypeDesc}(h:P.underlying t=some d):aw P (underlying t)=some d:=by
 have:aw P (underlying t)=match P.underlying t with|some d=>some d|none=>none:=by
  show aw P (underlying t)=_
  cases hx:P.underlying t with
  |none=>rw [hx]at h;simp at h
  |some d'=>
   unfold underlying;simp [dp,program,aw,hx];rfl
 rw [this,h]
theorem pM(d:Nat)(t:TypeId)(xs ys:Array Value){fs:Array Field}(ht:P.underlying t=some (.struct fs))(hp:P.stoodInHeld t=false):
  aw P (Op.equalIn (d+1) t (.agg xs) (.agg ys))=aw P (Op.eqFields d xs ys fs.toList):=by
 have e1:aw P program=some P:=rfl;simp only [Op.equalIn,dp,vP ht,zbS,e1,hp,Bool.false_eq_true,if_false];rw [←Array.forIn_toList];generalize fs.toList=fs;clear ht
 induction fs with
 |nil=>rfl
 |cons f fs ih=>
  simp only [List.forIn_cons,Op.eqFields,dp];by_cases hf:f.name≠ "_"
  ·simp only [if_pos hf,dp]
   cases aw P (part f.type xs f.offset)with
   |none=>rfl
   |some a=>
    cases aw P (part f.type ys f.offset)with
    |none=>rfl
    |some b=>
     simp only [zbS]
     cases aw P (Op.equalIn d f.type a b)with
     |none=>rfl
     |some q=>
      cases q
      ·rfl
      ·exact ih
  ·simp only [if_neg hf,dp];exact ih
theorem kY{d:Nat}{xs ys:Array Value}{f:Field}{fs:List Field}{k k':IntKind}{a b:Int}(hf:(f.name== "_")=false)(h1:aw P (part f.type xs f.offset)=some (.int k a))(h2:aw P (part f.type ys f.offset)=some (.int k b))(h3:P.underlying f.type=some (.int k')):
  aw P (Op.eqFields (d+1) xs ys (f::fs))=if(a==b)=true then aw P (Op.eqFields (d+1) xs ys fs)else some false:=by
 have hf':f.name≠ "_" :=by simpa using hf
 have h4:aw P (Op.equalIn (d+1) f.type (.int k a) (.int k b))=some (a==b):=by
  simp only [Op.equalIn,dp,vP h3,zbS,if_true];rfl
 simp only [Op.eqFields,if_pos hf',dp,h1,h2,h4,zbS];cases a==b<;>rfl
theorem Nr{d:Nat}{xs ys us vs:Array Value}{f:Field}{fs:List Field}{c:Bool}(hf:(f.name== "_")=false)(h1:aw P (part f.type xs f.offset)=some (.agg us))(h2:aw P (part f.type ys f.offset)=some (.agg vs))(h4:aw P (Op.equalIn (d+1) f.type (.agg us) (.agg vs))=some c):
  aw P (Op.eqFields (d+1) xs ys (f::fs))=if c=true then aw P (Op.eqFields (d+1) xs ys fs)else some false:=by
 have hf':f.name≠ "_" :=by simpa using hf
 simp only [Op.eqFields,if_pos hf',dp,h1,h2,h4,zbS];cases c<;>rfl
theorem nL{d:Nat}{xs ys:Array Value}:aw P (Op.eqFields d xs ys [])=some true:=rfl
theorem UV{t:TypeId}{x y:Operand}{xs ys:Array Value}{b:Bool}(hg:P.eqGuardType P.depth t=false)(h:aw P (Op.equalIn 10000 t (.agg xs) (.agg ys))=some b):aw P (do eqGuard .eql t x y (.agg xs) (.agg ys);binOp .eql t (.agg xs) (.agg ys))=some (.bool b):=by
 have e1:aw P program=some P:=rfl
 have h1:aw P (eqGuard .eql t x y (.agg xs) (.agg ys))=some ():=by
  simp only [eqGuard,Bool.not_true,Bool.false_eq_true,if_false,dp,e1,zbS,hg,Bool.not_false,if_true];rfl
 rw [dp,h1];show aw P (binOp .eql t (.agg xs) (.agg ys))=_;have h2:binOp .eql t (.agg xs) (.agg ys)=(do pure (.bool (←Op.equal t (.agg xs) (.agg ys)))):=rfl;rw [h2,dp];unfold Op.equal Op.maxDepth;rw [h];rfl
theorem KW{t:TypeId}{x y:Operand}{xs ys:Array Value}{b:Bool}(hg:P.eqGuardType P.depth t=false)(h:aw P (Op.equalIn 10000 t (.agg xs) (.agg ys))=some b):aw P (do eqGuard .neq t x y (.agg xs) (.agg ys);binOp .neq t (.agg xs) (.agg ys))=some (.bool (!b)):=by
 have e1:aw P program=some P:=rfl
 have h1:aw P (eqGuard .neq t x y (.agg xs) (.agg ys))=some ():=by
  simp only [eqGuard,Bool.not_true,Bool.false_eq_true,if_false,dp,e1,zbS,hg,Bool.not_false,if_true];rfl
 rw [dp,h1];show aw P (binOp .neq t (.agg xs) (.agg ys))=_;have h2:binOp .neq t (.agg xs) (.agg ys)=(do pure (.bool (!(←Op.equal t (.agg xs) (.agg ys))))):=rfl;rw [h2,dp];unfold Op.equal Op.maxDepth;rw [h];rfl
theorem rl{a b:Bool}{q:Option Bool}(h:q=some b):(if a=true then q else some false)=some (a && b):=by cases a<;>simp [h]
end
end Ev
end
noncomputable section
namespace Ev
open Go Go.RowKit
def inK(k:IntKind)(x:Int):Prop:=(Lit.int k x).wf=true
def SlW{α:Type}(w:Nat)(Q:α→Prop)(s:Sl α):Prop:=s.sz=w∧(s.nn=false→s.l= [])∧s.l.length≤maxLen∧∀x∈s.l,Q x
section
variable {P : Program} {t : TypeId} {ts : List T}
theorem Hs{k:IntKind}(hu:P.underlying t=some (.int k))(h:Typ P t ts):∃x:Int,ts= [iT k x]∧inK k x:=by
 cases h with
 |int _ k' n h hw=>rw [hu]at h;cases h;exact⟨n,rfl,hw⟩
 |bool _ b h=>rw [hu]at h;simp at h
 |str _ s h=>rw [hu]at h;simp at h
 |slice _ e nn l h=>rw [hu]at h;simp at h
 |struct _ fs tss h=>rw [hu]at h;simp at h
 |array _ n e tss h=>rw [hu]at h;simp at h
theorem EG{α β:Type}{r:α→β}{Q:α→Prop}:∀{l:List β},(∀es∈l,∃x,es=r x∧Q x)→∃xs:List α,l=xs.map r∧∀x∈xs,Q x
 | [],_=>⟨[],rfl,fun x hx=>by simp at hx⟩
 |e::l,h=>by
  obtain⟨x,rfl,hx⟩:=h e List.mem_cons_self;obtain⟨xs,rfl,hxs⟩:=EG fun e he=>h e (List.mem_cons_of_mem _ he);exact⟨x::xs,rfl,fun y hy=>by rcases List.mem_cons.1 hy with rfl|hy;exact hx;exact hxs y hy⟩
theorem xo{α:Type}{r:α→List T}{Q:α→Prop}{e:TypeId}{w:Nat}(hu:P.underlying t=some (.slice e))(hw:P.cellsOf e=w)(he:∀ts,Typ P e ts→∃x,ts=r x∧Q x)(h:Typ P t ts):∃s:Sl α,ts= [Sl.t r s]∧SlW w Q s:=by
 cases h with
 |slice _ e' nn l h hn hl h1 h2=>
  rw [hu]at h;cases h;obtain⟨xs,rfl,hq⟩:=EG (r:=r) (Q:=Q) fun es hes=>he es (h2 es hes);exact⟨⟨nn,w,xs⟩,by rw [hw];rfl,rfl,fun hh=>by simpa using hn hh,by simpa using hl,hq⟩
 |int _ k' n h hw=>rw [hu]at h;simp at h
 |bool _ b h=>rw [hu]at h;simp at h
 |str _ s h=>rw [hu]at h;simp at h
 |struct _ fs tss h=>rw [hu]at h;simp at h
 |array _ n e tss h=>rw [hu]at h;simp at h
theorem tW{fs:Array Field}(hu:P.underlying t=some (.struct fs))(h:Typ P t ts):∃tss:List (List T),ts=tss.flatten∧tss.length=fs.toList.length∧∀(i:Nat) f ts',fs.toList[i]? =some f→tss[i]? =some ts'→Typ P f.type ts':=by
 cases h with
 |struct _ fs' tss h hl hf=>rw [hu]at h;cases h;exact⟨tss,rfl,by simpa using hl,fun i f ts' h1 h2=>hf i f ts' (by simpa using h1) h2⟩
 |int _ k' n h hw=>rw [hu]at h;simp at h
 |bool _ b h=>rw [hu]at h;simp at h
 |str _ s h=>rw [hu]at h;simp at h
 |slice _ e nn l h=>rw [hu]at h;simp at h
 |array _ n e tss h=>rw [hu]at h;simp at h
theorem UW{ts:List TypeId}{tds:List TD}{d:TypeDesc}(hu:P.underlying t=some d)(ha:bJ d=false)(h:qY P (t::ts) tds):∃x r,tds= .one x::r∧Typ P t [x]∧qY P ts r:=by
 cases h with
 |cons t ts td ds h hr=>
  cases h with
  |one x h _=>exact⟨x,ds,rfl,h,hr⟩
  |agg xs h h2=>obtain⟨d',h3,h4⟩:=h2;rw [hu]at h3;cases h3;rw [ha]at h4;simp at h4
theorem KX{ts:List TypeId}{tds:List TD}{d:TypeDesc}(hu:P.underlying t=some d)(ha:bJ d=true)(h:qY P (t::ts) tds):∃x r,tds= .agg x::r∧Typ P t x∧qY P ts r:=by
 cases h with
 |cons t ts td ds h hr=>
  cases h with
  |agg x h _=>exact⟨x,ds,rfl,h,hr⟩
  |one xs h h2=>obtain⟨d',h3,h4⟩:=h2;rw [hu]at h3;cases h3;rw [ha]at h4;simp at h4
theorem UX{tds:List TD}(h:qY P [] tds):tds= []:=by cases h;rfl
end
theorem aba{E:Env}{n:Nat}{k:FuncId}{tds:List TD}(h:RunsP E n k tds (.fresh,[.one (bT true)])):∃m n kind,(dr E m n).1 k tds=some (kind,[.one (.v (.bool true))]):=by
 obtain⟨M,hM⟩:=h;exact⟨M,n,.fresh,hM M (Nat.le_refl _)⟩
theorem cu{A R:Type}{b:A→Option (A ⊕ R)}(n:Nat)(I:Nat→A→Prop)(Q:R→Prop)(hs:∀j a,j<n→I j a→(∃a',b a=some (.inl a')∧I (j+1) a')∨∃r,b a=some (.inr r)∧Q r)(he:∀a,I n a→∃r,b a=some (.inr r)∧Q r)(j:Nat)(hj:j≤n)(a:A)(ha:I j a):∃r,aM b a=some r∧Q r:=by
 obtain⟨k,hk⟩:∃k,n=j+k:=⟨n - j,by omega⟩
 induction k generalizing j a with
 |zero=>
  have:j=n:=by omega
  subst this;obtain⟨r,h1,h2⟩:=he a ha;exact⟨r,pJ h1,h2⟩
 |succ k ih=>
  rcases hs j a (by omega) ha with⟨a',h1,h2⟩|⟨r,h1,h2⟩
  ·obtain⟨r,h3,h4⟩:=ih (j+1) (by omega) a' h2 (by omega);exact⟨r,(tV h1).trans h3,h4⟩
  ·exact⟨r,pJ h1,h2⟩
theorem bI{α:Type}{w:Nat}{s:Sl α}(hs:s.l= []∨s.sz=w){j:Nat}(hj:j<s.l.length):atS w s (j:Int)=some s.l[j]:=by
 have hw:s.sz=w:=hs.resolve_left (by intro h;rw [h]at hj;simp at hj);unfold atS;rw [if_pos ⟨by omega,hw⟩];simp
theorem Yf{α:Type}{l:List α}{j:Nat}(hj:j<l.length):atL l (j:Int)=some l[j]:=by
 unfold atL;rw [if_pos (by omega)];simp
theorem mm{α:Type}{l m:List α}(h:l.length+m.length≤cS):app l m=some (l++m):=by unfold app;rw [if_pos h]
theorem cX{j n:Nat}(h:j<n)(hn:n≤9223372036854775807):IntKind.i64.wrap ((j:Int)+1)=((j+1:Nat):Int):=by rw [fM (by omega) (by omega)];rfl
def neL{α:Type}(l:List α):Option Unit:=
 match l with
 | []=>none
 |_::_=>some ()
theorem KY{α:Type}{l:List α}(h:l≠[]):neL l=some ():=by
 cases l with
 |nil=>exact absurd rfl h
 |cons a l=>rfl
theorem abb{α:Type}{l:List α}{k:Nat}{u:Unit}(h:neL l=some u):C.own k 0 l.length=moC l k:=by
 cases l with
 |nil=>simp [neL]at h
 |cons a l=>rfl
theorem abc{α:Type}{r:α→List T}{w k:Nat}{l:List α}{u:Unit}(h:neL l=some u):([(k,w,l.map (aT r))]:List B1)=moL r w l k:=by
 cases l with
 |nil=>simp [neL]at h
 |cons a l=>rfl
theorem afr{nt:Nat}{f:Nat→D}{L:BL}{e:Ex}{Q:Ex→St→Prop}(i:Nat){v:D}(h:f i=v)(h2:dV nt Q e (up f i v) L):dV nt Q e f L:=by rw [zw h]at h2;exact h2
theorem adY{nt:Nat}{f:Nat→D}{L:BL}{e:Ex}{Q:Ex→St→Prop}(q:Nat){s s':List B1}(hq:L[q]? =some s)(he:s=s')(h:dV nt Q e f (L.set q s')):dV nt Q e f L:=by subst he;rw [oe hq]at h;exact h
end Ev
end
noncomputable section
namespace Ev
open Go Go.RowKit
section
variable {E : Env} {y : Nat → gg} {n nt : Nat} {f : Nat → D} {L : BL}
def Ht(nt:Nat)(f:Nat→D)(l:List Operand):Option (List C):=l.mapM fun x=>do match←ov nt f x with| .one c=>some c|_=>none
theorem Hu{fn:Fn}{first cap:Array Operand}{fs cs:List C}(h1:Ht nt f first.toList=some fs)(h2:Ht nt f cap.toList=some cs):PS E n nt f L (.makeFunc fn first cap) (.one (.clo fn fs cs)):=fun h nid hb=>by
 show((first.toList.mapM fun x=>(aN (aV (tab nt f)) x).bind fun d=>match d with| .one c=>some c|_=>none).bind fun a=>(cap.toList.mapM fun x=>(aN (aV (tab nt f)) x).bind fun d=>match d with| .one c=>some c|_=>none).bind fun b=>some (⟨.one (.clo fn a b),[]⟩:Eff))=_;rw [fS];have h1':(first.toList.mapM fun x=>(ov nt f x).bind fun d=>match d with| .one c=>some c|_=>none)=some fs:=h1;have h2':(cap.toList.mapM fun x=>(ov nt f x).bind fun d=>match d with| .one c=>some c|_=>none)=some cs:=h2;rw [h1',h2'];rfl
def kE(k:IntKind)(a:Int):Int:=UN k (if k.signed then -1 else k.max) a
theorem Hv{ty:TypeId}{x:Operand}{fr:Bool}{k:IntKind}{a:Int}(hx:ov nt f x=some (.one (.p fr (.v (.int k a))))):PS E n nt f L (.unOp .xor ty x) (iD k (kE k a)):=fun h nid hb=>by
 show((aN (aV (tab nt f)) x).bind fun d=>(plain d).bind fun v=>(aw E.P (Op.unary .xor v)).bind mkO)=_;rw [ck,hx];cases k<;>rfl
def fA(args:List D):Nat→D:=fun i=>args.getD i cM
theorem Ns{args:List D}{k:Nat}(hl:args.length≤k):args++List.replicate (k - args.length) cM=tab k (fA args):=by
 rw [Ux (args++List.replicate (k - args.length) cM)];have hlen:(args++List.replicate (k - args.length) cM).length=k:=by simp;omega
 rw [hlen];refine List.ext_getElem? fun i=> ?_;rw [lz,lz];split
 ·rename_i hi;congr 1;unfold fA;rw [List.getD_eq_getElem?_getD,List.getD_eq_getElem?_getD,List.getElem?_append];split
  ·rfl
  ·rename_i hge;rw [List.getElem?_replicate,if_pos (by omega),List.getElem?_eq_none (by omega)];rfl
 ·rfl
def OJ(E:Env)(y:Nat→gg)(n nt:Nat)(ops:Array Oper)(r:List Oper)(K:St→Prop)(f:Nat→D)(d:Nat)(rv:List ResultVar):Ex→St→Prop:=fun e s=>(e= .normal∨e= .ret)∧∃ds,rv.mapM (dq E s)=some ds∧lN E y n ops r K {t:=tab nt (up f d (jP ds)),h:=s.h}
variable {ops : Array Oper} {o : Oper} {r : List Oper} {K : St → Prop} {d : Nat} {Q : Ex → St → Prop}
theorem lP{b:Bool}(h:dX ops o nt f=some b):iv ops (aV (tab nt f)) o=some b:=by
 obtain⟨g,g1,g2⟩:=fg h;unfold gOf at g1;unfold iv
 cases ho:o.guard with
 |none=>rw [ho]at g1;simp only [zsI]at g1;subst g1;exact g2
 |some p=>
  obtain⟨j,w⟩:=p;rw [ho]at g1;simp only [Option.map_eq_some_iff]at g1;obtain⟨d,h1,h2⟩:=g1;subst h2;rw [zbE]at h1;obtain⟨o',h3,h4⟩:=h1;have h3':ops[j]? =some o':=by simpa using h3
  simp only [h3',h4,zbB,zbS];exact g2
theorem xp{cp:du}{c:Call}{nid:Nat}{H:Heap}(hw:dX ops o nt f=some true)(hc:bn o.op=some c):step E cp ops nid o (aV (tab nt f)) H=jQ cp nid c (aV (tab nt f)) H:=by
 unfold step;rw [lP hw];simp only [zbB,zbS,if_true,hc]
theorem rT{c:Call}{k:FuncId}{args:List D}{fi:FI}(hw:dX ops o nt f=some true)(hc:bn o.op=some c)(hr:bX c (ov nt f)=some (k,args))(hu:E.ax k=some fun _=>none)(hf:E.fn k=some fi)(hl:Nat.ble args.length fi.nt=true)(hd:o.dst=some d)(hn:Nat.blt d nt=true)
  (h:WpL E nY n fi.nt fi.body (OJ E y (n+1) nt ops r K f d fi.results) (fA args) L):eJ E y (n+1) nt ops (o::r) K f L:=fun H hb=>by
 obtain⟨e,s',⟨M,h1⟩,h2,ds,h3,h4⟩:=h H hb;refine rR (s1:={t:=tab nt (up f d (jP ds)),h:=s'.h}) ⟨M,fun m hm=> ?_⟩ h4;unfold Ih
 have hs:step E (bp E y m (n+1)).1 ops H.length o (aV (tab nt f)) H=none:=by
  rw [xp hw hc];unfold jQ;rw [fS,hr];simp only [zbB,zbS]
  cases args.mapM (dm H)with
  |none=>rfl
  |some vs=>
   have hn:(bp E y m (n+1)).1 k (vs.map (·.2))=none:=by
    show(match E.ax k with
     |some F=>F _
     |none=>_)=none
    rw [hu]
   simp only [zbS,hn];rfl
 simp only;rw [hs];have hev:=h1 m hm
 have hsc:xD (bp E y m (n+1)).2 ops o {t:=tab nt f,h:=H}=some {t:=tab nt (up f d (jP ds)),h:=s'.h}:=by
  unfold xD;rw [lP hw];simp only [zbB,zbS,if_true,hc]
  have hr':bX c (opnd (tab nt f))=some (k,args):=by
   show bX c (aN (aV (tab nt f)))=_;rw [fS];exact hr
  rw [hr']
  have hcall:(bp E y m (n+1)).2.f k args H=some (jP ds,s'.h):=by
   show((E.fn k).bind fun f=>(sW E (aU E m n).1 ⟨(aU E m n).2.1,(aU E m n).2.2,noY⟩ m f args H).bind fun x=>some (jP x.1,x.2))=_;rw [hf];simp only [zbS]
   have:sW E (aU E m n).1 ⟨(aU E m n).2.1,(aU E m n).2.2,noY⟩ m fi args H=some (ds,s'.h):=by
    unfold sW;rw [Ns (Nat.le_of_ble_eq_true hl)];simp only [bp]at hev;rw [hev];rcases h2 with rfl|rfl<;>simp [h3]
   rw [this];rfl
  simp only [zbS,hcall,hd,oZ,nI,gm hn,if_true,rO,kv]
 rw [hsc];rfl
theorem xq{nt':Nat}{f':Nat→D}{L':BL}{rv:List ResultVar}{ds:List D}{e:Ex}{v:D}(he:e= .normal∨e= .ret)(hr:DL E nt' f' L' rv ds)(hv:jP ds=v)(h:eJ E y n nt ops r K (up f d v) L'):dV nt' (OJ E y n nt ops r K f d rv) e f' L':=fun H hb=>by
 subst hv;exact⟨he,ds,hr H hb,h H hb⟩
def mn(E:Env)(y:Nat→gg)(n k:Nat)(t:List D)(ps:List Tmp)(asg body:Code):Nat→gg:=fun m j args h=>
 if j=k∧args.length=ps.length then do
  let(e,s1)←evC E (bp E y m n).1 (bp E y m n).2 m asg {t:=mF t ps args,h:=h}
  match e with
  | .normal=>do
   let(e,s2)←evC E (bp E y m n).1 (bp E y m n).2 m body s1
   some (e,s2.h)
  |_=>none
 else none
def UY(nt:Nat)(f:Nat→D)(k:Nat)(Q:Ex→St→Prop):Ex→St→Prop:=fun e s=>(e= .normal∨e= .ret)∧∃es,aG s.h k=some (0,es)∧Q (Fr es) {t:=tab nt f,h:=s.h}
theorem OK{g:Operand}{ps:Array Tmp}{asg body:Code}{k:FuncId}{fs cs:List C}{fi:FI}(hg:ov nt f g=some (.one (.clo (.func k) fs cs)))(hf:E.fn k=some fi)(hl:Nat.ble (fs.length+1+cs.length) fi.nt=true)(hres:fi.results= [])
  (h:∀kl,WpL E (mn E y (n+1) kl (tab nt f) ps.toList asg body) n fi.nt fi.body (UY nt f kl Q) (fA (fs.map D.one++ [D.one (.yld kl)]++cs.map D.one)) ([(kl,0,[])]::L)):WpL E y (n+1) nt (.rangeFunc g ps asg body) Q f L:=fun H hb=>by
 obtain⟨e,s',⟨M,h1⟩,h2,es,h3,h4⟩:=h H.length _ (hb.new 0 []);refine⟨Fr es,{t:=tab nt f,h:=s'.h},⟨M,fun m hm=> ?_⟩,h4⟩;have hev:=h1 m hm;have hg':opnd (tab nt f) g=some (.one (.clo (.func k) fs cs)):=(ck nt f g).trans hg;simp only [evC,zbB,hg',zbS]
 have hcall:(bp E y m (n+1)).2.r (mn E y (n+1) H.length (tab nt f) ps.toList asg body m) k (fs.map D.one++ [D.one (.yld H.length)]++cs.map D.one) (aH H H.length (.own 0 []))=some s'.h:=by
  show((E.fn k).bind fun f=>(sW E (aU E m n).1 ⟨(aU E m n).2.1,(aU E m n).2.2,mn E y (n+1) H.length (tab nt _) ps.toList asg body m⟩ m f _ _).bind fun x=>some x.2)=_;rw [hf];simp only [zbS]
  have:sW E (aU E m n).1 ⟨(aU E m n).2.1,(aU E m n).2.2,mn E y (n+1) H.length (tab nt f) ps.toList asg body m⟩ m fi (fs.map D.one++ [D.one (.yld H.length)]++cs.map D.one) (aH H H.length (.own 0 []))=some ([],s'.h):=by
   unfold sW;rw [Ns (by have:=Nat.le_of_ble_eq_true hl;simp;omega)];simp only [bp]at hev;rw [hev,hres];rcases h2 with rfl|rfl<;>rfl
  rw [this];rfl
 refine(congrArg (fun z:Option Heap=>z.bind fun h=>(aG h H.length).bind fun x=>if x.1=0 then some (Fr x.2,({t:=tab nt f,h:=h}:St))else none) hcall).trans ?_;simp only [zbS,h3,if_true]
theorem OL{nt' k p:Nat}{f':Nat→D}{L':BL}{es:List (List C)}{e:Ex}(he:e= .normal∨e= .ret)(hp:L'[p]? =some [(k,0,es)])(h:dV nt Q (Fr es) f L'):dV nt' (UY nt f k Q) e f' L':=fun H hb=>⟨he,es,hb.get hp,h H hb⟩
def YS(K:St→Prop):Ex→St→Prop:=fun e s=>e= .normal∧K s
def UZ(E:Env)(y:Nat→gg)(n nt:Nat)(ops:Array Oper)(r:List Oper)(K:St→Prop)(f:Nat→D)(d k:Nat):Ex→St→Prop:=fun e s=>lN E y n ops r K {t:=tab nt (up f d (bD (e== .normal))),h:=aH s.h k (nN e)}
def Nt(f:Nat→D):List Tmp→List D→Nat→D
 |p::ps,d::ds=>Nt (up f p d) ps ds
 |_,_=>f
theorem Vc(f:Nat→D)(p:Nat)(d:D):(tab nt f).set p d=tab nt (up f p d):=by
 rw [←kv];refine List.ext_getElem? fun i=> ?_;rw [List.getElem?_set,lz,lz,nI];unfold upd;by_cases h1:p=i
 ·subst h1;by_cases h2:p<nt
  ·simp [h2]
  ·simp [h2]
 ·rw [if_neg h1];split
  ·rw [if_neg (fun e:i=p=>h1 e.symm)]
  ·rfl
theorem EH:∀(ps:List Tmp) (ds:List D) (f:Nat→D),mF (tab nt f) ps ds=tab nt (Nt f ps ds)
 | [],[],f=>by simp [mF,Nt]
 | [],d::ds,f=>by simp [mF,Nt]
 |p::ps,[],f=>by simp [mF,Nt]
 |p::ps,d::ds,f=>by
  simp only [mF,Nt];rw [Vc,EH]
def abd(nt:Nat)(f:Nat→D)(l:List Operand):Option (List D):=l.mapM (ov nt f)
theorem Vd{y0:Nat→gg}{n0 nt0 k p:Nat}{f0:Nat→D}{ps:List Tmp}{asg body:Code}{c:Call}{x:Operand}{args:List D}(hw:dX ops o nt f=some true)(hc:bn o.op=some c)(hcal:c.callee= .value x)(hx:ov nt f x=some (.one (.yld k)))(ha:abd nt f c.args.toList=some args)(hla:Nat.beq args.length ps.length=true)(hp:L[p]? =some [(k,0,[])])(hd:o.dst=some d)(hn:Nat.blt d nt=true)
  (h:WpL E y0 n0 nt0 asg (YS (WpC E y0 n0 body (UZ E (mn E y0 n0 k (tab nt0 f0) ps asg body) n nt ops r K f d k))) (Nt f0 ps args) L):eJ E (mn E y0 n0 k (tab nt0 f0) ps asg body) n nt ops (o::r) K f L:=fun H hb=>by
 obtain⟨e1,s1,⟨M1,h1⟩,rfl,e2,s2,⟨M2,h2⟩,h3⟩:=h H hb;refine rR (s1:={t:=tab nt (up f d (bD (e2== .normal))),h:=aH s2.h k (nN e2)}) ⟨max M1 M2,fun m hm=> ?_⟩ h3
 have hres:bX c (aN (aV (tab nt f)))=none:=by
  rw [fS];unfold bX;rw [hcal];have ha':c.args.toList.mapM (ov nt f)=some args:=ha;simp only [ha',hx,zbB,zbS]
 unfold Ih
 have hs:step E (bp E (mn E y0 n0 k (tab nt0 f0) ps asg body) m n).1 ops H.length o (aV (tab nt f)) H=none:=by
  rw [xp hw hc];unfold jQ;rw [hres];rfl
 simp only;rw [hs]
 have hsc:xD (bp E (mn E y0 n0 k (tab nt0 f0) ps asg body) m n).2 ops o {t:=tab nt f,h:=H}=none:=by
  unfold xD;rw [lP hw];simp only [zbB,zbS,if_true,hc];have hr':bX c (opnd (tab nt f))=none:=hres;rw [hr'];rfl
 have hy:NP (bp E (mn E y0 n0 k (tab nt0 f0) ps asg body) m n).2 ops o {t:=tab nt f,h:=H}=some {t:=tab nt (up f d (bD (e2== .normal))),h:=aH s2.h k (nN e2)}:=by
  unfold NP;rw [lP hw];simp only [zbB,zbS,if_true,hc,hcal]
  have ha':c.args.toList.mapM (opnd (tab nt f))=some args:=by
   show c.args.toList.mapM (aN (aV (tab nt f)))=_;rw [fS];exact ha
  have hx':opnd (tab nt f) x=some (.one (.yld k)):=(ck nt f x).trans hx;rw [ha',hx'];simp only [zbS,hb.get hp,and_self,if_true]
  have hround:(bp E (mn E y0 n0 k (tab nt0 f0) ps asg body) m n).2.y k args H=some (e2,s2.h):=by
   show mn E y0 n0 k (tab nt0 f0) ps asg body m k args H=_;unfold mn;rw [if_pos ⟨rfl,Nat.eq_of_beq_eq_true hla⟩,EH,h1 m (by omega)];simp only [zbB,zbS];rw [h2 m (by omega)];rfl
  rw [hround];simp only [zbS,hd,oZ,nI,gm hn,if_true,rO,kv];rfl
 rw [hsc,hy];rfl
theorem adZ{c:Code}(h:WpL E y n nt c Q f L):dV nt (YS (WpC E y n c Q)) .normal f L:=fun H hb=>⟨rfl,h H hb⟩
theorem Nu{h:Heap}{k sz:Nat}{es:List (List C)}(hk:aG h k=some (sz,es)):h[k]? =some (.own sz es):=cQ hk
theorem Ve{nt' k p:Nat}{f':Nat→D}(hp:L[p]? =some [(k,0,[])])(h:eJ E y n nt ops r K (up f d (bD true)) L):dV nt' (UZ E y n nt ops r K f d k) .normal f' L:=fun H hb=>by
 have:=Bq (Nu (hb.get hp))
 show lN E y n ops r K {t:=_,h:=aH H k (.own 0 [])};rw [this];exact h H hb
end
theorem cK{k b j:Nat}(h:k<b):k≠b+j:=by omega
theorem Hw{b i j:Nat}(h:Nat.beq i j=false):b+i≠b+j:=by have:=Nat.ne_of_beq_eq_false h;omega
theorem Hx{k:Nat}:k ∉([]:List Nat):=by simp
theorem BM{k m:Nat}{l:List Nat}(h1:k≠m)(h2:k ∉ l):k ∉ m::l:=fun h=>by
 rcases List.mem_cons.1 h with h|h
 ·exact h1 h
 ·exact h2 h
theorem av{b:Nat}:∀k∈([]:List Nat),k<b:=fun k h=>by simp at h
theorem kF{b m:Nat}{l:List Nat}(h1:m<b)(h2:∀k∈l,k<b):∀k∈m::l,k<b:=fun k h=>by
 rcases List.mem_cons.1 h with h|h
 ·subst h;exact h1
 ·exact h2 k h
theorem lA{b:Nat}:∀l∈([]:List (List Nat)),∀k∈l,k<b:=fun k h=>by simp at h
theorem am{b:Nat}{a:List Nat}{O:List (List Nat)}(h1:∀k∈a,k<b)(h2:∀l∈O,∀k∈l,k<b):∀l∈a::O,∀k∈l,k<b:=fun l h=>by
 rcases List.mem_cons.1 h with h|h
 ·subst h;exact h1
 ·exact h2 l h
theorem djE{O:List (List Nat)}{r:List Nat}:∀j∈r,∀x∈([]:List Nat),x ∉ O.getD j []:=fun c _ x h=>by simp at h
theorem djN{O:List (List Nat)}{a:List Nat}:∀j∈([]:List Nat),∀x∈a,x ∉ O.getD j []:=fun c h=>by simp at h
section
variable {X Up KT : Type} {nt : Nat}
variable {ex : Ex} {S : X → KT → (Nat → D) → Nat → D} {SL : X → KT → BL} {J : Up → Ex → St → Prop} {G : Up → Ex → St → Prop}
end
end Ev
end
end Go.Proofs.Ytjjbpdldbdmoeaa
