/- Texts of a claim, joined. -/
import Derived.Test.YtjjbpdldbdmoeaaZT14
import Derived.Test.YtjjbpdldbdmoeaaZT5
import Derived.Test.YtjjbpdldbdmoeaaZT12
import Derived.Test.YtjjbpdldbdmoeaaZT3
import Derived.Test.YtjjbpdldbdmoeaaProg
set_option linter.unusedVariables false
set_option linter.unusedSimpArgs false
namespace Go.Proofs.Ytjjbpdldbdmoeaa
noncomputable section
namespace Ev
open Go Go.RowKit
abbrev bf:D:= .one (bC false)
abbrev bt:D:= .one (bC true)
abbrev iO(n:Int):D:= .one (iC .i64 n)
abbrev bO(b:Bool):D:= .one (bC b)
abbrev iI(n:Int):C:=iC .i64 n
abbrev uI(n:Int):C:=iC .u64 n
abbrev nC:C:= .p true (.s false 0 [])
abbrev sC{α:Type}(r:α→List T)(s:Sl α):C:= .p true (Sl.t r s)
abbrev sF{α:Type}(r:α→List T)(s:Sl α):C:= .p false (Sl.t r s)
theorem sj{α:Type}{a b:α}(h:some a=some b):a=b:=Option.some.inj h
theorem wF{α:Type}{a b:α}{r:α}(h:(if false=true then a else b)=r):b=r:=h
theorem wT{α:Type}{a b:α}{r:α}(h:(if true=true then a else b)=r):a=r:=h
theorem bg{P:Program}{t:TypeId}{x y:Operand}{k:IntKind}{a b:Int}(h:a<b):ak P (do eqGuard .lss t x y (.int k a) (.int k b);binOp .lss t (.int k a) (.int k b))=some (.bool true):=WI P t x y k h
theorem bh{P:Program}{t:TypeId}{x y:Operand}{k:IntKind}{a b:Int}(h:¬a<b):ak P (do eqGuard .lss t x y (.int k a) (.int k b);binOp .lss t (.int k a) (.int k b))=some (.bool false):=WJ P t x y k h
theorem oq{P:Program}{t:TypeId}{x y:Operand}{k:IntKind}{a b:Int}(h:a≤b):ak P (do eqGuard .leq t x y (.int k a) (.int k b);binOp .leq t (.int k a) (.int k b))=some (.bool true):=WK P t x y k h
theorem ot{P:Program}{t:TypeId}{x y:Operand}{k:IntKind}{a b:Int}(h:¬a≤b):ak P (do eqGuard .leq t x y (.int k a) (.int k b);binOp .leq t (.int k a) (.int k b))=some (.bool false):=WL P t x y k h
theorem mF{P:Program}{t:TypeId}{x y:Operand}{k:IntKind}{a b:Int}(h:a>b):ak P (do eqGuard .gtr t x y (.int k a) (.int k b);binOp .gtr t (.int k a) (.int k b))=some (.bool true):=WM P t x y k h
theorem mG{P:Program}{t:TypeId}{x y:Operand}{k:IntKind}{a b:Int}(h:¬a>b):ak P (do eqGuard .gtr t x y (.int k a) (.int k b);binOp .gtr t (.int k a) (.int k b))=some (.bool false):=WN P t x y k h
theorem eV{P:Program}{t:TypeId}{x y:Operand}{k:IntKind}{a b:Int}(h:a ≥ b):ak P (do eqGuard .geq t x y (.int k a) (.int k b);binOp .geq t (.int k a) (.int k b))=some (.bool true):=WO P t x y k h
theorem eW{P:Program}{t:TypeId}{x y:Operand}{k:IntKind}{a b:Int}(h:¬a ≥ b):ak P (do eqGuard .geq t x y (.int k a) (.int k b);binOp .geq t (.int k a) (.int k b))=some (.bool false):=WP P t x y k h
theorem cN{P:Program}{t:TypeId}{x y:Operand}{k:IntKind}{a b:Int}(h:a=b):ak P (do eqGuard .eql t x y (.int k a) (.int k b);binOp .eql t (.int k a) (.int k b))=some (.bool true):=WQ P t x y k h
theorem cO{P:Program}{t:TypeId}{x y:Operand}{k:IntKind}{a b:Int}(h:¬a=b):ak P (do eqGuard .eql t x y (.int k a) (.int k b);binOp .eql t (.int k a) (.int k b))=some (.bool false):=WR P t x y k h
theorem mH{P:Program}{t:TypeId}{x y:Operand}{k:IntKind}{a b:Int}(h:a≠b):ak P (do eqGuard .neq t x y (.int k a) (.int k b);binOp .neq t (.int k a) (.int k b))=some (.bool true):=WS P t x y k h
theorem mI{P:Program}{t:TypeId}{x y:Operand}{k:IntKind}{a b:Int}(h:¬a≠b):ak P (do eqGuard .neq t x y (.int k a) (.int k b);binOp .neq t (.int k a) (.int k b))=some (.bool false):=WT P t x y k h
theorem cv{P:Program}{t:TypeId}{x y:Operand}{k:IntKind}{a b:Int}:ak P (do eqGuard .add t x y (.int k a) (.int k b);binOp .add t (.int k a) (.int k b))=some (.int k (k.wrap (a+b))):=XG P t x y k a b
theorem qy{P:Program}{t:TypeId}{x y:Operand}{k:IntKind}{a b:Int}:ak P (do eqGuard .sub t x y (.int k a) (.int k b);binOp .sub t (.int k a) (.int k b))=some (.int k (k.wrap (a - b))):=XH P t x y k a b
theorem Gb{P:Program}{t:TypeId}{x y:Operand}{k:IntKind}{a b:Int}:ak P (do eqGuard .mul t x y (.int k a) (.int k b);binOp .mul t (.int k a) (.int k b))=some (.int k (k.wrap (a*b))):=XI P t x y k a b
section
variable {E : Env} {y : Nat → fG} {n nt : Nat} {ops : Array Oper} {o : Oper} {r : List Oper} {K : St → Prop} {f : Nat → D} {L : BL} {d : Nat} {Q : Ex → St → Prop}
theorem pq{v:D}(hs:PS E n nt f L o.op v)(h:ez E y n nt ops r K (up f d v) L)(hw:dY ops o nt f=some true:=by exact rfl)(hd:o.dst=some d:=by exact rfl)(hn:Nat.blt d nt=true:=by exact rfl):ez E y n nt ops (o::r) K f L:=Mn hw hd hn hs h
theorem sq{v:D}{i:Nat}(hs:PS E n nt f L o.op v)(h:StL E n nt ops r (i+1) K (up f d v) L)(hw:dY ops o nt f=some true:=by exact rfl)(hd:o.dst=some d:=by exact rfl)(hn:Nat.blt d nt=true:=by exact rfl):StL E n nt ops (o::r) i K f L:=ZZ hw hd hn hs h
theorem os(h:ez E y n nt ops r K (up f d cB) L)(hw:dY ops o nt f=some false:=by exact rfl)(hd:o.dst=some d:=by exact rfl)(hn:Nat.blt d nt=true:=by exact rfl):ez E y n nt ops (o::r) K f L:=Wx hw hd hn h
theorem ss{i:Nat}(h:StL E n nt ops r (i+1) K (up f d cB) L)(hw:dY ops o nt f=some false:=by exact rfl)(hd:o.dst=some d:=by exact rfl)(hn:Nat.blt d nt=true:=by exact rfl):StL E n nt ops (o::r) i K f L:=Wy hw hd hn h
theorem qm{x:Operand}(v:D)(hx:ov nt f x=some v:=by exact rfl):PS E n nt f L (.move x) v:=wv hx
theorem qa{x:Operand}(v:D)(hx:ov nt f x=some v:=by exact rfl):PS E n nt f L (.assign x) v:=Bd hx
theorem qpt{c a b:Operand}{fr:Bool}(v:D)(hc:ov nt f c=some (.one (.p fr (.v (.bool true)))):=by exact rfl)(hx:ov nt f a=some v:=by exact rfl):PS E n nt f L (.pick c a b) v:=WC hc hx
theorem qpf{c a b:Operand}{fr:Bool}(v:D)(hc:ov nt f c=some (.one (.p fr (.v (.bool false)))):=by exact rfl)(hx:ov nt f b=some v:=by exact rfl):PS E n nt f L (.pick c a b) v:=WD hc hx
theorem ql{ty:TypeId}{x:Operand}{k i j sz bz:Nat}{ag:Bool}{es:List (List C)}{e cs:List C}(v:D)(p:Nat)(hz:cj E.ti ty=some (sz,ag))(hx:ov nt f x=some (.one (.ptr k i j)):=by exact rfl)(hp:L[p]? =some [(k,bz,es)]:=by exact rfl)(he:es[i]? =some e:=by exact rfl)(hc:cut e j (cond ag sz 1)=some cs:=by exact rfl)(hv:dH ag cs=some v:=by exact rfl):PS E n nt f L (.load ty x) v:=ny p hx hz hp he hc hv
theorem qc{c:Call}{k:FuncId}{vs:List (Bool×TD)}{vs2 rs:List TD}(v:D)(args:List D)(hk:RunsP E n k vs2 (.fresh,rs))(hv:Vw L args vs)(hc:bm (.call c)=some c:=by exact rfl)(hr:cd c (ov nt f)=some (k,args):=by exact rfl)(h2:vs.map (·.2)=vs2:=by exact rfl)(hrv:jH (rs.map (dm true))=v:=by exact rfl):PS E n nt f L (.call c) v:=NN hk hc hr hv h2 hrv
theorem qb{op:BinOp}{ty sh:TypeId}{x y:Operand}{fa fb:Bool}{ka kb:IntKind}{a b:Int}{v:Value}(hp:ak E.P (do eqGuard op ty x y (.int ka a) (.int kb b);binOp op ty (.int ka a) (.int kb b))=some v)(hx:ov nt f x=some (.one (.p fa (.v (.int ka a)))):=by exact rfl)(hy:ov nt f y=some (.one (.p fb (.v (.int kb b)))):=by exact rfl)(h1:one1 v=true:=by exact rfl):PS E n nt f L (.binOp op ty x y sh) (mk v):=de hx hy hp h1
theorem ow{ty:TypeId}{a x:Operand}{k i j sz bz:Nat}{ag:Bool}{es:List (List C)}{e e' cs:List C}{v:D}{L':BL}(es':List (List C))(p:Nat)(hz:cj E.ti ty=some (sz,ag))(h:ez E y n nt ops r K f L')(hop:o.op= .store ty a x:=by exact rfl)(ha:ov nt f a=some (.one (.ptr k i j)):=by exact rfl)(hx:ov nt f x=some v:=by exact rfl)(hd:iU v=some cs:=by exact rfl)(hs:Nat.beq cs.length sz=true:=by exact rfl)(hp:L[p]? =some [(k,bz,es)]:=by exact rfl)(he:es[i]? =some e:=by exact rfl)(ht:patch e j cs=some e':=by exact rfl)(hes:es.set i e'=es':=by exact rfl)(hw:dY ops o nt f=some true:=by exact rfl)(hdst:o.dst=none:=by exact rfl)(hL:L.set p [(k,bz,es')]=L':=by exact rfl):ez E y n nt ops (o::r) K f L:=TJ hw hdst (by rw [hop];exact gT p ha hx hd hz hs hp he ht hes) hL h
theorem tq{v:D}{i w b:Nat}{O:List (List Nat)}{N:List (Bool×List Nat)}{R:List (List Nat)}{A:BL}(is:List Nat)(hA:is.filterMap (fun i=>L[i]?)=A)(hm:∀x∈A.flatten,x.1 ∉(R.getD i []).flatMap (aX b O N))(hs:PS E n nt f A o.op v)(h:TnL E n nt ops r (i+1) w O N R b K (up f d v) L)(hw:dY ops o nt f=some true:=by exact rfl)(hd:o.dst=some d:=by exact rfl)(hn:Nat.blt d nt=true:=by exact rfl)(hn2:is.Nodup:=by decide)(hu:aX b O N i= []:=by exact rfl):TnL E n nt ops (o::r) i w O N R b K f L:=TK hw hd hn is hn2 hA hm hu hs h
theorem oW{d1 d2:D}{ds:List D}(h:Heap)(hb:HB h L):dF h (d1::d2::ds)=false:=WG
theorem oG{cs:List C}(h:Heap)(hb:HB h L):dF h [.agg cs]=false:=WH
theorem eF1{t:Tmp}{fr:Bool}{x:Value}{rs:List TD}(hr:ov nt f (.tmp t)=some (.one (.p fr (.v x))):=by exact rfl)(hrs: [TD.one (.v x)]=rs:=by exact rfl):dZ nt (nb E [.tmp t] (.fresh,rs)) .ret f L:=aS (.inr rfl) (ec hr aE) (af (au al) aj) (fun h hb=>acU) rfl hrs
theorem eR{KK:St→Prop}(h:dZ nt Q .ret f L):dZ nt (qJ KK Q) .ret f L:=h
theorem bR{id:Nat}(h:dZ nt Q .ret f L):dZ nt (GI id Q) .ret f L:=h
theorem bN{id:Nat}(h:dZ nt Q .normal f L):dZ nt (GI id Q) .normal f L:=h
theorem bH{id:Nat}(h:dZ nt Q .normal f L):dZ nt (GI id Q) (.exit id) f L:=aa2 h
theorem cT{c:Operand}{a b:Code}{fr:Bool}(hc:ov nt f c=some (.one (.p fr (.v (.bool true)))))(h:WpL E y n nt a Q f L):WpL E y n nt (.cond c a b) Q f L:=WA hc h
theorem cF{c:Operand}{a b:Code}{fr:Bool}(hc:ov nt f c=some (.one (.p fr (.v (.bool false)))))(h:WpL E y n nt b Q f L):WpL E y n nt (.cond c a b) Q f L:=WB hc h
theorem lK(h:dZ nt Q .normal f L):WpL E y n nt .skip Q f L:=aa1 h
theorem lR(h:dZ nt Q .ret f L):WpL E y n nt .ret Q f L:=acQ h
theorem lB{id:Nat}{c:Code}(h:WpL E y n nt c (GI id Q) f L):WpL E y n nt (.block id c) Q f L:=Wz h
theorem eS{b:Code}(h:WpL E y n nt b Q f L):dZ nt (qJ (WpC E y n b Q) Q) .normal f L:=TM h
theorem oE(h:dZ nt Q .normal f L):ez E y n nt ops [] (Q .normal) f L:=Mo h
theorem lS{a b:Code}(h:WpL E y n nt a (qJ (WpC E y n b Q) Q) f L):WpL E y n nt (.seq a b) Q f L:=XK h
theorem lO{id:Nat}{l:List Oper}(h:ez E y n nt l.toArray l (Q .normal) f L):WpL E y n nt (.region id l.toArray false) Q f L:=TL h
theorem oN{id:Nat}{l:List Oper}{b:Code}(h:ez E y n nt l.toArray l (qJ (WpC E y n b Q) Q .normal) f L):ez E y n nt ops [] (qJ (WpC E y n (.seq (.region id l.toArray false) b) Q) Q .normal) f L:=Mo (TM (XK (TL h)))
theorem oR{id:Nat}{l:List Oper}(h:ez E y n nt l.toArray l (Q .normal) f L):ez E y n nt ops [] (qJ (WpC E y n (.region id l.toArray false) Q) Q .normal) f L:=Mo (TM (TL h))
end
end Ev
end
noncomputable section
namespace Ev
namespace K
open Go Go.RowKit
set_option maxRecDepth 100000
set_option maxHeartbeats 1000000
theorem Gc:GOk zy E1 0:=gok dO gS eG trivial trivial
theorem xu:bj E1 oY:=cQ Gc (by kernel_rfl) adK (by kernel_rfl) rfl
theorem yf:GOk rT E1 0:=gok dO gS eG trivial trivial
theorem Aa:bj E1 rU:=cQ yf (by kernel_rfl) adX (by kernel_rfl) rfl
theorem Gd:GOk zA E1 0:=gok dO gS eG trivial trivial
theorem IS:bj E1 zB:=cQ Gd (by kernel_rfl) adY (by kernel_rfl) rfl
theorem uE:GOk pO E1 0:=gok dO gS eG trivial trivial
theorem wa:bj E1 pP:=cQ uE (by kernel_rfl) ae3 (by kernel_rfl) rfl
theorem yg:GOk rV E1 0:=gok dO gS eG trivial trivial
theorem Ac:bj E1 rW:=cQ yg (by kernel_rfl) ae4 (by kernel_rfl) rfl
theorem CD:GOk wY E1 0:=gok dO gS eG trivial trivial
theorem Ge:bj E1 wZ:=cQ CD (by kernel_rfl) ae2 (by kernel_rfl) rfl
theorem CF:GOk xb E1 1:=gok dO gS eG ⟨⟨by decide,Ge⟩,⟨⟨by decide,wa⟩,⟨⟨by decide,Ac⟩,trivial⟩⟩⟩ trivial
theorem Gf:bj E1 xd:=cQ CF (by kernel_rfl) adU (by kernel_rfl) rfl
theorem we:GOk qk E1 0:=gok dO gS eG trivial trivial
theorem yh:bj E1 qn:=cQ we (by kernel_rfl) adZ (by kernel_rfl) rfl
theorem uF:GOk pQ E1 2:=gok dO gS eG ⟨⟨by decide,xu⟩,⟨⟨by decide,Gf⟩,⟨⟨by decide,Aa⟩,⟨⟨by decide,IS⟩,⟨⟨by decide,yh⟩,trivial⟩⟩⟩⟩⟩ trivial
theorem ou:bj E1 lN:=cQ uF (by kernel_rfl) adS (by kernel_rfl) rfl
theorem yi:GOk rX E1 0:=gok dO gS eG trivial ⟨⟨Zx,rfl⟩,trivial⟩
theorem mJ:bj E1 kP:=cQ yi (by kernel_rfl) adR (by kernel_rfl) rfl
theorem Gg:GOk zD E1 7:=gok dO gS eG ⟨⟨by decide,xu⟩,⟨⟨by decide,mJ⟩,⟨⟨by decide,ou⟩,trivial⟩⟩⟩ trivial
theorem IT:bj E1 zE:=cQ Gg (by kernel_rfl) adJ (by kernel_rfl) rfl
theorem yj:GOk rY E1 0:=gok dO gS eG trivial trivial
theorem Ad:bj E1 rZ:=cQ yj (by kernel_rfl) adW (by kernel_rfl) rfl
theorem Ae:GOk ug E1 1:=gok dO gS eG ⟨⟨by decide,Ad⟩,trivial⟩ ⟨⟨Zx,rfl⟩,trivial⟩
theorem kX:bj E1 jR:=cQ Ae (by kernel_rfl) adP (by kernel_rfl) rfl
theorem uG:GOk pR E1 8:=gok dO gS eG ⟨⟨by decide,kX⟩,trivial⟩ trivial
theorem oy:bj E1 lP:=cQ uG (by kernel_rfl) adQ (by kernel_rfl) rfl
theorem Af:GOk uh E1 9:=gok dO gS eG ⟨⟨by decide,kX⟩,⟨⟨by decide,oy⟩,⟨⟨by decide,mJ⟩,trivial⟩⟩⟩ trivial
theorem CG:bj E1 ui:=cQ Af (by kernel_rfl) adN (by kernel_rfl) rfl
theorem CH:GOk xe E1 8:=gok dO gS eG ⟨⟨by decide,kX⟩,trivial⟩ trivial
theorem Gh:bj E1 xf:=cQ CH (by kernel_rfl) adO (by kernel_rfl) rfl
theorem Gi:GOk zF E1 10:=gok dO gS eG ⟨⟨by decide,CG⟩,⟨⟨by decide,Gh⟩,trivial⟩⟩ trivial
theorem IU:bj E1 La:=cQ Gi (by kernel_rfl) adH (by kernel_rfl) rfl
theorem CI:GOk xg E1 0:=gok dO gS eG trivial trivial
theorem Gj:bj E1 xh:=cQ CI (by kernel_rfl) ae0 (by kernel_rfl) rfl
theorem Ag:GOk uj E1 0:=gok dO gS eG trivial trivial
theorem CJ:bj E1 uk:=cQ Ag (by kernel_rfl) ae1 (by kernel_rfl) rfl
theorem Ah:GOk um E1 1:=gok dO gS eG ⟨⟨by decide,Gj⟩,⟨⟨by decide,CJ⟩,trivial⟩⟩ trivial
theorem CK:bj E1 uq:=cQ Ah (by kernel_rfl) adT (by kernel_rfl) rfl
theorem Ai:GOk ur E1 0:=gok dO gS eG trivial trivial
theorem CL:bj E1 oZ:=cQ Ai (by kernel_rfl) adM (by kernel_rfl) rfl
theorem CM:GOk xi E1 0:=gok dO gS eG trivial trivial
theorem Gk:bj E1 xj:=cQ CM (by kernel_rfl) adV (by kernel_rfl) rfl
theorem Aj:GOk ut E1 8:=gok dO gS eG ⟨⟨by decide,IT⟩,⟨⟨by decide,CL⟩,⟨⟨by decide,Gk⟩,trivial⟩⟩⟩ ⟨⟨Zx,rfl⟩,trivial⟩
theorem CN:bj E1 uv:=cQ Aj (by kernel_rfl) adL (by kernel_rfl) rfl
theorem CO:GOk xm E1 9:=gok dO gS eG ⟨⟨by decide,kX⟩,⟨⟨by decide,oy⟩,⟨⟨by decide,mJ⟩,trivial⟩⟩⟩ trivial
theorem Gl:bj E1 Iv:=cQ CO (by kernel_rfl) adI (by kernel_rfl) rfl
end K
end Ev
end
noncomputable section
namespace Ev
open Go
set_option maxRecDepth 100000
set_option maxHeartbeats 1000000
attribute [local irreducible] ez StL TnL WpL dZ
def qF(k:FuncId):List TD→Option (Kind×List TD):=fun vs=>cpR K.E1 60 k vs
theorem VM(vs:List TD)(kind:Kind)(rs:List TD)(h:qF 54 vs=some (kind,rs)):eo Try.prog 54 vs kind rs∧Enters Try.prog 54:=⟨(ie h).pure K.dO,⟨_,_,Try.func54,by kernel_rfl,by unfold Try.f54;rfl⟩⟩
theorem VN(vs:List TD)(kind:Kind)(rs:List TD)(h:qF 52 vs=some (kind,rs)):eo Try.prog 52 vs kind rs∧Enters Try.prog 52:=⟨(ie h).pure K.dO,⟨_,_,Try.func52,by kernel_rfl,by unfold Try.f52;rfl⟩⟩
theorem VO(vs:List TD)(kind:Kind)(rs:List TD)(h:qF 39 vs=some (kind,rs)):eo Try.prog 39 vs kind rs∧Enters Try.prog 39:=⟨(ie h).pure K.dO,⟨_,_,Try.func39,by kernel_rfl,by unfold Try.f39;rfl⟩⟩
theorem VP(vs:List TD)(kind:Kind)(rs:List TD)(h:qF 50 vs=some (kind,rs)):eo Try.prog 50 vs kind rs∧Enters Try.prog 50:=⟨(ie h).pure K.dO,⟨_,_,Try.func50,by kernel_rfl,by unfold Try.f50;rfl⟩⟩
theorem VQ(vs:List TD)(kind:Kind)(rs:List TD)(h:qF 11 vs=some (kind,rs)):eo Try.prog 11 vs kind rs∧Enters Try.prog 11:=⟨(ie h).pure K.dO,⟨_,_,Try.func11,by kernel_rfl,by unfold Try.f11;rfl⟩⟩
theorem ZB(vs:List TD)(kind:Kind)(rs:List TD)(h:qF 6 vs=some (kind,rs)):eo Try.prog 6 vs kind rs∧Enters Try.prog 6:=⟨(ie h).pure K.dO,⟨_,_,Try.func6,by kernel_rfl,by unfold Try.f6;rfl⟩⟩
theorem VR(vs:List TD)(kind:Kind)(rs:List TD)(h:qF 30 vs=some (kind,rs)):eo Try.prog 30 vs kind rs∧Enters Try.prog 30:=⟨(ie h).pure K.dO,⟨_,_,Try.func30,by kernel_rfl,by unfold Try.f30;rfl⟩⟩
theorem VS(vs:List TD)(kind:Kind)(rs:List TD)(h:qF 16 vs=some (kind,rs)):eo Try.prog 16 vs kind rs∧Enters Try.prog 16:=⟨(ie h).pure K.dO,⟨_,_,Try.func16,by kernel_rfl,by unfold Try.f16;rfl⟩⟩
theorem VT(vs:List TD)(kind:Kind)(rs:List TD)(h:qF 19 vs=some (kind,rs)):eo Try.prog 19 vs kind rs∧Enters Try.prog 19:=⟨(ie h).pure K.dO,⟨_,_,Try.func19,by kernel_rfl,by unfold Try.f19;rfl⟩⟩
theorem VU(vs:List TD)(kind:Kind)(rs:List TD)(h:qF 17 vs=some (kind,rs)):eo Try.prog 17 vs kind rs∧Enters Try.prog 17:=⟨(ie h).pure K.dO,⟨_,_,Try.func17,by kernel_rfl,by unfold Try.f17;rfl⟩⟩
end Ev
end
noncomputable section
namespace Ev
open Go
set_option maxRecDepth 100000
set_option maxHeartbeats 1000000
attribute [local irreducible] ez StL TnL WpL dZ
theorem tz1:ah Try.prog 1=some (⟨.func #[] #[] false,[.nilFunc],1,8⟩:TI):=by kernel_rfl
theorem tz2:ah Try.prog 2=some (⟨.int .i64,[.int .i64 0],1,8⟩:TI):=by kernel_rfl
theorem tz3:ah Try.prog 3=some (⟨.int .i64,[.int .i64 0],1,8⟩:TI):=by kernel_rfl
theorem tz4:ah Try.prog 4=some (⟨.bool,[.bool false],1,1⟩:TI):=by kernel_rfl
theorem tz5:ah Try.prog 5=some (⟨.int .u8,[.int .u8 0],1,1⟩:TI):=by kernel_rfl
theorem tz6:ah Try.prog 6=some (⟨.int .u8,[.int .u8 0],1,1⟩:TI):=by kernel_rfl
theorem tz7:ah Try.prog 7=some (⟨.struct (aZ Try.prog 7),[.int .i64 0,.int .i64 0,.bool false,.int .u8 0],4,24⟩:TI):=by kernel_rfl
theorem tz8:ah Try.prog 8=some (⟨.struct (aZ Try.prog 8),[.int .i64 0,.int .i64 0,.bool false,.int .u8 0],4,24⟩:TI):=by kernel_rfl
theorem XZ:ah Try.prog 12=some (⟨.int .u64,[.int .u64 0],1,8⟩:TI):=by kernel_rfl
theorem Ya:ah Try.prog 15=some (⟨.pointer 166,[.pointer none],1,8⟩:TI):=by kernel_rfl
theorem Yb:ah Try.prog 16=some (⟨.pointer 169,[.pointer none],1,8⟩:TI):=by kernel_rfl
theorem Yc:ah Try.prog 17=some (⟨.pointer 178,[.pointer none],1,8⟩:TI):=by kernel_rfl
theorem Yd:ah Try.prog 18=some (⟨.struct (aZ Try.prog 18),[.pointer none],1,8⟩:TI):=by kernel_rfl
theorem Ye:ah Try.prog 19=some (⟨.struct (aZ Try.prog 19),[.pointer none],1,8⟩:TI):=by kernel_rfl
theorem Yf:ah Try.prog 21=some (⟨.int .i32,[.int .i32 0],1,4⟩:TI):=by kernel_rfl
theorem UX:ah Try.prog 22=some (⟨.int .i64,[.int .i64 0],1,8⟩:TI):=by kernel_rfl
theorem UY:ah Try.prog 23=some (⟨.slice 3,[.slice none 0 0],1,24⟩:TI):=by kernel_rfl
theorem UZ:ah Try.prog 24=some (⟨.slice 2,[.slice none 0 0],1,24⟩:TI):=by kernel_rfl
theorem Yg:ah Try.prog 25=some (⟨.struct (aZ Try.prog 25),[.int .i64 0,.int .i64 0,.slice none 0 0,.slice none 0 0,.slice none 0 0,.slice none 0 0],6,112⟩:TI):=by kernel_rfl
theorem Vc:ah Try.prog 26=some (⟨.struct (aZ Try.prog 26),[.int .i64 0,.int .i64 0,.slice none 0 0,.slice none 0 0,.slice none 0 0,.slice none 0 0],6,112⟩:TI):=by kernel_rfl
theorem ae5:jG (ah Try.prog) (⟨.struct (aZ Try.prog 26),[.int .i64 0,.int .i64 0,.slice none 0 0,.slice none 0 0,.slice none 0 0,.slice none 0 0],6,112⟩:TI)=some fun i=>([(0,1),(1,1),(2,1),(3,1),(4,1),(5,1)]:List (Nat×Nat))[i]? :=by kernel_rfl
theorem Vd:ah Try.prog 27=some (⟨.slice 62,[.slice none 0 0],1,24⟩:TI):=by kernel_rfl
theorem Yh:ah Try.prog 28=some (⟨.struct (aZ Try.prog 28),[.int .i64 0,.slice none 0 0],2,32⟩:TI):=by kernel_rfl
theorem Ve:ah Try.prog 29=some (⟨.struct (aZ Try.prog 29),[.int .i64 0,.slice none 0 0],2,32⟩:TI):=by kernel_rfl
theorem yk:jG (ah Try.prog) (⟨.struct (aZ Try.prog 29),[.int .i64 0,.slice none 0 0],2,32⟩:TI)=some fun i=>([(0,1),(1,1)]:List (Nat×Nat))[i]? :=by kernel_rfl
theorem Yi:ah Try.prog 30=some (⟨.func #[] #[4] false,[.nilFunc],1,8⟩:TI):=by kernel_rfl
theorem Yj:ah Try.prog 31=some (⟨.func #[29] #[29] false,[.nilFunc],1,8⟩:TI):=by kernel_rfl
theorem Vf:ah Try.prog 32=some (⟨.slice 69,[.slice none 0 0],1,24⟩:TI):=by kernel_rfl
theorem Yk:ah Try.prog 33=some (⟨.int .i64,[.int .i64 0],1,8⟩:TI):=by kernel_rfl
theorem Yl:ah Try.prog 35=some (⟨.func #[22,26,29,44,4] #[32,33] false,[.nilFunc],1,8⟩:TI):=by kernel_rfl
theorem Ym:ah Try.prog 36=some (⟨.func #[32,32] #[4] false,[.nilFunc],1,8⟩:TI):=by kernel_rfl
theorem Yn:ah Try.prog 37=some (⟨.func #[22,26,29] #[4] false,[.nilFunc],1,8⟩:TI):=by kernel_rfl
theorem Vg:ah Try.prog 38=some (⟨.slice 32,[.slice none 0 0],1,24⟩:TI):=by kernel_rfl
theorem Yo:ah Try.prog 39=some (⟨.func #[22,38] #[32,33] true,[.nilFunc],1,8⟩:TI):=by kernel_rfl
theorem Yp:ah Try.prog 40=some (⟨.func #[22,38] #[32,33] false,[.nilFunc],1,8⟩:TI):=by kernel_rfl
theorem Yq:ah Try.prog 41=some (⟨.func #[22,38] #[4] false,[.nilFunc],1,8⟩:TI):=by kernel_rfl
theorem Vh:ah Try.prog 42=some (⟨.array 2 5,[.int .u8 0,.int .u8 0],2,2⟩:TI):=by kernel_rfl
theorem Yr:ah Try.prog 43=some (⟨.slice 60,[.slice none 0 0],1,24⟩:TI):=by kernel_rfl
theorem Vi:ah Try.prog 44=some (⟨.slice 65,[.slice none 0 0],1,24⟩:TI):=by kernel_rfl
theorem Ys:ah Try.prog 45=some (⟨.struct (aZ Try.prog 45),[.int .i64 0,.int .u8 0,.int .u8 0,.slice none 0 0,.slice none 0 0,.slice none 0 0,.slice none 0 0,.bool false],8,120⟩:TI):=by kernel_rfl
theorem Vj:ah Try.prog 46=some (⟨.struct (aZ Try.prog 46),[.int .i64 0,.int .u8 0,.int .u8 0,.slice none 0 0,.slice none 0 0,.slice none 0 0,.slice none 0 0,.bool false],8,120⟩:TI):=by kernel_rfl
theorem Yt:ah Try.prog 47=some (⟨.func #[22] #[22] false,[.nilFunc],1,8⟩:TI):=by kernel_rfl
theorem Yu:ah Try.prog 48=some (⟨.struct (aZ Try.prog 48),[.int .i64 0,.int .i64 0,.slice none 0 0,.slice none 0 0,.slice none 0 0],5,88⟩:TI):=by kernel_rfl
theorem Vk:ah Try.prog 49=some (⟨.struct (aZ Try.prog 49),[.int .i64 0,.int .i64 0,.slice none 0 0,.slice none 0 0,.slice none 0 0],5,88⟩:TI):=by kernel_rfl
theorem Yv:ah Try.prog 50=some (⟨.func #[] #[49] false,[.nilFunc],1,8⟩:TI):=by kernel_rfl
theorem Yw:ah Try.prog 51=some (⟨.func #[27] #[29] false,[.nilFunc],1,8⟩:TI):=by kernel_rfl
theorem Yx:ah Try.prog 52=some (⟨.func #[49] #[26] false,[.nilFunc],1,8⟩:TI):=by kernel_rfl
theorem Yy:ah Try.prog 53=some (⟨.func #[49,54,54] #[49] false,[.nilFunc],1,8⟩:TI):=by kernel_rfl
theorem Vm:ah Try.prog 54=some (⟨.array 2 3,[.int .i64 0,.int .i64 0],2,16⟩:TI):=by kernel_rfl
theorem Yz:ah Try.prog 55=some (⟨.func #[29,3,3] #[29] false,[.nilFunc],1,8⟩:TI):=by kernel_rfl
theorem YA:ah Try.prog 56=some (⟨.func #[46,5] #[4] false,[.nilFunc],1,8⟩:TI):=by kernel_rfl
theorem YB:ah Try.prog 58=some (⟨.func #[22,3,3,43] #[49,33] false,[.nilFunc],1,8⟩:TI):=by kernel_rfl
theorem YC:ah Try.prog 59=some (⟨.struct (aZ Try.prog 59),[.int .i64 0,.int .i64 0,.int .i64 0],3,24⟩:TI):=by kernel_rfl
theorem YD:ah Try.prog 60=some (⟨.struct (aZ Try.prog 60),[.int .i64 0,.int .i64 0,.int .i64 0],3,24⟩:TI):=by kernel_rfl
theorem YE:ah Try.prog 61=some (⟨.struct (aZ Try.prog 61),[.int .i64 0,.int .i64 0],2,16⟩:TI):=by kernel_rfl
theorem Vn:ah Try.prog 62=some (⟨.struct (aZ Try.prog 62),[.int .i64 0,.int .i64 0],2,16⟩:TI):=by kernel_rfl
theorem VV:jG (ah Try.prog) (⟨.struct (aZ Try.prog 62),[.int .i64 0,.int .i64 0],2,16⟩:TI)=some fun i=>([(0,1),(1,1)]:List (Nat×Nat))[i]? :=by kernel_rfl
theorem YF:ah Try.prog 64=some (⟨.func #[22,26,29,44,4] #[29,33] false,[.nilFunc],1,8⟩:TI):=by kernel_rfl
theorem Vo:ah Try.prog 65=some (⟨.int .u64,[.int .u64 0],1,8⟩:TI):=by kernel_rfl
theorem YG:ah Try.prog 66=some (⟨.struct (aZ Try.prog 66),[.int .i64 0,.int .u64 0],2,16⟩:TI):=by kernel_rfl
theorem Vp:ah Try.prog 67=some (⟨.struct (aZ Try.prog 67),[.int .i64 0,.int .u64 0],2,16⟩:TI):=by kernel_rfl
theorem wg:jG (ah Try.prog) (⟨.struct (aZ Try.prog 67),[.int .i64 0,.int .u64 0],2,16⟩:TI)=some fun i=>([(0,1),(1,1)]:List (Nat×Nat))[i]? :=by kernel_rfl
theorem YH:ah Try.prog 68=some (⟨.struct (aZ Try.prog 68),[.int .i64 0,.int .i64 0,.int .u64 0],3,24⟩:TI):=by kernel_rfl
theorem Vq:ah Try.prog 69=some (⟨.struct (aZ Try.prog 69),[.int .i64 0,.int .i64 0,.int .u64 0],3,24⟩:TI):=by kernel_rfl
theorem VW:jG (ah Try.prog) (⟨.struct (aZ Try.prog 69),[.int .i64 0,.int .i64 0,.int .u64 0],3,24⟩:TI)=some fun i=>([(0,1),(1,2)]:List (Nat×Nat))[i]? :=by kernel_rfl
theorem YI:ah Try.prog 70=some (⟨.func #[26,29] #[3] false,[.nilFunc],1,8⟩:TI):=by kernel_rfl
theorem YJ:ah Try.prog 71=some (⟨.func #[22] #[4] false,[.nilFunc],1,8⟩:TI):=by kernel_rfl
theorem YK:ah Try.prog 72=some (⟨.func #[26] #[26] false,[.nilFunc],1,8⟩:TI):=by kernel_rfl
theorem YL:ah Try.prog 73=some (⟨.func #[29] #[4] false,[.nilFunc],1,8⟩:TI):=by kernel_rfl
theorem Vr:ah Try.prog 74=some (⟨.slice 80,[.slice none 0 0],1,24⟩:TI):=by kernel_rfl
theorem YM:ah Try.prog 75=some (⟨.func #[120] #[] false,[.nilFunc],1,8⟩:TI):=by kernel_rfl
theorem YN:ah Try.prog 76=some (⟨.func #[120] #[] false,[.nilFunc],1,8⟩:TI):=by kernel_rfl
theorem YO:ah Try.prog 77=some (⟨.func #[26,29] #[76] false,[.nilFunc],1,8⟩:TI):=by kernel_rfl
theorem YP:ah Try.prog 78=some (⟨.pointer 80,[.pointer none],1,8⟩:TI):=by kernel_rfl
theorem YQ:ah Try.prog 79=some (⟨.struct (aZ Try.prog 79),[.int .i64 0,.int .u64 0,.bool false],3,24⟩:TI):=by kernel_rfl
theorem Vs:ah Try.prog 80=some (⟨.struct (aZ Try.prog 80),[.int .i64 0,.int .u64 0,.bool false],3,24⟩:TI):=by kernel_rfl
theorem acz:jG (ah Try.prog) (⟨.struct (aZ Try.prog 80),[.int .i64 0,.int .u64 0,.bool false],3,24⟩:TI)=some fun i=>([(0,2),(2,1)]:List (Nat×Nat))[i]? :=by kernel_rfl
theorem YR:ah Try.prog 81=some (⟨.func #[22,2,2] #[67] false,[.nilFunc],1,8⟩:TI):=by kernel_rfl
theorem YS:ah Try.prog 82=some (⟨.func #[22,67,67] #[67] false,[.nilFunc],1,8⟩:TI):=by kernel_rfl
theorem YT:ah Try.prog 83=some (⟨.func #[44,3] #[4] false,[.nilFunc],1,8⟩:TI):=by kernel_rfl
theorem YU:ah Try.prog 84=some (⟨.func #[22,49,87,44,4] #[32,33] false,[.nilFunc],1,8⟩:TI):=by kernel_rfl
theorem YV:ah Try.prog 85=some (⟨.func #[26] #[49] false,[.nilFunc],1,8⟩:TI):=by kernel_rfl
theorem YW:ah Try.prog 86=some (⟨.struct (aZ Try.prog 86),[.int .i64 0,.slice none 0 0,.slice none 0 0],3,56⟩:TI):=by kernel_rfl
theorem YX:ah Try.prog 87=some (⟨.struct (aZ Try.prog 87),[.int .i64 0,.slice none 0 0,.slice none 0 0],3,56⟩:TI):=by kernel_rfl
theorem YY:ah Try.prog 88=some (⟨.func #[29] #[87] false,[.nilFunc],1,8⟩:TI):=by kernel_rfl
theorem YZ:ah Try.prog 89=some (⟨.pointer 93,[.pointer none],1,8⟩:TI):=by kernel_rfl
theorem Za:ah Try.prog 90=some (⟨.slice 97,[.slice none 0 0],1,24⟩:TI):=by kernel_rfl
theorem Zb:ah Try.prog 91=some (⟨.slice 97,[.slice none 0 0],1,24⟩:TI):=by kernel_rfl
theorem Zc:ah Try.prog 92=some (⟨.struct (aZ Try.prog 92),[.slice none 0 0],1,24⟩:TI):=by kernel_rfl
theorem Zd:ah Try.prog 93=some (⟨.struct (aZ Try.prog 93),[.slice none 0 0],1,24⟩:TI):=by kernel_rfl
theorem Ze:ah Try.prog 94=some (⟨.func #[32] #[4] false,[.nilFunc],1,8⟩:TI):=by kernel_rfl
theorem Zf:ah Try.prog 95=some (⟨.func #[132,20] #[] false,[.nilFunc],1,8⟩:TI):=by kernel_rfl
theorem Zg:ah Try.prog 96=some (⟨.struct (aZ Try.prog 96),[.int .i64 0,.slice none 0 0],2,32⟩:TI):=by kernel_rfl
theorem Zh:ah Try.prog 97=some (⟨.struct (aZ Try.prog 97),[.int .i64 0,.slice none 0 0],2,32⟩:TI):=by kernel_rfl
theorem Zi:ah Try.prog 98=some (⟨.func #[] #[3] false,[.nilFunc],1,8⟩:TI):=by kernel_rfl
theorem Zj:ah Try.prog 99=some (⟨.func #[132] #[20] false,[.nilFunc],1,8⟩:TI):=by kernel_rfl
theorem Qp:ah Try.prog 100=some (⟨.func #[22,32,69] #[32] false,[.nilFunc],1,8⟩:TI):=by kernel_rfl
theorem Qq:ah Try.prog 101=some (⟨.func #[22,32,32] #[32] false,[.nilFunc],1,8⟩:TI):=by kernel_rfl
theorem Qr:ah Try.prog 102=some (⟨.func #[42,43] #[49] false,[.nilFunc],1,8⟩:TI):=by kernel_rfl
theorem Qs:ah Try.prog 103=some (⟨.func #[22,2] #[2] false,[.nilFunc],1,8⟩:TI):=by kernel_rfl
theorem Qt:ah Try.prog 104=some (⟨.func #[5,27] #[29] false,[.nilFunc],1,8⟩:TI):=by kernel_rfl
theorem Qu:ah Try.prog 105=some (⟨.func #[5] #[3] false,[.nilFunc],1,8⟩:TI):=by kernel_rfl
theorem Qv:ah Try.prog 106=some (⟨.func #[49] #[49] false,[.nilFunc],1,8⟩:TI):=by kernel_rfl
theorem Qw:ah Try.prog 107=some (⟨.func #[49,3] #[27] false,[.nilFunc],1,8⟩:TI):=by kernel_rfl
theorem Qx:ah Try.prog 108=some (⟨.func #[49] #[43] false,[.nilFunc],1,8⟩:TI):=by kernel_rfl
theorem Qy:ah Try.prog 109=some (⟨.func #[3,3,43] #[49] false,[.nilFunc],1,8⟩:TI):=by kernel_rfl
theorem Nc:ah Try.prog 110=some (⟨.slice 112,[.slice none 0 0],1,24⟩:TI):=by kernel_rfl
theorem Qz:ah Try.prog 111=some (⟨.struct (aZ Try.prog 111),[.int .i64 0,.int .i64 0,.int .i64 0],3,24⟩:TI):=by kernel_rfl
theorem Nd:ah Try.prog 112=some (⟨.struct (aZ Try.prog 112),[.int .i64 0,.int .i64 0,.int .i64 0],3,24⟩:TI):=by kernel_rfl
theorem acA:jG (ah Try.prog) (⟨.struct (aZ Try.prog 112),[.int .i64 0,.int .i64 0,.int .i64 0],3,24⟩:TI)=some fun i=>([(0,1),(1,1),(2,1)]:List (Nat×Nat))[i]? :=by kernel_rfl
theorem QA:ah Try.prog 114=some (⟨.func #[22,110] #[110,33] false,[.nilFunc],1,8⟩:TI):=by kernel_rfl
theorem QB:ah Try.prog 115=some (⟨.func #[22,3,32] #[29,33] false,[.nilFunc],1,8⟩:TI):=by kernel_rfl
theorem QC:ah Try.prog 116=some (⟨.func #[26,23] #[3] false,[.nilFunc],1,8⟩:TI):=by kernel_rfl
theorem QD:ah Try.prog 117=some (⟨.func #[29] #[23] false,[.nilFunc],1,8⟩:TI):=by kernel_rfl
theorem QE:ah Try.prog 118=some (⟨.func #[26] #[4] false,[.nilFunc],1,8⟩:TI):=by kernel_rfl
theorem QF:ah Try.prog 119=some (⟨.func #[3] #[4] false,[.nilFunc],1,8⟩:TI):=by kernel_rfl
theorem QG:ah Try.prog 120=some (⟨.func #[3,2] #[4] false,[.nilFunc],1,8⟩:TI):=by kernel_rfl
theorem QI:ah Try.prog 121=some (⟨.func #[2] #[67] false,[.nilFunc],1,8⟩:TI):=by kernel_rfl
theorem QJ:ah Try.prog 122=some (⟨.func #[67,67] #[67] false,[.nilFunc],1,8⟩:TI):=by kernel_rfl
theorem QK:ah Try.prog 123=some (⟨.func #[4] #[67] false,[.nilFunc],1,8⟩:TI):=by kernel_rfl
theorem QL:ah Try.prog 124=some (⟨.func #[2,2] #[67] false,[.nilFunc],1,8⟩:TI):=by kernel_rfl
theorem QM:ah Try.prog 125=some (⟨.func #[3] #[65] false,[.nilFunc],1,8⟩:TI):=by kernel_rfl
theorem QN:ah Try.prog 126=some (⟨.func #[87] #[29] false,[.nilFunc],1,8⟩:TI):=by kernel_rfl
theorem QO:ah Try.prog 128=some (⟨.func #[29,3] #[2,4] false,[.nilFunc],1,8⟩:TI):=by kernel_rfl
theorem QP:ah Try.prog 129=some (⟨.func #[3] #[87] false,[.nilFunc],1,8⟩:TI):=by kernel_rfl
theorem QQ:ah Try.prog 130=some (⟨.func #[3,23] #[44] false,[.nilFunc],1,8⟩:TI):=by kernel_rfl
theorem QR:ah Try.prog 133=some (⟨.func #[20] #[] false,[.nilFunc],1,8⟩:TI):=by kernel_rfl
theorem QS:ah Try.prog 134=some (⟨.func #[132,3] #[] false,[.nilFunc],1,8⟩:TI):=by kernel_rfl
theorem QU:ah Try.prog 135=some (⟨.func #[3,3] #[] false,[.nilFunc],1,8⟩:TI):=by kernel_rfl
theorem QV:ah Try.prog 136=some (⟨.func #[132,3,3] #[4] false,[.nilFunc],1,8⟩:TI):=by kernel_rfl
theorem QW:ah Try.prog 137=some (⟨.func #[] #[20] false,[.nilFunc],1,8⟩:TI):=by kernel_rfl
theorem QX:ah Try.prog 138=some (⟨.func #[43] #[43] false,[.nilFunc],1,8⟩:TI):=by kernel_rfl
theorem QY:ah Try.prog 139=some (⟨.func #[3,3] #[49] false,[.nilFunc],1,8⟩:TI):=by kernel_rfl
theorem QZ:ah Try.prog 140=some (⟨.func #[22,3,27] #[29,33] false,[.nilFunc],1,8⟩:TI):=by kernel_rfl
theorem Ra:ah Try.prog 141=some (⟨.func #[49] #[4] false,[.nilFunc],1,8⟩:TI):=by kernel_rfl
theorem Rb:ah Try.prog 142=some (⟨.slice 67,[.slice none 0 0],1,24⟩:TI):=by kernel_rfl
theorem Rc:ah Try.prog 143=some (⟨.func #[112,112] #[4] false,[.nilFunc],1,8⟩:TI):=by kernel_rfl
theorem Rd:ah Try.prog 144=some (⟨.func #[67] #[2,4] false,[.nilFunc],1,8⟩:TI):=by kernel_rfl
theorem Re:ah Try.prog 145=some (⟨.func #[22,3,32] #[33] false,[.nilFunc],1,8⟩:TI):=by kernel_rfl
theorem Rf:ah Try.prog 146=some (⟨.func #[22,67] #[2,4] false,[.nilFunc],1,8⟩:TI):=by kernel_rfl
theorem Rh:ah Try.prog 147=some (⟨.func #[22] #[2] false,[.nilFunc],1,8⟩:TI):=by kernel_rfl
theorem Ri:ah Try.prog 149=some (⟨.func #[26,3] #[3,3] false,[.nilFunc],1,8⟩:TI):=by kernel_rfl
theorem Rj:ah Try.prog 150=some (⟨.func #[23,3] #[4] false,[.nilFunc],1,8⟩:TI):=by kernel_rfl
theorem Rk:ah Try.prog 151=some (⟨.int .u64,[.int .u64 0],1,8⟩:TI):=by kernel_rfl
theorem Rm:ah Try.prog 152=some (⟨.func #[67,67] #[3] false,[.nilFunc],1,8⟩:TI):=by kernel_rfl
theorem Nf:ah Try.prog 153=some (⟨.array 4 65,[.int .u64 0,.int .u64 0,.int .u64 0,.int .u64 0],4,32⟩:TI):=by kernel_rfl
theorem Rn:ah Try.prog 154=some (⟨.func #[65,65] #[153] false,[.nilFunc],1,8⟩:TI):=by kernel_rfl
theorem Ro:ah Try.prog 155=some (⟨.func #[67,3] #[67] false,[.nilFunc],1,8⟩:TI):=by kernel_rfl
theorem Rp:ah Try.prog 156=some (⟨.func #[87] #[4] false,[.nilFunc],1,8⟩:TI):=by kernel_rfl
theorem Rq:ah Try.prog 157=some (⟨.func #[44] #[23] false,[.nilFunc],1,8⟩:TI):=by kernel_rfl
theorem Rr:ah Try.prog 158=some (⟨.func #[3] #[44] false,[.nilFunc],1,8⟩:TI):=by kernel_rfl
theorem Rs:ah Try.prog 159=some (⟨.func #[44,3] #[44] false,[.nilFunc],1,8⟩:TI):=by kernel_rfl
theorem Rt:ah Try.prog 160=some (⟨.func #[3,3] #[4] false,[.nilFunc],1,8⟩:TI):=by kernel_rfl
theorem Ru:ah Try.prog 161=some (⟨.func #[67] #[67] false,[.nilFunc],1,8⟩:TI):=by kernel_rfl
theorem Rv:ah Try.prog 162=some (⟨.func #[3] #[3] false,[.nilFunc],1,8⟩:TI):=by kernel_rfl
theorem Rw:ah Try.prog 163=some (⟨.func #[44,3,4] #[44] false,[.nilFunc],1,8⟩:TI):=by kernel_rfl
theorem Rx:ah Try.prog 164=some (⟨.func #[] #[9] false,[.nilFunc],1,8⟩:TI):=by kernel_rfl
theorem Ry:ah Try.prog 167=some (⟨.array 0 16,[],0,0⟩:TI):=by kernel_rfl
theorem Rz:ah Try.prog 168=some (⟨.struct (aZ Try.prog 168),[],0,0⟩:TI):=by kernel_rfl
theorem RA:ah Try.prog 169=some (⟨.struct (aZ Try.prog 169),[],0,0⟩:TI):=by kernel_rfl
theorem RE:ah Try.prog 170=some (⟨.int .u32,[.int .u32 0],1,4⟩:TI):=by kernel_rfl
theorem RF:ah Try.prog 171=some (⟨.int .u8,[.int .u8 0],1,1⟩:TI):=by kernel_rfl
theorem RH:ah Try.prog 172=some (⟨.int .u8,[.int .u8 0],1,1⟩:TI):=by kernel_rfl
theorem RI:ah Try.prog 173=some (⟨.func #[179,179] #[4] false,[.nilFunc],1,8⟩:TI):=by kernel_rfl
theorem RJ:ah Try.prog 174=some (⟨.pointer 5,[.pointer none],1,8⟩:TI):=by kernel_rfl
theorem RK:ah Try.prog 175=some (⟨.int .i32,[.int .i32 0],1,4⟩:TI):=by kernel_rfl
theorem RL:ah Try.prog 176=some (⟨.int .i32,[.int .i32 0],1,4⟩:TI):=by kernel_rfl
theorem RM:ah Try.prog 177=some (⟨.struct (aZ Try.prog 177),[.int .u64 0,.int .u64 0,.int .u32 0,.int .u8 0,.int .u8 0,.int .u8 0,.int .u8 0,.nilFunc,.pointer none,.int .i32 0,.int .i32 0],11,48⟩:TI):=by kernel_rfl
theorem RN:ah Try.prog 178=some (⟨.struct (aZ Try.prog 178),[.int .u64 0,.int .u64 0,.int .u32 0,.int .u8 0,.int .u8 0,.int .u8 0,.int .u8 0,.nilFunc,.pointer none,.int .i32 0,.int .i32 0],11,48⟩:TI):=by kernel_rfl
theorem sz1:cj (ah Try.prog) 1=some (1,false):=by kernel_rfl
theorem sz2:cj (ah Try.prog) 2=some (1,false):=by kernel_rfl
theorem sz3:cj (ah Try.prog) 3=some (1,false):=by kernel_rfl
theorem sz4:cj (ah Try.prog) 4=some (1,false):=by kernel_rfl
theorem sz5:cj (ah Try.prog) 5=some (1,false):=by kernel_rfl
theorem Pc:cj (ah Try.prog) 22=some (1,false):=by kernel_rfl
theorem Ln:cj (ah Try.prog) 23=some (1,false):=by kernel_rfl
theorem el23:dM (ah Try.prog) 23=some 1:=by kernel_rfl
theorem VX:cj (ah Try.prog) 24=some (1,false):=by kernel_rfl
theorem el24:dM (ah Try.prog) 24=some 1:=by kernel_rfl
theorem CP:cj (ah Try.prog) 26=some (6,true):=by kernel_rfl
theorem Sy:fieldAt (ah Try.prog) 26 0=some (0,1,false):=by kernel_rfl
theorem Sz:fieldAt (ah Try.prog) 26 1=some (1,1,false):=by kernel_rfl
theorem Gm:fieldAt (ah Try.prog) 26 2=some (2,1,false):=by kernel_rfl
theorem SA:fieldAt (ah Try.prog) 26 3=some (3,1,false):=by kernel_rfl
theorem ZC:fieldAt (ah Try.prog) 26 4=some (4,1,false):=by kernel_rfl
theorem ZD:fieldAt (ah Try.prog) 26 5=some (5,1,false):=by kernel_rfl
theorem nM:cj (ah Try.prog) 27=some (1,false):=by kernel_rfl
theorem el27:dM (ah Try.prog) 27=some 2:=by kernel_rfl
theorem fc:cj (ah Try.prog) 29=some (2,true):=by kernel_rfl
theorem pj:fieldAt (ah Try.prog) 29 0=some (0,1,false):=by kernel_rfl
theorem fV:fieldAt (ah Try.prog) 29 1=some (1,1,false):=by kernel_rfl
theorem el32:dM (ah Try.prog) 32=some 3:=by kernel_rfl
theorem ae6:cj (ah Try.prog) 42=some (2,true):=by kernel_rfl
theorem ae7:cj (ah Try.prog) 43=some (1,false):=by kernel_rfl
theorem el44:dM (ah Try.prog) 44=some 1:=by kernel_rfl
theorem acB:cj (ah Try.prog) 46=some (8,true):=by kernel_rfl
theorem Lo:fieldAt (ah Try.prog) 46 0=some (0,1,false):=by kernel_rfl
theorem SC:fieldAt (ah Try.prog) 46 1=some (1,2,true):=by kernel_rfl
theorem ZE:fieldAt (ah Try.prog) 46 2=some (3,1,false):=by kernel_rfl
theorem ZF:fieldAt (ah Try.prog) 46 3=some (4,1,false):=by kernel_rfl
theorem IV:cj (ah Try.prog) 49=some (5,true):=by kernel_rfl
theorem SD:fieldAt (ah Try.prog) 49 0=some (0,1,false):=by kernel_rfl
theorem Lp:fieldAt (ah Try.prog) 49 1=some (1,1,false):=by kernel_rfl
theorem Lq:fieldAt (ah Try.prog) 49 4=some (4,1,false):=by kernel_rfl
theorem VY:cj (ah Try.prog) 62=some (2,true):=by kernel_rfl
theorem gP:fieldAt (ah Try.prog) 62 0=some (0,1,false):=by kernel_rfl
theorem Ak:fieldAt (ah Try.prog) 62 1=some (1,1,false):=by kernel_rfl
theorem uH:cj (ah Try.prog) 65=some (1,false):=by kernel_rfl
theorem aR:cj (ah Try.prog) 67=some (2,true):=by kernel_rfl
theorem jm:fieldAt (ah Try.prog) 67 0=some (0,1,false):=by kernel_rfl
theorem pk:fieldAt (ah Try.prog) 67 1=some (1,1,false):=by kernel_rfl
theorem acC:cj (ah Try.prog) 69=some (3,true):=by kernel_rfl
theorem SE:cj (ah Try.prog) 74=some (1,false):=by kernel_rfl
theorem ZG:dM (ah Try.prog) 74=some 3:=by kernel_rfl
theorem Pd:cj (ah Try.prog) 80=some (3,true):=by kernel_rfl
theorem Al:fieldAt (ah Try.prog) 80 0=some (0,2,true):=by kernel_rfl
theorem Lr:fieldAt (ah Try.prog) 80 1=some (2,1,false):=by kernel_rfl
theorem el110:dM (ah Try.prog) 110=some 3:=by kernel_rfl
theorem VZ:fieldAt (ah Try.prog) 112 1=some (1,1,false):=by kernel_rfl
theorem Wa:fieldAt (ah Try.prog) 112 2=some (2,1,false):=by kernel_rfl
theorem SF:cj (ah Try.prog) 153=some (4,true):=by kernel_rfl
theorem sJ:Try.prog.follows .mixedOrders=true:=by kernel_rfl
theorem sK:GC Try.prog=true:=by kernel_rfl
def Ib:Ax:=(fM (fM (fM (fM (fM (fM (fM (fM (fM (fM (fun _=>none) 54 (qF 54)) 52 (qF 52)) 39 (qF 39)) 50 (qF 50)) 11 (qF 11)) 6 (qF 6)) 30 (qF 30)) 16 (qF 16)) 19 (qF 19)) 17 (qF 17))
theorem zx:AU Try.prog Ib:=(bS (bS (bS (bS (bS (bS (bS (bS (bS (bS (wq _) VM) VN) VO) VP) VQ) ZB) VR) VS) VT) VU)
def oQ:List TD→Option (Kind×List TD):=fun _=>none
def wX:Ax:=(fM (fM (fM Ib 25 oQ) 70 oQ) 75 oQ)
theorem od:AU Try.prog wX:=(bS (bS (bS zx fun vs kind rs h=>by simp [oQ]at h) fun vs kind rs h=>by simp [oQ]at h) fun vs kind rs h=>by simp [oQ]at h)
def E0:Env:=uU Try.prog wX
theorem Xz:E0.Ok:=oF sJ sK od
def E1:Env:=uU Try.prog wX
theorem dO:E1.Ok:=oF sJ sK od
theorem dP:E1.fn=bZ Try.prog:=Tp _ _
theorem acD:E1.ax 25=some fun _=>none:=rfl
theorem ty1:E1.ti 1=some (⟨.func #[] #[] false,[.nilFunc],1,8⟩:TI):=tz1
theorem ty2:E1.ti 2=some (⟨.int .i64,[.int .i64 0],1,8⟩:TI):=tz2
theorem ty3:E1.ti 3=some (⟨.int .i64,[.int .i64 0],1,8⟩:TI):=tz3
theorem ty5:E1.ti 5=some (⟨.int .u8,[.int .u8 0],1,1⟩:TI):=tz5
theorem ae8:E1.ti 22=some (⟨.int .i64,[.int .i64 0],1,8⟩:TI):=UX
theorem ZH:E1.ti 23=some (⟨.slice 3,[.slice none 0 0],1,24⟩:TI):=UY
theorem ZI:E1.ti 24=some (⟨.slice 2,[.slice none 0 0],1,24⟩:TI):=UZ
theorem Pe:E1.ti 26=some (⟨.struct (aZ Try.prog 26),[.int .i64 0,.int .i64 0,.slice none 0 0,.slice none 0 0,.slice none 0 0,.slice none 0 0],6,112⟩:TI):=Vc
theorem rK:E1.ti 27=some (⟨.slice 62,[.slice none 0 0],1,24⟩:TI):=Vd
theorem jW:E1.ti 29=some (⟨.struct (aZ Try.prog 29),[.int .i64 0,.slice none 0 0],2,32⟩:TI):=Ve
theorem wh:E1.ti 32=some (⟨.slice 69,[.slice none 0 0],1,24⟩:TI):=Vf
theorem acE:E1.ti 38=some (⟨.slice 32,[.slice none 0 0],1,24⟩:TI):=Vg
theorem ae9:E1.ti 42=some (⟨.array 2 5,[.int .u8 0,.int .u8 0],2,2⟩:TI):=Vh
theorem aea:E1.ti 44=some (⟨.slice 65,[.slice none 0 0],1,24⟩:TI):=Vi
theorem ZJ:E1.ti 46=some (⟨.struct (aZ Try.prog 46),[.int .i64 0,.int .u8 0,.int .u8 0,.slice none 0 0,.slice none 0 0,.slice none 0 0,.slice none 0 0,.bool false],8,120⟩:TI):=Vj
theorem ZK:E1.ti 49=some (⟨.struct (aZ Try.prog 49),[.int .i64 0,.int .i64 0,.slice none 0 0,.slice none 0 0,.slice none 0 0],5,88⟩:TI):=Vk
theorem Wb:E1.ti 54=some (⟨.array 2 3,[.int .i64 0,.int .i64 0],2,16⟩:TI):=Vm
theorem CQ:E1.ti 62=some (⟨.struct (aZ Try.prog 62),[.int .i64 0,.int .i64 0],2,16⟩:TI):=Vn
theorem Wc:E1.ti 65=some (⟨.int .u64,[.int .u64 0],1,8⟩:TI):=Vo
theorem iV:E1.ti 67=some (⟨.struct (aZ Try.prog 67),[.int .i64 0,.int .u64 0],2,16⟩:TI):=Vp
theorem IW:E1.ti 69=some (⟨.struct (aZ Try.prog 69),[.int .i64 0,.int .i64 0,.int .u64 0],3,24⟩:TI):=Vq
theorem Pf:E1.ti 74=some (⟨.slice 80,[.slice none 0 0],1,24⟩:TI):=Vr
theorem Pg:E1.ti 80=some (⟨.struct (aZ Try.prog 80),[.int .i64 0,.int .u64 0,.bool false],3,24⟩:TI):=Vs
theorem SG:E1.ti 110=some (⟨.slice 112,[.slice none 0 0],1,24⟩:TI):=Nc
theorem XA:E1.ti 112=some (⟨.struct (aZ Try.prog 112),[.int .i64 0,.int .i64 0,.int .i64 0],3,24⟩:TI):=Nd
theorem Am:E1.ti 153=some (⟨.array 4 65,[.int .u64 0,.int .u64 0,.int .u64 0,.int .u64 0],4,32⟩:TI):=Nf
end Ev
end
noncomputable section
namespace Ev
open Go
set_option maxRecDepth 100000
set_option maxHeartbeats 1000000
attribute [local irreducible] ez StL TnL WpL dZ
def r61(x:Int×Int):List T:= [iT .i64 x.1,iT .i64 x.2]
def r28(x:Int×(Sl (Int×Int))):List T:= [iT .i64 x.1,Sl.t r61 x.2]
def r3(x:Int):List T:= [iT .i64 x]
def r2(x:Int):List T:= [iT .i64 x]
def r25(x:Int×Int×Sl (Int)×Sl (Int)×Sl (Int)×Sl (Int)):List T:= [iT .i64 x.1,iT .i64 x.2.1,Sl.t r3 x.2.2.1,Sl.t r3 x.2.2.2.1,Sl.t r3 x.2.2.2.2.1,Sl.t r2 x.2.2.2.2.2]
def r66(x:Int×Int):List T:= [iT .i64 x.1,iT .u64 x.2]
def aeb(x:Int×Int×Int×Int):List T:= [iT .u64 x.1,iT .u64 x.2.1,iT .u64 x.2.2.1,iT .u64 x.2.2.2]
def r65(x:Int):List T:= [iT .u64 x]
def r68(x:Int×(Int×Int)):List T:= [iT .i64 x.1,iT .i64 x.2.1,iT .u64 x.2.2]
def r79(x:(Int×Int)×Bool):List T:= [iT .i64 x.1.1,iT .u64 x.1.2,bT x.2]
def r48(x:Int×Int×Sl (Int)×Sl (Int)×Sl (Int)):List T:= [iT .i64 x.1,iT .i64 x.2.1,Sl.t r3 x.2.2.1,Sl.t r3 x.2.2.2.1,Sl.t r2 x.2.2.2.2]
def r59(x:Int×Int×Int):List T:= [iT .i64 x.1,iT .i64 x.2.1,iT .i64 x.2.2]
def r45(x:Int×(Int×Int)×(Sl (Int×Int×Int))×(Sl (Int×Int))×(Sl (Int×Int))×Sl (Int)×Bool):List T:= [iT .i64 x.1,iT .u8 x.2.1.1,iT .u8 x.2.1.2,Sl.t r59 x.2.2.1,Sl.t r61 x.2.2.2.1,Sl.t r61 x.2.2.2.2.1,Sl.t r65 x.2.2.2.2.2.1,bT x.2.2.2.2.2.2]
def nN(x:Int×Int×Int):List T:= [iT .i64 x.1,iT .i64 x.2.1,iT .i64 x.2.2]
def r32(x:Sl (Int×(Int×Int))):List T:= [Sl.t r68 x]
def r42(x:Int×Int):List T:= [iT .u8 x.1,iT .u8 x.2]
def r54(x:Int×Int):List T:= [iT .i64 x.1,iT .i64 x.2]
theorem pm(a:Int):ak Try.prog (Go.convert 2 65 (.int .i64 a))=some (.int .u64 (IntKind.u64.wrap a)):=by kernel_rfl
theorem Ph(a:Int):ak Try.prog (Go.convert 3 5 (.int .i64 a))=some (.int .u8 (IntKind.u8.wrap a)):=by kernel_rfl
theorem lz(a:Int):ak Try.prog (Go.convert 3 151 (.int .i64 a))=some (.int .u64 (IntKind.u64.wrap a)):=by kernel_rfl
theorem An(a:Int):ak Try.prog (Go.convert 5 3 (.int .u8 a))=some (.int .i64 (IntKind.i64.wrap a)):=by kernel_rfl
theorem sS(a:Int):ak Try.prog (Go.convert 65 2 (.int .u64 a))=some (.int .i64 (IntKind.i64.wrap a)):=by kernel_rfl
def eT(x0:Int×Int×Sl (Int)×Sl (Int)×Sl (Int)×Sl (Int)):Option (Bool):=K.eT (x0)
theorem Gn(m:Nat){x0:Int×Int×Sl (Int)×Sl (Int)×Sl (Int)×Sl (Int)}{out:Bool}(h:eT x0=some out):RunsP E1 (m+1) 54 [.agg (r25 x0)] (.fresh,[.one (bT out)]):=jZ (F:=qF 54) rfl (jp (K.CK 58 (x0) out h))
def fI(x0:Int×Int)(x1:Sl (Int×Int×Int)):Option (Int×Int×Sl (Int)×Sl (Int)×Sl (Int)):=K.fI (x0,x1)
theorem Gp(m:Nat){x0:Int×Int}{x1:Sl (Int×Int×Int)}{out:Int×Int×Sl (Int)×Sl (Int)×Sl (Int)}(h:fI x0 x1=some out):RunsP E1 (m+1) 39 [.agg (r42 x0),.one (Sl.t r59 x1)] (.fresh,[.agg (r48 out)]):=jZ (F:=qF 39) rfl (jp (K.CN 45 (x0,x1) out h))
def ct(x0:Int)(x1:Sl (Int×Int×Int)):Option ((Sl (Int×Int×Int))×(Int)):=K.ct (x0,x1)
theorem ym(m:Nat){x0:Int}{x1:Sl (Int×Int×Int)}{out:(Sl (Int×Int×Int))×(Int)}(h:ct x0 x1=some out):RunsP E1 (m+1) 50 [.one (iT .i64 x0),.one (Sl.t nN x1)] (.fresh,[.one (Sl.t nN out.1),.one (iT .i64 out.2)]):=jZ (F:=qF 50) rfl (jp (K.ou 57 (x0,x1) out h))
def gl(x0:Int)(x1:Sl (Sl (Int×(Int×Int)))):Option ((Sl (Int×(Int×Int)))×(Int)):=K.gl (x0,x1)
theorem uJ(m:Nat){x0:Int}{x1:Sl (Sl (Int×(Int×Int)))}{out:(Sl (Int×(Int×Int)))×(Int)}(h:gl x0 x1=some out):RunsP E1 (m+1) 11 [.one (iT .i64 x0),.one (Sl.t r32 x1)] (.fresh,[.one (Sl.t r68 out.1),.one (iT .i64 out.2)]):=jZ (F:=qF 11) rfl (jp (K.Ch 59 (x0,x1) out h))
def FL:Option (Bool):=K.FL6 ()
theorem aec(m:Nat){out:Bool}(h:FL=some out):RunsP E1 (m+1) 6 [] (.fresh,[.one (bT out)]):=jZ (F:=qF 6) rfl (jp (K.Zw 59 () out h))
def fx(x0:Int×Int×Sl (Int)×Sl (Int)×Sl (Int)):Option (Int×Int×Sl (Int)×Sl (Int)×Sl (Int)×Sl (Int)):=K.fx (x0)
theorem sU(m:Nat){x0:Int×Int×Sl (Int)×Sl (Int)×Sl (Int)}{out:Int×Int×Sl (Int)×Sl (Int)×Sl (Int)×Sl (Int)}(h:fx x0=some out):RunsP E1 (m+1) 16 [.agg (r48 x0)] (.fresh,[.agg (r25 out)]):=jZ (F:=qF 16) rfl (jp (K.IU 49 (x0) out h))
def ln(x0:Int)(x1:Int)(x2:Int)(x3:Sl (Int×Int×Int)):Option ((Int×Int×Sl (Int)×Sl (Int)×Sl (Int))×(Int)):=K.ln (x0,x1,x2,x3)
def fp(x0:Int×Int×Sl (Int)×Sl (Int)×Sl (Int))(x1:Int×Int)(x2:Int×Int):Option (Int×Int×Sl (Int)×Sl (Int)×Sl (Int)):=K.fp (x0,x1,x2)
theorem xw(m:Nat){x0:Int×Int×Sl (Int)×Sl (Int)×Sl (Int)}{x1:Int×Int}{x2:Int×Int}{out:Int×Int×Sl (Int)×Sl (Int)×Sl (Int)}(h:fp x0 x1 x2=some out):RunsP E1 (m+1) 17 [.agg (r48 x0),.agg (r54 x1),.agg (r54 x2)] (.fresh,[.agg (r48 out)]):=jZ (F:=qF 17) rfl (jp (K.Gl 50 (x0,x1,x2) out h))
end Ev
end
noncomputable section
namespace Ev
open Go
set_option maxRecDepth 100000
set_option maxHeartbeats 1000000
attribute [local irreducible] ez StL TnL WpL dZ
theorem IX(x y:Operand)(a0 b0 a1 b1:Int):ak Try.prog (do eqGuard .eql 67 x y (.agg #[.int .i64 a0,.int .u64 a1]) (.agg #[.int .i64 b0,.int .u64 b1]);binOp .eql 67 (.agg #[.int .i64 a0,.int .u64 a1]) (.agg #[.int .i64 b0,.int .u64 b1]))=some (.bool ((a0==b0 &&(a1==b1 && true)))):=by
 refine JP (by kernel_rfl) ((kI 9999 67 #[.int .i64 a0,.int .u64 a1] #[.int .i64 b0,.int .u64 b1] (fs:=aZ Try.prog 66) (by kernel_rfl) (by kernel_rfl)).trans ?_);rw [show(aZ Try.prog 66).toList= [fld Try.prog 66 0,fld Try.prog 66 1]by kernel_rfl];exact((gb (k:= .i64) (k':= .i64) (by kernel_rfl) (by kernel_rfl) (by kernel_rfl) (by kernel_rfl)).trans (lT ((gb (k:= .u64) (k':= .u64) (by kernel_rfl) (by kernel_rfl) (by kernel_rfl) (by kernel_rfl)).trans (lT jB))))
theorem Ls(x y:Operand){a0 b0 a1 b1:Int}(h:a0=b0∧a1=b1):ak Try.prog (do eqGuard .eql 67 x y (.agg #[.int .i64 a0,.int .u64 a1]) (.agg #[.int .i64 b0,.int .u64 b1]);binOp .eql 67 (.agg #[.int .i64 a0,.int .u64 a1]) (.agg #[.int .i64 b0,.int .u64 b1]))=some (.bool true):=by rw [IX];simp [h]
theorem Lt(x y:Operand){a0 b0 a1 b1:Int}(h:¬(a0=b0∧a1=b1)):ak Try.prog (do eqGuard .eql 67 x y (.agg #[.int .i64 a0,.int .u64 a1]) (.agg #[.int .i64 b0,.int .u64 b1]);binOp .eql 67 (.agg #[.int .i64 a0,.int .u64 a1]) (.agg #[.int .i64 b0,.int .u64 b1]))=some (.bool false):=by rw [IX];congr 2;revert h;by_cases e0:a0=b0<;>by_cases e1:a1=b1<;>simp_all
theorem nr(x y:Operand)(a b:Bool):ak Try.prog (do eqGuard .neq 4 x y (.bool a) (.bool b);binOp .neq 4 (.bool a) (.bool b))=some (.bool (a !=b)):=by cases a<;>cases b<;>kernel_rfl
theorem IY(x y:Operand)(a0 b0 a1 b1:Int):ak Try.prog (do eqGuard .neq 67 x y (.agg #[.int .i64 a0,.int .u64 a1]) (.agg #[.int .i64 b0,.int .u64 b1]);binOp .neq 67 (.agg #[.int .i64 a0,.int .u64 a1]) (.agg #[.int .i64 b0,.int .u64 b1]))=some (.bool (!(a0==b0 &&(a1==b1 && true)))):=by
 refine Bj (by kernel_rfl) ((kI 9999 67 #[.int .i64 a0,.int .u64 a1] #[.int .i64 b0,.int .u64 b1] (fs:=aZ Try.prog 66) (by kernel_rfl) (by kernel_rfl)).trans ?_);rw [show(aZ Try.prog 66).toList= [fld Try.prog 66 0,fld Try.prog 66 1]by kernel_rfl];exact((gb (k:= .i64) (k':= .i64) (by kernel_rfl) (by kernel_rfl) (by kernel_rfl) (by kernel_rfl)).trans (lT ((gb (k:= .u64) (k':= .u64) (by kernel_rfl) (by kernel_rfl) (by kernel_rfl) (by kernel_rfl)).trans (lT jB))))
theorem Ao(x y:Operand){a0 b0 a1 b1:Int}(h:a0=b0∧a1=b1):ak Try.prog (do eqGuard .neq 67 x y (.agg #[.int .i64 a0,.int .u64 a1]) (.agg #[.int .i64 b0,.int .u64 b1]);binOp .neq 67 (.agg #[.int .i64 a0,.int .u64 a1]) (.agg #[.int .i64 b0,.int .u64 b1]))=some (.bool false):=by rw [IY];simp [h]
theorem Ap(x y:Operand){a0 b0 a1 b1:Int}(h:¬(a0=b0∧a1=b1)):ak Try.prog (do eqGuard .neq 67 x y (.agg #[.int .i64 a0,.int .u64 a1]) (.agg #[.int .i64 b0,.int .u64 b1]);binOp .neq 67 (.agg #[.int .i64 a0,.int .u64 a1]) (.agg #[.int .i64 b0,.int .u64 b1]))=some (.bool true):=by rw [IY];congr 2;revert h;by_cases e0:a0=b0<;>by_cases e1:a1=b1<;>simp_all
theorem IZ(x y:Operand)(a0 b0 a1 b1 a2 b2:Int):ak Try.prog (do eqGuard .neq 69 x y (.agg #[.int .i64 a0,.int .i64 a1,.int .u64 a2]) (.agg #[.int .i64 b0,.int .i64 b1,.int .u64 b2]);binOp .neq 69 (.agg #[.int .i64 a0,.int .i64 a1,.int .u64 a2]) (.agg #[.int .i64 b0,.int .i64 b1,.int .u64 b2]))=some (.bool (!(a0==b0 &&((a1==b1 &&(a2==b2 && true))&& true)))):=by
 refine Bj (by kernel_rfl) ((kI 9999 69 #[.int .i64 a0,.int .i64 a1,.int .u64 a2] #[.int .i64 b0,.int .i64 b1,.int .u64 b2] (fs:=aZ Try.prog 68) (by kernel_rfl) (by kernel_rfl)).trans ?_);rw [show(aZ Try.prog 68).toList= [fld Try.prog 68 0,fld Try.prog 68 1]by kernel_rfl];exact((gb (k:= .i64) (k':= .i64) (by kernel_rfl) (by kernel_rfl) (by kernel_rfl) (by kernel_rfl)).trans (lT ((Mw (us:=#[.int .i64 a1,.int .u64 a2]) (vs:=#[.int .i64 b1,.int .u64 b2]) (c:=(a1==b1 &&(a2==b2 && true))) (by kernel_rfl) (by kernel_rfl) (by kernel_rfl) ((kI 9998 67 #[.int .i64 a1,.int .u64 a2] #[.int .i64 b1,.int .u64 b2] (fs:=aZ Try.prog 66) (by kernel_rfl) (by kernel_rfl)).trans (by rw [show(aZ Try.prog 66).toList= [fld Try.prog 66 0,fld Try.prog 66 1]by kernel_rfl];exact((gb (k:= .i64) (k':= .i64) (by kernel_rfl) (by kernel_rfl) (by kernel_rfl) (by kernel_rfl)).trans (lT ((gb (k:= .u64) (k':= .u64) (by kernel_rfl) (by kernel_rfl) (by kernel_rfl) (by kernel_rfl)).trans (lT jB))))))).trans (lT jB))))
theorem Lu(x y:Operand){a0 b0 a1 b1 a2 b2:Int}(h:a0=b0∧a1=b1∧a2=b2):ak Try.prog (do eqGuard .neq 69 x y (.agg #[.int .i64 a0,.int .i64 a1,.int .u64 a2]) (.agg #[.int .i64 b0,.int .i64 b1,.int .u64 b2]);binOp .neq 69 (.agg #[.int .i64 a0,.int .i64 a1,.int .u64 a2]) (.agg #[.int .i64 b0,.int .i64 b1,.int .u64 b2]))=some (.bool false):=by rw [IZ];simp [h]
theorem Lv(x y:Operand){a0 b0 a1 b1 a2 b2:Int}(h:¬(a0=b0∧a1=b1∧a2=b2)):ak Try.prog (do eqGuard .neq 69 x y (.agg #[.int .i64 a0,.int .i64 a1,.int .u64 a2]) (.agg #[.int .i64 b0,.int .i64 b1,.int .u64 b2]);binOp .neq 69 (.agg #[.int .i64 a0,.int .i64 a1,.int .u64 a2]) (.agg #[.int .i64 b0,.int .i64 b1,.int .u64 b2]))=some (.bool true):=by rw [IZ];congr 2;revert h;by_cases e0:a0=b0<;>by_cases e1:a1=b1<;>by_cases e2:a2=b2<;>simp_all
end Ev
end
end Go.Proofs.Ytjjbpdldbdmoeaa
