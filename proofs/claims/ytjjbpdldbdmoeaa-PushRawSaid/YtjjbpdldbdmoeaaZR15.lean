/- Texts of a claim, joined. -/
import Derived.Test.YtjjbpdldbdmoeaaZR14
import Derived.Test.YtjjbpdldbdmoeaaZR5
import Derived.Test.YtjjbpdldbdmoeaaZR12
import Derived.Test.YtjjbpdldbdmoeaaZR3
import Derived.Test.YtjjbpdldbdmoeaaProg
set_option linter.unusedVariables false
set_option linter.unusedSimpArgs false
namespace Go.Proofs.Ytjjbpdldbdmoeaa
noncomputable section
namespace Ev
open Go Go.RowKit
abbrev bf:D:= .one (bC false)
abbrev bt:D:= .one (bC true)
abbrev iO(n:Int):D:= .one (iC .i64 n)
abbrev bO(b:Bool):D:= .one (bC b)
abbrev iI(n:Int):C:=iC .i64 n
abbrev uI(n:Int):C:=iC .u64 n
abbrev nC:C:= .p true (.s false 0 [])
abbrev sC{α:Type}(r:α→List T)(s:Sl α):C:= .p true (Sl.t r s)
abbrev sF{α:Type}(r:α→List T)(s:Sl α):C:= .p false (Sl.t r s)
theorem sj{α:Type}{a b:α}(h:some a=some b):a=b:=Option.some.inj h
theorem wF{α:Type}{a b:α}{r:α}(h:(if false=true then a else b)=r):b=r:=h
theorem wT{α:Type}{a b:α}{r:α}(h:(if true=true then a else b)=r):a=r:=h
theorem aW{P:Program}{t:TypeId}{x y:Operand}{k:IntKind}{a b:Int}(h:a<b):aw P (do eqGuard .lss t x y (.int k a) (.int k b);binOp .lss t (.int k a) (.int k b))=some (.bool true):=XN P t x y k h
theorem aX{P:Program}{t:TypeId}{x y:Operand}{k:IntKind}{a b:Int}(h:¬a<b):aw P (do eqGuard .lss t x y (.int k a) (.int k b);binOp .lss t (.int k a) (.int k b))=some (.bool false):=XO P t x y k h
theorem qL{P:Program}{t:TypeId}{x y:Operand}{k:IntKind}{a b:Int}(h:a≤b):aw P (do eqGuard .leq t x y (.int k a) (.int k b);binOp .leq t (.int k a) (.int k b))=some (.bool true):=XP P t x y k h
theorem qM{P:Program}{t:TypeId}{x y:Operand}{k:IntKind}{a b:Int}(h:¬a≤b):aw P (do eqGuard .leq t x y (.int k a) (.int k b);binOp .leq t (.int k a) (.int k b))=some (.bool false):=XQ P t x y k h
theorem gC{P:Program}{t:TypeId}{x y:Operand}{k:IntKind}{a b:Int}(h:a>b):aw P (do eqGuard .gtr t x y (.int k a) (.int k b);binOp .gtr t (.int k a) (.int k b))=some (.bool true):=XR P t x y k h
theorem gD{P:Program}{t:TypeId}{x y:Operand}{k:IntKind}{a b:Int}(h:¬a>b):aw P (do eqGuard .gtr t x y (.int k a) (.int k b);binOp .gtr t (.int k a) (.int k b))=some (.bool false):=XS P t x y k h
theorem eG{P:Program}{t:TypeId}{x y:Operand}{k:IntKind}{a b:Int}(h:a ≥ b):aw P (do eqGuard .geq t x y (.int k a) (.int k b);binOp .geq t (.int k a) (.int k b))=some (.bool true):=XU P t x y k h
theorem eH{P:Program}{t:TypeId}{x y:Operand}{k:IntKind}{a b:Int}(h:¬a ≥ b):aw P (do eqGuard .geq t x y (.int k a) (.int k b);binOp .geq t (.int k a) (.int k b))=some (.bool false):=XV P t x y k h
theorem bZ{P:Program}{t:TypeId}{x y:Operand}{k:IntKind}{a b:Int}(h:a=b):aw P (do eqGuard .eql t x y (.int k a) (.int k b);binOp .eql t (.int k a) (.int k b))=some (.bool true):=XW P t x y k h
theorem cd{P:Program}{t:TypeId}{x y:Operand}{k:IntKind}{a b:Int}(h:¬a=b):aw P (do eqGuard .eql t x y (.int k a) (.int k b);binOp .eql t (.int k a) (.int k b))=some (.bool false):=XX P t x y k h
theorem eZ{P:Program}{t:TypeId}{x y:Operand}{k:IntKind}{a b:Int}(h:a≠b):aw P (do eqGuard .neq t x y (.int k a) (.int k b);binOp .neq t (.int k a) (.int k b))=some (.bool true):=XY P t x y k h
theorem fc{P:Program}{t:TypeId}{x y:Operand}{k:IntKind}{a b:Int}(h:¬a≠b):aw P (do eqGuard .neq t x y (.int k a) (.int k b);binOp .neq t (.int k a) (.int k b))=some (.bool false):=XZ P t x y k h
theorem be{P:Program}{t:TypeId}{x y:Operand}{k:IntKind}{a b:Int}:aw P (do eqGuard .add t x y (.int k a) (.int k b);binOp .add t (.int k a) (.int k b))=some (.int k (k.wrap (a+b))):=YI P t x y k a b
theorem AM{P:Program}{t:TypeId}{x y:Operand}{k:IntKind}{a b:Int}:aw P (do eqGuard .sub t x y (.int k a) (.int k b);binOp .sub t (.int k a) (.int k b))=some (.int k (k.wrap (a - b))):=YJ P t x y k a b
theorem aaC{P:Program}{t:TypeId}{x y:Operand}{k:IntKind}{a b:Int}:aw P (do eqGuard .mul t x y (.int k a) (.int k b);binOp .mul t (.int k a) (.int k b))=some (.int k (k.wrap (a*b))):=YK P t x y k a b
section
variable {E : Env} {y : Nat → gg} {n nt : Nat} {ops : Array Oper} {o : Oper} {r : List Oper} {K : St → Prop} {f : Nat → D} {L : BL} {d : Nat} {Q : Ex → St → Prop}
theorem pq{v:D}(hs:PS E n nt f L o.op v)(h:eJ E y n nt ops r K (up f d v) L)(hw:dX ops o nt f=some true:=by exact rfl)(hd:o.dst=some d:=by exact rfl)(hn:Nat.blt d nt=true:=by exact rfl):eJ E y n nt ops (o::r) K f L:=Hl hw hd hn hs h
theorem sq{v:D}{i:Nat}(hs:PS E n nt f L o.op v)(h:StL E n nt ops r (i+1) K (up f d v) L)(hw:dX ops o nt f=some true:=by exact rfl)(hd:o.dst=some d:=by exact rfl)(hn:Nat.blt d nt=true:=by exact rfl):StL E n nt ops (o::r) i K f L:=aaZ hw hd hn hs h
theorem os(h:eJ E y n nt ops r K (up f d cM) L)(hw:dX ops o nt f=some false:=by exact rfl)(hd:o.dst=some d:=by exact rfl)(hn:Nat.blt d nt=true:=by exact rfl):eJ E y n nt ops (o::r) K f L:=XB hw hd hn h
theorem ss{i:Nat}(h:StL E n nt ops r (i+1) K (up f d cM) L)(hw:dX ops o nt f=some false:=by exact rfl)(hd:o.dst=some d:=by exact rfl)(hn:Nat.blt d nt=true:=by exact rfl):StL E n nt ops (o::r) i K f L:=XC hw hd hn h
theorem qm{x:Operand}(v:D)(hx:ov nt f x=some v:=by exact rfl):PS E n nt f L (.move x) v:=xi hx
theorem qa{x:Operand}(v:D)(hx:ov nt f x=some v:=by exact rfl):PS E n nt f L (.assign x) v:=BF hx
theorem qpt{c a b:Operand}{fr:Bool}(v:D)(hc:ov nt f c=some (.one (.p fr (.v (.bool true)))):=by exact rfl)(hx:ov nt f a=some v:=by exact rfl):PS E n nt f L (.pick c a b) v:=XG hc hx
theorem qpf{c a b:Operand}{fr:Bool}(v:D)(hc:ov nt f c=some (.one (.p fr (.v (.bool false)))):=by exact rfl)(hx:ov nt f b=some v:=by exact rfl):PS E n nt f L (.pick c a b) v:=XH hc hx
theorem ql{ty:TypeId}{x:Operand}{k i j sz bz:Nat}{ag:Bool}{es:List (List C)}{e cs:List C}(v:D)(p:Nat)(hz:cJ E.ti ty=some (sz,ag))(hx:ov nt f x=some (.one (.ptr k i j)):=by exact rfl)(hp:L[p]? =some [(k,bz,es)]:=by exact rfl)(he:es[i]? =some e:=by exact rfl)(hc:cut e j (cond ag sz 1)=some cs:=by exact rfl)(hv:dK ag cs=some v:=by exact rfl):PS E n nt f L (.load ty x) v:=iQ p hx hz hp he hc hv
theorem qc{c:Call}{k:FuncId}{vs:List (Bool×TD)}{vs2 rs:List TD}(v:D)(args:List D)(hk:RunsP E n k vs2 (.fresh,rs))(hv:Vw L args vs)(hc:bn (.call c)=some c:=by exact rfl)(hr:bX c (ov nt f)=some (k,args):=by exact rfl)(h2:vs.map (·.2)=vs2:=by exact rfl)(hrv:jP (rs.map (dt true))=v:=by exact rfl):PS E n nt f L (.call c) v:=Hr hk hc hr hv h2 hrv
theorem qb{op:BinOp}{ty sh:TypeId}{x y:Operand}{fa fb:Bool}{ka kb:IntKind}{a b:Int}{v:Value}(hp:aw E.P (do eqGuard op ty x y (.int ka a) (.int kb b);binOp op ty (.int ka a) (.int kb b))=some v)(hx:ov nt f x=some (.one (.p fa (.v (.int ka a)))):=by exact rfl)(hy:ov nt f y=some (.one (.p fb (.v (.int kb b)))):=by exact rfl)(h1:one1 v=true:=by exact rfl):PS E n nt f L (.binOp op ty x y sh) (mk v):=cW hx hy hp h1
theorem ow{ty:TypeId}{a x:Operand}{k i j sz bz:Nat}{ag:Bool}{es:List (List C)}{e e' cs:List C}{v:D}{L':BL}(es':List (List C))(p:Nat)(hz:cJ E.ti ty=some (sz,ag))(h:eJ E y n nt ops r K f L')(hop:o.op= .store ty a x:=by exact rfl)(ha:ov nt f a=some (.one (.ptr k i j)):=by exact rfl)(hx:ov nt f x=some v:=by exact rfl)(hd:iZ v=some cs:=by exact rfl)(hs:Nat.beq cs.length sz=true:=by exact rfl)(hp:L[p]? =some [(k,bz,es)]:=by exact rfl)(he:es[i]? =some e:=by exact rfl)(ht:patch e j cs=some e':=by exact rfl)(hes:es.set i e'=es':=by exact rfl)(hw:dX ops o nt f=some true:=by exact rfl)(hdst:o.dst=none:=by exact rfl)(hL:L.set p [(k,bz,es')]=L':=by exact rfl):eJ E y n nt ops (o::r) K f L:=KJ hw hdst (by rw [hop];exact fv p ha hx hd hz hs hp he ht hes) hL h
theorem tq{v:D}{i w b:Nat}{O:List (List Nat)}{N:List (Bool×List Nat)}{R:List (List Nat)}{A:BL}(is:List Nat)(hA:is.filterMap (fun i=>L[i]?)=A)(hm:∀x∈A.flatten,x.1 ∉(R.getD i []).flatMap (bi b O N))(hs:PS E n nt f A o.op v)(h:TnL E n nt ops r (i+1) w O N R b K (up f d v) L)(hw:dX ops o nt f=some true:=by exact rfl)(hd:o.dst=some d:=by exact rfl)(hn:Nat.blt d nt=true:=by exact rfl)(hn2:is.Nodup:=by decide)(hu:bi b O N i= []:=by exact rfl):TnL E n nt ops (o::r) i w O N R b K f L:=ab0 hw hd hn is hn2 hA hm hu hs h
theorem oW{d1 d2:D}{ds:List D}(h:Heap)(hb:HB h L):de h (d1::d2::ds)=false:=XK
theorem oG{cs:List C}(h:Heap)(hb:HB h L):de h [.agg cs]=false:=XL
theorem eF1{t:Tmp}{fr:Bool}{x:Value}{rs:List TD}(hr:ov nt f (.tmp t)=some (.one (.p fr (.v x))):=by exact rfl)(hrs: [TD.one (.v x)]=rs:=by exact rfl):dV nt (jA E [.tmp t] (.fresh,rs)) .ret f L:=aR (.inr rfl) (bW hr aC) (af (au ak) ai) (fun h hb=>YP) rfl hrs
theorem eR{KK:St→Prop}(h:dV nt Q .ret f L):dV nt (qZ KK Q) .ret f L:=h
theorem bR{id:Nat}(h:dV nt Q .ret f L):dV nt (Hm id Q) .ret f L:=h
theorem bN{id:Nat}(h:dV nt Q .normal f L):dV nt (Hm id Q) .normal f L:=h
theorem bH{id:Nat}(h:dV nt Q .normal f L):dV nt (Hm id Q) (.exit id) f L:=ab3 h
theorem cT{c:Operand}{a b:Code}{fr:Bool}(hc:ov nt f c=some (.one (.p fr (.v (.bool true)))))(h:WpL E y n nt a Q f L):WpL E y n nt (.cond c a b) Q f L:=XE hc h
theorem cF{c:Operand}{a b:Code}{fr:Bool}(hc:ov nt f c=some (.one (.p fr (.v (.bool false)))))(h:WpL E y n nt b Q f L):WpL E y n nt (.cond c a b) Q f L:=XF hc h
theorem lK(h:dV nt Q .normal f L):WpL E y n nt .skip Q f L:=ab2 h
theorem lR(h:dV nt Q .ret f L):WpL E y n nt .ret Q f L:=adP h
theorem lB{id:Nat}{c:Code}(h:WpL E y n nt c (Hm id Q) f L):WpL E y n nt (.block id c) Q f L:=XD h
theorem eS{b:Code}(h:WpL E y n nt b Q f L):dV nt (qZ (WpC E y n b Q) Q) .normal f L:=UI h
theorem oE(h:dV nt Q .normal f L):eJ E y n nt ops [] (Q .normal) f L:=Ng h
theorem lS{a b:Code}(h:WpL E y n nt a (qZ (WpC E y n b Q) Q) f L):WpL E y n nt (.seq a b) Q f L:=YM h
theorem lO{id:Nat}{l:List Oper}(h:eJ E y n nt l.toArray l (Q .normal) f L):WpL E y n nt (.region id l.toArray false) Q f L:=UH h
theorem oN{id:Nat}{l:List Oper}{b:Code}(h:eJ E y n nt l.toArray l (qZ (WpC E y n b Q) Q .normal) f L):eJ E y n nt ops [] (qZ (WpC E y n (.seq (.region id l.toArray false) b) Q) Q .normal) f L:=Ng (UI (YM (UH h)))
theorem oR{id:Nat}{l:List Oper}(h:eJ E y n nt l.toArray l (Q .normal) f L):eJ E y n nt ops [] (qZ (WpC E y n (.region id l.toArray false) Q) Q .normal) f L:=Ng (UI (UH h))
end
end Ev
end
noncomputable section
namespace Ev
namespace K
open Go Go.RowKit
set_option maxRecDepth 100000
set_option maxHeartbeats 1000000
theorem JL:GOk ww E1 0:=gok bQ gq dO trivial trivial
theorem AN:bm E1 rC:=cC JL (by kernel_rfl) aeN (by kernel_rfl) rfl
theorem wP:GOk mG E1 0:=gok bQ gq dO trivial trivial
theorem yX:bm E1 mH:=cC wP (by kernel_rfl) af1 (by kernel_rfl) rfl
theorem yY:GOk nQ E1 1:=gok bQ gq dO ⟨⟨by decide,yX⟩,trivial⟩ trivial
theorem qN:bm E1 lk:=cC yY (by kernel_rfl) aeO (by kernel_rfl) rfl
theorem GC:GOk tB E1 0:=gok bQ gq dO trivial trivial
theorem yc:bm E1 mI:=cC GC (by kernel_rfl) aeP (by kernel_rfl) rfl
theorem AO:GOk pf E1 1:=gok bQ gq dO ⟨⟨by decide,AN⟩,trivial⟩ trivial
theorem sL:bm E1 mv:=cC AO (by kernel_rfl) aeQ (by kernel_rfl) rfl
theorem GD:GOk tC E1 2:=gok bQ gq dO ⟨⟨by decide,qN⟩,⟨⟨by decide,yc⟩,⟨⟨by decide,sL⟩,trivial⟩⟩⟩ trivial
theorem JM:bm E1 zQ:=cC GD (by kernel_rfl) aeH (by kernel_rfl) rfl
theorem GE:GOk An E1 0:=gok bQ gq dO trivial trivial
theorem yd:bm E1 pg:=cC GE (by kernel_rfl) aeJ (by kernel_rfl) rfl
theorem yZ:GOk so E1 0:=gok bQ gq dO trivial trivial
theorem AP:bm E1 sr:=cC yZ (by kernel_rfl) aeW (by kernel_rfl) rfl
theorem GF:GOk Ao E1 0:=gok bQ gq dO trivial trivial
theorem ye:bm E1 ph:=cC GF (by kernel_rfl) aeX (by kernel_rfl) rfl
theorem vk:GOk pW E1 0:=gok bQ gq dO trivial trivial
theorem oC:bm E1 me:=cC vk (by kernel_rfl) af5 (by kernel_rfl) rfl
theorem za:GOk su E1 0:=gok bQ gq dO trivial trivial
theorem qO:bm E1 nR:=cC za (by kernel_rfl) af6 (by kernel_rfl) rfl
theorem Dl:GOk xO E1 0:=gok bQ gq dO trivial trivial
theorem GG:bm E1 lF:=cC Dl (by kernel_rfl) af4 (by kernel_rfl) rfl
theorem Dm:GOk xP E1 1:=gok bQ gq dO ⟨⟨by decide,GG⟩,⟨⟨by decide,oC⟩,⟨⟨by decide,qO⟩,trivial⟩⟩⟩ trivial
theorem vm:bm E1 qx:=cC Dm (by kernel_rfl) aeS (by kernel_rfl) rfl
theorem wQ:GOk qy E1 0:=gok bQ gq dO trivial trivial
theorem zb:bm E1 qz:=cC wQ (by kernel_rfl) aeY (by kernel_rfl) rfl
theorem vn:GOk pX E1 2:=gok bQ gq dO ⟨⟨by decide,yd⟩,⟨⟨by decide,vm⟩,⟨⟨by decide,AP⟩,⟨⟨by decide,ye⟩,⟨⟨by decide,zb⟩,trivial⟩⟩⟩⟩⟩ trivial
theorem wR:bm E1 pY:=cC vn (by kernel_rfl) aeL (by kernel_rfl) rfl
theorem zc:GOk sv E1 0:=gok bQ gq dO trivial ⟨⟨aeU,rfl⟩,trivial⟩
theorem AQ:bm E1 sw:=cC zc (by kernel_rfl) aeK (by kernel_rfl) rfl
theorem GH:GOk Aq E1 7:=gok bQ gq dO ⟨⟨by decide,yd⟩,⟨⟨by decide,AQ⟩,⟨⟨by decide,wR⟩,trivial⟩⟩⟩ trivial
theorem JN:bm E1 Ar:=cC GH (by kernel_rfl) aeG (by kernel_rfl) rfl
theorem zd:GOk sx E1 0:=gok bQ gq dO trivial trivial
theorem AR:bm E1 sy:=cC zd (by kernel_rfl) aeV (by kernel_rfl) rfl
theorem Do:GOk xQ E1 0:=gok bQ gq dO trivial trivial
theorem GI:bm E1 xR:=cC Do (by kernel_rfl) aeZ (by kernel_rfl) rfl
theorem AS:GOk uH E1 0:=gok bQ gq dO trivial trivial
theorem Dp:bm E1 uJ:=cC AS (by kernel_rfl) af0 (by kernel_rfl) rfl
theorem AT:GOk uK E1 1:=gok bQ gq dO ⟨⟨by decide,GI⟩,⟨⟨by decide,Dp⟩,trivial⟩⟩ trivial
theorem Dq:bm E1 pj:=cC AT (by kernel_rfl) aeM (by kernel_rfl) rfl
theorem vo:GOk pZ E1 0:=gok bQ gq dO trivial trivial
theorem wS:bm E1 qd:=cC vo (by kernel_rfl) af2 (by kernel_rfl) rfl
theorem Dr:GOk xS E1 0:=gok bQ gq dO trivial trivial
theorem GJ:bm E1 xT:=cC Dr (by kernel_rfl) af3 (by kernel_rfl) rfl
theorem Ds:GOk xU E1 0:=gok bQ gq dO trivial trivial
theorem GK:bm E1 xV:=cC Ds (by kernel_rfl) aeR (by kernel_rfl) rfl
theorem ze:GOk sA E1 0:=gok bQ gq dO trivial trivial
theorem AU:bm E1 sB:=cC ze (by kernel_rfl) af7 (by kernel_rfl) rfl
theorem AV:GOk uL E1 1:=gok bQ gq dO ⟨⟨by decide,AU⟩,trivial⟩ trivial
theorem Dt:bm E1 uM:=cC AV (by kernel_rfl) aeT (by kernel_rfl) rfl
theorem AW:GOk uN E1 8:=gok bQ gq dO ⟨⟨by decide,JN⟩,⟨⟨by decide,Dt⟩,trivial⟩⟩ trivial
theorem Du:bm E1 Gk:=cC AW (by kernel_rfl) aeI (by kernel_rfl) rfl
end K
end Ev
end
noncomputable section
namespace Ev
open Go
set_option maxRecDepth 100000
set_option maxHeartbeats 1000000
attribute [local irreducible] eJ StL TnL WpL dV
def qF(k:FuncId):List TD→Option (Kind×List TD):=fun vs=>cpR K.E1 60 k vs
theorem WC(vs:List TD)(kind:Kind)(rs:List TD)(h:qF 54 vs=some (kind,rs)):bP Try.prog 54 vs kind rs∧Enters Try.prog 54:=⟨(bK h).pure K.bQ,⟨_,_,Try.func54,by kernel_rfl,by unfold Try.f54;rfl⟩⟩
theorem WD(vs:List TD)(kind:Kind)(rs:List TD)(h:qF 52 vs=some (kind,rs)):bP Try.prog 52 vs kind rs∧Enters Try.prog 52:=⟨(bK h).pure K.bQ,⟨_,_,Try.func52,by kernel_rfl,by unfold Try.f52;rfl⟩⟩
theorem WE(vs:List TD)(kind:Kind)(rs:List TD)(h:qF 39 vs=some (kind,rs)):bP Try.prog 39 vs kind rs∧Enters Try.prog 39:=⟨(bK h).pure K.bQ,⟨_,_,Try.func39,by kernel_rfl,by unfold Try.f39;rfl⟩⟩
theorem WF(vs:List TD)(kind:Kind)(rs:List TD)(h:qF 50 vs=some (kind,rs)):bP Try.prog 50 vs kind rs∧Enters Try.prog 50:=⟨(bK h).pure K.bQ,⟨_,_,Try.func50,by kernel_rfl,by unfold Try.f50;rfl⟩⟩
theorem WG(vs:List TD)(kind:Kind)(rs:List TD)(h:qF 11 vs=some (kind,rs)):bP Try.prog 11 vs kind rs∧Enters Try.prog 11:=⟨(bK h).pure K.bQ,⟨_,_,Try.func11,by kernel_rfl,by unfold Try.f11;rfl⟩⟩
theorem aaD(vs:List TD)(kind:Kind)(rs:List TD)(h:qF 6 vs=some (kind,rs)):bP Try.prog 6 vs kind rs∧Enters Try.prog 6:=⟨(bK h).pure K.bQ,⟨_,_,Try.func6,by kernel_rfl,by unfold Try.f6;rfl⟩⟩
theorem WH(vs:List TD)(kind:Kind)(rs:List TD)(h:qF 30 vs=some (kind,rs)):bP Try.prog 30 vs kind rs∧Enters Try.prog 30:=⟨(bK h).pure K.bQ,⟨_,_,Try.func30,by kernel_rfl,by unfold Try.f30;rfl⟩⟩
theorem WI(vs:List TD)(kind:Kind)(rs:List TD)(h:qF 16 vs=some (kind,rs)):bP Try.prog 16 vs kind rs∧Enters Try.prog 16:=⟨(bK h).pure K.bQ,⟨_,_,Try.func16,by kernel_rfl,by unfold Try.f16;rfl⟩⟩
theorem WJ(vs:List TD)(kind:Kind)(rs:List TD)(h:qF 19 vs=some (kind,rs)):bP Try.prog 19 vs kind rs∧Enters Try.prog 19:=⟨(bK h).pure K.bQ,⟨_,_,Try.func19,by kernel_rfl,by unfold Try.f19;rfl⟩⟩
theorem WK(vs:List TD)(kind:Kind)(rs:List TD)(h:qF 17 vs=some (kind,rs)):bP Try.prog 17 vs kind rs∧Enters Try.prog 17:=⟨(bK h).pure K.bQ,⟨_,_,Try.func17,by kernel_rfl,by unfold Try.f17;rfl⟩⟩
theorem WL(vs:List TD)(kind:Kind)(rs:List TD)(h:qF 27 vs=some (kind,rs)):bP Try.prog 27 vs kind rs∧Enters Try.prog 27:=⟨(bK h).pure K.bQ,⟨_,_,Try.func27,by kernel_rfl,by unfold Try.f27;rfl⟩⟩
theorem WM(vs:List TD)(kind:Kind)(rs:List TD)(h:qF 68 vs=some (kind,rs)):bP Try.prog 68 vs kind rs∧Enters Try.prog 68:=⟨(bK h).pure K.bQ,⟨_,_,Try.func68,by kernel_rfl,by unfold Try.f68;rfl⟩⟩
theorem WN(vs:List TD)(kind:Kind)(rs:List TD)(h:qF 77 vs=some (kind,rs)):bP Try.prog 77 vs kind rs∧Enters Try.prog 77:=⟨(bK h).pure K.bQ,⟨_,_,Try.func77,by kernel_rfl,by unfold Try.f77;rfl⟩⟩
theorem WO(vs:List TD)(kind:Kind)(rs:List TD)(h:qF 13 vs=some (kind,rs)):bP Try.prog 13 vs kind rs∧Enters Try.prog 13:=⟨(bK h).pure K.bQ,⟨_,_,Try.func13,by kernel_rfl,by unfold Try.f13;rfl⟩⟩
theorem WP(vs:List TD)(kind:Kind)(rs:List TD)(h:qF 43 vs=some (kind,rs)):bP Try.prog 43 vs kind rs∧Enters Try.prog 43:=⟨(bK h).pure K.bQ,⟨_,_,Try.func43,by kernel_rfl,by unfold Try.f43;rfl⟩⟩
theorem WQ(vs:List TD)(kind:Kind)(rs:List TD)(h:qF 40 vs=some (kind,rs)):bP Try.prog 40 vs kind rs∧Enters Try.prog 40:=⟨(bK h).pure K.bQ,⟨_,_,Try.func40,by kernel_rfl,by unfold Try.f40;rfl⟩⟩
theorem WR(vs:List TD)(kind:Kind)(rs:List TD)(h:qF 42 vs=some (kind,rs)):bP Try.prog 42 vs kind rs∧Enters Try.prog 42:=⟨(bK h).pure K.bQ,⟨_,_,Try.func42,by kernel_rfl,by unfold Try.f42;rfl⟩⟩
theorem WS(vs:List TD)(kind:Kind)(rs:List TD)(h:qF 80 vs=some (kind,rs)):bP Try.prog 80 vs kind rs∧Enters Try.prog 80:=⟨(bK h).pure K.bQ,⟨_,_,Try.func80,by kernel_rfl,by unfold Try.f80;rfl⟩⟩
theorem WT(vs:List TD)(kind:Kind)(rs:List TD)(h:qF 96 vs=some (kind,rs)):bP Try.prog 96 vs kind rs∧Enters Try.prog 96:=⟨(bK h).pure K.bQ,⟨_,_,Try.func96,by kernel_rfl,by unfold Try.f96;rfl⟩⟩
theorem WU(vs:List TD)(kind:Kind)(rs:List TD)(h:qF 97 vs=some (kind,rs)):bP Try.prog 97 vs kind rs∧Enters Try.prog 97:=⟨(bK h).pure K.bQ,⟨_,_,Try.func97,by kernel_rfl,by unfold Try.f97;rfl⟩⟩
theorem WW(vs:List TD)(kind:Kind)(rs:List TD)(h:qF 57 vs=some (kind,rs)):bP Try.prog 57 vs kind rs∧Enters Try.prog 57:=⟨(bK h).pure K.bQ,⟨_,_,Try.func57,by kernel_rfl,by unfold Try.f57;rfl⟩⟩
theorem WX(vs:List TD)(kind:Kind)(rs:List TD)(h:qF 59 vs=some (kind,rs)):bP Try.prog 59 vs kind rs∧Enters Try.prog 59:=⟨(bK h).pure K.bQ,⟨_,_,Try.func59,by kernel_rfl,by unfold Try.f59;rfl⟩⟩
theorem WY(vs:List TD)(kind:Kind)(rs:List TD)(h:qF 90 vs=some (kind,rs)):bP Try.prog 90 vs kind rs∧Enters Try.prog 90:=⟨(bK h).pure K.bQ,⟨_,_,Try.func90,by kernel_rfl,by unfold Try.f90;rfl⟩⟩
theorem WZ(vs:List TD)(kind:Kind)(rs:List TD)(h:qF 58 vs=some (kind,rs)):bP Try.prog 58 vs kind rs∧Enters Try.prog 58:=⟨(bK h).pure K.bQ,⟨_,_,Try.func58,by kernel_rfl,by unfold Try.f58;rfl⟩⟩
theorem Xa(vs:List TD)(kind:Kind)(rs:List TD)(h:qF 60 vs=some (kind,rs)):bP Try.prog 60 vs kind rs∧Enters Try.prog 60:=⟨(bK h).pure K.bQ,⟨_,_,Try.func60,by kernel_rfl,by unfold Try.f60;rfl⟩⟩
theorem Xc(vs:List TD)(kind:Kind)(rs:List TD)(h:qF 91 vs=some (kind,rs)):bP Try.prog 91 vs kind rs∧Enters Try.prog 91:=⟨(bK h).pure K.bQ,⟨_,_,Try.func91,by kernel_rfl,by unfold Try.f91;rfl⟩⟩
theorem Xd(vs:List TD)(kind:Kind)(rs:List TD)(h:qF 92 vs=some (kind,rs)):bP Try.prog 92 vs kind rs∧Enters Try.prog 92:=⟨(bK h).pure K.bQ,⟨_,_,Try.func92,by kernel_rfl,by unfold Try.f92;rfl⟩⟩
theorem Xe(vs:List TD)(kind:Kind)(rs:List TD)(h:qF 63 vs=some (kind,rs)):bP Try.prog 63 vs kind rs∧Enters Try.prog 63:=⟨(bK h).pure K.bQ,⟨_,_,Try.func63,by kernel_rfl,by unfold Try.f63;rfl⟩⟩
end Ev
end
noncomputable section
namespace Ev
open Go
set_option maxRecDepth 100000
set_option maxHeartbeats 1000000
attribute [local irreducible] eJ StL TnL WpL dV
theorem tz1:ah Try.prog 1=some (⟨.func #[] #[] false,[.nilFunc],1,8⟩:TI):=by kernel_rfl
theorem tz2:ah Try.prog 2=some (⟨.int .i64,[.int .i64 0],1,8⟩:TI):=by kernel_rfl
theorem tz3:ah Try.prog 3=some (⟨.int .i64,[.int .i64 0],1,8⟩:TI):=by kernel_rfl
theorem tz4:ah Try.prog 4=some (⟨.bool,[.bool false],1,1⟩:TI):=by kernel_rfl
theorem tz5:ah Try.prog 5=some (⟨.int .u8,[.int .u8 0],1,1⟩:TI):=by kernel_rfl
theorem tz6:ah Try.prog 6=some (⟨.int .u8,[.int .u8 0],1,1⟩:TI):=by kernel_rfl
theorem tz7:ah Try.prog 7=some (⟨.struct (bq Try.prog 7),[.int .i64 0,.int .i64 0,.bool false,.int .u8 0],4,24⟩:TI):=by kernel_rfl
theorem tz8:ah Try.prog 8=some (⟨.struct (bq Try.prog 8),[.int .i64 0,.int .i64 0,.bool false,.int .u8 0],4,24⟩:TI):=by kernel_rfl
theorem Zd:ah Try.prog 12=some (⟨.int .u64,[.int .u64 0],1,8⟩:TI):=by kernel_rfl
theorem Ze:ah Try.prog 15=some (⟨.pointer 166,[.pointer none],1,8⟩:TI):=by kernel_rfl
theorem Zf:ah Try.prog 16=some (⟨.pointer 169,[.pointer none],1,8⟩:TI):=by kernel_rfl
theorem Zg:ah Try.prog 17=some (⟨.pointer 178,[.pointer none],1,8⟩:TI):=by kernel_rfl
theorem Zh:ah Try.prog 18=some (⟨.struct (bq Try.prog 18),[.pointer none],1,8⟩:TI):=by kernel_rfl
theorem Zi:ah Try.prog 19=some (⟨.struct (bq Try.prog 19),[.pointer none],1,8⟩:TI):=by kernel_rfl
theorem Zj:ah Try.prog 21=some (⟨.int .i32,[.int .i32 0],1,4⟩:TI):=by kernel_rfl
theorem VV:ah Try.prog 22=some (⟨.int .i64,[.int .i64 0],1,8⟩:TI):=by kernel_rfl
theorem VW:ah Try.prog 23=some (⟨.slice 3,[.slice none 0 0],1,24⟩:TI):=by kernel_rfl
theorem VX:ah Try.prog 24=some (⟨.slice 2,[.slice none 0 0],1,24⟩:TI):=by kernel_rfl
theorem Zk:ah Try.prog 25=some (⟨.struct (bq Try.prog 25),[.int .i64 0,.int .i64 0,.slice none 0 0,.slice none 0 0,.slice none 0 0,.slice none 0 0],6,112⟩:TI):=by kernel_rfl
theorem VY:ah Try.prog 26=some (⟨.struct (bq Try.prog 26),[.int .i64 0,.int .i64 0,.slice none 0 0,.slice none 0 0,.slice none 0 0,.slice none 0 0],6,112⟩:TI):=by kernel_rfl
theorem af8:jw (ah Try.prog) (⟨.struct (bq Try.prog 26),[.int .i64 0,.int .i64 0,.slice none 0 0,.slice none 0 0,.slice none 0 0,.slice none 0 0],6,112⟩:TI)=some fun i=>([(0,1),(1,1),(2,1),(3,1),(4,1),(5,1)]:List (Nat×Nat))[i]? :=by kernel_rfl
theorem VZ:ah Try.prog 27=some (⟨.slice 62,[.slice none 0 0],1,24⟩:TI):=by kernel_rfl
theorem Zl:ah Try.prog 28=some (⟨.struct (bq Try.prog 28),[.int .i64 0,.slice none 0 0],2,32⟩:TI):=by kernel_rfl
theorem Wa:ah Try.prog 29=some (⟨.struct (bq Try.prog 29),[.int .i64 0,.slice none 0 0],2,32⟩:TI):=by kernel_rfl
theorem Xf:jw (ah Try.prog) (⟨.struct (bq Try.prog 29),[.int .i64 0,.slice none 0 0],2,32⟩:TI)=some fun i=>([(0,1),(1,1)]:List (Nat×Nat))[i]? :=by kernel_rfl
theorem Zm:ah Try.prog 30=some (⟨.func #[] #[4] false,[.nilFunc],1,8⟩:TI):=by kernel_rfl
theorem Zn:ah Try.prog 31=some (⟨.func #[29] #[29] false,[.nilFunc],1,8⟩:TI):=by kernel_rfl
theorem Wb:ah Try.prog 32=some (⟨.slice 69,[.slice none 0 0],1,24⟩:TI):=by kernel_rfl
theorem Zo:ah Try.prog 33=some (⟨.int .i64,[.int .i64 0],1,8⟩:TI):=by kernel_rfl
theorem Zp:ah Try.prog 35=some (⟨.func #[22,26,29,44,4] #[32,33] false,[.nilFunc],1,8⟩:TI):=by kernel_rfl
theorem Zq:ah Try.prog 36=some (⟨.func #[32,32] #[4] false,[.nilFunc],1,8⟩:TI):=by kernel_rfl
theorem Zr:ah Try.prog 37=some (⟨.func #[22,26,29] #[4] false,[.nilFunc],1,8⟩:TI):=by kernel_rfl
theorem Zs:ah Try.prog 38=some (⟨.slice 32,[.slice none 0 0],1,24⟩:TI):=by kernel_rfl
theorem Zt:ah Try.prog 39=some (⟨.func #[22,38] #[32,33] true,[.nilFunc],1,8⟩:TI):=by kernel_rfl
theorem Zu:ah Try.prog 40=some (⟨.func #[22,38] #[32,33] false,[.nilFunc],1,8⟩:TI):=by kernel_rfl
theorem Zv:ah Try.prog 41=some (⟨.func #[22,38] #[4] false,[.nilFunc],1,8⟩:TI):=by kernel_rfl
theorem Zw:ah Try.prog 42=some (⟨.array 2 5,[.int .u8 0,.int .u8 0],2,2⟩:TI):=by kernel_rfl
theorem Zx:ah Try.prog 43=some (⟨.slice 60,[.slice none 0 0],1,24⟩:TI):=by kernel_rfl
theorem Wc:ah Try.prog 44=some (⟨.slice 65,[.slice none 0 0],1,24⟩:TI):=by kernel_rfl
theorem Zy:ah Try.prog 45=some (⟨.struct (bq Try.prog 45),[.int .i64 0,.int .u8 0,.int .u8 0,.slice none 0 0,.slice none 0 0,.slice none 0 0,.slice none 0 0,.bool false],8,120⟩:TI):=by kernel_rfl
theorem Zz:ah Try.prog 46=some (⟨.struct (bq Try.prog 46),[.int .i64 0,.int .u8 0,.int .u8 0,.slice none 0 0,.slice none 0 0,.slice none 0 0,.slice none 0 0,.bool false],8,120⟩:TI):=by kernel_rfl
theorem ZA:ah Try.prog 47=some (⟨.func #[22] #[22] false,[.nilFunc],1,8⟩:TI):=by kernel_rfl
theorem ZB:ah Try.prog 48=some (⟨.struct (bq Try.prog 48),[.int .i64 0,.int .i64 0,.slice none 0 0,.slice none 0 0,.slice none 0 0],5,88⟩:TI):=by kernel_rfl
theorem We:ah Try.prog 49=some (⟨.struct (bq Try.prog 49),[.int .i64 0,.int .i64 0,.slice none 0 0,.slice none 0 0,.slice none 0 0],5,88⟩:TI):=by kernel_rfl
theorem af9:jw (ah Try.prog) (⟨.struct (bq Try.prog 49),[.int .i64 0,.int .i64 0,.slice none 0 0,.slice none 0 0,.slice none 0 0],5,88⟩:TI)=some fun i=>([(0,1),(1,1),(2,1),(3,1),(4,1)]:List (Nat×Nat))[i]? :=by kernel_rfl
theorem ZC:ah Try.prog 50=some (⟨.func #[] #[49] false,[.nilFunc],1,8⟩:TI):=by kernel_rfl
theorem ZD:ah Try.prog 51=some (⟨.func #[27] #[29] false,[.nilFunc],1,8⟩:TI):=by kernel_rfl
theorem ZE:ah Try.prog 52=some (⟨.func #[49] #[26] false,[.nilFunc],1,8⟩:TI):=by kernel_rfl
theorem ZF:ah Try.prog 53=some (⟨.func #[49,54,54] #[49] false,[.nilFunc],1,8⟩:TI):=by kernel_rfl
theorem ZG:ah Try.prog 54=some (⟨.array 2 3,[.int .i64 0,.int .i64 0],2,16⟩:TI):=by kernel_rfl
theorem ZH:ah Try.prog 55=some (⟨.func #[29,3,3] #[29] false,[.nilFunc],1,8⟩:TI):=by kernel_rfl
theorem ZI:ah Try.prog 56=some (⟨.func #[46,5] #[4] false,[.nilFunc],1,8⟩:TI):=by kernel_rfl
theorem ZJ:ah Try.prog 58=some (⟨.func #[22,3,3,43] #[49,33] false,[.nilFunc],1,8⟩:TI):=by kernel_rfl
theorem ZK:ah Try.prog 59=some (⟨.struct (bq Try.prog 59),[.int .i64 0,.int .i64 0,.int .i64 0],3,24⟩:TI):=by kernel_rfl
theorem ZL:ah Try.prog 60=some (⟨.struct (bq Try.prog 60),[.int .i64 0,.int .i64 0,.int .i64 0],3,24⟩:TI):=by kernel_rfl
theorem ZM:ah Try.prog 61=some (⟨.struct (bq Try.prog 61),[.int .i64 0,.int .i64 0],2,16⟩:TI):=by kernel_rfl
theorem Wf:ah Try.prog 62=some (⟨.struct (bq Try.prog 62),[.int .i64 0,.int .i64 0],2,16⟩:TI):=by kernel_rfl
theorem afa:jw (ah Try.prog) (⟨.struct (bq Try.prog 62),[.int .i64 0,.int .i64 0],2,16⟩:TI)=some fun i=>([(0,1),(1,1)]:List (Nat×Nat))[i]? :=by kernel_rfl
theorem ZN:ah Try.prog 64=some (⟨.func #[22,26,29,44,4] #[29,33] false,[.nilFunc],1,8⟩:TI):=by kernel_rfl
theorem Wg:ah Try.prog 65=some (⟨.int .u64,[.int .u64 0],1,8⟩:TI):=by kernel_rfl
theorem ZO:ah Try.prog 66=some (⟨.struct (bq Try.prog 66),[.int .i64 0,.int .u64 0],2,16⟩:TI):=by kernel_rfl
theorem Wh:ah Try.prog 67=some (⟨.struct (bq Try.prog 67),[.int .i64 0,.int .u64 0],2,16⟩:TI):=by kernel_rfl
theorem AX:jw (ah Try.prog) (⟨.struct (bq Try.prog 67),[.int .i64 0,.int .u64 0],2,16⟩:TI)=some fun i=>([(0,1),(1,1)]:List (Nat×Nat))[i]? :=by kernel_rfl
theorem ZP:ah Try.prog 68=some (⟨.struct (bq Try.prog 68),[.int .i64 0,.int .i64 0,.int .u64 0],3,24⟩:TI):=by kernel_rfl
theorem Wi:ah Try.prog 69=some (⟨.struct (bq Try.prog 69),[.int .i64 0,.int .i64 0,.int .u64 0],3,24⟩:TI):=by kernel_rfl
theorem PU:jw (ah Try.prog) (⟨.struct (bq Try.prog 69),[.int .i64 0,.int .i64 0,.int .u64 0],3,24⟩:TI)=some fun i=>([(0,1),(1,2)]:List (Nat×Nat))[i]? :=by kernel_rfl
theorem ZQ:ah Try.prog 70=some (⟨.func #[26,29] #[3] false,[.nilFunc],1,8⟩:TI):=by kernel_rfl
theorem ZR:ah Try.prog 71=some (⟨.func #[22] #[4] false,[.nilFunc],1,8⟩:TI):=by kernel_rfl
theorem ZS:ah Try.prog 72=some (⟨.func #[26] #[26] false,[.nilFunc],1,8⟩:TI):=by kernel_rfl
theorem ZT:ah Try.prog 73=some (⟨.func #[29] #[4] false,[.nilFunc],1,8⟩:TI):=by kernel_rfl
theorem Wj:ah Try.prog 74=some (⟨.slice 80,[.slice none 0 0],1,24⟩:TI):=by kernel_rfl
theorem ZU:ah Try.prog 75=some (⟨.func #[120] #[] false,[.nilFunc],1,8⟩:TI):=by kernel_rfl
theorem ZV:ah Try.prog 76=some (⟨.func #[120] #[] false,[.nilFunc],1,8⟩:TI):=by kernel_rfl
theorem ZW:ah Try.prog 77=some (⟨.func #[26,29] #[76] false,[.nilFunc],1,8⟩:TI):=by kernel_rfl
theorem ZX:ah Try.prog 78=some (⟨.pointer 80,[.pointer none],1,8⟩:TI):=by kernel_rfl
theorem ZY:ah Try.prog 79=some (⟨.struct (bq Try.prog 79),[.int .i64 0,.int .u64 0,.bool false],3,24⟩:TI):=by kernel_rfl
theorem Wk:ah Try.prog 80=some (⟨.struct (bq Try.prog 80),[.int .i64 0,.int .u64 0,.bool false],3,24⟩:TI):=by kernel_rfl
theorem adB:jw (ah Try.prog) (⟨.struct (bq Try.prog 80),[.int .i64 0,.int .u64 0,.bool false],3,24⟩:TI)=some fun i=>([(0,2),(2,1)]:List (Nat×Nat))[i]? :=by kernel_rfl
theorem ZZ:ah Try.prog 81=some (⟨.func #[22,2,2] #[67] false,[.nilFunc],1,8⟩:TI):=by kernel_rfl
theorem aa0:ah Try.prog 82=some (⟨.func #[22,67,67] #[67] false,[.nilFunc],1,8⟩:TI):=by kernel_rfl
theorem aa1:ah Try.prog 83=some (⟨.func #[44,3] #[4] false,[.nilFunc],1,8⟩:TI):=by kernel_rfl
theorem aa2:ah Try.prog 84=some (⟨.func #[22,49,87,44,4] #[32,33] false,[.nilFunc],1,8⟩:TI):=by kernel_rfl
theorem aa3:ah Try.prog 85=some (⟨.func #[26] #[49] false,[.nilFunc],1,8⟩:TI):=by kernel_rfl
theorem aa4:ah Try.prog 86=some (⟨.struct (bq Try.prog 86),[.int .i64 0,.slice none 0 0,.slice none 0 0],3,56⟩:TI):=by kernel_rfl
theorem Wl:ah Try.prog 87=some (⟨.struct (bq Try.prog 87),[.int .i64 0,.slice none 0 0,.slice none 0 0],3,56⟩:TI):=by kernel_rfl
theorem aaE:jw (ah Try.prog) (⟨.struct (bq Try.prog 87),[.int .i64 0,.slice none 0 0,.slice none 0 0],3,56⟩:TI)=some fun i=>([(0,1),(1,1),(2,1)]:List (Nat×Nat))[i]? :=by kernel_rfl
theorem aa5:ah Try.prog 88=some (⟨.func #[29] #[87] false,[.nilFunc],1,8⟩:TI):=by kernel_rfl
theorem aa6:ah Try.prog 89=some (⟨.pointer 93,[.pointer none],1,8⟩:TI):=by kernel_rfl
theorem aa7:ah Try.prog 90=some (⟨.slice 97,[.slice none 0 0],1,24⟩:TI):=by kernel_rfl
theorem aa8:ah Try.prog 91=some (⟨.slice 97,[.slice none 0 0],1,24⟩:TI):=by kernel_rfl
theorem aa9:ah Try.prog 92=some (⟨.struct (bq Try.prog 92),[.slice none 0 0],1,24⟩:TI):=by kernel_rfl
theorem aaa:ah Try.prog 93=some (⟨.struct (bq Try.prog 93),[.slice none 0 0],1,24⟩:TI):=by kernel_rfl
theorem aab:ah Try.prog 94=some (⟨.func #[32] #[4] false,[.nilFunc],1,8⟩:TI):=by kernel_rfl
theorem aac:ah Try.prog 95=some (⟨.func #[132,20] #[] false,[.nilFunc],1,8⟩:TI):=by kernel_rfl
theorem aad:ah Try.prog 96=some (⟨.struct (bq Try.prog 96),[.int .i64 0,.slice none 0 0],2,32⟩:TI):=by kernel_rfl
theorem aae:ah Try.prog 97=some (⟨.struct (bq Try.prog 97),[.int .i64 0,.slice none 0 0],2,32⟩:TI):=by kernel_rfl
theorem aaf:ah Try.prog 98=some (⟨.func #[] #[3] false,[.nilFunc],1,8⟩:TI):=by kernel_rfl
theorem aag:ah Try.prog 99=some (⟨.func #[132] #[20] false,[.nilFunc],1,8⟩:TI):=by kernel_rfl
theorem QY:ah Try.prog 100=some (⟨.func #[22,32,69] #[32] false,[.nilFunc],1,8⟩:TI):=by kernel_rfl
theorem QZ:ah Try.prog 101=some (⟨.func #[22,32,32] #[32] false,[.nilFunc],1,8⟩:TI):=by kernel_rfl
theorem Ra:ah Try.prog 102=some (⟨.func #[42,43] #[49] false,[.nilFunc],1,8⟩:TI):=by kernel_rfl
theorem Rb:ah Try.prog 103=some (⟨.func #[22,2] #[2] false,[.nilFunc],1,8⟩:TI):=by kernel_rfl
theorem Rc:ah Try.prog 104=some (⟨.func #[5,27] #[29] false,[.nilFunc],1,8⟩:TI):=by kernel_rfl
theorem Rd:ah Try.prog 105=some (⟨.func #[5] #[3] false,[.nilFunc],1,8⟩:TI):=by kernel_rfl
theorem Re:ah Try.prog 106=some (⟨.func #[49] #[49] false,[.nilFunc],1,8⟩:TI):=by kernel_rfl
theorem Rf:ah Try.prog 107=some (⟨.func #[49,3] #[27] false,[.nilFunc],1,8⟩:TI):=by kernel_rfl
theorem Rh:ah Try.prog 108=some (⟨.func #[49] #[43] false,[.nilFunc],1,8⟩:TI):=by kernel_rfl
theorem Ri:ah Try.prog 109=some (⟨.func #[3,3,43] #[49] false,[.nilFunc],1,8⟩:TI):=by kernel_rfl
theorem Rj:ah Try.prog 110=some (⟨.slice 112,[.slice none 0 0],1,24⟩:TI):=by kernel_rfl
theorem Rk:ah Try.prog 111=some (⟨.struct (bq Try.prog 111),[.int .i64 0,.int .i64 0,.int .i64 0],3,24⟩:TI):=by kernel_rfl
theorem Rm:ah Try.prog 112=some (⟨.struct (bq Try.prog 112),[.int .i64 0,.int .i64 0,.int .i64 0],3,24⟩:TI):=by kernel_rfl
theorem Rn:ah Try.prog 114=some (⟨.func #[22,110] #[110,33] false,[.nilFunc],1,8⟩:TI):=by kernel_rfl
theorem Ro:ah Try.prog 115=some (⟨.func #[22,3,32] #[29,33] false,[.nilFunc],1,8⟩:TI):=by kernel_rfl
theorem Rp:ah Try.prog 116=some (⟨.func #[26,23] #[3] false,[.nilFunc],1,8⟩:TI):=by kernel_rfl
theorem Rq:ah Try.prog 117=some (⟨.func #[29] #[23] false,[.nilFunc],1,8⟩:TI):=by kernel_rfl
theorem Rr:ah Try.prog 118=some (⟨.func #[26] #[4] false,[.nilFunc],1,8⟩:TI):=by kernel_rfl
theorem Rs:ah Try.prog 119=some (⟨.func #[3] #[4] false,[.nilFunc],1,8⟩:TI):=by kernel_rfl
theorem Rt:ah Try.prog 120=some (⟨.func #[3,2] #[4] false,[.nilFunc],1,8⟩:TI):=by kernel_rfl
theorem Ru:ah Try.prog 121=some (⟨.func #[2] #[67] false,[.nilFunc],1,8⟩:TI):=by kernel_rfl
theorem Rv:ah Try.prog 122=some (⟨.func #[67,67] #[67] false,[.nilFunc],1,8⟩:TI):=by kernel_rfl
theorem Rw:ah Try.prog 123=some (⟨.func #[4] #[67] false,[.nilFunc],1,8⟩:TI):=by kernel_rfl
theorem Rx:ah Try.prog 124=some (⟨.func #[2,2] #[67] false,[.nilFunc],1,8⟩:TI):=by kernel_rfl
theorem Ry:ah Try.prog 125=some (⟨.func #[3] #[65] false,[.nilFunc],1,8⟩:TI):=by kernel_rfl
theorem Rz:ah Try.prog 126=some (⟨.func #[87] #[29] false,[.nilFunc],1,8⟩:TI):=by kernel_rfl
theorem RA:ah Try.prog 128=some (⟨.func #[29,3] #[2,4] false,[.nilFunc],1,8⟩:TI):=by kernel_rfl
theorem RE:ah Try.prog 129=some (⟨.func #[3] #[87] false,[.nilFunc],1,8⟩:TI):=by kernel_rfl
theorem RF:ah Try.prog 130=some (⟨.func #[3,23] #[44] false,[.nilFunc],1,8⟩:TI):=by kernel_rfl
theorem RH:ah Try.prog 133=some (⟨.func #[20] #[] false,[.nilFunc],1,8⟩:TI):=by kernel_rfl
theorem RI:ah Try.prog 134=some (⟨.func #[132,3] #[] false,[.nilFunc],1,8⟩:TI):=by kernel_rfl
theorem RJ:ah Try.prog 135=some (⟨.func #[3,3] #[] false,[.nilFunc],1,8⟩:TI):=by kernel_rfl
theorem RK:ah Try.prog 136=some (⟨.func #[132,3,3] #[4] false,[.nilFunc],1,8⟩:TI):=by kernel_rfl
theorem RL:ah Try.prog 137=some (⟨.func #[] #[20] false,[.nilFunc],1,8⟩:TI):=by kernel_rfl
theorem RM:ah Try.prog 138=some (⟨.func #[43] #[43] false,[.nilFunc],1,8⟩:TI):=by kernel_rfl
theorem RN:ah Try.prog 139=some (⟨.func #[3,3] #[49] false,[.nilFunc],1,8⟩:TI):=by kernel_rfl
theorem RO:ah Try.prog 140=some (⟨.func #[22,3,27] #[29,33] false,[.nilFunc],1,8⟩:TI):=by kernel_rfl
theorem RP:ah Try.prog 141=some (⟨.func #[49] #[4] false,[.nilFunc],1,8⟩:TI):=by kernel_rfl
theorem RQ:ah Try.prog 142=some (⟨.slice 67,[.slice none 0 0],1,24⟩:TI):=by kernel_rfl
theorem RT:ah Try.prog 143=some (⟨.func #[112,112] #[4] false,[.nilFunc],1,8⟩:TI):=by kernel_rfl
theorem RU:ah Try.prog 144=some (⟨.func #[67] #[2,4] false,[.nilFunc],1,8⟩:TI):=by kernel_rfl
theorem RV:ah Try.prog 145=some (⟨.func #[22,3,32] #[33] false,[.nilFunc],1,8⟩:TI):=by kernel_rfl
theorem RW:ah Try.prog 146=some (⟨.func #[22,67] #[2,4] false,[.nilFunc],1,8⟩:TI):=by kernel_rfl
theorem RX:ah Try.prog 147=some (⟨.func #[22] #[2] false,[.nilFunc],1,8⟩:TI):=by kernel_rfl
theorem RY:ah Try.prog 149=some (⟨.func #[26,3] #[3,3] false,[.nilFunc],1,8⟩:TI):=by kernel_rfl
theorem RZ:ah Try.prog 150=some (⟨.func #[23,3] #[4] false,[.nilFunc],1,8⟩:TI):=by kernel_rfl
theorem Sa:ah Try.prog 151=some (⟨.int .u64,[.int .u64 0],1,8⟩:TI):=by kernel_rfl
theorem Sb:ah Try.prog 152=some (⟨.func #[67,67] #[3] false,[.nilFunc],1,8⟩:TI):=by kernel_rfl
theorem NV:ah Try.prog 153=some (⟨.array 4 65,[.int .u64 0,.int .u64 0,.int .u64 0,.int .u64 0],4,32⟩:TI):=by kernel_rfl
theorem Sd:ah Try.prog 154=some (⟨.func #[65,65] #[153] false,[.nilFunc],1,8⟩:TI):=by kernel_rfl
theorem Se:ah Try.prog 155=some (⟨.func #[67,3] #[67] false,[.nilFunc],1,8⟩:TI):=by kernel_rfl
theorem Sf:ah Try.prog 156=some (⟨.func #[87] #[4] false,[.nilFunc],1,8⟩:TI):=by kernel_rfl
theorem Sg:ah Try.prog 157=some (⟨.func #[44] #[23] false,[.nilFunc],1,8⟩:TI):=by kernel_rfl
theorem Si:ah Try.prog 158=some (⟨.func #[3] #[44] false,[.nilFunc],1,8⟩:TI):=by kernel_rfl
theorem Sj:ah Try.prog 159=some (⟨.func #[44,3] #[44] false,[.nilFunc],1,8⟩:TI):=by kernel_rfl
theorem Sk:ah Try.prog 160=some (⟨.func #[3,3] #[4] false,[.nilFunc],1,8⟩:TI):=by kernel_rfl
theorem Sn:ah Try.prog 161=some (⟨.func #[67] #[67] false,[.nilFunc],1,8⟩:TI):=by kernel_rfl
theorem So:ah Try.prog 162=some (⟨.func #[3] #[3] false,[.nilFunc],1,8⟩:TI):=by kernel_rfl
theorem Sp:ah Try.prog 163=some (⟨.func #[44,3,4] #[44] false,[.nilFunc],1,8⟩:TI):=by kernel_rfl
theorem Sq:ah Try.prog 164=some (⟨.func #[] #[9] false,[.nilFunc],1,8⟩:TI):=by kernel_rfl
theorem Sr:ah Try.prog 167=some (⟨.array 0 16,[],0,0⟩:TI):=by kernel_rfl
theorem Ss:ah Try.prog 168=some (⟨.struct (bq Try.prog 168),[],0,0⟩:TI):=by kernel_rfl
theorem Su:ah Try.prog 169=some (⟨.struct (bq Try.prog 169),[],0,0⟩:TI):=by kernel_rfl
theorem Sv:ah Try.prog 170=some (⟨.int .u32,[.int .u32 0],1,4⟩:TI):=by kernel_rfl
theorem Sw:ah Try.prog 171=some (⟨.int .u8,[.int .u8 0],1,1⟩:TI):=by kernel_rfl
theorem Sx:ah Try.prog 172=some (⟨.int .u8,[.int .u8 0],1,1⟩:TI):=by kernel_rfl
theorem Sy:ah Try.prog 173=some (⟨.func #[179,179] #[4] false,[.nilFunc],1,8⟩:TI):=by kernel_rfl
theorem Sz:ah Try.prog 174=some (⟨.pointer 5,[.pointer none],1,8⟩:TI):=by kernel_rfl
theorem SA:ah Try.prog 175=some (⟨.int .i32,[.int .i32 0],1,4⟩:TI):=by kernel_rfl
theorem SC:ah Try.prog 176=some (⟨.int .i32,[.int .i32 0],1,4⟩:TI):=by kernel_rfl
theorem SD:ah Try.prog 177=some (⟨.struct (bq Try.prog 177),[.int .u64 0,.int .u64 0,.int .u32 0,.int .u8 0,.int .u8 0,.int .u8 0,.int .u8 0,.nilFunc,.pointer none,.int .i32 0,.int .i32 0],11,48⟩:TI):=by kernel_rfl
theorem SE:ah Try.prog 178=some (⟨.struct (bq Try.prog 178),[.int .u64 0,.int .u64 0,.int .u32 0,.int .u8 0,.int .u8 0,.int .u8 0,.int .u8 0,.nilFunc,.pointer none,.int .i32 0,.int .i32 0],11,48⟩:TI):=by kernel_rfl
theorem sz1:cJ (ah Try.prog) 1=some (1,false):=by kernel_rfl
theorem sz2:cJ (ah Try.prog) 2=some (1,false):=by kernel_rfl
theorem sz3:cJ (ah Try.prog) 3=some (1,false):=by kernel_rfl
theorem sz4:cJ (ah Try.prog) 4=some (1,false):=by kernel_rfl
theorem aaF:cJ (ah Try.prog) 22=some (1,false):=by kernel_rfl
theorem se:cJ (ah Try.prog) 23=some (1,false):=by kernel_rfl
theorem el23:dU (ah Try.prog) 23=some 1:=by kernel_rfl
theorem GL:cJ (ah Try.prog) 24=some (1,false):=by kernel_rfl
theorem el24:dU (ah Try.prog) 24=some 1:=by kernel_rfl
theorem wU:cJ (ah Try.prog) 26=some (6,true):=by kernel_rfl
theorem Tw:fieldAt (ah Try.prog) 26 0=some (0,1,false):=by kernel_rfl
theorem Tx:fieldAt (ah Try.prog) 26 1=some (1,1,false):=by kernel_rfl
theorem AY:fieldAt (ah Try.prog) 26 2=some (2,1,false):=by kernel_rfl
theorem Ml:fieldAt (ah Try.prog) 26 3=some (3,1,false):=by kernel_rfl
theorem Tz:fieldAt (ah Try.prog) 26 4=some (4,1,false):=by kernel_rfl
theorem aaG:fieldAt (ah Try.prog) 26 5=some (5,1,false):=by kernel_rfl
theorem kG:cJ (ah Try.prog) 27=some (1,false):=by kernel_rfl
theorem el27:dU (ah Try.prog) 27=some 2:=by kernel_rfl
theorem iJ:cJ (ah Try.prog) 29=some (2,true):=by kernel_rfl
theorem mg:fieldAt (ah Try.prog) 29 0=some (0,1,false):=by kernel_rfl
theorem dI:fieldAt (ah Try.prog) 29 1=some (1,1,false):=by kernel_rfl
theorem el32:dU (ah Try.prog) 32=some 3:=by kernel_rfl
theorem PX:cJ (ah Try.prog) 44=some (1,false):=by kernel_rfl
theorem el44:dU (ah Try.prog) 44=some 1:=by kernel_rfl
theorem Dv:cJ (ah Try.prog) 49=some (5,true):=by kernel_rfl
theorem aaH:fieldAt (ah Try.prog) 49 0=some (0,1,false):=by kernel_rfl
theorem aaI:fieldAt (ah Try.prog) 49 1=some (1,1,false):=by kernel_rfl
theorem GM:fieldAt (ah Try.prog) 49 2=some (2,1,false):=by kernel_rfl
theorem TA:fieldAt (ah Try.prog) 49 3=some (3,1,false):=by kernel_rfl
theorem TB:fieldAt (ah Try.prog) 49 4=some (4,1,false):=by kernel_rfl
theorem Xg:cJ (ah Try.prog) 62=some (2,true):=by kernel_rfl
theorem ja:fieldAt (ah Try.prog) 62 0=some (0,1,false):=by kernel_rfl
theorem AZ:fieldAt (ah Try.prog) 62 1=some (1,1,false):=by kernel_rfl
theorem vp:cJ (ah Try.prog) 65=some (1,false):=by kernel_rfl
theorem aI:cJ (ah Try.prog) 67=some (2,true):=by kernel_rfl
theorem px:fieldAt (ah Try.prog) 67 0=some (0,1,false):=by kernel_rfl
theorem GN:fieldAt (ah Try.prog) 67 1=some (1,1,false):=by kernel_rfl
theorem adC:cJ (ah Try.prog) 69=some (3,true):=by kernel_rfl
theorem TC:cJ (ah Try.prog) 74=some (1,false):=by kernel_rfl
theorem aaJ:dU (ah Try.prog) 74=some 3:=by kernel_rfl
theorem PY:cJ (ah Try.prog) 80=some (3,true):=by kernel_rfl
theorem Bc:fieldAt (ah Try.prog) 80 0=some (0,2,true):=by kernel_rfl
theorem Mm:fieldAt (ah Try.prog) 80 1=some (2,1,false):=by kernel_rfl
theorem oD:cJ (ah Try.prog) 87=some (3,true):=by kernel_rfl
theorem wV:fieldAt (ah Try.prog) 87 0=some (0,1,false):=by kernel_rfl
theorem wW:fieldAt (ah Try.prog) 87 1=some (1,1,false):=by kernel_rfl
theorem wX:fieldAt (ah Try.prog) 87 2=some (2,1,false):=by kernel_rfl
theorem adD:cJ (ah Try.prog) 153=some (4,true):=by kernel_rfl
theorem tz:Try.prog.follows .mixedOrders=true:=by kernel_rfl
theorem tA:He Try.prog=true:=by kernel_rfl
def IQ:Ax:=(cE (cE (cE (cE (cE (cE (cE (cE (cE (cE (cE (cE (cE (cE (cE (cE (cE (cE (cE (cE (cE (cE (cE (cE (cE (cE (cE (cE (fun _=>none) 54 (qF 54)) 52 (qF 52)) 39 (qF 39)) 50 (qF 50)) 11 (qF 11)) 6 (qF 6)) 30 (qF 30)) 16 (qF 16)) 19 (qF 19)) 17 (qF 17)) 27 (qF 27)) 68 (qF 68)) 77 (qF 77)) 13 (qF 13)) 43 (qF 43)) 40 (qF 40)) 42 (qF 42)) 80 (qF 80)) 96 (qF 96)) 97 (qF 97)) 57 (qF 57)) 59 (qF 59)) 90 (qF 90)) 58 (qF 58)) 60 (qF 60)) 91 (qF 91)) 92 (qF 92)) 63 (qF 63))
theorem Am:By Try.prog IQ:=(aP (aP (aP (aP (aP (aP (aP (aP (aP (aP (aP (aP (aP (aP (aP (aP (aP (aP (aP (aP (aP (aP (aP (aP (aP (aP (aP (aP (xf _) WC) WD) WE) WF) WG) aaD) WH) WI) WJ) WK) WL) WM) WN) WO) WP) WQ) WR) WS) WT) WU) WW) WX) WY) WZ) Xa) Xc) Xd) Xe)
def pd:List TD→Option (Kind×List TD):=fun _=>none
def xN:Ax:=(cE (cE (cE IQ 25 pd) 70 pd) 75 pd)
theorem og:By Try.prog xN:=(aP (aP (aP Am fun vs kind rs h=>by simp [pd]at h) fun vs kind rs h=>by simp [pd]at h) fun vs kind rs h=>by simp [pd]at h)
def E0:Env:=vH Try.prog xN
theorem YB:E0.Ok:=oM tz tA og
def E1:Env:=vH Try.prog xN
theorem bQ:E1.Ok:=oM tz tA og
theorem dv:E1.fn=bU Try.prog:=Uq _ _
theorem adE:E1.ax 25=some fun _=>none:=rfl
theorem afb:E1.ax 70=some fun _=>none:=rfl
theorem afc:E1.ax 75=some fun _=>none:=rfl
theorem ty1:E1.ti 1=some (⟨.func #[] #[] false,[.nilFunc],1,8⟩:TI):=tz1
theorem ty2:E1.ti 2=some (⟨.int .i64,[.int .i64 0],1,8⟩:TI):=tz2
theorem ty3:E1.ti 3=some (⟨.int .i64,[.int .i64 0],1,8⟩:TI):=tz3
theorem afd:E1.ti 22=some (⟨.int .i64,[.int .i64 0],1,8⟩:TI):=VV
theorem py:E1.ti 23=some (⟨.slice 3,[.slice none 0 0],1,24⟩:TI):=VW
theorem Xh:E1.ti 24=some (⟨.slice 2,[.slice none 0 0],1,24⟩:TI):=VX
theorem JO:E1.ti 26=some (⟨.struct (bq Try.prog 26),[.int .i64 0,.int .i64 0,.slice none 0 0,.slice none 0 0,.slice none 0 0,.slice none 0 0],6,112⟩:TI):=VY
theorem zf:E1.ti 27=some (⟨.slice 62,[.slice none 0 0],1,24⟩:TI):=VZ
theorem oF:E1.ti 29=some (⟨.struct (bq Try.prog 29),[.int .i64 0,.slice none 0 0],2,32⟩:TI):=Wa
theorem tK:E1.ti 32=some (⟨.slice 69,[.slice none 0 0],1,24⟩:TI):=Wb
theorem Mn:E1.ti 44=some (⟨.slice 65,[.slice none 0 0],1,24⟩:TI):=Wc
theorem TE:E1.ti 49=some (⟨.struct (bq Try.prog 49),[.int .i64 0,.int .i64 0,.slice none 0 0,.slice none 0 0,.slice none 0 0],5,88⟩:TI):=We
theorem TF:E1.ti 62=some (⟨.struct (bq Try.prog 62),[.int .i64 0,.int .i64 0],2,16⟩:TI):=Wf
theorem TG:E1.ti 65=some (⟨.int .u64,[.int .u64 0],1,8⟩:TI):=Wg
theorem jk:E1.ti 67=some (⟨.struct (bq Try.prog 67),[.int .i64 0,.int .u64 0],2,16⟩:TI):=Wh
theorem zg:E1.ti 69=some (⟨.struct (bq Try.prog 69),[.int .i64 0,.int .i64 0,.int .u64 0],3,24⟩:TI):=Wi
theorem PZ:E1.ti 74=some (⟨.slice 80,[.slice none 0 0],1,24⟩:TI):=Wj
theorem Qa:E1.ti 80=some (⟨.struct (bq Try.prog 80),[.int .i64 0,.int .u64 0,.bool false],3,24⟩:TI):=Wk
theorem Bd:E1.ti 87=some (⟨.struct (bq Try.prog 87),[.int .i64 0,.slice none 0 0,.slice none 0 0],3,56⟩:TI):=Wl
theorem JP:E1.ti 153=some (⟨.array 4 65,[.int .u64 0,.int .u64 0,.int .u64 0,.int .u64 0],4,32⟩:TI):=NV
end Ev
end
noncomputable section
namespace Ev
open Go
set_option maxRecDepth 100000
set_option maxHeartbeats 1000000
attribute [local irreducible] eJ StL TnL WpL dV
def r61(x:Int×Int):List T:= [iT .i64 x.1,iT .i64 x.2]
def r28(x:Int×(Sl (Int×Int))):List T:= [iT .i64 x.1,Sl.t r61 x.2]
def r3(x:Int):List T:= [iT .i64 x]
def r2(x:Int):List T:= [iT .i64 x]
def r25(x:Int×Int×Sl (Int)×Sl (Int)×Sl (Int)×Sl (Int)):List T:= [iT .i64 x.1,iT .i64 x.2.1,Sl.t r3 x.2.2.1,Sl.t r3 x.2.2.2.1,Sl.t r3 x.2.2.2.2.1,Sl.t r2 x.2.2.2.2.2]
def r66(x:Int×Int):List T:= [iT .i64 x.1,iT .u64 x.2]
def afe(x:Int×Int×Int×Int):List T:= [iT .u64 x.1,iT .u64 x.2.1,iT .u64 x.2.2.1,iT .u64 x.2.2.2]
def r65(x:Int):List T:= [iT .u64 x]
def r68(x:Int×(Int×Int)):List T:= [iT .i64 x.1,iT .i64 x.2.1,iT .u64 x.2.2]
def r79(x:(Int×Int)×Bool):List T:= [iT .i64 x.1.1,iT .u64 x.1.2,bT x.2]
def r86(x:Int×Sl (Int)×Sl (Int)):List T:= [iT .i64 x.1,Sl.t r65 x.2.1,Sl.t r2 x.2.2]
def r48(x:Int×Int×Sl (Int)×Sl (Int)×Sl (Int)):List T:= [iT .i64 x.1,iT .i64 x.2.1,Sl.t r3 x.2.2.1,Sl.t r3 x.2.2.2.1,Sl.t r2 x.2.2.2.2]
theorem pz(a:Int):aw Try.prog (Go.convert 2 65 (.int .i64 a))=some (.int .u64 (IntKind.u64.wrap a)):=by kernel_rfl
theorem yf(a:Int):aw Try.prog (Go.convert 3 151 (.int .i64 a))=some (.int .u64 (IntKind.u64.wrap a)):=by kernel_rfl
theorem Mo(a:Int):aw Try.prog (Go.convert 65 2 (.int .u64 a))=some (.int .i64 (IntKind.i64.wrap a)):=by kernel_rfl
def gk(x0:Int×Int×Sl (Int)×Sl (Int)×Sl (Int)×Sl (Int)):Option (Bool):=K.gk (x0)
theorem GO(m:Nat){x0:Int×Int×Sl (Int)×Sl (Int)×Sl (Int)×Sl (Int)}{out:Bool}(h:gk x0=some out):RunsP E1 (m+1) 54 [.agg (r25 x0)] (.fresh,[.one (bT out)]):=eI (F:=qF 54) rfl (eW (K.Dq 58 (x0) out h))
def dA(x0:Int)(x1:Sl (Int×Int×Int)):Option ((Sl (Int×Int×Int))×(Int)):=K.dA (x0,x1)
def FL:Option (Bool):=K.FL6 ()
theorem Xi(m:Nat){out:Bool}(h:FL=some out):RunsP E1 (m+1) 6 [] (.fresh,[.one (bT out)]):=eI (F:=qF 6) rfl (eW (K.aay 59 () out h))
def eT(x0:Int×Int×Sl (Int)×Sl (Int)×Sl (Int)×Sl (Int)):Option (Int×Int×Sl (Int)×Sl (Int)×Sl (Int)):=K.eT (x0)
theorem GP(m:Nat){x0:Int×Int×Sl (Int)×Sl (Int)×Sl (Int)×Sl (Int)}{out:Int×Int×Sl (Int)×Sl (Int)×Sl (Int)}(h:eT x0=some out):RunsP E1 (m+1) 30 [.agg (r25 x0)] (.fresh,[.agg (r48 out)]):=eI (F:=qF 30) rfl (eW (K.Du 51 (x0) out h))
def lG(x0:Int)(x1:Int)(x2:Int)(x3:Sl (Int×Int×Int)):Option ((Int×Int×Sl (Int)×Sl (Int)×Sl (Int))×(Int)):=K.lG (x0,x1,x2,x3)
def jd(x0:Int)(x1:Int×Int)(x2:Int×Int):Option (Int×Int):=K.jd (x0,x1,x2)
theorem Mp(m:Nat){x0:Int}{x1:Int×Int}{x2:Int×Int}{out:Int×Int}(h:jd x0 x1 x2=some out):RunsP E1 (m+1) 27 [.one (iT .i64 x0),.agg (r66 x1),.agg (r66 x2)] (.fresh,[.agg (r66 out)]):=eI (F:=qF 27) rfl (eW (K.JM 57 (x0,x1,x2) out h))
def fE(x0:Int)(x1:Int×Int)(x2:Int×Int):Option (Int×Int):=K.fE (x0,x1,x2)
theorem yg(m:Nat){x0:Int}{x1:Int×Int}{x2:Int×Int}{out:Int×Int}(h:fE x0 x1 x2=some out):RunsP E1 (m+1) 68 [.one (iT .i64 x0),.agg (r66 x1),.agg (r66 x2)] (.fresh,[.agg (r66 out)]):=eI (F:=qF 68) rfl (eW (K.vm 58 (x0,x1,x2) out h))
def eA(x0:Int×Int×Sl (Int)×Sl (Int)×Sl (Int)):Option (Bool):=K.eA (x0)
theorem Dw(m:Nat){x0:Int×Int×Sl (Int)×Sl (Int)×Sl (Int)}{out:Bool}(h:eA x0=some out):RunsP E1 (m+1) 77 [.agg (r48 x0)] (.fresh,[.one (bT out)]):=eI (F:=qF 77) rfl (eW (K.AR 59 (x0) out h))
end Ev
end
noncomputable section
namespace Ev
open Go
set_option maxRecDepth 100000
set_option maxHeartbeats 1000000
attribute [local irreducible] eJ StL TnL WpL dV
theorem zt(x y:Operand)(a b:Bool):aw Try.prog (do eqGuard .eql 4 x y (.bool a) (.bool b);binOp .eql 4 (.bool a) (.bool b))=some (.bool (a==b)):=by cases a<;>cases b<;>kernel_rfl
theorem nz(x y:Operand)(a b:Bool):aw Try.prog (do eqGuard .neq 4 x y (.bool a) (.bool b);binOp .neq 4 (.bool a) (.bool b))=some (.bool (a !=b)):=by cases a<;>cases b<;>kernel_rfl
theorem JQ(x y:Operand)(a0 b0 a1 b1 a2 b2:Int):aw Try.prog (do eqGuard .neq 69 x y (.agg #[.int .i64 a0,.int .i64 a1,.int .u64 a2]) (.agg #[.int .i64 b0,.int .i64 b1,.int .u64 b2]);binOp .neq 69 (.agg #[.int .i64 a0,.int .i64 a1,.int .u64 a2]) (.agg #[.int .i64 b0,.int .i64 b1,.int .u64 b2]))=some (.bool (!(a0==b0 &&((a1==b1 &&(a2==b2 && true))&& true)))):=by
 refine KW (by kernel_rfl) ((pM 9999 69 #[.int .i64 a0,.int .i64 a1,.int .u64 a2] #[.int .i64 b0,.int .i64 b1,.int .u64 b2] (fs:=bq Try.prog 68) (by kernel_rfl) (by kernel_rfl)).trans ?_);rw [show(bq Try.prog 68).toList= [fld Try.prog 68 0,fld Try.prog 68 1]by kernel_rfl];exact((kY (k:= .i64) (k':= .i64) (by kernel_rfl) (by kernel_rfl) (by kernel_rfl) (by kernel_rfl)).trans (rl ((Nr (us:=#[.int .i64 a1,.int .u64 a2]) (vs:=#[.int .i64 b1,.int .u64 b2]) (c:=(a1==b1 &&(a2==b2 && true))) (by kernel_rfl) (by kernel_rfl) (by kernel_rfl) ((pM 9998 67 #[.int .i64 a1,.int .u64 a2] #[.int .i64 b1,.int .u64 b2] (fs:=bq Try.prog 66) (by kernel_rfl) (by kernel_rfl)).trans (by rw [show(bq Try.prog 66).toList= [fld Try.prog 66 0,fld Try.prog 66 1]by kernel_rfl];exact((kY (k:= .i64) (k':= .i64) (by kernel_rfl) (by kernel_rfl) (by kernel_rfl) (by kernel_rfl)).trans (rl ((kY (k:= .u64) (k':= .u64) (by kernel_rfl) (by kernel_rfl) (by kernel_rfl) (by kernel_rfl)).trans (rl nL))))))).trans (rl nL))))
theorem Mq(x y:Operand){a0 b0 a1 b1 a2 b2:Int}(h:a0=b0∧a1=b1∧a2=b2):aw Try.prog (do eqGuard .neq 69 x y (.agg #[.int .i64 a0,.int .i64 a1,.int .u64 a2]) (.agg #[.int .i64 b0,.int .i64 b1,.int .u64 b2]);binOp .neq 69 (.agg #[.int .i64 a0,.int .i64 a1,.int .u64 a2]) (.agg #[.int .i64 b0,.int .i64 b1,.int .u64 b2]))=some (.bool false):=by rw [JQ];simp [h]
theorem Mr(x y:Operand){a0 b0 a1 b1 a2 b2:Int}(h:¬(a0=b0∧a1=b1∧a2=b2)):aw Try.prog (do eqGuard .neq 69 x y (.agg #[.int .i64 a0,.int .i64 a1,.int .u64 a2]) (.agg #[.int .i64 b0,.int .i64 b1,.int .u64 b2]);binOp .neq 69 (.agg #[.int .i64 a0,.int .i64 a1,.int .u64 a2]) (.agg #[.int .i64 b0,.int .i64 b1,.int .u64 b2]))=some (.bool true):=by rw [JQ];congr 2;revert h;by_cases e0:a0=b0<;>by_cases e1:a1=b1<;>by_cases e2:a2=b2<;>simp_all
end Ev
end
end Go.Proofs.Ytjjbpdldbdmoeaa
