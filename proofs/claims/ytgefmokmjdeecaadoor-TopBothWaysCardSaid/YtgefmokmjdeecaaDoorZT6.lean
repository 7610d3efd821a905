/- Texts of a claim, joined. -/
import Derived.Test.YtgefmokmjdeecaaDoorZT5
import Derived.Laws.Bits64b
import Derived.Laws.Bits64
import Derived.Lib.TrailingZeros
import Derived.WalkKit
import Derived.BigQuiet
import Derived.WalkSpells
import Derived.WalkLawsBesides
import Derived.IntWalk
import Derived.Test.YtgefmokmjdeecaaDoorProg
set_option linter.unusedVariables false
set_option linter.unusedSimpArgs false
namespace Go.Proofs.YtgefmokmjdeecaaDoor
noncomputable section
namespace Ev
open Go Go.RowKit
abbrev bf:D:= .one (bC false)
abbrev bt:D:= .one (bC true)
abbrev iO(n:Int):D:= .one (iC .i64 n)
abbrev bO(b:Bool):D:= .one (bC b)
abbrev iI(n:Int):C:=iC .i64 n
abbrev uI(n:Int):C:=iC .u64 n
abbrev nC:C:= .p true (.s false 0 [])
abbrev sC{α:Type}(r:α→List T)(s:Sl α):C:= .p true (Sl.t r s)
abbrev sF{α:Type}(r:α→List T)(s:Sl α):C:= .p false (Sl.t r s)
theorem sj{α:Type}{a b:α}(h:some a=some b):a=b:=Option.some.inj h
theorem wF{α:Type}{a b:α}{r:α}(h:(if false=true then a else b)=r):b=r:=h
theorem wT{α:Type}{a b:α}{r:α}(h:(if true=true then a else b)=r):a=r:=h
theorem aI{P:Program}{t:TypeId}{x y:Operand}{k:IntKind}{a b:Int}(h:a<b):az P (do eqGuard .lss t x y (.int k a) (.int k b);binOp .lss t (.int k a) (.int k b))=some (.bool true):=RO P t x y k h
theorem aJ{P:Program}{t:TypeId}{x y:Operand}{k:IntKind}{a b:Int}(h:¬a<b):az P (do eqGuard .lss t x y (.int k a) (.int k b);binOp .lss t (.int k a) (.int k b))=some (.bool false):=RP P t x y k h
theorem lA{P:Program}{t:TypeId}{x y:Operand}{k:IntKind}{a b:Int}(h:a≤b):az P (do eqGuard .leq t x y (.int k a) (.int k b);binOp .leq t (.int k a) (.int k b))=some (.bool true):=RQ P t x y k h
theorem lC{P:Program}{t:TypeId}{x y:Operand}{k:IntKind}{a b:Int}(h:¬a≤b):az P (do eqGuard .leq t x y (.int k a) (.int k b);binOp .leq t (.int k a) (.int k b))=some (.bool false):=RS P t x y k h
theorem gI{P:Program}{t:TypeId}{x y:Operand}{k:IntKind}{a b:Int}(h:a>b):az P (do eqGuard .gtr t x y (.int k a) (.int k b);binOp .gtr t (.int k a) (.int k b))=some (.bool true):=RT P t x y k h
theorem gJ{P:Program}{t:TypeId}{x y:Operand}{k:IntKind}{a b:Int}(h:¬a>b):az P (do eqGuard .gtr t x y (.int k a) (.int k b);binOp .gtr t (.int k a) (.int k b))=some (.bool false):=RU P t x y k h
theorem dF{P:Program}{t:TypeId}{x y:Operand}{k:IntKind}{a b:Int}(h:a ≥ b):az P (do eqGuard .geq t x y (.int k a) (.int k b);binOp .geq t (.int k a) (.int k b))=some (.bool true):=RV P t x y k h
theorem dG{P:Program}{t:TypeId}{x y:Operand}{k:IntKind}{a b:Int}(h:¬a ≥ b):az P (do eqGuard .geq t x y (.int k a) (.int k b);binOp .geq t (.int k a) (.int k b))=some (.bool false):=RW P t x y k h
theorem cr{P:Program}{t:TypeId}{x y:Operand}{k:IntKind}{a b:Int}(h:a=b):az P (do eqGuard .eql t x y (.int k a) (.int k b);binOp .eql t (.int k a) (.int k b))=some (.bool true):=RX P t x y k h
theorem ct{P:Program}{t:TypeId}{x y:Operand}{k:IntKind}{a b:Int}(h:¬a=b):az P (do eqGuard .eql t x y (.int k a) (.int k b);binOp .eql t (.int k a) (.int k b))=some (.bool false):=RY P t x y k h
theorem cV{P:Program}{t:TypeId}{x y:Operand}{k:IntKind}{a b:Int}(h:a≠b):az P (do eqGuard .neq t x y (.int k a) (.int k b);binOp .neq t (.int k a) (.int k b))=some (.bool true):=RZ P t x y k h
theorem cW{P:Program}{t:TypeId}{x y:Operand}{k:IntKind}{a b:Int}(h:¬a≠b):az P (do eqGuard .neq t x y (.int k a) (.int k b);binOp .neq t (.int k a) (.int k b))=some (.bool false):=Sa P t x y k h
theorem aS{P:Program}{t:TypeId}{x y:Operand}{k:IntKind}{a b:Int}:az P (do eqGuard .add t x y (.int k a) (.int k b);binOp .add t (.int k a) (.int k b))=some (.int k (k.wrap (a+b))):=TV P t x y k a b
theorem tG{P:Program}{t:TypeId}{x y:Operand}{k:IntKind}{a b:Int}:az P (do eqGuard .sub t x y (.int k a) (.int k b);binOp .sub t (.int k a) (.int k b))=some (.int k (k.wrap (a - b))):=TW P t x y k a b
theorem wk{P:Program}{t:TypeId}{x y:Operand}{k:IntKind}{a b:Int}:az P (do eqGuard .mul t x y (.int k a) (.int k b);binOp .mul t (.int k a) (.int k b))=some (.int k (k.wrap (a*b))):=TX P t x y k a b
section
variable {E : Env} {y : Nat → fH} {n nt : Nat} {ops : Array Oper} {o : Oper} {r : List Oper} {K : St → Prop} {f : Nat → D} {L : BL} {d : Nat} {Q : Ex → St → Prop}
theorem pq{v:D}(hs:PS E n nt f L o.op v)(h:el E y n nt ops r K (up f d v) L)(hw:dE ops o nt f=some true:=by exact rfl)(hd:o.dst=some d:=by exact rfl)(hn:Nat.blt d nt=true:=by exact rfl):el E y n nt ops (o::r) K f L:=Ke hw hd hn hs h
theorem sq{v:D}{i:Nat}(hs:PS E n nt f L o.op v)(h:StL E n nt ops r (i+1) K (up f d v) L)(hw:dE ops o nt f=some true:=by exact rfl)(hd:o.dst=some d:=by exact rfl)(hn:Nat.blt d nt=true:=by exact rfl):StL E n nt ops (o::r) i K f L:=Ve hw hd hn hs h
theorem os(h:el E y n nt ops r K (up f d cJ) L)(hw:dE ops o nt f=some false:=by exact rfl)(hd:o.dst=some d:=by exact rfl)(hn:Nat.blt d nt=true:=by exact rfl):el E y n nt ops (o::r) K f L:=Rx hw hd hn h
theorem ss{i:Nat}(h:StL E n nt ops r (i+1) K (up f d cJ) L)(hw:dE ops o nt f=some false:=by exact rfl)(hd:o.dst=some d:=by exact rfl)(hn:Nat.blt d nt=true:=by exact rfl):StL E n nt ops (o::r) i K f L:=Ry hw hd hn h
theorem qm{x:Operand}(v:D)(hx:ov nt f x=some v:=by exact rfl):PS E n nt f L (.move x) v:=we hx
theorem qa{x:Operand}(v:D)(hx:ov nt f x=some v:=by exact rfl):PS E n nt f L (.assign x) v:=Af hx
theorem qpt{c a b:Operand}{fr:Bool}(v:D)(hc:ov nt f c=some (.one (.p fr (.v (.bool true)))):=by exact rfl)(hx:ov nt f a=some v:=by exact rfl):PS E n nt f L (.pick c a b) v:=RH hc hx
theorem qpf{c a b:Operand}{fr:Bool}(v:D)(hc:ov nt f c=some (.one (.p fr (.v (.bool false)))):=by exact rfl)(hx:ov nt f b=some v:=by exact rfl):PS E n nt f L (.pick c a b) v:=RI hc hx
theorem ql{ty:TypeId}{x:Operand}{k i j sz bz:Nat}{ag:Bool}{es:List (List C)}{e cs:List C}(v:D)(p:Nat)(hz:bX E.ti ty=some (sz,ag))(hx:ov nt f x=some (.one (.ptr k i j)):=by exact rfl)(hp:L[p]? =some [(k,bz,es)]:=by exact rfl)(he:es[i]? =some e:=by exact rfl)(hc:cut e j (cond ag sz 1)=some cs:=by exact rfl)(hv:dC ag cs=some v:=by exact rfl):PS E n nt f L (.load ty x) v:=mh p hx hz hp he hc hv
theorem qc{c:Call}{k:FuncId}{vs:List (Bool×TD)}{vs2 rs:List TD}(v:D)(args:List D)(hk:RunsP E n k vs2 (.fresh,rs))(hv:Vw L args vs)(hc:bw (.call c)=some c:=by exact rfl)(hr:bJ c (ov nt f)=some (k,args):=by exact rfl)(h2:vs.map (·.2)=vs2:=by exact rfl)(hrv:iY (rs.map (dj true))=v:=by exact rfl):PS E n nt f L (.call c) v:=Ly hk hc hr hv h2 hrv
theorem qb{op:BinOp}{ty sh:TypeId}{x y:Operand}{fa fb:Bool}{ka kb:IntKind}{a b:Int}{v:Value}(hp:az E.P (do eqGuard op ty x y (.int ka a) (.int kb b);binOp op ty (.int ka a) (.int kb b))=some v)(hx:ov nt f x=some (.one (.p fa (.v (.int ka a)))):=by exact rfl)(hy:ov nt f y=some (.one (.p fb (.v (.int kb b)))):=by exact rfl)(h1:one1 v=true:=by exact rfl):PS E n nt f L (.binOp op ty x y sh) (mk v):=cC hx hy hp h1
theorem ow{ty:TypeId}{a x:Operand}{k i j sz bz:Nat}{ag:Bool}{es:List (List C)}{e e' cs:List C}{v:D}{L':BL}(es':List (List C))(p:Nat)(hz:bX E.ti ty=some (sz,ag))(h:el E y n nt ops r K f L')(hop:o.op= .store ty a x:=by exact rfl)(ha:ov nt f a=some (.one (.ptr k i j)):=by exact rfl)(hx:ov nt f x=some v:=by exact rfl)(hd:iW v=some cs:=by exact rfl)(hs:Nat.beq cs.length sz=true:=by exact rfl)(hp:L[p]? =some [(k,bz,es)]:=by exact rfl)(he:es[i]? =some e:=by exact rfl)(ht:patch e j cs=some e':=by exact rfl)(hes:es.set i e'=es':=by exact rfl)(hw:dE ops o nt f=some true:=by exact rfl)(hdst:o.dst=none:=by exact rfl)(hL:L.set p [(k,bz,es')]=L':=by exact rfl):el E y n nt ops (o::r) K f L:=HX hw hdst (by rw [hop];exact cO p ha hx hd hz hs hp he ht hes) hL h
theorem tq{v:D}{i w b:Nat}{O:List (List Nat)}{N:List (Bool×List Nat)}{R:List (List Nat)}{A:BL}(is:List Nat)(hA:is.filterMap (fun i=>L[i]?)=A)(hm:∀x∈A.flatten,x.1 ∉(R.getD i []).flatMap (bm b O N))(hs:PS E n nt f A o.op v)(h:TnL E n nt ops r (i+1) w O N R b K (up f d v) L)(hw:dE ops o nt f=some true:=by exact rfl)(hd:o.dst=some d:=by exact rfl)(hn:Nat.blt d nt=true:=by exact rfl)(hn2:is.Nodup:=by decide)(hu:bm b O N i= []:=by exact rfl):TnL E n nt ops (o::r) i w O N R b K f L:=Ps hw hd hn is hn2 hA hm hu hs h
theorem oW{d1 d2:D}{ds:List D}(h:aE)(hb:HB h L):cQ h (d1::d2::ds)=false:=RL
theorem oG{cs:List C}(h:aE)(hb:HB h L):cQ h [.agg cs]=false:=RM
theorem oP{fr:Bool}{t:T}(h:aE)(hb:HB h L):cQ h [.one (.p fr t)]=false:=PB
theorem eF1{t:Tmp}{fr:Bool}{x:Value}{rs:List TD}(hr:ov nt f (.tmp t)=some (.one (.p fr (.v x))):=by exact rfl)(hrs: [TD.one (.v x)]=rs:=by exact rfl):dz nt (gv E [.tmp t] (.fresh,rs)) .ret f L:=aN (.inr rfl) (aZ hr ay) (af (am an) ak) (fun h hb=>PB) rfl hrs
theorem eR{KK:St→Prop}(h:dz nt Q .ret f L):dz nt (rd KK Q) .ret f L:=h
theorem bR{id:Nat}(h:dz nt Q .ret f L):dz nt (Ft id Q) .ret f L:=h
theorem bN{id:Nat}(h:dz nt Q .normal f L):dz nt (Ft id Q) .normal f L:=h
theorem bH{id:Nat}(h:dz nt Q .normal f L):dz nt (Ft id Q) (.exit id) f L:=Vh h
theorem cT{c:Operand}{a b:Code}{fr:Bool}(hc:ov nt f c=some (.one (.p fr (.v (.bool true)))))(h:WpL E y n nt a Q f L):WpL E y n nt (.cond c a b) Q f L:=RE hc h
theorem cF{c:Operand}{a b:Code}{fr:Bool}(hc:ov nt f c=some (.one (.p fr (.v (.bool false)))))(h:WpL E y n nt b Q f L):WpL E y n nt (.cond c a b) Q f L:=RF hc h
theorem lK(h:dz nt Q .normal f L):WpL E y n nt .skip Q f L:=Vg h
theorem lR(h:dz nt Q .ret f L):WpL E y n nt .ret Q f L:=Xv h
theorem lB{id:Nat}{c:Code}(h:WpL E y n nt c (Ft id Q) f L):WpL E y n nt (.block id c) Q f L:=RA h
theorem eS{b:Code}(h:WpL E y n nt b Q f L):dz nt (rd (WpC E y n b Q) Q) .normal f L:=Pw h
theorem oE(h:dz nt Q .normal f L):el E y n nt ops [] (Q .normal) f L:=Kf h
theorem lS{a b:Code}(h:WpL E y n nt a (rd (WpC E y n b Q) Q) f L):WpL E y n nt (.seq a b) Q f L:=Ua h
theorem lO{id:Nat}{l:List Oper}(h:el E y n nt l.toArray l (Q .normal) f L):WpL E y n nt (.region id l.toArray false) Q f L:=Pu h
theorem oN{id:Nat}{l:List Oper}{b:Code}(h:el E y n nt l.toArray l (rd (WpC E y n b Q) Q .normal) f L):el E y n nt ops [] (rd (WpC E y n (.seq (.region id l.toArray false) b) Q) Q .normal) f L:=Kf (Pw (Ua (Pu h)))
theorem oR{id:Nat}{l:List Oper}(h:el E y n nt l.toArray l (Q .normal) f L):el E y n nt ops [] (rd (WpC E y n (.region id l.toArray false) Q) Q .normal) f L:=Kf (Pw (Pu h))
end
end Ev
end
noncomputable section
open Go Go.RowKit
theorem Ng(x a:Nat)(hx:x<18446744073709551616)(hx0:x≠0)(hlow:x &&&(18446744073709551616 - x)=a):
  IntKind.u64.wrap (bits BinOp.and IntKind.u64 (x:Int) (IntKind.u64.wrap (-(x:Int)))*285870213051353865)/ 288230376151711744=((a*285870213051353865 % 18446744073709551616 / 288230376151711744:Nat):Int):=by
 have e1:IntKind.u64.wrap (-(x:Int))=((18446744073709551616 - x:Nat):Int):=by rw [IntKind.wrap_u64];omega
 rw [e1,bits_and_u64_nat x _ hx (by omega),hlow,IntKind.wrap_u64];omega
set_option maxHeartbeats 1000000 in
theorem Nh(x k idx:Nat)(w:World)(hx0:((x:Int)==0)=false)
  (key:IntKind.u64.wrap (bits BinOp.and IntKind.u64 (x:Int) (IntKind.u64.wrap (-(x:Int)))*285870213051353865)/ 288230376151711744=(idx:Int))
  (hi:idx<64) (hk:k<64) (hcell:w.cell? ⟨0,idx,none⟩=some (.int .u8 k)):
  Calls Tryd.prog 92 #[.int .u64 x] w fun e w'=>e= .returned (.int .i64 k)∧w=w':=by
 go_enter Tryd.func92,Tryd.ntmps92
 go_wp2_with (simp only [key])
 go_ret
 exact⟨rfl,rfl⟩
namespace Ev
theorem PU(x:Nat)(hx:x<18446744073709551616)(hx0:x≠0)(w:World)(hT:Uk w):
  Calls Tryd.prog 92 #[.int .u64 x] w fun e w'=>e= .returned (.int .i64 (Lib.ctz 64 x))∧w=w':=by
 obtain⟨hlow,hk⟩:=Lib.lowest_bit 64 x hx0 hx;obtain⟨hi,htab⟩:=Lib.deBruijn64_at _ hk;have hcell:=hT.2 _ hi;rw [htab]at hcell;exact Nh x _ _ w (by simp;omega) (Ng x _ hx hx0 hlow) hi hk hcell
def tzF:List TD→Option (Kind×List TD)
 | [.one (.v (.int .u64 x))]=>if 0<x∧x<18446744073709551616 then some (.fresh,[.one (.v (.int .i64 (Lib.ctz 64 x.toNat)))])else none
 |_=>none
def TZ(x:Int):Option Int:=if 0<x∧x<18446744073709551616 then some ((Lib.ctz 64 x.toNat:Nat):Int)else none
theorem XE(vs:List TD)(kind:Kind)(rs:List TD)(h:tzF vs=some (kind,rs)):jU Tryd.prog 92 vs kind rs∧iZ Tryd.prog 92:=by
 unfold tzF at h;split at h
 ·rename_i x;split at h
  ·rename_i hx;simp only [zsI,Prod.mk.injEq]at h;obtain⟨rfl,rfl⟩:=h;refine⟨fun w F ys hL hF hr=> ?_,⟨_,_,Tryd.func92,by kernel_rfl,by unfold Tryd.f92;rfl⟩⟩;obtain⟨hlen,hi⟩:=hr
   match ys,hlen with
   | [y],_=>
    obtain⟨y',e1,e2⟩:=hi 0 _ rfl;simp only [List.getElem?_cons_zero,zsI]at e1;subst e1
    have ey:y= .int .u64 x:=by
     cases e2 with
     |one t y h=>cases h with|v x hx=>rfl
    subst ey;obtain⟨n,rfl⟩:=Int.eq_ofNat_of_zero_le (show 0≤x by omega);refine(PU n (by omega) (by omega) w hL.2).mono fun e w' ⟨he,hw⟩=> ?_;subst hw;refine⟨_,he,?_,fun hk=>(by cases hk),Below.refl _ _⟩;exact .one _ _ (.v _ rfl)
  ·simp at h
 ·simp at h
end Ev
end
noncomputable section
namespace Ev
namespace K
open Go Go.RowKit
inductive Ty where
 |I (k:IntKind)
 |B
 |S (e:Ty)
 |U
 |C (x y:Ty)
 deriving DecidableEq,Inhabited
namespace Ty
@[reducible] def val:Ty→Type
 | .I _=>Int
 | .B=>Bool
 | .S e=>Sl e.val
 | .U=>Unit
 | .C x y=>x.val×y.val
def size:Ty→Nat
 | .U=>0
 | .C x y=>x.size+y.size
 |_=>1
def row:(t:Ty)→t.val→List T
 | .I k,x=> [iT k x]
 | .B,x=> [bT x]
 | .S e,x=> [Sl.t e.row x]
 | .U,_=> []
 | .C a b,x=>a.row x.1++b.row x.2
def zero:(t:Ty)→t.val
 | .I _=>(0:Int)
 | .B=>false
 | .S _=>⟨false,0,[]⟩
 | .U=>()
 | .C a b=>(a.zero,b.zero)
def plain:Ty→Bool
 | .S _=>false
 | .C a b=>a.plain && b.plain
 |_=>true
end Ty
def ji(t t':Ty)(x:t.val):Option t'.val:=if h:t=t' then some (h▸x)else none
inductive KC where
 |n (k:IntKind) (x:Int)
 |b (v:Bool)
 |p (tag:Nat) (P:Prop) (d:Decidable P)
 |bv (x:Bool)
 |v (x:Value)
 |nil
 |s (e:Ty) (fr:Bool) (x:Sl e.val)
 |o (e:Ty) (p:Nat)
 |m (e:Ty) (p:Nat)
 |ptr (p j:Nat)
 |pe (p:Nat) (i:Int) (j:Nat)
 |ip (e:Ty) (fr:Bool) (x:Sl e.val) (i:Int) (y:e.val) (j:Nat)
 |clo (fn:FuncId) (ps:List Nat)
 |yld (p:Nat)
inductive KD where
 |one (c:KC)
 |agg (cs:List KC)
 |tup (ds:List (Bool×List KC))
inductive KB where
 |box (cs:List KC)
 |rows (e:Ty) (ne:Bool) (l:List e.val)
 |mrows (e:Ty) (l:List e.val)
 |dead
structure KS where
 sl:List (Nat×KD)
 bl:List (Nat×KB)
 nx:Nat
structure KF where
 nt:Nat:=0
 sl:List (Nat×KD):= []
 bl:List (Nat×KB):= []
def aC{α:Type}:List (Nat×α)→Nat→Option α
 | [],_=>none
 |x::r,i=>cond (Nat.beq x.1 i) (some x.2) (aC r i)
def bS{α:Type}(l m:List (Nat×α))(i:Nat):Option α:=
 match aC l i with
 |some a=>some a
 |none=>aC m i
def nb(F:KF)(ks:KS)(i:Nat):Option KD:=bS ks.sl F.sl i
def aT(F:KF)(ks:KS)(p:Nat):Option KB:=
 match bS ks.bl F.bl p with
 |some .dead=>none
 |x=>x
def dQ(fr:Bool):(e:Ty)→e.val→List KC
 | .I k,x=> [.n k x]
 | .B,x=> [.bv x]
 | .S e,x=> [.s e fr x]
 | .U,_=> []
 | .C a b,x=>dQ fr a x.1++dQ fr b x.2
def qd(B:Nat→Option KB):(e:Ty)→KC→Option e.val
 | .I k,.n k' x=>if k=k' then some x else none
 | .B,.b v=>some v
 | .B,.p _ P d=>some (@decide P d)
 | .B,.bv x=>some x
 | .S e,.nil=>some ⟨false,0,[]⟩
 | .S e,.s e' _ x=>ji (.S e') (.S e) x
 | .S e,.o _ p=>match B p with
  |some (.rows e' _ l)=>ji (.S e') (.S e) ⟨true,e'.size,l⟩
  |_=>none
 | .S e,.m _ p=>match B p with
  |some (.mrows e' l)=>ji (.S e') (.S e) (mo e'.size l)
  |_=>none
 |_,_=>none
def dec(B:Nat→Option KB):(e:Ty)→List KC→Option e.val
 | .U,[]=>some ()
 | .C a b,cs=>(dec B a (cs.take a.size)).bind fun x=>(dec B b (cs.drop a.size)).bind fun y=>some (x,y)
 |e,[c]=>qd B e c
 |_,_=>none
def noB:Nat→Option KB:=fun _=>none
def frC:KC→Bool
 | .s _ fr _=>fr
 |_=>true
def vk:KC→Bool
 | .n .. | .b _| .p .. | .bv _| .v _| .nil| .s .. =>true
 |_=>false
abbrev TyD:=Bool×Ty
@[reducible] def vals:List TyD→Type
 | []=>Unit
 | [t]=>t.2.val
 |t::r=>t.2.val×vals r
def Fy(t:TyD)(x:t.2.val):TD:=
 match t with
 |(true,e)=> .agg (e.row x)
 |(false,e)=>match e.row x with
  | [y]=> .one y
  |ys=> .agg ys
def pm:(ts:List TyD)→vals ts→List TD
 | [],_=> []
 | [t],x=> [Fy t x]
 |t::t'::r,x=>Fy t x.1::pm (t'::r) x.2
def mkD(x:Bool×List KC):KD:=
 match x with
 |(true,cs)=> .agg cs
 |(false,[c])=> .one c
 |(false,cs)=> .agg cs
def PV(fr:Bool)(t:TyD)(x:t.2.val):Bool×List KC:=(t.1,dQ fr t.2 x)
def rk(fr:Bool):(ts:List TyD)→vals ts→List (Bool×List KC)
 | [],_=> []
 | [t],x=> [PV fr t x]
 |t::t'::r,x=>PV fr t x.1::rk fr (t'::r) x.2
def Fz(B:Nat→Option KB)(t:TyD):KD→Option t.2.val
 | .one c=>if t.1 then none else qd B t.2 c
 | .agg cs=>if t.1 then dec B t.2 cs else none
 | .tup _=>none
def nN(B:Nat→Option KB):(ts:List TyD)→List KD→Option (vals ts)
 | [],[]=>some ()
 | [t],[d]=>Fz B t d
 |t::t'::r,d::ds=>(Fz B t d).bind fun x=>(nN B (t'::r) ds).bind fun y=>some (x,y)
 |_,_=>none
def vm:KD→Bool
 | .one c=>vk c
 | .agg cs=>cs.all vk
 | .tup _=>false
inductive OutK where
 |data (fr:Bool) (ts:List TyD)
 |own (e:Ty)
 |mown (e:Ty)
 |gown (e:Ty)
@[reducible] def OutK.val:OutK→Type
 | .data _ ts=>vals ts
 | .own e=>List e.val
 | .mown e=>List e.val
 | .gown e=>Sl e.val
structure dv where
 k:FuncId
 ins:List TyD
 out:OutK
 f:vals ins→Option out.val
 d:Nat
structure KG where
 ti:List (Nat×TI)
 eqs:List (Nat×List IntKind)
 fns:List dv
 fi:List (FuncId×FI)
def KG.fn(G:KG)(k:FuncId):Option dv:=G.fns.find? fun e=>Nat.beq e.k k
def Si(ti:List (Nat×TI)):Nat→TypeId→Option Ty
 |0,_=>none
 |n+1,t=>match aC ti t with
  |none=>none
  |some i=>match i.desc with
   | .int k=>some (.I k)
   | .bool=>some .B
   | .slice e=>(Si ti n e).map .S
   | .array m e=>(Si ti n e).bind fun x=>prod (List.replicate m x)
   | .struct fs=>(seqO (fs.toList.map fun f=>Si ti n f.type)).bind prod
   |_=>none
where
 prod:List Ty→Option Ty
  | []=>some .U
  | [x]=>some x
  |x::y::r=>(prod (y::r)).map (.C x)
 seqO:List (Option Ty)→Option (List Ty)
  | []=>some []
  |none::_=>none
  |some x::r=>(seqO r).map (x::·)
def KG.ty(G:KG)(t:TypeId):Option Ty:=Si G.ti 9 t
def KG.elem(G:KG)(t:TypeId):Option (TypeId×Ty×Nat):=
 match aC G.ti t with
 |some i=>match bB i with
  |some e=>match aC G.ti e with
   |some te=>(G.ty e).map fun x=>(e,x,te.size)
   |none=>none
  |none=>none
 |none=>none
structure KE where
 v:KD
 upd:Option (Nat×KB):=none
 new:Option KB:=none
def kC:Value→KC
 | .int k n=> .n k n
 | .bool b=> .b b
 | .slice none 0 0=> .nil
 |x=> .v x
def wl:Value→Option KD
 | .agg cs=>if cs.toList.all one1 then some (.agg (cs.toList.map kC))else none
 | .tuple _=>none
 |v=>some (.one (kC v))
def kO(F:KF)(ks:KS):Operand→Option KD
 | .tmp i=>nb F ks i
 | .const v=>wl v
 | .global _=>none
 | .func f=>some (.one (.v (.func (.func f) #[] #[])))
def kUn:KD:= .tup []
def Vt(tag:Nat)(op:BinOp)(k k':IntKind)(a b:Int){R:Type}(κ:KE→Option R):Option R:=
 match op with
 | .shl=>(Ai k a b).bind fun z=>κ ⟨.one (.n k z),none,none⟩
 | .shr=>(wh k a b).bind fun z=>κ ⟨.one (.n k z),none,none⟩
 |op=>if k=k' then match op with
  | .add=>κ ⟨.one (.n k (k.wrap (a+b))),none,none⟩
  | .sub=>κ ⟨.one (.n k (k.wrap (a - b))),none,none⟩
  | .mul=>κ ⟨.one (.n k (k.wrap (a*b))),none,none⟩
  | .and=>κ ⟨.one (.n k (fO k a b)),none,none⟩
  | .or=>κ ⟨.one (.n k (orI k a b)),none,none⟩
  | .xor=>κ ⟨.one (.n k (Vn k a b)),none,none⟩
  | .andNot=>κ ⟨.one (.n k (Lz k a b)),none,none⟩
  | .quo=>(vc k a b).bind fun z=>κ ⟨.one (.n k z),none,none⟩
  | .rem=>(kJ a b).bind fun z=>κ ⟨.one (.n k z),none,none⟩
  | .eql=>κ ⟨.one (.p tag (a=b) (Int.instDecidableEq a b)),none,none⟩
  | .neq=>κ ⟨.one (.p tag (a≠b) (@instDecidableNot _ (Int.instDecidableEq a b))),none,none⟩
  | .lss=>κ ⟨.one (.p tag (a<b) (Int.decLt a b)),none,none⟩
  | .leq=>κ ⟨.one (.p tag (a≤b) (Int.decLe a b)),none,none⟩
  | .gtr=>κ ⟨.one (.p tag (a>b) (Int.decLt b a)),none,none⟩
  | .geq=>κ ⟨.one (.p tag (a ≥ b) (Int.decLe b a)),none,none⟩
  |_=>none
 else none
def Ao:Operand→Bool
 | .const (.slice none 0 0)=>true
 |_=>false
def wm(op:BinOp)(tag:Nat)(P:Prop)(d:Decidable P):Option KC:=
 match op with
 | .eql=>some (.p tag P d)
 | .neq=>some (.p tag (¬P) (@instDecidableNot P d))
 |_=>none
def LH(op:BinOp)(v:Bool):Option KC:=
 match op with
 | .eql=>some (.b v)
 | .neq=>some (.b (!v))
 |_=>none
def eqP:List (Int×Int)→Prop
 | []=>True
 | [x]=>x.1=x.2
 |x::y::r=>x.1=x.2∧eqP (y::r)
def eqD:(l:List (Int×Int))→Decidable (eqP l)
 | []=> .isTrue trivial
 | [x]=>Int.instDecidableEq x.1 x.2
 |x::y::r=> @instDecidableAnd _ _ (Int.instDecidableEq x.1 x.2) (eqD (y::r))
def iR:List IntKind→List KC→List KC→Option (List (Int×Int))
 | [],[],[]=>some []
 |k::ks,.n k1 x::r,.n k2 y::s=>if k1=k∧k2=k then(iR ks r s).map ((x,y)::·)else none
 |_,_,_=>none
def LI:KC→Option Bool
 | .b v=>some v
 | .p _ P d=>some (@decide P d)
 | .bv x=>some x
 |_=>none
def FA(ti:List (Nat×TI))(t:TypeId):Bool:=match aC ti t with
 |some i=>match i.desc with
  | .bool=>true
  |_=>false
 |none=>false
def Ru(G:KG)(F:KF)(ks:KS)(tag:Nat)(op:BinOp)(ty:TypeId)(y:Operand)(a b:KD){R:Type}(κ:KE→Option R):Option R:=
 match a,b with
 | .one (.n k x),.one (.n k' x')=>Vt tag op k k' x x' κ
 | .one (.s e fr x),_=>match Ao y,G.elem ty with
  |true,some _=>(wm op tag (x.nn=false) (instDecidableEqBool x.nn false)).bind fun c=>κ ⟨.one c,none,none⟩
  |_,_=>none
 | .one (.o e p),_=>match Ao y,G.elem ty,aT F ks p with
  |true,some _,some (.rows _ _ _)=>(LH op false).bind fun c=>κ ⟨.one c,none,none⟩
  |_,_,_=>none
 | .one .nil,_=>match Ao y,G.elem ty with
  |true,some _=>(LH op true).bind fun c=>κ ⟨.one c,none,none⟩
  |_,_=>none
 | .agg cs,.agg ds=>match aC G.eqs ty with
  |some kinds=>match iR kinds cs ds with
   |some l=>(wm op tag (eqP l) (eqD l)).bind fun c=>κ ⟨.one c,none,none⟩
   |none=>none
  |none=>none
 | .one c,.one d=>match FA G.ti ty,LI c,LI d with
  |true,some x,some x'=>(wm op tag (x=x') (instDecidableEqBool x x')).bind fun c=>κ ⟨.one c,none,none⟩
  |_,_,_=>none
 |_,_=>none
def kOf(agg:Bool)(cs:List KC):Option KD:=
 if agg then some (.agg cs)else match cs with
  | [c]=>some (.one c)
  |_=>none
def kCs:KD→Option (List KC)
 | .one c=>some [c]
 | .agg cs=>some cs
 | .tup _=>none
def wd(z:Nat×Bool):Nat:=cond z.2 z.1 1
def PX(ti:List (Nat×TI))(t:TypeId):Option (Nat×Bool):=match aC ti t with
 |some i=>some (i.size,bI i.desc)
 |none=>none
def Sj(ti:List (Nat×TI))(t:TypeId)(m:Nat):Option (Nat×Nat×Bool):=match aC ti t with
 |some i=>match kQ i m with
  |some fd=>match aC ti fd.type with
   |some ft=>some (fd.offset,ft.size,bI ft.desc)
   |none=>none
  |none=>none
 |none=>none
def kp(F:KF)(ks:KS)(z:Nat×Bool)(a:KD){R:Type}(κ:KD→Option R):Option R:=
 match a with
 | .one (.ptr p j)=>match aT F ks p with
  |some (.box cs)=>((cut cs j (wd z)).bind (kOf z.2)).bind κ
  |_=>none
 | .one (.ip e fr x i y j)=>((cut (dQ fr e y) j (wd z)).bind (kOf z.2)).bind κ
 | .one (.pe p i j)=>match aT F ks p with
  |some (.rows e _ l)=>(atL l i).bind fun y=>((cut (dQ true e y) j (wd z)).bind (kOf z.2)).bind κ
  |some (.mrows e l)=>(atL l i).bind fun y=>((cut (dQ true e y) j (wd z)).bind (kOf z.2)).bind κ
  |_=>none
 |_=>none
def Ae(ks:KS)(sz:Nat)(a x:KD){R:Type}(κ:KE→Option R):Option R:=
 match kCs x with
 |none=>none
 |some cs=>if cs.length=sz then match a with
  | .one (.ptr p j)=>match aC ks.bl p with
   |some (.box es)=>(patch es j cs).bind fun es'=>κ ⟨kUn,some (p,.box es'),none⟩
   |_=>none
  | .one (.pe p i j)=>match aC ks.bl p with
   |some (.rows e ne l)=>if cs.all frC then(atL l i).bind fun y=>(patch (dQ true e y) j cs).bind fun es'=>(dec noB e es').bind fun y'=>κ ⟨kUn,some (p,.rows e ne (l.set i.toNat y')),none⟩else none
   |some (.mrows e l)=>if cs.all frC then(atL l i).bind fun y=>(patch (dQ true e y) j cs).bind fun es'=>(dec noB e es').bind fun y'=>κ ⟨kUn,some (p,.mrows e (l.set i.toNat y')),none⟩else none
   |_=>none
  |_=>none
 else none
def kPlaces(ti:List (Nat×TI))(t:TypeId):Option (Nat→Option (Nat×Nat)):=match aC ti t with
 |some i=>match i.desc with
  | .struct fs=>(seqP (fs.toList.map fun f=>match aC ti f.type with
   |some q=>some (f.offset,q.size)
   |none=>none)).map fun l n=>l[n]?
  | .array _ e=>match aC ti e with
   |some te=>some fun n=>some (n*te.size,te.size)
   |none=>none
  |_=>none
 |none=>none
where
 seqP:List (Option (Nat×Nat))→Option (List (Nat×Nat))
  | []=>some []
  |none::_=>none
  |some x::r=>(seqP r).map (x::·)
def Ih(place:Nat→Option (Nat×Nat))(cells:List KC):List (Nat×KD)→Option (List KC)
 | []=>some cells
 |(i,d)::r=>match place i,kCs d with
  |some (off,size),some cs=>if cs.length=size then(patch cells off cs).bind fun c=>Ih place c r else none
  |_,_=>none
def Ap(F:KF)(ks:KS):List (Nat×Operand)→Option (List (Nat×KD))
 | []=>some []
 |(i,x)::r=>(kO F ks x).bind fun d=>(Ap F ks r).bind fun l=>some ((i,d)::l)
def lX(F:KF)(ks:KS):List Operand→Option (List KD)
 | []=>some []
 |x::r=>(kO F ks x).bind fun d=>(lX F ks r).bind fun l=>some (d::l)
def rO(e:Ty):List (List KC)→Option (List e.val)
 | []=>some []
 |cs::r=>if cs.all frC=true then(dec noB e cs).bind fun x=>(rO e r).bind fun l=>some (x::l)else none
def CW(z:Nat)(cs:List KC):Nat→Nat→Option (List (List KC))
 |0,_=>some []
 |n+1,i=>(cut cs (i*z) z).bind fun a=>(CW z cs n (i+1)).bind fun l=>some (a::l)
def FB(F:KF)(ks:KS)(e:Ty):KC→Option (List e.val×Bool)
 | .nil=>some ([],false)
 | .s e' fr x=>if(fr||e'.plain)=true then(ji (.S e') (.S e) x).map fun x=>(x.l,false)else none
 | .o _ p=>match aT F ks p with
  |some (.rows e' ne l)=>(ji (.S e') (.S e) ⟨true,0,l⟩).map fun x=>(x.l,ne)
  |_=>none
 | .m _ p=>match aT F ks p with
  |some (.mrows e' l)=>(ji (.S e') (.S e) ⟨true,0,l⟩).map fun x=>(x.l,false)
  |_=>none
 |_=>none
def FC(F:KF)(ks:KS)(nid:Nat)(e:Ty)(a x:KC){R:Type}(κ:KE→Option R):Option R:=
 match FB F ks e x with
 |none=>none
 |some (xs,ne)=>match a with
  | .nil=>(app [] xs).bind fun lm=>cond ne (κ ⟨.one (.o e nid),none,some (.rows e true lm)⟩) (κ ⟨.one (.m e nid),none,some (.mrows e lm)⟩)
  | .o _ p=>match aC ks.bl p with
   |some (.rows e' ne' l)=>(ji (.S e') (.S e) ⟨true,0,l⟩).bind fun l=>(app l.l xs).bind fun lm=>κ ⟨.one (.o e nid),some (p,.dead),some (.rows e (ne||ne') lm)⟩
   |_=>none
  | .m _ p=>match aC ks.bl p with
   |some (.mrows e' l)=>(ji (.S e') (.S e) ⟨true,0,l⟩).bind fun l=>(app l.l xs).bind fun lm=>cond ne (κ ⟨.one (.o e nid),some (p,.dead),some (.rows e true lm)⟩) (κ ⟨.one (.m e nid),some (p,.dead),some (.mrows e lm)⟩)
   |_=>none
  |_=>none
def Vu(F:KF)(ks:KS):KC→Option Int
 | .nil=>some 0
 | .s _ _ x=>some ((x.l.length:Nat):Int)
 | .o _ p=>match aT F ks p with
  |some (.rows _ _ l)=>some ((l.length:Nat):Int)
  |_=>none
 | .m _ p=>match aT F ks p with
  |some (.mrows _ l)=>some ((l.length:Nat):Int)
  |_=>none
 |_=>none
def Aq(G:KG)(F:KF)(ks:KS)(nid:Nat)(c:Call)(b:Builtin)(args:List KD){R:Type}(κ:KE→Option R):Option R:=
 match c.argTypes[0]? with
 |none=>none
 |some ty=>match b,args with
  | .len,[.one x]=>match G.elem ty with
   |some _=>(Vu F ks x).bind fun n=>κ ⟨.one (.n .i64 n),none,none⟩
   |none=>none
  | .min,[.one (.n k x),.one (.n _ y)]=>match aC G.ti ty with
   |some _=>κ ⟨.one (.n k (PF x y)),none,none⟩
   |none=>none
  | .max,[.one (.n k x),.one (.n _ y)]=>match aC G.ti ty with
   |some _=>κ ⟨.one (.n k (pk x y)),none,none⟩
   |none=>none
  | .append,[.one a,.one x]=>match G.elem ty,(c.argTypes[1]?).bind G.elem with
   |some (_,e,z),some _=>if e.size=z∧z≠0 then FC F ks nid e a x κ else none
   |_,_=>none
  | .copy,[.one (.o _ p),.one x]=>match G.elem ty,(c.argTypes[1]?).bind G.elem,aC ks.bl p with
   |some (_,e,z),some _,some (.rows e' ne l)=>if e.size=z∧z≠0 then match FB F ks e x with
    |some (xs,_)=>(ji (.S e') (.S e) ⟨true,0,l⟩).bind fun l=>(cpL l.l xs).bind fun lm=>κ ⟨.one (.n .i64 ((xs.length:Nat):Int)),some (p,.rows e ne lm),none⟩
    |none=>none
    else none
   |_,_,_=>none
  |_,_=>none
def PY:List (Bool×List KC)→KD
 | [d]=>mkD d
 |ds=> .tup ds
def Vv(nid:Nat):(o:OutK)→o.val→KE
 | .data fr ts,x=>⟨PY (rk fr ts x),none,none⟩
 | .own e,l=>⟨.one (.o e nid),none,some (.rows e false l)⟩
 | .mown e,l=>⟨.one (.m e nid),none,some (.mrows e l)⟩
 | .gown _,_=>⟨.one .nil,none,none⟩
def Kp(F:KF)(ks:KS)(nid:Nat)(en:dv)(args:List KD){R:Type}(κ:KE→Option R):Option R:=
 match en.out with
 | .data false _=>if args.all vm then(nN (aT F ks) en.ins args).bind fun a=>(en.f a).bind fun out=>κ (Vv nid en.out out)else none
 | .gown _=>none
 |_=>(nN (aT F ks) en.ins args).bind fun a=>(en.f a).bind fun out=>κ (Vv nid en.out out)
def rl(F:KF)(ks:KS)(c:Call):Option (FuncId×List KD):=
 match c.callee with
 | .value f=>match kO F ks f,lX F ks c.args.toList with
  |some (.one (.v (.func (.func k) first cap))),some args=>if first.size=0∧cap.size=0 then some (k,args)else none
  |some (.one (.clo k ps)),some args=>some (k,args++ps.map fun p=> .one (.ptr p 0))
  |_,_=>none
 |_=>none
def LJ:List KD→Option (List Nat)
 | []=>some []
 | .one (.ptr p j)::r=>if j=0 then(LJ r).map (p::·)else none
 |_=>none
def Ar(F:KF)(ks:KS)(o:Option Operand)(d:Int):Option Int:=
 match o with
 |none=>some d
 |some x=>match kO F ks x with
  |some (.one (.n _ i))=>some i
  |_=>none
def Vx{R:Type}(b:Bool)(n:Nat)(j m:Int)(x:Option R):Option R:=cond b (if j≤m∧m≤(n:Int)then x else none) x
theorem Ni{R:Type}{b:Bool}{n:Nat}{j m:Int}{x:Option R}{r:R}(h:Vx b n j m x=some r):x=some r∧(b=true→j≤m∧m≤(n:Int)):=by
 unfold Vx at h
 cases b with
 |false=>exact⟨h,fun h=>by simp at h⟩
 |true=>
  simp only [cond_true]at h;split at h
  ·rename_i hc;exact⟨h,fun _=>hc⟩
  ·simp at h
def dn(G:KG)(F:KF)(ks:KS)(tag nid:Nat)(op:Op){R:Type}(κ:KE→Option R):Option R:=
 match op with
 | .move x| .assign x=>(kO F ks x).bind fun d=>κ ⟨d,none,none⟩
 | .alloc t=>match aC G.ti t with
  |some i=>κ ⟨.one (.ptr nid 0),none,some (.box (i.zero.map kC))⟩
  |none=>none
 | .box t x=>match aC G.ti t,(kO F ks x).bind kCs with
  |some _,some cs=>κ ⟨.one (.ptr nid 0),none,some (.box cs)⟩
  |_,_=>none
 | .build t parts=>match aC G.ti t,kPlaces G.ti t,Ap F ks parts.toList with
  |some i,some pl,some ps=>(Ih pl (i.zero.map kC) ps).bind fun cs=>κ ⟨.agg cs,none,none⟩
  |_,_,_=>none
 | .buildSlice t len parts=>match G.elem t,Ap F ks parts.toList with
  |some (te,e,z),some ps=>match aC G.ti te with
   |some i=>if e.size=z∧z*len≤1000000 then(Ih (fun n=>some (n*z,z)) ((List.replicate len (i.zero.map kC)).flatten) ps).bind fun cs=>(CW z cs len 0).bind fun rs=>(rO e rs).bind fun l=>κ ⟨.one (.o e nid),none,some (.rows e (Nat.blt 0 len) l)⟩else none
   |none=>none
  |_,_=>none
 | .load t a=>match PX G.ti t,kO F ks a with
  |some z,some d=>kp F ks z d fun v=>κ ⟨v,none,none⟩
  |_,_=>none
 | .store t a x=>match PX G.ti t,kO F ks a,kO F ks x with
  |some z,some d,some v=>Ae ks z.1 d v κ
  |_,_,_=>none
 | .binOp op ty x y _=>match kO F ks x,kO F ks y with
  |some a,some b=>Ru G F ks tag op ty y a b κ
  |_,_=>none
 | .unOp op _ x=>match op,kO F ks x with
  | .not,some (.one (.b v))=>κ ⟨.one (.b (!v)),none,none⟩
  | .not,some (.one (.p _ P d))=>κ ⟨.one (.p tag (¬P) (@instDecidableNot P d)),none,none⟩
  | .not,some (.one (.bv x))=>κ ⟨.one (.p tag (¬x=true) (@instDecidableNot _ (instDecidableEqBool x true))),none,none⟩
  | .neg,some (.one (.n k x))=>κ ⟨.one (.n k (k.wrap (0 - x))),none,none⟩
  | .xor,some (.one (.n k x))=>κ ⟨.one (.n k (PM k x)),none,none⟩
  |_,_=>none
 | .convert src dst x=>match aC G.ti src,aC G.ti dst,kO F ks x with
  |some s,some d,some (.one (.n k a))=>match s.desc,d.desc with
   | .int k1,.int k2=>if k1=k then κ ⟨.one (.n k2 (k2.wrap a)),none,none⟩else none
   |_,_=>none
  |_,_,_=>none
 | .makeFunc fn first cap=>match fn,first.toList,(lX F ks cap.toList).bind LJ with
  | .func k,[],some ps=>κ ⟨.one (.clo k ps),none,none⟩
  |_,_,_=>none
 | .makeSlice t l c=>match G.elem t,kO F ks l,kO F ks c with
  |some (te,e,z),some (.one (.n _ n)),some (.one (.n _ m))=>match aC G.ti te with
   |some i=>if e.size=z∧z≠0 then(vd n m).bind fun _=>(gU n).bind fun _=>(dec noB e (i.zero.map kC)).bind fun x=>κ ⟨.one (.o e nid),none,some (.rows e false (List.replicate n.toNat x))⟩else none
   |none=>none
  |_,_,_=>none
 | .slice t x lo hi mx=>match mx.isSome && hi.isNone,G.elem t,kO F ks x with
  |false,some (te,e,z),some (.one (.s e' fr s))=>match Ar F ks lo 0,Ar F ks hi ((s.l.length:Nat):Int),Ar F ks mx ((s.l.length:Nat):Int)with
   |some i,some j,some m=>Vx mx.isSome s.l.length j m ((kq z s i j).bind fun s'=>κ ⟨.one (.s e' fr s'),none,none⟩)
   |_,_,_=>none
  |_,_,_=>none
 | .fieldAddr t x f=>match Sj G.ti t f,kO F ks x with
  |some (off,sz,_),some (.one (.ptr p j))=>if sz=0 then none else κ ⟨.one (.ptr p (j+off)),none,none⟩
  |some (off,sz,_),some (.one (.pe p i j))=>if sz=0 then none else κ ⟨.one (.pe p i (j+off)),none,none⟩
  |some (off,sz,_),some (.one (.ip e fr x i y j))=>if sz=0 then none else κ ⟨.one (.ip e fr x i y (j+off)),none,none⟩
  |_,_=>none
 | .field t x f=>match Sj G.ti t f,kO F ks x with
  |some (off,sz,ag),some (.agg cs)=>((cut cs off (wd (sz,ag))).bind (kOf ag)).bind fun d=>κ ⟨d,none,none⟩
  |_,_=>none
 | .indexAddr t x ix=>match kO F ks x,kO F ks ix with
  |some (.one (.s e fr s)),some (.one (.n _ i))=>match G.elem t with
   |some (_,_,z)=>(atS z s i).bind fun y=>κ ⟨.one (.ip e fr s i y 0),none,none⟩
   |none=>none
  |some (.one (.o _ p)),some (.one (.n _ i))=>match G.elem t,aT F ks p with
   |some (_,_,z),some (.rows e _ l)=>if e.size=z then(atL l i).bind fun _=>κ ⟨.one (.pe p i 0),none,none⟩else none
   |_,_=>none
  |some (.one (.m _ p)),some (.one (.n _ i))=>match G.elem t,aT F ks p with
   |some (_,_,z),some (.mrows e l)=>if e.size=z then(atL l i).bind fun _=>κ ⟨.one (.pe p i 0),none,none⟩else none
   |_,_=>none
  |some (.one (.ptr p j)),some (.one (.n _ (.ofNat a)))=>match aC G.ti t with
   |some ti=>match ti.desc with
    | .array n e=>match aC G.ti e with
     |some te=>if a<n then κ ⟨.one (.ptr p (j+a*te.size)),none,none⟩else none
     |none=>none
    |_=>none
   |none=>none
  |some (.one (.ip e fr s i y j)),some (.one (.n _ (.ofNat a)))=>match aC G.ti t with
   |some ti=>match ti.desc with
    | .array n e'=>match aC G.ti e' with
     |some te=>if a<n then κ ⟨.one (.ip e fr s i y (j+a*te.size)),none,none⟩else none
     |none=>none
    |_=>none
   |none=>none
  |_,_=>none
 | .index t x ix=>match aC G.ti t,kO F ks x,kO F ks ix with
  |some ti,some (.agg cs),some (.one (.n _ (.ofNat a)))=>match ti.desc with
   | .array n e=>match aC G.ti e with
    |some te=>if a<n then((cut cs (a*te.size) (wd (te.size,bI te.desc))).bind (kOf (bI te.desc))).bind fun d=>κ ⟨d,none,none⟩else none
    |none=>none
   |_=>none
  |_,_,_=>none
 | .extract x i=>match kO F ks x with
  |some (.tup ds)=>(ds[i]?).bind fun d=>κ ⟨mkD d,none,none⟩
  |_=>none
 | .call c=>match c.callee with
  | .builtin b=>(lX F ks c.args.toList).bind fun args=>Aq G F ks nid c b args κ
  |_=>match rl F ks c with
   |some (k,args)=>match G.fn k with
    |some en=>Kp F ks nid en args κ
    |none=>none
   |none=>none
 |_=>none
def rm(tag:Nat)(v:Bool):KC→KC
 | .p t P d=>cond (Nat.beq t tag) (.b v) (.p t P d)
 |c=>c
def Vy(tag:Nat)(v:Bool):KD→KD
 | .one c=> .one (rm tag v c)
 | .agg cs=> .agg (cs.map (rm tag v))
 | .tup ds=> .tup ds
def PZ(tag:Nat)(v:Bool):KB→KB
 | .box cs=> .box (cs.map (rm tag v))
 |b=>b
def subst(tag:Nat)(v:Bool)(ks:KS):KS:={ks with sl:=ks.sl.map fun x=>(x.1,Vy tag v x.2),bl:=ks.bl.map fun x=>(x.1,PZ tag v x.2)}
def kIf(c:KC)(ks:KS){R:Type}(κ:Bool→KS→Option R):Option R:=
 match c with
 | .b v=>κ v ks
 | .p tag P d=> @ite _ P d (κ true (subst tag true ks)) (κ false (subst tag false ks))
 | .bv x=>if x=true then κ true ks else κ false ks
 |_=>none
def qw(tag:Nat):KD→KD
 | .one (.bv x)=> .one (.p tag (x=true) (instDecidableEqBool x true))
 |d=>d
def blU(e:KE)(bl:List (Nat×KB)):List (Nat×KB):=
 match e.upd with
 |some x=>x::bl
 |none=>bl
def blE(e:KE)(nid:Nat)(bl:List (Nat×KB)):List (Nat×KB):=
 match e.new with
 |some b=>(nid,b)::blU e bl
 |none=>blU e bl
def slE(dst:Option Tmp)(v:KD)(sl:List (Nat×KD)):List (Nat×KD):=
 match dst with
 |some d=>(d,v)::sl
 |none=>sl
def Kq(dst:Option Tmp)(tag nid:Nat)(e:KE)(ks:KS):KS:={sl:=slE dst (qw tag e.v) ks.sl,bl:=blE e nid ks.bl,nx:=ks.nx+2}
def lD(F:KF):Option Tmp→Bool
 |some d=>Nat.blt d F.nt
 |none=>true
def CX(dst:Option Tmp)(ks:KS):KS:={ks with sl:=slE dst kUn ks.sl}
def CY(F:KF)(op:Op)(ks:KS){R:Type}(κ:Op→KS→Option R):Option R:=
 match op with
 | .pick c a b=>match kO F ks c with
  |some (.one c)=>kIf c ks fun t ks=>κ (.move (cond t a b)) ks
  |_=>none
 |op=>κ op ks
def CZ(F:KF)(ops:List Oper)(o:Oper)(ks:KS){R:Type}(κ:Bool→KS→Option R):Option R:=
 cond (lD F o.dst) (match o.guard with
 |none=>κ true ks
 |some (j,w)=>match(ops[j]?).bind fun g=>g.dst with
  |some d=>match nb F ks d with
   |some (.one c)=>kIf c ks fun b ks=>κ (b==w) ks
   |some (.tup [])=>κ false ks
   |_=>none
  |none=>none) none
abbrev Da:=(R:Type)→KF→FuncId→List KD→KS→(KD→KS→Option R)→Option R
def As(G:KG)(F:KF)(ks:KS)(op:Op):Option (FuncId×List KD):=
 match op with
 | .call c=>match c.callee with
  | .builtin _=>none
  |_=>match rl F ks c with
   |some (k,args)=>match aC G.fi k with
    |some _=>some (k,args)
    |none=>none
   |none=>none
 |_=>none
def BV(G:KG)(call:Da)(F:KF)(ops:List Oper){R:Type}(κ:KS→Option R):List Oper→KS→Option R
 | [],ks=>κ ks
 |o::r,ks=>CZ F ops o ks fun w ks=>cond w
   (CY F o.op ks fun op ks=>match As G F ks op with
    |some (k,args)=>match o.dst with
     |some d=>call R F k args ks fun v ks2=>BV G call F ops κ r {ks2 with sl:=(d,v)::ks.sl}
     |none=>none
    |none=>dn G F ks ks.nx (ks.nx+1) op fun e=>BV G call F ops κ r (Kq o.dst ks.nx (ks.nx+1) e ks))
   (BV G call F ops κ r (CX o.dst ks))
def rn(G:KG)(F:KF)(ops:List Oper){R:Type}(κ:KS→Option R):List Oper→KS→Option R
 | [],ks=>κ ks
 |o::r,ks=>CZ F ops o ks fun w ks=>cond w
   (CY F o.op ks fun op ks=>dn G F ks ks.nx (ks.nx+1) op fun e=>match e.upd,e.new with
    |none,none=>rn G F ops κ r (Kq o.dst ks.nx (ks.nx+1) e ks)
    |_,_=>none)
   (rn G F ops κ r (CX o.dst ks))
end K
end Ev
end
noncomputable section
namespace Ev
namespace K
open Go Go.RowKit
inductive Sh where
 |d (fr:Bool) (t:Ty)
 |o (e:Ty)
 |m (e:Ty)
 |w (e:Ty)
@[reducible] def Sh.T:Sh→Type
 | .d _ t=>t.val
 | .o e=>List e.val
 | .m e=>List e.val
 | .w e=>List e.val
@[reducible] def ec:List Sh→Type
 | []=>Unit
 | [h]=>h.T
 |h::r=>h.T×ec r
inductive BR where
 |sl (i j:Nat)
 |bx (i j:Nat)
structure Pt where
 vs:List (Nat×Bool×List Sh)
 bs:List (Nat×List Sh)
 ws:List (BR×Ty):= []
def wSh(x:BR×Ty):Sh:= .w x.2
def Pt.sh(p:Pt):List Sh:=p.vs.flatMap (·.2.2)++(p.bs.flatMap (·.2)++p.ws.map wSh)
@[reducible] def XT:List (Ex×Pt)→Type
 | []=>Empty
 |x::r=>ec x.2.sh ⊕ XT r
structure Ii where
 join:Bool:=false
 key:Nat
 sz:Nat:=0
 keep:List Nat
 head:Pt
 exs:List (Ex×Pt)
def Db(ks:KS):(h:Sh)→KC→{R:Type}→(h.T→Option R)→Option R
 | .d fr t,c,_,κ=>if fr=true∧frC c=false then none else(qd noB t c).bind κ
 | .o e,.o _ p,_,κ=>match aC ks.bl p with
  |some (.rows e' _ l)=>(ji (.S e') (.S e) ⟨true,0,l⟩).bind fun l=>κ l.l
  |_=>none
 | .w e,.o _ p,_,κ=>match aC ks.bl p with
  |some (.rows e' _ l)=>(ji (.S e') (.S e) ⟨true,0,l⟩).bind fun l=>κ l.l
  |_=>none
 | .m e,.nil,_,κ=>κ []
 | .m e,.m _ p,_,κ=>match aC ks.bl p with
  |some (.mrows e' l)=>(ji (.S e') (.S e) ⟨true,0,l⟩).bind fun l=>κ l.l
  |_=>none
 | .m e,.o _ p,_,κ=>match aC ks.bl p with
  |some (.rows e' ne l)=>(ji (.S e') (.S e) ⟨true,0,l⟩).bind fun l=>cond ne (κ l.l) ((neL l.l).bind fun _=>κ l.l)
  |_=>none
 |_,_,_,_=>none
def qe(ks:KS):(hs:List Sh)→List KC→{R:Type}→(ec hs→Option R)→Option R
 | [],[],_,κ=>κ ()
 | [h],[c],_,κ=>Db ks h c κ
 |h::h'::r,c::cs,_,κ=>Db ks h c fun x=>qe ks (h'::r) cs fun y=>κ (x,y)
 |_,_,_,_=>none
def cD(q:Nat):(h:Sh)→h.T→KC×List (Nat×KB)
 | .d _ .B,x=>(.bv x,[])
 | .d fr t,x=>(match dQ fr t x with
  |c::_=>c
  | []=> .nil,[])
 | .o e,l=>(.o e q,[(q,.rows e false l)])
 | .m e,l=>(.m e q,[(q,.mrows e l)])
 | .w e,l=>(.o e q,[])
def wC:(h:Sh)→h.T→KB
 | .w e,l=> .rows e false l
 |_,_=> .dead
def wCs:(hs:List Sh)→ec hs→List KB
 | [],_=> []
 | [h],x=> [wC h x]
 |h::h'::r,x=>wC h x.1::wCs (h'::r) x.2
def bi:(hs:List Sh)→ec hs→Nat→List (KC×List (Nat×KB))
 | [],_,_=> []
 | [h],x,q=> [cD q h x]
 |h::h'::r,x,q=>cD q h x.1::bi (h'::r) x.2 (q+1)
def rp(F:KF)(ks:KS):List (Nat×Bool×List Sh)→Option (List KC)
 | []=>some []
 |v::r=>match nb F ks v.1 with
  |some (.one c)=>if v.2.1 then none else if v.2.2.length=1 then(rp F ks r).map (c::·)else none
  |some (.agg cs)=>if v.2.1 then if v.2.2.length=cs.length then(rp F ks r).map (cs++·)else none else none
  |_=>none
def fF(F:KF)(ks:KS)(i:Nat):Option Nat:=
 match nb F ks i with
 |some (.one (.ptr p j))=>if j=0 then some p else none
 |_=>none
def qf(F:KF)(ks:KS):List (Nat×List Sh)→Option (List KC)
 | []=>some []
 |v::r=>match(fF F ks v.1).bind (aC ks.bl)with
  |some (.box cs)=>if v.2.length=cs.length then(qf F ks r).map (cs++·)else none
  |_=>none
def brC(F:KF)(ks:KS):BR→Option KC
 | .sl i j=>match nb F ks i with
  |some (.one c)=>some c
  |some (.agg cs)=>cs[j]?
  |_=>none
 | .bx i j=>match fF F ks i with
  |some p=>match bS ks.bl F.bl p with
   |some (.box cs)=>cs[j]?
   |_=>none
  |none=>none
def jk(F:KF)(ks:KS)(w:BR):Option Nat:=
 match brC F ks w with
 |some (.o _ p)=>some p
 |_=>none
def At(F:KF)(ks:KS):List (BR×Ty)→Option (List KC)
 | []=>some []
 |v::r=>match jk F ks v.1 with
  |some p=>(At F ks r).map (.o v.2 p::·)
  |none=>none
def gB(F:KF)(ks:KS)(p:Pt):Option (List KC):=(rp F ks p.vs).bind fun a=>(qf F ks p.bs).bind fun b=>(At F ks p.ws).map fun c=>a++(b++c)
def cL:List KC→List Nat
 | []=> []
 | .o _ p::r=>p::cL r
 | .m _ p::r=>p::cL r
 |_::r=>cL r
def lT:List Nat→Bool
 | []=>true
 |a::r=> !(r.any (Nat.beq a))&& lT r
def vn(F:KF)(ks:KS)(p:Pt){R:Type}(κ:ec p.sh→Option R):Option R:=
 match gB F ks p with
 |some cs=>cond (lT (cL cs)) (qe ks p.sh cs κ) none
 |none=>none
def kM:List (Nat×Bool×List Sh)→List KC→List (Nat×KD)
 | [],_=> []
 |v::r,cs=>(v.1,if v.2.1 then .agg (cs.take v.2.2.length)else match cs with
  |c::_=> .one c
  | []=>kUn)::kM r (cs.drop v.2.2.length)
def gC(F:KF)(ks:KS):List (Nat×List Sh)→List KC→List (Nat×KB)
 | [],_=> []
 |v::r,cs=>match fF F ks v.1 with
  |some p=>(p,.box (cs.take v.2.length))::gC F ks r (cs.drop v.2.length)
  |none=>gC F ks r (cs.drop v.2.length)
def iv(F:KF)(ks:KS):List (BR×Ty)→List KB→List (Nat×KB)
 | [],_=> []
 |_,[]=> []
 |v::r,b::bs=>match jk F ks v.1 with
  |some p=>(p,b)::iv F ks r bs
  |none=>iv F ks r bs
def mm(l:List (Nat×Bool×List Sh)):Nat:=(l.flatMap (·.2.2)).length
def sa(l:List (Nat×List Sh)):Nat:=(l.flatMap (·.2)).length
def jO(F:KF)(ks:KS):Bool:=F.sl.all fun x=>(aC ks.sl x.1).isNone
def sB(F:KF)(ks:KS):List Nat→List (Nat×KD)
 | []=> []
 |i::r=>match aC ks.sl i with
  |some d=>(i,d)::sB F ks r
  |none=>sB F ks r
def rq(F:KF)(ks:KS):List (Nat×List Sh)→List Nat
 | []=> []
 |v::r=>match fF F ks v.1 with
  |some p=>p::rq F ks r
  |none=>rq F ks r
def ee(F:KF)(ks:KS)(a:Ii)(cs:List KC):List Nat:=cL cs++rq F ks a.head.bs
def aY(F:KF)(ks:KS)(a:Ii)(cs:List KC):KF:={nt:=F.nt,sl:=sB F ks a.keep++F.sl,bl:=(ee F ks a cs).map (fun p=>(p,.dead))++(ks.bl++F.bl)}
def cu(F:KF)(ks:KS)(p:Pt)(x:ec p.sh):KS:=
 let w:=bi p.sh x ks.nx
 let cs:=w.map (·.1)
 {sl:=kM p.vs cs,bl:=gC F ks p.bs (cs.drop (mm p.vs))++(iv F ks p.ws ((wCs p.sh x).drop (mm p.vs+sa p.bs))++w.flatMap (·.2)),nx:=ks.nx+p.sh.length}
def vo:Ex→Ex→Bool
 | .normal,.normal=>true
 | .ret,.ret=>true
 | .exit a,.exit b=>Nat.beq a b
 |_,_=>false
def vp(F:KF)(ks:KS)(e:Ex):(l:List (Ex×Pt))→{R:Type}→(XT l→Option R)→Option R
 | [],_,_=>none
 |x::r,_,κ=>cond (vo e x.1) (vn F ks x.2 fun v=>κ (.inl v)) (vp F ks e r fun v=>κ (.inr v))
def Au(F:KF)(ks:KS)(keep dead:List Nat)(p:Pt)(v:ec p.sh):KS:=
 let s:=cu F ks p v
 {s with sl:=s.sl++sB F ks keep,bl:=s.bl++(dead.map (fun p=>(p,.dead))++ks.bl)}
def afterX(F:KF)(ks:KS)(keep:List Nat)(dead:List Nat):(l:List (Ex×Pt))→XT l→{R:Type}→(Ex→KS→Option R)→Option R
 | [],x,_,_=>nomatch x
 |x::r,v,_,κ=>Sum.elim (fun v=>κ x.1 (Au F ks keep dead x.2 v)) (fun v=>afterX F ks keep dead r v κ) v
def kNil:KS:=⟨[],[],0⟩
def sb(F0:KF)(ks:KS)(F:KF)(p:Pt):Bool:=(p.bs.all fun v=>(aC F.sl v.1).isSome)&& p.ws.all fun v=>match jk F0 ks v.1,jk F kNil v.1 with
 |some a,some b=>Nat.beq a b
 |_,_=>false
def iw:Code→Option Nat
 | .region id _ _=>some id
 | .seq a b=>match iw a with
  |some i=>some i
  |none=>iw b
 | .cond _ a b=>match iw a with
  |some i=>some i
  |none=>iw b
 | .block _ b=>iw b
 | .loop b=>iw b
 | .scope b=>iw b
 |_=>none
def vq:Code→Nat
 | .seq a b=>vq a+vq b+1
 | .cond _ a b=>vq a+vq b+1
 | .block _ b=>vq b+1
 | .loop b=>vq b+1
 | .scope b=>vq b+1
 |_=>1
structure XF where
 old:List (List BR)
 new:List (Bool×List Nat)
structure Sk where
 lp:List Ii:= []
 tn:List (Nat×XF):= []
def Vz:KC→Option Nat
 | .o _ p=>some p
 | .m _ p=>some p
 | .ptr p _=>some p
 |_=>none
def Ud(F:KF)(ks:KS):List BR→Option (List Nat)
 | []=>some []
 |b::r=>match brC F ks b,Ud F ks r with
  |some .nil,l=>l
  |some c,some l=>match Vz c with
   |some p=>some (p::l)
   |none=>none
  |_,_=>none
def Kr(F:KF)(ks:KS):List (List BR)→Option (List (List Nat))
 | []=>some []
 |b::r=>match Ud F ks b,Kr F ks r with
  |some p,some l=>some (p::l)
  |_,_=>none
def vr(ids:List Nat)(ks:KS):KS:={ks with bl:=ids.map (fun p=>(p,.dead))++ks.bl}
def XG:Option Nat→List Nat
 |some p=> [p]
 |none=> []
def iS(Rl O:List (List Nat))(N:List (Bool×List Nat))(nw:List (Nat×Nat))(i:Nat):List Nat:=
 (Rl.getD i []).flatMap fun j=>O.getD j []++((N.getD j (false,[])).2.flatMap (fun q=>XG (aC nw q))++cond (N.getD j (false,[])).1 (XG (aC nw j)) [])
def XH:KC→Option Nat
 | .o _ p=>some p
 | .m _ p=>some p
 |_=>none
def xB(ids:List Nat)(c:KC):Bool:=
 match XH c with
 |some p=> !(ids.any (Nat.beq p))
 |none=>true
def Av(ids:List Nat):KD→Bool
 | .one c=>xB ids c
 | .agg cs=>cs.all (xB ids)
 | .tup ts=>ts.all fun x=>x.2.all (xB ids)
def Qa(ids:List Nat):KB→Bool
 | .box cs=>cs.all (xB ids)
 |_=>true
def isM:KB→Bool
 | .mrows _ _=>true
 |_=>false
def Qb(ks0 ks:KS)(p:Nat):Bool:=
 match aC ks0.bl p,aC ks.bl p with
 |some x,some y=>(match x with
  | .dead=>false
  |_=>isM x==isM y)
 |_,_=>false
def Ks(ks:KS)(nw:List (Nat×Nat))(p j:Nat):Bool:=
 (match aC nw j with
  |some q=>Nat.beq p q
  |none=>false)&&(match aC ks.bl p with
  |some y=> !isM y
  |none=>false)
def Dc(ks0 ks:KS)(nw:List (Nat×Nat))(p:Nat):List Nat→List Nat→Bool
 | [q],[]=>Nat.beq p q && Qb ks0 ks p
 | [],[j]=>Ks ks nw p j
 |_,_=>false
def De(ks0 ks:KS)(O:List (List Nat))(N:List (Bool×List Nat))(nw:List (Nat×Nat))(i:Nat)(ids:List Nat)(e:KE):Bool:=
 Av ids e.v &&(match e.upd with
  |none=>(O.getD i []).isEmpty &&(N.getD i (false,[])).2.isEmpty
  |some (p,b)=>Qa ids b && Dc ks0 ks nw p (O.getD i []) (N.getD i (false,[])).2)&&(match e.new with
  |none=> !(N.getD i (false,[])).1
  |some b=>(N.getD i (false,[])).1 && Qa ids b && !isM b)
def nwE(e:KE)(i nid:Nat)(nw:List (Nat×Nat)):List (Nat×Nat):=
 match e.new with
 |some _=>(i,nid)::nw
 |none=>nw
def Kt(O:List (List Nat))(N:List (Bool×List Nat))(i:Nat):Bool:=(O.getD i []).isEmpty &&(N.getD i (false,[])).2.isEmpty && !(N.getD i (false,[])).1
def xC(G:KG)(F:KF)(ops:List Oper)(Rl O:List (List Nat))(N:List (Bool×List Nat))(ks0:KS){R:Type}(κ:KS→Option R):Nat→List (Nat×Nat)→List Oper→KS→Option R
 |_,_,[],ks=>κ ks
 |i,nw,o::r,ks=>CZ F ops o ks fun w ks=>cond w
   (CY F o.op ks fun op ks=>dn G F (vr (iS Rl O N nw i) ks) ks.nx (ks.nx+1) op fun e=>
    cond (De ks0 ks O N nw i (iS Rl O N nw i) e) (xC G F ops Rl O N ks0 κ (i+1) (nwE e i (ks.nx+1) nw) r (Kq o.dst ks.nx (ks.nx+1) e ks)) none)
   (cond (Kt O N i) (xC G F ops Rl O N ks0 κ (i+1) nw r (CX o.dst ks)) none)
def Qc(a b:List Nat):Bool:=a.all fun x=> !(b.any (Nat.beq x))
def djB:List (List Nat)→List (List Nat)→List (List Nat)→Bool
 |o::os,r::rs,O=>(r.all fun j=>Qc o (O.getD j []))&& djB os rs O
 |_,_,_=>true
def FD(ks:KS)(O:List (List Nat)):Bool:=O.all fun l=>l.all fun p=>match aC ks.bl p with
 |some .dead=>false
 |some _=>true
 |none=>false
def iV(G:KG)(A:Sk)(call:Da):Code→(R:Type)→KF→KS→(Ex→KS→Option R)→Option R
 | .skip,_,F,ks,κ=>κ .normal ks
 | .region id ops draw,R,F,ks,κ=>cond draw
   (cond (fT ops) (match aC A.tn id with
    |none=>rn G F ops.toList (κ .normal) ops.toList ks
    |some T=>match Kr F ks T.old with
     |some O=>cond (pd ops T.new && djB O (io ops) O && FD ks O) (xC G F ops.toList (io ops) O T.new ks (κ .normal) 0 [] ops.toList ks) none
     |none=>none) (match qk ops with
    |some m=>cond (nM ops) (rn G F ops.toList (BV G call F ops.toList (κ .normal) (ops.toList.drop m)) (ops.toList.take m) ks) none
    |none=>none))
   (BV G call F ops.toList (κ .normal) ops.toList ks)
 | .seq a b,R,F,ks,κ=>match A.lp.find? fun z=>z.join &&(some z.key==iw a && Nat.beq z.sz (vq a))with
  |none=>iV G A call a R F ks fun e ks=>match e with
   | .normal=>iV G A call b R F ks κ
   |e=>κ e ks
  |some z=>match gB F ks z.head,jO F ks with
   |some cs,true=>cond (sb F ks (aY F ks z cs) z.head && z.exs.all fun x=>sb F ks (aY F ks z cs) x.2) (vn F ks z.head fun x0=>
    let F':=aY F ks z cs
    (iV G A call a (XT z.exs) F' (cu F ks z.head x0) fun e ks2=>cond (jO F' ks2) (vp F' ks2 e z.exs some) none).bind fun y=>afterX F ks z.keep (ee F ks z cs) z.exs y fun e ks=>match e with
     | .normal=>iV G A call b R F ks κ
     |e=>κ e ks) none
   |_,_=>none
 | .cond c a b,R,F,ks,κ=>match kO F ks c with
  |some (.one c)=>kIf c ks fun t ks=>cond t (iV G A call a R F ks κ) (iV G A call b R F ks κ)
  |_=>none
 | .block id b,R,F,ks,κ=>iV G A call b R F ks fun e ks=>κ (cond (vo e (.exit id)) .normal e) ks
 | .loop b,R,F,ks,κ=>match A.lp.find? fun a=> !a.join && some a.key==iw b with
  |none=>none
  |some a=>match gB F ks a.head,jO F ks with
   |some cs,true=>cond (sb F ks (aY F ks a cs) a.head && a.exs.all fun x=>sb F ks (aY F ks a cs) x.2 && !vo x.1 .normal) (vn F ks a.head fun x0=>
    let F':=aY F ks a cs
    (aL (fun x=>iV G A call b (ec a.head.sh ⊕ XT a.exs) F' (cu F ks a.head x) fun e ks2=>cond (jO F' ks2) (match e with
     | .normal=>vn F' ks2 a.head fun y=>some (.inl y)
     |e=>vp F' ks2 e a.exs fun y=>some (.inr y)) none) x0).bind fun y=>afterX F ks a.keep (ee F ks a cs) a.exs y κ) none
   |_,_=>none
 | .exit id,_,F,ks,κ=>κ (.exit id) ks
 | .ret,_,F,ks,κ=>κ .ret ks
 | .label _,_,F,ks,κ=>κ .normal ks
 | .scope b,R,F,ks,κ=>iV G A call b R F ks κ
 |_,_,_,_,_=>none
def BW:Nat→List KD→List (Nat×KD)
 |_,[]=> []
 |i,d::r=>(i,d)::BW (i+1) r
def tupK:List KD→Option KD
 | [d]=>some d
 |ds=>(tups ds).map .tup
where
 tups:List KD→Option (List (Bool×List KC))
  | []=>some []
  | .one c::r=>(tups r).map ((false,[c])::·)
  | .agg cs::r=>(tups r).map ((true,cs)::·)
  |_=>none
def FE(G:KG)(F:KF)(ks:KS):List ResultVar→{R:Type}→(List KD→Option R)→Option R
 | [],_,κ=>κ []
 | .tmp t::r,_,κ=>(nb F ks t).bind fun d=>FE G F ks r fun l=>κ (d::l)
 | .cell a ty::r,_,κ=>match PX G.ti ty,nb F ks a with
  |some z,some d=>kp F ks z d fun v=>FE G F ks r fun l=>κ (v::l)
  |_,_=>none
def xD:Ex→Bool
 | .exit _=>false
 |_=>true
abbrev iy:=List (FuncId×Sk)
def Ue(A:iy)(k:FuncId):Sk:=
 match aC A k with
 |some l=>l
 |none=>{}
def Ij(G:KG)(A:iy):Nat→Da
 |0,_,_,_,_,_,_=>none
 |n+1,R,F,k,args,ks,κ=>match aC G.fi k with
  |some f=>if args.length≤f.nt then iV G (Ue A k) (Ij G A n) f.body R {F with sl:= [],nt:=f.nt} {ks with sl:=BW 0 args} fun e ks2=>cond (xD e) (FE G {F with sl:= [],nt:=f.nt} ks2 f.results fun ds=>(tupK ds).bind fun d=>κ d ks2) none else none
  |none=>none
def frD:KD→Bool
 | .one c=>frC c
 | .agg cs=>cs.all frC
 | .tup _=>false
def wn:List KD→Bool
 | [.one (.o _ _)]=>true
 | [.one (.m _ _)]=>true
 |_=>false
def Qd(B:Nat→Option KB)(e:Ty):List KD→Option (List e.val)
 | [.one (.o _ p)]=>match B p with
  |some (.rows e' _ l)=>if e.plain then(ji (.S e') (.S e) ⟨true,0,l⟩).map (·.l)else none
  |_=>none
 |_=>none
def LK(B:Nat→Option KB)(e:Ty):List KD→Option (List e.val)
 | [.one .nil]=>some []
 | [.one (.m _ p)]=>match B p with
  |some (.mrows e' l)=>if e.plain then(ji (.S e') (.S e) ⟨true,0,l⟩).map (·.l)else none
  |_=>none
 | [.one (.o _ p)]=>match B p with
  |some (.rows e' ne l)=>if e.plain && ne then(ji (.S e') (.S e) ⟨true,0,l⟩).map (·.l)else none
  |_=>none
 |_=>none
def LL(B:Nat→Option KB)(e:Ty):List KD→Option (Sl e.val)
 | [.one .nil]=>some ⟨false,0,[]⟩
 | [.one (.m _ p)]=>match B p with
  |some (.mrows e' l)=>if e.plain then(ji (.S e') (.S e) ⟨true,0,l⟩).map (fun s=>mo e.size s.l)else none
  |_=>none
 | [.one (.o _ p)]=>match B p with
  |some (.rows e' ne l)=>if e.plain then(ji (.S e') (.S e) ⟨true,0,l⟩).map (fun s=>⟨true,e.size,s.l⟩)else none
  |_=>none
 |_=>none
def FF(B:Nat→Option KB):(o:OutK)→List KD→Option o.val
 | .data fr ts,ds=>if wn ds||(fr && !(ds.all frD))then none else nN B ts ds
 | .own e,ds=>Qd B e ds
 | .mown e,ds=>LK B e ds
 | .gown e,ds=>LL B e ds
def LM(ts:List TyD)(x:vals ts):List (Nat×KD):=BW 0 ((rk false ts x).map mkD)
def jy(G:KG)(A:iy)(f:FI)(k:FuncId)(n:Nat)(ins:List TyD)(out:OutK)(x:vals ins):Option out.val:=
 iV G (Ue A k) (Ij G A n) f.body out.val {nt:=f.nt} {sl:=LM ins x,bl:= [],nx:=0} fun e ks=>cond (xD e) (FE G {nt:=f.nt} ks f.results fun ds=>FF (aT {nt:=f.nt} ks) out ds) none
end K
end Ev
end
noncomputable section
namespace Ev
namespace K
open Go Go.RowKit
structure Vl where
 id:Nat→Nat
 bo:Nat→Bool
def KB.there:KB→Prop
 | .dead=>False
 | .mrows _ l=>l≠[]
 |_=>True
abbrev BK:=Nat→Option KB
def RC(B:BK)(V:Vl):KC→C→Prop
 | .n k x,c=>c=iC k x
 | .b v,c=>c=bC v
 | .p tag P d,c=>c=bC (V.bo tag)∧V.bo tag= @decide P d
 | .bv x,c=>c=bC x
 | .v x,c=>c= .p true (.v x)
 | .nil,c=>c= .p true (.s false 0 [])
 | .s e fr x,c=>∃f,c= .p f (Sl.t e.row x)∧(fr=true→f=true)
 | .o e p,c=>∀e' ne l,B p=some (.rows e' ne l)→c= .own (V.id p) 0 l.length
 | .m e p,c=>∀e' l,B p=some (.mrows e' l)→c=moC l (V.id p)
 | .ptr p j,c=>c= .ptr (V.id p) 0 j
 | .pe p i j,c=>0≤i∧c= .ptr (V.id p) i.toNat j
 | .ip e fr x i y j,c=>∃f,c= .iptr f x.sz (x.l.map e.row) i.toNat j∧x.l[i.toNat]? =some y∧(fr=true→f=true)
 | .clo fn ps,c=>c= .clo (.func fn) [] (ps.map fun p=> .ptr (V.id p) 0 0)
 | .yld p,c=>c= .yld (V.id p)
def Sc(N:Nat):KC→Prop
 | .p tag _ _=>tag<N
 | .o _ p=>p<N
 | .m _ p=>p<N
 | .ptr p _=>p<N
 | .pe p _ _=>p<N
 | .yld p=>p<N
 | .clo _ ps=>∀p∈ps,p<N
 |_=>True
def RCs(B:BK)(V:Vl):List KC→List C→Prop
 | [],cs=>cs= []
 |k::r,cs=>∃c s,cs=c::s∧RC B V k c∧RCs B V r s
def Scs(N:Nat)(l:List KC):Prop:=∀c∈l,Sc N c
def RD1(B:BK)(V:Vl)(k:KD)(d:D):Prop:=
 match k with
 | .one c=>∃c',d= .one c'∧RC B V c c'
 | .agg cs=>∃cs',d= .agg cs'∧RCs B V cs cs'
 | .tup _=>False
def RTs(B:BK)(V:Vl):List (Bool×List KC)→List D→Prop
 | [],ds=>ds= []
 |x::r,ds=>∃d s,ds=d::s∧RD1 B V (mkD x) d∧RTs B V r s
def RD(B:BK)(V:Vl)(k:KD)(d:D):Prop:=
 match k with
 | .tup ts=>∃ds,d= .tup ds∧RTs B V ts ds
 |k=>RD1 B V k d
def ScD(N:Nat):KD→Prop
 | .one c=>Sc N c
 | .agg cs=>Scs N cs
 | .tup ts=>∀x∈ts,Scs N x.2
def BlkIs(B:BK)(V:Vl)(x:Blk):KB→Prop
 | .box cs=>∃sz cs',x= .own sz [cs']∧RCs B V cs cs'
 | .rows e ne l=>x= .own e.size (l.map (be e.row))∧(ne=true→l≠[])
 | .mrows e l=>x= .own e.size (l.map (be e.row))
 | .dead=>x= .dead
def RB(B:BK)(V:Vl)(h:aE)(k:Nat):KB→Prop
 | .box cs=>∃sz cs',aP h k=some (sz,[cs'])∧RCs B V cs cs'
 | .rows e ne l=>aP h k=some (e.size,l.map (be e.row))∧(ne=true→l≠[])
 | .mrows e l=>l≠[]→aP h k=some (e.size,l.map (be e.row))
 | .dead=>True
def ScB(N:Nat):KB→Prop
 | .box cs=>Scs N cs
 |_=>True
structure Rel(F:KF)(ks:KS)(V:Vl)(f:Nat→D)(h:aE):Prop where
 sl:∀i d,nb F ks i=some d→i<F.nt∧ScD ks.nx d∧RD (aT F ks) V d (f i)
 bl:∀p b,aT F ks p=some b→p<ks.nx∧ScB ks.nx b∧RB (aT F ks) V h (V.id p) b
 inj:∀p q b b',aT F ks p=some b→aT F ks q=some b'→b.there→b'.there→V.id p=V.id q→p=q
def LeB(N:Nat)(B B':BK):Prop:=∀p,p<N→(∀e ne l',B' p=some (.rows e ne l')→∃e0 ne0 l0,B p=some (.rows e0 ne0 l0)∧l0.length=l'.length)∧∀e l',B' p=some (.mrows e l')→∃e0 l0,B p=some (.mrows e0 l0)∧l0.length=l'.length
def Agree(N:Nat)(V V':Vl):Prop:=∀q,q<N→V'.id q=V.id q∧V'.bo q=V.bo q
theorem LeB.refl(N:Nat)(B:BK):LeB N B B:=fun p hp=>⟨fun e ne l h=>⟨e,ne,l,h,rfl⟩,fun e l h=>⟨e,l,h,rfl⟩⟩
theorem LeB.trans{N M:Nat}{B B' B'':BK}(h:LeB N B B')(h':LeB M B' B'')(hn:N≤M):LeB N B B'':=fun p hp=>⟨fun e ne l hl=>by
  obtain⟨e1,n1,l1,h1,h2⟩:=(h' p (by omega)).1 e ne l hl;obtain⟨e0,n0,l0,h3,h4⟩:=(h p hp).1 _ _ _ h1
  exact⟨e0,n0,l0,h3,h4.trans h2⟩,fun e l hl=>by
  obtain⟨e1,l1,h1,h2⟩:=(h' p (by omega)).2 e l hl;obtain⟨e0,l0,h3,h4⟩:=(h p hp).2 _ _ h1
  exact⟨e0,l0,h3,h4.trans h2⟩⟩
theorem Agree.refl(N:Nat)(V:Vl):Agree N V V:=fun q hq=>⟨rfl,rfl⟩
theorem Agree.trans{N M:Nat}{V V' V'':Vl}(h:Agree N V V')(h':Agree M V' V'')(hn:N≤M):Agree N V V'':=fun q hq=>⟨((h' q (by omega)).1).trans (h q hq).1,((h' q (by omega)).2).trans (h q hq).2⟩
theorem Sn{α β:Type}{l:List α}{m:List β}{k:Nat}(h:l.length=m.length):moC l k=moC m k:=by
 cases l with
 |nil=>cases m with
  |nil=>rfl
  |cons b m=>simp at h
 |cons a l=>cases m with
  |nil=>simp at h
  |cons b m=>show C.own k 0 _=C.own k 0 _;rw [h]
section
variable {N : Nat} {B B' : BK} {V V' : Vl}
theorem RC.mono{c:KC}{x:C}(hs:Sc N c)(hb:LeB N B B')(ha:Agree N V V')(h:RC B V c x):RC B' V' c x:=by
 cases c with
 |n k y=>exact h
 |b v=>exact h
 |p tag P d=>have:=(ha tag hs).2;exact⟨by rw [this];exact h.1,by rw [this];exact h.2⟩
 |bv y=>exact h
 |v y=>exact h
 |nil=>exact h
 |s e fr y=>exact h
 |o e p=>
  intro e' ne l hl;obtain⟨e0,n0,l0,h1,h2⟩:=(hb p hs).1 e' ne l hl;rw [(ha p hs).1,←h2];exact h e0 n0 l0 h1
 |m e p=>
  intro e' l hl;obtain⟨e0,l0,h1,h2⟩:=(hb p hs).2 e' l hl;rw [(ha p hs).1,←Sn h2];exact h e0 l0 h1
 |ptr p j=>show x=_;rw [(ha p hs).1];exact h
 |pe p i j=>exact⟨h.1,by rw [(ha p hs).1];exact h.2⟩
 |ip e fr y i z j=>exact h
 |clo fn ps=>
  show x=_
  have:(ps.map fun p=>C.ptr (V'.id p) 0 0)=ps.map fun p=> .ptr (V.id p) 0 0:=List.map_congr_left fun p hp=>by rw [(ha p (hs p hp)).1]
  rw [this];exact h
 |yld p=>show x=_;rw [(ha p hs).1];exact h
theorem RCs.mono:∀{l:List KC} {xs:List C},Scs N l→LeB N B B'→Agree N V V'→RCs B V l xs→RCs B' V' l xs
 | [],xs,hs,hb,ha,h=>h
 |c::l,xs,hs,hb,ha,⟨x,s,h1,h2,h3⟩=>⟨x,s,h1,h2.mono (hs c (by simp)) hb ha,h3.mono (fun y hy=>hs y (by simp [hy])) hb ha⟩
theorem yh{x:Bool×List KC}(hs:Scs N x.2):ScD N (mkD x):=by
 obtain⟨b,cs⟩:=x
 cases b with
 |true=>exact hs
 |false=>match cs,hs with
  | [],hs=>exact hs
  | [c],hs=>exact hs c (by simp)
  |c::d::r,hs=>exact hs
theorem RD1.mono{k:KD}{d:D}(hs:ScD N k)(hb:LeB N B B')(ha:Agree N V V')(h:RD1 B V k d):RD1 B' V' k d:=by
 cases k with
 |one c=>obtain⟨c',h1,h2⟩:=h;exact⟨c',h1,h2.mono hs hb ha⟩
 |agg cs=>obtain⟨c',h1,h2⟩:=h;exact⟨c',h1,h2.mono hs hb ha⟩
 |tup ts=>exact h
theorem RTs.mono:∀{l:List (Bool×List KC)} {xs:List D},(∀x∈l,Scs N x.2)→LeB N B B'→Agree N V V'→RTs B V l xs→RTs B' V' l xs
 | [],xs,hs,hb,ha,h=>h
 |c::l,xs,hs,hb,ha,⟨x,s,h1,h2,h3⟩=>⟨x,s,h1,h2.mono (yh (hs c (by simp))) hb ha,h3.mono (fun y hy=>hs y (by simp [hy])) hb ha⟩
theorem RD.mono{k:KD}{d:D}(hs:ScD N k)(hb:LeB N B B')(ha:Agree N V V')(h:RD B V k d):RD B' V' k d:=by
 cases k with
 |one c=>exact RD1.mono (k:= .one c) hs hb ha h
 |agg cs=>exact RD1.mono (k:= .agg cs) hs hb ha h
 |tup ts=>obtain⟨ds,h1,h2⟩:=h;exact⟨ds,h1,h2.mono hs hb ha⟩
theorem RB.mono{h:aE}{k:Nat}{b:KB}(hs:ScB N b)(hb:LeB N B B')(ha:Agree N V V')(hr:RB B V h k b):RB B' V' h k b:=by
 cases b with
 |box cs=>obtain⟨sz,cs',h1,h2⟩:=hr;exact⟨sz,cs',h1,h2.mono hs hb ha⟩
 |rows e ne l=>exact hr
 |mrows e l=>exact hr
 |dead=>trivial
theorem RB.heap{h h':aE}{k:Nat}{b:KB}(hh:aP h' k=aP h k)(hr:RB B V h k b):RB B V h' k b:=by
 cases b with
 |box cs=>obtain⟨sz,cs',h1,h2⟩:=hr;exact⟨sz,cs',hh.trans h1,h2⟩
 |rows e ne l=>exact⟨hh.trans hr.1,hr.2⟩
 |mrows e l=>exact fun hl=>hh.trans (hr hl)
 |dead=>trivial
end
theorem Sc.mono{N M:Nat}(hn:N≤M){c:KC}(h:Sc N c):Sc M c:=by
 cases c with
 |p tag P d=>exact Nat.lt_of_lt_of_le h hn
 |o e p=>exact Nat.lt_of_lt_of_le h hn
 |m e p=>exact Nat.lt_of_lt_of_le h hn
 |ptr p j=>exact Nat.lt_of_lt_of_le h hn
 |pe p i j=>exact Nat.lt_of_lt_of_le h hn
 |yld p=>exact Nat.lt_of_lt_of_le h hn
 |clo fn ps=>exact fun p hp=>Nat.lt_of_lt_of_le (h p hp) hn
 |_=>trivial
theorem Scs.mono{N M:Nat}(hn:N≤M){l:List KC}(h:Scs N l):Scs M l:=fun c hc=>(h c hc).mono hn
theorem ScD.mono{N M:Nat}(hn:N≤M){d:KD}(h:ScD N d):ScD M d:=by
 cases d with
 |one c=>exact Sc.mono hn h
 |agg cs=>exact Scs.mono hn h
 |tup ts=>exact fun x hx=>(h x hx).mono hn
theorem ScB.mono{N M:Nat}(hn:N≤M){b:KB}(h:ScB N b):ScB M b:=by
 cases b with
 |box cs=>exact Scs.mono hn h
 |_=>trivial
theorem bU{t t':Ty}{x:t.val}{y:t'.val}(h:ji t t' x=some y):∃e:t=t',e▸x=y:=by
 unfold ji at h;split at h
 ·rename_i e;exact⟨e,Option.some.inj h⟩
 ·simp at h
theorem yi:∀(e:Ty) (x:e.val),(e.row x).length=e.size
 | .I _,_=>rfl
 | .B,_=>rfl
 | .S _,_=>rfl
 | .U,_=>rfl
 | .C a b,x=>by
  show(a.row x.1++b.row x.2).length=a.size+b.size;rw [List.length_append,yi a,yi b]
theorem tH(fr:Bool):∀(e:Ty) (x:e.val),(dQ fr e x).length=e.size
 | .I _,_=>rfl
 | .B,_=>rfl
 | .S _,_=>rfl
 | .U,_=>rfl
 | .C a b,x=>by
  show(dQ fr a x.1++dQ fr b x.2).length=a.size+b.size;rw [List.length_append,tH fr a,tH fr b]
theorem gN(N:Nat)(fr:Bool):∀(e:Ty) (x:e.val),Scs N (dQ fr e x)
 | .I _,_=>fun c hc=>by rw [List.mem_singleton.1 hc];trivial
 | .B,_=>fun c hc=>by rw [List.mem_singleton.1 hc];trivial
 | .S _,_=>fun c hc=>by rw [List.mem_singleton.1 hc];trivial
 | .U,_=>fun c hc=>by simp [dQ]at hc
 | .C a b,x=>fun c hc=>by
  rcases List.mem_append.1 (show c∈dQ fr a x.1++dQ fr b x.2 from hc)with h|h
  ·exact gN N fr a x.1 c h
  ·exact gN N fr b x.2 c h
section
variable {B : BK} {V : Vl}
theorem RCs.append:∀{k1 k2:List KC} {c1 c2:List C},RCs B V k1 c1→RCs B V k2 c2→RCs B V (k1++k2) (c1++c2)
 | [],k2,c1,c2,h1,h2=>by rw [show c1= []from h1];exact h2
 |k::k1,k2,c1,c2,⟨c,s,e1,h1,h3⟩,h2=>⟨c,s++c2,by rw [e1];rfl,h1,h3.append h2⟩
theorem RCs.len:∀{k:List KC} {c:List C},RCs B V k c→c.length=k.length
 | [],c,h=>by rw [show c= []from h];rfl
 |_::k,c,⟨x,s,e,_,h⟩=>by rw [e,List.length_cons,List.length_cons,h.len]
theorem RCs.drop:∀{k:List KC} {c:List C} (n:Nat),RCs B V k c→RCs B V (k.drop n) (c.drop n)
 |k,c,0,h=>h
 | [],c,n+1,h=>by rw [show c= []from h];exact rfl
 |_::k,c,n+1,⟨x,s,e,_,h⟩=>by rw [e];exact h.drop n
theorem RCs.take:∀{k:List KC} {c:List C} (n:Nat),RCs B V k c→RCs B V (k.take n) (c.take n)
 |k,c,0,h=>rfl
 | [],c,n+1,h=>by rw [show c= []from h];exact rfl
 |_::k,c,n+1,⟨x,s,e,h1,h⟩=>⟨x,s.take n,by rw [e];rfl,h1,h.take n⟩
theorem RCs.cut{k k2:List KC}{c:List C}{i n:Nat}(h:RCs B V k c)(hk:Ev.cut k i n=some k2):∃c2,Ev.cut c i n=some c2∧RCs B V k2 c2:=by
 unfold Ev.cut at hk ⊢;split at hk
 ·rename_i hl;rw [if_pos (by rw [h.len];exact hl)];refine⟨_,rfl,?_⟩;rw [←Option.some.inj hk];exact(h.drop i).take n
 ·simp at hk
theorem RCs.patch{k k2 x:List KC}{c y:List C}{i:Nat}(h:RCs B V k c)(hx:RCs B V x y)(hk:Ev.patch k i x=some k2):∃c2,Ev.patch c i y=some c2∧RCs B V k2 c2:=by
 unfold Ev.patch at hk ⊢;split at hk
 ·rename_i hl;rw [if_pos (by rw [h.len,hx.len];exact hl)];refine⟨_,rfl,?_⟩;rw [←Option.some.inj hk,hx.len];exact((h.take i).append hx).append (h.drop _)
 ·simp at hk
theorem kZ{N:Nat}{k k2:List KC}{i n:Nat}(h:Scs N k)(hk:Ev.cut k i n=some k2):Scs N k2:=by
 unfold Ev.cut at hk;split at hk
 ·rw [←Option.some.inj hk];exact fun c hc=>h c (List.mem_of_mem_drop (List.mem_of_mem_take hc))
 ·simp at hk
theorem Df{N:Nat}{k k2 x:List KC}{i:Nat}(h:Scs N k)(hx:Scs N x)(hk:Ev.patch k i x=some k2):Scs N k2:=by
 unfold Ev.patch at hk;split at hk
 ·rw [←Option.some.inj hk];intro c hc;simp only [List.mem_append]at hc;rcases hc with(hc|hc)|hc
  ·exact h c (List.mem_of_mem_take hc)
  ·exact hx c hc
  ·exact h c (List.mem_of_mem_drop hc)
 ·simp at hk
theorem eN{fr f:Bool}(hf:fr=true→f=true):∀(e:Ty) (x:e.val),RCs B V (dQ fr e x) ((e.row x).map (pC f))
 | .I _,_=>⟨_,_,rfl,rfl,rfl⟩
 | .B,_=>⟨_,_,rfl,rfl,rfl⟩
 | .S e,x=>⟨_,_,rfl,⟨f,rfl,hf⟩,rfl⟩
 | .U,_=>rfl
 | .C a b,x=>by
  show RCs B V (dQ fr a x.1++dQ fr b x.2) ((a.row x.1++b.row x.2).map (pC f));rw [List.map_append];exact(eN hf a x.1).append (eN hf b x.2)
theorem RCs.one{c:KC}{x:C}(h:RC B V c x):RCs B V [c] [x]:=⟨x,[],rfl,h,rfl⟩
theorem RCs.one_inv{c:KC}{xs:List C}(h:RCs B V [c] xs):∃x,xs= [x]∧RC B V c x:=by
 obtain⟨x,s,e,h1,h2⟩:=h;exact⟨x,by rw [e,show s= []from h2],h1⟩
theorem tI{e:Ty}{c:KC}{x:e.val}{y:C}(h:qd noB e c=some x)(hf:frC c=true)(hr:RC B V c y): [y]=(e.row x).map (pC true):=by
 unfold qd at h;split at h
 ·rename_i k k' z;split at h
  ·rename_i hk;subst hk;rw [←Option.some.inj h];rw [show y=_ from hr];rfl
  ·simp at h
 ·rw [←Option.some.inj h,show y=_ from hr];rfl
 ·rename_i tag P d;rw [←Option.some.inj h,hr.1,hr.2];rfl
 ·rw [←Option.some.inj h,show y=_ from hr];rfl
 ·rw [←Option.some.inj h,show y=_ from hr];rfl
 ·rename_i e0 e' fr z;obtain⟨he,hx⟩:=bU h;cases he;obtain⟨f,h1,h2⟩:=hr;rw [←hx,h1,h2 hf];rfl
 ·simp [noB]at h
 ·simp [noB]at h
 ·simp at h
theorem rP:∀{e:Ty} {cs:List KC} {x:e.val} {ys:List C},dec noB e cs=some x→cs.all frC=true→RCs B V cs ys→ys=(e.row x).map (pC true):=by
 intro e
 induction e with
 |C a b iha ihb=>
  intro cs x ys h hf hr;unfold dec at h;simp only [zbE]at h;obtain⟨x1,h1,y1,h2,h3⟩:=h
  have:=Option.some.inj h3
  subst this;have e1:=iha h1 (List.all_eq_true.2 fun c hc=>List.all_eq_true.1 hf c (List.mem_of_mem_take hc)) (hr.take a.size);have e2:=ihb h2 (List.all_eq_true.2 fun c hc=>List.all_eq_true.1 hf c (List.mem_of_mem_drop hc)) (hr.drop a.size);show ys=(a.row x1++b.row y1).map (pC true);rw [List.map_append,←e1,←e2,List.take_append_drop]
 |U=>
  intro cs x ys h hf hr
  cases cs with
  |nil=>rw [show ys= []from hr];rfl
  |cons c r=>cases r with
   |nil=>simp [dec,qd]at h
   |cons d r=>simp [dec]at h
 |_=>
  intro cs x ys h hf hr
  cases cs with
  |nil=>simp [dec]at h
  |cons c r=>cases r with
   |nil=>
    obtain⟨y,rfl,hy⟩:=hr.one_inv;exact tI (by simpa [dec]using h) (by simpa using hf) hy
   |cons d r=>simp [dec]at h
end
end K
end Ev
end
noncomputable section
namespace Ev
namespace K
open Go Go.RowKit
def RDl(B:BK)(V:Vl):List KD→List D→Prop
 | [],ds=>ds= []
 |k::r,ds=>∃d s,ds=d::s∧RD B V k d∧RDl B V r s
theorem Qe{B:BK}{V:Vl}(v:Value):RC B V (kC v) (lU v):=by
 unfold kC;split
 ·rfl
 ·rfl
 ·rfl
 ·rename_i h1 h2 h3;unfold lU;split
  ·exact absurd rfl h3
  ·rfl
theorem Uf(N:Nat)(v:Value):Sc N (kC v):=by
 unfold kC;split<;>trivial
theorem rQ{B:BK}{V:Vl}:∀l:List Value,RCs B V (l.map kC) (l.map lU)
 | []=>rfl
 |v::l=>⟨_,_,rfl,Qe v,rQ l⟩
theorem FG(N:Nat)(l:List Value):Scs N (l.map kC):=fun c hc=>by
 obtain⟨v,_,rfl⟩:=List.mem_map.1 hc;exact Uf N v
theorem Ku{B:BK}{V:Vl}{v:Value}{d:KD}(h:wl v=some d):∃d',sG v=some d'∧RD B V d d':=by
 unfold wl at h;split at h
 ·rename_i cs;split at h
  ·rename_i ha;rw [←Option.some.inj h];refine⟨.agg (cs.toList.map lU),?_,_,rfl,rQ _⟩;unfold sG;simp only;rw [if_pos ha]
  ·simp at h
 ·simp at h
 ·rename_i h1 h2;rw [←Option.some.inj h];refine⟨.one (lU v),?_,_,rfl,Qe v⟩;unfold sG;split
  ·exact absurd rfl (h1 _)
  ·exact absurd rfl (h2 _)
  ·rfl
theorem Nj{N:Nat}{v:Value}{d:KD}(h:wl v=some d):ScD N d:=by
 unfold wl at h;split at h
 ·split at h
  ·rw [←Option.some.inj h];exact FG N _
  ·simp at h
 ·simp at h
 ·rw [←Option.some.inj h];exact Uf N _
section
variable {F : KF} {ks : KS} {V : Vl} {f : Nat → D} {h : aE}
theorem Kv{a b:Nat}(h:a<b):Nat.blt a b=true:=by simpa using h
theorem cm(hr:Rel F ks V f h){x:Operand}{d:KD}(hx:kO F ks x=some d):∃d',ov F.nt f x=some d'∧ScD ks.nx d∧RD (aT F ks) V d d':=by
 cases x with
 |tmp i=>
  obtain⟨h1,h2,h3⟩:=hr.sl i d hx;refine⟨f i,?_,h2,h3⟩;show cond (Nat.blt i F.nt) (some (f i)) none=_;rw [Kv h1];rfl
 |const v=>
  obtain⟨d',h1,h2⟩:=Ku (B:=aT F ks) (V:=V) (show wl v=some d from hx);exact⟨d',h1,Nj hx,h2⟩
 |global g=>simp [kO]at hx
 |func k=>
  have:=Option.some.inj (show some (KD.one (.v (.func (.func k) #[] #[])))=some d from hx)
  subst this;exact⟨_,rfl,trivial,_,rfl,rfl⟩
theorem Aw(hr:Rel F ks V f h):∀{l:List Operand} {ds:List KD},lX F ks l=some ds→∃ds',l.mapM (ov F.nt f)=some ds'∧(∀d∈ds,ScD ks.nx d)∧RDl (aT F ks) V ds ds'
 | [],ds,hx=>by
  have:=Option.some.inj (show some []=some ds from hx)
  subst this;exact⟨[],rfl,by simp,rfl⟩
 |x::l,ds,hx=>by
  simp only [lX,zbE]at hx;obtain⟨d,h1,r,h2,h3⟩:=hx
  have:=Option.some.inj h3
  subst this;obtain⟨d',g1,g2,g3⟩:=cm hr h1;obtain⟨r',e1,e2,e3⟩:=Aw hr h2;refine⟨d'::r',by rw [List.mapM_cons,g1,e1];rfl,?_,d',r',rfl,g3,e3⟩;intro y hy;rcases List.mem_cons.1 hy with rfl|hy
  ·exact g2
  ·exact e2 y hy
theorem wo(hr:Rel F ks V f h):∀{l:List (Nat×Operand)} {ps:List (Nat×KD)},Ap F ks l=some ps→∃ps',yf F.nt f l=some ps'∧(∀x∈ps,ScD ks.nx x.2)∧ps'.map (·.1)=ps.map (·.1)∧RDl (aT F ks) V (ps.map (·.2)) (ps'.map (·.2))
 | [],ps,hx=>by
  have:=Option.some.inj (show some []=some ps from hx)
  subst this;exact⟨[],rfl,by simp,rfl,rfl⟩
 |(i,x)::l,ps,hx=>by
  simp only [Ap,zbE]at hx;obtain⟨d,h1,r,h2,h3⟩:=hx
  have:=Option.some.inj h3
  subst this;obtain⟨d',g1,g2,g3⟩:=cm hr h1;obtain⟨r',e1,e2,e3,e4⟩:=wo hr h2;refine⟨(i,d')::r',?_,?_,?_,?_⟩
  ·unfold yf at e1 ⊢;rw [List.mapM_cons,e1];simp only [g1,Option.map_some,zbB,zbS,Option.pure_def]
  ·intro y hy;rcases List.mem_cons.1 hy with rfl|hy
   ·exact g2
   ·exact e2 y hy
  ·simp only [List.map_cons,e3]
  ·exact⟨d',r'.map (·.2),rfl,g3,e4⟩
def Bls(B:BK)(V:Vl)(h:aE):Prop:=∀p b,B p=some b→RB B V h (V.id p) b
theorem Rel.bls(hr:Rel F ks V f h):Bls (aT F ks) V h:=fun p b hb=>(hr.bl p b hb).2.2
theorem kN{k sz:Nat}{es:List (List C)}(hg:aP h k=some (sz,es)):HB h [[(k,sz,es)]]:=⟨by simp,fun x hx=>by simp at hx;subst hx;exact hg⟩
theorem br:HB h []:=⟨List.nodup_nil,fun x hx=>by simp at hx⟩
theorem Ay{r:List T}(m:Nat):(r.map (pC true)).mapM (eQ h (m+1))=some (r.map fun t=>(true,t)):=by
 induction r with
 |nil=>rfl
 |cons t r ih=>
  rw [List.map_cons,List.mapM_cons,ih];cases t<;>rfl
theorem Ik{B:BK}{e:Ty}{c:KC}{x:e.val}{y:C}(hB:Bls B V h)(hd:qd B e c=some x)(hr:RC B V c y):∃fl t,(∀m,eQ h (m+2) y=some (fl,t))∧[t]=e.row x∧(frC c=true→fl=true):=by
 unfold qd at hd;split at hd
 ·rename_i k k' z;split at hd
  ·rename_i hk;subst hk;rw [←Option.some.inj hd,show y=_ from hr];exact⟨true,_,fun m=>rfl,rfl,fun _=>rfl⟩
  ·simp at hd
 ·rw [←Option.some.inj hd,show y=_ from hr];exact⟨true,_,fun m=>rfl,rfl,fun _=>rfl⟩
 ·rename_i tag P d;rw [←Option.some.inj hd,hr.1,hr.2];exact⟨true,_,fun m=>rfl,rfl,fun _=>rfl⟩
 ·rw [←Option.some.inj hd,show y=_ from hr];exact⟨true,_,fun m=>rfl,rfl,fun _=>rfl⟩
 ·rw [←Option.some.inj hd,show y=_ from hr];exact⟨true,_,fun m=>rfl,rfl,fun _=>rfl⟩
 ·rename_i e0 e' fr z;obtain⟨he,hx⟩:=bU hd;cases he;obtain⟨fl,h1,h2⟩:=hr;rw [←hx,h1];exact⟨fl,_,fun m=>rfl,rfl,h2⟩
 ·rename_i e0 e1 p;split at hd
  ·rename_i e' ne l hp;obtain⟨he,hx⟩:=bU hd;cases he;have h1:=hr _ _ _ hp;have h2:=(hB p _ hp).1;rw [←hx,h1];exact⟨true,_,fun m=>fN (r:=Ty.row _) (L:= [[(V.id p,_,l.map (be (Ty.row _)))]]) 0 rfl (fun x h m=>Ay m) h (kN h2) m,rfl,fun _=>rfl⟩
  ·simp at hd
 ·rename_i e0 e1 p;split at hd
  ·rename_i e' l hp;obtain⟨he,hx⟩:=bU hd;cases he;have h1:=hr _ _ hp;rw [←hx,h1]
   cases l with
   |nil=>exact⟨true,_,fun m=>rfl,rfl,fun _=>rfl⟩
   |cons a l=>
    have h2:=hB p _ hp (by simp);exact⟨true,_,fun m=>fN (r:=Ty.row _) (L:= [[(V.id p,_,(a::l).map (be (Ty.row _)))]]) 0 rfl (fun x h m=>Ay m) h (kN h2) m,rfl,fun _=>rfl⟩
  ·simp at hd
 ·simp at hd
theorem Nk{B:BK}(hB:Bls B V h):∀{e:Ty} {cs:List KC} {x:e.val} {ys:List C},dec B e cs=some x→RCs B V cs ys→∃l,(∀m,ys.mapM (eQ h (m+2))=some l)∧l.map (·.2)=e.row x∧(cs.all frC=true→l.all (·.1)=true):=by
 intro e
 induction e with
 |C a b iha ihb=>
  intro cs x ys hd hr;unfold dec at hd;simp only [zbE]at hd;obtain⟨x1,h1,y1,h2,h3⟩:=hd
  have:=Option.some.inj h3
  subst this;obtain⟨l1,e1,e2,e3⟩:=iha h1 (hr.take a.size);obtain⟨l2,g1,g2,g3⟩:=ihb h2 (hr.drop a.size);refine⟨l1++l2,fun m=> ?_,?_,fun hf=> ?_⟩
  ·have:ys=ys.take a.size++ys.drop a.size:=(List.take_append_drop _ _).symm
   rw [this,List.mapM_append,e1 m,g1 m];rfl
  ·rw [List.map_append,e2,g2];rfl
  ·rw [List.all_append,e3 (List.all_eq_true.2 fun c hc=>List.all_eq_true.1 hf c (List.mem_of_mem_take hc)),g3 (List.all_eq_true.2 fun c hc=>List.all_eq_true.1 hf c (List.mem_of_mem_drop hc))];rfl
 |U=>
  intro cs x ys hd hr
  cases cs with
  |nil=>rw [show ys= []from hr];exact⟨[],fun m=>rfl,rfl,fun _=>rfl⟩
  |cons c r=>cases r with
   |nil=>simp [dec,qd]at hd
   |cons d r=>simp [dec]at hd
 |_=>
  intro cs x ys hd hr
  cases cs with
  |nil=>simp [dec]at hd
  |cons c r=>cases r with
   |nil=>
    obtain⟨y,rfl,hy⟩:=hr.one_inv;obtain⟨fl,t,h1,h2,h3⟩:=Ik hB (by simpa [dec]using hd) hy;exact⟨[(fl,t)],fun m=>by rw [List.mapM_cons,h1 m];rfl,h2,fun hf=>by simpa using h3 (by simpa using hf)⟩
   |cons d r=>simp [dec]at hd
theorem Dg{B:BK}(hB:Bls B V h){t:TyD}{d:KD}{x:t.2.val}{y:D}(hd:Fz B t d=some x)(hr:RD B V d y):∃fl,cP h y=some (fl,Fy t x)∧(frD d=true→fl=true):=by
 obtain⟨ag,e⟩:=t
 cases d with
 |one c=>
  obtain⟨c',rfl,hc⟩:=hr;simp only [Fz]at hd
  cases ag with
  |true=>simp at hd
  |false=>
   obtain⟨fl,t,h1,h2,h3⟩:=Ik hB (by simpa using hd) hc;refine⟨fl,?_,h3⟩;show(eQ h 6 c').bind _=_;rw [h1 4];show some (fl,TD.one t)=some (fl,Fy (false,e) x);unfold Fy;simp only [←h2]
 |agg cs=>
  obtain⟨cs',rfl,hc⟩:=hr;simp only [Fz]at hd
  cases ag with
  |false=>simp at hd
  |true=>
   obtain⟨l,h1,h2,h3⟩:=Nk hB (by simpa using hd) hc;refine⟨l.all (·.1),?_,h3⟩;show(cs'.mapM (eQ h 6)).bind _=_;rw [h1 4];show some (l.all (·.1),TD.agg (l.map (·.2)))=some (_,Fy (true,e) x);rw [h2];rfl
 |tup ts=>simp [Fz]at hd
theorem tJ{B:BK}(hB:Bls B V h):∀{ts:List TyD} {ds:List KD} {x:vals ts} {ys:List D},nN B ts ds=some x→RDl B V ds ys→∃l,ys.mapM (cP h)=some l∧l.map (·.2)=pm ts x∧(ds.all frD=true→l.all (·.1)=true)
 | [],[],x,ys,hd,hr=>by rw [show ys= []from hr];exact⟨[],rfl,rfl,fun _=>rfl⟩
 | [],d::ds,x,ys,hd,hr=>by simp [nN]at hd
 | [t],[],x,ys,hd,hr=>by simp [nN]at hd
 | [t],[d],x,ys,hd,hr=>by
  obtain⟨y,s,rfl,h1,h2⟩:=hr;rw [show s= []from h2];obtain⟨fl,g1,g2⟩:=Dg hB (show Fz B t d=some x from hd) h1;exact⟨[(fl,Fy t x)],by rw [List.mapM_cons,g1];rfl,rfl,fun hf=>by simpa using g2 (by simpa using hf)⟩
 | [t],d::d'::ds,x,ys,hd,hr=>by simp [nN]at hd
 |t::t'::r,[],x,ys,hd,hr=>by simp [nN]at hd
 |t::t'::r,d::ds,x,ys,hd,hr=>by
  simp only [nN,zbE]at hd;obtain⟨x1,h1,y1,h2,h3⟩:=hd
  have:=Option.some.inj h3
  subst this;obtain⟨y,s,rfl,e1,e2⟩:=hr;obtain⟨fl,g1,g2⟩:=Dg hB h1 e1;obtain⟨l,k1,k2,k3⟩:=tJ hB h2 e2;refine⟨(fl,Fy t x1)::l,by rw [List.mapM_cons,g1,k1];rfl,by rw [List.map_cons,k2];rfl,fun hf=> ?_⟩;simp only [List.all_cons,Bool.and_eq_true]at hf ⊢;exact⟨g2 hf.1,k3 hf.2⟩
theorem LN{B:BK}{fr fl:Bool}(hf:fr=true→fl=true)(t:TyD)(x:t.2.val):RD1 B V (mkD (PV fr t x)) (dj fl (Fy t x)):=by
 obtain⟨ag,e⟩:=t;have hc:=eN (B:=B) (V:=V) hf e x
 cases ag with
 |true=>exact⟨_,rfl,hc⟩
 |false=>
  have hl:=tH fr e x;have hl2:=yi e x
  show RD1 B V (mkD (false,dQ fr e x)) (dj fl (match e.row x with
   | [y]=> .one y
   |ys=> .agg ys))
  revert hc hl hl2
  cases dQ fr e x with
  |nil=>
   intro hc hl hl2
   cases hrw:e.row x with
   |nil=>exact⟨_,rfl,rfl⟩
   |cons y ys=>rw [hrw]at hl2;simp only [List.length_nil,List.length_cons]at hl hl2;omega
  |cons c r=>
   cases r with
   |nil=>
    intro hc hl hl2
    cases hrw:e.row x with
    |nil=>rw [hrw]at hl2;simp only [List.length_nil,List.length_cons]at hl hl2;omega
    |cons y ys=>cases ys with
     |nil=>
      rw [hrw]at hc;obtain⟨z,hz,hz2⟩:=hc.one_inv;refine⟨z,?_,hz2⟩;show D.one (pC fl y)=_;rw [show pC fl y=z from(List.cons.inj hz).1]
     |cons y2 ys=>rw [hrw]at hl2;simp only [List.length_nil,List.length_cons]at hl hl2;omega
   |cons c2 r=>
    intro hc hl hl2
    cases hrw:e.row x with
    |nil=>rw [hrw]at hl2;simp only [List.length_nil,List.length_cons]at hl hl2;omega
    |cons y ys=>cases ys with
     |nil=>rw [hrw]at hl2;simp only [List.length_nil,List.length_cons]at hl hl2;omega
     |cons y2 ys=>rw [hrw]at hc;exact⟨_,rfl,hc⟩
theorem vt{B:BK}{fr fl:Bool}(hf:fr=true→fl=true):∀(ts:List TyD) (x:vals ts),RTs B V (rk fr ts x) ((pm ts x).map (dj fl))
 | [],_=>rfl
 | [t],x=>⟨_,_,rfl,LN hf t x,rfl⟩
 |t::t'::r,x=>⟨_,_,rfl,LN hf t x.1,vt hf (t'::r) x.2⟩
theorem Az(N:Nat)(fr:Bool):∀(ts:List TyD) (x:vals ts),∀y∈rk fr ts x,Scs N y.2
 | [],_=>fun y hy=>by simp [rk]at hy
 | [t],x=>fun y hy=>by rw [List.mem_singleton.1 (show y∈ [PV fr t x]from hy)];exact gN N fr t.2 x
 |t::t'::r,x=>fun y hy=>by
  rcases List.mem_cons.1 (show y∈PV fr t x.1::rk fr (t'::r) x.2 from hy)with rfl|hy
  ·exact gN N fr t.2 x.1
  ·exact Az N fr (t'::r) x.2 y hy
end
end K
end Ev
end
end Go.Proofs.YtgefmokmjdeecaaDoor
