/- Texts of a claim, joined. -/
import Derived.Test.YtpcmabdifkoihaaDoorZA5
import Derived.Laws.Bits64b
import Derived.Laws.Bits64
import Derived.BigQuiet
import Derived.WalkSpells
import Derived.WalkLawsBesides
import Derived.Test.YtpcmabdifkoihaaDoorProg
set_option linter.unusedVariables false
set_option linter.unusedSimpArgs false
namespace Go.Proofs.YtpcmabdifkoihaaDoor
noncomputable section
namespace Ev
open Go Go.RowKit
abbrev bf:D:= .one (bC false)
abbrev bt:D:= .one (bC true)
abbrev iO(n:Int):D:= .one (iC .i64 n)
abbrev bO(b:Bool):D:= .one (bC b)
abbrev iI(n:Int):C:=iC .i64 n
abbrev uI(n:Int):C:=iC .u64 n
abbrev nC:C:= .p true (.s false 0 [])
abbrev sC{α:Type}(r:α->List T)(s:Sl α):C:= .p true (Sl.t r s)
abbrev sF{α:Type}(r:α->List T)(s:Sl α):C:= .p false (Sl.t r s)
theorem sj{α:Type}{a b:α}(h:some a=some b):a=b:=Option.some.inj h
theorem wF{α:Type}{a b:α}{r:α}(h:(if false=true then a else b)=r):b=r:=h
theorem wT{α:Type}{a b:α}{r:α}(h:(if true=true then a else b)=r):a=r:=h
theorem aP{P:Program}{t:TypeId}{x y:Operand}{k:IntKind}{a b:Int}(h:a<b):aq P (do eqGuard .lss t x y (.int k a) (.int k b);binOp .lss t (.int k a) (.int k b))=some (.bool true):=Mn P t x y k h
theorem aQ{P:Program}{t:TypeId}{x y:Operand}{k:IntKind}{a b:Int}(h:¬a<b):aq P (do eqGuard .lss t x y (.int k a) (.int k b);binOp .lss t (.int k a) (.int k b))=some (.bool false):=Mo P t x y k h
theorem ls{P:Program}{t:TypeId}{x y:Operand}{k:IntKind}{a b:Int}(h:a<=b):aq P (do eqGuard .leq t x y (.int k a) (.int k b);binOp .leq t (.int k a) (.int k b))=some (.bool true):=Mp P t x y k h
theorem lu{P:Program}{t:TypeId}{x y:Operand}{k:IntKind}{a b:Int}(h:¬a<=b):aq P (do eqGuard .leq t x y (.int k a) (.int k b);binOp .leq t (.int k a) (.int k b))=some (.bool false):=Mq P t x y k h
theorem mJ{P:Program}{t:TypeId}{x y:Operand}{k:IntKind}{a b:Int}(h:a>b):aq P (do eqGuard .gtr t x y (.int k a) (.int k b);binOp .gtr t (.int k a) (.int k b))=some (.bool true):=Mr P t x y k h
theorem mK{P:Program}{t:TypeId}{x y:Operand}{k:IntKind}{a b:Int}(h:¬a>b):aq P (do eqGuard .gtr t x y (.int k a) (.int k b);binOp .gtr t (.int k a) (.int k b))=some (.bool false):=Ms P t x y k h
theorem fh{P:Program}{t:TypeId}{x y:Operand}{k:IntKind}{a b:Int}(h:a >= b):aq P (do eqGuard .geq t x y (.int k a) (.int k b);binOp .geq t (.int k a) (.int k b))=some (.bool true):=Mt P t x y k h
theorem fj{P:Program}{t:TypeId}{x y:Operand}{k:IntKind}{a b:Int}(h:¬a >= b):aq P (do eqGuard .geq t x y (.int k a) (.int k b);binOp .geq t (.int k a) (.int k b))=some (.bool false):=Mu P t x y k h
theorem fk{P:Program}{t:TypeId}{x y:Operand}{k:IntKind}{a b:Int}(h:a=b):aq P (do eqGuard .eql t x y (.int k a) (.int k b);binOp .eql t (.int k a) (.int k b))=some (.bool true):=Mv P t x y k h
theorem fm{P:Program}{t:TypeId}{x y:Operand}{k:IntKind}{a b:Int}(h:¬a=b):aq P (do eqGuard .eql t x y (.int k a) (.int k b);binOp .eql t (.int k a) (.int k b))=some (.bool false):=Mw P t x y k h
theorem jS{P:Program}{t:TypeId}{x y:Operand}{k:IntKind}{a b:Int}(h:a≠b):aq P (do eqGuard .neq t x y (.int k a) (.int k b);binOp .neq t (.int k a) (.int k b))=some (.bool true):=Mx P t x y k h
theorem jT{P:Program}{t:TypeId}{x y:Operand}{k:IntKind}{a b:Int}(h:¬a≠b):aq P (do eqGuard .neq t x y (.int k a) (.int k b);binOp .neq t (.int k a) (.int k b))=some (.bool false):=My P t x y k h
theorem bZ{P:Program}{t:TypeId}{x y:Operand}{k:IntKind}{a b:Int}:aq P (do eqGuard .add t x y (.int k a) (.int k b);binOp .add t (.int k a) (.int k b))=some (.int k (k.wrap (a+b))):=NK P t x y k a b
theorem gD{P:Program}{t:TypeId}{x y:Operand}{k:IntKind}{a b:Int}:aq P (do eqGuard .sub t x y (.int k a) (.int k b);binOp .sub t (.int k a) (.int k b))=some (.int k (k.wrap (a - b))):=NL P t x y k a b
theorem EW{P:Program}{t:TypeId}{x y:Operand}{k:IntKind}{a b:Int}:aq P (do eqGuard .mul t x y (.int k a) (.int k b);binOp .mul t (.int k a) (.int k b))=some (.int k (k.wrap (a*b))):=NM P t x y k a b
section
variable {E : Env} {y : Nat → fu} {n nt : Nat} {ops : Array Oper} {o : Oper} {r : List Oper} {K : St → Prop} {f : Nat → D} {L : BL} {d : Nat} {Q : Ex → St → Prop}
theorem pq{v:D}(hs:PS E n nt f L o.op v)(h:dp E y n nt ops r K (up f d v) L)(hw:dn ops o nt f=some true:=by exact rfl)(hd:o.dst=some d:=by exact rfl)(hn:Nat.blt d nt=true:=by exact rfl):dp E y n nt ops (o::r) K f L:=EI hw hd hn hs h
theorem sq{v:D}{i:Nat}(hs:PS E n nt f L o.op v)(h:StL E n nt ops r (i+1) K (up f d v) L)(hw:dn ops o nt f=some true:=by exact rfl)(hd:o.dst=some d:=by exact rfl)(hn:Nat.blt d nt=true:=by exact rfl):StL E n nt ops (o::r) i K f L:=OO hw hd hn hs h
theorem os(h:dp E y n nt ops r K (up f d co) L)(hw:dn ops o nt f=some false:=by exact rfl)(hd:o.dst=some d:=by exact rfl)(hn:Nat.blt d nt=true:=by exact rfl):dp E y n nt ops (o::r) K f L:=Mc hw hd hn h
theorem ss{i:Nat}(h:StL E n nt ops r (i+1) K (up f d co) L)(hw:dn ops o nt f=some false:=by exact rfl)(hd:o.dst=some d:=by exact rfl)(hn:Nat.blt d nt=true:=by exact rfl):StL E n nt ops (o::r) i K f L:=Md hw hd hn h
theorem qm{x:Operand}(v:D)(hx:ov nt f x=some v:=by exact rfl):PS E n nt f L (.move x) v:=JV hx
theorem qa{x:Operand}(v:D)(hx:ov nt f x=some v:=by exact rfl):PS E n nt f L (.assign x) v:=CL hx
theorem qpt{c a b:Operand}{fr:Bool}(v:D)(hc:ov nt f c=some (.one (.p fr (.v (.bool true)))):=by exact rfl)(hx:ov nt f a=some v:=by exact rfl):PS E n nt f L (.pick c a b) v:=Mh hc hx
theorem qpf{c a b:Operand}{fr:Bool}(v:D)(hc:ov nt f c=some (.one (.p fr (.v (.bool false)))):=by exact rfl)(hx:ov nt f b=some v:=by exact rfl):PS E n nt f L (.pick c a b) v:=Mi hc hx
theorem ql{ty:TypeId}{x:Operand}{k i j sz bz:Nat}{ag:Bool}{es:List (List C)}{e cs:List C}(v:D)(p:Nat)(hz:dM E.ti ty=some (sz,ag))(hx:ov nt f x=some (.one (.ptr k i j)):=by exact rfl)(hp:L[p]? =some [(k,bz,es)]:=by exact rfl)(he:es[i]? =some e:=by exact rfl)(hc:cut e j (cond ag sz 1)=some cs:=by exact rfl)(hv:dr ag cs=some v:=by exact rfl):PS E n nt f L (.load ty x) v:=fC p hx hz hp he hc hv
theorem qc{c:Call}{k:FuncId}{vs:List (Bool×TD)}{vs2 rs:List TD}(v:D)(args:List D)(hk:RunsP E n k vs2 (.fresh,rs))(hv:Vw L args vs)(hc:bi (.call c)=some c:=by exact rfl)(hr:bB c (ov nt f)=some (k,args):=by exact rfl)(h2:vs.map (·.2)=vs2:=by exact rfl)(hrv:gV (rs.map (cR true))=v:=by exact rfl):PS E n nt f L (.call c) v:=Gd hk hc hr hv h2 hrv
theorem qb{op:BinOp}{ty sh:TypeId}{x y:Operand}{fa fb:Bool}{ka kb:IntKind}{a b:Int}{v:Value}(hp:aq E.P (do eqGuard op ty x y (.int ka a) (.int kb b);binOp op ty (.int ka a) (.int kb b))=some v)(hx:ov nt f x=some (.one (.p fa (.v (.int ka a)))):=by exact rfl)(hy:ov nt f y=some (.one (.p fb (.v (.int kb b)))):=by exact rfl)(h1:one1 v=true:=by exact rfl):PS E n nt f L (.binOp op ty x y sh) (mk v):=cG hx hy hp h1
theorem ow{ty:TypeId}{a x:Operand}{k i j sz bz:Nat}{ag:Bool}{es:List (List C)}{e e' cs:List C}{v:D}{L':BL}(es':List (List C))(p:Nat)(hz:dM E.ti ty=some (sz,ag))(h:dp E y n nt ops r K f L')(hop:o.op= .store ty a x:=by exact rfl)(ha:ov nt f a=some (.one (.ptr k i j)):=by exact rfl)(hx:ov nt f x=some v:=by exact rfl)(hd:gU v=some cs:=by exact rfl)(hs:Nat.beq cs.length sz=true:=by exact rfl)(hp:L[p]? =some [(k,bz,es)]:=by exact rfl)(he:es[i]? =some e:=by exact rfl)(ht:patch e j cs=some e':=by exact rfl)(hes:es.set i e'=es':=by exact rfl)(hw:dn ops o nt f=some true:=by exact rfl)(hdst:o.dst=none:=by exact rfl)(hL:L.set p [(k,bz,es')]=L':=by exact rfl):dp E y n nt ops (o::r) K f L:=mH hw hdst (by rw [hop];exact bI p ha hx hd hz hs hp he ht hes) hL h
theorem tq{v:D}{i w b:Nat}{O:List (List Nat)}{N:List (Bool×List Nat)}{R:List (List Nat)}{A:BL}(is:List Nat)(hA:is.filterMap (λi=>L[i]?)=A)(hm:∀x∈A.flatten,x.1 ∉(R.getD i []).flatMap (bg b O N))(hs:PS E n nt f A o.op v)(h:TnL E n nt ops r (i+1) w O N R b K (up f d v) L)(hw:dn ops o nt f=some true:=by exact rfl)(hd:o.dst=some d:=by exact rfl)(hn:Nat.blt d nt=true:=by exact rfl)(hn2:is.Nodup:=by decide)(hu:bg b O N i= []:=by exact rfl):TnL E n nt ops (o::r) i w O N R b K f L:=EK hw hd hn is hn2 hA hm hu hs h
theorem oW{d1 d2:D}{ds:List D}(h:aC)(hb:HB h L):cA h (d1::d2::ds)=false:=Ml
theorem oG{cs:List C}(h:aC)(hb:HB h L):cA h [.agg cs]=false:=Mm
theorem oP{fr:Bool}{t:T}(h:aC)(hb:HB h L):cA h [.one (.p fr t)]=false:=JY
theorem eF1{t:Tmp}{fr:Bool}{x:Value}{rs:List TD}(hr:ov nt f (.tmp t)=some (.one (.p fr (.v x))):=by exact rfl)(hrs: [TD.one (.v x)]=rs:=by exact rfl):cP nt (hZ E [.tmp t] (.fresh,rs)) .ret f L:=aR (.inr rfl) (aM hr ar) (ae (ak ao) aj) (λh hb=>JY) rfl hrs
theorem eR{KK:St->Prop}(h:cP nt Q .ret f L):cP nt (nZ KK Q) .ret f L:=h
theorem bR{id:Nat}(h:cP nt Q .ret f L):cP nt (AD id Q) .ret f L:=h
theorem bN{id:Nat}(h:cP nt Q .normal f L):cP nt (AD id Q) .normal f L:=h
theorem bH{id:Nat}(h:cP nt Q .normal f L):cP nt (AD id Q) (.exit id) f L:=OS h
theorem cT{c:Operand}{a b:Code}{fr:Bool}(hc:ov nt f c=some (.one (.p fr (.v (.bool true)))))(h:WpL E y n nt a Q f L):WpL E y n nt (.cond c a b) Q f L:=Mf hc h
theorem cF{c:Operand}{a b:Code}{fr:Bool}(hc:ov nt f c=some (.one (.p fr (.v (.bool false)))))(h:WpL E y n nt b Q f L):WpL E y n nt (.cond c a b) Q f L:=Mg hc h
theorem lK(h:cP nt Q .normal f L):WpL E y n nt .skip Q f L:=OR h
theorem lR(h:cP nt Q .ret f L):WpL E y n nt .ret Q f L:=Sd h
theorem lB{id:Nat}{c:Code}(h:WpL E y n nt c (AD id Q) f L):WpL E y n nt (.block id c) Q f L:=Me h
theorem eS{b:Code}(h:WpL E y n nt b Q f L):cP nt (nZ (WpC E y n b Q) Q) .normal f L:=JT h
theorem oE(h:cP nt Q .normal f L):dp E y n nt ops [] (Q .normal) f L:=EJ h
theorem lS{a b:Code}(h:WpL E y n nt a (nZ (WpC E y n b Q) Q) f L):WpL E y n nt (.seq a b) Q f L:=NO h
theorem lO{id:Nat}{l:List Oper}(h:dp E y n nt l.toArray l (Q .normal) f L):WpL E y n nt (.region id l.toArray false) Q f L:=JS h
theorem oN{id:Nat}{l:List Oper}{b:Code}(h:dp E y n nt l.toArray l (nZ (WpC E y n b Q) Q .normal) f L):dp E y n nt ops [] (nZ (WpC E y n (.seq (.region id l.toArray false) b) Q) Q .normal) f L:=EJ (JT (NO (JS h)))
theorem oR{id:Nat}{l:List Oper}(h:dp E y n nt l.toArray l (Q .normal) f L):dp E y n nt ops [] (nZ (WpC E y n (.region id l.toArray false) Q) Q .normal) f L:=EJ (JT (JS h))
end
end Ev
end
noncomputable section
open Go Go.RowKit
theorem Ic(x a:Nat)(hx:x<18446744073709551616)(hx0:x≠0)(hlow:x &&&(18446744073709551616 - x)=a):
  IntKind.u64.wrap (bits BinOp.and IntKind.u64 (x:Int) (IntKind.u64.wrap (-(x:Int)))*285870213051353865)/ 288230376151711744=((a*285870213051353865 % 18446744073709551616 / 288230376151711744:Nat):Int):=by
 have e1:IntKind.u64.wrap (-(x:Int))=((18446744073709551616 - x:Nat):Int):=by rw [IntKind.wrap_u64];omega
 rw [e1,bits_and_u64_nat x _ hx (by omega),hlow,IntKind.wrap_u64];omega
set_option maxHeartbeats 1000000 in
theorem Id(x k idx:Nat)(w:World)(hx0:((x:Int)==0)=false)
  (key:IntKind.u64.wrap (bits BinOp.and IntKind.u64 (x:Int) (IntKind.u64.wrap (-(x:Int)))*285870213051353865)/ 288230376151711744=(idx:Int))
  (hi:idx<64) (hk:k<64) (hcell:w.cell? ⟨0,idx,none⟩=some (.int .u8 k)):
  Calls Tryd.prog 69 #[.int .u64 x] w λe w'=>e= .returned (.int .i64 k)/\w=w':=by
 go_enter Tryd.func69,Tryd.ntmps69
 go_wp2_with (simp only [key])
 go_ret
 exact⟨rfl,rfl⟩
namespace Ev
theorem Kq(x:Nat)(hx:x<18446744073709551616)(hx0:x≠0)(w:World)(hT:Ob w):
  Calls Tryd.prog 69 #[.int .u64 x] w λe w'=>e= .returned (.int .i64 (Lib.ctz 64 x))/\w=w':=by
 obtain⟨hlow,hk⟩:=Lib.lowest_bit 64 x hx0 hx;obtain⟨hi,htab⟩:=Lib.deBruijn64_at _ hk;have hcell:=hT.2 _ hi;rw [htab]at hcell;exact Id x _ _ w (by simp;omega) (Ic x _ hx hx0 hlow) hi hk hcell
def tzF:List TD->Option (Kind×List TD)
 | [.one (.v (.int .u64 x))]=>if 0<x/\x<18446744073709551616 then some (.fresh,[.one (.v (.int .i64 (Lib.ctz 64 x.toNat)))])else none
 |_=>none
def TZ(x:Int):Option Int:=if 0<x/\x<18446744073709551616 then some ((Lib.ctz 64 x.toNat:Nat):Int)else none
theorem Sk(vs:List TD)(kind:Kind)(rs:List TD)(h:tzF vs=some (kind,rs)):cY Tryd.prog 69 vs kind rs/\Enters Tryd.prog 69:=by
 unfold tzF at h;split at h
 .rename_i x;split at h
  .rename_i hx;simp only [zsI,Prod.mk.injEq]at h;obtain⟨rfl,rfl⟩:=h;refine⟨λw F ys hL hF hr=> ?_,⟨_,_,Tryd.func69,by kernel_rfl,by unfold Tryd.f69;rfl⟩⟩;obtain⟨hlen,hi⟩:=hr
   match ys,hlen with
   | [y],_=>
    obtain⟨y',e1,e2⟩:=hi 0 _ rfl;simp only [List.getElem?_cons_zero,zsI]at e1;subst e1
    have ey:y= .int .u64 x:=by
     cases e2 with
     |one t y h=>cases h with|v x hx=>rfl
    subst ey;obtain⟨n,rfl⟩:=Int.eq_ofNat_of_zero_le (show 0<=x by omega);refine(Kq n (by omega) (by omega) w hL.2).mono λe w' ⟨he,hw⟩=> ?_;subst hw;refine⟨_,he,?_,λhk=>(by cases hk),Below.refl _ _⟩;exact .one _ _ (.v _ rfl)
  .simp at h
 .simp at h
end Ev
end
noncomputable section
namespace Ev
namespace K
open Go Go.RowKit
inductive Ty where
 |I (k:IntKind)
 |B
 |S (e:Ty)
 |U
 |C (x y:Ty)
 deriving DecidableEq,Inhabited
namespace Ty
@[reducible] def val:Ty->Type
 | .I _=>Int
 | .B=>Bool
 | .S e=>Sl e.val
 | .U=>Unit
 | .C x y=>x.val×y.val
def size:Ty->Nat
 | .U=>0
 | .C x y=>x.size+y.size
 |_=>1
def row:(t:Ty)->t.val->List T
 | .I k,x=> [iT k x]
 | .B,x=> [bT x]
 | .S e,x=> [Sl.t e.row x]
 | .U,_=> []
 | .C a b,x=>a.row x.1++b.row x.2
def zero:(t:Ty)->t.val
 | .I _=>(0:Int)
 | .B=>false
 | .S _=>⟨false,0,[]⟩
 | .U=>()
 | .C a b=>(a.zero,b.zero)
def plain:Ty->Bool
 | .S _=>false
 | .C a b=>a.plain && b.plain
 |_=>true
end Ty
def ie(t t':Ty)(x:t.val):Option t'.val:=if h:t=t' then some (h▸x)else none
inductive KC where
 |n (k:IntKind) (x:Int)
 |b (v:Bool)
 |p (tag:Nat) (P:Prop) (d:Decidable P)
 |bv (x:Bool)
 |v (x:Value)
 |nil
 |s (e:Ty) (fr:Bool) (x:Sl e.val)
 |o (e:Ty) (p:Nat)
 |m (e:Ty) (p:Nat)
 |ptr (p j:Nat)
 |pe (p:Nat) (i:Int) (j:Nat)
 |ip (e:Ty) (fr:Bool) (x:Sl e.val) (i:Int) (y:e.val) (j:Nat)
 |clo (fn:FuncId) (ps:List Nat)
 |yld (p:Nat)
inductive KD where
 |one (c:KC)
 |agg (cs:List KC)
 |tup (ds:List (Bool×List KC))
inductive KB where
 |box (cs:List KC)
 |rows (e:Ty) (ne:Bool) (l:List e.val)
 |mrows (e:Ty) (l:List e.val)
 |dead
structure KS where
 sl:List (Nat×KD)
 bl:List (Nat×KB)
 nx:Nat
structure KF where
 nt:Nat:=0
 sl:List (Nat×KD):= []
 bl:List (Nat×KB):= []
def az{α:Type}:List (Nat×α)->Nat->Option α
 | [],_=>none
 |x::r,i=>cond (Nat.beq x.1 i) (some x.2) (az r i)
def bA{α:Type}(l m:List (Nat×α))(i:Nat):Option α:=
 match az l i with
 |some a=>some a
 |none=>az m i
def ig(F:KF)(ks:KS)(i:Nat):Option KD:=bA ks.sl F.sl i
def aE(F:KF)(ks:KS)(p:Nat):Option KB:=
 match bA ks.bl F.bl p with
 |some .dead=>none
 |x=>x
def dG(fr:Bool):(e:Ty)->e.val->List KC
 | .I k,x=> [.n k x]
 | .B,x=> [.bv x]
 | .S e,x=> [.s e fr x]
 | .U,_=> []
 | .C a b,x=>dG fr a x.1++dG fr b x.2
def ng(B:Nat->Option KB):(e:Ty)->KC->Option e.val
 | .I k,.n k' x=>if k=k' then some x else none
 | .B,.b v=>some v
 | .B,.p _ P d=>some (@decide P d)
 | .B,.bv x=>some x
 | .S e,.nil=>some ⟨false,0,[]⟩
 | .S e,.s e' _ x=>ie (.S e') (.S e) x
 | .S e,.o _ p=>match B p with
  |some (.rows e' _ l)=>ie (.S e') (.S e) ⟨true,e'.size,l⟩
  |_=>none
 | .S e,.m _ p=>match B p with
  |some (.mrows e' l)=>ie (.S e') (.S e) (mo e'.size l)
  |_=>none
 |_,_=>none
def dec(B:Nat->Option KB):(e:Ty)->List KC->Option e.val
 | .U,[]=>some ()
 | .C a b,cs=>(dec B a (cs.take a.size)).bind λx=>(dec B b (cs.drop a.size)).bind λy=>some (x,y)
 |e,[c]=>ng B e c
 |_,_=>none
def noB:Nat->Option KB:=λ_=>none
def frC:KC->Bool
 | .s _ fr _=>fr
 |_=>true
def ry:KC->Bool
 | .n .. | .b _| .p .. | .bv _| .v _| .nil| .s .. =>true
 |_=>false
abbrev TyD:=Bool×Ty
@[reducible] def vals:List TyD->Type
 | []=>Unit
 | [t]=>t.2.val
 |t::r=>t.2.val×vals r
def nD(t:TyD)(x:t.2.val):TD:=
 match t with
 |(true,e)=> .agg (e.row x)
 |(false,e)=>match e.row x with
  | [y]=> .one y
  |ys=> .agg ys
def fp:(ts:List TyD)->vals ts->List TD
 | [],_=> []
 | [t],x=> [nD t x]
 |t::t'::r,x=>nD t x.1::fp (t'::r) x.2
def mkD(x:Bool×List KC):KD:=
 match x with
 |(true,cs)=> .agg cs
 |(false,[c])=> .one c
 |(false,cs)=> .agg cs
def Kr(fr:Bool)(t:TyD)(x:t.2.val):Bool×List KC:=(t.1,dG fr t.2 x)
def oe(fr:Bool):(ts:List TyD)->vals ts->List (Bool×List KC)
 | [],_=> []
 | [t],x=> [Kr fr t x]
 |t::t'::r,x=>Kr fr t x.1::oe fr (t'::r) x.2
def AM(B:Nat->Option KB)(t:TyD):KD->Option t.2.val
 | .one c=>if t.1 then none else ng B t.2 c
 | .agg cs=>if t.1 then dec B t.2 cs else none
 | .tup _=>none
def lU(B:Nat->Option KB):(ts:List TyD)->List KD->Option (vals ts)
 | [],[]=>some ()
 | [t],[d]=>AM B t d
 |t::t'::r,d::ds=>(AM B t d).bind λx=>(lU B (t'::r) ds).bind λy=>some (x,y)
 |_,_=>none
def rz:KD->Bool
 | .one c=>ry c
 | .agg cs=>cs.all ry
 | .tup _=>false
inductive OutK where
 |data (fr:Bool) (ts:List TyD)
 |own (e:Ty)
 |mown (e:Ty)
 |gown (e:Ty)
@[reducible] def OutK.val:OutK->Type
 | .data _ ts=>vals ts
 | .own e=>List e.val
 | .mown e=>List e.val
 | .gown e=>Sl e.val
structure eh where
 k:FuncId
 ins:List TyD
 out:OutK
 f:vals ins->Option out.val
 d:Nat
structure KG where
 ti:List (Nat×TI)
 eqs:List (Nat×List IntKind)
 fns:List eh
 fi:List (FuncId×FI)
def KG.fn(G:KG)(k:FuncId):Option eh:=G.fns.find? λe=>Nat.beq e.k k
def MG(ti:List (Nat×TI)):Nat->TypeId->Option Ty
 |0,_=>none
 |n+1,t=>match az ti t with
  |none=>none
  |some i=>match i.desc with
   | .int k=>some (.I k)
   | .bool=>some .B
   | .slice e=>(MG ti n e).map .S
   | .array m e=>(MG ti n e).bind λx=>prod (List.replicate m x)
   | .struct fs=>(seqO (fs.toList.map λf=>MG ti n f.type)).bind prod
   |_=>none
where
 prod:List Ty->Option Ty
  | []=>some .U
  | [x]=>some x
  |x::y::r=>(prod (y::r)).map (.C x)
 seqO:List (Option Ty)->Option (List Ty)
  | []=>some []
  |none::_=>none
  |some x::r=>(seqO r).map (x::·)
def KG.ty(G:KG)(t:TypeId):Option Ty:=MG G.ti 9 t
def KG.elem(G:KG)(t:TypeId):Option (TypeId×Ty×Nat):=
 match az G.ti t with
 |some i=>match bn i with
  |some e=>match az G.ti e with
   |some te=>(G.ty e).map λx=>(e,x,te.size)
   |none=>none
  |none=>none
 |none=>none
structure KE where
 v:KD
 upd:Option (Nat×KB):=none
 new:Option KB:=none
def kC:Value->KC
 | .int k n=> .n k n
 | .bool b=> .b b
 | .slice none 0 0=> .nil
 |x=> .v x
def sM:Value->Option KD
 | .agg cs=>if cs.toList.all one1 then some (.agg (cs.toList.map kC))else none
 | .tuple _=>none
 |v=>some (.one (kC v))
def kO(F:KF)(ks:KS):Operand->Option KD
 | .tmp i=>ig F ks i
 | .const v=>sM v
 | .global _=>none
 | .func f=>some (.one (.v (.func (.func f) #[] #[])))
def kUn:KD:= .tup []
def Pc(tag:Nat)(op:BinOp)(k k':IntKind)(a b:Int){R:Type}(κ:KE->Option R):Option R:=
 match op with
 | .shl=>(EQ k a b).bind λz=>κ ⟨.one (.n k z),none,none⟩
 | .shr=>(uh k a b).bind λz=>κ ⟨.one (.n k z),none,none⟩
 |op=>if k=k' then match op with
  | .add=>κ ⟨.one (.n k (k.wrap (a+b))),none,none⟩
  | .sub=>κ ⟨.one (.n k (k.wrap (a - b))),none,none⟩
  | .mul=>κ ⟨.one (.n k (k.wrap (a*b))),none,none⟩
  | .and=>κ ⟨.one (.n k (sK k a b)),none,none⟩
  | .or=>κ ⟨.one (.n k (orI k a b)),none,none⟩
  | .xor=>κ ⟨.one (.n k (OY k a b)),none,none⟩
  | .andNot=>κ ⟨.one (.n k (fW k a b)),none,none⟩
  | .quo=>(qf k a b).bind λz=>κ ⟨.one (.n k z),none,none⟩
  | .rem=>(sJ a b).bind λz=>κ ⟨.one (.n k z),none,none⟩
  | .eql=>κ ⟨.one (.p tag (a=b) (Int.instDecidableEq a b)),none,none⟩
  | .neq=>κ ⟨.one (.p tag (a≠b) (@instDecidableNot _ (Int.instDecidableEq a b))),none,none⟩
  | .lss=>κ ⟨.one (.p tag (a<b) (Int.decLt a b)),none,none⟩
  | .leq=>κ ⟨.one (.p tag (a<=b) (Int.decLe a b)),none,none⟩
  | .gtr=>κ ⟨.one (.p tag (a>b) (Int.decLt b a)),none,none⟩
  | .geq=>κ ⟨.one (.p tag (a >= b) (Int.decLe b a)),none,none⟩
  |_=>none
 else none
def wB:Operand->Bool
 | .const (.slice none 0 0)=>true
 |_=>false
def sN(op:BinOp)(tag:Nat)(P:Prop)(d:Decidable P):Option KC:=
 match op with
 | .eql=>some (.p tag P d)
 | .neq=>some (.p tag (¬P) (@instDecidableNot P d))
 |_=>none
def Gh(op:BinOp)(v:Bool):Option KC:=
 match op with
 | .eql=>some (.b v)
 | .neq=>some (.b (!v))
 |_=>none
def eqP:List (Int×Int)->Prop
 | []=>True
 | [x]=>x.1=x.2
 |x::y::r=>x.1=x.2/\eqP (y::r)
def eqD:(l:List (Int×Int))->Decidable (eqP l)
 | []=> .isTrue trivial
 | [x]=>Int.instDecidableEq x.1 x.2
 |x::y::r=> @instDecidableAnd _ _ (Int.instDecidableEq x.1 x.2) (eqD (y::r))
def gQ:List IntKind->List KC->List KC->Option (List (Int×Int))
 | [],[],[]=>some []
 |k::ks,.n k1 x::r,.n k2 y::s=>if k1=k/\k2=k then(gQ ks r s).map ((x,y)::·)else none
 |_,_,_=>none
def Gi:KC->Option Bool
 | .b v=>some v
 | .p _ P d=>some (@decide P d)
 | .bv x=>some x
 |_=>none
def AN(ti:List (Nat×TI))(t:TypeId):Bool:=match az ti t with
 |some i=>match i.desc with
  | .bool=>true
  |_=>false
 |none=>false
def LZ(G:KG)(F:KF)(ks:KS)(tag:Nat)(op:BinOp)(ty:TypeId)(y:Operand)(a b:KD){R:Type}(κ:KE->Option R):Option R:=
 match a,b with
 | .one (.n k x),.one (.n k' x')=>Pc tag op k k' x x' κ
 | .one (.s e fr x),_=>match wB y,G.elem ty with
  |true,some _=>(sN op tag (x.nn=false) (instDecidableEqBool x.nn false)).bind λc=>κ ⟨.one c,none,none⟩
  |_,_=>none
 | .one (.o e p),_=>match wB y,G.elem ty,aE F ks p with
  |true,some _,some (.rows _ _ _)=>(Gh op false).bind λc=>κ ⟨.one c,none,none⟩
  |_,_,_=>none
 | .one .nil,_=>match wB y,G.elem ty with
  |true,some _=>(Gh op true).bind λc=>κ ⟨.one c,none,none⟩
  |_,_=>none
 | .agg cs,.agg ds=>match az G.eqs ty with
  |some kinds=>match gQ kinds cs ds with
   |some l=>(sN op tag (eqP l) (eqD l)).bind λc=>κ ⟨.one c,none,none⟩
   |none=>none
  |none=>none
 | .one c,.one d=>match AN G.ti ty,Gi c,Gi d with
  |true,some x,some x'=>(sN op tag (x=x') (instDecidableEqBool x x')).bind λc=>κ ⟨.one c,none,none⟩
  |_,_,_=>none
 |_,_=>none
def kOf(agg:Bool)(cs:List KC):Option KD:=
 if agg then some (.agg cs)else match cs with
  | [c]=>some (.one c)
  |_=>none
def kCs:KD->Option (List KC)
 | .one c=>some [c]
 | .agg cs=>some cs
 | .tup _=>none
def wd(z:Nat×Bool):Nat:=cond z.2 z.1 1
def Ks(ti:List (Nat×TI))(t:TypeId):Option (Nat×Bool):=match az ti t with
 |some i=>some (i.size,br i.desc)
 |none=>none
def MH(ti:List (Nat×TI))(t:TypeId)(m:Nat):Option (Nat×Nat×Bool):=match az ti t with
 |some i=>match jz i m with
  |some fd=>match az ti fd.type with
   |some ft=>some (fd.offset,ft.size,br ft.desc)
   |none=>none
  |none=>none
 |none=>none
def iX(F:KF)(ks:KS)(z:Nat×Bool)(a:KD){R:Type}(κ:KD->Option R):Option R:=
 match a with
 | .one (.ptr p j)=>match aE F ks p with
  |some (.box cs)=>((cut cs j (wd z)).bind (kOf z.2)).bind κ
  |_=>none
 | .one (.ip e fr x i y j)=>((cut (dG fr e y) j (wd z)).bind (kOf z.2)).bind κ
 | .one (.pe p i j)=>match aE F ks p with
  |some (.rows e _ l)=>(atL l i).bind λy=>((cut (dG true e y) j (wd z)).bind (kOf z.2)).bind κ
  |some (.mrows e l)=>(atL l i).bind λy=>((cut (dG true e y) j (wd z)).bind (kOf z.2)).bind κ
  |_=>none
 |_=>none
def wq(ks:KS)(sz:Nat)(a x:KD){R:Type}(κ:KE->Option R):Option R:=
 match kCs x with
 |none=>none
 |some cs=>if cs.length=sz then match a with
  | .one (.ptr p j)=>match az ks.bl p with
   |some (.box es)=>(patch es j cs).bind λes'=>κ ⟨kUn,some (p,.box es'),none⟩
   |_=>none
  | .one (.pe p i j)=>match az ks.bl p with
   |some (.rows e ne l)=>if cs.all frC then(atL l i).bind λy=>(patch (dG true e y) j cs).bind λes'=>(dec noB e es').bind λy'=>κ ⟨kUn,some (p,.rows e ne (l.set i.toNat y')),none⟩else none
   |some (.mrows e l)=>if cs.all frC then(atL l i).bind λy=>(patch (dG true e y) j cs).bind λes'=>(dec noB e es').bind λy'=>κ ⟨kUn,some (p,.mrows e (l.set i.toNat y')),none⟩else none
   |_=>none
  |_=>none
 else none
def kPlaces(ti:List (Nat×TI))(t:TypeId):Option (Nat->Option (Nat×Nat)):=match az ti t with
 |some i=>match i.desc with
  | .struct fs=>(seqP (fs.toList.map λf=>match az ti f.type with
   |some q=>some (f.offset,q.size)
   |none=>none)).map λl n=>l[n]?
  | .array _ e=>match az ti e with
   |some te=>some λn=>some (n*te.size,te.size)
   |none=>none
  |_=>none
 |none=>none
where
 seqP:List (Option (Nat×Nat))->Option (List (Nat×Nat))
  | []=>some []
  |none::_=>none
  |some x::r=>(seqP r).map (x::·)
def CZ(place:Nat->Option (Nat×Nat))(cells:List KC):List (Nat×KD)->Option (List KC)
 | []=>some cells
 |(i,d)::r=>match place i,kCs d with
  |some (off,size),some cs=>if cs.length=size then(patch cells off cs).bind λc=>CZ place c r else none
  |_,_=>none
def wD(F:KF)(ks:KS):List (Nat×Operand)->Option (List (Nat×KD))
 | []=>some []
 |(i,x)::r=>(kO F ks x).bind λd=>(wD F ks r).bind λl=>some ((i,d)::l)
def kE(F:KF)(ks:KS):List Operand->Option (List KD)
 | []=>some []
 |x::r=>(kO F ks x).bind λd=>(kE F ks r).bind λl=>some (d::l)
def oM(e:Ty):List (List KC)->Option (List e.val)
 | []=>some []
 |cs::r=>if cs.all frC=true then(dec noB e cs).bind λx=>(oM e r).bind λl=>some (x::l)else none
def yP(z:Nat)(cs:List KC):Nat->Nat->Option (List (List KC))
 |0,_=>some []
 |n+1,i=>(cut cs (i*z) z).bind λa=>(yP z cs n (i+1)).bind λl=>some (a::l)
def AO(F:KF)(ks:KS)(e:Ty):KC->Option (List e.val×Bool)
 | .nil=>some ([],false)
 | .s e' fr x=>if(fr||e'.plain)=true then(ie (.S e') (.S e) x).map λx=>(x.l,false)else none
 | .o _ p=>match aE F ks p with
  |some (.rows e' ne l)=>(ie (.S e') (.S e) ⟨true,0,l⟩).map λx=>(x.l,ne)
  |_=>none
 | .m _ p=>match aE F ks p with
  |some (.mrows e' l)=>(ie (.S e') (.S e) ⟨true,0,l⟩).map λx=>(x.l,false)
  |_=>none
 |_=>none
def AP(F:KF)(ks:KS)(nid:Nat)(e:Ty)(a x:KC){R:Type}(κ:KE->Option R):Option R:=
 match AO F ks e x with
 |none=>none
 |some (xs,ne)=>match a with
  | .nil=>(app [] xs).bind λlm=>cond ne (κ ⟨.one (.o e nid),none,some (.rows e true lm)⟩) (κ ⟨.one (.m e nid),none,some (.mrows e lm)⟩)
  | .o _ p=>match az ks.bl p with
   |some (.rows e' ne' l)=>(ie (.S e') (.S e) ⟨true,0,l⟩).bind λl=>(app l.l xs).bind λlm=>κ ⟨.one (.o e nid),some (p,.dead),some (.rows e (ne||ne') lm)⟩
   |_=>none
  | .m _ p=>match az ks.bl p with
   |some (.mrows e' l)=>(ie (.S e') (.S e) ⟨true,0,l⟩).bind λl=>(app l.l xs).bind λlm=>cond ne (κ ⟨.one (.o e nid),some (p,.dead),some (.rows e true lm)⟩) (κ ⟨.one (.m e nid),some (p,.dead),some (.mrows e lm)⟩)
   |_=>none
  |_=>none
def Pd(F:KF)(ks:KS):KC->Option Int
 | .nil=>some 0
 | .s _ _ x=>some ((x.l.length:Nat):Int)
 | .o _ p=>match aE F ks p with
  |some (.rows _ _ l)=>some ((l.length:Nat):Int)
  |_=>none
 | .m _ p=>match aE F ks p with
  |some (.mrows _ l)=>some ((l.length:Nat):Int)
  |_=>none
 |_=>none
def wE(G:KG)(F:KF)(ks:KS)(nid:Nat)(c:Call)(b:Builtin)(args:List KD){R:Type}(κ:KE->Option R):Option R:=
 match c.argTypes[0]? with
 |none=>none
 |some ty=>match b,args with
  | .len,[.one x]=>match G.elem ty with
   |some _=>(Pd F ks x).bind λn=>κ ⟨.one (.n .i64 n),none,none⟩
   |none=>none
  | .min,[.one (.n k x),.one (.n _ y)]=>match az G.ti ty with
   |some _=>κ ⟨.one (.n k (bM x y)),none,none⟩
   |none=>none
  | .max,[.one (.n k x),.one (.n _ y)]=>match az G.ti ty with
   |some _=>κ ⟨.one (.n k (aT x y)),none,none⟩
   |none=>none
  | .append,[.one a,.one x]=>match G.elem ty,(c.argTypes[1]?).bind G.elem with
   |some (_,e,z),some _=>if e.size=z/\z≠0 then AP F ks nid e a x κ else none
   |_,_=>none
  | .copy,[.one (.o _ p),.one x]=>match G.elem ty,(c.argTypes[1]?).bind G.elem,az ks.bl p with
   |some (_,e,z),some _,some (.rows e' ne l)=>if e.size=z/\z≠0 then match AO F ks e x with
    |some (xs,_)=>(ie (.S e') (.S e) ⟨true,0,l⟩).bind λl=>(cpL l.l xs).bind λlm=>κ ⟨.one (.n .i64 ((xs.length:Nat):Int)),some (p,.rows e ne lm),none⟩
    |none=>none
    else none
   |_,_,_=>none
  |_,_=>none
def Kt:List (Bool×List KC)->KD
 | [d]=>mkD d
 |ds=> .tup ds
def Pe(nid:Nat):(o:OutK)->o.val->KE
 | .data fr ts,x=>⟨Kt (oe fr ts x),none,none⟩
 | .own e,l=>⟨.one (.o e nid),none,some (.rows e false l)⟩
 | .mown e,l=>⟨.one (.m e nid),none,some (.mrows e l)⟩
 | .gown _,_=>⟨.one .nil,none,none⟩
def EX(F:KF)(ks:KS)(nid:Nat)(en:eh)(args:List KD){R:Type}(κ:KE->Option R):Option R:=
 match en.out with
 | .data false _=>if args.all rz then(lU (aE F ks) en.ins args).bind λa=>(en.f a).bind λout=>κ (Pe nid en.out out)else none
 | .gown _=>none
 |_=>(lU (aE F ks) en.ins args).bind λa=>(en.f a).bind λout=>κ (Pe nid en.out out)
def og(F:KF)(ks:KS)(c:Call):Option (FuncId×List KD):=
 match c.callee with
 | .value f=>match kO F ks f,kE F ks c.args.toList with
  |some (.one (.v (.func (.func k) first cap))),some args=>if first.size=0/\cap.size=0 then some (k,args)else none
  |some (.one (.clo k ps)),some args=>some (k,args++ps.map λp=> .one (.ptr p 0))
  |_,_=>none
 |_=>none
def Gj:List KD->Option (List Nat)
 | []=>some []
 | .one (.ptr p j)::r=>if j=0 then(Gj r).map (p::·)else none
 |_=>none
def wG(F:KF)(ks:KS)(o:Option Operand)(d:Int):Option Int:=
 match o with
 |none=>some d
 |some x=>match kO F ks x with
  |some (.one (.n _ i))=>some i
  |_=>none
def Pf{R:Type}(b:Bool)(n:Nat)(j m:Int)(x:Option R):Option R:=cond b (if j<=m/\m<=(n:Int)then x else none) x
theorem Ie{R:Type}{b:Bool}{n:Nat}{j m:Int}{x:Option R}{r:R}(h:Pf b n j m x=some r):x=some r/\(b=true->j<=m/\m<=(n:Int)):=by
 unfold Pf at h
 cases b with
 |false=>exact⟨h,λh=>by simp at h⟩
 |true=>
  simp only [cond_true]at h;split at h
  .rename_i hc;exact⟨h,λ_=>hc⟩
  .simp at h
def cW(G:KG)(F:KF)(ks:KS)(tag nid:Nat)(op:Op){R:Type}(κ:KE->Option R):Option R:=
 match op with
 | .move x| .assign x=>(kO F ks x).bind λd=>κ ⟨d,none,none⟩
 | .alloc t=>match az G.ti t with
  |some i=>κ ⟨.one (.ptr nid 0),none,some (.box (i.zero.map kC))⟩
  |none=>none
 | .box t x=>match az G.ti t,(kO F ks x).bind kCs with
  |some _,some cs=>κ ⟨.one (.ptr nid 0),none,some (.box cs)⟩
  |_,_=>none
 | .build t parts=>match az G.ti t,kPlaces G.ti t,wD F ks parts.toList with
  |some i,some pl,some ps=>(CZ pl (i.zero.map kC) ps).bind λcs=>κ ⟨.agg cs,none,none⟩
  |_,_,_=>none
 | .buildSlice t len parts=>match G.elem t,wD F ks parts.toList with
  |some (te,e,z),some ps=>match az G.ti te with
   |some i=>if e.size=z/\z*len<=1000000 then(CZ (λn=>some (n*z,z)) ((List.replicate len (i.zero.map kC)).flatten) ps).bind λcs=>(yP z cs len 0).bind λrs=>(oM e rs).bind λl=>κ ⟨.one (.o e nid),none,some (.rows e (Nat.blt 0 len) l)⟩else none
   |none=>none
  |_,_=>none
 | .load t a=>match Ks G.ti t,kO F ks a with
  |some z,some d=>iX F ks z d λv=>κ ⟨v,none,none⟩
  |_,_=>none
 | .store t a x=>match Ks G.ti t,kO F ks a,kO F ks x with
  |some z,some d,some v=>wq ks z.1 d v κ
  |_,_,_=>none
 | .binOp op ty x y _=>match kO F ks x,kO F ks y with
  |some a,some b=>LZ G F ks tag op ty y a b κ
  |_,_=>none
 | .unOp op _ x=>match op,kO F ks x with
  | .not,some (.one (.b v))=>κ ⟨.one (.b (!v)),none,none⟩
  | .not,some (.one (.p _ P d))=>κ ⟨.one (.p tag (¬P) (@instDecidableNot P d)),none,none⟩
  | .not,some (.one (.bv x))=>κ ⟨.one (.p tag (¬x=true) (@instDecidableNot _ (instDecidableEqBool x true))),none,none⟩
  | .neg,some (.one (.n k x))=>κ ⟨.one (.n k (k.wrap (0 - x))),none,none⟩
  | .xor,some (.one (.n k x))=>κ ⟨.one (.n k (Kj k x)),none,none⟩
  |_,_=>none
 | .convert src dst x=>match az G.ti src,az G.ti dst,kO F ks x with
  |some s,some d,some (.one (.n k a))=>match s.desc,d.desc with
   | .int k1,.int k2=>if k1=k then κ ⟨.one (.n k2 (k2.wrap a)),none,none⟩else none
   |_,_=>none
  |_,_,_=>none
 | .makeFunc fn first cap=>match fn,first.toList,(kE F ks cap.toList).bind Gj with
  | .func k,[],some ps=>κ ⟨.one (.clo k ps),none,none⟩
  |_,_,_=>none
 | .makeSlice t l c=>match G.elem t,kO F ks l,kO F ks c with
  |some (te,e,z),some (.one (.n _ n)),some (.one (.n _ m))=>match az G.ti te with
   |some i=>if e.size=z/\z≠0 then(JZ n m).bind λ_=>(eP n).bind λ_=>(dec noB e (i.zero.map kC)).bind λx=>κ ⟨.one (.o e nid),none,some (.rows e false (List.replicate n.toNat x))⟩else none
   |none=>none
  |_,_,_=>none
 | .slice t x lo hi mx=>match mx.isSome && hi.isNone,G.elem t,kO F ks x with
  |false,some (te,e,z),some (.one (.s e' fr s))=>match wG F ks lo 0,wG F ks hi ((s.l.length:Nat):Int),wG F ks mx ((s.l.length:Nat):Int)with
   |some i,some j,some m=>Pf mx.isSome s.l.length j m ((pc z s i j).bind λs'=>κ ⟨.one (.s e' fr s'),none,none⟩)
   |_,_,_=>none
  |_,_,_=>none
 | .fieldAddr t x f=>match MH G.ti t f,kO F ks x with
  |some (off,sz,_),some (.one (.ptr p j))=>if sz=0 then none else κ ⟨.one (.ptr p (j+off)),none,none⟩
  |some (off,sz,_),some (.one (.pe p i j))=>if sz=0 then none else κ ⟨.one (.pe p i (j+off)),none,none⟩
  |some (off,sz,_),some (.one (.ip e fr x i y j))=>if sz=0 then none else κ ⟨.one (.ip e fr x i y (j+off)),none,none⟩
  |_,_=>none
 | .field t x f=>match MH G.ti t f,kO F ks x with
  |some (off,sz,ag),some (.agg cs)=>((cut cs off (wd (sz,ag))).bind (kOf ag)).bind λd=>κ ⟨d,none,none⟩
  |_,_=>none
 | .indexAddr t x ix=>match kO F ks x,kO F ks ix with
  |some (.one (.s e fr s)),some (.one (.n _ i))=>match G.elem t with
   |some (_,_,z)=>(atS z s i).bind λy=>κ ⟨.one (.ip e fr s i y 0),none,none⟩
   |none=>none
  |some (.one (.o _ p)),some (.one (.n _ i))=>match G.elem t,aE F ks p with
   |some (_,_,z),some (.rows e _ l)=>if e.size=z then(atL l i).bind λ_=>κ ⟨.one (.pe p i 0),none,none⟩else none
   |_,_=>none
  |some (.one (.m _ p)),some (.one (.n _ i))=>match G.elem t,aE F ks p with
   |some (_,_,z),some (.mrows e l)=>if e.size=z then(atL l i).bind λ_=>κ ⟨.one (.pe p i 0),none,none⟩else none
   |_,_=>none
  |some (.one (.ptr p j)),some (.one (.n _ (.ofNat a)))=>match az G.ti t with
   |some ti=>match ti.desc with
    | .array n e=>match az G.ti e with
     |some te=>if a<n then κ ⟨.one (.ptr p (j+a*te.size)),none,none⟩else none
     |none=>none
    |_=>none
   |none=>none
  |some (.one (.ip e fr s i y j)),some (.one (.n _ (.ofNat a)))=>match az G.ti t with
   |some ti=>match ti.desc with
    | .array n e'=>match az G.ti e' with
     |some te=>if a<n then κ ⟨.one (.ip e fr s i y (j+a*te.size)),none,none⟩else none
     |none=>none
    |_=>none
   |none=>none
  |_,_=>none
 | .index t x ix=>match az G.ti t,kO F ks x,kO F ks ix with
  |some ti,some (.agg cs),some (.one (.n _ (.ofNat a)))=>match ti.desc with
   | .array n e=>match az G.ti e with
    |some te=>if a<n then((cut cs (a*te.size) (wd (te.size,br te.desc))).bind (kOf (br te.desc))).bind λd=>κ ⟨d,none,none⟩else none
    |none=>none
   |_=>none
  |_,_,_=>none
 | .extract x i=>match kO F ks x with
  |some (.tup ds)=>(ds[i]?).bind λd=>κ ⟨mkD d,none,none⟩
  |_=>none
 | .call c=>match c.callee with
  | .builtin b=>(kE F ks c.args.toList).bind λargs=>wE G F ks nid c b args κ
  |_=>match og F ks c with
   |some (k,args)=>match G.fn k with
    |some en=>EX F ks nid en args κ
    |none=>none
   |none=>none
 |_=>none
def oh(tag:Nat)(v:Bool):KC->KC
 | .p t P d=>cond (Nat.beq t tag) (.b v) (.p t P d)
 |c=>c
def Pg(tag:Nat)(v:Bool):KD->KD
 | .one c=> .one (oh tag v c)
 | .agg cs=> .agg (cs.map (oh tag v))
 | .tup ds=> .tup ds
def Ku(tag:Nat)(v:Bool):KB->KB
 | .box cs=> .box (cs.map (oh tag v))
 |b=>b
def subst(tag:Nat)(v:Bool)(ks:KS):KS:={ks with sl:=ks.sl.map λx=>(x.1,Pg tag v x.2),bl:=ks.bl.map λx=>(x.1,Ku tag v x.2)}
def kIf(c:KC)(ks:KS){R:Type}(κ:Bool->KS->Option R):Option R:=
 match c with
 | .b v=>κ v ks
 | .p tag P d=> @ite _ P d (κ true (subst tag true ks)) (κ false (subst tag false ks))
 | .bv x=>if x=true then κ true ks else κ false ks
 |_=>none
def ns(tag:Nat):KD->KD
 | .one (.bv x)=> .one (.p tag (x=true) (instDecidableEqBool x true))
 |d=>d
def blU(e:KE)(bl:List (Nat×KB)):List (Nat×KB):=
 match e.upd with
 |some x=>x::bl
 |none=>bl
def blE(e:KE)(nid:Nat)(bl:List (Nat×KB)):List (Nat×KB):=
 match e.new with
 |some b=>(nid,b)::blU e bl
 |none=>blU e bl
def slE(dst:Option Tmp)(v:KD)(sl:List (Nat×KD)):List (Nat×KD):=
 match dst with
 |some d=>(d,v)::sl
 |none=>sl
def EY(dst:Option Tmp)(tag nid:Nat)(e:KE)(ks:KS):KS:={sl:=slE dst (ns tag e.v) ks.sl,bl:=blE e nid ks.bl,nx:=ks.nx+2}
def jU(F:KF):Option Tmp->Bool
 |some d=>Nat.blt d F.nt
 |none=>true
def yQ(dst:Option Tmp)(ks:KS):KS:={ks with sl:=slE dst kUn ks.sl}
def yR(F:KF)(op:Op)(ks:KS){R:Type}(κ:Op->KS->Option R):Option R:=
 match op with
 | .pick c a b=>match kO F ks c with
  |some (.one c)=>kIf c ks λt ks=>κ (.move (cond t a b)) ks
  |_=>none
 |op=>κ op ks
def yS(F:KF)(ops:List Oper)(o:Oper)(ks:KS){R:Type}(κ:Bool->KS->Option R):Option R:=
 cond (jU F o.dst) (match o.guard with
 |none=>κ true ks
 |some (j,w)=>match(ops[j]?).bind λg=>g.dst with
  |some d=>match ig F ks d with
   |some (.one c)=>kIf c ks λb ks=>κ (b==w) ks
   |some (.tup [])=>κ false ks
   |_=>none
  |none=>none) none
abbrev yT:=(R:Type)->KF->FuncId->List KD->KS->(KD->KS->Option R)->Option R
def wH(G:KG)(F:KF)(ks:KS)(op:Op):Option (FuncId×List KD):=
 match op with
 | .call c=>match c.callee with
  | .builtin _=>none
  |_=>match og F ks c with
   |some (k,args)=>match az G.fi k with
    |some _=>some (k,args)
    |none=>none
   |none=>none
 |_=>none
def yd(G:KG)(call:yT)(F:KF)(ops:List Oper){R:Type}(κ:KS->Option R):List Oper->KS->Option R
 | [],ks=>κ ks
 |o::r,ks=>yS F ops o ks λw ks=>cond w
   (yR F o.op ks λop ks=>match wH G F ks op with
    |some (k,args)=>match o.dst with
     |some d=>call R F k args ks λv ks2=>yd G call F ops κ r {ks2 with sl:=(d,v)::ks.sl}
     |none=>none
    |none=>cW G F ks ks.nx (ks.nx+1) op λe=>yd G call F ops κ r (EY o.dst ks.nx (ks.nx+1) e ks))
   (yd G call F ops κ r (yQ o.dst ks))
def ol(G:KG)(F:KF)(ops:List Oper){R:Type}(κ:KS->Option R):List Oper->KS->Option R
 | [],ks=>κ ks
 |o::r,ks=>yS F ops o ks λw ks=>cond w
   (yR F o.op ks λop ks=>cW G F ks ks.nx (ks.nx+1) op λe=>match e.upd,e.new with
    |none,none=>ol G F ops κ r (EY o.dst ks.nx (ks.nx+1) e ks)
    |_,_=>none)
   (ol G F ops κ r (yQ o.dst ks))
end K
end Ev
end
noncomputable section
namespace Ev
namespace K
open Go Go.RowKit
inductive Sh where
 |d (fr:Bool) (t:Ty)
 |o (e:Ty)
 |m (e:Ty)
 |w (e:Ty)
@[reducible] def Sh.T:Sh->Type
 | .d _ t=>t.val
 | .o e=>List e.val
 | .m e=>List e.val
 | .w e=>List e.val
@[reducible] def dR:List Sh->Type
 | []=>Unit
 | [h]=>h.T
 |h::r=>h.T×dR r
inductive BR where
 |sl (i j:Nat)
 |bx (i j:Nat)
structure Pt where
 vs:List (Nat×Bool×List Sh)
 bs:List (Nat×List Sh)
 ws:List (BR×Ty):= []
def wSh(x:BR×Ty):Sh:= .w x.2
def Pt.sh(p:Pt):List Sh:=p.vs.flatMap (·.2.2)++(p.bs.flatMap (·.2)++p.ws.map wSh)
@[reducible] def XT:List (Ex×Pt)->Type
 | []=>Empty
 |x::r=>dR x.2.sh ⊕ XT r
structure Da where
 join:Bool:=false
 key:Nat
 sz:Nat:=0
 keep:List Nat
 head:Pt
 exs:List (Ex×Pt)
def yU(ks:KS):(h:Sh)->KC->{R:Type}->(h.T->Option R)->Option R
 | .d fr t,c,_,κ=>if fr=true/\frC c=false then none else(ng noB t c).bind κ
 | .o e,.o _ p,_,κ=>match az ks.bl p with
  |some (.rows e' _ l)=>(ie (.S e') (.S e) ⟨true,0,l⟩).bind λl=>κ l.l
  |_=>none
 | .w e,.o _ p,_,κ=>match az ks.bl p with
  |some (.rows e' _ l)=>(ie (.S e') (.S e) ⟨true,0,l⟩).bind λl=>κ l.l
  |_=>none
 | .m e,.nil,_,κ=>κ []
 | .m e,.m _ p,_,κ=>match az ks.bl p with
  |some (.mrows e' l)=>(ie (.S e') (.S e) ⟨true,0,l⟩).bind λl=>κ l.l
  |_=>none
 | .m e,.o _ p,_,κ=>match az ks.bl p with
  |some (.rows e' ne l)=>(ie (.S e') (.S e) ⟨true,0,l⟩).bind λl=>cond ne (κ l.l) ((neL l.l).bind λ_=>κ l.l)
  |_=>none
 |_,_,_,_=>none
def nh(ks:KS):(hs:List Sh)->List KC->{R:Type}->(dR hs->Option R)->Option R
 | [],[],_,κ=>κ ()
 | [h],[c],_,κ=>yU ks h c κ
 |h::h'::r,c::cs,_,κ=>yU ks h c λx=>nh ks (h'::r) cs λy=>κ (x,y)
 |_,_,_,_=>none
def cl(q:Nat):(h:Sh)->h.T->KC×List (Nat×KB)
 | .d _ .B,x=>(.bv x,[])
 | .d fr t,x=>(match dG fr t x with
  |c::_=>c
  | []=> .nil,[])
 | .o e,l=>(.o e q,[(q,.rows e false l)])
 | .m e,l=>(.m e q,[(q,.mrows e l)])
 | .w e,l=>(.o e q,[])
def wC:(h:Sh)->h.T->KB
 | .w e,l=> .rows e false l
 |_,_=> .dead
def wCs:(hs:List Sh)->dR hs->List KB
 | [],_=> []
 | [h],x=> [wC h x]
 |h::h'::r,x=>wC h x.1::wCs (h'::r) x.2
def aZ:(hs:List Sh)->dR hs->Nat->List (KC×List (Nat×KB))
 | [],_,_=> []
 | [h],x,q=> [cl q h x]
 |h::h'::r,x,q=>cl q h x.1::aZ (h'::r) x.2 (q+1)
def om(F:KF)(ks:KS):List (Nat×Bool×List Sh)->Option (List KC)
 | []=>some []
 |v::r=>match ig F ks v.1 with
  |some (.one c)=>if v.2.1 then none else if v.2.2.length=1 then(om F ks r).map (c::·)else none
  |some (.agg cs)=>if v.2.1 then if v.2.2.length=cs.length then(om F ks r).map (cs++·)else none else none
  |_=>none
def eQ(F:KF)(ks:KS)(i:Nat):Option Nat:=
 match ig F ks i with
 |some (.one (.ptr p j))=>if j=0 then some p else none
 |_=>none
def ni(F:KF)(ks:KS):List (Nat×List Sh)->Option (List KC)
 | []=>some []
 |v::r=>match(eQ F ks v.1).bind (az ks.bl)with
  |some (.box cs)=>if v.2.length=cs.length then(ni F ks r).map (cs++·)else none
  |_=>none
def brC(F:KF)(ks:KS):BR->Option KC
 | .sl i j=>match ig F ks i with
  |some (.one c)=>some c
  |some (.agg cs)=>cs[j]?
  |_=>none
 | .bx i j=>match eQ F ks i with
  |some p=>match bA ks.bl F.bl p with
   |some (.box cs)=>cs[j]?
   |_=>none
  |none=>none
def ij(F:KF)(ks:KS)(w:BR):Option Nat:=
 match brC F ks w with
 |some (.o _ p)=>some p
 |_=>none
def wI(F:KF)(ks:KS):List (BR×Ty)->Option (List KC)
 | []=>some []
 |v::r=>match ij F ks v.1 with
  |some p=>(wI F ks r).map (.o v.2 p::·)
  |none=>none
def fX(F:KF)(ks:KS)(p:Pt):Option (List KC):=(om F ks p.vs).bind λa=>(ni F ks p.bs).bind λb=>(wI F ks p.ws).map λc=>a++(b++c)
def cr:List KC->List Nat
 | []=> []
 | .o _ p::r=>p::cr r
 | .m _ p::r=>p::cr r
 |_::r=>cr r
def kz:List Nat->Bool
 | []=>true
 |a::r=> !(r.any (Nat.beq a))&& kz r
def rA(F:KF)(ks:KS)(p:Pt){R:Type}(κ:dR p.sh->Option R):Option R:=
 match fX F ks p with
 |some cs=>cond (kz (cr cs)) (nh ks p.sh cs κ) none
 |none=>none
def jw:List (Nat×Bool×List Sh)->List KC->List (Nat×KD)
 | [],_=> []
 |v::r,cs=>(v.1,if v.2.1 then .agg (cs.take v.2.2.length)else match cs with
  |c::_=> .one c
  | []=>kUn)::jw r (cs.drop v.2.2.length)
def fY(F:KF)(ks:KS):List (Nat×List Sh)->List KC->List (Nat×KB)
 | [],_=> []
 |v::r,cs=>match eQ F ks v.1 with
  |some p=>(p,.box (cs.take v.2.length))::fY F ks r (cs.drop v.2.length)
  |none=>fY F ks r (cs.drop v.2.length)
def gE(F:KF)(ks:KS):List (BR×Ty)->List KB->List (Nat×KB)
 | [],_=> []
 |_,[]=> []
 |v::r,b::bs=>match ij F ks v.1 with
  |some p=>(p,b)::gE F ks r bs
  |none=>gE F ks r bs
def kM(l:List (Nat×Bool×List Sh)):Nat:=(l.flatMap (·.2.2)).length
def pd(l:List (Nat×List Sh)):Nat:=(l.flatMap (·.2)).length
def iG(F:KF)(ks:KS):Bool:=F.sl.all λx=>(az ks.sl x.1).isNone
def pB(F:KF)(ks:KS):List Nat->List (Nat×KD)
 | []=> []
 |i::r=>match az ks.sl i with
  |some d=>(i,d)::pB F ks r
  |none=>pB F ks r
def oo(F:KF)(ks:KS):List (Nat×List Sh)->List Nat
 | []=> []
 |v::r=>match eQ F ks v.1 with
  |some p=>p::oo F ks r
  |none=>oo F ks r
def dS(F:KF)(ks:KS)(a:Da)(cs:List KC):List Nat:=cr cs++oo F ks a.head.bs
def aO(F:KF)(ks:KS)(a:Da)(cs:List KC):KF:={nt:=F.nt,sl:=pB F ks a.keep++F.sl,bl:=(dS F ks a cs).map (λp=>(p,.dead))++(ks.bl++F.bl)}
def ce(F:KF)(ks:KS)(p:Pt)(x:dR p.sh):KS:=
 let w:=aZ p.sh x ks.nx
 let cs:=w.map (·.1)
 {sl:=jw p.vs cs,bl:=fY F ks p.bs (cs.drop (kM p.vs))++(gE F ks p.ws ((wCs p.sh x).drop (kM p.vs+pd p.bs))++w.flatMap (·.2)),nx:=ks.nx+p.sh.length}
def rB:Ex->Ex->Bool
 | .normal,.normal=>true
 | .ret,.ret=>true
 | .exit a,.exit b=>Nat.beq a b
 |_,_=>false
def rC(F:KF)(ks:KS)(e:Ex):(l:List (Ex×Pt))->{R:Type}->(XT l->Option R)->Option R
 | [],_,_=>none
 |x::r,_,κ=>cond (rB e x.1) (rA F ks x.2 λv=>κ (.inl v)) (rC F ks e r λv=>κ (.inr v))
def wJ(F:KF)(ks:KS)(keep dead:List Nat)(p:Pt)(v:dR p.sh):KS:=
 let s:=ce F ks p v
 {s with sl:=s.sl++pB F ks keep,bl:=s.bl++(dead.map (λp=>(p,.dead))++ks.bl)}
def afterX(F:KF)(ks:KS)(keep:List Nat)(dead:List Nat):(l:List (Ex×Pt))->XT l->{R:Type}->(Ex->KS->Option R)->Option R
 | [],x,_,_=>nomatch x
 |x::r,v,_,κ=>Sum.elim (λv=>κ x.1 (wJ F ks keep dead x.2 v)) (λv=>afterX F ks keep dead r v κ) v
def kNil:KS:=⟨[],[],0⟩
def pf(F0:KF)(ks:KS)(F:KF)(p:Pt):Bool:=(p.bs.all λv=>(az F.sl v.1).isSome)&& p.ws.all λv=>match ij F0 ks v.1,ij F kNil v.1 with
 |some a,some b=>Nat.beq a b
 |_,_=>false
def gF:Code->Option Nat
 | .region id _ _=>some id
 | .seq a b=>match gF a with
  |some i=>some i
  |none=>gF b
 | .cond _ a b=>match gF a with
  |some i=>some i
  |none=>gF b
 | .block _ b=>gF b
 | .loop b=>gF b
 | .scope b=>gF b
 |_=>none
def rD:Code->Nat
 | .seq a b=>rD a+rD b+1
 | .cond _ a b=>rD a+rD b+1
 | .block _ b=>rD b+1
 | .loop b=>rD b+1
 | .scope b=>rD b+1
 |_=>1
structure Sn where
 old:List (List BR)
 new:List (Bool×List Nat)
structure MI where
 lp:List Da:= []
 tn:List (Nat×Sn):= []
def Ph:KC->Option Nat
 | .o _ p=>some p
 | .m _ p=>some p
 | .ptr p _=>some p
 |_=>none
def NT(F:KF)(ks:KS):List BR->Option (List Nat)
 | []=>some []
 |b::r=>match brC F ks b,NT F ks r with
  |some .nil,l=>l
  |some c,some l=>match Ph c with
   |some p=>some (p::l)
   |none=>none
  |_,_=>none
def EZ(F:KF)(ks:KS):List (List BR)->Option (List (List Nat))
 | []=>some []
 |b::r=>match NT F ks b,EZ F ks r with
  |some p,some l=>some (p::l)
  |_,_=>none
def rE(ids:List Nat)(ks:KS):KS:={ks with bl:=ids.map (λp=>(p,.dead))++ks.bl}
def So:Option Nat->List Nat
 |some p=> [p]
 |none=> []
def gR(Rl O:List (List Nat))(N:List (Bool×List Nat))(nw:List (Nat×Nat))(i:Nat):List Nat:=
 (Rl.getD i []).flatMap λj=>O.getD j []++((N.getD j (false,[])).2.flatMap (λq=>So (az nw q))++cond (N.getD j (false,[])).1 (So (az nw j)) [])
def Sp:KC->Option Nat
 | .o _ p=>some p
 | .m _ p=>some p
 |_=>none
def tK(ids:List Nat)(c:KC):Bool:=
 match Sp c with
 |some p=> !(ids.any (Nat.beq p))
 |none=>true
def wK(ids:List Nat):KD->Bool
 | .one c=>tK ids c
 | .agg cs=>cs.all (tK ids)
 | .tup ts=>ts.all λx=>x.2.all (tK ids)
def Kv(ids:List Nat):KB->Bool
 | .box cs=>cs.all (tK ids)
 |_=>true
def isM:KB->Bool
 | .mrows _ _=>true
 |_=>false
def Kw(ks0 ks:KS)(p:Nat):Bool:=
 match az ks0.bl p,az ks.bl p with
 |some x,some y=>(match x with
  | .dead=>false
  |_=>isM x==isM y)
 |_,_=>false
def Fc(ks:KS)(nw:List (Nat×Nat))(p j:Nat):Bool:=
 (match az nw j with
  |some q=>Nat.beq p q
  |none=>false)&&(match az ks.bl p with
  |some y=> !isM y
  |none=>false)
def yV(ks0 ks:KS)(nw:List (Nat×Nat))(p:Nat):List Nat->List Nat->Bool
 | [q],[]=>Nat.beq p q && Kw ks0 ks p
 | [],[j]=>Fc ks nw p j
 |_,_=>false
def yW(ks0 ks:KS)(O:List (List Nat))(N:List (Bool×List Nat))(nw:List (Nat×Nat))(i:Nat)(ids:List Nat)(e:KE):Bool:=
 wK ids e.v &&(match e.upd with
  |none=>(O.getD i []).isEmpty &&(N.getD i (false,[])).2.isEmpty
  |some (p,b)=>Kv ids b && yV ks0 ks nw p (O.getD i []) (N.getD i (false,[])).2)&&(match e.new with
  |none=> !(N.getD i (false,[])).1
  |some b=>(N.getD i (false,[])).1 && Kv ids b && !isM b)
def nwE(e:KE)(i nid:Nat)(nw:List (Nat×Nat)):List (Nat×Nat):=
 match e.new with
 |some _=>(i,nid)::nw
 |none=>nw
def Fd(O:List (List Nat))(N:List (Bool×List Nat))(i:Nat):Bool:=(O.getD i []).isEmpty &&(N.getD i (false,[])).2.isEmpty && !(N.getD i (false,[])).1
def tL(G:KG)(F:KF)(ops:List Oper)(Rl O:List (List Nat))(N:List (Bool×List Nat))(ks0:KS){R:Type}(κ:KS->Option R):Nat->List (Nat×Nat)->List Oper->KS->Option R
 |_,_,[],ks=>κ ks
 |i,nw,o::r,ks=>yS F ops o ks λw ks=>cond w
   (yR F o.op ks λop ks=>cW G F (rE (gR Rl O N nw i) ks) ks.nx (ks.nx+1) op λe=>
    cond (yW ks0 ks O N nw i (gR Rl O N nw i) e) (tL G F ops Rl O N ks0 κ (i+1) (nwE e i (ks.nx+1) nw) r (EY o.dst ks.nx (ks.nx+1) e ks)) none)
   (cond (Fd O N i) (tL G F ops Rl O N ks0 κ (i+1) nw r (yQ o.dst ks)) none)
def Kx(a b:List Nat):Bool:=a.all λx=> !(b.any (Nat.beq x))
def djB:List (List Nat)->List (List Nat)->List (List Nat)->Bool
 |o::os,r::rs,O=>(r.all λj=>Kx o (O.getD j []))&& djB os rs O
 |_,_,_=>true
def AQ(ks:KS)(O:List (List Nat)):Bool:=O.all λl=>l.all λp=>match az ks.bl p with
 |some .dead=>false
 |some _=>true
 |none=>false
def uw(F:KF)(ks:KS)(b:BR){R:Type}(κ:KS->Option R):Option R:=
 match b with
 | .bx i j=>match eQ F ks i with
  |some q=>match az ks.bl q with
   |some (.box cs)=>match cs[j]? with
    |some (.m e p)=>match az ks.bl p with
     |some (.mrows e' l)=>if l.length=0 then κ {ks with bl:=(q,.box (cs.set j .nil))::(p,.dead)::ks.bl}else κ {ks with bl:=(q,.box (cs.set j (.o e ks.nx)))::(ks.nx,.rows e' true l)::(p,.dead)::ks.bl,nx:=ks.nx+1}
     |_=>κ ks
    |_=>κ ks
   |_=>κ ks
  |none=>κ ks
 | .sl i j=>match ig F ks i with
  |some (.one (.m e p))=>match az ks.bl p with
   |some (.mrows e' l)=>if l.length=0 then κ {ks with sl:=(i,.one .nil)::ks.sl,bl:=(p,.dead)::ks.bl}else κ {ks with sl:=(i,.one (.o e ks.nx))::ks.sl,bl:=(ks.nx,.rows e' true l)::(p,.dead)::ks.bl,nx:=ks.nx+1}
   |_=>κ ks
  |_=>κ ks
def wL(F:KF){R:Type}(κ:KS->Option R):List BR->KS->Option R
 | [],ks=>κ ks
 |b::r,ks=>uw F ks b λks=>wL F κ r ks
def gT(G:KG)(A:MI)(call:yT):Code->(R:Type)->KF->KS->(Ex->KS->Option R)->Option R
 | .skip,_,F,ks,κ=>κ .normal ks
 | .region id ops draw,R,F,ks,κ=>cond draw
   (cond (fB ops) (match az A.tn id with
    |none=>ol G F ops.toList (κ .normal) ops.toList ks
    |some T=>wL F (λks=>match EZ F ks T.old with
     |some O=>cond (mD ops T.new && djB O (gB ops) O && AQ ks O) (tL G F ops.toList (gB ops) O T.new ks (κ .normal) 0 [] ops.toList ks) none
     |none=>none) T.old.flatten ks) (match nF ops with
    |some m=>cond (nb ops) (ol G F ops.toList (yd G call F ops.toList (κ .normal) (ops.toList.drop m)) (ops.toList.take m) ks) none
    |none=>none))
   (yd G call F ops.toList (κ .normal) ops.toList ks)
 | .seq a b,R,F,ks,κ=>match A.lp.find? λz=>z.join &&(some z.key==gF a && Nat.beq z.sz (rD a))with
  |none=>gT G A call a R F ks λe ks=>match e with
   | .normal=>gT G A call b R F ks κ
   |e=>κ e ks
  |some z=>match fX F ks z.head,iG F ks with
   |some cs,true=>cond (pf F ks (aO F ks z cs) z.head && z.exs.all λx=>pf F ks (aO F ks z cs) x.2) (rA F ks z.head λx0=>
    let F':=aO F ks z cs
    (gT G A call a (XT z.exs) F' (ce F ks z.head x0) λe ks2=>cond (iG F' ks2) (rC F' ks2 e z.exs some) none).bind λy=>afterX F ks z.keep (dS F ks z cs) z.exs y λe ks=>match e with
     | .normal=>gT G A call b R F ks κ
     |e=>κ e ks) none
   |_,_=>none
 | .cond c a b,R,F,ks,κ=>match kO F ks c with
  |some (.one c)=>kIf c ks λt ks=>cond t (gT G A call a R F ks κ) (gT G A call b R F ks κ)
  |_=>none
 | .block id b,R,F,ks,κ=>gT G A call b R F ks λe ks=>κ (cond (rB e (.exit id)) .normal e) ks
 | .loop b,R,F,ks,κ=>match A.lp.find? λa=> !a.join && some a.key==gF b with
  |none=>none
  |some a=>match fX F ks a.head,iG F ks with
   |some cs,true=>cond (pf F ks (aO F ks a cs) a.head && a.exs.all λx=>pf F ks (aO F ks a cs) x.2 && !rB x.1 .normal) (rA F ks a.head λx0=>
    let F':=aO F ks a cs
    (bF (λx=>gT G A call b (dR a.head.sh ⊕ XT a.exs) F' (ce F ks a.head x) λe ks2=>cond (iG F' ks2) (match e with
     | .normal=>rA F' ks2 a.head λy=>some (.inl y)
     |e=>rC F' ks2 e a.exs λy=>some (.inr y)) none) x0).bind λy=>afterX F ks a.keep (dS F ks a cs) a.exs y κ) none
   |_,_=>none
 | .exit id,_,F,ks,κ=>κ (.exit id) ks
 | .ret,_,F,ks,κ=>κ .ret ks
 | .label _,_,F,ks,κ=>κ .normal ks
 | .scope b,R,F,ks,κ=>gT G A call b R F ks κ
 |_,_,_,_,_=>none
def ye:Nat->List KD->List (Nat×KD)
 |_,[]=> []
 |i,d::r=>(i,d)::ye (i+1) r
def tupK:List KD->Option KD
 | [d]=>some d
 |ds=>(tups ds).map .tup
where
 tups:List KD->Option (List (Bool×List KC))
  | []=>some []
  | .one c::r=>(tups r).map ((false,[c])::·)
  | .agg cs::r=>(tups r).map ((true,cs)::·)
  |_=>none
def AR(G:KG)(F:KF)(ks:KS):List ResultVar->{R:Type}->(List KD->Option R)->Option R
 | [],_,κ=>κ []
 | .tmp t::r,_,κ=>(ig F ks t).bind λd=>AR G F ks r λl=>κ (d::l)
 | .cell a ty::r,_,κ=>match Ks G.ti ty,ig F ks a with
  |some z,some d=>iX F ks z d λv=>AR G F ks r λl=>κ (v::l)
  |_,_=>none
def tM:Ex->Bool
 | .exit _=>false
 |_=>true
abbrev gh:=List (FuncId×MI)
def NU(A:gh)(k:FuncId):MI:=
 match az A k with
 |some l=>l
 |none=>{}
def Db(G:KG)(A:gh):Nat->yT
 |0,_,_,_,_,_,_=>none
 |n+1,R,F,k,args,ks,κ=>match az G.fi k with
  |some f=>if args.length<=f.nt then gT G (NU A k) (Db G A n) f.body R {F with sl:= [],nt:=f.nt} {ks with sl:=ye 0 args} λe ks2=>cond (tM e) (AR G {F with sl:= [],nt:=f.nt} ks2 f.results λds=>(tupK ds).bind λd=>κ d ks2) none else none
  |none=>none
def frD:KD->Bool
 | .one c=>frC c
 | .agg cs=>cs.all frC
 | .tup _=>false
def sO:List KD->Bool
 | [.one (.o _ _)]=>true
 | [.one (.m _ _)]=>true
 |_=>false
def Kz(B:Nat->Option KB)(e:Ty):List KD->Option (List e.val)
 | [.one (.o _ p)]=>match B p with
  |some (.rows e' _ l)=>if e.plain then(ie (.S e') (.S e) ⟨true,0,l⟩).map (·.l)else none
  |_=>none
 |_=>none
def Gk(B:Nat->Option KB)(e:Ty):List KD->Option (List e.val)
 | [.one .nil]=>some []
 | [.one (.m _ p)]=>match B p with
  |some (.mrows e' l)=>if e.plain then(ie (.S e') (.S e) ⟨true,0,l⟩).map (·.l)else none
  |_=>none
 | [.one (.o _ p)]=>match B p with
  |some (.rows e' ne l)=>if e.plain && ne then(ie (.S e') (.S e) ⟨true,0,l⟩).map (·.l)else none
  |_=>none
 |_=>none
def Gl(B:Nat->Option KB)(e:Ty):List KD->Option (Sl e.val)
 | [.one .nil]=>some ⟨false,0,[]⟩
 | [.one (.m _ p)]=>match B p with
  |some (.mrows e' l)=>if e.plain then(ie (.S e') (.S e) ⟨true,0,l⟩).map (λs=>mo e.size s.l)else none
  |_=>none
 | [.one (.o _ p)]=>match B p with
  |some (.rows e' ne l)=>if e.plain then(ie (.S e') (.S e) ⟨true,0,l⟩).map (λs=>⟨true,e.size,s.l⟩)else none
  |_=>none
 |_=>none
def AS(B:Nat->Option KB):(o:OutK)->List KD->Option o.val
 | .data fr ts,ds=>if sO ds||(fr && !(ds.all frD))then none else lU B ts ds
 | .own e,ds=>Kz B e ds
 | .mown e,ds=>Gk B e ds
 | .gown e,ds=>Gl B e ds
def Gm(ts:List TyD)(x:vals ts):List (Nat×KD):=ye 0 ((oe false ts x).map mkD)
def gX(G:KG)(A:gh)(f:FI)(k:FuncId)(n:Nat)(ins:List TyD)(out:OutK)(x:vals ins):Option out.val:=
 gT G (NU A k) (Db G A n) f.body out.val {nt:=f.nt} {sl:=Gm ins x,bl:= [],nx:=0} λe ks=>cond (tM e) (AR G {nt:=f.nt} ks f.results λds=>AS (aE {nt:=f.nt} ks) out ds) none
end K
end Ev
end
noncomputable section
namespace Ev
namespace K
open Go Go.RowKit
structure Vl where
 id:Nat->Nat
 bo:Nat->Bool
def KB.there:KB->Prop
 | .dead=>False
 | .mrows _ l=>l≠[]
 |_=>True
abbrev BK:=Nat->Option KB
def RC(B:BK)(V:Vl):KC->C->Prop
 | .n k x,c=>c=iC k x
 | .b v,c=>c=bC v
 | .p tag P d,c=>c=bC (V.bo tag)/\V.bo tag= @decide P d
 | .bv x,c=>c=bC x
 | .v x,c=>c= .p true (.v x)
 | .nil,c=>c= .p true (.s false 0 [])
 | .s e fr x,c=>∃f,c= .p f (Sl.t e.row x)/\(fr=true->f=true)
 | .o e p,c=>∀e' ne l,B p=some (.rows e' ne l)->c= .own (V.id p) 0 l.length
 | .m e p,c=>∀e' l,B p=some (.mrows e' l)->c=moC l (V.id p)
 | .ptr p j,c=>c= .ptr (V.id p) 0 j
 | .pe p i j,c=>0<=i/\c= .ptr (V.id p) i.toNat j
 | .ip e fr x i y j,c=>∃f,c= .iptr f x.sz (x.l.map e.row) i.toNat j/\x.l[i.toNat]? =some y/\(fr=true->f=true)
 | .clo fn ps,c=>c= .clo (.func fn) [] (ps.map λp=> .ptr (V.id p) 0 0)
 | .yld p,c=>c= .yld (V.id p)
def Sc(N:Nat):KC->Prop
 | .p tag _ _=>tag<N
 | .o _ p=>p<N
 | .m _ p=>p<N
 | .ptr p _=>p<N
 | .pe p _ _=>p<N
 | .yld p=>p<N
 | .clo _ ps=>∀p∈ps,p<N
 |_=>True
def RCs(B:BK)(V:Vl):List KC->List C->Prop
 | [],cs=>cs= []
 |k::r,cs=>∃c s,cs=c::s/\RC B V k c/\RCs B V r s
def Scs(N:Nat)(l:List KC):Prop:=∀c∈l,Sc N c
def RD1(B:BK)(V:Vl)(k:KD)(d:D):Prop:=
 match k with
 | .one c=>∃c',d= .one c'/\RC B V c c'
 | .agg cs=>∃cs',d= .agg cs'/\RCs B V cs cs'
 | .tup _=>False
def RTs(B:BK)(V:Vl):List (Bool×List KC)->List D->Prop
 | [],ds=>ds= []
 |x::r,ds=>∃d s,ds=d::s/\RD1 B V (mkD x) d/\RTs B V r s
def RD(B:BK)(V:Vl)(k:KD)(d:D):Prop:=
 match k with
 | .tup ts=>∃ds,d= .tup ds/\RTs B V ts ds
 |k=>RD1 B V k d
def ScD(N:Nat):KD->Prop
 | .one c=>Sc N c
 | .agg cs=>Scs N cs
 | .tup ts=>∀x∈ts,Scs N x.2
def BlkIs(B:BK)(V:Vl)(x:Blk):KB->Prop
 | .box cs=>∃sz cs',x= .own sz [cs']/\RCs B V cs cs'
 | .rows e ne l=>x= .own e.size (l.map (aL e.row))/\(ne=true->l≠[])
 | .mrows e l=>x= .own e.size (l.map (aL e.row))
 | .dead=>x= .dead
def RB(B:BK)(V:Vl)(h:aC)(k:Nat):KB->Prop
 | .box cs=>∃sz cs',aJ h k=some (sz,[cs'])/\RCs B V cs cs'
 | .rows e ne l=>aJ h k=some (e.size,l.map (aL e.row))/\(ne=true->l≠[])
 | .mrows e l=>l≠[]->aJ h k=some (e.size,l.map (aL e.row))
 | .dead=>True
def ScB(N:Nat):KB->Prop
 | .box cs=>Scs N cs
 |_=>True
structure Rel(F:KF)(ks:KS)(V:Vl)(f:Nat->D)(h:aC):Prop where
 sl:∀i d,ig F ks i=some d->i<F.nt/\ScD ks.nx d/\RD (aE F ks) V d (f i)
 bl:∀p b,aE F ks p=some b->p<ks.nx/\ScB ks.nx b/\RB (aE F ks) V h (V.id p) b
 inj:∀p q b b',aE F ks p=some b->aE F ks q=some b'->b.there->b'.there->V.id p=V.id q->p=q
def LeB(N:Nat)(B B':BK):Prop:=∀p,p<N->(∀e ne l',B' p=some (.rows e ne l')->∃e0 ne0 l0,B p=some (.rows e0 ne0 l0)/\l0.length=l'.length)/\∀e l',B' p=some (.mrows e l')->∃e0 l0,B p=some (.mrows e0 l0)/\l0.length=l'.length
def Agree(N:Nat)(V V':Vl):Prop:=∀q,q<N->V'.id q=V.id q/\V'.bo q=V.bo q
theorem LeB.refl(N:Nat)(B:BK):LeB N B B:=λp hp=>⟨λe ne l h=>⟨e,ne,l,h,rfl⟩,λe l h=>⟨e,l,h,rfl⟩⟩
theorem LeB.trans{N M:Nat}{B B' B'':BK}(h:LeB N B B')(h':LeB M B' B'')(hn:N<=M):LeB N B B'':=λp hp=>⟨λe ne l hl=>by
  obtain⟨e1,n1,l1,h1,h2⟩:=(h' p (by omega)).1 e ne l hl;obtain⟨e0,n0,l0,h3,h4⟩:=(h p hp).1 _ _ _ h1
  exact⟨e0,n0,l0,h3,h4.trans h2⟩,λe l hl=>by
  obtain⟨e1,l1,h1,h2⟩:=(h' p (by omega)).2 e l hl;obtain⟨e0,l0,h3,h4⟩:=(h p hp).2 _ _ h1
  exact⟨e0,l0,h3,h4.trans h2⟩⟩
theorem Agree.refl(N:Nat)(V:Vl):Agree N V V:=λq hq=>⟨rfl,rfl⟩
theorem Agree.trans{N M:Nat}{V V' V'':Vl}(h:Agree N V V')(h':Agree M V' V'')(hn:N<=M):Agree N V V'':=λq hq=>⟨((h' q (by omega)).1).trans (h q hq).1,((h' q (by omega)).2).trans (h q hq).2⟩
theorem MJ{α β:Type}{l:List α}{m:List β}{k:Nat}(h:l.length=m.length):moC l k=moC m k:=by
 cases l with
 |nil=>cases m with
  |nil=>rfl
  |cons b m=>simp at h
 |cons a l=>cases m with
  |nil=>simp at h
  |cons b m=>show C.own k 0 _=C.own k 0 _;rw [h]
section
variable {N : Nat} {B B' : BK} {V V' : Vl}
theorem RC.mono{c:KC}{x:C}(hs:Sc N c)(hb:LeB N B B')(ha:Agree N V V')(h:RC B V c x):RC B' V' c x:=by
 cases c with
 |n k y=>exact h
 |b v=>exact h
 |p tag P d=>have:=(ha tag hs).2;exact⟨by rw [this];exact h.1,by rw [this];exact h.2⟩
 |bv y=>exact h
 |v y=>exact h
 |nil=>exact h
 |s e fr y=>exact h
 |o e p=>
  intro e' ne l hl;obtain⟨e0,n0,l0,h1,h2⟩:=(hb p hs).1 e' ne l hl;rw [(ha p hs).1,<-h2];exact h e0 n0 l0 h1
 |m e p=>
  intro e' l hl;obtain⟨e0,l0,h1,h2⟩:=(hb p hs).2 e' l hl;rw [(ha p hs).1,<-MJ h2];exact h e0 l0 h1
 |ptr p j=>show x=_;rw [(ha p hs).1];exact h
 |pe p i j=>exact⟨h.1,by rw [(ha p hs).1];exact h.2⟩
 |ip e fr y i z j=>exact h
 |clo fn ps=>
  show x=_
  have:(ps.map λp=>C.ptr (V'.id p) 0 0)=ps.map λp=> .ptr (V.id p) 0 0:=List.map_congr_left λp hp=>by rw [(ha p (hs p hp)).1]
  rw [this];exact h
 |yld p=>show x=_;rw [(ha p hs).1];exact h
theorem RCs.mono:∀{l:List KC} {xs:List C},Scs N l->LeB N B B'->Agree N V V'->RCs B V l xs->RCs B' V' l xs
 | [],xs,hs,hb,ha,h=>h
 |c::l,xs,hs,hb,ha,⟨x,s,h1,h2,h3⟩=>⟨x,s,h1,h2.mono (hs c (by simp)) hb ha,h3.mono (λy hy=>hs y (by simp [hy])) hb ha⟩
theorem ux{x:Bool×List KC}(hs:Scs N x.2):ScD N (mkD x):=by
 obtain⟨b,cs⟩:=x
 cases b with
 |true=>exact hs
 |false=>match cs,hs with
  | [],hs=>exact hs
  | [c],hs=>exact hs c (by simp)
  |c::d::r,hs=>exact hs
theorem RD1.mono{k:KD}{d:D}(hs:ScD N k)(hb:LeB N B B')(ha:Agree N V V')(h:RD1 B V k d):RD1 B' V' k d:=by
 cases k with
 |one c=>obtain⟨c',h1,h2⟩:=h;exact⟨c',h1,h2.mono hs hb ha⟩
 |agg cs=>obtain⟨c',h1,h2⟩:=h;exact⟨c',h1,h2.mono hs hb ha⟩
 |tup ts=>exact h
theorem RTs.mono:∀{l:List (Bool×List KC)} {xs:List D},(∀x∈l,Scs N x.2)->LeB N B B'->Agree N V V'->RTs B V l xs->RTs B' V' l xs
 | [],xs,hs,hb,ha,h=>h
 |c::l,xs,hs,hb,ha,⟨x,s,h1,h2,h3⟩=>⟨x,s,h1,h2.mono (ux (hs c (by simp))) hb ha,h3.mono (λy hy=>hs y (by simp [hy])) hb ha⟩
theorem RD.mono{k:KD}{d:D}(hs:ScD N k)(hb:LeB N B B')(ha:Agree N V V')(h:RD B V k d):RD B' V' k d:=by
 cases k with
 |one c=>exact RD1.mono (k:= .one c) hs hb ha h
 |agg cs=>exact RD1.mono (k:= .agg cs) hs hb ha h
 |tup ts=>obtain⟨ds,h1,h2⟩:=h;exact⟨ds,h1,h2.mono hs hb ha⟩
theorem RB.mono{h:aC}{k:Nat}{b:KB}(hs:ScB N b)(hb:LeB N B B')(ha:Agree N V V')(hr:RB B V h k b):RB B' V' h k b:=by
 cases b with
 |box cs=>obtain⟨sz,cs',h1,h2⟩:=hr;exact⟨sz,cs',h1,h2.mono hs hb ha⟩
 |rows e ne l=>exact hr
 |mrows e l=>exact hr
 |dead=>trivial
theorem RB.heap{h h':aC}{k:Nat}{b:KB}(hh:aJ h' k=aJ h k)(hr:RB B V h k b):RB B V h' k b:=by
 cases b with
 |box cs=>obtain⟨sz,cs',h1,h2⟩:=hr;exact⟨sz,cs',hh.trans h1,h2⟩
 |rows e ne l=>exact⟨hh.trans hr.1,hr.2⟩
 |mrows e l=>exact λhl=>hh.trans (hr hl)
 |dead=>trivial
end
theorem Sc.mono{N M:Nat}(hn:N<=M){c:KC}(h:Sc N c):Sc M c:=by
 cases c with
 |p tag P d=>exact Nat.lt_of_lt_of_le h hn
 |o e p=>exact Nat.lt_of_lt_of_le h hn
 |m e p=>exact Nat.lt_of_lt_of_le h hn
 |ptr p j=>exact Nat.lt_of_lt_of_le h hn
 |pe p i j=>exact Nat.lt_of_lt_of_le h hn
 |yld p=>exact Nat.lt_of_lt_of_le h hn
 |clo fn ps=>exact λp hp=>Nat.lt_of_lt_of_le (h p hp) hn
 |_=>trivial
theorem Scs.mono{N M:Nat}(hn:N<=M){l:List KC}(h:Scs N l):Scs M l:=λc hc=>(h c hc).mono hn
theorem ScD.mono{N M:Nat}(hn:N<=M){d:KD}(h:ScD N d):ScD M d:=by
 cases d with
 |one c=>exact Sc.mono hn h
 |agg cs=>exact Scs.mono hn h
 |tup ts=>exact λx hx=>(h x hx).mono hn
theorem ScB.mono{N M:Nat}(hn:N<=M){b:KB}(h:ScB N b):ScB M b:=by
 cases b with
 |box cs=>exact Scs.mono hn h
 |_=>trivial
theorem bP{t t':Ty}{x:t.val}{y:t'.val}(h:ie t t' x=some y):∃e:t=t',e▸x=y:=by
 unfold ie at h;split at h
 .rename_i e;exact⟨e,Option.some.inj h⟩
 .simp at h
theorem nj:∀(e:Ty) (x:e.val),(e.row x).length=e.size
 | .I _,_=>rfl
 | .B,_=>rfl
 | .S _,_=>rfl
 | .U,_=>rfl
 | .C a b,x=>by
  show(a.row x.1++b.row x.2).length=a.size+b.size;rw [List.length_append,nj a,nj b]
theorem qi(fr:Bool):∀(e:Ty) (x:e.val),(dG fr e x).length=e.size
 | .I _,_=>rfl
 | .B,_=>rfl
 | .S _,_=>rfl
 | .U,_=>rfl
 | .C a b,x=>by
  show(dG fr a x.1++dG fr b x.2).length=a.size+b.size;rw [List.length_append,qi fr a,qi fr b]
theorem gd(N:Nat)(fr:Bool):∀(e:Ty) (x:e.val),Scs N (dG fr e x)
 | .I _,_=>λc hc=>by rw [List.mem_singleton.1 hc];trivial
 | .B,_=>λc hc=>by rw [List.mem_singleton.1 hc];trivial
 | .S _,_=>λc hc=>by rw [List.mem_singleton.1 hc];trivial
 | .U,_=>λc hc=>by simp [dG]at hc
 | .C a b,x=>λc hc=>by
  rcases List.mem_append.1 (show c∈dG fr a x.1++dG fr b x.2 from hc)with h|h
  .exact gd N fr a x.1 c h
  .exact gd N fr b x.2 c h
section
variable {B : BK} {V : Vl}
theorem RCs.append:∀{k1 k2:List KC} {c1 c2:List C},RCs B V k1 c1->RCs B V k2 c2->RCs B V (k1++k2) (c1++c2)
 | [],k2,c1,c2,h1,h2=>by rw [show c1= []from h1];exact h2
 |k::k1,k2,c1,c2,⟨c,s,e1,h1,h3⟩,h2=>⟨c,s++c2,by rw [e1];rfl,h1,h3.append h2⟩
theorem RCs.len:∀{k:List KC} {c:List C},RCs B V k c->c.length=k.length
 | [],c,h=>by rw [show c= []from h];rfl
 |_::k,c,⟨x,s,e,_,h⟩=>by rw [e,List.length_cons,List.length_cons,h.len]
theorem RCs.drop:∀{k:List KC} {c:List C} (n:Nat),RCs B V k c->RCs B V (k.drop n) (c.drop n)
 |k,c,0,h=>h
 | [],c,n+1,h=>by rw [show c= []from h];exact rfl
 |_::k,c,n+1,⟨x,s,e,_,h⟩=>by rw [e];exact h.drop n
theorem RCs.take:∀{k:List KC} {c:List C} (n:Nat),RCs B V k c->RCs B V (k.take n) (c.take n)
 |k,c,0,h=>rfl
 | [],c,n+1,h=>by rw [show c= []from h];exact rfl
 |_::k,c,n+1,⟨x,s,e,h1,h⟩=>⟨x,s.take n,by rw [e];rfl,h1,h.take n⟩
theorem RCs.cut{k k2:List KC}{c:List C}{i n:Nat}(h:RCs B V k c)(hk:Ev.cut k i n=some k2):∃c2,Ev.cut c i n=some c2/\RCs B V k2 c2:=by
 unfold Ev.cut at hk ⊢;split at hk
 .rename_i hl;rw [if_pos (by rw [h.len];exact hl)];refine⟨_,rfl,?_⟩;rw [<-Option.some.inj hk];exact(h.drop i).take n
 .simp at hk
theorem RCs.patch{k k2 x:List KC}{c y:List C}{i:Nat}(h:RCs B V k c)(hx:RCs B V x y)(hk:Ev.patch k i x=some k2):∃c2,Ev.patch c i y=some c2/\RCs B V k2 c2:=by
 unfold Ev.patch at hk ⊢;split at hk
 .rename_i hl;rw [if_pos (by rw [h.len,hx.len];exact hl)];refine⟨_,rfl,?_⟩;rw [<-Option.some.inj hk,hx.len];exact((h.take i).append hx).append (h.drop _)
 .simp at hk
theorem jF{N:Nat}{k k2:List KC}{i n:Nat}(h:Scs N k)(hk:Ev.cut k i n=some k2):Scs N k2:=by
 unfold Ev.cut at hk;split at hk
 .rw [<-Option.some.inj hk];exact λc hc=>h c (List.mem_of_mem_drop (List.mem_of_mem_take hc))
 .simp at hk
theorem yX{N:Nat}{k k2 x:List KC}{i:Nat}(h:Scs N k)(hx:Scs N x)(hk:Ev.patch k i x=some k2):Scs N k2:=by
 unfold Ev.patch at hk;split at hk
 .rw [<-Option.some.inj hk];intro c hc;simp only [List.mem_append]at hc;rcases hc with(hc|hc)|hc
  .exact h c (List.mem_of_mem_take hc)
  .exact hx c hc
  .exact h c (List.mem_of_mem_drop hc)
 .simp at hk
theorem eK{fr f:Bool}(hf:fr=true->f=true):∀(e:Ty) (x:e.val),RCs B V (dG fr e x) ((e.row x).map (pC f))
 | .I _,_=>⟨_,_,rfl,rfl,rfl⟩
 | .B,_=>⟨_,_,rfl,rfl,rfl⟩
 | .S e,x=>⟨_,_,rfl,⟨f,rfl,hf⟩,rfl⟩
 | .U,_=>rfl
 | .C a b,x=>by
  show RCs B V (dG fr a x.1++dG fr b x.2) ((a.row x.1++b.row x.2).map (pC f));rw [List.map_append];exact(eK hf a x.1).append (eK hf b x.2)
theorem RCs.one{c:KC}{x:C}(h:RC B V c x):RCs B V [c] [x]:=⟨x,[],rfl,h,rfl⟩
theorem RCs.one_inv{c:KC}{xs:List C}(h:RCs B V [c] xs):∃x,xs= [x]/\RC B V c x:=by
 obtain⟨x,s,e,h1,h2⟩:=h;exact⟨x,by rw [e,show s= []from h2],h1⟩
theorem qj{e:Ty}{c:KC}{x:e.val}{y:C}(h:ng noB e c=some x)(hf:frC c=true)(hr:RC B V c y): [y]=(e.row x).map (pC true):=by
 unfold ng at h;split at h
 .rename_i k k' z;split at h
  .rename_i hk;subst hk;rw [<-Option.some.inj h];rw [show y=_ from hr];rfl
  .simp at h
 .rw [<-Option.some.inj h,show y=_ from hr];rfl
 .rename_i tag P d;rw [<-Option.some.inj h,hr.1,hr.2];rfl
 .rw [<-Option.some.inj h,show y=_ from hr];rfl
 .rw [<-Option.some.inj h,show y=_ from hr];rfl
 .rename_i e0 e' fr z;obtain⟨he,hx⟩:=bP h;cases he;obtain⟨f,h1,h2⟩:=hr;rw [<-hx,h1,h2 hf];rfl
 .simp [noB]at h
 .simp [noB]at h
 .simp at h
theorem oO:∀{e:Ty} {cs:List KC} {x:e.val} {ys:List C},dec noB e cs=some x->cs.all frC=true->RCs B V cs ys->ys=(e.row x).map (pC true):=by
 intro e
 induction e with
 |C a b iha ihb=>
  intro cs x ys h hf hr;unfold dec at h;simp only [zbE]at h;obtain⟨x1,h1,y1,h2,h3⟩:=h
  have:=Option.some.inj h3
  subst this;have e1:=iha h1 (List.all_eq_true.2 λc hc=>List.all_eq_true.1 hf c (List.mem_of_mem_take hc)) (hr.take a.size);have e2:=ihb h2 (List.all_eq_true.2 λc hc=>List.all_eq_true.1 hf c (List.mem_of_mem_drop hc)) (hr.drop a.size);show ys=(a.row x1++b.row y1).map (pC true);rw [List.map_append,<-e1,<-e2,List.take_append_drop]
 |U=>
  intro cs x ys h hf hr
  cases cs with
  |nil=>rw [show ys= []from hr];rfl
  |cons c r=>cases r with
   |nil=>simp [dec,ng]at h
   |cons d r=>simp [dec]at h
 |_=>
  intro cs x ys h hf hr
  cases cs with
  |nil=>simp [dec]at h
  |cons c r=>cases r with
   |nil=>
    obtain⟨y,rfl,hy⟩:=hr.one_inv;exact qj (by simpa [dec]using h) (by simpa using hf) hy
   |cons d r=>simp [dec]at h
end
end K
end Ev
end
noncomputable section
namespace Ev
namespace K
open Go Go.RowKit
def RDl(B:BK)(V:Vl):List KD->List D->Prop
 | [],ds=>ds= []
 |k::r,ds=>∃d s,ds=d::s/\RD B V k d/\RDl B V r s
theorem KA{B:BK}{V:Vl}(v:Value):RC B V (kC v) (kA v):=by
 unfold kC;split
 .rfl
 .rfl
 .rfl
 .rename_i h1 h2 h3;unfold kA;split
  .exact absurd rfl h3
  .rfl
theorem NV(N:Nat)(v:Value):Sc N (kC v):=by
 unfold kC;split<;>trivial
theorem oQ{B:BK}{V:Vl}:∀l:List Value,RCs B V (l.map kC) (l.map kA)
 | []=>rfl
 |v::l=>⟨_,_,rfl,KA v,oQ l⟩
theorem AT(N:Nat)(l:List Value):Scs N (l.map kC):=λc hc=>by
 obtain⟨v,_,rfl⟩:=List.mem_map.1 hc;exact NV N v
theorem Fe{B:BK}{V:Vl}{v:Value}{d:KD}(h:sM v=some d):∃d',pF v=some d'/\RD B V d d':=by
 unfold sM at h;split at h
 .rename_i cs;split at h
  .rename_i ha;rw [<-Option.some.inj h];refine⟨.agg (cs.toList.map kA),?_,_,rfl,oQ _⟩;unfold pF;simp only;rw [if_pos ha]
  .simp at h
 .simp at h
 .rename_i h1 h2;rw [<-Option.some.inj h];refine⟨.one (kA v),?_,_,rfl,KA v⟩;unfold pF;split
  .exact absurd rfl (h1 _)
  .exact absurd rfl (h2 _)
  .rfl
theorem If{N:Nat}{v:Value}{d:KD}(h:sM v=some d):ScD N d:=by
 unfold sM at h;split at h
 .split at h
  .rw [<-Option.some.inj h];exact AT N _
  .simp at h
 .simp at h
 .rw [<-Option.some.inj h];exact NV N _
section
variable {F : KF} {ks : KS} {V : Vl} {f : Nat → D} {h : aC}
theorem Ff{a b:Nat}(h:a<b):Nat.blt a b=true:=by simpa using h
theorem bX(hr:Rel F ks V f h){x:Operand}{d:KD}(hx:kO F ks x=some d):∃d',ov F.nt f x=some d'/\ScD ks.nx d/\RD (aE F ks) V d d':=by
 cases x with
 |tmp i=>
  obtain⟨h1,h2,h3⟩:=hr.sl i d hx;refine⟨f i,?_,h2,h3⟩;show cond (Nat.blt i F.nt) (some (f i)) none=_;rw [Ff h1];rfl
 |const v=>
  obtain⟨d',h1,h2⟩:=Fe (B:=aE F ks) (V:=V) (show sM v=some d from hx);exact⟨d',h1,If hx,h2⟩
 |global g=>simp [kO]at hx
 |func k=>
  have:=Option.some.inj (show some (KD.one (.v (.func (.func k) #[] #[])))=some d from hx)
  subst this;exact⟨_,rfl,trivial,_,rfl,rfl⟩
theorem wM(hr:Rel F ks V f h):∀{l:List Operand} {ds:List KD},kE F ks l=some ds->∃ds',l.mapM (ov F.nt f)=some ds'/\(∀d∈ds,ScD ks.nx d)/\RDl (aE F ks) V ds ds'
 | [],ds,hx=>by
  have:=Option.some.inj (show some []=some ds from hx)
  subst this;exact⟨[],rfl,by simp,rfl⟩
 |x::l,ds,hx=>by
  simp only [kE,zbE]at hx;obtain⟨d,h1,r,h2,h3⟩:=hx
  have:=Option.some.inj h3
  subst this;obtain⟨d',g1,g2,g3⟩:=bX hr h1;obtain⟨r',e1,e2,e3⟩:=wM hr h2;refine⟨d'::r',by rw [List.mapM_cons,g1,e1];rfl,?_,d',r',rfl,g3,e3⟩;intro y hy;rcases List.mem_cons.1 hy with rfl|hy
  .exact g2
  .exact e2 y hy
theorem sP(hr:Rel F ks V f h):∀{l:List (Nat×Operand)} {ps:List (Nat×KD)},wD F ks l=some ps->∃ps',ut F.nt f l=some ps'/\(∀x∈ps,ScD ks.nx x.2)/\ps'.map (·.1)=ps.map (·.1)/\RDl (aE F ks) V (ps.map (·.2)) (ps'.map (·.2))
 | [],ps,hx=>by
  have:=Option.some.inj (show some []=some ps from hx)
  subst this;exact⟨[],rfl,by simp,rfl,rfl⟩
 |(i,x)::l,ps,hx=>by
  simp only [wD,zbE]at hx;obtain⟨d,h1,r,h2,h3⟩:=hx
  have:=Option.some.inj h3
  subst this;obtain⟨d',g1,g2,g3⟩:=bX hr h1;obtain⟨r',e1,e2,e3,e4⟩:=sP hr h2;refine⟨(i,d')::r',?_,?_,?_,?_⟩
  .unfold ut at e1 ⊢;rw [List.mapM_cons,e1];simp only [g1,Option.map_some,zbB,zbS,Option.pure_def]
  .intro y hy;rcases List.mem_cons.1 hy with rfl|hy
   .exact g2
   .exact e2 y hy
  .simp only [List.map_cons,e3]
  .exact⟨d',r'.map (·.2),rfl,g3,e4⟩
def Bls(B:BK)(V:Vl)(h:aC):Prop:=∀p b,B p=some b->RB B V h (V.id p) b
theorem Rel.bls(hr:Rel F ks V f h):Bls (aE F ks) V h:=λp b hb=>(hr.bl p b hb).2.2
theorem jx{k sz:Nat}{es:List (List C)}(hg:aJ h k=some (sz,es)):HB h [[(k,sz,es)]]:=⟨by simp,λx hx=>by simp at hx;subst hx;exact hg⟩
theorem bk:HB h []:=⟨List.nodup_nil,λx hx=>by simp at hx⟩
theorem wN{r:List T}(m:Nat):(r.map (pC true)).mapM (eN h (m+1))=some (r.map λt=>(true,t)):=by
 induction r with
 |nil=>rfl
 |cons t r ih=>
  rw [List.map_cons,List.mapM_cons,ih];cases t<;>rfl
theorem Dc{B:BK}{e:Ty}{c:KC}{x:e.val}{y:C}(hB:Bls B V h)(hd:ng B e c=some x)(hr:RC B V c y):∃fl t,(∀m,eN h (m+2) y=some (fl,t))/\[t]=e.row x/\(frC c=true->fl=true):=by
 unfold ng at hd;split at hd
 .rename_i k k' z;split at hd
  .rename_i hk;subst hk;rw [<-Option.some.inj hd,show y=_ from hr];exact⟨true,_,λm=>rfl,rfl,λ_=>rfl⟩
  .simp at hd
 .rw [<-Option.some.inj hd,show y=_ from hr];exact⟨true,_,λm=>rfl,rfl,λ_=>rfl⟩
 .rename_i tag P d;rw [<-Option.some.inj hd,hr.1,hr.2];exact⟨true,_,λm=>rfl,rfl,λ_=>rfl⟩
 .rw [<-Option.some.inj hd,show y=_ from hr];exact⟨true,_,λm=>rfl,rfl,λ_=>rfl⟩
 .rw [<-Option.some.inj hd,show y=_ from hr];exact⟨true,_,λm=>rfl,rfl,λ_=>rfl⟩
 .rename_i e0 e' fr z;obtain⟨he,hx⟩:=bP hd;cases he;obtain⟨fl,h1,h2⟩:=hr;rw [<-hx,h1];exact⟨fl,_,λm=>rfl,rfl,h2⟩
 .rename_i e0 e1 p;split at hd
  .rename_i e' ne l hp;obtain⟨he,hx⟩:=bP hd;cases he;have h1:=hr _ _ _ hp;have h2:=(hB p _ hp).1;rw [<-hx,h1];exact⟨true,_,λm=>cd (r:=Ty.row _) (L:= [[(V.id p,_,l.map (aL (Ty.row _)))]]) 0 rfl (λx h m=>wN m) h (jx h2) m,rfl,λ_=>rfl⟩
  .simp at hd
 .rename_i e0 e1 p;split at hd
  .rename_i e' l hp;obtain⟨he,hx⟩:=bP hd;cases he;have h1:=hr _ _ hp;rw [<-hx,h1]
   cases l with
   |nil=>exact⟨true,_,λm=>rfl,rfl,λ_=>rfl⟩
   |cons a l=>
    have h2:=hB p _ hp (by simp);exact⟨true,_,λm=>cd (r:=Ty.row _) (L:= [[(V.id p,_,(a::l).map (aL (Ty.row _)))]]) 0 rfl (λx h m=>wN m) h (jx h2) m,rfl,λ_=>rfl⟩
  .simp at hd
 .simp at hd
theorem Ig{B:BK}(hB:Bls B V h):∀{e:Ty} {cs:List KC} {x:e.val} {ys:List C},dec B e cs=some x->RCs B V cs ys->∃l,(∀m,ys.mapM (eN h (m+2))=some l)/\l.map (·.2)=e.row x/\(cs.all frC=true->l.all (·.1)=true):=by
 intro e
 induction e with
 |C a b iha ihb=>
  intro cs x ys hd hr;unfold dec at hd;simp only [zbE]at hd;obtain⟨x1,h1,y1,h2,h3⟩:=hd
  have:=Option.some.inj h3
  subst this;obtain⟨l1,e1,e2,e3⟩:=iha h1 (hr.take a.size);obtain⟨l2,g1,g2,g3⟩:=ihb h2 (hr.drop a.size);refine⟨l1++l2,λm=> ?_,?_,λhf=> ?_⟩
  .have:ys=ys.take a.size++ys.drop a.size:=(List.take_append_drop _ _).symm
   rw [this,List.mapM_append,e1 m,g1 m];rfl
  .rw [List.map_append,e2,g2];rfl
  .rw [List.all_append,e3 (List.all_eq_true.2 λc hc=>List.all_eq_true.1 hf c (List.mem_of_mem_take hc)),g3 (List.all_eq_true.2 λc hc=>List.all_eq_true.1 hf c (List.mem_of_mem_drop hc))];rfl
 |U=>
  intro cs x ys hd hr
  cases cs with
  |nil=>rw [show ys= []from hr];exact⟨[],λm=>rfl,rfl,λ_=>rfl⟩
  |cons c r=>cases r with
   |nil=>simp [dec,ng]at hd
   |cons d r=>simp [dec]at hd
 |_=>
  intro cs x ys hd hr
  cases cs with
  |nil=>simp [dec]at hd
  |cons c r=>cases r with
   |nil=>
    obtain⟨y,rfl,hy⟩:=hr.one_inv;obtain⟨fl,t,h1,h2,h3⟩:=Dc hB (by simpa [dec]using hd) hy;exact⟨[(fl,t)],λm=>by rw [List.mapM_cons,h1 m];rfl,h2,λhf=>by simpa using h3 (by simpa using hf)⟩
   |cons d r=>simp [dec]at hd
theorem yY{B:BK}(hB:Bls B V h){t:TyD}{d:KD}{x:t.2.val}{y:D}(hd:AM B t d=some x)(hr:RD B V d y):∃fl,cz h y=some (fl,nD t x)/\(frD d=true->fl=true):=by
 obtain⟨ag,e⟩:=t
 cases d with
 |one c=>
  obtain⟨c',rfl,hc⟩:=hr;simp only [AM]at hd
  cases ag with
  |true=>simp at hd
  |false=>
   obtain⟨fl,t,h1,h2,h3⟩:=Dc hB (by simpa using hd) hc;refine⟨fl,?_,h3⟩;show(eN h 6 c').bind _=_;rw [h1 4];show some (fl,TD.one t)=some (fl,nD (false,e) x);unfold nD;simp only [<-h2]
 |agg cs=>
  obtain⟨cs',rfl,hc⟩:=hr;simp only [AM]at hd
  cases ag with
  |false=>simp at hd
  |true=>
   obtain⟨l,h1,h2,h3⟩:=Ig hB (by simpa using hd) hc;refine⟨l.all (·.1),?_,h3⟩;show(cs'.mapM (eN h 6)).bind _=_;rw [h1 4];show some (l.all (·.1),TD.agg (l.map (·.2)))=some (_,nD (true,e) x);rw [h2];rfl
 |tup ts=>simp [AM]at hd
theorem qk{B:BK}(hB:Bls B V h):∀{ts:List TyD} {ds:List KD} {x:vals ts} {ys:List D},lU B ts ds=some x->RDl B V ds ys->∃l,ys.mapM (cz h)=some l/\l.map (·.2)=fp ts x/\(ds.all frD=true->l.all (·.1)=true)
 | [],[],x,ys,hd,hr=>by rw [show ys= []from hr];exact⟨[],rfl,rfl,λ_=>rfl⟩
 | [],d::ds,x,ys,hd,hr=>by simp [lU]at hd
 | [t],[],x,ys,hd,hr=>by simp [lU]at hd
 | [t],[d],x,ys,hd,hr=>by
  obtain⟨y,s,rfl,h1,h2⟩:=hr;rw [show s= []from h2];obtain⟨fl,g1,g2⟩:=yY hB (show AM B t d=some x from hd) h1;exact⟨[(fl,nD t x)],by rw [List.mapM_cons,g1];rfl,rfl,λhf=>by simpa using g2 (by simpa using hf)⟩
 | [t],d::d'::ds,x,ys,hd,hr=>by simp [lU]at hd
 |t::t'::r,[],x,ys,hd,hr=>by simp [lU]at hd
 |t::t'::r,d::ds,x,ys,hd,hr=>by
  simp only [lU,zbE]at hd;obtain⟨x1,h1,y1,h2,h3⟩:=hd
  have:=Option.some.inj h3
  subst this;obtain⟨y,s,rfl,e1,e2⟩:=hr;obtain⟨fl,g1,g2⟩:=yY hB h1 e1;obtain⟨l,k1,k2,k3⟩:=qk hB h2 e2;refine⟨(fl,nD t x1)::l,by rw [List.mapM_cons,g1,k1];rfl,by rw [List.map_cons,k2];rfl,λhf=> ?_⟩;simp only [List.all_cons,Bool.and_eq_true]at hf ⊢;exact⟨g2 hf.1,k3 hf.2⟩
theorem Gn{B:BK}{fr fl:Bool}(hf:fr=true->fl=true)(t:TyD)(x:t.2.val):RD1 B V (mkD (Kr fr t x)) (cR fl (nD t x)):=by
 obtain⟨ag,e⟩:=t;have hc:=eK (B:=B) (V:=V) hf e x
 cases ag with
 |true=>exact⟨_,rfl,hc⟩
 |false=>
  have hl:=qi fr e x;have hl2:=nj e x
  show RD1 B V (mkD (false,dG fr e x)) (cR fl (match e.row x with
   | [y]=> .one y
   |ys=> .agg ys))
  revert hc hl hl2
  cases dG fr e x with
  |nil=>
   intro hc hl hl2
   cases hrw:e.row x with
   |nil=>exact⟨_,rfl,rfl⟩
   |cons y ys=>rw [hrw]at hl2;simp only [List.length_nil,List.length_cons]at hl hl2;omega
  |cons c r=>
   cases r with
   |nil=>
    intro hc hl hl2
    cases hrw:e.row x with
    |nil=>rw [hrw]at hl2;simp only [List.length_nil,List.length_cons]at hl hl2;omega
    |cons y ys=>cases ys with
     |nil=>
      rw [hrw]at hc;obtain⟨z,hz,hz2⟩:=hc.one_inv;refine⟨z,?_,hz2⟩;show D.one (pC fl y)=_;rw [show pC fl y=z from(List.cons.inj hz).1]
     |cons y2 ys=>rw [hrw]at hl2;simp only [List.length_nil,List.length_cons]at hl hl2;omega
   |cons c2 r=>
    intro hc hl hl2
    cases hrw:e.row x with
    |nil=>rw [hrw]at hl2;simp only [List.length_nil,List.length_cons]at hl hl2;omega
    |cons y ys=>cases ys with
     |nil=>rw [hrw]at hl2;simp only [List.length_nil,List.length_cons]at hl hl2;omega
     |cons y2 ys=>rw [hrw]at hc;exact⟨_,rfl,hc⟩
theorem rF{B:BK}{fr fl:Bool}(hf:fr=true->fl=true):∀(ts:List TyD) (x:vals ts),RTs B V (oe fr ts x) ((fp ts x).map (cR fl))
 | [],_=>rfl
 | [t],x=>⟨_,_,rfl,Gn hf t x,rfl⟩
 |t::t'::r,x=>⟨_,_,rfl,Gn hf t x.1,rF hf (t'::r) x.2⟩
theorem wO(N:Nat)(fr:Bool):∀(ts:List TyD) (x:vals ts),∀y∈oe fr ts x,Scs N y.2
 | [],_=>λy hy=>by simp [oe]at hy
 | [t],x=>λy hy=>by rw [List.mem_singleton.1 (show y∈ [Kr fr t x]from hy)];exact gd N fr t.2 x
 |t::t'::r,x=>λy hy=>by
  rcases List.mem_cons.1 (show y∈Kr fr t x.1::oe fr (t'::r) x.2 from hy)with rfl|hy
  .exact gd N fr t.2 x.1
  .exact wO N fr (t'::r) x.2 y hy
end
end K
end Ev
end
end Go.Proofs.YtpcmabdifkoihaaDoor
