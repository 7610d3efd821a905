/- Texts of a claim, joined. -/
import Derived.Test.YtjjbpdldbdmoeaaGreatDoorZP14
import Derived.Laws.Bits64b
import Derived.Laws.Bits64
set_option linter.unusedVariables false
set_option linter.unusedSimpArgs false
namespace Go.Proofs.YtjjbpdldbdmoeaaGreatDoor
noncomputable section
namespace Ev
open Go Go.RowKit
abbrev bf:D:= .one (bC false)
abbrev bt:D:= .one (bC true)
abbrev iO(n:Int):D:= .one (iC .i64 n)
abbrev bO(b:Bool):D:= .one (bC b)
abbrev iI(n:Int):C:=iC .i64 n
abbrev uI(n:Int):C:=iC .u64 n
abbrev nC:C:= .p true (.s false 0 [])
abbrev sC{α:Type}(r:α->List T)(s:Sl α):C:= .p true (Sl.t r s)
abbrev sF{α:Type}(r:α->List T)(s:Sl α):C:= .p false (Sl.t r s)
theorem sj{α:Type}{a b:α}(h:some a=some b):a=b:=Option.some.inj h
theorem wF{α:Type}{a b:α}{r:α}(h:(if false=true then a else b)=r):b=r:=h
theorem wT{α:Type}{a b:α}{r:α}(h:(if true=true then a else b)=r):a=r:=h
theorem aV{P:Program}{t:TypeId}{x y:Operand}{k:IntKind}{a b:Int}(h:a<b):am P (do eqGuard .lss t x y (.int k a) (.int k b);binOp .lss t (.int k a) (.int k b))=some (.bool true):=Zb P t x y k h
theorem aW{P:Program}{t:TypeId}{x y:Operand}{k:IntKind}{a b:Int}(h:¬a<b):am P (do eqGuard .lss t x y (.int k a) (.int k b);binOp .lss t (.int k a) (.int k b))=some (.bool false):=Zc P t x y k h
theorem rm{P:Program}{t:TypeId}{x y:Operand}{k:IntKind}{a b:Int}(h:a<=b):am P (do eqGuard .leq t x y (.int k a) (.int k b);binOp .leq t (.int k a) (.int k b))=some (.bool true):=Zd P t x y k h
theorem rn{P:Program}{t:TypeId}{x y:Operand}{k:IntKind}{a b:Int}(h:¬a<=b):am P (do eqGuard .leq t x y (.int k a) (.int k b);binOp .leq t (.int k a) (.int k b))=some (.bool false):=Ze P t x y k h
theorem rp{P:Program}{t:TypeId}{x y:Operand}{k:IntKind}{a b:Int}(h:a>b):am P (do eqGuard .gtr t x y (.int k a) (.int k b);binOp .gtr t (.int k a) (.int k b))=some (.bool true):=Zf P t x y k h
theorem rq{P:Program}{t:TypeId}{x y:Operand}{k:IntKind}{a b:Int}(h:¬a>b):am P (do eqGuard .gtr t x y (.int k a) (.int k b);binOp .gtr t (.int k a) (.int k b))=some (.bool false):=Zg P t x y k h
theorem jW{P:Program}{t:TypeId}{x y:Operand}{k:IntKind}{a b:Int}(h:a >= b):am P (do eqGuard .geq t x y (.int k a) (.int k b);binOp .geq t (.int k a) (.int k b))=some (.bool true):=Zh P t x y k h
theorem jX{P:Program}{t:TypeId}{x y:Operand}{k:IntKind}{a b:Int}(h:¬a >= b):am P (do eqGuard .geq t x y (.int k a) (.int k b);binOp .geq t (.int k a) (.int k b))=some (.bool false):=Zi P t x y k h
theorem vJ{P:Program}{t:TypeId}{x y:Operand}{k:IntKind}{a b:Int}(h:a=b):am P (do eqGuard .eql t x y (.int k a) (.int k b);binOp .eql t (.int k a) (.int k b))=some (.bool true):=Zj P t x y k h
theorem vK{P:Program}{t:TypeId}{x y:Operand}{k:IntKind}{a b:Int}(h:¬a=b):am P (do eqGuard .eql t x y (.int k a) (.int k b);binOp .eql t (.int k a) (.int k b))=some (.bool false):=Zk P t x y k h
theorem ib{P:Program}{t:TypeId}{x y:Operand}{k:IntKind}{a b:Int}(h:a≠b):am P (do eqGuard .neq t x y (.int k a) (.int k b);binOp .neq t (.int k a) (.int k b))=some (.bool true):=Zl P t x y k h
theorem ic{P:Program}{t:TypeId}{x y:Operand}{k:IntKind}{a b:Int}(h:¬a≠b):am P (do eqGuard .neq t x y (.int k a) (.int k b);binOp .neq t (.int k a) (.int k b))=some (.bool false):=Zm P t x y k h
theorem aR{P:Program}{t:TypeId}{x y:Operand}{k:IntKind}{a b:Int}:am P (do eqGuard .add t x y (.int k a) (.int k b);binOp .add t (.int k a) (.int k b))=some (.int k (k.wrap (a+b))):=ZY P t x y k a b
theorem abJ{P:Program}{t:TypeId}{x y:Operand}{k:IntKind}{a b:Int}:am P (do eqGuard .sub t x y (.int k a) (.int k b);binOp .sub t (.int k a) (.int k b))=some (.int k (k.wrap (a - b))):=ZZ P t x y k a b
theorem Ur{P:Program}{t:TypeId}{x y:Operand}{k:IntKind}{a b:Int}:am P (do eqGuard .mul t x y (.int k a) (.int k b);binOp .mul t (.int k a) (.int k b))=some (.int k (k.wrap (a*b))):=aa0 P t x y k a b
section
variable {E : Env} {y : Nat → fP} {n nt : Nat} {ops : Array Oper} {o : Oper} {r : List Oper} {K : St → Prop} {f : Nat → D} {L : BL} {d : Nat} {Q : Ex → St → Prop}
theorem pq{v:D}(hs:PS E n nt f L o.op v)(h:eO E y n nt ops r K (up f d v) L)(hw:dZ ops o nt f=some true:=by exact rfl)(hd:o.dst=some d:=by exact rfl)(hn:Nat.blt d nt=true:=by exact rfl):eO E y n nt ops (o::r) K f L:=NG hw hd hn hs h
theorem sq{v:D}{i:Nat}(hs:PS E n nt f L o.op v)(h:StL E n nt ops r (i+1) K (up f d v) L)(hw:dZ ops o nt f=some true:=by exact rfl)(hd:o.dst=some d:=by exact rfl)(hn:Nat.blt d nt=true:=by exact rfl):StL E n nt ops (o::r) i K f L:=ac4 hw hd hn hs h
theorem os(h:eO E y n nt ops r K (up f d cK) L)(hw:dZ ops o nt f=some false:=by exact rfl)(hd:o.dst=some d:=by exact rfl)(hn:Nat.blt d nt=true:=by exact rfl):eO E y n nt ops (o::r) K f L:=YO hw hd hn h
theorem ss{i:Nat}(h:StL E n nt ops r (i+1) K (up f d cK) L)(hw:dZ ops o nt f=some false:=by exact rfl)(hd:o.dst=some d:=by exact rfl)(hn:Nat.blt d nt=true:=by exact rfl):StL E n nt ops (o::r) i K f L:=YP hw hd hn h
theorem qm{x:Operand}(v:D)(hx:ov nt f x=some v:=by exact rfl):PS E n nt f L (.move x) v:=xC hx
theorem qa{x:Operand}(v:D)(hx:ov nt f x=some v:=by exact rfl):PS E n nt f L (.assign x) v:=Ch hx
theorem qpt{c a b:Operand}{fr:Bool}(v:D)(hc:ov nt f c=some (.one (.p fr (.v (.bool true)))):=by exact rfl)(hx:ov nt f a=some v:=by exact rfl):PS E n nt f L (.pick c a b) v:=YU hc hx
theorem qpf{c a b:Operand}{fr:Bool}(v:D)(hc:ov nt f c=some (.one (.p fr (.v (.bool false)))):=by exact rfl)(hx:ov nt f b=some v:=by exact rfl):PS E n nt f L (.pick c a b) v:=YV hc hx
theorem ql{ty:TypeId}{x:Operand}{k i j sz bz:Nat}{ag:Bool}{es:List (List C)}{e cs:List C}(v:D)(p:Nat)(hz:bZ E.ti ty=some (sz,ag))(hx:ov nt f x=some (.one (.ptr k i j)):=by exact rfl)(hp:L[p]? =some [(k,bz,es)]:=by exact rfl)(he:es[i]? =some e:=by exact rfl)(hc:cut e j (cond ag sz 1)=some cs:=by exact rfl)(hv:dX ag cs=some v:=by exact rfl):PS E n nt f L (.load ty x) v:=mt p hx hz hp he hc hv
theorem qc{c:Call}{k:FuncId}{vs:List (Bool×TD)}{vs2 rs:List TD}(v:D)(args:List D)(hk:RunsP E n k vs2 (.fresh,rs))(hv:Vw L args vs)(hc:br (.call c)=some c:=by exact rfl)(hr:bI c (ov nt f)=some (k,args):=by exact rfl)(h2:vs.map (·.2)=vs2:=by exact rfl)(hrv:iR (rs.map (dD true))=v:=by exact rfl):PS E n nt f L (.call c) v:=Pj hk hc hr hv h2 hrv
theorem qb{op:BinOp}{ty sh:TypeId}{x y:Operand}{fa fb:Bool}{ka kb:IntKind}{a b:Int}{v:Value}(hp:am E.P (do eqGuard op ty x y (.int ka a) (.int kb b);binOp op ty (.int ka a) (.int kb b))=some v)(hx:ov nt f x=some (.one (.p fa (.v (.int ka a)))):=by exact rfl)(hy:ov nt f y=some (.one (.p fb (.v (.int kb b)))):=by exact rfl)(h1:one1 v=true:=by exact rfl):PS E n nt f L (.binOp op ty x y sh) (mk v):=fx hx hy hp h1
theorem ow{ty:TypeId}{a x:Operand}{k i j sz bz:Nat}{ag:Bool}{es:List (List C)}{e e' cs:List C}{v:D}{L':BL}(es':List (List C))(p:Nat)(hz:bZ E.ti ty=some (sz,ag))(h:eO E y n nt ops r K f L')(hop:o.op= .store ty a x:=by exact rfl)(ha:ov nt f a=some (.one (.ptr k i j)):=by exact rfl)(hx:ov nt f x=some v:=by exact rfl)(hd:iQ v=some cs:=by exact rfl)(hs:Nat.beq cs.length sz=true:=by exact rfl)(hp:L[p]? =some [(k,bz,es)]:=by exact rfl)(he:es[i]? =some e:=by exact rfl)(ht:patch e j cs=some e':=by exact rfl)(hes:es.set i e'=es':=by exact rfl)(hw:dZ ops o nt f=some true:=by exact rfl)(hdst:o.dst=none:=by exact rfl)(hL:L.set p [(k,bz,es')]=L':=by exact rfl):eO E y n nt ops (o::r) K f L:=Lh hw hdst (by rw [hop];exact dO p ha hx hd hz hs hp he ht hes) hL h
theorem tq{v:D}{i w b:Nat}{O:List (List Nat)}{N:List (Bool×List Nat)}{R:List (List Nat)}{A:BL}(is:List Nat)(hA:is.filterMap (λi=>L[i]?)=A)(hm:∀x∈A.flatten,x.1 ∉(R.getD i []).flatMap (bh b O N))(hs:PS E n nt f A o.op v)(h:TnL E n nt ops r (i+1) w O N R b K (up f d v) L)(hw:dZ ops o nt f=some true:=by exact rfl)(hd:o.dst=some d:=by exact rfl)(hn:Nat.blt d nt=true:=by exact rfl)(hn2:is.Nodup:=by decide)(hu:bh b O N i= []:=by exact rfl):TnL E n nt ops (o::r) i w O N R b K f L:=VO hw hd hn is hn2 hA hm hu hs h
theorem oW{d1 d2:D}{ds:List D}(h:Heap)(hb:HB h L):cV h (d1::d2::ds)=false:=YY
theorem oG{cs:List C}(h:Heap)(hb:HB h L):cV h [.agg cs]=false:=YZ
theorem oP{fr:Bool}{t:T}(h:Heap)(hb:HB h L):cV h [.one (.p fr t)]=false:=VV
theorem eF1{t:Tmp}{fr:Bool}{x:Value}{rs:List TD}(hr:ov nt f (.tmp t)=some (.one (.p fr (.v x))):=by exact rfl)(hrs: [TD.one (.v x)]=rs:=by exact rfl):ew nt (iS E [.tmp t] (.fresh,rs)) .ret f L:=cI (.inr rfl) (bk hr aL) (af (ar aG) aw) (λh hb=>VV) rfl hrs
theorem eR{KK:St->Prop}(h:ew nt Q .ret f L):ew nt (rI KK Q) .ret f L:=h
theorem bR{id:Nat}(h:ew nt Q .ret f L):ew nt (NJ id Q) .ret f L:=h
theorem bN{id:Nat}(h:ew nt Q .normal f L):ew nt (NJ id Q) .normal f L:=h
theorem bH{id:Nat}(h:ew nt Q .normal f L):ew nt (NJ id Q) (.exit id) f L:=ac7 h
theorem cT{c:Operand}{a b:Code}{fr:Bool}(hc:ov nt f c=some (.one (.p fr (.v (.bool true)))))(h:WpL E y n nt a Q f L):WpL E y n nt (.cond c a b) Q f L:=YS hc h
theorem cF{c:Operand}{a b:Code}{fr:Bool}(hc:ov nt f c=some (.one (.p fr (.v (.bool false)))))(h:WpL E y n nt b Q f L):WpL E y n nt (.cond c a b) Q f L:=YT hc h
theorem lK(h:ew nt Q .normal f L):WpL E y n nt .skip Q f L:=ac6 h
theorem lR(h:ew nt Q .ret f L):WpL E y n nt .ret Q f L:=af3 h
theorem lB{id:Nat}{c:Code}(h:WpL E y n nt c (NJ id Q) f L):WpL E y n nt (.block id c) Q f L:=YR h
theorem eS{b:Code}(h:WpL E y n nt b Q f L):ew nt (rI (WpC E y n b Q) Q) .normal f L:=VR h
theorem oE(h:ew nt Q .normal f L):eO E y n nt ops [] (Q .normal) f L:=NH h
theorem lS{a b:Code}(h:WpL E y n nt a (rI (WpC E y n b Q) Q) f L):WpL E y n nt (.seq a b) Q f L:=aa2 h
theorem lO{id:Nat}{l:List Oper}(h:eO E y n nt l.toArray l (Q .normal) f L):WpL E y n nt (.region id l.toArray false) Q f L:=VP h
theorem oN{id:Nat}{l:List Oper}{b:Code}(h:eO E y n nt l.toArray l (rI (WpC E y n b Q) Q .normal) f L):eO E y n nt ops [] (rI (WpC E y n (.seq (.region id l.toArray false) b) Q) Q .normal) f L:=NH (VR (aa2 (VP h)))
theorem oR{id:Nat}{l:List Oper}(h:eO E y n nt l.toArray l (Q .normal) f L):eO E y n nt ops [] (rI (WpC E y n (.region id l.toArray false) Q) Q .normal) f L:=NH (VR (VP h))
end
end Ev
end
noncomputable section
open Go Go.RowKit
theorem QC(x a:Nat)(hx:x<18446744073709551616)(hx0:x≠0)(hlow:x &&&(18446744073709551616 - x)=a):
  IntKind.u64.wrap (bits BinOp.and IntKind.u64 (x:Int) (IntKind.u64.wrap (-(x:Int)))*285870213051353865)/ 288230376151711744=((a*285870213051353865 % 18446744073709551616 / 288230376151711744:Nat):Int):=by
 have e1:IntKind.u64.wrap (-(x:Int))=((18446744073709551616 - x:Nat):Int):=by rw [IntKind.wrap_u64];omega
 rw [e1,bits_and_u64_nat x _ hx (by omega),hlow,IntKind.wrap_u64];omega
set_option maxHeartbeats 1000000 in
theorem QD(x k idx:Nat)(w:World)(hx0:((x:Int)==0)=false)
  (key:IntKind.u64.wrap (bits BinOp.and IntKind.u64 (x:Int) (IntKind.u64.wrap (-(x:Int)))*285870213051353865)/ 288230376151711744=(idx:Int))
  (hi:idx<64) (hk:k<64) (hcell:w.cell? ⟨0,idx,none⟩=some (.int .u8 k)):
  Calls Tryz.prog 98 #[.int .u64 x] w λe w'=>e= .returned (.int .i64 k)/\w=w':=by
 go_enter Tryz.func98,Tryz.ntmps98
 go_wp2_with (simp only [key])
 go_ret
 exact⟨rfl,rfl⟩
namespace Ev
theorem Us(x:Nat)(hx:x<18446744073709551616)(hx0:x≠0)(w:World)(hT:aag w):
  Calls Tryz.prog 98 #[.int .u64 x] w λe w'=>e= .returned (.int .i64 (Lib.ctz 64 x))/\w=w':=by
 obtain⟨hlow,hk⟩:=Lib.lowest_bit 64 x hx0 hx;obtain⟨hi,htab⟩:=Lib.deBruijn64_at _ hk;have hcell:=hT.2 _ hi;rw [htab]at hcell;exact QD x _ _ w (by simp;omega) (QC x _ hx hx0 hlow) hi hk hcell
def tzF:List TD->Option (Kind×List TD)
 | [.one (.v (.int .u64 x))]=>if 0<x/\x<18446744073709551616 then some (.fresh,[.one (.v (.int .i64 (Lib.ctz 64 x.toNat)))])else none
 |_=>none
def TZ(x:Int):Option Int:=if 0<x/\x<18446744073709551616 then some ((Lib.ctz 64 x.toNat:Nat):Int)else none
theorem aeJ(vs:List TD)(kind:Kind)(rs:List TD)(h:tzF vs=some (kind,rs)):bL Tryz.prog 98 vs kind rs/\Enters Tryz.prog 98:=by
 unfold tzF at h;split at h
 .rename_i x;split at h
  .rename_i hx;simp only [zsI,Prod.mk.injEq]at h;obtain⟨rfl,rfl⟩:=h;refine⟨λw F ys hL hF hr=> ?_,⟨_,_,Tryz.func98,by kernel_rfl,by unfold Tryz.f98;rfl⟩⟩;obtain⟨hlen,hi⟩:=hr
   match ys,hlen with
   | [y],_=>
    obtain⟨y',e1,e2⟩:=hi 0 _ rfl;simp only [List.getElem?_cons_zero,zsI]at e1;subst e1
    have ey:y= .int .u64 x:=by
     cases e2 with
     |one t y h=>cases h with|v x hx=>rfl
    subst ey;obtain⟨n,rfl⟩:=Int.eq_ofNat_of_zero_le (show 0<=x by omega);refine(Us n (by omega) (by omega) w hL.2).mono λe w' ⟨he,hw⟩=> ?_;subst hw;refine⟨_,he,?_,λhk=>(by cases hk),Below.refl _ _⟩;exact .one _ _ (.v _ rfl)
  .simp at h
 .simp at h
end Ev
end
noncomputable section
namespace Ev
namespace K
open Go Go.RowKit
set_option maxRecDepth 100000
set_option maxHeartbeats 1000000
theorem JY:GOk wU E1 0:=gok bw dR ck trivial trivial
theorem Bn:aS E1 sa:=bF JY (by kernel_rfl) afX (by kernel_rfl) rfl
theorem xj:GOk mH E1 0:=gok bw dR ck trivial trivial
theorem zm:aS E1 mI:=bF xj (by kernel_rfl) agc (by kernel_rfl) rfl
theorem zn:GOk ob E1 1:=gok bw dR ck ⟨⟨by decide,zm⟩,trivial⟩ trivial
theorem rt:aS E1 kT:=bF zn (by kernel_rfl) afY (by kernel_rfl) rfl
theorem GO:GOk uc E1 0:=gok bw dR ck trivial trivial
theorem ru:aS E1 mJ:=bF GO (by kernel_rfl) afZ (by kernel_rfl) rfl
theorem Bo:GOk pG E1 1:=gok bw dR ck ⟨⟨by decide,Bn⟩,trivial⟩ trivial
theorem tH:aS E1 mf:=bF Bo (by kernel_rfl) ag0 (by kernel_rfl) rfl
theorem GP:GOk ud E1 2:=gok bw dR ck ⟨⟨by decide,rt⟩,⟨⟨by decide,ru⟩,⟨⟨by decide,tH⟩,trivial⟩⟩⟩ trivial
theorem JZ:aS E1 Ae:=bF GP (by kernel_rfl) afS (by kernel_rfl) rfl
theorem zo:GOk tw E1 0:=gok bw dR ck trivial trivial
theorem Bp:aS E1 oc:=bF zo (by kernel_rfl) fn4 (by kernel_rfl) rfl
theorem Bq:GOk vq E1 0:=gok bw dR ck trivial trivial
theorem tI:aS E1 pI:=bF Bq (by kernel_rfl) afP (by kernel_rfl) rfl
theorem DC:GOk yc E1 0:=gok bw dR ck trivial trivial
theorem GQ:aS E1 yd:=bF DC (by kernel_rfl) afV (by kernel_rfl) rfl
theorem GR:GOk AD E1 0:=gok bw dR ck trivial trivial
theorem yB:aS E1 pJ:=bF GR (by kernel_rfl) ag7 (by kernel_rfl) rfl
theorem zp:GOk tz E1 0:=gok bw dR ck trivial trivial
theorem Br:aS E1 tA:=bF zp (by kernel_rfl) agj (by kernel_rfl) rfl
theorem GS:GOk AE E1 0:=gok bw dR ck trivial trivial
theorem Ka:aS E1 AF:=bF GS (by kernel_rfl) agk (by kernel_rfl) rfl
theorem vL:GOk qx E1 0:=gok bw dR ck trivial trivial
theorem xm:aS E1 qy:=bF vL (by kernel_rfl) aeF (by kernel_rfl) rfl
theorem zq:GOk tB E1 0:=gok bw dR ck trivial trivial
theorem Bs:aS E1 tC:=bF zq (by kernel_rfl) aeG (by kernel_rfl) rfl
theorem DD:GOk ye E1 0:=gok bw dR ck trivial trivial
theorem GT:aS E1 yf:=bF DD (by kernel_rfl) aeH (by kernel_rfl) rfl
theorem DE:GOk yg E1 1:=gok bw dR ck ⟨⟨by decide,xm⟩,⟨⟨by decide,Bs⟩,⟨⟨by decide,GT⟩,trivial⟩⟩⟩ trivial
theorem GU:aS E1 yh:=bF DE (by kernel_rfl) agl (by kernel_rfl) rfl
theorem xn:GOk qU E1 0:=gok bw dR ck trivial trivial
theorem zr:aS E1 qV:=bF xn (by kernel_rfl) agm (by kernel_rfl) rfl
theorem vM:GOk qz E1 2:=gok bw dR ck ⟨⟨by decide,yB⟩,⟨⟨by decide,Br⟩,⟨⟨by decide,Ka⟩,⟨⟨by decide,GU⟩,⟨⟨by decide,zr⟩,trivial⟩⟩⟩⟩⟩ trivial
theorem pc:aS E1 lN:=bF vM (by kernel_rfl) ag8 (by kernel_rfl) rfl
theorem zt:GOk tD E1 0:=gok bw dR ck trivial ⟨⟨aeD,rfl⟩,trivial⟩
theorem Bt:aS E1 tE:=bF zt (by kernel_rfl) ag9 (by kernel_rfl) rfl
theorem GV:GOk AH E1 7:=gok bw dR ck ⟨⟨by decide,yB⟩,⟨⟨by decide,pc⟩,⟨⟨by decide,Bt⟩,trivial⟩⟩⟩ trivial
theorem Kb:aS E1 AI:=bF GV (by kernel_rfl) afU (by kernel_rfl) rfl
theorem Bu:GOk vr E1 8:=gok bw dR ck ⟨⟨by decide,tI⟩,⟨⟨by decide,Kb⟩,⟨⟨by decide,GQ⟩,trivial⟩⟩⟩ ⟨⟨aeD,rfl⟩,trivial⟩
theorem DF:aS E1 vt:=bF Bu (by kernel_rfl) afN (by kernel_rfl) rfl
theorem zu:GOk tF E1 0:=gok bw dR ck trivial trivial
theorem rx:aS E1 od:=bF zu (by kernel_rfl) afQ (by kernel_rfl) rfl
theorem xo:GOk qW E1 1:=gok bw dR ck ⟨⟨by decide,rx⟩,trivial⟩ trivial
theorem zv:aS E1 qX:=bF xo (by kernel_rfl) afO (by kernel_rfl) rfl
theorem GW:GOk AK E1 0:=gok bw dR ck trivial trivial
theorem Kc:aS E1 AL:=bF GW (by kernel_rfl) agh (by kernel_rfl) rfl
theorem DG:GOk yi E1 0:=gok bw dR ck trivial trivial
theorem GX:aS E1 yj:=bF DG (by kernel_rfl) agi (by kernel_rfl) rfl
theorem DH:GOk yk E1 1:=gok bw dR ck ⟨⟨by decide,Kc⟩,⟨⟨by decide,GX⟩,trivial⟩⟩ trivial
theorem vN:aS E1 qY:=bF DH (by kernel_rfl) ag6 (by kernel_rfl) rfl
theorem DI:GOk ym E1 0:=gok bw dR ck trivial ⟨⟨aeE,rfl⟩,trivial⟩
theorem GY:aS E1 yn:=bF DI (by kernel_rfl) agf (by kernel_rfl) rfl
theorem GZ:GOk AM E1 7:=gok bw dR ck ⟨⟨by decide,vN⟩,⟨⟨by decide,GY⟩,trivial⟩⟩ trivial
theorem Kd:aS E1 AN:=bF GZ (by kernel_rfl) ag3 (by kernel_rfl) rfl
theorem Ke:GOk Er E1 0:=gok bw dR ck trivial trivial
theorem MH:aS E1 Es:=bF Ke (by kernel_rfl) ag5 (by kernel_rfl) rfl
theorem Ha:GOk AO E1 8:=gok bw dR ck ⟨⟨by decide,Kd⟩,⟨⟨by decide,MH⟩,trivial⟩⟩ ⟨⟨aeE,rfl⟩,⟨⟨ag4,rfl⟩,trivial⟩⟩
theorem Kf:aS E1 Ms:=bF Ha (by kernel_rfl) afT (by kernel_rfl) rfl
theorem DK:GOk yo E1 0:=gok bw dR ck trivial trivial
theorem Hb:aS E1 yp:=bF DK (by kernel_rfl) aga (by kernel_rfl) rfl
theorem Bv:GOk vy E1 0:=gok bw dR ck trivial trivial
theorem DL:aS E1 vz:=bF Bv (by kernel_rfl) agb (by kernel_rfl) rfl
theorem Bw:GOk vA E1 1:=gok bw dR ck ⟨⟨by decide,Hb⟩,⟨⟨by decide,DL⟩,trivial⟩⟩ trivial
theorem DM:aS E1 vB:=bF Bw (by kernel_rfl) afW (by kernel_rfl) rfl
theorem vO:GOk qA E1 0:=gok bw dR ck trivial trivial
theorem xp:aS E1 qB:=bF vO (by kernel_rfl) agd (by kernel_rfl) rfl
theorem DN:GOk yq E1 0:=gok bw dR ck trivial trivial
theorem Hc:aS E1 yr:=bF DN (by kernel_rfl) age (by kernel_rfl) rfl
theorem He:GOk AP E1 1:=gok bw dR ck ⟨⟨by decide,ru⟩,⟨⟨by decide,xp⟩,⟨⟨by decide,Hc⟩,trivial⟩⟩⟩ trivial
theorem Kg:aS E1 AQ:=bF He (by kernel_rfl) ag1 (by kernel_rfl) rfl
theorem Hg:GOk AR E1 2:=gok bw dR ck ⟨⟨by decide,Bn⟩,⟨⟨by decide,rt⟩,⟨⟨by decide,ru⟩,⟨⟨by decide,tH⟩,⟨⟨by decide,Kg⟩,trivial⟩⟩⟩⟩⟩ trivial
theorem Kh:aS E1 Mv:=bF Hg (by kernel_rfl) afR (by kernel_rfl) rfl
theorem DO:GOk yu E1 0:=gok bw dR ck trivial trivial
theorem Hh:aS E1 qZ:=bF DO (by kernel_rfl) ag2 (by kernel_rfl) rfl
end K
end Ev
end
noncomputable section
namespace Ev
open Go
set_option maxRecDepth 100000
set_option maxHeartbeats 1000000
attribute [local irreducible] eO StL TnL WpL ew
def qF(k:FuncId):List TD->Option (Kind×List TD):=λvs=>cpR K.E1 60 k vs
theorem XR(vs:List TD)(kind:Kind)(rs:List TD)(h:qF 26 vs=some (kind,rs)):bL Tryz.prog 26 vs kind rs/\Enters Tryz.prog 26:=⟨(bP h).pure K.bw,⟨_,_,Tryz.func26,by kernel_rfl,by unfold Tryz.f26;rfl⟩⟩
theorem XS(vs:List TD)(kind:Kind)(rs:List TD)(h:qF 43 vs=some (kind,rs)):bL Tryz.prog 43 vs kind rs/\Enters Tryz.prog 43:=⟨(bP h).pure K.bw,⟨_,_,Tryz.func43,by kernel_rfl,by unfold Tryz.f43;rfl⟩⟩
theorem XU(vs:List TD)(kind:Kind)(rs:List TD)(h:qF 74 vs=some (kind,rs)):bL Tryz.prog 74 vs kind rs/\Enters Tryz.prog 74:=⟨(bP h).pure K.bw,⟨_,_,Tryz.func74,by kernel_rfl,by unfold Tryz.f74;rfl⟩⟩
theorem XV(vs:List TD)(kind:Kind)(rs:List TD)(h:qF 14 vs=some (kind,rs)):bL Tryz.prog 14 vs kind rs/\Enters Tryz.prog 14:=⟨(bP h).pure K.bw,⟨_,_,Tryz.func14,by kernel_rfl,by unfold Tryz.f14;rfl⟩⟩
theorem XW(vs:List TD)(kind:Kind)(rs:List TD)(h:qF 64 vs=some (kind,rs)):bL Tryz.prog 64 vs kind rs/\Enters Tryz.prog 64:=⟨(bP h).pure K.bw,⟨_,_,Tryz.func64,by kernel_rfl,by unfold Tryz.f64;rfl⟩⟩
theorem XX(vs:List TD)(kind:Kind)(rs:List TD)(h:qF 38 vs=some (kind,rs)):bL Tryz.prog 38 vs kind rs/\Enters Tryz.prog 38:=⟨(bP h).pure K.bw,⟨_,_,Tryz.func38,by kernel_rfl,by unfold Tryz.f38;rfl⟩⟩
theorem XY(vs:List TD)(kind:Kind)(rs:List TD)(h:qF 12 vs=some (kind,rs)):bL Tryz.prog 12 vs kind rs/\Enters Tryz.prog 12:=⟨(bP h).pure K.bw,⟨_,_,Tryz.func12,by kernel_rfl,by unfold Tryz.f12;rfl⟩⟩
theorem XZ(vs:List TD)(kind:Kind)(rs:List TD)(h:qF 24 vs=some (kind,rs)):bL Tryz.prog 24 vs kind rs/\Enters Tryz.prog 24:=⟨(bP h).pure K.bw,⟨_,_,Tryz.func24,by kernel_rfl,by unfold Tryz.f24;rfl⟩⟩
theorem Ya(vs:List TD)(kind:Kind)(rs:List TD)(h:qF 58 vs=some (kind,rs)):bL Tryz.prog 58 vs kind rs/\Enters Tryz.prog 58:=⟨(bP h).pure K.bw,⟨_,_,Tryz.func58,by kernel_rfl,by unfold Tryz.f58;rfl⟩⟩
theorem abK(vs:List TD)(kind:Kind)(rs:List TD)(h:qF 4 vs=some (kind,rs)):bL Tryz.prog 4 vs kind rs/\Enters Tryz.prog 4:=⟨(bP h).pure K.bw,⟨_,_,Tryz.func4,by kernel_rfl,by unfold Tryz.f4;rfl⟩⟩
theorem Yb(vs:List TD)(kind:Kind)(rs:List TD)(h:qF 18 vs=some (kind,rs)):bL Tryz.prog 18 vs kind rs/\Enters Tryz.prog 18:=⟨(bP h).pure K.bw,⟨_,_,Tryz.func18,by kernel_rfl,by unfold Tryz.f18;rfl⟩⟩
theorem Yc(vs:List TD)(kind:Kind)(rs:List TD)(h:qF 15 vs=some (kind,rs)):bL Tryz.prog 15 vs kind rs/\Enters Tryz.prog 15:=⟨(bP h).pure K.bw,⟨_,_,Tryz.func15,by kernel_rfl,by unfold Tryz.f15;rfl⟩⟩
theorem Yd(vs:List TD)(kind:Kind)(rs:List TD)(h:qF 17 vs=some (kind,rs)):bL Tryz.prog 17 vs kind rs/\Enters Tryz.prog 17:=⟨(bP h).pure K.bw,⟨_,_,Tryz.func17,by kernel_rfl,by unfold Tryz.f17;rfl⟩⟩
theorem Ye(vs:List TD)(kind:Kind)(rs:List TD)(h:qF 86 vs=some (kind,rs)):bL Tryz.prog 86 vs kind rs/\Enters Tryz.prog 86:=⟨(bP h).pure K.bw,⟨_,_,Tryz.func86,by kernel_rfl,by unfold Tryz.f86;rfl⟩⟩
theorem Ut(vs:List TD)(kind:Kind)(rs:List TD)(h:qF 100 vs=some (kind,rs)):bL Tryz.prog 100 vs kind rs/\Enters Tryz.prog 100:=⟨(bP h).pure K.bw,⟨_,_,Tryz.func100,by kernel_rfl,by unfold Tryz.f100;rfl⟩⟩
theorem Uu(vs:List TD)(kind:Kind)(rs:List TD)(h:qF 101 vs=some (kind,rs)):bL Tryz.prog 101 vs kind rs/\Enters Tryz.prog 101:=⟨(bP h).pure K.bw,⟨_,_,Tryz.func101,by kernel_rfl,by unfold Tryz.f101;rfl⟩⟩
theorem Yf(vs:List TD)(kind:Kind)(rs:List TD)(h:qF 46 vs=some (kind,rs)):bL Tryz.prog 46 vs kind rs/\Enters Tryz.prog 46:=⟨(bP h).pure K.bw,⟨_,_,Tryz.func46,by kernel_rfl,by unfold Tryz.f46;rfl⟩⟩
theorem Yg(vs:List TD)(kind:Kind)(rs:List TD)(h:qF 48 vs=some (kind,rs)):bL Tryz.prog 48 vs kind rs/\Enters Tryz.prog 48:=⟨(bP h).pure K.bw,⟨_,_,Tryz.func48,by kernel_rfl,by unfold Tryz.f48;rfl⟩⟩
theorem Yh(vs:List TD)(kind:Kind)(rs:List TD)(h:qF 77 vs=some (kind,rs)):bL Tryz.prog 77 vs kind rs/\Enters Tryz.prog 77:=⟨(bP h).pure K.bw,⟨_,_,Tryz.func77,by kernel_rfl,by unfold Tryz.f77;rfl⟩⟩
theorem Yi(vs:List TD)(kind:Kind)(rs:List TD)(h:qF 47 vs=some (kind,rs)):bL Tryz.prog 47 vs kind rs/\Enters Tryz.prog 47:=⟨(bP h).pure K.bw,⟨_,_,Tryz.func47,by kernel_rfl,by unfold Tryz.f47;rfl⟩⟩
theorem Yj(vs:List TD)(kind:Kind)(rs:List TD)(h:qF 49 vs=some (kind,rs)):bL Tryz.prog 49 vs kind rs/\Enters Tryz.prog 49:=⟨(bP h).pure K.bw,⟨_,_,Tryz.func49,by kernel_rfl,by unfold Tryz.f49;rfl⟩⟩
theorem Yk(vs:List TD)(kind:Kind)(rs:List TD)(h:qF 78 vs=some (kind,rs)):bL Tryz.prog 78 vs kind rs/\Enters Tryz.prog 78:=⟨(bP h).pure K.bw,⟨_,_,Tryz.func78,by kernel_rfl,by unfold Tryz.f78;rfl⟩⟩
theorem Yl(vs:List TD)(kind:Kind)(rs:List TD)(h:qF 79 vs=some (kind,rs)):bL Tryz.prog 79 vs kind rs/\Enters Tryz.prog 79:=⟨(bP h).pure K.bw,⟨_,_,Tryz.func79,by kernel_rfl,by unfold Tryz.f79;rfl⟩⟩
theorem Ym(vs:List TD)(kind:Kind)(rs:List TD)(h:qF 52 vs=some (kind,rs)):bL Tryz.prog 52 vs kind rs/\Enters Tryz.prog 52:=⟨(bP h).pure K.bw,⟨_,_,Tryz.func52,by kernel_rfl,by unfold Tryz.f52;rfl⟩⟩
theorem Yn(vs:List TD)(kind:Kind)(rs:List TD)(h:qF 50 vs=some (kind,rs)):bL Tryz.prog 50 vs kind rs/\Enters Tryz.prog 50:=⟨(bP h).pure K.bw,⟨_,_,Tryz.func50,by kernel_rfl,by unfold Tryz.f50;rfl⟩⟩
theorem Yo(vs:List TD)(kind:Kind)(rs:List TD)(h:qF 23 vs=some (kind,rs)):bL Tryz.prog 23 vs kind rs/\Enters Tryz.prog 23:=⟨(bP h).pure K.bw,⟨_,_,Tryz.func23,by kernel_rfl,by unfold Tryz.f23;rfl⟩⟩
end Ev
end
noncomputable section
namespace Ev
open Go
set_option maxRecDepth 100000
set_option maxHeartbeats 1000000
attribute [local irreducible] eO StL TnL WpL ew
theorem tz1:aj Tryz.prog 1=some (⟨.func #[] #[] false,[.nilFunc],1,8⟩:TI):=by kernel_rfl
theorem tz2:aj Tryz.prog 2=some (⟨.int .i64,[.int .i64 0],1,8⟩:TI):=by kernel_rfl
theorem tz3:aj Tryz.prog 3=some (⟨.int .i64,[.int .i64 0],1,8⟩:TI):=by kernel_rfl
theorem tz4:aj Tryz.prog 4=some (⟨.bool,[.bool false],1,1⟩:TI):=by kernel_rfl
theorem tz5:aj Tryz.prog 5=some (⟨.int .u8,[.int .u8 0],1,1⟩:TI):=by kernel_rfl
theorem tz6:aj Tryz.prog 6=some (⟨.int .u8,[.int .u8 0],1,1⟩:TI):=by kernel_rfl
theorem tz7:aj Tryz.prog 7=some (⟨.struct (bq Tryz.prog 7),[.int .i64 0,.int .i64 0,.bool false,.int .u8 0],4,24⟩:TI):=by kernel_rfl
theorem tz8:aj Tryz.prog 8=some (⟨.struct (bq Tryz.prog 8),[.int .i64 0,.int .i64 0,.bool false,.int .u8 0],4,24⟩:TI):=by kernel_rfl
theorem aaj:aj Tryz.prog 12=some (⟨.int .u64,[.int .u64 0],1,8⟩:TI):=by kernel_rfl
theorem aak:aj Tryz.prog 15=some (⟨.pointer 169,[.pointer none],1,8⟩:TI):=by kernel_rfl
theorem aal:aj Tryz.prog 16=some (⟨.pointer 172,[.pointer none],1,8⟩:TI):=by kernel_rfl
theorem aam:aj Tryz.prog 17=some (⟨.pointer 181,[.pointer none],1,8⟩:TI):=by kernel_rfl
theorem aan:aj Tryz.prog 18=some (⟨.struct (bq Tryz.prog 18),[.pointer none],1,8⟩:TI):=by kernel_rfl
theorem aao:aj Tryz.prog 19=some (⟨.struct (bq Tryz.prog 19),[.pointer none],1,8⟩:TI):=by kernel_rfl
theorem aap:aj Tryz.prog 21=some (⟨.int .i32,[.int .i32 0],1,4⟩:TI):=by kernel_rfl
theorem Xc:aj Tryz.prog 22=some (⟨.int .i64,[.int .i64 0],1,8⟩:TI):=by kernel_rfl
theorem Xd:aj Tryz.prog 23=some (⟨.array 2 5,[.int .u8 0,.int .u8 0],2,2⟩:TI):=by kernel_rfl
theorem aaq:aj Tryz.prog 24=some (⟨.slice 93,[.slice none 0 0],1,24⟩:TI):=by kernel_rfl
theorem Xe:aj Tryz.prog 25=some (⟨.slice 58,[.slice none 0 0],1,24⟩:TI):=by kernel_rfl
theorem Xf:aj Tryz.prog 26=some (⟨.slice 67,[.slice none 0 0],1,24⟩:TI):=by kernel_rfl
theorem aar:aj Tryz.prog 27=some (⟨.struct (bq Tryz.prog 27),[.int .i64 0,.int .u8 0,.int .u8 0,.slice none 0 0,.slice none 0 0,.slice none 0 0,.slice none 0 0,.bool false],8,120⟩:TI):=by kernel_rfl
theorem Xg:aj Tryz.prog 28=some (⟨.struct (bq Tryz.prog 28),[.int .i64 0,.int .u8 0,.int .u8 0,.slice none 0 0,.slice none 0 0,.slice none 0 0,.slice none 0 0,.bool false],8,120⟩:TI):=by kernel_rfl
theorem aas:aj Tryz.prog 29=some (⟨.func #[22] #[22] false,[.nilFunc],1,8⟩:TI):=by kernel_rfl
theorem Xh:aj Tryz.prog 30=some (⟨.slice 3,[.slice none 0 0],1,24⟩:TI):=by kernel_rfl
theorem Xi:aj Tryz.prog 31=some (⟨.slice 2,[.slice none 0 0],1,24⟩:TI):=by kernel_rfl
theorem aat:aj Tryz.prog 32=some (⟨.struct (bq Tryz.prog 32),[.int .i64 0,.int .i64 0,.slice none 0 0,.slice none 0 0,.slice none 0 0],5,88⟩:TI):=by kernel_rfl
theorem Xj:aj Tryz.prog 33=some (⟨.struct (bq Tryz.prog 33),[.int .i64 0,.int .i64 0,.slice none 0 0,.slice none 0 0,.slice none 0 0],5,88⟩:TI):=by kernel_rfl
theorem agn:jm (aj Tryz.prog) (⟨.struct (bq Tryz.prog 33),[.int .i64 0,.int .i64 0,.slice none 0 0,.slice none 0 0,.slice none 0 0],5,88⟩:TI)=some λi=>([(0,1),(1,1),(2,1),(3,1),(4,1)]:List (Nat×Nat))[i]? :=by kernel_rfl
theorem aau:aj Tryz.prog 34=some (⟨.func #[] #[33] false,[.nilFunc],1,8⟩:TI):=by kernel_rfl
theorem aav:aj Tryz.prog 35=some (⟨.struct (bq Tryz.prog 35),[.int .i64 0,.slice none 0 0],2,32⟩:TI):=by kernel_rfl
theorem Xk:aj Tryz.prog 36=some (⟨.struct (bq Tryz.prog 36),[.int .i64 0,.slice none 0 0],2,32⟩:TI):=by kernel_rfl
theorem DP:jm (aj Tryz.prog) (⟨.struct (bq Tryz.prog 36),[.int .i64 0,.slice none 0 0],2,32⟩:TI)=some λi=>([(0,1),(1,1)]:List (Nat×Nat))[i]? :=by kernel_rfl
theorem aaw:aj Tryz.prog 37=some (⟨.func #[25] #[36] false,[.nilFunc],1,8⟩:TI):=by kernel_rfl
theorem aax:aj Tryz.prog 38=some (⟨.func #[] #[26] false,[.nilFunc],1,8⟩:TI):=by kernel_rfl
theorem Xl:aj Tryz.prog 39=some (⟨.slice 76,[.slice none 0 0],1,24⟩:TI):=by kernel_rfl
theorem aay:aj Tryz.prog 40=some (⟨.int .i64,[.int .i64 0],1,8⟩:TI):=by kernel_rfl
theorem aaz:aj Tryz.prog 42=some (⟨.func #[22,44,36,26,4] #[39,40] false,[.nilFunc],1,8⟩:TI):=by kernel_rfl
theorem aaA:aj Tryz.prog 43=some (⟨.struct (bq Tryz.prog 43),[.int .i64 0,.int .i64 0,.slice none 0 0,.slice none 0 0,.slice none 0 0,.slice none 0 0],6,112⟩:TI):=by kernel_rfl
theorem Xm:aj Tryz.prog 44=some (⟨.struct (bq Tryz.prog 44),[.int .i64 0,.int .i64 0,.slice none 0 0,.slice none 0 0,.slice none 0 0,.slice none 0 0],6,112⟩:TI):=by kernel_rfl
theorem aeK:jm (aj Tryz.prog) (⟨.struct (bq Tryz.prog 44),[.int .i64 0,.int .i64 0,.slice none 0 0,.slice none 0 0,.slice none 0 0,.slice none 0 0],6,112⟩:TI)=some λi=>([(0,1),(1,1),(2,1),(3,1),(4,1),(5,1)]:List (Nat×Nat))[i]? :=by kernel_rfl
theorem aaB:aj Tryz.prog 45=some (⟨.func #[33] #[44] false,[.nilFunc],1,8⟩:TI):=by kernel_rfl
theorem aaC:aj Tryz.prog 46=some (⟨.func #[22,33,48,26,4] #[39,40] false,[.nilFunc],1,8⟩:TI):=by kernel_rfl
theorem aaD:aj Tryz.prog 47=some (⟨.struct (bq Tryz.prog 47),[.int .i64 0,.slice none 0 0,.slice none 0 0],3,56⟩:TI):=by kernel_rfl
theorem Xn:aj Tryz.prog 48=some (⟨.struct (bq Tryz.prog 48),[.int .i64 0,.slice none 0 0,.slice none 0 0],3,56⟩:TI):=by kernel_rfl
theorem Uv:jm (aj Tryz.prog) (⟨.struct (bq Tryz.prog 48),[.int .i64 0,.slice none 0 0,.slice none 0 0],3,56⟩:TI)=some λi=>([(0,1),(1,1),(2,1)]:List (Nat×Nat))[i]? :=by kernel_rfl
theorem aaE:aj Tryz.prog 49=some (⟨.func #[36] #[48] false,[.nilFunc],1,8⟩:TI):=by kernel_rfl
theorem aaF:aj Tryz.prog 50=some (⟨.func #[] #[4] false,[.nilFunc],1,8⟩:TI):=by kernel_rfl
theorem aaG:aj Tryz.prog 51=some (⟨.func #[39,39] #[4] false,[.nilFunc],1,8⟩:TI):=by kernel_rfl
theorem aaH:aj Tryz.prog 52=some (⟨.func #[28] #[4] false,[.nilFunc],1,8⟩:TI):=by kernel_rfl
theorem aaI:aj Tryz.prog 53=some (⟨.func #[23,24] #[33] false,[.nilFunc],1,8⟩:TI):=by kernel_rfl
theorem aaJ:aj Tryz.prog 54=some (⟨.func #[22,2] #[2] false,[.nilFunc],1,8⟩:TI):=by kernel_rfl
theorem aaK:aj Tryz.prog 55=some (⟨.func #[5,25] #[36] false,[.nilFunc],1,8⟩:TI):=by kernel_rfl
theorem aaL:aj Tryz.prog 56=some (⟨.func #[5] #[3] false,[.nilFunc],1,8⟩:TI):=by kernel_rfl
theorem aaM:aj Tryz.prog 57=some (⟨.struct (bq Tryz.prog 57),[.int .i64 0,.int .i64 0],2,16⟩:TI):=by kernel_rfl
theorem Xo:aj Tryz.prog 58=some (⟨.struct (bq Tryz.prog 58),[.int .i64 0,.int .i64 0],2,16⟩:TI):=by kernel_rfl
theorem abL:jm (aj Tryz.prog) (⟨.struct (bq Tryz.prog 58),[.int .i64 0,.int .i64 0],2,16⟩:TI)=some λi=>([(0,1),(1,1)]:List (Nat×Nat))[i]? :=by kernel_rfl
theorem aaN:aj Tryz.prog 59=some (⟨.func #[22] #[4] false,[.nilFunc],1,8⟩:TI):=by kernel_rfl
theorem aaO:aj Tryz.prog 60=some (⟨.func #[44] #[44] false,[.nilFunc],1,8⟩:TI):=by kernel_rfl
theorem aaP:aj Tryz.prog 61=some (⟨.func #[36] #[4] false,[.nilFunc],1,8⟩:TI):=by kernel_rfl
theorem Xp:aj Tryz.prog 62=some (⟨.slice 71,[.slice none 0 0],1,24⟩:TI):=by kernel_rfl
theorem aaQ:aj Tryz.prog 63=some (⟨.func #[103] #[] false,[.nilFunc],1,8⟩:TI):=by kernel_rfl
theorem aaR:aj Tryz.prog 64=some (⟨.func #[103] #[] false,[.nilFunc],1,8⟩:TI):=by kernel_rfl
theorem aaS:aj Tryz.prog 65=some (⟨.func #[44,36] #[64] false,[.nilFunc],1,8⟩:TI):=by kernel_rfl
theorem aaT:aj Tryz.prog 66=some (⟨.pointer 71,[.pointer none],1,8⟩:TI):=by kernel_rfl
theorem Xq:aj Tryz.prog 67=some (⟨.int .u64,[.int .u64 0],1,8⟩:TI):=by kernel_rfl
theorem aaU:aj Tryz.prog 68=some (⟨.struct (bq Tryz.prog 68),[.int .i64 0,.int .u64 0],2,16⟩:TI):=by kernel_rfl
theorem Xr:aj Tryz.prog 69=some (⟨.struct (bq Tryz.prog 69),[.int .i64 0,.int .u64 0],2,16⟩:TI):=by kernel_rfl
theorem aaV:aj Tryz.prog 70=some (⟨.struct (bq Tryz.prog 70),[.int .i64 0,.int .u64 0,.bool false],3,24⟩:TI):=by kernel_rfl
theorem Xu:aj Tryz.prog 71=some (⟨.struct (bq Tryz.prog 71),[.int .i64 0,.int .u64 0,.bool false],3,24⟩:TI):=by kernel_rfl
theorem aeL:jm (aj Tryz.prog) (⟨.struct (bq Tryz.prog 71),[.int .i64 0,.int .u64 0,.bool false],3,24⟩:TI)=some λi=>([(0,2),(2,1)]:List (Nat×Nat))[i]? :=by kernel_rfl
theorem aaW:aj Tryz.prog 72=some (⟨.func #[22,2,2] #[69] false,[.nilFunc],1,8⟩:TI):=by kernel_rfl
theorem aaX:aj Tryz.prog 73=some (⟨.func #[22,69,69] #[69] false,[.nilFunc],1,8⟩:TI):=by kernel_rfl
theorem aaY:aj Tryz.prog 74=some (⟨.func #[26,3] #[4] false,[.nilFunc],1,8⟩:TI):=by kernel_rfl
theorem aaZ:aj Tryz.prog 75=some (⟨.struct (bq Tryz.prog 75),[.int .i64 0,.int .i64 0,.int .u64 0],3,24⟩:TI):=by kernel_rfl
theorem Xv:aj Tryz.prog 76=some (⟨.struct (bq Tryz.prog 76),[.int .i64 0,.int .i64 0,.int .u64 0],3,24⟩:TI):=by kernel_rfl
theorem QE:jm (aj Tryz.prog) (⟨.struct (bq Tryz.prog 76),[.int .i64 0,.int .i64 0,.int .u64 0],3,24⟩:TI)=some λi=>([(0,1),(1,2)]:List (Nat×Nat))[i]? :=by kernel_rfl
theorem ab0:aj Tryz.prog 77=some (⟨.func #[33] #[33] false,[.nilFunc],1,8⟩:TI):=by kernel_rfl
theorem ab1:aj Tryz.prog 78=some (⟨.func #[113] #[] false,[.nilFunc],1,8⟩:TI):=by kernel_rfl
theorem ab2:aj Tryz.prog 79=some (⟨.func #[113] #[] false,[.nilFunc],1,8⟩:TI):=by kernel_rfl
theorem ab3:aj Tryz.prog 80=some (⟨.func #[30] #[79] false,[.nilFunc],1,8⟩:TI):=by kernel_rfl
theorem ab4:aj Tryz.prog 81=some (⟨.func #[48] #[4] false,[.nilFunc],1,8⟩:TI):=by kernel_rfl
theorem Xw:aj Tryz.prog 82=some (⟨.func #[3] #[69,4] false,[.nilFunc],1,8⟩:TI):=by kernel_rfl
theorem ab5:aj Tryz.prog 83=some (⟨.func #[102] #[] false,[.nilFunc],1,8⟩:TI):=by kernel_rfl
theorem ab6:aj Tryz.prog 84=some (⟨.func #[102] #[] false,[.nilFunc],1,8⟩:TI):=by kernel_rfl
theorem ab7:aj Tryz.prog 85=some (⟨.func #[3,26,4] #[84] false,[.nilFunc],1,8⟩:TI):=by kernel_rfl
theorem ab8:aj Tryz.prog 87=some (⟨.func #[3] #[48] false,[.nilFunc],1,8⟩:TI):=by kernel_rfl
theorem ab9:aj Tryz.prog 88=some (⟨.func #[3,30] #[26] true,[.nilFunc],1,8⟩:TI):=by kernel_rfl
theorem aba:aj Tryz.prog 89=some (⟨.func #[36] #[30] false,[.nilFunc],1,8⟩:TI):=by kernel_rfl
theorem abb:aj Tryz.prog 91=some (⟨.func #[22,3,3,24] #[33,40] false,[.nilFunc],1,8⟩:TI):=by kernel_rfl
theorem abc:aj Tryz.prog 92=some (⟨.struct (bq Tryz.prog 92),[.int .i64 0,.int .i64 0,.int .i64 0],3,24⟩:TI):=by kernel_rfl
theorem abd:aj Tryz.prog 93=some (⟨.struct (bq Tryz.prog 93),[.int .i64 0,.int .i64 0,.int .i64 0],3,24⟩:TI):=by kernel_rfl
theorem abe:aj Tryz.prog 95=some (⟨.func #[22,44,36,26,4] #[36,40] false,[.nilFunc],1,8⟩:TI):=by kernel_rfl
theorem abf:aj Tryz.prog 96=some (⟨.func #[22,125] #[39,40] true,[.nilFunc],1,8⟩:TI):=by kernel_rfl
theorem abg:aj Tryz.prog 97=some (⟨.func #[44,36] #[3] false,[.nilFunc],1,8⟩:TI):=by kernel_rfl
theorem abh:aj Tryz.prog 98=some (⟨.func #[24] #[24] false,[.nilFunc],1,8⟩:TI):=by kernel_rfl
theorem abi:aj Tryz.prog 99=some (⟨.func #[3,3] #[33] false,[.nilFunc],1,8⟩:TI):=by kernel_rfl
theorem RV:aj Tryz.prog 100=some (⟨.func #[22,3,25] #[36,40] false,[.nilFunc],1,8⟩:TI):=by kernel_rfl
theorem RW:aj Tryz.prog 101=some (⟨.func #[44] #[4] false,[.nilFunc],1,8⟩:TI):=by kernel_rfl
theorem RX:aj Tryz.prog 102=some (⟨.func #[3] #[4] false,[.nilFunc],1,8⟩:TI):=by kernel_rfl
theorem RY:aj Tryz.prog 103=some (⟨.func #[3,2] #[4] false,[.nilFunc],1,8⟩:TI):=by kernel_rfl
theorem RZ:aj Tryz.prog 104=some (⟨.func #[2] #[69] false,[.nilFunc],1,8⟩:TI):=by kernel_rfl
theorem Sa:aj Tryz.prog 105=some (⟨.func #[69,69] #[69] false,[.nilFunc],1,8⟩:TI):=by kernel_rfl
theorem Sb:aj Tryz.prog 106=some (⟨.func #[4] #[69] false,[.nilFunc],1,8⟩:TI):=by kernel_rfl
theorem Sd:aj Tryz.prog 107=some (⟨.func #[2,2] #[69] false,[.nilFunc],1,8⟩:TI):=by kernel_rfl
theorem Se:aj Tryz.prog 108=some (⟨.func #[3] #[67] false,[.nilFunc],1,8⟩:TI):=by kernel_rfl
theorem Sf:aj Tryz.prog 109=some (⟨.func #[30] #[] false,[.nilFunc],1,8⟩:TI):=by kernel_rfl
theorem Sg:aj Tryz.prog 110=some (⟨.func #[30] #[30] false,[.nilFunc],1,8⟩:TI):=by kernel_rfl
theorem Si:aj Tryz.prog 112=some (⟨.func #[33,3] #[30,31] false,[.nilFunc],1,8⟩:TI):=by kernel_rfl
theorem Sj:aj Tryz.prog 113=some (⟨.func #[3,3] #[4] false,[.nilFunc],1,8⟩:TI):=by kernel_rfl
theorem Sk:aj Tryz.prog 114=some (⟨.func #[33] #[4] false,[.nilFunc],1,8⟩:TI):=by kernel_rfl
theorem Sn:aj Tryz.prog 115=some (⟨.func #[3] #[26] false,[.nilFunc],1,8⟩:TI):=by kernel_rfl
theorem So:aj Tryz.prog 116=some (⟨.func #[36] #[36] false,[.nilFunc],1,8⟩:TI):=by kernel_rfl
theorem Oy:aj Tryz.prog 117=some (⟨.slice 119,[.slice none 0 0],1,24⟩:TI):=by kernel_rfl
theorem Sp:aj Tryz.prog 118=some (⟨.struct (bq Tryz.prog 118),[.int .i64 0,.int .i64 0,.int .i64 0],3,24⟩:TI):=by kernel_rfl
theorem Oz:aj Tryz.prog 119=some (⟨.struct (bq Tryz.prog 119),[.int .i64 0,.int .i64 0,.int .i64 0],3,24⟩:TI):=by kernel_rfl
theorem aeM:jm (aj Tryz.prog) (⟨.struct (bq Tryz.prog 119),[.int .i64 0,.int .i64 0,.int .i64 0],3,24⟩:TI)=some λi=>([(0,1),(1,1),(2,1)]:List (Nat×Nat))[i]? :=by kernel_rfl
theorem Sq:aj Tryz.prog 121=some (⟨.func #[22,117] #[117,40] false,[.nilFunc],1,8⟩:TI):=by kernel_rfl
theorem Sr:aj Tryz.prog 122=some (⟨.func #[3,3,24] #[33] false,[.nilFunc],1,8⟩:TI):=by kernel_rfl
theorem Ss:aj Tryz.prog 123=some (⟨.func #[33,3] #[25] false,[.nilFunc],1,8⟩:TI):=by kernel_rfl
theorem Su:aj Tryz.prog 124=some (⟨.func #[22,3,39] #[36,40] false,[.nilFunc],1,8⟩:TI):=by kernel_rfl
theorem Sv:aj Tryz.prog 125=some (⟨.slice 39,[.slice none 0 0],1,24⟩:TI):=by kernel_rfl
theorem Sw:aj Tryz.prog 126=some (⟨.pointer 130,[.pointer none],1,8⟩:TI):=by kernel_rfl
theorem Sx:aj Tryz.prog 127=some (⟨.slice 134,[.slice none 0 0],1,24⟩:TI):=by kernel_rfl
theorem Sy:aj Tryz.prog 128=some (⟨.slice 134,[.slice none 0 0],1,24⟩:TI):=by kernel_rfl
theorem Sz:aj Tryz.prog 129=some (⟨.struct (bq Tryz.prog 129),[.slice none 0 0],1,24⟩:TI):=by kernel_rfl
theorem SA:aj Tryz.prog 130=some (⟨.struct (bq Tryz.prog 130),[.slice none 0 0],1,24⟩:TI):=by kernel_rfl
theorem SC:aj Tryz.prog 131=some (⟨.func #[39] #[4] false,[.nilFunc],1,8⟩:TI):=by kernel_rfl
theorem SD:aj Tryz.prog 132=some (⟨.func #[156,20] #[] false,[.nilFunc],1,8⟩:TI):=by kernel_rfl
theorem SE:aj Tryz.prog 133=some (⟨.struct (bq Tryz.prog 133),[.int .i64 0,.slice none 0 0],2,32⟩:TI):=by kernel_rfl
theorem SF:aj Tryz.prog 134=some (⟨.struct (bq Tryz.prog 134),[.int .i64 0,.slice none 0 0],2,32⟩:TI):=by kernel_rfl
theorem SG:aj Tryz.prog 135=some (⟨.func #[] #[3] false,[.nilFunc],1,8⟩:TI):=by kernel_rfl
theorem SH:aj Tryz.prog 136=some (⟨.func #[156] #[20] false,[.nilFunc],1,8⟩:TI):=by kernel_rfl
theorem SI:aj Tryz.prog 137=some (⟨.func #[22,39,76] #[39] false,[.nilFunc],1,8⟩:TI):=by kernel_rfl
theorem SJ:aj Tryz.prog 138=some (⟨.func #[44,30] #[3] false,[.nilFunc],1,8⟩:TI):=by kernel_rfl
theorem SK:aj Tryz.prog 139=some (⟨.func #[30,3] #[4] false,[.nilFunc],1,8⟩:TI):=by kernel_rfl
theorem SM:aj Tryz.prog 140=some (⟨.int .u64,[.int .u64 0],1,8⟩:TI):=by kernel_rfl
theorem SN:aj Tryz.prog 141=some (⟨.func #[69,69] #[3] false,[.nilFunc],1,8⟩:TI):=by kernel_rfl
theorem SO:aj Tryz.prog 142=some (⟨.array 4 67,[.int .u64 0,.int .u64 0,.int .u64 0,.int .u64 0],4,32⟩:TI):=by kernel_rfl
theorem SP:aj Tryz.prog 143=some (⟨.func #[67,67] #[142] false,[.nilFunc],1,8⟩:TI):=by kernel_rfl
theorem SQ:aj Tryz.prog 144=some (⟨.func #[69,3] #[69] false,[.nilFunc],1,8⟩:TI):=by kernel_rfl
theorem SR:aj Tryz.prog 145=some (⟨.func #[3] #[3] false,[.nilFunc],1,8⟩:TI):=by kernel_rfl
theorem SS:aj Tryz.prog 146=some (⟨.func #[26,3] #[3] false,[.nilFunc],1,8⟩:TI):=by kernel_rfl
theorem ST:aj Tryz.prog 147=some (⟨.slice 69,[.slice none 0 0],1,24⟩:TI):=by kernel_rfl
theorem SU:aj Tryz.prog 148=some (⟨.func #[119,119] #[4] false,[.nilFunc],1,8⟩:TI):=by kernel_rfl
theorem SW:aj Tryz.prog 150=some (⟨.func #[69] #[2,4] false,[.nilFunc],1,8⟩:TI):=by kernel_rfl
theorem SX:aj Tryz.prog 151=some (⟨.func #[33] #[24] false,[.nilFunc],1,8⟩:TI):=by kernel_rfl
theorem SY:aj Tryz.prog 152=some (⟨.func #[22,3,39] #[40] false,[.nilFunc],1,8⟩:TI):=by kernel_rfl
theorem SZ:aj Tryz.prog 153=some (⟨.func #[22,69] #[2,4] false,[.nilFunc],1,8⟩:TI):=by kernel_rfl
theorem Ta:aj Tryz.prog 154=some (⟨.func #[22] #[2] false,[.nilFunc],1,8⟩:TI):=by kernel_rfl
theorem Tb:aj Tryz.prog 157=some (⟨.func #[20] #[] false,[.nilFunc],1,8⟩:TI):=by kernel_rfl
theorem Tc:aj Tryz.prog 158=some (⟨.func #[156,3] #[] false,[.nilFunc],1,8⟩:TI):=by kernel_rfl
theorem Td:aj Tryz.prog 159=some (⟨.func #[3,3] #[] false,[.nilFunc],1,8⟩:TI):=by kernel_rfl
theorem Te:aj Tryz.prog 160=some (⟨.func #[156,3,3] #[4] false,[.nilFunc],1,8⟩:TI):=by kernel_rfl
theorem Tf:aj Tryz.prog 161=some (⟨.func #[] #[20] false,[.nilFunc],1,8⟩:TI):=by kernel_rfl
theorem Tg:aj Tryz.prog 163=some (⟨.func #[44,3] #[3,3] false,[.nilFunc],1,8⟩:TI):=by kernel_rfl
theorem Ti:aj Tryz.prog 164=some (⟨.func #[67] #[3] false,[.nilFunc],1,8⟩:TI):=by kernel_rfl
theorem Tj:aj Tryz.prog 165=some (⟨.func #[26] #[84] false,[.nilFunc],1,8⟩:TI):=by kernel_rfl
theorem Tl:aj Tryz.prog 166=some (⟨.array 64 5,[.int .u8 0,.int .u8 0,.int .u8 0,.int .u8 0,.int .u8 0,.int .u8 0,.int .u8 0,.int .u8 0,.int .u8 0,.int .u8 0,.int .u8 0,.int .u8 0,.int .u8 0,.int .u8 0,.int .u8 0,.int .u8 0,.int .u8 0,.int .u8 0,.int .u8 0,.int .u8 0,.int .u8 0,.int .u8 0,.int .u8 0,.int .u8 0,.int .u8 0,.int .u8 0,.int .u8 0,.int .u8 0,.int .u8 0,.int .u8 0,.int .u8 0,.int .u8 0,.int .u8 0,.int .u8 0,.int .u8 0,.int .u8 0,.int .u8 0,.int .u8 0,.int .u8 0,.int .u8 0,.int .u8 0,.int .u8 0,.int .u8 0,.int .u8 0,.int .u8 0,.int .u8 0,.int .u8 0,.int .u8 0,.int .u8 0,.int .u8 0,.int .u8 0,.int .u8 0,.int .u8 0,.int .u8 0,.int .u8 0,.int .u8 0,.int .u8 0,.int .u8 0,.int .u8 0,.int .u8 0,.int .u8 0,.int .u8 0,.int .u8 0,.int .u8 0],64,64⟩:TI):=by kernel_rfl
theorem Tm:aj Tryz.prog 167=some (⟨.func #[] #[9] false,[.nilFunc],1,8⟩:TI):=by kernel_rfl
theorem Tn:aj Tryz.prog 170=some (⟨.array 0 16,[],0,0⟩:TI):=by kernel_rfl
theorem To:aj Tryz.prog 171=some (⟨.struct (bq Tryz.prog 171),[],0,0⟩:TI):=by kernel_rfl
theorem Tp:aj Tryz.prog 172=some (⟨.struct (bq Tryz.prog 172),[],0,0⟩:TI):=by kernel_rfl
theorem Tq:aj Tryz.prog 173=some (⟨.int .u32,[.int .u32 0],1,4⟩:TI):=by kernel_rfl
theorem Tr:aj Tryz.prog 174=some (⟨.int .u8,[.int .u8 0],1,1⟩:TI):=by kernel_rfl
theorem Ts:aj Tryz.prog 175=some (⟨.int .u8,[.int .u8 0],1,1⟩:TI):=by kernel_rfl
theorem Tt:aj Tryz.prog 176=some (⟨.func #[182,182] #[4] false,[.nilFunc],1,8⟩:TI):=by kernel_rfl
theorem Tu:aj Tryz.prog 177=some (⟨.pointer 5,[.pointer none],1,8⟩:TI):=by kernel_rfl
theorem Tv:aj Tryz.prog 178=some (⟨.int .i32,[.int .i32 0],1,4⟩:TI):=by kernel_rfl
theorem Tw:aj Tryz.prog 179=some (⟨.int .i32,[.int .i32 0],1,4⟩:TI):=by kernel_rfl
theorem Tx:aj Tryz.prog 180=some (⟨.struct (bq Tryz.prog 180),[.int .u64 0,.int .u64 0,.int .u32 0,.int .u8 0,.int .u8 0,.int .u8 0,.int .u8 0,.nilFunc,.pointer none,.int .i32 0,.int .i32 0],11,48⟩:TI):=by kernel_rfl
theorem Tz:aj Tryz.prog 181=some (⟨.struct (bq Tryz.prog 181),[.int .u64 0,.int .u64 0,.int .u32 0,.int .u8 0,.int .u8 0,.int .u8 0,.int .u8 0,.nilFunc,.pointer none,.int .i32 0,.int .i32 0],11,48⟩:TI):=by kernel_rfl
theorem sz1:bZ (aj Tryz.prog) 1=some (1,false):=by kernel_rfl
theorem sz2:bZ (aj Tryz.prog) 2=some (1,false):=by kernel_rfl
theorem sz3:bZ (aj Tryz.prog) 3=some (1,false):=by kernel_rfl
theorem sz4:bZ (aj Tryz.prog) 4=some (1,false):=by kernel_rfl
theorem sz5:bZ (aj Tryz.prog) 5=some (1,false):=by kernel_rfl
theorem xq:bZ (aj Tryz.prog) 22=some (1,false):=by kernel_rfl
theorem ago:bZ (aj Tryz.prog) 23=some (2,true):=by kernel_rfl
theorem agp:bZ (aj Tryz.prog) 24=some (1,false):=by kernel_rfl
theorem uj:bZ (aj Tryz.prog) 25=some (1,false):=by kernel_rfl
theorem el25:eh (aj Tryz.prog) 25=some 2:=by kernel_rfl
theorem qL:bZ (aj Tryz.prog) 26=some (1,false):=by kernel_rfl
theorem el26:eh (aj Tryz.prog) 26=some 1:=by kernel_rfl
theorem abM:bZ (aj Tryz.prog) 28=some (8,true):=by kernel_rfl
theorem MI:fieldAt (aj Tryz.prog) 28 0=some (0,1,false):=by kernel_rfl
theorem Uw:fieldAt (aj Tryz.prog) 28 1=some (1,2,true):=by kernel_rfl
theorem abN:fieldAt (aj Tryz.prog) 28 2=some (3,1,false):=by kernel_rfl
theorem abO:fieldAt (aj Tryz.prog) 28 3=some (4,1,false):=by kernel_rfl
theorem MJ:fieldAt (aj Tryz.prog) 28 5=some (6,1,false):=by kernel_rfl
theorem Ux:fieldAt (aj Tryz.prog) 28 6=some (7,1,false):=by kernel_rfl
theorem kq:bZ (aj Tryz.prog) 30=some (1,false):=by kernel_rfl
theorem el30:eh (aj Tryz.prog) 30=some 1:=by kernel_rfl
theorem oh:bZ (aj Tryz.prog) 31=some (1,false):=by kernel_rfl
theorem el31:eh (aj Tryz.prog) 31=some 1:=by kernel_rfl
theorem ry:bZ (aj Tryz.prog) 33=some (5,true):=by kernel_rfl
theorem MK:fieldAt (aj Tryz.prog) 33 0=some (0,1,false):=by kernel_rfl
theorem ML:fieldAt (aj Tryz.prog) 33 1=some (1,1,false):=by kernel_rfl
theorem pS:fieldAt (aj Tryz.prog) 33 2=some (2,1,false):=by kernel_rfl
theorem Bx:fieldAt (aj Tryz.prog) 33 3=some (3,1,false):=by kernel_rfl
theorem rz:fieldAt (aj Tryz.prog) 33 4=some (4,1,false):=by kernel_rfl
theorem fG:bZ (aj Tryz.prog) 36=some (2,true):=by kernel_rfl
theorem lQ:fieldAt (aj Tryz.prog) 36 0=some (0,1,false):=by kernel_rfl
theorem jq:fieldAt (aj Tryz.prog) 36 1=some (1,1,false):=by kernel_rfl
theorem QF:bZ (aj Tryz.prog) 39=some (1,false):=by kernel_rfl
theorem el39:eh (aj Tryz.prog) 39=some 3:=by kernel_rfl
theorem vP:bZ (aj Tryz.prog) 44=some (6,true):=by kernel_rfl
theorem Uy:fieldAt (aj Tryz.prog) 44 0=some (0,1,false):=by kernel_rfl
theorem Uz:fieldAt (aj Tryz.prog) 44 1=some (1,1,false):=by kernel_rfl
theorem xt:fieldAt (aj Tryz.prog) 44 2=some (2,1,false):=by kernel_rfl
theorem Hi:fieldAt (aj Tryz.prog) 44 3=some (3,1,false):=by kernel_rfl
theorem abP:fieldAt (aj Tryz.prog) 44 4=some (4,1,false):=by kernel_rfl
theorem abQ:fieldAt (aj Tryz.prog) 44 5=some (5,1,false):=by kernel_rfl
theorem jr:bZ (aj Tryz.prog) 48=some (3,true):=by kernel_rfl
theorem Hj:fieldAt (aj Tryz.prog) 48 0=some (0,1,false):=by kernel_rfl
theorem lT:fieldAt (aj Tryz.prog) 48 1=some (1,1,false):=by kernel_rfl
theorem lU:fieldAt (aj Tryz.prog) 48 2=some (2,1,false):=by kernel_rfl
theorem qM:bZ (aj Tryz.prog) 58=some (2,true):=by kernel_rfl
theorem gT:fieldAt (aj Tryz.prog) 58 0=some (0,1,false):=by kernel_rfl
theorem ol:fieldAt (aj Tryz.prog) 58 1=some (1,1,false):=by kernel_rfl
theorem UA:bZ (aj Tryz.prog) 62=some (1,false):=by kernel_rfl
theorem abR:eh (aj Tryz.prog) 62=some 3:=by kernel_rfl
theorem UB:bZ (aj Tryz.prog) 67=some (1,false):=by kernel_rfl
theorem gp:bZ (aj Tryz.prog) 69=some (2,true):=by kernel_rfl
theorem QG:bZ (aj Tryz.prog) 71=some (3,true):=by kernel_rfl
theorem By:fieldAt (aj Tryz.prog) 71 0=some (0,2,true):=by kernel_rfl
theorem MM:fieldAt (aj Tryz.prog) 71 1=some (2,1,false):=by kernel_rfl
theorem aeN:bZ (aj Tryz.prog) 76=some (3,true):=by kernel_rfl
theorem QI:bZ (aj Tryz.prog) 82=some (1,false):=by kernel_rfl
theorem el117:eh (aj Tryz.prog) 117=some 3:=by kernel_rfl
theorem Yp:fieldAt (aj Tryz.prog) 119 1=some (1,1,false):=by kernel_rfl
theorem Yq:fieldAt (aj Tryz.prog) 119 2=some (2,1,false):=by kernel_rfl
theorem ua:Tryz.prog.follows .mixedOrders=true:=by kernel_rfl
theorem ub:HE Tryz.prog=true:=by kernel_rfl
def Jg:Ax:=(bu (bu (bu (bu (bu (bu (bu (bu (bu (bu (bu (bu (bu (bu (bu (bu (bu (bu (bu (bu (bu (bu (bu (bu (bu (bu (bu (λ_=>none) 98 tzF) 26 (qF 26)) 43 (qF 43)) 74 (qF 74)) 14 (qF 14)) 64 (qF 64)) 38 (qF 38)) 12 (qF 12)) 24 (qF 24)) 58 (qF 58)) 4 (qF 4)) 18 (qF 18)) 15 (qF 15)) 17 (qF 17)) 86 (qF 86)) 100 (qF 100)) 101 (qF 101)) 46 (qF 46)) 48 (qF 48)) 77 (qF 77)) 47 (qF 47)) 49 (qF 49)) 78 (qF 78)) 79 (qF 79)) 52 (qF 52)) 50 (qF 50)) 23 (qF 23))
theorem AC:Cb Tryz.prog Jg:=(az (az (az (az (az (az (az (az (az (az (az (az (az (az (az (az (az (az (az (az (az (az (az (az (az (az (az (xz _) aeJ) XR) XS) XU) XV) XW) XX) XY) XZ) Ya) abK) Yb) Yc) Yd) Ye) Ut) Uu) Yf) Yg) Yh) Yi) Yj) Yk) Yl) Ym) Yn) Yo)
def dk:List TD->Option (Kind×List TD):=λ_=>none
def yb:Ax:=(bu (bu (bu (bu (bu (bu (bu Jg 22 dk) 27 dk) 31 dk) 32 dk) 41 dk) 54 dk) 99 dk)
theorem oH:Cb Tryz.prog yb:=(az (az (az (az (az (az (az AC λvs kind rs h=>by simp [dk]at h) λvs kind rs h=>by simp [dk]at h) λvs kind rs h=>by simp [dk]at h) λvs kind rs h=>by simp [dk]at h) λvs kind rs h=>by simp [dk]at h) λvs kind rs h=>by simp [dk]at h) λvs kind rs h=>by simp [dk]at h)
def E0:Env:=wj Tryz.prog yb
theorem ZQ:E0.Ok:=pr ua ub oH
def E1:Env:=wj Tryz.prog yb
theorem bw:E1.Ok:=pr ua ub oH
theorem cS:E1.fn=bB Tryz.prog:=Vv _ _
theorem aeO(m:Nat){n1:Int}{out:Int}(h:TZ n1=some out):RunsP E1 (m+1) 98 [.one (iT .u64 n1)] (.fresh,[.one (iT .i64 out)]):=by
 unfold TZ at h;split at h
 .rename_i hx;obtain rfl:=Option.some.inj h;exact fp (F:=tzF) rfl (by show tzF [.one (.v (.int .u64 n1))]=_;unfold tzF;simp only;exact if_pos hx)
 .simp at h
theorem aeP:E1.ax 22=some λ_=>none:=rfl
theorem agq:E1.ax 27=some λ_=>none:=rfl
theorem aeQ:E1.ax 31=some λ_=>none:=rfl
theorem agr:E1.ax 32=some λ_=>none:=rfl
theorem ags:E1.ax 99=some λ_=>none:=rfl
theorem ty1:E1.ti 1=some (⟨.func #[] #[] false,[.nilFunc],1,8⟩:TI):=tz1
theorem ty2:E1.ti 2=some (⟨.int .i64,[.int .i64 0],1,8⟩:TI):=tz2
theorem ty3:E1.ti 3=some (⟨.int .i64,[.int .i64 0],1,8⟩:TI):=tz3
theorem ty4:E1.ti 4=some (⟨.bool,[.bool false],1,1⟩:TI):=tz4
theorem ty5:E1.ti 5=some (⟨.int .u8,[.int .u8 0],1,1⟩:TI):=tz5
theorem aeR:E1.ti 22=some (⟨.int .i64,[.int .i64 0],1,8⟩:TI):=Xc
theorem agt:E1.ti 23=some (⟨.array 2 5,[.int .u8 0,.int .u8 0],2,2⟩:TI):=Xd
theorem pT:E1.ti 25=some (⟨.slice 58,[.slice none 0 0],1,24⟩:TI):=Xe
theorem DQ:E1.ti 26=some (⟨.slice 67,[.slice none 0 0],1,24⟩:TI):=Xf
theorem Yr:E1.ti 28=some (⟨.struct (bq Tryz.prog 28),[.int .i64 0,.int .u8 0,.int .u8 0,.slice none 0 0,.slice none 0 0,.slice none 0 0,.slice none 0 0,.bool false],8,120⟩:TI):=Xg
theorem sU:E1.ti 30=some (⟨.slice 3,[.slice none 0 0],1,24⟩:TI):=Xh
theorem QJ:E1.ti 31=some (⟨.slice 2,[.slice none 0 0],1,24⟩:TI):=Xi
theorem Hk:E1.ti 33=some (⟨.struct (bq Tryz.prog 33),[.int .i64 0,.int .i64 0,.slice none 0 0,.slice none 0 0,.slice none 0 0],5,88⟩:TI):=Xj
theorem lV:E1.ti 36=some (⟨.struct (bq Tryz.prog 36),[.int .i64 0,.slice none 0 0],2,32⟩:TI):=Xk
theorem rA:E1.ti 39=some (⟨.slice 76,[.slice none 0 0],1,24⟩:TI):=Xl
theorem Hl:E1.ti 44=some (⟨.struct (bq Tryz.prog 44),[.int .i64 0,.int .i64 0,.slice none 0 0,.slice none 0 0,.slice none 0 0,.slice none 0 0],6,112⟩:TI):=Xm
theorem zw:E1.ti 48=some (⟨.struct (bq Tryz.prog 48),[.int .i64 0,.slice none 0 0,.slice none 0 0],3,56⟩:TI):=Xn
theorem uk:E1.ti 58=some (⟨.struct (bq Tryz.prog 58),[.int .i64 0,.int .i64 0],2,16⟩:TI):=Xo
theorem QK:E1.ti 62=some (⟨.slice 71,[.slice none 0 0],1,24⟩:TI):=Xp
theorem abS:E1.ti 67=some (⟨.int .u64,[.int .u64 0],1,8⟩:TI):=Xq
theorem Bz:E1.ti 69=some (⟨.struct (bq Tryz.prog 69),[.int .i64 0,.int .u64 0],2,16⟩:TI):=Xr
theorem QL:E1.ti 71=some (⟨.struct (bq Tryz.prog 71),[.int .i64 0,.int .u64 0,.bool false],3,24⟩:TI):=Xu
theorem zx:E1.ti 76=some (⟨.struct (bq Tryz.prog 76),[.int .i64 0,.int .i64 0,.int .u64 0],3,24⟩:TI):=Xv
theorem aeS:E1.ti 82=some (⟨.func #[3] #[69,4] false,[.nilFunc],1,8⟩:TI):=Xw
theorem UC:E1.ti 117=some (⟨.slice 119,[.slice none 0 0],1,24⟩:TI):=Oy
theorem ZR:E1.ti 119=some (⟨.struct (bq Tryz.prog 119),[.int .i64 0,.int .i64 0,.int .i64 0],3,24⟩:TI):=Oz
end Ev
end
noncomputable section
namespace Ev
open Go
set_option maxRecDepth 100000
set_option maxHeartbeats 1000000
attribute [local irreducible] eO StL TnL WpL ew
def r3(x:Int):List T:= [iT .i64 x]
def r2(x:Int):List T:= [iT .i64 x]
def r32(x:Int×Int×Sl (Int)×Sl (Int)×Sl (Int)):List T:= [iT .i64 x.1,iT .i64 x.2.1,Sl.t r3 x.2.2.1,Sl.t r3 x.2.2.2.1,Sl.t r2 x.2.2.2.2]
def r92(x:Int×Int×Int):List T:= [iT .i64 x.1,iT .i64 x.2.1,iT .i64 x.2.2]
def r57(x:Int×Int):List T:= [iT .i64 x.1,iT .i64 x.2]
def r67(x:Int):List T:= [iT .u64 x]
def r27(x:Int×(Int×Int)×(Sl (Int×Int×Int))×(Sl (Int×Int))×(Sl (Int×Int))×Sl (Int)×Bool):List T:= [iT .i64 x.1,iT .u8 x.2.1.1,iT .u8 x.2.1.2,Sl.t r92 x.2.2.1,Sl.t r57 x.2.2.2.1,Sl.t r57 x.2.2.2.2.1,Sl.t r67 x.2.2.2.2.2.1,bT x.2.2.2.2.2.2]
def r35(x:Int×(Sl (Int×Int))):List T:= [iT .i64 x.1,Sl.t r57 x.2]
def om(x:Int×Int×Int):List T:= [iT .i64 x.1,iT .i64 x.2.1,iT .i64 x.2.2]
def r43(x:Int×Int×Sl (Int)×Sl (Int)×Sl (Int)×Sl (Int)):List T:= [iT .i64 x.1,iT .i64 x.2.1,Sl.t r3 x.2.2.1,Sl.t r3 x.2.2.2.1,Sl.t r3 x.2.2.2.2.1,Sl.t r2 x.2.2.2.2.2]
def r68(x:Int×Int):List T:= [iT .i64 x.1,iT .u64 x.2]
def r75(x:Int×(Int×Int)):List T:= [iT .i64 x.1,iT .i64 x.2.1,iT .u64 x.2.2]
def r70(x:(Int×Int)×Bool):List T:= [iT .i64 x.1.1,iT .u64 x.1.2,bT x.2]
def r47(x:Int×Sl (Int)×Sl (Int)):List T:= [iT .i64 x.1,Sl.t r67 x.2.1,Sl.t r2 x.2.2]
def r23(x:Int×Int):List T:= [iT .u8 x.1,iT .u8 x.2]
theorem QM(a:Int):am Tryz.prog (Go.convert 3 5 (.int .i64 a))=some (.int .u8 (IntKind.u8.wrap a)):=by kernel_rfl
theorem Ki(a:Int):am Tryz.prog (Go.convert 3 140 (.int .i64 a))=some (.int .u64 (IntKind.u64.wrap a)):=by kernel_rfl
theorem UD(a:Int):am Tryz.prog (Go.convert 5 3 (.int .u8 a))=some (.int .i64 (IntKind.i64.wrap a)):=by kernel_rfl
def iY(x0:Int×Int×Sl (Int)×Sl (Int)×Sl (Int)):Option (Int×Int×Sl (Int)×Sl (Int)×Sl (Int)):=K.iY (x0)
theorem MN(m:Nat){x0:Int×Int×Sl (Int)×Sl (Int)×Sl (Int)}{out:Int×Int×Sl (Int)×Sl (Int)×Sl (Int)}(h:iY x0=some out):RunsP E1 (m+1) 26 [.agg (r32 x0)] (.fresh,[.agg (r32 out)]):=fp (F:=qF 26) rfl (fy (K.Kf 45 (x0) out h))
def fg(x0:Int×Int×Sl (Int)×Sl (Int)×Sl (Int)×Sl (Int)):Option (Bool):=K.fg (x0)
theorem Hm(m:Nat){x0:Int×Int×Sl (Int)×Sl (Int)×Sl (Int)×Sl (Int)}{out:Bool}(h:fg x0=some out):RunsP E1 (m+1) 43 [.agg (r43 x0)] (.fresh,[.one (bT out)]):=fp (F:=qF 43) rfl (fy (K.DM 58 (x0) out h))
def fR(x0:Int×Int)(x1:Sl (Int×Int×Int)):Option (Int×Int×Sl (Int)×Sl (Int)×Sl (Int)):=K.fR (x0,x1)
theorem Hn(m:Nat){x0:Int×Int}{x1:Sl (Int×Int×Int)}{out:Int×Int×Sl (Int)×Sl (Int)×Sl (Int)}(h:fR x0 x1=some out):RunsP E1 (m+1) 14 [.agg (r23 x0),.one (Sl.t r92 x1)] (.fresh,[.agg (r32 out)]):=fp (F:=qF 14) rfl (fy (K.DF 45 (x0,x1) out h))
def cG(x0:Int)(x1:Sl (Int×Int×Int)):Option ((Sl (Int×Int×Int))×(Int)):=K.cG (x0,x1)
theorem zy(m:Nat){x0:Int}{x1:Sl (Int×Int×Int)}{out:(Sl (Int×Int×Int))×(Int)}(h:cG x0 x1=some out):RunsP E1 (m+1) 64 [.one (iT .i64 x0),.one (Sl.t om x1)] (.fresh,[.one (Sl.t om out.1),.one (iT .i64 out.2)]):=fp (F:=qF 64) rfl (fy (K.pc 57 (x0,x1) out h))
def FL:Option (Bool):=K.XK ()
theorem agu(m:Nat){out:Bool}(h:FL=some out):RunsP E1 (m+1) 12 [] (.fresh,[.one (bT out)]):=fp (F:=qF 12) rfl (fy (K.XL 59 () out h))
def gM(x0:Int)(x1:Int×Int)(x2:Int×Int):Option (Int×Int):=K.gM (x0,x1,x2)
theorem um(m:Nat){x0:Int}{x1:Int×Int}{x2:Int×Int}{out:Int×Int}(h:gM x0 x1 x2=some out):RunsP E1 (m+1) 24 [.one (iT .i64 x0),.agg (r68 x1),.agg (r68 x2)] (.fresh,[.agg (r68 out)]):=fp (F:=qF 24) rfl (fy (K.JZ 57 (x0,x1,x2) out h))
def eZ(x0:Int×Int×Sl (Int)×Sl (Int)×Sl (Int)):Option (Bool):=K.eZ (x0)
theorem Kj(m:Nat){x0:Int×Int×Sl (Int)×Sl (Int)×Sl (Int)}{out:Bool}(h:eZ x0=some out):RunsP E1 (m+1) 58 [.agg (r32 x0)] (.fresh,[.one (bT out)]):=fp (F:=qF 58) rfl (fy (K.vN 58 (x0) out h))
theorem bE{α β:Type}(o:Option (α×β)):(o.bind λx=>some (x.1,x.2))=o:=by cases o<;>rfl
end Ev
end
end Go.Proofs.YtjjbpdldbdmoeaaGreatDoor
