/- Texts of a claim, joined. -/
import Derived.Test.YtoamaaicfjkmhaaGreatZCU3
import Derived.IntWalk
set_option linter.unusedVariables false
set_option linter.unusedSimpArgs false
namespace Go.Proofs.YtoamaaicfjkmhaaGreat
noncomputable section
namespace Ev
open Go Go.RowKit
def aq(P:Program)(t:TypeId):Option TI:=
 match P.info? t,P.underlying t with
 |some i,some d=>match i.zero with
  |some z=>if z.cells.toList.all one1 && z.cells.toList.length==i.size && decide (i.bytes<=65536)then some {desc:=d,zero:=z.cells.toList,size:=i.size,bytes:=i.bytes}else none
  |none=>none
 |_,_=>none
def Lh(P:Program)(k:FuncId):Option FI:=
 match P.funcs[k]? with
 |some f=>match f.body with
  |some b=>some {nt:=f.ntmps,results:=f.results.toList,body:=b}
  |none=>none
 |none=>none
abbrev Ax:=FuncId->Option (List TD->Option (Kind×List TD))
def AZ(P:Program)(ax:Ax):Env:={P,ti:=aq P,fn:=Lh P,ax}
theorem Li(P:Program):dL P (aq P):=by
 have key:∀t i,aq P t=some i->∃(o:TypeInfo) (z:Value),P.info? t=some o/\P.underlying t=some i.desc/\o.zero=some z/\z.cells.toList=i.zero/\o.size=i.size/\o.bytes=i.bytes/\(∀x∈i.zero,x.oneCell'=true)/\i.zero.length=i.size/\i.bytes<=65536:=by
  intro t i h;unfold aq at h;split at h
  .rename_i o d h1 h2;split at h
   .rename_i z hz;split at h
    .rename_i hc;simp only [zsI]at h;subst h;simp only [Bool.and_eq_true,List.all_eq_true,beq_iff_eq,decide_eq_true_eq]at hc;exact⟨o,z,h1,h2,hz,rfl,rfl,rfl,λx hx=>by rw [<-xU];exact hc.1.1 x hx,hc.1.2,hc.2⟩
    .simp at h
   .simp at h
  .simp at h
 refine⟨λt i h=> ?_,λt i h=> ?_,λt i h=> ?_⟩
 .obtain⟨o,z,h1,h2,h3,h4,h5,h6,h7⟩:=key t i h;exact h2
 .obtain⟨o,z,h1,h2,h3,h4,h5,h6,h7⟩:=key t i h;exact⟨o,z,h1,h3,h4,h5,h6⟩
 .obtain⟨o,z,h1,h2,h3,h4,h5,h6,h7⟩:=key t i h;exact h7
structure Bc(P:Program)(ax:Ax):Prop where
 ok:∀k F vs kind rs,ax k=some F->F vs=some (kind,rs)->dP P k vs kind rs/\Enters P k
def Eo(P:Program):Bool:=P.funcs.toList.all λf=> !(f.name== "runtime.NumGoroutine")
theorem ud{P:Program}{ax:Ax}(hm:P.follows .mixedOrders=true)(hn:Eo P=true)(ha:Bc P ax):(AZ P ax).Ok:=by
 refine⟨Li P,hm,λk f h=> ?_,λk F vs kind rs h1 h2=>ha.ok k F vs kind rs h1 h2⟩;simp only [AZ,Lh]at h;split at h
 .rename_i fn hf;split at h
  .rename_i b hb;simp only [zsI]at h;subst h;refine⟨fn,hf,?_,hb,rfl,rfl⟩
   have:=List.all_eq_true.1 hn fn (by rw [Array.mem_toList_iff];exact Array.mem_of_getElem? hf)
   simpa using this
  .simp at h
 .simp at h
theorem wU(P:Program):Bc P λ_=>none:=⟨λk F vs kind rs h=>by simp at h⟩
def aF(ax:Ax)(k:FuncId)(F:List TD->Option (Kind×List TD)):Ax:=λj=>if j=k then some F else ax j
theorem aj{P:Program}{ax:Ax}(h:Bc P ax){k:FuncId}{F:List TD->Option (Kind×List TD)}(hF:∀vs kind rs,F vs=some (kind,rs)->dP P k vs kind rs/\Enters P k):Bc P (aF ax k F):=by
 refine⟨λj G vs kind rs h1 h2=> ?_⟩;unfold aF at h1;split at h1
 .rename_i hj;simp only [zsI]at h1;subst h1 hj;exact hF vs kind rs h2
 .exact h.ok j G vs kind rs h1 h2
section
variable {E : Env} {y : Nat → ea} {n : Nat}
def QA(E:Env)(y:Nat->ea)(n:Nat)(c:Code)(s:St)(e:Ex)(s':St):Prop:=∃M,∀m,M<=m->evC E (bQ E y m n).1 (bQ E y m n).2 m c s=some (e,s')
theorem gz(E:Env)(y:Nat->ea)(m n:Nat):(bQ E y m n).1=(cE E m n).1:=rfl
abbrev nY:Nat->ea:=λ_=>noY
def WpC(E:Env)(y:Nat->ea)(n:Nat)(c:Code)(Q:Ex->St->Prop)(s:St):Prop:=∃e s',QA E y n c s e s'/\Q e s'
def RunsP(E:Env)(n:Nat)(k:FuncId)(vs:List TD)(r:Kind×List TD):Prop:=∃M,∀m,M<=m->(cE E m n).1 k vs=some r
theorem WpC.mono{c:Code}{Q Q':Ex->St->Prop}{s:St}(h:WpC E y n c Q s)(hq:∀e s,Q e s->Q' e s):WpC E y n c Q' s:=let⟨e,s',h1,h2⟩:=h;⟨e,s',h1,hq _ _ h2⟩
theorem IK{Q:Ex->St->Prop}{s:St}(h:Q .normal s):WpC E y n .skip Q s:=⟨.normal,s,⟨0,λm _=>rfl⟩,h⟩
theorem Lj{Q:Ex->St->Prop}{s:St}(h:Q .ret s):WpC E y n .ret Q s:=⟨.ret,s,⟨0,λm _=>rfl⟩,h⟩
theorem IL{Q:Ex->St->Prop}{s:St}{id:Nat}(h:Q (.exit id) s):WpC E y n (.exit id) Q s:=⟨.exit id,s,⟨0,λm _=>rfl⟩,h⟩
theorem Gp{Q:Ex->St->Prop}{s:St}{l:Nat}(h:Q .normal s):WpC E y n (.label l) Q s:=⟨.normal,s,⟨0,λm _=>rfl⟩,h⟩
theorem Gq{c:Code}{Q:Ex->St->Prop}{s:St}(h:WpC E y n c Q s):WpC E y n (.scope c) Q s:=let⟨e,s',⟨M,h1⟩,h2⟩:=h;⟨e,s',⟨M,λm hm=>by simpa [evC]using h1 m hm⟩,h2⟩
def Mk(K:St->Prop)(Q:Ex->St->Prop):Ex->St->Prop
 | .normal,s=>K s
 |e,s=>Q e s
theorem Ep{a b:Code}{Q:Ex->St->Prop}{s:St}(h:WpC E y n a (Mk (WpC E y n b Q) Q) s):WpC E y n (.seq a b) Q s:=by
 obtain⟨e1,s1,⟨M1,h1⟩,h2⟩:=h
 cases e1 with
 |normal=>
  obtain⟨e2,s2,⟨M2,h3⟩,h4⟩:=h2;exact⟨e2,s2,⟨max M1 M2,λm hm=>by simp [evC,h1 m (by omega),h3 m (by omega)]⟩,h4⟩
 |exit id=>exact⟨_,s1,⟨M1,λm hm=>by simp [evC,h1 m hm]⟩,h2⟩
 |ret=>exact⟨_,s1,⟨M1,λm hm=>by simp [evC,h1 m hm]⟩,h2⟩
theorem IM{c:Operand}{a b:Code}{Q:Ex->St->Prop}{s:St}{t:Bool}{d:D}(h1:opnd s.t c=some d)(h2:asBool d=some t)(h:WpC E y n (if t then a else b) Q s):WpC E y n (.cond c a b) Q s:=by
 obtain⟨e,s',⟨M,h3⟩,h4⟩:=h;refine⟨e,s',⟨M,λm hm=> ?_⟩,h4⟩
 have:=h3 m hm
 cases t<;>simpa [evC,h1,h2]using this
theorem Gs{id:Nat}{c:Code}{Q:Ex->St->Prop}{s:St}(h:WpC E y n c (λe s=>Q (if e= .exit id then .normal else e) s) s):WpC E y n (.block id c) Q s:=by
 obtain⟨e,s',⟨M,h3⟩,h4⟩:=h;exact⟨_,s',⟨M,λm hm=>by simp [evC,h3 m hm]⟩,h4⟩
theorem yR{k:FuncId}{vs:List TD}{r r':Kind×List TD}(h:RunsP E n k vs r)(h':RunsP E n k vs r'):r=r':=by
 obtain⟨M,hM⟩:=h;obtain⟨M',hM'⟩:=h';have h1:=hM (max M M') (by omega);rw [hM' (max M M') (by omega)]at h1;exact(Option.some.inj h1).symm
open Classical in
def cpR(E:Env)(n:Nat):bJ:=λk vs=>if h:∃r,RunsP E n k vs r then some h.choose else none
theorem qt{k:FuncId}{vs:List TD}{r:Kind×List TD}(h:RunsP E n k vs r):cpR E n k vs=some r:=by
 have hx:∃r,RunsP E n k vs r:=⟨r,h⟩;unfold cpR;rw [dif_pos hx];exact congrArg some (yR hx.choose_spec h)
theorem IN{k:FuncId}{vs:List TD}{r:Kind×List TD}(h:cpR E n k vs=some r):RunsP E n k vs r:=by
 unfold cpR at h;split at h
 .rename_i hx;simp only [zsI]at h;rw [<-h];exact hx.choose_spec
 .simp at h
theorem Bd{k:FuncId}{vs:List TD}{r:Kind×List TD}{F:List TD->Option (Kind×List TD)}(h1:E.ax k=some F)(h2:F vs=some r):RunsP E (n+1) k vs r:=⟨0,λm _=>by simp only [cE,bQ,aP,h1];exact h2⟩
theorem ue{ops:Array Oper}{nid:Nat}{o:Oper}{g:Tmp->Option D}{H:am}{e:Eff}(hs:step E (cpR E n) ops nid o g H=some e):∃M,∀m,M<=m->step E (cE E m n).1 ops nid o g H=some e:=by
 unfold step at*;simp only [zbB,zbE]at hs ⊢;obtain⟨b,h1,h2⟩:=hs;split at h2
 .rename_i hb;split at h2
  .unfold gL at h2;simp only [zbB,zbE]at h2;obtain⟨x,h3,vs,h4,y,h5,h6⟩:=h2;obtain⟨M,hM⟩:=IN h5;refine⟨M,λm hm=>⟨b,h1,?_⟩⟩;rw [if_pos hb];unfold gL;simp only [zbB,zbE];exact⟨x,h3,vs,h4,y,hM m hm,h6⟩
  .exact⟨0,λm _=>⟨b,h1,by rw [if_pos hb];exact h2⟩⟩
 .rename_i hb;exact⟨0,λm _=>⟨b,h1,by rw [if_neg hb];exact h2⟩⟩
theorem qV{ops:Array Oper}:∀(b:Nat) (U M:Nat->List Nat) (l:List Oper) (i:Nat) (s s':St),bX E (cpR E n) ops b U M i l s=some s'->∃K,∀m,K<=m->bX E (cE E m n).1 ops b U M i l s=some s':=by
 intro b U M l
 induction l with
 |nil=>intro i s r hr;exact⟨0,λ_ _=>hr⟩
 |cons o l ih=>
  intro i s r hr;simp only [bX,zbB,zbE]at hr ⊢;obtain⟨e,g1,g2⟩:=hr;obtain⟨M1,hM1⟩:=ue g1;split at g2
  .rename_i hc;simp only [zbE]at g2 ⊢;obtain⟨s1,g3,g4⟩:=g2;obtain⟨M2,hM2⟩:=ih _ _ _ g4;refine⟨max M1 M2,λm hm=>⟨e,hM1 m (by omega),?_⟩⟩;rw [if_pos hc];simp only [zbE];exact⟨s1,g3,hM2 m (by omega)⟩
  .simp at g2
theorem CT{ops:Array Oper}{s s':St}(hs:gN E (cpR E n) ops s=some s'):∃M,∀m,M<=m->gN E (cE E m n).1 ops s=some s':=by
 have h1:∀(b:Nat) (l:List Oper) (i:Nat) (s:St) (r:List (List Nat)),jk E (cpR E n) ops b i l s=some r->∃M,∀m,M<=m->jk E (cE E m n).1 ops b i l s=some r:=by
  intro b l
  induction l with
  |nil=>intro i s r hr;exact⟨0,λ_ _=>hr⟩
  |cons o l ih=>
   intro i s r hr;simp only [jk,zbB,zbE]at hr ⊢;obtain⟨e,g1,s1,g2,l1,g3,g4⟩:=hr;obtain⟨M1,hM1⟩:=ue g1;obtain⟨M2,hM2⟩:=ih _ _ _ g3;exact⟨max M1 M2,λm hm=>⟨e,hM1 m (by omega),s1,g2,l1,hM2 m (by omega),g4⟩⟩
 have h2:= @qV E n ops;unfold gN at hs;simp only [zbB,zbE]at hs;obtain⟨U0,g1,g2⟩:=hs;obtain⟨M1,hM1⟩:=h1 _ _ _ _ _ g1;split at g2
 .rename_i hc;obtain⟨M2,hM2⟩:=h2 _ _ _ _ _ _ _ g2;refine⟨max M1 M2,λm hm=> ?_⟩;unfold gN;simp only [zbB,zbE];refine⟨U0,hM1 m (by omega),?_⟩;rw [if_pos hc];exact hM2 m (by omega)
 .simp at g2
def bS{α:Type}(Q:α->Prop):Option α->Prop
 |some a=>Q a
 |none=>False
theorem IP{id:Nat}{ops:Array Oper}{Q:Ex->St->Prop}{s:St}(hc:jQ ops=none)(h:bS (Q .normal) (gN E (cpR E n) ops s)):WpC E y n (.region id ops true) Q s:=by
 cases hs:gN E (cpR E n) ops s with
 |none=>rw [hs]at h;exact h.elim
 |some s'=>
  rw [hs]at h;obtain⟨M,hM⟩:=CT hs;exact⟨.normal,s',⟨M,λm hm=>by simp only [evC,if_true,hc];rw [gz,hM m hm];rfl⟩,h⟩
def CU(E:Env)(rv:List ResultVar)(r:Kind×List TD):Ex->St->Prop
 | .exit _,_=>False
 |_,s=>bS (λl:Kind×List TD=>l=r) ((rv.mapM (ce E s)).bind λrs=>(rs.mapM (cu s.h)).map λl=>(if dG s.h rs then .own else if l.all (·.1)then .fresh else .any,l.map (·.2)))
theorem IQ{rv:List ResultVar}{r:Kind×List TD}{e:Ex}{s:St}(h:CU E rv r e s):(e= .normal∨e= .ret)/\∃rs l,rv.mapM (ce E s)=some rs/\rs.mapM (cu s.h)=some l/\(if dG s.h rs then Kind.own else if l.all (·.1)then .fresh else .any,l.map (·.2))=r:=by
 have key:bS (λl:Kind×List TD=>l=r) ((rv.mapM (ce E s)).bind λrs=>(rs.mapM (cu s.h)).map λl=>(if dG s.h rs then .own else if l.all (·.1)then .fresh else .any,l.map (·.2)))->∃rs l,rv.mapM (ce E s)=some rs/\rs.mapM (cu s.h)=some l/\(if dG s.h rs then Kind.own else if l.all (·.1)then .fresh else .any,l.map (·.2))=r:=by
  intro h
  cases h1:rv.mapM (ce E s)with
  |none=>rw [h1]at h;exact h.elim
  |some rs=>
   rw [h1]at h;simp only [zbS]at h
   cases h2:rs.mapM (cu s.h)with
   |none=>rw [h2]at h;exact h.elim
   |some l=>rw [h2]at h;exact⟨rs,l,rfl,h2,h⟩
 cases e with
 |normal=>exact⟨.inl rfl,key h⟩
 |ret=>exact⟨.inr rfl,key h⟩
 |exit id=>exact h.elim
theorem Lk{k:FuncId}{f:FI}{vs:List TD}{r:Kind×List TD}(ha:E.ax k=none)(hf:E.fn k=some f)
  (h:WpC E nY n f.body (CU E f.results r) {t:=vs.map (cm false)++List.replicate (f.nt - vs.length) bI,h:= []}):RunsP E (n+1) k vs r:=by
 obtain⟨e,s',⟨M,h1⟩,h2⟩:=h;obtain⟨h2,rs,l,h3,h4,h5⟩:=IQ h2;refine⟨M,λm hm=> ?_⟩
 have:=h1 m hm
 simp only [cE,bQ]at this;simp only [cE,bQ,aP,ha,hf,zbB,zbS,xR,xQ,List.length_map];rw [this];rcases h2 with rfl|rfl<;>simp [h3,h4,<-h5]
theorem RunsP.pure(hO:E.Ok){k:FuncId}{vs:List TD}{kind:Kind}{rs:List TD}(h:RunsP E n k vs (kind,rs)):dP E.P k vs kind rs:=let⟨M,hM⟩:=h;Mj hO (hM M (Nat.le_refl _))
end
end Ev
end
noncomputable section
namespace Ev
open Go Go.RowKit
def cq(P:Program)(t:TypeId):Array Field:=
 match P.underlying t with
 |some (.struct fs)=>fs
 |_=> #[]
def fld(P:Program)(t:TypeId)(i:Nat):Field:=(cq P t).toList.getD i default
section
variable (P : Program) (t : TypeId) (x y : Operand) (k : IntKind) (a b : Int)
theorem QB:ao P (do eqGuard .add t x y (.int k a) (.int k b);binOp .add t (.int k a) (.int k b))=some (.int k (k.wrap (a+b))):=by cases k<;>rfl
theorem QC:ao P (do eqGuard .sub t x y (.int k a) (.int k b);binOp .sub t (.int k a) (.int k b))=some (.int k (k.wrap (a - b))):=by cases k<;>rfl
theorem QD:ao P (do eqGuard .mul t x y (.int k a) (.int k b);binOp .mul t (.int k a) (.int k b))=some (.int k (k.wrap (a*b))):=by cases k<;>rfl
theorem QE(h:b≠0):ao P (do eqGuard .quo t x y (.int k a) (.int k b);binOp .quo t (.int k a) (.int k b))=some (.int k (k.wrap (a.tdiv b))):=by
 have:(do eqGuard .quo t x y (.int k a) (.int k b);binOp .quo t (.int k a) (.int k b))=(pure (.int k (k.wrap (a.tdiv b))):Sem Value):=by
  rw [eqGuard_at_int];show binOp .quo t (.int k a) (.int k b)=_;simp [binOp,Op.intDiv,h]
 rw [this];rfl
theorem QF(h:b≠0):ao P (do eqGuard .rem t x y (.int k a) (.int k b);binOp .rem t (.int k a) (.int k b))=some (.int k (a.tmod b)):=by
 have:(do eqGuard .rem t x y (.int k a) (.int k b);binOp .rem t (.int k a) (.int k b))=(pure (.int k (a.tmod b)):Sem Value):=by
  rw [eqGuard_at_int];show binOp .rem t (.int k a) (.int k b)=_;simp [binOp,Op.intDiv,h]
 rw [this];rfl
theorem QG:ao P (do eqGuard .lss t x y (.int k a) (.int k b);binOp .lss t (.int k a) (.int k b))=some (.bool (decide (a<b))):=by cases k<;>rfl
theorem QH:ao P (do eqGuard .leq t x y (.int k a) (.int k b);binOp .leq t (.int k a) (.int k b))=some (.bool (decide (a<=b))):=by cases k<;>rfl
theorem QI:ao P (do eqGuard .gtr t x y (.int k a) (.int k b);binOp .gtr t (.int k a) (.int k b))=some (.bool (decide (b<a))):=by cases k<;>rfl
theorem QJ:ao P (do eqGuard .geq t x y (.int k a) (.int k b);binOp .geq t (.int k a) (.int k b))=some (.bool (decide (b<=a))):=by cases k<;>rfl
theorem QK:ao P (do eqGuard .eql t x y (.int k a) (.int k b);binOp .eql t (.int k a) (.int k b))=some (.bool (a==b)):=by cases k<;>rfl
theorem QL:ao P (do eqGuard .neq t x y (.int k a) (.int k b);binOp .neq t (.int k a) (.int k b))=some (.bool (a !=b)):=by cases k<;>rfl
end
theorem fD(fr:Bool)(k:IntKind)(n:Int)(h:0<=n):fc (.one (.p fr (.v (.int k n))))=some n.toNat:=by
 obtain⟨m,rfl⟩:=Int.eq_ofNat_of_zero_le h;rfl
theorem wrap64{n:Int}(h1: -9223372036854775808<=n)(h2:n<=9223372036854775807):IntKind.i64.wrap n=n:=by rw [IntKind.wrap_i64];omega
end Ev
end
noncomputable section
namespace Ev
open Go Go.RowKit
theorem uf(h:am)(k j:Nat)(b:Blk):ap (aA h k b) j=if j=k then(match b with| .own sz es=>some (sz,es)|_=>none)else ap h j:=by
 unfold aA;by_cases hk:k<h.length
 .rw [if_pos hk];unfold ap;rw [List.getElem?_set];by_cases hj:j=k
  .subst hj;rw [if_pos rfl,if_pos rfl,if_pos hk];cases b<;>rfl
  .rw [if_neg (λe=>hj e.symm),if_neg hj]
 .rw [if_neg hk];unfold ap;by_cases hj:j=k
  .subst hj;rw [if_pos rfl,List.getElem?_append_right (by simp;omega)];simp only [List.length_append,List.length_replicate];rw [show j - (h.length+(j - h.length))=0 from by omega];cases b<;>rfl
  .rw [if_neg hj];by_cases h1:j<h.length
   .rw [List.append_assoc,List.getElem?_append_left h1]
   .rw [List.getElem?_eq_none (show h.length<=j by omega)];by_cases h2:j<k
    .rw [List.getElem?_append_left (by simp;omega),List.getElem?_append_right (by omega),List.getElem?_replicate];split
     .rename_i hx;split at hx<;>simp at hx
     .rfl
    .rw [List.getElem?_eq_none (by simp;omega)]
theorem nm(h:am)(n j:Nat):ap (h++List.replicate n .no) j=ap h j:=by
 unfold ap;by_cases h1:j<h.length
 .rw [List.getElem?_append_left h1]
 .rw [List.getElem?_eq_none (show h.length<=j by omega),List.getElem?_append_right (by omega),List.getElem?_replicate];split
  .rename_i hx;split at hx<;>simp at hx
  .rfl
theorem Bf(h:am)(l:List Nat)(j:Nat):ap (mask h l) j=if j∈l then none else ap h j:=by
 unfold ap;rw [ky];by_cases hj:j∈l
 .rw [if_pos hj];by_cases hl:j<h.length
  .rw [if_pos ⟨hj,hl⟩]
  .rw [if_neg (λhh=>hl hh.2),List.getElem?_eq_none (by omega)]
 .rw [if_neg hj,if_neg (λhh=>hj hh.1)]
theorem Ll(h:am)(k:Nat)(b:Blk):(aA h k b).length=max h.length (k+1):=by
 unfold aA;split
 .rw [List.length_set];omega
 .simp;omega
theorem CV{h:am}{k:Nat}(b:Blk)(hk:k<h.length):(aA h k b).length=h.length:=by rw [Ll];omega
theorem Gt{h:am}{k:Nat}{x:Nat×List (List C)}(hk:ap h k=some x):k<h.length:=by
 unfold ap at hk;by_cases hl:k<h.length
 .exact hl
 .rw [List.getElem?_eq_none (by omega)]at hk;simp at hk
abbrev bef(ops:Array Oper):Nat->Nat:=λi=>(Region.before ops).toList.getD i 0
def eF(ops:Array Oper):List (List Nat):=(List.range ops.size).map λi=>(List.range ops.size).filter (bn (bef ops) i)
def jx(ops:Array Oper):Bool:=gM ops 0 (bef ops) λ_=> []
def dI(ops:Array Oper):Bool:=jx ops &&(jQ ops).isNone
theorem wV{ops:Array Oper}(h:dI ops=true):jx ops=true/\jQ ops=none:=by
 unfold dI at h;simpa using h
def bj(b:Nat)(O:List (List Nat))(N:List (Bool×List Nat))(i:Nat):List Nat:=O.getD i []++((N.getD i (false,[])).2.map (b+·)++if(N.getD i (false,[])).1 then [b+i]else [])
def jI(ops:Array Oper)(N:List (Bool×List Nat)):Bool:=(List.range ops.size).all λi=>(N.getD i (false,[])).2.all (λj=>(bef ops i).testBit j)&&(List.range ops.size).all λk=> !bn (bef ops) i k||iN (N.getD i (false,[])).2 (N.getD k (false,[])).2
theorem oN{α β:Type}{f g:α->List β}:∀{l:List α},(∀x∈l,f x=g x)->l.flatMap f=l.flatMap g
 | [],_=>rfl
 |x::l,h=>by rw [List.flatMap_cons,List.flatMap_cons,h x List.mem_cons_self,oN λy hy=>h y (List.mem_cons_of_mem _ hy)]
section
variable {E : Env} {cp : bJ} {ops : Array Oper} {b : Nat}
theorem ug{U M:Nat->List Nat}:∀(l:List Oper) (i:Nat) (s s':St),bX E cp ops b U M i l s=some s'->jk E cp ops b i l s=some ((List.range' i l.length).map U)
 | [],i,s,s',h=>rfl
 |o::l,i,s,s',h=>by
  simp only [bX,zbB,zbE]at h;obtain⟨e,h1,h2⟩:=h;split at h2
  .rename_i hc;simp only [zbE]at h2;obtain⟨s1,h3,h4⟩:=h2;simp only [jk,zbB,zbE];refine⟨e,qr (yQ _ _) h1,s1,h3,_,ug l (i+1) s1 s' h4,?_⟩;simp [List.range'_succ,hc.1]
  .simp at h2
theorem mC{U M U' M':Nat->List Nat}:∀(l:List Oper) (i:Nat) (s:St),(∀j,i<=j->j<i+l.length->U j=U' j/\M j=M' j)->bX E cp ops b U M i l s=bX E cp ops b U' M' i l s
 | [],i,s,h=>rfl
 |o::l,i,s,h=>by
  have h0:=h i (Nat.le_refl _) (by simp);simp only [bX,h0.1,h0.2,zbB];congr 1;funext e;split
  .congr 1;funext s1;exact mC l (i+1) s1 λj hj hl=>h j (by omega) (by simp;omega)
  .rfl
def DJ:List (List Nat)->List (List Nat)->List (List Nat)->Prop
 |o::os,r::rs,O=>(∀j∈r,∀x∈o,x ∉ O.getD j [])/\DJ os rs O
 |_,_,_=>True
theorem Ml:∀{os rs O:List (List Nat)},DJ os rs O->∀i j,j∈rs.getD i []->∀x∈os.getD i [],x ∉ O.getD j []
 | [],rs,O,h,i,j,hj,x,hx=>by simp at hx
 |o::os,[],O,h,i,j,hj,x,hx=>by simp at hj
 |o::os,r::rs,O,h,0,j,hj,x,hx=>h.1 j (by simpa using hj) x (by simpa using hx)
 |o::os,r::rs,O,h,i+1,j,hj,x,hx=>Ml h.2 i j (by simpa using hj) x (by simpa using hx)
theorem Gu{O:List (List Nat)}{N:List (Bool×List Nat)}(hq:dI ops=true)(hn:jI ops N=true)(hO:∀i j,i<ops.size->j<ops.size->bn (bef ops) i j=true->∀x∈O.getD i [],x ∉ O.getD j [])(hb:∀l∈O,∀k∈l,k<b){U:Nat->List Nat}(hU:∀i,i<ops.size->U i=bj b O N i):gM ops b (bef ops) U=true:=by
 replace hq:=(wV hq).1;unfold jx gM at hq;unfold gM;simp only [Bool.and_eq_true,List.all_eq_true]at hq ⊢;refine⟨hq.1,λx hx y hy=> ?_⟩;have q:=hq.2 x hx y hy
 have lt:∀z∈ops.toList.zipIdx,z.2<ops.size:=λz hz=>by
  have:=List.mk_mem_zipIdx_iff_getElem?.1 (show(z.1,z.2)∈ops.toList.zipIdx from hz)
  have:=(List.getElem?_eq_some_iff.1 this).1
  simpa using this
 have hold:∀i x,x∈O.getD i []->x<b:=λi x hx=>by
  rw [List.getD_eq_getElem?_getD]at hx
  cases hi:O[i]? with
  |none=>rw [hi]at hx;simp at hx
  |some l=>rw [hi]at hx;exact hb l (List.mem_of_getElem? hi) x (by simpa using hx)
 have hmem:∀i x,i<ops.size->x∈U i->x∈O.getD i []∨(∃j∈(N.getD i (false,[])).2,x=b+j)∨x=b+i:=λi x hi hx=>by
  rw [hU i hi]at hx;unfold bj at hx;rcases List.mem_append.1 hx with h|h
  .exact .inl h
  .rcases List.mem_append.1 h with h|h
   .obtain⟨j,h1,h2⟩:=List.mem_map.1 h;exact .inr (.inl ⟨j,h1,h2.symm⟩)
   .split at h
    .exact .inr (.inr (by simpa using h))
    .simp at h
 have hN1:∀i j,i<ops.size->j∈(N.getD i (false,[])).2->(bef ops i).testBit j=true:=λi j hi hj=>by
  unfold jI at hn
  have:=List.all_eq_true.1 hn i (by simpa using hi)
  rw [Bool.and_eq_true]at this;exact List.all_eq_true.1 this.1 j hj
 have hN2:∀i k j,i<ops.size->k<ops.size->bn (bef ops) i k=true->j∈(N.getD i (false,[])).2->j ∉(N.getD k (false,[])).2:=λi k j hi hk hu hj=>by
  unfold jI at hn
  have:=List.all_eq_true.1 hn i (by simpa using hi)
  rw [Bool.and_eq_true]at this;have h2:=List.all_eq_true.1 this.2 k (by simpa using hk);rw [hu]at h2;simp only [Bool.not_true,Bool.false_or]at h2;unfold iN at h2
  have:=List.all_eq_true.1 h2 j hj
  simpa using this
 refine⟨⟨q.1.1,?_⟩,?_⟩
 .by_cases he:x.2=y.2
  .simp [he]
  .simp only [Bool.or_eq_true,Bool.not_eq_true',List.contains_eq_mem,decide_eq_false_iff_not];by_cases ht:(bef ops x.2).testBit y.2=true
   .exact .inl (.inr ht)
   refine .inr λhh=> ?_;rcases hmem _ _ (lt x hx) hh with h|⟨j,h1,h2⟩|h
   .have:=hold _ _ h;omega
   .have:j=y.2:=by omega
    subst this;exact ht (hN1 _ _ (lt x hx) h1)
   .omega
 .by_cases hu:bn (bef ops) x.2 y.2=true
  .have hu':=hu;unfold bn at hu';simp only [Bool.and_eq_true,bne_iff_ne,ne_eq,Bool.not_eq_true']at hu';obtain⟨⟨hne,hu1⟩,hu2⟩:=hu';have q2:=q.2;simp only [Bool.or_eq_true,Bool.not_eq_true',Bool.and_eq_true]at q2 ⊢;refine .inr ⟨(q2.resolve_left (by rw [hu];simp)).1,?_⟩;unfold iN;rw [List.all_eq_true];intro z hz;simp only [Bool.not_eq_true',List.contains_eq_mem,decide_eq_false_iff_not];intro hz2;rcases hmem _ _ (lt x hx) hz with h|⟨j,h1,h2⟩|h
   .rcases hmem _ _ (lt y hy) hz2 with g|⟨k,g1,g2⟩|g
    .exact hO _ _ (lt x hx) (lt y hy) hu z h g
    .have:=hold _ _ h;omega
    .have:=hold _ _ h;omega
   .rcases hmem _ _ (lt y hy) hz2 with g|⟨k,g1,g2⟩|g
    .have:=hold _ _ g;omega
    .have:j=k:=by omega
     subst this;exact hN2 _ _ _ (lt x hx) (lt y hy) hu h1 g1
    .have:j=y.2:=by omega
     subst this
     have:=hN1 _ _ (lt x hx) h1
     rw [hu1]at this;simp at this
   .rcases hmem _ _ (lt y hy) hz2 with g|⟨k,g1,g2⟩|g
    .have:=hold _ _ g;omega
    .have:k=x.2:=by omega
     subst this
     have:=hN1 _ _ (lt y hy) g1
     rw [hu2]at this;simp at this
    .omega
  .have hu':bn (bef ops) x.2 y.2=false:=by simpa using hu
   rw [hu'];rfl
theorem Gv{O:List (List Nat)}{N:List (Bool×List Nat)}{R:List (List Nat)}{s s':St}(hq:dI ops=true)(hn:jI ops N=true)(hR:eF ops=R)(hO:DJ O R O)(hb:∀l∈O,∀k∈l,k<s.h.length)
  (h:bX E cp ops s.h.length (bj s.h.length O N) (λi=>(R.getD i []).flatMap (bj s.h.length O N)) 0 ops.toList {s with h:=s.h++List.replicate ops.size .no}=some s'):gN E cp ops s=some s':=by
 have h1:=ug _ _ _ _ h;unfold gN;simp only [zbB,zbE];refine⟨_,h1,?_⟩
 have hU:∀i,i<ops.size->((List.range' 0 ops.toList.length).map (bj s.h.length O N)).getD i []=bj s.h.length O N i:=λi hi=>by
  rw [List.getD_eq_getElem?_getD,List.getElem?_map,List.getElem?_range' (by simpa using hi)];simp
 have hO':∀i j,i<ops.size->j<ops.size->bn (bef ops) i j=true->∀x∈O.getD i [],x ∉ O.getD j []:=λi j hi hj hu=>by
  refine Ml hO i j ?_;rw [<-hR];unfold eF;rw [List.getD_eq_getElem?_getD,List.getElem?_map,List.getElem?_range hi];simp only [Option.map_some,Option.getD_some];rw [List.mem_filter];exact⟨by simpa using hj,hu⟩
 rw [if_pos (Gu hq hn hO' hb hU),<-h];refine mC _ _ _ λj _ hj=>⟨hU j (by simpa using hj),?_⟩;have hj':j<ops.size:=by simpa using hj
 subst hR;unfold eF;rw [List.getD_eq_getElem?_getD,List.getElem?_map,List.getElem?_range hj',List.getD_eq_getElem?_getD,List.getElem?_map,List.getElem?_range hj'];simp only [Option.map_some,Option.getD_some];refine oN λk hk=>hU k ?_
 have:=(List.mem_filter.1 hk).1
 simpa using this
end
section
variable {E : Env} {y : Nat → ea} {n : Nat}
theorem wW{id:Nat}{ops:Array Oper}{Q:Ex->St->Prop}{s:St}(O:List (List Nat))(N:List (Bool×List Nat))(R:List (List Nat))(hq:dI ops=true)(hn:jI ops N=true)(hR:eF ops=R)(hO:DJ O R O)(hb:∀l∈O,∀k∈l,k<s.h.length)
  (h:bS (Q .normal) (bX E (cpR E n) ops s.h.length (bj s.h.length O N) (λi=>(R.getD i []).flatMap (bj s.h.length O N)) 0 ops.toList {s with h:=s.h++List.replicate ops.size .no})):WpC E y n (.region id ops true) Q s:=by
 refine IP (wV hq).2 ?_
 cases hs:bX E (cpR E n) ops s.h.length (bj s.h.length O N) (λi=>(R.getD i []).flatMap (bj s.h.length O N)) 0 ops.toList {s with h:=s.h++List.replicate ops.size .no}with
 |none=>rw [hs]at h;exact h.elim
 |some s'=>rw [Gv hq hn hR hO hb hs];rw [hs]at h;exact h
def evQ(E:Env)(cp:bJ)(ops:Array Oper)(H:am)(b:Nat):Nat->List Oper->List D->Option (List D)
 |_,[],t=>some t
 |i,o::r,t=>do
  let e<-step E cp ops (b+i) o (only (dK ops o) t) H
  if e.upd.isEmpty then evQ E cp ops H b (i+1) r (<-jP t o.dst e.v)else none
theorem qu{cp:bJ}{ops:Array Oper}{H:am}{b:Nat}:∀(l:List Oper) (i:Nat) (t t':List D),evQ E cp ops H b i l t=some t'->bX E cp ops b (λ_=> []) (λ_=> []) i l {t,h:=H}=some {t:=t',h:=H}
 | [],i,t,t',h=>by simp only [evQ,zsI]at h;subst h;rfl
 |o::l,i,t,t',h=>by
  simp only [evQ,zbB,zbE]at h;obtain⟨e,h1,h2⟩:=h;split at h2
  .rename_i hc;have hu:e.upd= []:=by simpa using hc
   simp only [zbE]at h2;obtain⟨t1,h3,h4⟩:=h2;simp only [bX,zbB,zbE];refine⟨e,h1,?_⟩;rw [if_pos (by simp [ids,hu])];simp only [zbE];exact⟨{t:=t1,h:=H},by simp [put,h3,hu,Ev.apply],qu l (i+1) t1 t' h4⟩
  .simp at h2
theorem Gw{id:Nat}{ops:Array Oper}{Q:Ex->St->Prop}{s:St}(hq:dI ops=true)(h:bS (λt=>Q .normal {t,h:=s.h++List.replicate ops.size .no}) (evQ E (cpR E n) ops (s.h++List.replicate ops.size .no) s.h.length 0 ops.toList s.t)):WpC E y n (.region id ops true) Q s:=by
 cases hs:evQ E (cpR E n) ops (s.h++List.replicate ops.size .no) s.h.length 0 ops.toList s.t with
 |none=>rw [hs]at h;exact h.elim
 |some t'=>
  rw [hs]at h;refine wW [] [] (eF ops) hq (by unfold jI;simp [iN]) rfl trivial (by simp) ?_;have e1:(bj s.h.length [] [])=λ_=> []:=by funext i;simp [bj]
  have e2:(λi=>((eF ops).getD i []).flatMap (bj s.h.length [] []))=λ_=> []:=by funext i;rw [e1];simp
  rw [e2,e1]
  have:=qu _ _ _ _ hs
  rw [this];exact h
end
end Ev
end
noncomputable section
namespace Ev
open Go Go.RowKit
def tab(n:Nat)(f:Nat->D):List D:=(List.range n).map f
def upd(f:Nat->D)(d:Nat)(v:D):Nat->D:=λi=>if i=d then v else f i
theorem OU(f:Nat->D)(d:Nat)(v:D)(i:Nat):upd f d v i=if i=d then v else f i:=rfl
theorem oO(n:Nat)(f:Nat->D):(tab n f).length=n:=by simp [tab]
theorem io(n:Nat)(f:Nat->D)(i:Nat):(tab n f)[i]? =if i<n then some (f i)else none:=by
 unfold tab;rw [List.getElem?_map];by_cases h:i<n
 .rw [List.getElem?_range h,if_pos h];rfl
 .rw [List.getElem?_eq_none (by simpa using h),if_neg h];rfl
theorem sg(n:Nat)(f:Nat->D)(d:Nat)(v:D):(tab n f).set d v=tab n (upd f d v):=by
 refine List.ext_getElem? λi=> ?_;rw [List.getElem?_set,io,io,oO,OU];by_cases h:d=i
 .subst h;by_cases hn:d<n
  .rw [if_pos rfl,if_pos hn,if_pos hn,if_pos rfl]
  .rw [if_pos rfl,if_neg hn,if_neg hn]
 .rw [if_neg h,if_neg (λe:i=d=>h e.symm)]
theorem IR(t:List D):t=tab t.length λi=>t.getD i bI:=by
 refine List.ext_getElem? λi=> ?_;rw [io,List.getD_eq_getElem?_getD];by_cases h:i<t.length
 .rw [if_pos h,List.getElem?_eq_getElem h];rfl
 .rw [if_neg h,List.getElem?_eq_none (by omega)]
section
variable {E : Env} {y : Nat → ea} {n : Nat}
theorem Bg{k:FuncId}{f:FI}{vs:List TD}{r:Kind×List TD}(ha:E.ax k=none)(hf:E.fn k=some f)(hl:vs.length<=f.nt)
  (h:WpC E nY n f.body (CU E f.results r) {t:=tab f.nt λi=>(vs.map (cm false)).getD i bI,h:= []}):RunsP E (n+1) k vs r:=by
 refine Lk ha hf ?_
 have e:vs.map (cm false)++List.replicate (f.nt - vs.length) bI=tab f.nt λi=>(vs.map (cm false)).getD i bI:=by
  rw [IR (vs.map (cm false)++List.replicate (f.nt - vs.length) bI)];have hlen:(vs.map (cm false)++List.replicate (f.nt - vs.length) bI).length=f.nt:=by simp;omega
  rw [hlen];unfold tab;congr 1;funext i;rw [List.getD_eq_getElem?_getD,List.getD_eq_getElem?_getD];by_cases hi:i<(vs.map (cm false)).length
  .rw [List.getElem?_append_left hi]
  .rw [List.getElem?_append_right (by omega),List.getElem?_replicate,List.getElem?_eq_none (show(vs.map (cm false)).length<=i by omega)];split<;>rfl
 rw [e];exact h
end
theorem fK{α β:Type}{f g:α->Option β}:∀{l:List α},(∀x∈l,f x=g x)->l.mapM f=l.mapM g
 | [],_=>rfl
 |x::l,h=>by rw [List.mapM_cons,List.mapM_cons,h x List.mem_cons_self,fK λy hy=>h y (List.mem_cons_of_mem _ hy)]
theorem IS{E:Env}{nid:Nat}{o:Oper}{ρ ρ':Operand->Option D}{H:am}(h:∀x∈o.op.operands.toList,ρ x=ρ' x):sem E nid o ρ H=sem E nid o ρ' H:=by
 unfold sem
 cases ho:o.op with
 |move x=>simp only [h x (by simp [ho,Op.operands])]
 |assign x=>simp only [h x (by simp [ho,Op.operands])]
 |pick c a b=>simp only [h c (by simp [ho,Op.operands]),h a (by simp [ho,Op.operands]),h b (by simp [ho,Op.operands])]
 |alloc e=>rfl
 |box e x=>simp only [h x (by simp [ho,Op.operands])]
 |build ty parts=>
  have:(parts.toList.mapM λ(i,x)=>(ρ x).map λd=>(i,d))=parts.toList.mapM λ(i,x)=>(ρ' x).map λd=>(i,d):=fK λx hx=>by
   show(ρ x.2).map _=(ρ' x.2).map _;rw [h x.2 (by simp [ho,Op.operands];exact⟨x.1,by simpa using hx⟩)]
  simp only [this]
 |buildSlice ty len parts=>
  have:(parts.toList.mapM λ(i,x)=>(ρ x).map λd=>(i,d))=parts.toList.mapM λ(i,x)=>(ρ' x).map λd=>(i,d):=fK λx hx=>by
   show(ρ x.2).map _=(ρ' x.2).map _;rw [h x.2 (by simp [ho,Op.operands];exact⟨x.1,by simpa using hx⟩)]
  simp only [this]
 |load ty a=>simp only [h a (by simp [ho,Op.operands])]
 |store ty a x=>simp only [h a (by simp [ho,Op.operands]),h x (by simp [ho,Op.operands])]
 |binOp op ty x y sh=>simp only [h x (by simp [ho,Op.operands]),h y (by simp [ho,Op.operands])]
 |unOp op ty x=>simp only [h x (by simp [ho,Op.operands])]
 |convert src dst x=>simp only [h x (by simp [ho,Op.operands])]
 |makeFunc fn first cap=>
  have h1:∀x∈first.toList,ρ x=ρ' x:=λx hx=>h x (by simp [ho,Op.operands];simp at hx;simp [hx]);have h2:∀x∈cap.toList,ρ x=ρ' x:=λx hx=>h x (by simp [ho,Op.operands];simp at hx;simp [hx]);have e1:=fK (g:=λx=>(ρ' x).bind λd=>match d with| .one c=>some c|_=>none) (λx hx=>congrArg (λy=>Option.bind y λd=>match d with| .one c=>some c|_=>none) (h1 x hx));have e2:=fK (g:=λx=>(ρ' x).bind λd=>match d with| .one c=>some c|_=>none) (λx hx=>congrArg (λy=>Option.bind y λd=>match d with| .one c=>some c|_=>none) (h2 x hx));have key:∀{a b a' b':Option (List C)},a=a'->b=b'->(a.bind λf=>b.bind λg=>some ({v:= .one (.clo fn f g)}:Eff))=a'.bind λf=>b'.bind λg=>some {v:= .one (.clo fn f g)}:=λh1 h2=>by rw [h1,h2]
  exact key e1 e2
 |makeSlice ty l c=>simp only [h l (by simp [ho,Op.operands]),h c (by simp [ho,Op.operands])]
 |slice ty x lo hi mx=>
  have h1:∀d,dz ρ hi d=dz ρ' hi d:=λd=>by cases hi with|none=>rfl|some y=>simp only [dz];rw [h y (by simp [ho,Op.operands])]
  have h2:∀d,dz ρ lo d=dz ρ' lo d:=λd=>by cases lo with|none=>rfl|some y=>simp only [dz];rw [h y (by simp [ho,Op.operands])]
  have h3:∀d,dz ρ mx d=dz ρ' mx d:=λd=>by cases mx with|none=>rfl|some y=>simp only [dz];rw [h y (by simp [ho,Op.operands])]
  simp only [h x (by simp [ho,Op.operands]),h1,h2,h3]
 |fieldAddr ty x f=>simp only [h x (by simp [ho,Op.operands])]
 |field ty x f=>simp only [h x (by simp [ho,Op.operands])]
 |indexAddr ty x ix=>simp only [h x (by simp [ho,Op.operands]),h ix (by simp [ho,Op.operands])]
 |index ty x ix=>simp only [h x (by simp [ho,Op.operands]),h ix (by simp [ho,Op.operands])]
 |extract tp ix=>simp only [h tp (by simp [ho,Op.operands])]
 |nilCheck x=>simp only [h x (by simp [ho,Op.operands])]
 |call c=>
  cases hc:c.callee with
  |builtin b=>
   have h1:c.args.toList.mapM ρ=c.args.toList.mapM ρ':=fK λx hx=>h x (by simp [ho,Op.operands,Call.operands,hc];simpa using hx);simp only [h1]
  |_=>simp only [hc]
 |_=>rfl
theorem wX{E:Env}{cp:bJ}{ops:Array Oper}{nid:Nat}{o:Oper}{t:List D}{H:am}:step E cp ops nid o (only (dK ops o) t) H=step E cp ops nid o (aK t) H:=by
 have hl:∀x∈o.op.operands.toList,aB (only (dK ops o) t) x=aB (aK t) x:=λx hx=>by
  cases x with
  |tmp i=>
   have:i∈dK ops o:=by
    unfold dK;rw [List.mem_append];exact .inl (List.mem_filterMap.2 ⟨.tmp i,hx,rfl⟩)
   simp [aB,only,this]
  |_=>rfl
 have hw:eb ops (only (dK ops o) t) o=eb ops (aK t) o:=by
  unfold eb
  cases hg:o.guard with
  |none=>rfl
  |some p=>
   obtain⟨j,want⟩:=p;simp only
   cases hj:ops[j]? with
   |none=>rfl
   |some g=>
    cases hd:g.dst with
    |none=>simp [hd]
    |some d=>
     have:d∈dK ops o:=by
      unfold dK;rw [List.mem_append];refine .inr ?_;simp only [hg,hj,zbS,hd];simp
     simp [hd,only,this]
 unfold step;rw [hw];congr 1;funext b;split
 .cases hc:be o.op with
  |none=>exact IS hl
  |some c=>
   have ho:o.op= .call c:=by
    unfold be at hc;split at hc
    .rename_i c' ho;split at hc
     .simp at hc
     .simp only [zsI]at hc;subst hc;exact ho
    .simp at hc
   have hr:cB c (aB (only (dK ops o) t))=cB c (aB (aK t)):=by
    unfold cB
    cases hcc:c.callee with
    |value f=>
     have h1:c.args.toList.mapM (aB (only (dK ops o) t))=c.args.toList.mapM (aB (aK t)):=fK λx hx=>hl x (by simp [ho,Op.operands,Call.operands,hcc];simp at hx;simp [hx]);simp only [h1,hl f (by simp [ho,Op.operands,Call.operands,hcc])]
    |_=>rfl
   have hp:gL cp nid c (only (dK ops o) t) H=gL cp nid c (aK t) H:=by
    unfold gL;simp only [hr]
   exact hp
 .rfl
def evR(E:Env)(cp:bJ)(ops:Array Oper)(H:am)(b:Nat):Nat->List Oper->List D->Option (List D)
 |_,[],t=>some t
 |i,o::r,t=>do
  let e<-step E cp ops (b+i) o (aK t) H
  if e.upd.isEmpty then evR E cp ops H b (i+1) r (<-jP t o.dst e.v)else none
theorem CW{E:Env}{cp:bJ}{ops:Array Oper}{H:am}{b:Nat}:∀(l:List Oper) (i:Nat) (t:List D),evR E cp ops H b i l t=evQ E cp ops H b i l t
 | [],_,_=>rfl
 |o::l,i,t=>by
  simp only [evR,evQ,wX];congr 1;funext e;split
  .congr 1;funext t';exact CW l (i+1) t'
  .rfl
def evW(E:Env)(cp:bJ)(ops:Array Oper)(b:Nat)(U M:Nat->List Nat):Nat->List Oper->St->Option St
 |_,[],s=>some s
 |i,o::r,s=>do
  let e<-step E cp ops (b+i) o (aK s.t) (mask s.h (M i))
  if ids e=U i/\(U i).all (·<s.h.length)=true then evW E cp ops b U M (i+1) r (<-put o s e)else none
theorem IT{E:Env}{cp:bJ}{ops:Array Oper}{b:Nat}{U M:Nat->List Nat}:∀(l:List Oper) (i:Nat) (s:St),evW E cp ops b U M i l s=bX E cp ops b U M i l s
 | [],_,_=>rfl
 |o::l,i,s=>by
  simp only [evW,bX,wX];congr 1;funext e;split
  .congr 1;funext s1;exact IT l (i+1) s1
  .rfl
section
variable {E : Env} {y : Nat → ea} {n : Nat}
theorem Gx{id:Nat}{ops:Array Oper}{Q:Ex->St->Prop}{t:List D}{h:am}(hq:dI ops=true)(hh:∀h',h'.length=h.length+ops.size->(∀k,ap h' k=ap h k)->bS (λt=>Q .normal {t,h:=h'}) (evR E (cpR E n) ops h' h.length 0 ops.toList t)):WpC E y n (.region id ops true) Q {t,h}:=by
 refine Gw hq ?_;rw [<-CW];exact hh _ (by simp) λk=>nm _ _ _
theorem IU{id:Nat}{ops:Array Oper}{Q:Ex->St->Prop}{t:List D}{h:am}(O:List (List Nat))(N:List (Bool×List Nat))(R:List (List Nat))(hq:dI ops=true)(hn:jI ops N=true)(hR:eF ops=R)(hO:DJ O R O)(hb:∀l∈O,∀k∈l,k<h.length)
  (hh:∀h',h'.length=h.length+ops.size->(∀k,ap h' k=ap h k)->bS (Q .normal) (evW E (cpR E n) ops h.length (bj h.length O N) (λi=>(R.getD i []).flatMap (bj h.length O N)) 0 ops.toList {t,h:=h'})):WpC E y n (.region id ops true) Q {t,h}:=by
 refine wW O N R hq hn hR hO hb ?_;rw [<-IT];exact hh _ (by simp) λk=>nm _ _ _
end
end Ev
end
noncomputable section
namespace Ev
open Go Go.RowKit
def gOf(ops:Array Oper)(o:Oper):Option (Option (Tmp×Bool)):=
 match o.guard with
 |none=>some none
 |some (j,w)=>((ops.toList[j]?).bind λg=>g.dst).map λd=>some (d,w)
def wY(t:Tmp->Option D):Option (Tmp×Bool)->Option Bool
 |none=>some true
 |some (d,w)=>do
  match<-t d with
  | .one (.p _ (.v (.bool b)))=>some (b==w)
  | .tup []=>some false
  |_=>none
def rT(op:Op):Oper:={dst:=none,op,type:=0,pos:= "",after:=#[],guard:=none}
def stepG(E:Env)(cp:bJ)(g:Option (Tmp×Bool))(nid:Nat)(op:Op)(t:Tmp->Option D)(H:am):Option Eff:=do
 if<-wY t g then
  match be op with
  |some c=>gL cp nid c t H
  |none=>sem E nid (rT op) (aB t) H
 else some {v:=bI}
theorem jc{E:Env}{cp:bJ}{ops:Array Oper}{g:Option (Tmp×Bool)}{nid:Nat}{o:Oper}{t:Tmp->Option D}{H:am}(hg:gOf ops o=some g):step E cp ops nid o t H=stepG E cp g nid o.op t H:=by
 have hw:eb ops t o=wY t g:=by
  unfold gOf at hg;unfold eb
  cases ho:o.guard with
  |none=>rw [ho]at hg;simp only [zsI]at hg;subst hg;rfl
  |some p=>
   obtain⟨j,w⟩:=p;rw [ho]at hg;simp only [Option.map_eq_some_iff]at hg;obtain⟨d,h1,h2⟩:=hg;subst h2;rw [zbE]at h1;obtain⟨o',h3,h4⟩:=h1;have h3':ops[j]? =some o':=by simpa using h3
   simp only [h3',h4,zbB,zbS,wY];rfl
 unfold step stepG;rw [hw];rfl
theorem lP(H:am):Ev.apply H []=H:=rfl
section
variable {E : Env} {y : Nat → ea} {n : Nat} {cp : bJ} {cf : gu} {ops : Array Oper} {Q : St → Prop} {QT : List D → Prop} {o : Oper} {r : List Oper} {f : Nat → D} {H H' : am} {v : D} {u : List (Nat × Blk)} {d : Nat}
variable {g : Option (Tmp × Bool)}
variable {b i : Nat}
theorem Mm(hg:gOf ops o=some g)(hd:o.dst=some d)(hn:d<n)(hs:stepG E cp g (b+i) o.op (aK (tab n f)) H=some ⟨v,[]⟩)(h:bS QT (evR E cp ops H b (i+1) r (tab n (upd f d v)))):bS QT (evR E cp ops H b i (o::r) (tab n f)):=by
 rw [<-jc hg]at hs
 have:evR E cp ops H b i (o::r) (tab n f)=evR E cp ops H b (i+1) r (tab n (upd f d v)):=by
  simp only [evR,hs,hd,jP,oO,hn,if_true,sg,zbB,zbS,List.isEmpty_nil]
 rw [this];exact h
theorem IV(hg:gOf ops o=some g)(hd:o.dst=none)(hs:stepG E cp g (b+i) o.op (aK (tab n f)) H=some ⟨v,[]⟩)(h:bS QT (evR E cp ops H b (i+1) r (tab n f))):bS QT (evR E cp ops H b i (o::r) (tab n f)):=by
 rw [<-jc hg]at hs
 have:evR E cp ops H b i (o::r) (tab n f)=evR E cp ops H b (i+1) r (tab n f):=by
  simp only [evR,hs,hd,jP,if_true,zbB,zbS,List.isEmpty_nil]
 rw [this];exact h
variable {U M : Nat → List Nat}
theorem Mn(hg:gOf ops o=some g)(hd:o.dst=some d)(hn:d<n)(hs:stepG E cp g (b+i) o.op (aK (tab n f)) (mask H (M i))=some ⟨v,u⟩)(hi:u.map (·.1)=U i)(hl:(U i).all (·<H.length)=true)(hu:Ev.apply H u=H')(h:bS Q (evW E cp ops b U M (i+1) r {t:=tab n (upd f d v),h:=H'})):
  bS Q (evW E cp ops b U M i (o::r) {t:=tab n f,h:=H}):=by
 subst hu;rw [<-jc hg]at hs
 have:evW E cp ops b U M i (o::r) {t:=tab n f,h:=H}=evW E cp ops b U M (i+1) r {t:=tab n (upd f d v),h:=Ev.apply H u}:=by
  simp only [evW,hs,put,hd,jP,oO,hn,if_true,sg,zbB,zbS,ids,hi,hl,and_self]
 rw [this];exact h
theorem IW(hg:gOf ops o=some g)(hd:o.dst=none)(hs:stepG E cp g (b+i) o.op (aK (tab n f)) (mask H (M i))=some ⟨v,u⟩)(hi:u.map (·.1)=U i)(hl:(U i).all (·<H.length)=true)(hu:Ev.apply H u=H')(h:bS Q (evW E cp ops b U M (i+1) r {t:=tab n f,h:=H'})):
  bS Q (evW E cp ops b U M i (o::r) {t:=tab n f,h:=H}):=by
 subst hu;rw [<-jc hg]at hs
 have:evW E cp ops b U M i (o::r) {t:=tab n f,h:=H}=evW E cp ops b U M (i+1) r {t:=tab n f,h:=Ev.apply H u}:=by
  simp only [evW,hs,put,hd,jP,if_true,zbB,zbS,ids,hi,hl,and_self]
 rw [this];exact h
end
section
variable {E : Env} {y : Nat → ea} {n : Nat}
theorem CX{id:Nat}{l:List Oper}{Q:Ex->St->Prop}{t:List D}{h:am}(k:Nat)(hk:l.length=k)(hq:dI l.toArray=true)(hh:∀h',h'.length=h.length+k->(∀k,ap h' k=ap h k)->bS (λt=>Q .normal {t,h:=h'}) (evR E (cpR E n) l.toArray h' h.length 0 l t)):WpC E y n (.region id l.toArray true) Q {t,h}:=
 Gx hq λh' h1 h2=>by simpa using hh h' (by simpa [hk]using h1) h2
theorem Gy{id:Nat}{l:List Oper}{Q:Ex->St->Prop}{t:List D}{h:am}(k:Nat)(hk:l.length=k)(O:List (List Nat))(N:List (Bool×List Nat))(R:List (List Nat))(hq:dI l.toArray=true)(hn:jI l.toArray N=true)(hR:eF l.toArray=R)(hO:DJ O R O)(hb:∀l∈O,∀k∈l,k<h.length)
  (hh:∀h',h'.length=h.length+k->(∀k,ap h' k=ap h k)->bS (Q .normal) (evW E (cpR E n) l.toArray h.length (bj h.length O N) (λi=>(R.getD i []).flatMap (bj h.length O N)) 0 l {t,h:=h'})):WpC E y n (.region id l.toArray true) Q {t,h}:=
 IU O N R hq hn hR hO hb λh' h1 h2=>by simpa using hh h' (by simpa [hk]using h1) h2
end
end Ev
end
noncomputable section
namespace Ev
open Go Go.RowKit
def fieldAt(ti:TypeId->Option TI)(ty m:Nat):Option (Nat×Nat×Bool):=(ti ty).bind λt=>(fQ t m).bind λfd=>(ti fd.type).bind λft=>some (fd.offset,ft.size,aN ft.desc)
def iB(ti:TypeId->Option TI)(ty:Nat):Option (Nat×Bool):=(ti ty).bind λt=>some (t.size,aN t.desc)
def fE(ti:TypeId->Option TI)(ty:Nat):Option Nat:=(ti ty).bind λt=>(aR t).bind λe=>(ti e).bind λte=>some te.size
def Er:Option D->Option Eff
 |some d=>some ⟨d,[]⟩
 |none=>none
def CY:Option (Nat×Nat×Bool)->Option D->Option Eff
 |some (off,sz,_),some (.one (.ptr k i j))=>if sz=0 then none else some ⟨.one (.ptr k i (j+off)),[]⟩
 |some (off,sz,_),some (.one (.iptr fr s l i j))=>if sz=0 then none else some ⟨.one (.iptr fr s l i (j+off)),[]⟩
 |_,_=>none
def yS:Option D->Option Eff
 |some d=>some ⟨d,[]⟩
 |none=>none
def kOf(agg:Bool):Option (List C)->Option D
 |some cs=>cd agg cs
 |none=>none
def CZ(j n:Nat):Option (List C)->Option (List C)
 |some cs=>cut cs j n
 |none=>none
def OV(i:Nat):Option (Nat×List (List C))->Option (List C)
 |some (_,es)=>es[i]?
 |none=>none
def kIn(fr:Bool):Option (List T)->Option (List C)
 |some e=>some (e.map (pC fr))
 |none=>none
def fF(H:am):Option (Nat×Bool)->Option D->Option Eff
 |some (sz,agg),some (.one (.ptr k i j))=>yS (kOf agg (CZ j (if agg then sz else 1) (OV i (ap H k))))
 |some (sz,agg),some (.one (.iptr fr _ l i j))=>yS (kOf agg (CZ j (if agg then sz else 1) (kIn fr l[i]?)))
 |_,_=>none
def IX:Option D->Option D->Option D->Option Eff
 |some (.one (.p _ (.v (.bool true)))),a,_=>Er a
 |some (.one (.p _ (.v (.bool false)))),_,b=>Er b
 |_,_,_=>none
def qW(P:Program)(ti:TypeId->Option TI)(op:BinOp)(ty:TypeId)(x y:Operand)(a b:D):Option Eff:=
 match a,y with
 | .one (.p _ (.s nn _ _)),.const (.slice none 0 0)=>do
  let _<-aR (<-ti ty)
  match op with
  | .eql=>some {v:=mk (.bool (!nn))}
  | .neq=>some {v:=mk (.bool nn)}
  |_=>none
 | .one (.own ..),.const (.slice none 0 0)=>do
  let _<-aR (<-ti ty)
  match op with
  | .eql=>some {v:=mk (.bool false)}
  | .neq=>some {v:=mk (.bool true)}
  |_=>none
 |_,_=>do
  let va<-plain a
  let vb<-plain b
  mkO (<-ao P (do eqGuard op ty x y va vb;binOp op ty va vb))
def Lm(P:Program)(ti:TypeId->Option TI)(op:BinOp)(ty:TypeId)(x y:Operand):Option D->Option D->Option Eff
 |some a,some b=>qW P ti op ty x y a b
 |_,_=>none
def Vj(i:Nat)(fr:Bool)(sz:Nat)(l:List (List T)):Option Nat->Option Eff
 |some te=>if i<l.length/\sz=te then some ⟨.one (.iptr fr sz l i 0),[]⟩else none
 |none=>none
def Vk(i k off n:Nat):Option Nat->Option (Nat×List (List C))->Option Eff
 |some te,some (bz,_)=>if i<n/\bz=te then some ⟨.one (.ptr k (off+i) 0),[]⟩else none
 |_,_=>none
def Bh(ti:TypeId->Option TI)(ty:TypeId)(H:am)(i:Nat)(d:D):Option Eff:=do
 let t<-ti ty
 match d with
 | .one (.p fr (.s _ sz l))=>do
  let te<-ti (<-aR t)
  if i<l.length/\sz=te.size then some {v:= .one (.iptr fr sz l i 0)}else none
 | .one (.own k off n)=>do
  let te<-ti (<-aR t)
  let(bz,_)<-ap H k
  if i<n/\bz=te.size then some {v:= .one (.ptr k (off+i) 0)}else none
 | .one (.ptr k i' j)=>
  match t.desc with
  | .array n e=>do
   let te<-ti e
   if i<n then some {v:= .one (.ptr k i' (j+i*te.size))}else none
  |_=>none
 | .one (.iptr fr sz l i' j)=>
  match t.desc with
  | .array n e=>do
   let te<-ti e
   if i<n then some {v:= .one (.iptr fr sz l i' (j+i*te.size))}else none
  |_=>none
 |_=>none
def kIx(ti:TypeId->Option TI)(ty:TypeId)(H:am):Option D->Option Nat->Option Eff
 |some d,some i=>Bh ti ty H i d
 |_,_=>none
def Da(j:Nat)(cs:List C):Option (List C)->Option (List C)
 |some e=>patch e j cs
 |none=>none
def IY(k i bz:Nat)(es:List (List C)):Option (List C)->Option Eff
 |some e'=>some ⟨bI,[(k,.own bz (es.set i e'))]⟩
 |none=>none
def Ln(k i j sz:Nat):Option (List C)->Option (Nat×List (List C))->Option Eff
 |some cs,some (bz,es)=>if cs.length=sz then IY k i bz es (Da j cs es[i]?)else none
 |_,_=>none
def uh(H:am):Option (Nat×Bool)->Option D->Option D->Option Eff
 |some (sz,_),some (.one (.ptr k i j)),some x=>Ln k i j sz (eQ x) (ap H k)
 |_,_,_=>none
def QM:Option D->Option Nat
 |some d=>fc d
 |none=>none
section
variable {E : Env} {cp : bJ} {nid : Nat} {t : Tmp → Option D} {H : am}
theorem IZ{x:Operand}:stepG E cp none nid (.move x) t H=Er (aB t x):=by
 show(aB t x).bind (λd=>some (⟨d,[]⟩:Eff))=_;cases aB t x<;>rfl
theorem Ja{x:Operand}:stepG E cp none nid (.assign x) t H=Er (aB t x):=by
 show(aB t x).bind (λd=>some (⟨d,[]⟩:Eff))=_;cases aB t x<;>rfl
theorem Es{ty:TypeId}{x:Operand}{m:Nat}:stepG E cp none nid (.fieldAddr ty x m) t H=CY (fieldAt E.ti ty m) (aB t x):=by
 show((E.ti ty).bind λt'=>(fQ t' m).bind λfd=>(E.ti fd.type).bind λft=>if ft.size=0 then none else(aB t x).bind λd=>match d with
  | .one (.ptr k i j)=>some (⟨.one (.ptr k i (j+fd.offset)),[]⟩:Eff)
  | .one (.iptr fr sz l i j)=>some ⟨.one (.iptr fr sz l i (j+fd.offset)),[]⟩
  |_=>none)=_
 unfold fieldAt
 cases E.ti ty with
 |none=>rfl
 |some t'=>
  simp only [zbS]
  cases fQ t' m with
  |none=>rfl
  |some fd=>
   simp only [zbS]
   cases E.ti fd.type with
   |none=>rfl
   |some ft=>
    simp only [zbS]
    cases hx:aB t x with
    |none=>split<;>rfl
    |some d=>
     cases d with
     |one c=>cases c<;>simp only [CY,zbS]<;>split<;>rfl
     |_=>simp only [CY,zbS];split<;>rfl
theorem Jb{ty:TypeId}{x:Operand}:stepG E cp none nid (.load ty x) t H=fF H (iB E.ti ty) (aB t x):=by
 show((E.ti ty).bind λt'=>(aB t x).bind λd=>(load H (aN t'.desc) (if aN t'.desc then t'.size else 1) d).bind λv=>some (⟨v,[]⟩:Eff))=_;unfold iB
 cases E.ti ty with
 |none=>rfl
 |some t'=>
  simp only [zbS]
  cases aB t x with
  |none=>rfl
  |some d=>
   simp only [zbS]
   cases d with
   |one c=>
    cases c with
    |ptr k i j=>
     simp only [fF,load]
     cases ap H k with
     |none=>rfl
     |some p=>
      obtain⟨bz,es⟩:=p;simp only [zbB,zbS,OV]
      cases es[i]? with
      |none=>rfl
      |some e=>
       simp only [zbS,CZ];generalize cut e j _=z
       cases z with
       |none=>rfl
       |some cs=>simp only [zbS,kOf];cases cd _ cs<;>rfl
    |iptr fr sz l i j=>
     simp only [fF,load]
     cases l[i]? with
     |none=>rfl
     |some e=>
      simp only [zbB,zbS,kIn,CZ];generalize cut _ j _=z
      cases z with
      |none=>rfl
      |some cs=>simp only [zbS,kOf];cases cd _ cs<;>rfl
    |_=>rfl
   |_=>rfl
theorem Bi{op:BinOp}{ty sh:TypeId}{x y:Operand}:stepG E cp none nid (.binOp op ty x y sh) t H=Lm E.P E.ti op ty x y (aB t x) (aB t y):=by
 show((aB t x).bind λa=>(aB t y).bind λb=>qW E.P E.ti op ty x y a b)=_
 cases aB t x with
 |none=>rfl
 |some a=>
  cases aB t y with
  |none=>rfl
  |some b=>rfl
theorem OW{P:Program}{ti:TypeId->Option TI}{op:BinOp}{ty:TypeId}{x y:Operand}{fr fr':Bool}{k k':IntKind}{a b:Int}:
  qW P ti op ty x y (.one (.p fr (.v (.int k a)))) (.one (.p fr' (.v (.int k' b))))=(ao P (do eqGuard op ty x y (.int k a) (.int k' b);binOp op ty (.int k a) (.int k' b))).bind mkO:=rfl
theorem OX{c a b:Operand}:stepG E cp none nid (.pick c a b) t H=IX (aB t c) (aB t a) (aB t b):=by
 show((aB t c).bind λd=>(asBool d).bind λz=>if z then(aB t a).bind λv=>some (⟨v,[]⟩:Eff)else(aB t b).bind λv=>some ⟨v,[]⟩)=_
 cases aB t c with
 |none=>rfl
 |some d=>
  simp only [zbS]
  cases d with
  |one e=>
   cases e with
   |p fr z=>
    cases z with
    |v z=>
     cases z with
     |bool z=>
      cases z
      .simp only [asBool,zbS,IX,Bool.false_eq_true,if_false];cases aB t b<;>rfl
      .simp only [asBool,zbS,IX,if_true];cases aB t a<;>rfl
     |_=>rfl
    |_=>rfl
   |_=>rfl
  |_=>rfl
theorem sj{ty:TypeId}{x ix:Operand}:stepG E cp none nid (.indexAddr ty x ix) t H=kIx E.ti ty H (aB t x) (QM (aB t ix)):=by
 show((E.ti ty).bind λt'=>(aB t ix).bind λdi=>(fc di).bind λi=>(aB t x).bind λd=>_)=_
 cases h1:aB t x with
 |none=>
  simp only [Option.bind_none,kIx]
  cases E.ti ty with
  |none=>rfl
  |some t'=>
   cases aB t ix with
   |none=>rfl
   |some di=>simp only [zbS];cases fc di<;>rfl
 |some d=>
  cases h2:aB t ix with
  |none=>cases E.ti ty<;>rfl
  |some di=>
   simp only [QM,zbS]
   cases h3:fc di with
   |none=>cases E.ti ty<;>rfl
   |some i=>
    simp only [zbS,kIx,Bh];rfl
theorem Vm{ti:TypeId->Option TI}{ty:TypeId}{i:Nat}{fr nn:Bool}{sz:Nat}{l:List (List T)}:Bh ti ty H i (.one (.p fr (.s nn sz l)))=Vj i fr sz l (fE ti ty):=by
 show((ti ty).bind λt'=>(aR t').bind λe=>(ti e).bind λte=>if i<l.length/\sz=te.size then some (⟨.one (.iptr fr sz l i 0),[]⟩:Eff)else none)=_;unfold fE
 cases ti ty with
 |none=>rfl
 |some t'=>
  simp only [zbS]
  cases aR t' with
  |none=>rfl
  |some e=>
   simp only [zbS];cases ti e<;>rfl
theorem Vn{ti:TypeId->Option TI}{ty:TypeId}{i k off n:Nat}:Bh ti ty H i (.one (.own k off n))=Vk i k off n (fE ti ty) (ap H k):=by
 show((ti ty).bind λt'=>(aR t').bind λe=>(ti e).bind λte=>(ap H k).bind λp=>match p with|(bz,_)=>if i<n/\bz=te.size then some (⟨.one (.ptr k (off+i) 0),[]⟩:Eff)else none)=_;unfold fE
 cases ti ty with
 |none=>rfl
 |some t'=>
  simp only [zbS]
  cases aR t' with
  |none=>rfl
  |some e=>
   simp only [zbS]
   cases ti e with
   |none=>rfl
   |some te=>simp only [zbS];cases ap H k<;>rfl
theorem Lo{ty:TypeId}{a x:Operand}:stepG E cp none nid (.store ty a x) t H=uh H (iB E.ti ty) (aB t a) (aB t x):=by
 show((E.ti ty).bind λt'=>(aB t a).bind λd=>(aB t x).bind λv=>store H t'.size d v)=_;unfold iB
 cases E.ti ty with
 |none=>rfl
 |some t'=>
  simp only [zbS]
  cases aB t a with
  |none=>rfl
  |some d=>
   simp only [zbS]
   cases aB t x with
   |none=>cases d with|one c=>cases c<;>rfl|_=>rfl
   |some v=>
    simp only [zbS]
    cases d with
    |one c=>
     cases c with
     |ptr k i j=>
      simp only [uh,store]
      cases eQ v with
      |none=>rfl
      |some cs=>
       simp only [zbB,zbS]
       cases ap H k with
       |none=>simp only [Ln];split<;>rfl
       |some p=>
        obtain⟨bz,es⟩:=p;simp only [zbS,Ln];split
        .cases es[i]? with
         |none=>rfl
         |some e=>simp only [zbS,Da];cases patch e j cs<;>rfl
        .rfl
     |_=>rfl
    |_=>rfl
theorem np{c:Call}:stepG E cp none nid (.call c) t H=match be (.call c)with
  |some c=>gL cp nid c t H
  |none=>sem E nid (rT (.call c)) (aB t) H:=rfl
end
end Ev
end
noncomputable section
namespace Ev
open Go Go.RowKit
structure Sl(α:Type)where
 nn:Bool
 sz:Nat
 l:List α
def Sl.t{α:Type}(r:α->List T)(s:Sl α):T:= .s s.nn s.sz (s.l.map r)
def cQ{α:Type}(r:α->List T)(x:α):List C:=(r x).map (pC true)
abbrev iT(k:IntKind)(n:Int):T:= .v (.int k n)
abbrev bT(b:Bool):T:= .v (.bool b)
abbrev iC(k:IntKind)(n:Int):C:= .p true (.v (.int k n))
abbrev bC(b:Bool):C:= .p true (.v (.bool b))
abbrev iD(k:IntKind)(n:Int):D:= .one (iC k n)
abbrev bD(b:Bool):D:= .one (bC b)
def up(f:Nat->D)(d:Nat)(v:D):Nat->D:=λi=>cond (Nat.beq i d) v (f i)
theorem ui(f:Nat->D)(d:Nat)(v:D):upd f d v=up f d v:=by
 funext i;unfold upd up
 cases hb:Nat.beq i d with
 |true=>rw [if_pos (Nat.eq_of_beq_eq_true hb)];rfl
 |false=>rw [if_neg (Nat.ne_of_beq_eq_false hb)];rfl
abbrev B1:=Nat×Nat×List (List C)
abbrev BL:=List (List B1)
def HBf(h:am)(L:List B1):Prop:=(L.map (·.1)).Nodup/\∀x∈L,ap h x.1=some x.2
section
variable {h : am} {L : List B1} {p k sz : Nat} {es : List (List C)}
end
def HB(h:am)(L:BL):Prop:=HBf h L.flatten
section
variable {h : am} {L : BL} {p k sz : Nat} {es : List (List C)}
theorem Lp{s:List B1}(hp:L[p]? =some s){x:B1}(hx:x∈s):x∈L.flatten:=List.mem_flatten.2 ⟨s,List.mem_of_getElem? hp,hx⟩
theorem HB.get(hb:HB h L)(hp:L[p]? =some [(k,sz,es)]):ap h k=some (sz,es):=hb.2 (k,sz,es) (Lp hp (List.mem_singleton.2 rfl))
end
def ov(nt:Nat)(f:Nat->D):Operand->Option D
 | .tmp i=>cond (Nat.blt i nt) (some (f i)) none
 | .const v=>mN v
 | .global _=>none
 | .func k=>some (mk (.func (.func k) #[] #[]))
theorem bw(nt:Nat)(f:Nat->D)(x:Operand):aB (aK (tab nt f)) x=ov nt f x:=by
 cases x with
 |tmp i=>
  show(tab nt f)[i]? =cond (Nat.blt i nt) (some (f i)) none;rw [io]
  cases h2:Nat.blt i nt with
  |true=>rw [if_pos (by simpa using h2)];rfl
  |false=>rw [if_neg (λh=>by have:Nat.blt i nt=true:=(by simpa using h);rw [h2]at this;exact absurd this (by simp))];rfl
 |_=>rfl
theorem fL(nt:Nat)(f:Nat->D):aB (aK (tab nt f))=ov nt f:=funext (bw nt f)
def wb(w:Bool):Option D->Option Bool
 |some (.one (.p _ (.v (.bool b))))=>some (b==w)
 |some (.tup [])=>some false
 |_=>none
theorem QN(w:Bool)(z:Option D)(b:Bool)(h:wb w z=some b):(z.bind λd=>match d with
   | .one (.p _ (.v (.bool b)))=>some (b==w)
   | .tup []=>some false
   |_=>none)=some b:=by
 revert h
 cases z with
 |none=>exact λh=>by simp [wb]at h
 |some x=>
  cases x with
  |one c=>
   cases c with
   |p fr t=>cases t with
    |v z=>cases z<;>exact λh=>h
    |s _ _ _=>exact λh=>h
   |_=>exact λh=>h
  |agg _=>exact λh=>h
  |tup ds=>cases ds<;>exact λh=>h
def jd(ops:Array Oper)(o:Oper)(nt:Nat)(f:Nat->D):Option Bool:=
 match o.guard with
 |none=>some true
 |some (j,w)=>
  match(ops.toList[j]?).bind λg=>g.dst with
  |some d=>wb w (ov nt f (.tmp d))
  |none=>none
theorem kD{ops:Array Oper}{o:Oper}{nt:Nat}{f:Nat->D}{b:Bool}(h:jd ops o nt f=some b):∃g,gOf ops o=some g/\wY (aK (tab nt f)) g=some b:=by
 unfold jd at h;unfold gOf
 cases hg:o.guard with
 |none=>rw [hg]at h;simp only [zsI]at h;subst h;exact⟨none,rfl,rfl⟩
 |some q=>
  obtain⟨j,w⟩:=q;rw [hg]at h;simp only at h ⊢
  cases hd:(ops.toList[j]?).bind λg=>g.dst with
  |none=>rw [hd]at h;simp at h
  |some d=>
   rw [hd]at h;refine⟨some (d,w),by simp,?_⟩;have he:aK (tab nt f) d=ov nt f (.tmp d):=bw nt f (.tmp d)
   have:=QN w _ b h
   rw [<-he]at this;exact this
def PS(E:Env)(n nt:Nat)(f:Nat->D)(L:BL)(op:Op)(v:D):Prop:=∀(h:am) (nid:Nat),HB h L->stepG E (cpR E n) none nid op (aK (tab nt f)) h=some ⟨v,[]⟩
def PN(E:Env)(n nt:Nat)(f:Nat->D)(L:BL)(op:Op)(v:Nat->D)(sz:Nat)(es:List (List C)):Prop:=∀(h:am) (nid:Nat),HB h L->stepG E (cpR E n) none nid op (aK (tab nt f)) h=some ⟨v nid,[(nid,.own sz es)]⟩
def PW(E:Env)(n nt:Nat)(f:Nat->D)(L:BL)(op:Op)(v:D)(p k sz:Nat)(es:List (List C)):Prop:=(∃x,L[p]? =some [(k,x)])/\∀(h:am) (nid:Nat),HB h L->stepG E (cpR E n) none nid op (aK (tab nt f)) h=some ⟨v,[(k,.own sz es)]⟩
def iE(E:Env)(y:Nat->ea)(n:Nat)(ops:Array Oper)(l:List Oper)(K:St->Prop)(s:St):Prop:=∃s',(∃M,∀m,M<=m->qH E (bQ E y m n).1 (bQ E y m n).2 ops l s=some s')/\K s'
theorem Jc{E:Env}{y:Nat->ea}{n:Nat}{ops:Array Oper}{K:St->Prop}{s:St}(h:K s):iE E y n ops [] K s:=⟨s,⟨0,λ_ _=>rfl⟩,h⟩
theorem wZ{E:Env}{y:Nat->ea}{n:Nat}{ops:Array Oper}{o:Oper}{r:List Oper}{K:St->Prop}{s s1:St}(h1:∃M,∀m,M<=m->Fh E (bQ E y m n).1 (bQ E y m n).2 ops o s=some s1)(h2:iE E y n ops r K s1):iE E y n ops (o::r) K s:=by
 obtain⟨M1,h1⟩:=h1;obtain⟨s',⟨M2,h2⟩,h3⟩:=h2;exact⟨s',⟨max M1 M2,λm hm=>by simp only [qH,h1 m (by omega),zbB,zbS];exact h2 m (by omega)⟩,h3⟩
theorem xa{E:Env}{y:Nat->ea}{n:Nat}{ops:Array Oper}{o:Oper}{r:List Oper}{K:St->Prop}{s s1:St}{e:Eff}(hs:step E (cpR E n) ops s.h.length o (aK s.t) s.h=some e)(hp:put o s e=some s1)(h2:iE E y n ops r K s1):iE E y n ops (o::r) K s:=by
 obtain⟨M,hM⟩:=ue hs;refine wZ ⟨M,λm hm=> ?_⟩ h2;unfold Fh;rw [gz,hM m hm];exact hp
theorem Jd{E:Env}{y:Nat->ea}{n:Nat}{id:Nat}{l:List Oper}{Q:Ex->St->Prop}{s:St}(h:iE E y n l.toArray l (Q .normal) s):WpC E y n (.region id l.toArray false) Q s:=by
 obtain⟨s',⟨M,h1⟩,h2⟩:=h;exact⟨.normal,s',⟨M,λm hm=>by simp only [evC,Bool.false_eq_true,if_false,h1 m hm];rfl⟩,h2⟩
section
variable {E : Env} {y : Nat → ea} {n : Nat} {ops : Array Oper} {Q : St → Prop} {o : Oper} {r : List Oper} {nt : Nat} {f : Nat → D} {H H' : am} {v : D} {u : List (Nat × Blk)} {d : Nat} {g : Option (Tmp × Bool)}
theorem Bj(hg:gOf ops o=some g)(hd:o.dst=some d)(hn:d<nt)(hs:stepG E (cpR E n) g H.length o.op (aK (tab nt f)) H=some ⟨v,u⟩)(hu:Ev.apply H u=H')(h:iE E y n ops r Q {t:=tab nt (upd f d v),h:=H'}):iE E y n ops (o::r) Q {t:=tab nt f,h:=H}:=by
 subst hu;rw [<-jc hg]at hs;exact xa (s1:={t:=tab nt (upd f d v),h:=Ev.apply H u}) hs (by simp only [put,hd,jP,oO,hn,if_true,sg,zbB,zbS]) h
theorem xb(hg:gOf ops o=some g)(hd:o.dst=none)(hs:stepG E (cpR E n) g H.length o.op (aK (tab nt f)) H=some ⟨v,u⟩)(hu:Ev.apply H u=H')(h:iE E y n ops r Q {t:=tab nt f,h:=H'}):iE E y n ops (o::r) Q {t:=tab nt f,h:=H}:=by
 subst hu;rw [<-jc hg]at hs;exact xa (s1:={t:=tab nt f,h:=Ev.apply H u}) hs (by simp only [put,hd,jP,zbB,zbS]) h
end
def StL(E:Env)(n nt:Nat)(ops:Array Oper)(l:List Oper)(i:Nat)(K:St->Prop)(f:Nat->D)(L:BL):Prop:=∀h b,HB h L->bS (λt=>K {t,h}) (evR E (cpR E n) ops h b i l (tab nt f))
section
variable {E : Env} {y : Nat → ea} {n nt : Nat} {ops : Array Oper} {o : Oper} {r : List Oper} {K : St → Prop} {f : Nat → D} {L : BL} {d : Nat} {Q : Ex → St → Prop}
theorem oP{g:Option (Tmp×Bool)}{nid:Nat}{op:Op}{t:Tmp->Option D}{H:am}{cp:bJ}(h:wY t g=some true):stepG E cp g nid op t H=stepG E cp none nid op t H:=by
 unfold stepG;rw [h];rfl
theorem gI{g:Option (Tmp×Bool)}{nid:Nat}{op:Op}{t:Tmp->Option D}{H:am}{cp:bJ}(h:wY t g=some false):stepG E cp g nid op t H=some ⟨bI,[]⟩:=by
 unfold stepG;rw [h];rfl
theorem kH{a b:Nat}(h:Nat.blt a b=true):a<b:=by simpa using h
section
variable {i w b : Nat} {O : List (List Nat)} {N : List (Bool × List Nat)} {R : List (List Nat)} {A : BL}
end
theorem hm0{A:BL}{M:List Nat}(h:M= []):∀x∈A.flatten,x.1 ∉ M:=λx _=>by rw [h];simp
theorem hkn{z:Nat}:∀x∈([]:BL).flatten,x.1≠z:=λx hx=>by simp at hx
theorem hkc{A:BL}{z k:Nat}{y:Nat×List (List C)}(h1:k≠z)(h2:∀x∈A.flatten,x.1≠z):∀x∈([(k,y)]::A:BL).flatten,x.1≠z:=λx hx=>by
 rcases List.mem_cons.1 (show x∈(k,y)::A.flatten from hx)with rfl|hx
 .exact h1
 .exact h2 x hx
end
section
variable {A R : Type}
def gW(b:A->Option (A ⊕ R)):Nat->A->Option R
 |0,_=>none
 |m+1,a=>
  match b a with
  |none=>none
  |some (.inl a')=>gW b m a'
  |some (.inr r)=>some r
theorem nq(b:A->Option (A ⊕ R)):∀(m:Nat) (a:A) (r:R),gW b m a=some r->∀k,m<=k->gW b k a=some r
 |0,a,r,h,k,hk=>by simp [gW]at h
 |m+1,a,r,h,k,hk=>by
  match k,hk with
  |k+1,hk=>
   unfold gW at h ⊢
   cases hb:b a with
   |none=>rw [hb]at h;simp at h
   |some x=>
    rw [hb]at h
    cases x with
    |inl a'=>exact nq b m a' r h k (by omega)
    |inr r'=>exact h
open Classical in
def bO(b:A->Option (A ⊕ R))(a:A):Option R:=if h:∃r m,gW b m a=some r then some h.choose else none
theorem loopO_iff{b:A->Option (A ⊕ R)}{a:A}{r:R}:bO b a=some r↔∃m,gW b m a=some r:=by
 unfold bO;constructor
 .intro h;split at h
  .rename_i hx;obtain⟨m,hm⟩:=hx.choose_spec;exact⟨m,by rw [hm];exact h⟩
  .simp at h
 .rintro⟨m,hm⟩;have hx:∃r m,gW b m a=some r:=⟨r,m,hm⟩;rw [dif_pos hx];obtain⟨m',hm'⟩:=hx.choose_spec;have h1:=nq b m a r hm (max m m') (by omega);have h2:=nq b m' a _ hm' (max m m') (by omega);rw [h2]at h1;exact h1
theorem fM{b:A->Option (A ⊕ R)}{a:A}{r:R}(h:b a=some (.inr r)):bO b a=some r:=loopO_iff.2 ⟨1,by simp [gW,h]⟩
theorem nr{b:A->Option (A ⊕ R)}{a a':A}(h:b a=some (.inl a')):bO b a=bO b a':=by
 have key:∀r,bO b a=some r↔bO b a'=some r:=λr=>by
  rw [loopO_iff,loopO_iff];constructor
  .rintro⟨m,hm⟩
   match m with
   |0=>simp [gW]at hm
   |m+1=>exact⟨m,by simpa [gW,h]using hm⟩
  .rintro⟨m,hm⟩;exact⟨m+1,by simpa [gW,h]using hm⟩
 cases h1:bO b a' with
 |none=>
  cases h2:bO b a with
  |none=>rfl
  |some r=>rw [(key r).1 h2]at h1;exact absurd h1 (by simp)
 |some r=>exact(key r).2 h1
theorem Gz{E:Env}{y:Nat->ea}{n:Nat}{c:Code}(b:A->Option (A ⊕ R))(I:A->St->Prop)(J:R->Ex->St->Prop)(hN:∀r s,¬J r .normal s)
  (hb:∀a out s,b a=some out->I a s->WpC E y n c (λe s'=>match out with
   | .inl a'=>e= .normal/\I a' s'
   | .inr r=>J r e s') s):∀a r s,bO b a=some r->I a s->WpC E y n (.loop c) (J r) s:=by
 have key:∀k a r s,gW b k a=some r->I a s->∃e s',(∃M,∀m,M<=m->∀q,M<=q->iw (evC E (bQ E y m n).1 (bQ E y m n).2 m c) q s=some (e,s'))/\J r e s':=by
  intro k
  induction k with
  |zero=>intro a r s h;simp [gW]at h
  |succ k ih=>
   intro a r s h hs;unfold gW at h
   cases hba:b a with
   |none=>rw [hba]at h;simp at h
   |some out=>
    rw [hba]at h;obtain⟨e1,s1,⟨M1,h1⟩,h2⟩:=hb a out s hba hs
    cases out with
    |inl a'=>
     obtain⟨rfl,h3⟩:=h2;obtain⟨e2,s2,⟨M2,h5⟩,h6⟩:=ih a' r s1 h h3;refine⟨e2,s2,⟨max M1 M2+1,λm hm q hq=> ?_⟩,h6⟩
     match q,hq with
     |q+1,hq=>simp [iw,h1 m (by omega),h5 m (by omega) q (by omega)]
    |inr r'=>
     simp only [zsI]at h;subst h;refine⟨e1,s1,⟨M1+1,λm hm q hq=> ?_⟩,h2⟩
     match q,hq with
     |q+1,hq=>
      cases e1 with
      |normal=>exact absurd h2 (hN _ _)
      |exit id=>simp [iw,h1 m (by omega)]
      |ret=>simp [iw,h1 m (by omega)]
 intro a r s h hs;obtain⟨k,hk⟩:=loopO_iff.1 h;obtain⟨e,s',⟨M,h1⟩,h2⟩:=key k a r s hk hs;exact⟨e,s',⟨M,λm hm=>by simpa [evC]using h1 m hm m hm⟩,h2⟩
def JX{X Up KT:Type}(nt id:Nat)(S:X->KT->(Nat->D)->Nat->D)(SL:X->KT->BL)(G:Up->Ex->St->Prop):X ⊕ Up->Ex->St->Prop
 | .inl x,e,s=>e= .exit id/\∃k g,s.t=tab nt (S x k g)/\HB s.h (SL x k)
 | .inr u,e,s=>e= .ret/\G u .ret s
section
variable {X Up KT : Type} {nt id : Nat} {S : X → KT → (Nat → D) → Nat → D} {SL : X → KT → BL} {G : Up → Ex → St → Prop}
theorem OY:∀r s,¬JX nt id S SL G r .normal s:=λr s h=>by
 cases r with
 |inl x=>exact absurd h.1 (by simp)
 |inr u=>exact absurd h.1 (by simp)
end
end
def atS{α:Type}(w:Nat)(s:Sl α)(i:Int):Option α:=if 0<=i/\s.sz=w then s.l[i.toNat]? else none
theorem Je{α:Type}{w:Nat}{s:Sl α}{i:Int}{x:α}(h:atS w s i=some x):0<=i/\s.sz=w/\s.l[i.toNat]? =some x:=by
 unfold atS at h;split at h
 .rename_i hc;exact⟨hc.1,hc.2,h⟩
 .simp at h
def atL{α:Type}(l:List α)(i:Int):Option α:=if 0<=i then l[i.toNat]? else none
theorem oQ{α:Type}{l:List α}{i:Int}{x:α}(h:atL l i=some x):0<=i/\l[i.toNat]? =some x:=by
 unfold atL at h;split at h
 .rename_i hc;exact⟨hc,h⟩
 .simp at h
def cpL{α:Type}(l m:List α):Option (List α):=if m.length<=l.length then some (m++l.drop m.length)else none
theorem Bk{α:Type}{l m r:List α}(h:cpL l m=some r):m.length<=l.length/\m++l.drop m.length=r:=by
 unfold cpL at h;split at h
 .exact⟨‹_›,Option.some.inj h⟩
 .cases h
theorem Et{α:Type}{l m r:List α}(h:cpL l m=some r):r.length=l.length:=by
 obtain⟨h1,rfl⟩:=Bk h;simp;omega
def app{α:Type}(l m:List α):Option (List α):=if l.length+m.length<=ct then some (l++m)else none
theorem oR{α:Type}{l m x:List α}(h:app l m=some x):l.length+m.length<=ct/\x=l++m:=by
 unfold app at h;split at h
 .rename_i hc;exact⟨hc,(Option.some.inj h).symm⟩
 .simp at h
end Ev
end
noncomputable section
namespace Ev
open Go Go.RowKit
section
variable {E : Env} {y : Nat → ea} {n nt : Nat} {f : Nat → D} {L : BL}
theorem OZ{x:Operand}{v:D}(hx:ov nt f x=some v):PS E n nt f L (.move x) v:=λh nid hb=>by
 rw [IZ,bw,hx];rfl
theorem Jf{x:Operand}{v:D}(hx:ov nt f x=some v):PS E n nt f L (.assign x) v:=λh nid hb=>by
 rw [Ja,bw,hx];rfl
theorem gb{op:BinOp}{ty sh:TypeId}{x y:Operand}{fa fb:Bool}{ka kb:IntKind}{a b:Int}{v:Value}(hx:ov nt f x=some (.one (.p fa (.v (.int ka a)))))(hy:ov nt f y=some (.one (.p fb (.v (.int kb b)))))
  (hp:ao E.P (do eqGuard op ty x y (.int ka a) (.int kb b);binOp op ty (.int ka a) (.int kb b))=some v) (h1:one1 v=true):PS E n nt f L (.binOp op ty x y sh) (mk v):=λh nid hb=>by
 rw [Bi,bw,hx,bw,hy];refine Eq.trans (b:=qW E.P E.ti op ty x y (.one (.p fa (.v (.int ka a)))) (.one (.p fb (.v (.int kb b))))) rfl ?_;rw [OW,hp];show mkO v=_;unfold mkO;rw [if_pos h1]
theorem Lr{P:Program}{ti:TypeId->Option TI}{op:BinOp}{ty:TypeId}{x y:Operand}{fr fr':Bool}{a b:Bool}:
  qW P ti op ty x y (.one (.p fr (.v (.bool a)))) (.one (.p fr' (.v (.bool b))))=(ao P (do eqGuard op ty x y (.bool a) (.bool b);binOp op ty (.bool a) (.bool b))).bind mkO:=rfl
theorem Jg{op:BinOp}{ty sh:TypeId}{x y:Operand}{fa fb:Bool}{a b:Bool}{v:Value}(hx:ov nt f x=some (.one (.p fa (.v (.bool a)))))(hy:ov nt f y=some (.one (.p fb (.v (.bool b)))))
  (hp:ao E.P (do eqGuard op ty x y (.bool a) (.bool b);binOp op ty (.bool a) (.bool b))=some v) (h1:one1 v=true):PS E n nt f L (.binOp op ty x y sh) (mk v):=λh nid hb=>by
 rw [Bi,bw,hx,bw,hy];refine Eq.trans (b:=qW E.P E.ti op ty x y (.one (.p fa (.v (.bool a)))) (.one (.p fb (.v (.bool b))))) rfl ?_;rw [Lr,hp];show mkO v=_;unfold mkO;rw [if_pos h1]
theorem Pa{P:Program}{ti:TypeId->Option TI}{op:BinOp}{ty:TypeId}{x y:Operand}{a b:List C}:qW P ti op ty x y (.agg a) (.agg b)=(plain (.agg a)).bind λva=>(plain (.agg b)).bind λvb=>(ao P (do eqGuard op ty x y va vb;binOp op ty va vb)).bind mkO:=rfl
theorem Jh{op:BinOp}{ty sh:TypeId}{x y:Operand}{a b:List C}{va vb v:Value}(hx:ov nt f x=some (.agg a))(hy:ov nt f y=some (.agg b))(ha:plain (.agg a)=some va)(hb':plain (.agg b)=some vb)
  (hp:ao E.P (do eqGuard op ty x y va vb;binOp op ty va vb)=some v) (h1:one1 v=true):PS E n nt f L (.binOp op ty x y sh) (mk v):=λh nid hb=>by
 rw [Bi,bw,hx,bw,hy];refine Eq.trans (b:=qW E.P E.ti op ty x y (.agg a) (.agg b)) rfl ?_;rw [Pa,ha,hb'];simp only [zbS];rw [hp];show mkO v=_;unfold mkO;rw [if_pos h1]
theorem Ji{ty:TypeId}{x:Operand}{fr b:Bool}(hx:ov nt f x=some (.one (.p fr (.v (.bool b))))):PS E n nt f L (.unOp .not ty x) (bD (!b)):=λh nid hb=>by
 show((aB (aK (tab nt f)) x).bind λd=>(plain d).bind λv=>(ao E.P (Op.unary .not v)).bind mkO)=_;rw [bw,hx];rfl
theorem QO{ty:TypeId}{x:Operand}{fr:Bool}{k:IntKind}{a:Int}(hx:ov nt f x=some (.one (.p fr (.v (.int k a))))):PS E n nt f L (.unOp .neg ty x) (iD k (k.wrap (0 - a))):=λh nid hb=>by
 show((aB (aK (tab nt f)) x).bind λd=>(plain d).bind λv=>(ao E.P (Op.unary .neg v)).bind mkO)=_;rw [bw,hx];rfl
theorem Pb{src dst:TypeId}{x:Operand}{fr:Bool}{k:IntKind}{a:Int}{v:Value}(hx:ov nt f x=some (.one (.p fr (.v (.int k a)))))(hp:ao E.P (Go.convert src dst (.int k a))=some v)(h1:one1 v=true):PS E n nt f L (.convert src dst x) (mk v):=λh nid hb=>by
 show sem E nid (rT (.convert src dst x)) (aB (aK (tab nt f))) h=_;unfold sem rT;simp only [bw,hx,zbB,zbS];show(ao E.P (Go.convert src dst (.int k a))).bind mkO=_;rw [hp];show mkO v=_;unfold mkO;rw [if_pos h1]
theorem Bl{ty:TypeId}{x:Operand}{m k i j off sz:Nat}{ag:Bool}(hx:ov nt f x=some (.one (.ptr k i j)))(ht:fieldAt E.ti ty m=some (off,sz,ag))(hz:Nat.beq sz 0=false):PS E n nt f L (.fieldAddr ty x m) (.one (.ptr k i (j+off))):=λh nid hb=>by
 rw [Es,bw,hx,ht];show(if sz=0 then none else _)=_;rw [if_neg (Nat.ne_of_beq_eq_false hz)]
theorem Jj{ty:TypeId}{x:Operand}{m i j off sz s:Nat}{fr:Bool}{l:List (List T)}{ag:Bool}(hx:ov nt f x=some (.one (.iptr fr s l i j)))(ht:fieldAt E.ti ty m=some (off,sz,ag))(hz:Nat.beq sz 0=false):PS E n nt f L (.fieldAddr ty x m) (.one (.iptr fr s l i (j+off))):=λh nid hb=>by
 rw [Es,bw,hx,ht];show(if sz=0 then none else _)=_;rw [if_neg (Nat.ne_of_beq_eq_false hz)]
theorem Jk{ty:TypeId}{x:Operand}{m off sz:Nat}{cs c2:List C}{ag:Bool}{v:D}(hx:ov nt f x=some (.agg cs))(ht:fieldAt E.ti ty m=some (off,sz,ag))(hc:cut cs off (cond ag sz 1)=some c2)(hv:cd ag c2=some v):PS E n nt f L (.field ty x m) v:=λh nid hb=>by
 show((E.ti ty).bind λt=>(fQ t m).bind λfd=>(E.ti fd.type).bind λft=>(aB (aK (tab nt f)) x).bind λd=>match d with
  | .agg cs=>(cut cs fd.offset (if aN ft.desc then ft.size else 1)).bind λc=>(cd (aN ft.desc) c).bind λv=>some (⟨v,[]⟩:Eff)
  |_=>none)=_
 unfold fieldAt at ht;simp only [zbE,zsI,Prod.mk.injEq]at ht;obtain⟨t,h1,fd,h2,ft,h3,rfl,rfl,rfl⟩:=ht;rw [h1,bw,hx];simp only [zbS,h2,h3]
 have hc':cut cs fd.offset (if aN ft.desc then ft.size else 1)=some c2:=by
  rw [<-hc];cases aN ft.desc<;>rfl
 rw [hc'];simp only [zbS,hv]
theorem Eu{α:Type}(b:Bool)(x y:α):(if b=true then x else y)=cond b x y:=by cases b<;>rfl
theorem yU{ty:TypeId}{x:Operand}{k i j sz bz:Nat}{ag:Bool}{es:List (List C)}{e cs:List C}{v:D}(p:Nat)(hx:ov nt f x=some (.one (.ptr k i j)))(hz:iB E.ti ty=some (sz,ag))(hp:L[p]? =some [(k,bz,es)])(he:es[i]? =some e)(hc:cut e j (cond ag sz 1)=some cs)(hv:cd ag cs=some v):PS E n nt f L (.load ty x) v:=λh nid hb=>by
 rw [Jb,bw,hx,hz];show yS (kOf ag (CZ j (if ag then sz else 1) (OV i (ap h k))))=_;rw [hb.get hp,Eu];show yS (kOf ag (CZ j (cond ag sz 1) es[i]?))=_;rw [he];show yS (kOf ag (cut e j (cond ag sz 1)))=_;rw [hc];show yS (cd ag cs)=_;rw [hv];rfl
theorem Ls{ty:TypeId}{x:Operand}{i j sz s:Nat}{fr ag:Bool}{l:List (List T)}{e:List T}{cs:List C}{v:D}(hx:ov nt f x=some (.one (.iptr fr s l i j)))(hz:iB E.ti ty=some (sz,ag))(he:l[i]? =some e)(hc:cut (e.map (pC fr)) j (cond ag sz 1)=some cs)(hv:cd ag cs=some v):PS E n nt f L (.load ty x) v:=λh nid hb=>by
 rw [Jb,bw,hx,hz];show yS (kOf ag (CZ j (if ag then sz else 1) (kIn fr l[i]?)))=_;rw [he,Eu];show yS (kOf ag (cut (e.map (pC fr)) j (cond ag sz 1)))=_;rw [hc];show yS (cd ag cs)=_;rw [hv];rfl
theorem yV{ty:TypeId}{a x:Operand}{k i j sz bz:Nat}{ag:Bool}{es es':List (List C)}{e e' cs:List C}{v:D}(p:Nat)(ha:ov nt f a=some (.one (.ptr k i j)))(hx:ov nt f x=some v)(hd:eQ v=some cs)(hz:iB E.ti ty=some (sz,ag))(hs:Nat.beq cs.length sz=true)(hp:L[p]? =some [(k,bz,es)])(he:es[i]? =some e)(ht:patch e j cs=some e')(hes:es.set i e'=es'):PW E n nt f L (.store ty a x) bI p k bz es':=⟨⟨_,hp⟩,λh nid hb=>by
 rw [Lo,bw,ha,bw,hx,hz];show Ln k i j sz (eQ v) (ap h k)=_;rw [hd,hb.get hp];show(if cs.length=sz then IY k i bz es (Da j cs es[i]?)else none)=_;rw [if_pos (Nat.eq_of_beq_eq_true hs),he];show IY k i bz es (patch e j cs)=_;rw [ht];subst hes
 rfl⟩
theorem Lt{ty:TypeId}{t:TI}{row:List C}{sz:Nat}(ht:E.ti ty=some t)(hr:gx t=row)(hs:t.size=sz):PN E n nt f L (.alloc ty) (λk=> .one (.ptr k 0 0)) sz [row]:=λh nid hb=>by
 show((E.ti ty).bind λt=>some (⟨.one (.ptr nid 0 0),[(nid,.own t.size [gx t])]⟩:Eff))=_;rw [ht];subst hr hs;rfl
theorem QP{ty:TypeId}{x:Operand}{t:TI}{d:D}{cs:List C}{sz:Nat}(ht:E.ti ty=some t)(hx:ov nt f x=some d)(hc:eQ d=some cs)(hs:cs.length=sz):PN E n nt f L (.box ty x) (λk=> .one (.ptr k 0 0)) sz [cs]:=λh nid hb=>by
 show((E.ti ty).bind λt=>(aB (aK (tab nt f)) x).bind λd=>(eQ d).bind λcs=>some (⟨.one (.ptr nid 0 0),[(nid,.own cs.length [cs])]⟩:Eff))=_;rw [ht,bw,hx];simp only [zbS,hc];subst hs;rfl
def sk(nt:Nat)(f:Nat->D)(l:List (Nat×Operand)):Option (List (Nat×D)):=l.mapM λ((i,x):Nat×Operand)=>(ov nt f x).map λd=>(i,d)
theorem Lu{ty:TypeId}{parts:Array (Nat×Operand)}{t:TI}{ps:List (Nat×D)}{pl:Nat->Option (Nat×Nat)}{cs:List C}(ht:E.ti ty=some t)(hps:sk nt f parts.toList=some ps)(hpl:mM E.ti t=some pl)(hf:fill pl (gx t) ps=some cs):PS E n nt f L (.build ty parts) (.agg cs):=λh nid hb=>by
 show((E.ti ty).bind λt=>(parts.toList.mapM λ((i,x):Nat×Operand)=>(aB (aK (tab nt f)) x).map λd=>(i,d)).bind λps=>(mM E.ti t).bind λpl=>(fill pl (gx t) ps).bind λcs=>some (⟨.agg cs,[]⟩:Eff))=_;rw [ht,fL];simp only [zbS];have h1:(parts.toList.mapM λ((i,x):Nat×Operand)=>(ov nt f x).map λd=>(i,d))=some ps:=hps;simp only [h1,zbS,hpl,hf]
theorem iq{ti:TypeId->Option TI}{ty z:Nat}(h:fE ti ty=some z):∃t e te,ti ty=some t/\aR t=some e/\ti e=some te/\te.size=z:=by
 unfold fE at h;simp only [zbE,zsI]at h;obtain⟨t,h1,e,h2,te,h3,h4⟩:=h;exact⟨t,e,te,h1,h2,h3,h4⟩
theorem Jl{ty ety:TypeId}{len z:Nat}{parts:Array (Nat×Operand)}{t te:TI}{ps:List (Nat×D)}{cs:List C}{es:List (List C)}(ht:E.ti ty=some t)(he:aR t=some ety)(hte:E.ti ety=some te)(hz:te.size=z)(hps:sk nt f parts.toList=some ps)(hf:fill (λi=>some (i*z,z)) (mm te len) ps=some cs)(hr:pD z cs len=some es)(hl:Nat.ble (len*z) 16777216=true):PN E n nt f L (.buildSlice ty len parts) (λk=> .one (.own k 0 len)) z es:=λh nid hb=>by
 show((E.ti ty).bind λt=>(aR t).bind λx=>(E.ti x).bind λe=>(parts.toList.mapM λ((i,x):Nat×Operand)=>(aB (aK (tab nt f)) x).map λd=>(i,d)).bind λps=>(fill (λi=>some (i*e.size,e.size)) (mm e len) ps).bind λcs=>(pD e.size cs len).bind λes=>if len*e.size<=2 ^ 24 then some (⟨.one (.own nid 0 len),[(nid,.own e.size es)]⟩:Eff)else none)=_;subst hz;rw [ht,fL];have h1:(parts.toList.mapM λ((i,x):Nat×Operand)=>(ov nt f x).map λd=>(i,d))=some ps:=hps;simp only [zbS,he,hte,h1,hf,hr];rw [if_pos (Nat.le_of_ble_eq_true hl)]
theorem QQ{x:Operand}{i:Nat}{ds:List D}{v:D}(hx:ov nt f x=some (.tup ds))(hi:ds[i]? =some v):PS E n nt f L (.extract x i) v:=λh nid hb=>by
 show((aB (aK (tab nt f)) x).bind λd=>match d with
  | .tup ds=>(ds[i]?).bind λv=>some (⟨v,[]⟩:Eff)
  |_=>none)=_
 rw [bw,hx];show(ds[i]?).bind _=_;rw [hi];rfl
theorem yW{α β:Type}{r:α->β}{l:List α}{i:Nat}{x:α}(h:l[i]? =some x):(l.map r)[i]? =some (r x):=by rw [List.getElem?_map,h];rfl
theorem Jm{α:Type}{l:List α}{i:Nat}{x:α}(h:l[i]? =some x):i<l.length:=(List.getElem?_eq_some_iff.1 h).1
theorem map_set{α β:Type}{r:α->β}{l:List α}{i:Nat}{x:α}:(l.map r).set i (r x)=(l.set i x).map r:=(List.map_set).symm
theorem QR{α:Type}{r:α->List T}{ty:TypeId}{x ix:Operand}{fr fb nn:Bool}{sz:Nat}{l:List α}{kb:IntKind}{i:Int}{y:α}(hx:ov nt f x=some (.one (.p fr (.s nn sz (l.map r)))))(hi:ov nt f ix=some (.one (.p fb (.v (.int kb i)))))(h0:0<=i)(hy:l[i.toNat]? =some y)(hz:fE E.ti ty=some sz):PS E n nt f L (.indexAddr ty x ix) (.one (.iptr fr sz (l.map r) i.toNat 0)):=λh nid hb=>by
 rw [sj,bw,hx,bw,hi];show kIx E.ti ty h _ (fc (.one (.p fb (.v (.int kb i)))))=_;rw [fD _ _ _ h0];refine Eq.trans (b:=Bh E.ti ty h i.toNat (.one (.p fr (.s nn sz (l.map r))))) rfl ?_;rw [Vm,hz];show(if i.toNat<(l.map r).length/\sz=sz then _ else _)=_;rw [if_pos ⟨by rw [List.length_map];exact Jm hy,rfl⟩]
theorem Mo{α:Type}{r:α->List C}{ty:TypeId}{x ix:Operand}{fb:Bool}{k sz:Nat}{l:List α}{kb:IntKind}{i:Int}{y:α}(p:Nat)(hx:ov nt f x=some (.one (.own k 0 l.length)))(hi:ov nt f ix=some (.one (.p fb (.v (.int kb i)))))(h0:0<=i)(hy:l[i.toNat]? =some y)(hp:L[p]? =some [(k,sz,l.map r)])(hz:fE E.ti ty=some sz):PS E n nt f L (.indexAddr ty x ix) (.one (.ptr k i.toNat 0)):=λh nid hb=>by
 rw [sj,bw,hx,bw,hi];show kIx E.ti ty h _ (fc (.one (.p fb (.v (.int kb i)))))=_;rw [fD _ _ _ h0];refine Eq.trans (b:=Bh E.ti ty h i.toNat (.one (.own k 0 l.length))) rfl ?_;rw [Vn,hz,hb.get hp];show(if i.toNat<l.length/\sz=sz then _ else _)=_;rw [if_pos ⟨Jm hy,rfl⟩,Nat.zero_add]
theorem Pc{c:Call}{a:Operand}{ty e:TypeId}{t:TI}{d:D}{m:Nat}(hc:c.callee= .builtin .len)(ha:c.args.toList= [a])(hty:c.argTypes[0]? =some ty)(ht:E.ti ty=some t)(hd:t.desc= .slice e)(hx:ov nt f a=some d)(hl:vq d=some m):PS E n nt f L (.call c) (iD .i64 m):=λh nid hb=>by
 have h1:be (.call c)=none:=by unfold be;simp only [hc]
 rw [np,h1];unfold sem rT;simp only [hc,hty,ht,ha,fL,zbB,zbS,List.mapM_cons,List.mapM_nil,hx,Option.pure_def,hd,hl];rfl
theorem Jn{α:Type}{r:α->List T}{fr nn:Bool}{sz:Nat}{l:List α}:vq (.one (.p fr (.s nn sz (l.map r))))=some l.length:=by
 show some (l.map r).length=_;rw [List.length_map]
def QS(L:BL)(x:D)(xs:List (List C)):Prop:=∀h,HB h L->gK h x=some xs
theorem Ew{α:Type}{r:α->List C}{k sz:Nat}{l:List α}(p:Nat)(hp:L[p]? =some [(k,sz,l.map r)]):QS L (.one (.own k 0 l.length)) (l.map r):=λh hb=>by
 show((ap h k).bind λx=>cut x.2 0 l.length)=_;rw [hb.get hp];show cut (l.map r) 0 l.length=_;unfold cut;rw [if_pos (by simp),List.drop_zero,List.take_of_length_le (by simp)]
theorem Lv{α:Type}{r:α->List C}{ty:Nat}{x y:Operand}{t te:TI}{ety z:Nat}{fa fb:Bool}{ka kb:IntKind}{i j:Int}{a:α}(ht:E.ti ty=some t)(he:aR t=some ety)(hte:E.ti ety=some te)(hx:ov nt f x=some (.one (.p fa (.v (.int ka i)))))(hy:ov nt f y=some (.one (.p fb (.v (.int kb j)))))(h0:0<=i)(hij:i<=j)(hj:j.toNat<=ct)(hz:gx te=r a)(hs:te.size=z):PN E n nt f L (.makeSlice ty x y) (λk=> .one (.own k 0 (List.replicate i.toNat a).length)) z ((List.replicate i.toNat a).map r):=λh nid hb=>by
 show((E.ti ty).bind λt=>(aR t).bind λq=>(E.ti q).bind λe=>(aB (aK (tab nt f)) x).bind λdx=>(fc dx).bind λn=>(aB (aK (tab nt f)) y).bind λdy=>(fc dy).bind λm=>if n<=m/\m<=ct then some (⟨.one (.own nid 0 n),[(nid,.own e.size (List.replicate n (gx e)))]⟩:Eff)else none)=_;rw [ht];simp only [zbS,he,hte,bw,hx,hy,fD _ _ _ h0,fD _ _ _ (show 0<=j by omega)];rw [if_pos ⟨by omega,hj⟩,List.length_replicate,List.map_replicate,hz,hs]
theorem Bm{α β γ:Type}{r:α->List β}{q:α->List γ}{g:β->Option (Bool×γ)}(hq:∀x,(r x).mapM g=some ((q x).map λt=>(true,t))):∀l:List α,((l.map r).mapM λe=>e.mapM g)=some ((l.map q).map λe=>e.map λt=>(true,t))
 | []=>rfl
 |x::l=>by
  rw [List.map_cons,List.mapM_cons,hq x,Bm hq l];rfl
theorem Db{α:Type}{r:α->List T}{k sz:Nat}{l:List α}(p:Nat)(hp:L[p]? =some [(k,sz,l.map (cQ r))])(hr:∀x h m,(cQ r x).mapM (eH h (m+1))=some ((r x).map λt=>(true,t))):∀h,HB h L->∀m,eH h (m+2) (.own k 0 l.length)=some (true,.s true sz (l.map r)):=λh hb m=>by
 have hc:cut (l.map (cQ r)) 0 l.length=some (l.map (cQ r)):=by
  unfold cut;rw [if_pos (by simp),List.drop_zero,List.take_of_length_le (by simp)]
 have e1:eH h (m+2) (.own k 0 l.length)=(ap h k).bind λx=>(cut x.2 0 l.length).bind λes=>(es.mapM λe:List C=>e.mapM (eH h (m+1))).bind λq=>some (q.all (λe=>e.all (·.1)),T.s true x.1 (q.map (λe=>e.map (·.2)))):=rfl;rw [e1,hb.get hp];simp only [zbS,hc];rw [Bm (q:=r) λx=>hr x h m];simp only [zbS,List.map_map];congr 2
 .rw [List.all_eq_true];intro x hx;simp only [List.mem_map]at hx;obtain⟨y,_,rfl⟩:=hx;rw [List.all_eq_true];intro z hz;simp only [Function.comp,List.mem_map]at hz;obtain⟨w,_,rfl⟩:=hz;rfl
 .congr 1;refine List.map_congr_left λx hx=> ?_;simp [Function.comp_def]
def QU(E:Env)(n:Nat)(k:FuncId)(vs:List TD)(rs:List TD):Prop:=∃fr:Bool,RunsP E n k vs (cond fr .fresh .any,rs)
def f0(vs:List TD):Nat->D:=λi=>(vs.map (cm false)).getD i bI
end
section
variable (P : Program) (t : TypeId) (x y : Operand) (k : IntKind) {a b : Int}
end
def mo{α:Type}(w:Nat)(l:List α):Sl α:=
 match l with
 | []=>⟨false,0,[]⟩
 |_::_=>⟨true,w,l⟩
def moC{α:Type}(l:List α)(k:Nat):C:=
 match l with
 | []=> .p true (.s false 0 [])
 |_::_=> .own k 0 l.length
theorem Vo{α:Type}(w:Nat)(l:List α):(mo w l).l=l:=by cases l<;>rfl
def Jo(k:IntKind)(a b:Int):Option Int:=if b≠0 then some (k.wrap (a.tdiv b))else none
def yX(a b:Int):Option Int:=if b≠0 then some (a.tmod b)else none
theorem Pd{P:Program}{t:TypeId}{x y:Operand}{k:IntKind}{a b z:Int}(h:Jo k a b=some z):ao P (do eqGuard .quo t x y (.int k a) (.int k b);binOp .quo t (.int k a) (.int k b))=some (.int k z):=by
 unfold Jo at h;split at h
 .rename_i hc;rw [<-Option.some.inj h];exact QE _ _ _ _ _ _ _ hc
 .simp at h
theorem Pe{P:Program}{t:TypeId}{x y:Operand}{k:IntKind}{a b z:Int}(h:yX a b=some z):ao P (do eqGuard .rem t x y (.int k a) (.int k b);binOp .rem t (.int k a) (.int k b))=some (.int k z):=by
 unfold yX at h;split at h
 .rename_i hc;rw [<-Option.some.inj h];exact QF _ _ _ _ _ _ _ hc
 .simp at h
def Jp(i:Int):Option Unit:=if 0<=i/\i.toNat<=ct then some ()else none
def Jq(i j:Int):Option Unit:=if i=j then some ()else if i<=j/\j.toNat<=ct then some ()else none
theorem De{i j:Int}{u:Unit}(h:Jq i j=some u):i=j∨(i<=j/\j.toNat<=ct):=by
 unfold Jq at h;split at h
 .rename_i hi;exact .inl hi
 .split at h
  .rename_i hj;exact .inr hj
  .simp at h
theorem Df{i:Int}{u:Unit}(h:Jp i=some u):0<=i/\i.toNat<=ct:=by
 unfold Jp at h;split at h
 .assumption
 .simp at h
end Ev
end
end Go.Proofs.YtoamaaicfjkmhaaGreat
