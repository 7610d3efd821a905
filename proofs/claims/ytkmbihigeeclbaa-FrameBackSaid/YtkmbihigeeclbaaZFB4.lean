/- Texts of a claim, joined. -/
import Derived.Test.YtkmbihigeeclbaaZFB3
import Derived.IntWalk
set_option linter.unusedVariables false
set_option linter.unusedSimpArgs false
namespace Go.Proofs.Ytkmbihigeeclbaa
noncomputable section
namespace Ev
open Go Go.RowKit
def aw(P:Program)(t:TypeId):Option TI:=
 match P.info? t,P.underlying t with
 |some i,some d=>match i.zero with
  |some z=>if z.cells.toList.all one1 && z.cells.toList.length==i.size && decide (i.bytes<=65536)then some {desc:=d,zero:=z.cells.toList,size:=i.size,bytes:=i.bytes}else none
  |none=>none
 |_,_=>none
def FX(P:Program)(k:FuncId):Option FI:=
 match P.funcs[k]? with
 |some f=>match f.body with
  |some b=>some {nt:=f.ntmps,results:=f.results.toList,body:=b}
  |none=>none
 |none=>none
abbrev Ax:=FuncId->Option (List TD->Option (Kind×List TD))
def zL(P:Program)(ax:Ax):Env:={P,ti:=aw P,fn:=FX P,ax}
theorem FY(P:Program):dr P (aw P):=by
 have key:∀t i,aw P t=some i->∃(o:TypeInfo) (z:Value),P.info? t=some o/\P.underlying t=some i.desc/\o.zero=some z/\z.cells.toList=i.zero/\o.size=i.size/\o.bytes=i.bytes/\(∀x∈i.zero,x.oneCell'=true)/\i.zero.length=i.size/\i.bytes<=65536:=by
  intro t i h;unfold aw at h;split at h
  .rename_i o d h1 h2;split at h
   .rename_i z hz;split at h
    .rename_i hc;simp only [zsI]at h;subst h;simp only [Bool.and_eq_true,List.all_eq_true,beq_iff_eq,decide_eq_true_eq]at hc;exact⟨o,z,h1,h2,hz,rfl,rfl,rfl,λx hx=>by rw [<-uE];exact hc.1.1 x hx,hc.1.2,hc.2⟩
    .simp at h
   .simp at h
  .simp at h
 refine⟨λt i h=> ?_,λt i h=> ?_,λt i h=> ?_⟩
 .obtain⟨o,z,h1,h2,h3,h4,h5,h6,h7⟩:=key t i h;exact h2
 .obtain⟨o,z,h1,h2,h3,h4,h5,h6,h7⟩:=key t i h;exact⟨o,z,h1,h3,h4,h5,h6⟩
 .obtain⟨o,z,h1,h2,h3,h4,h5,h6,h7⟩:=key t i h;exact h7
structure xh(P:Program)(ax:Ax):Prop where
 ok:∀k F vs kind rs,ax k=some F->F vs=some (kind,rs)->fY P k vs kind rs/\Enters P k
def zM(P:Program):Bool:=P.funcs.toList.all λf=> !(f.name== "runtime.NumGoroutine")
theorem xi{P:Program}{ax:Ax}(hm:P.follows .mixedOrders=true)(hn:zM P=true)(ha:xh P ax):(zL P ax).Ok:=by
 refine⟨FY P,hm,λk f h=> ?_,λk F vs kind rs h1 h2=>ha.ok k F vs kind rs h1 h2⟩;simp only [zL,FX]at h;split at h
 .rename_i fn hf;split at h
  .rename_i b hb;simp only [zsI]at h;subst h;refine⟨fn,hf,?_,hb,rfl,rfl⟩
   have:=List.all_eq_true.1 hn fn (by rw [Array.mem_toList_iff];exact Array.mem_of_getElem? hf)
   simpa using this
  .simp at h
 .simp at h
theorem tD(P:Program):xh P λ_=>none:=⟨λk F vs kind rs h=>by simp at h⟩
def cz(ax:Ax)(k:FuncId)(F:List TD->Option (Kind×List TD)):Ax:=λj=>if j=k then some F else ax j
theorem aO{P:Program}{ax:Ax}(h:xh P ax){k:FuncId}{F:List TD->Option (Kind×List TD)}(hF:∀vs kind rs,F vs=some (kind,rs)->fY P k vs kind rs/\Enters P k):xh P (cz ax k F):=by
 refine⟨λj G vs kind rs h1 h2=> ?_⟩;unfold cz at h1;split at h1
 .rename_i hj;simp only [zsI]at h1;subst h1 hj;exact hF vs kind rs h2
 .exact h.ok j G vs kind rs h1 h2
section
variable {E : Env} {y : Nat → dC} {n : Nat}
def JS(E:Env)(y:Nat->dC)(n:Nat)(c:Code)(s:St)(e:Ex)(s':St):Prop:=∃M,∀m,M<=m->evC E (bH E y m n).1 (bH E y m n).2 m c s=some (e,s')
theorem fN(E:Env)(y:Nat->dC)(m n:Nat):(bH E y m n).1=(cN E m n).1:=rfl
abbrev nY:Nat->dC:=λ_=>noY
def WpC(E:Env)(y:Nat->dC)(n:Nat)(c:Code)(Q:Ex->St->Prop)(s:St):Prop:=∃e s',JS E y n c s e s'/\Q e s'
def RunsP(E:Env)(n:Nat)(k:FuncId)(vs:List TD)(r:Kind×List TD):Prop:=∃M,∀m,M<=m->(cN E m n).1 k vs=some r
theorem WpC.mono{c:Code}{Q Q':Ex->St->Prop}{s:St}(h:WpC E y n c Q s)(hq:∀e s,Q e s->Q' e s):WpC E y n c Q' s:=let⟨e,s',h1,h2⟩:=h;⟨e,s',h1,hq _ _ h2⟩
theorem Dt{Q:Ex->St->Prop}{s:St}(h:Q .normal s):WpC E y n .skip Q s:=⟨.normal,s,⟨0,λm _=>rfl⟩,h⟩
theorem FZ{Q:Ex->St->Prop}{s:St}(h:Q .ret s):WpC E y n .ret Q s:=⟨.ret,s,⟨0,λm _=>rfl⟩,h⟩
theorem Du{Q:Ex->St->Prop}{s:St}{id:Nat}(h:Q (.exit id) s):WpC E y n (.exit id) Q s:=⟨.exit id,s,⟨0,λm _=>rfl⟩,h⟩
theorem Bz{Q:Ex->St->Prop}{s:St}{l:Nat}(h:Q .normal s):WpC E y n (.label l) Q s:=⟨.normal,s,⟨0,λm _=>rfl⟩,h⟩
theorem BC{c:Code}{Q:Ex->St->Prop}{s:St}(h:WpC E y n c Q s):WpC E y n (.scope c) Q s:=let⟨e,s',⟨M,h1⟩,h2⟩:=h;⟨e,s',⟨M,λm hm=>by simpa [evC]using h1 m hm⟩,h2⟩
def GT(K:St->Prop)(Q:Ex->St->Prop):Ex->St->Prop
 | .normal,s=>K s
 |e,s=>Q e s
theorem zN{a b:Code}{Q:Ex->St->Prop}{s:St}(h:WpC E y n a (GT (WpC E y n b Q) Q) s):WpC E y n (.seq a b) Q s:=by
 obtain⟨e1,s1,⟨M1,h1⟩,h2⟩:=h
 cases e1 with
 |normal=>
  obtain⟨e2,s2,⟨M2,h3⟩,h4⟩:=h2;exact⟨e2,s2,⟨max M1 M2,λm hm=>by simp [evC,h1 m (by omega),h3 m (by omega)]⟩,h4⟩
 |exit id=>exact⟨_,s1,⟨M1,λm hm=>by simp [evC,h1 m hm]⟩,h2⟩
 |ret=>exact⟨_,s1,⟨M1,λm hm=>by simp [evC,h1 m hm]⟩,h2⟩
theorem Dv{c:Operand}{a b:Code}{Q:Ex->St->Prop}{s:St}{t:Bool}{d:D}(h1:opnd s.t c=some d)(h2:asBool d=some t)(h:WpC E y n (if t then a else b) Q s):WpC E y n (.cond c a b) Q s:=by
 obtain⟨e,s',⟨M,h3⟩,h4⟩:=h;refine⟨e,s',⟨M,λm hm=> ?_⟩,h4⟩
 have:=h3 m hm
 cases t<;>simpa [evC,h1,h2]using this
theorem BD{id:Nat}{c:Code}{Q:Ex->St->Prop}{s:St}(h:WpC E y n c (λe s=>Q (if e= .exit id then .normal else e) s) s):WpC E y n (.block id c) Q s:=by
 obtain⟨e,s',⟨M,h3⟩,h4⟩:=h;exact⟨_,s',⟨M,λm hm=>by simp [evC,h3 m hm]⟩,h4⟩
theorem vu{k:FuncId}{vs:List TD}{r r':Kind×List TD}(h:RunsP E n k vs r)(h':RunsP E n k vs r'):r=r':=by
 obtain⟨M,hM⟩:=h;obtain⟨M',hM'⟩:=h';have h1:=hM (max M M') (by omega);rw [hM' (max M M') (by omega)]at h1;exact(Option.some.inj h1).symm
open Classical in
def cpR(E:Env)(n:Nat):bw:=λk vs=>if h:∃r,RunsP E n k vs r then some h.choose else none
theorem og{k:FuncId}{vs:List TD}{r:Kind×List TD}(h:RunsP E n k vs r):cpR E n k vs=some r:=by
 have hx:∃r,RunsP E n k vs r:=⟨r,h⟩;unfold cpR;rw [dif_pos hx];exact congrArg some (vu hx.choose_spec h)
theorem Dw{k:FuncId}{vs:List TD}{r:Kind×List TD}(h:cpR E n k vs=some r):RunsP E n k vs r:=by
 unfold cpR at h;split at h
 .rename_i hx;simp only [zsI]at h;rw [<-h];exact hx.choose_spec
 .simp at h
theorem Dx{k:FuncId}{vs:List TD}{r:Kind×List TD}{F:List TD->Option (Kind×List TD)}(h1:E.ax k=some F)(h2:F vs=some r):RunsP E (n+1) k vs r:=⟨0,λm _=>by simp only [cN,bH,aL,h1];exact h2⟩
theorem rd{ops:Array Oper}{nid:Nat}{o:Oper}{g:Tmp->Option D}{H:ak}{e:Eff}(hs:step E (cpR E n) ops nid o g H=some e):∃M,∀m,M<=m->step E (cN E m n).1 ops nid o g H=some e:=by
 unfold step at*;simp only [zbB,zbE]at hs ⊢;obtain⟨b,h1,h2⟩:=hs;split at h2
 .rename_i hb;split at h2
  .unfold fV at h2;simp only [zbB,zbE]at h2;obtain⟨x,h3,vs,h4,y,h5,h6⟩:=h2;obtain⟨M,hM⟩:=Dw h5;refine⟨M,λm hm=>⟨b,h1,?_⟩⟩;rw [if_pos hb];unfold fV;simp only [zbB,zbE];exact⟨x,h3,vs,h4,y,hM m hm,h6⟩
  .exact⟨0,λm _=>⟨b,h1,by rw [if_pos hb];exact h2⟩⟩
 .rename_i hb;exact⟨0,λm _=>⟨b,h1,by rw [if_neg hb];exact h2⟩⟩
theorem oV{ops:Array Oper}:∀(b:Nat) (U M:Nat->List Nat) (l:List Oper) (i:Nat) (s s':St),bN E (cpR E n) ops b U M i l s=some s'->∃K,∀m,K<=m->bN E (cN E m n).1 ops b U M i l s=some s':=by
 intro b U M l
 induction l with
 |nil=>intro i s r hr;exact⟨0,λ_ _=>hr⟩
 |cons o l ih=>
  intro i s r hr;simp only [bN,zbB,zbE]at hr ⊢;obtain⟨e,g1,g2⟩:=hr;obtain⟨M1,hM1⟩:=rd g1;split at g2
  .rename_i hc;simp only [zbE]at g2 ⊢;obtain⟨s1,g3,g4⟩:=g2;obtain⟨M2,hM2⟩:=ih _ _ _ g4;refine⟨max M1 M2,λm hm=>⟨e,hM1 m (by omega),?_⟩⟩;rw [if_pos hc];simp only [zbE];exact⟨s1,g3,hM2 m (by omega)⟩
  .simp at g2
theorem yA{ops:Array Oper}{s s':St}(hs:fX E (cpR E n) ops s=some s'):∃M,∀m,M<=m->fX E (cN E m n).1 ops s=some s':=by
 have h1:∀(b:Nat) (l:List Oper) (i:Nat) (s:St) (r:List (List Nat)),iG E (cpR E n) ops b i l s=some r->∃M,∀m,M<=m->iG E (cN E m n).1 ops b i l s=some r:=by
  intro b l
  induction l with
  |nil=>intro i s r hr;exact⟨0,λ_ _=>hr⟩
  |cons o l ih=>
   intro i s r hr;simp only [iG,zbB,zbE]at hr ⊢;obtain⟨e,g1,s1,g2,l1,g3,g4⟩:=hr;obtain⟨M1,hM1⟩:=rd g1;obtain⟨M2,hM2⟩:=ih _ _ _ g3;exact⟨max M1 M2,λm hm=>⟨e,hM1 m (by omega),s1,g2,l1,hM2 m (by omega),g4⟩⟩
 have h2:= @oV E n ops;unfold fX at hs;simp only [zbB,zbE]at hs;obtain⟨U0,g1,g2⟩:=hs;obtain⟨M1,hM1⟩:=h1 _ _ _ _ _ g1;split at g2
 .rename_i hc;obtain⟨M2,hM2⟩:=h2 _ _ _ _ _ _ _ g2;refine⟨max M1 M2,λm hm=> ?_⟩;unfold fX;simp only [zbB,zbE];refine⟨U0,hM1 m (by omega),?_⟩;rw [if_pos hc];exact hM2 m (by omega)
 .simp at g2
def bP{α:Type}(Q:α->Prop):Option α->Prop
 |some a=>Q a
 |none=>False
theorem Dy{id:Nat}{ops:Array Oper}{Q:Ex->St->Prop}{s:St}(hc:jm ops=none)(h:bP (Q .normal) (fX E (cpR E n) ops s)):WpC E y n (.region id ops true) Q s:=by
 cases hs:fX E (cpR E n) ops s with
 |none=>rw [hs]at h;exact h.elim
 |some s'=>
  rw [hs]at h;obtain⟨M,hM⟩:=yA hs;exact⟨.normal,s',⟨M,λm hm=>by simp only [evC,if_true,hc];rw [fN,hM m hm];rfl⟩,h⟩
def yB(E:Env)(rv:List ResultVar)(r:Kind×List TD):Ex->St->Prop
 | .exit _,_=>False
 |_,s=>bP (λl:Kind×List TD=>l=r) ((rv.mapM (bS E s)).bind λrs=>(rs.mapM (cl s.h)).map λl=>(if dk s.h rs then .own else if l.all (·.1)then .fresh else .any,l.map (·.2)))
theorem Dz{rv:List ResultVar}{r:Kind×List TD}{e:Ex}{s:St}(h:yB E rv r e s):(e= .normal∨e= .ret)/\∃rs l,rv.mapM (bS E s)=some rs/\rs.mapM (cl s.h)=some l/\(if dk s.h rs then Kind.own else if l.all (·.1)then .fresh else .any,l.map (·.2))=r:=by
 have key:bP (λl:Kind×List TD=>l=r) ((rv.mapM (bS E s)).bind λrs=>(rs.mapM (cl s.h)).map λl=>(if dk s.h rs then .own else if l.all (·.1)then .fresh else .any,l.map (·.2)))->∃rs l,rv.mapM (bS E s)=some rs/\rs.mapM (cl s.h)=some l/\(if dk s.h rs then Kind.own else if l.all (·.1)then .fresh else .any,l.map (·.2))=r:=by
  intro h
  cases h1:rv.mapM (bS E s)with
  |none=>rw [h1]at h;exact h.elim
  |some rs=>
   rw [h1]at h;simp only [zbS]at h
   cases h2:rs.mapM (cl s.h)with
   |none=>rw [h2]at h;exact h.elim
   |some l=>rw [h2]at h;exact⟨rs,l,rfl,h2,h⟩
 cases e with
 |normal=>exact⟨.inl rfl,key h⟩
 |ret=>exact⟨.inr rfl,key h⟩
 |exit id=>exact h.elim
theorem Ga{k:FuncId}{f:FI}{vs:List TD}{r:Kind×List TD}(ha:E.ax k=none)(hf:E.fn k=some f)
  (h:WpC E nY n f.body (yB E f.results r) {t:=vs.map (bZ false)++List.replicate (f.nt - vs.length) bu,h:= []}):RunsP E (n+1) k vs r:=by
 obtain⟨e,s',⟨M,h1⟩,h2⟩:=h;obtain⟨h2,rs,l,h3,h4,h5⟩:=Dz h2;refine⟨M,λm hm=> ?_⟩
 have:=h1 m hm
 simp only [cN,bH]at this;simp only [cN,bH,aL,ha,hf,zbB,zbS,uC,uB,List.length_map];rw [this];rcases h2 with rfl|rfl<;>simp [h3,h4,<-h5]
theorem RunsP.pure(hO:E.Ok){k:FuncId}{vs:List TD}{kind:Kind}{rs:List TD}(h:RunsP E n k vs (kind,rs)):fY E.P k vs kind rs:=let⟨M,hM⟩:=h;GS hO (hM M (Nat.le_refl _))
end
end Ev
end
noncomputable section
namespace Ev
open Go Go.RowKit
def br(P:Program)(t:TypeId):Array Field:=
 match P.underlying t with
 |some (.struct fs)=>fs
 |_=> #[]
def fld(P:Program)(t:TypeId)(i:Nat):Field:=(br P t).toList.getD i default
section
variable (P : Program) (t : TypeId) (x y : Operand) (k : IntKind) (a b : Int)
theorem JT:al P (do eqGuard .add t x y (.int k a) (.int k b);binOp .add t (.int k a) (.int k b))=some (.int k (k.wrap (a+b))):=by cases k<;>rfl
theorem JU:al P (do eqGuard .sub t x y (.int k a) (.int k b);binOp .sub t (.int k a) (.int k b))=some (.int k (k.wrap (a - b))):=by cases k<;>rfl
theorem JV:al P (do eqGuard .mul t x y (.int k a) (.int k b);binOp .mul t (.int k a) (.int k b))=some (.int k (k.wrap (a*b))):=by cases k<;>rfl
theorem JW(h:b≠0):al P (do eqGuard .quo t x y (.int k a) (.int k b);binOp .quo t (.int k a) (.int k b))=some (.int k (k.wrap (a.tdiv b))):=by
 have:(do eqGuard .quo t x y (.int k a) (.int k b);binOp .quo t (.int k a) (.int k b))=(pure (.int k (k.wrap (a.tdiv b))):Sem Value):=by
  rw [eqGuard_at_int];show binOp .quo t (.int k a) (.int k b)=_;simp [binOp,Op.intDiv,h]
 rw [this];rfl
theorem JY(h:b≠0):al P (do eqGuard .rem t x y (.int k a) (.int k b);binOp .rem t (.int k a) (.int k b))=some (.int k (a.tmod b)):=by
 have:(do eqGuard .rem t x y (.int k a) (.int k b);binOp .rem t (.int k a) (.int k b))=(pure (.int k (a.tmod b)):Sem Value):=by
  rw [eqGuard_at_int];show binOp .rem t (.int k a) (.int k b)=_;simp [binOp,Op.intDiv,h]
 rw [this];rfl
theorem JZ:al P (do eqGuard .lss t x y (.int k a) (.int k b);binOp .lss t (.int k a) (.int k b))=some (.bool (decide (a<b))):=by cases k<;>rfl
theorem Ka:al P (do eqGuard .leq t x y (.int k a) (.int k b);binOp .leq t (.int k a) (.int k b))=some (.bool (decide (a<=b))):=by cases k<;>rfl
theorem Kb:al P (do eqGuard .gtr t x y (.int k a) (.int k b);binOp .gtr t (.int k a) (.int k b))=some (.bool (decide (b<a))):=by cases k<;>rfl
theorem Kc:al P (do eqGuard .geq t x y (.int k a) (.int k b);binOp .geq t (.int k a) (.int k b))=some (.bool (decide (b<=a))):=by cases k<;>rfl
theorem Kd:al P (do eqGuard .eql t x y (.int k a) (.int k b);binOp .eql t (.int k a) (.int k b))=some (.bool (a==b)):=by cases k<;>rfl
theorem Ke:al P (do eqGuard .neq t x y (.int k a) (.int k b);binOp .neq t (.int k a) (.int k b))=some (.bool (a !=b)):=by cases k<;>rfl
end
theorem eP(fr:Bool)(k:IntKind)(n:Int)(h:0<=n):eC (.one (.p fr (.v (.int k n))))=some n.toNat:=by
 obtain⟨m,rfl⟩:=Int.eq_ofNat_of_zero_le h;rfl
theorem wrap64{n:Int}(h1: -9223372036854775808<=n)(h2:n<=9223372036854775807):IntKind.i64.wrap n=n:=by rw [IntKind.wrap_i64];omega
end Ev
end
noncomputable section
namespace Ev
open Go Go.RowKit
theorem re(h:ak)(k j:Nat)(b:Blk):ao (av h k b) j=if j=k then(match b with| .own sz es=>some (sz,es)|_=>none)else ao h j:=by
 unfold av;by_cases hk:k<h.length
 .rw [if_pos hk];unfold ao;rw [List.getElem?_set];by_cases hj:j=k
  .subst hj;rw [if_pos rfl,if_pos rfl,if_pos hk];cases b<;>rfl
  .rw [if_neg (λe=>hj e.symm),if_neg hj]
 .rw [if_neg hk];unfold ao;by_cases hj:j=k
  .subst hj;rw [if_pos rfl,List.getElem?_append_right (by simp;omega)];simp only [List.length_append,List.length_replicate];rw [show j - (h.length+(j - h.length))=0 from by omega];cases b<;>rfl
  .rw [if_neg hj];by_cases h1:j<h.length
   .rw [List.append_assoc,List.getElem?_append_left h1]
   .rw [List.getElem?_eq_none (show h.length<=j by omega)];by_cases h2:j<k
    .rw [List.getElem?_append_left (by simp;omega),List.getElem?_append_right (by omega),List.getElem?_replicate];split
     .rename_i hx;split at hx<;>simp at hx
     .rfl
    .rw [List.getElem?_eq_none (by simp;omega)]
theorem lH(h:ak)(n j:Nat):ao (h++List.replicate n .no) j=ao h j:=by
 unfold ao;by_cases h1:j<h.length
 .rw [List.getElem?_append_left h1]
 .rw [List.getElem?_eq_none (show h.length<=j by omega),List.getElem?_append_right (by omega),List.getElem?_replicate];split
  .rename_i hx;split at hx<;>simp at hx
  .rfl
theorem xj(h:ak)(l:List Nat)(j:Nat):ao (mask h l) j=if j∈l then none else ao h j:=by
 unfold ao;rw [ju];by_cases hj:j∈l
 .rw [if_pos hj];by_cases hl:j<h.length
  .rw [if_pos ⟨hj,hl⟩]
  .rw [if_neg (λhh=>hl hh.2),List.getElem?_eq_none (by omega)]
 .rw [if_neg hj,if_neg (λhh=>hj hh.1)]
theorem Gb(h:ak)(k:Nat)(b:Blk):(av h k b).length=max h.length (k+1):=by
 unfold av;split
 .rw [List.length_set];omega
 .simp;omega
theorem yD{h:ak}{k:Nat}(b:Blk)(hk:k<h.length):(av h k b).length=h.length:=by rw [Gb];omega
theorem BE{h:ak}{k:Nat}{x:Nat×List (List C)}(hk:ao h k=some x):k<h.length:=by
 unfold ao at hk;by_cases hl:k<h.length
 .exact hl
 .rw [List.getElem?_eq_none (by omega)]at hk;simp at hk
abbrev bef(ops:Array Oper):Nat->Nat:=λi=>(Region.before ops).toList.getD i 0
def dQ(ops:Array Oper):List (List Nat):=(List.range ops.size).map λi=>(List.range ops.size).filter (bf (bef ops) i)
def iQ(ops:Array Oper):Bool:=fW ops 0 (bef ops) λ_=> []
def dn(ops:Array Oper):Bool:=iQ ops &&(jm ops).isNone
theorem tE{ops:Array Oper}(h:dn ops=true):iQ ops=true/\jm ops=none:=by
 unfold dn at h;simpa using h
def aZ(b:Nat)(O:List (List Nat))(N:List (Bool×List Nat))(i:Nat):List Nat:=O.getD i []++((N.getD i (false,[])).2.map (b+·)++if(N.getD i (false,[])).1 then [b+i]else [])
def jf(ops:Array Oper)(N:List (Bool×List Nat)):Bool:=(List.range ops.size).all λi=>(N.getD i (false,[])).2.all (λj=>(bef ops i).testBit j)&&(List.range ops.size).all λk=> !bf (bef ops) i k||ie (N.getD i (false,[])).2 (N.getD k (false,[])).2
theorem nb{α β:Type}{f g:α->List β}:∀{l:List α},(∀x∈l,f x=g x)->l.flatMap f=l.flatMap g
 | [],_=>rfl
 |x::l,h=>by rw [List.flatMap_cons,List.flatMap_cons,h x List.mem_cons_self,nb λy hy=>h y (List.mem_cons_of_mem _ hy)]
section
variable {E : Env} {cp : bw} {ops : Array Oper} {b : Nat}
theorem rg{U M:Nat->List Nat}:∀(l:List Oper) (i:Nat) (s s':St),bN E cp ops b U M i l s=some s'->iG E cp ops b i l s=some ((List.range' i l.length).map U)
 | [],i,s,s',h=>rfl
 |o::l,i,s,s',h=>by
  simp only [bN,zbB,zbE]at h;obtain⟨e,h1,h2⟩:=h;split at h2
  .rename_i hc;simp only [zbE]at h2;obtain⟨s1,h3,h4⟩:=h2;simp only [iG,zbB,zbE];refine⟨e,oe (vt _ _) h1,s1,h3,_,rg l (i+1) s1 s' h4,?_⟩;simp [List.range'_succ,hc.1]
  .simp at h2
theorem kG{U M U' M':Nat->List Nat}:∀(l:List Oper) (i:Nat) (s:St),(∀j,i<=j->j<i+l.length->U j=U' j/\M j=M' j)->bN E cp ops b U M i l s=bN E cp ops b U' M' i l s
 | [],i,s,h=>rfl
 |o::l,i,s,h=>by
  have h0:=h i (Nat.le_refl _) (by simp);simp only [bN,h0.1,h0.2,zbB];congr 1;funext e;split
  .congr 1;funext s1;exact kG l (i+1) s1 λj hj hl=>h j (by omega) (by simp;omega)
  .rfl
def DJ:List (List Nat)->List (List Nat)->List (List Nat)->Prop
 |o::os,r::rs,O=>(∀j∈r,∀x∈o,x ∉ O.getD j [])/\DJ os rs O
 |_,_,_=>True
theorem GU:∀{os rs O:List (List Nat)},DJ os rs O->∀i j,j∈rs.getD i []->∀x∈os.getD i [],x ∉ O.getD j []
 | [],rs,O,h,i,j,hj,x,hx=>by simp at hx
 |o::os,[],O,h,i,j,hj,x,hx=>by simp at hj
 |o::os,r::rs,O,h,0,j,hj,x,hx=>h.1 j (by simpa using hj) x (by simpa using hx)
 |o::os,r::rs,O,h,i+1,j,hj,x,hx=>GU h.2 i j (by simpa using hj) x (by simpa using hx)
theorem BF{O:List (List Nat)}{N:List (Bool×List Nat)}(hq:dn ops=true)(hn:jf ops N=true)(hO:∀i j,i<ops.size->j<ops.size->bf (bef ops) i j=true->∀x∈O.getD i [],x ∉ O.getD j [])(hb:∀l∈O,∀k∈l,k<b){U:Nat->List Nat}(hU:∀i,i<ops.size->U i=aZ b O N i):fW ops b (bef ops) U=true:=by
 replace hq:=(tE hq).1;unfold iQ fW at hq;unfold fW;simp only [Bool.and_eq_true,List.all_eq_true]at hq ⊢;refine⟨hq.1,λx hx y hy=> ?_⟩;have q:=hq.2 x hx y hy
 have lt:∀z∈ops.toList.zipIdx,z.2<ops.size:=λz hz=>by
  have:=List.mk_mem_zipIdx_iff_getElem?.1 (show(z.1,z.2)∈ops.toList.zipIdx from hz)
  have:=(List.getElem?_eq_some_iff.1 this).1
  simpa using this
 have hold:∀i x,x∈O.getD i []->x<b:=λi x hx=>by
  rw [List.getD_eq_getElem?_getD]at hx
  cases hi:O[i]? with
  |none=>rw [hi]at hx;simp at hx
  |some l=>rw [hi]at hx;exact hb l (List.mem_of_getElem? hi) x (by simpa using hx)
 have hmem:∀i x,i<ops.size->x∈U i->x∈O.getD i []∨(∃j∈(N.getD i (false,[])).2,x=b+j)∨x=b+i:=λi x hi hx=>by
  rw [hU i hi]at hx;unfold aZ at hx;rcases List.mem_append.1 hx with h|h
  .exact .inl h
  .rcases List.mem_append.1 h with h|h
   .obtain⟨j,h1,h2⟩:=List.mem_map.1 h;exact .inr (.inl ⟨j,h1,h2.symm⟩)
   .split at h
    .exact .inr (.inr (by simpa using h))
    .simp at h
 have hN1:∀i j,i<ops.size->j∈(N.getD i (false,[])).2->(bef ops i).testBit j=true:=λi j hi hj=>by
  unfold jf at hn
  have:=List.all_eq_true.1 hn i (by simpa using hi)
  rw [Bool.and_eq_true]at this;exact List.all_eq_true.1 this.1 j hj
 have hN2:∀i k j,i<ops.size->k<ops.size->bf (bef ops) i k=true->j∈(N.getD i (false,[])).2->j ∉(N.getD k (false,[])).2:=λi k j hi hk hu hj=>by
  unfold jf at hn
  have:=List.all_eq_true.1 hn i (by simpa using hi)
  rw [Bool.and_eq_true]at this;have h2:=List.all_eq_true.1 this.2 k (by simpa using hk);rw [hu]at h2;simp only [Bool.not_true,Bool.false_or]at h2;unfold ie at h2
  have:=List.all_eq_true.1 h2 j hj
  simpa using this
 refine⟨⟨q.1.1,?_⟩,?_⟩
 .by_cases he:x.2=y.2
  .simp [he]
  .simp only [Bool.or_eq_true,Bool.not_eq_true',List.contains_eq_mem,decide_eq_false_iff_not];by_cases ht:(bef ops x.2).testBit y.2=true
   .exact .inl (.inr ht)
   refine .inr λhh=> ?_;rcases hmem _ _ (lt x hx) hh with h|⟨j,h1,h2⟩|h
   .have:=hold _ _ h;omega
   .have:j=y.2:=by omega
    subst this;exact ht (hN1 _ _ (lt x hx) h1)
   .omega
 .by_cases hu:bf (bef ops) x.2 y.2=true
  .have hu':=hu;unfold bf at hu';simp only [Bool.and_eq_true,bne_iff_ne,ne_eq,Bool.not_eq_true']at hu';obtain⟨⟨hne,hu1⟩,hu2⟩:=hu';have q2:=q.2;simp only [Bool.or_eq_true,Bool.not_eq_true',Bool.and_eq_true]at q2 ⊢;refine .inr ⟨(q2.resolve_left (by rw [hu];simp)).1,?_⟩;unfold ie;rw [List.all_eq_true];intro z hz;simp only [Bool.not_eq_true',List.contains_eq_mem,decide_eq_false_iff_not];intro hz2;rcases hmem _ _ (lt x hx) hz with h|⟨j,h1,h2⟩|h
   .rcases hmem _ _ (lt y hy) hz2 with g|⟨k,g1,g2⟩|g
    .exact hO _ _ (lt x hx) (lt y hy) hu z h g
    .have:=hold _ _ h;omega
    .have:=hold _ _ h;omega
   .rcases hmem _ _ (lt y hy) hz2 with g|⟨k,g1,g2⟩|g
    .have:=hold _ _ g;omega
    .have:j=k:=by omega
     subst this;exact hN2 _ _ _ (lt x hx) (lt y hy) hu h1 g1
    .have:j=y.2:=by omega
     subst this
     have:=hN1 _ _ (lt x hx) h1
     rw [hu1]at this;simp at this
   .rcases hmem _ _ (lt y hy) hz2 with g|⟨k,g1,g2⟩|g
    .have:=hold _ _ g;omega
    .have:k=x.2:=by omega
     subst this
     have:=hN1 _ _ (lt y hy) g1
     rw [hu2]at this;simp at this
    .omega
  .have hu':bf (bef ops) x.2 y.2=false:=by simpa using hu
   rw [hu'];rfl
theorem BG{O:List (List Nat)}{N:List (Bool×List Nat)}{R:List (List Nat)}{s s':St}(hq:dn ops=true)(hn:jf ops N=true)(hR:dQ ops=R)(hO:DJ O R O)(hb:∀l∈O,∀k∈l,k<s.h.length)
  (h:bN E cp ops s.h.length (aZ s.h.length O N) (λi=>(R.getD i []).flatMap (aZ s.h.length O N)) 0 ops.toList {s with h:=s.h++List.replicate ops.size .no}=some s'):fX E cp ops s=some s':=by
 have h1:=rg _ _ _ _ h;unfold fX;simp only [zbB,zbE];refine⟨_,h1,?_⟩
 have hU:∀i,i<ops.size->((List.range' 0 ops.toList.length).map (aZ s.h.length O N)).getD i []=aZ s.h.length O N i:=λi hi=>by
  rw [List.getD_eq_getElem?_getD,List.getElem?_map,List.getElem?_range' (by simpa using hi)];simp
 have hO':∀i j,i<ops.size->j<ops.size->bf (bef ops) i j=true->∀x∈O.getD i [],x ∉ O.getD j []:=λi j hi hj hu=>by
  refine GU hO i j ?_;rw [<-hR];unfold dQ;rw [List.getD_eq_getElem?_getD,List.getElem?_map,List.getElem?_range hi];simp only [Option.map_some,Option.getD_some];rw [List.mem_filter];exact⟨by simpa using hj,hu⟩
 rw [if_pos (BF hq hn hO' hb hU),<-h];refine kG _ _ _ λj _ hj=>⟨hU j (by simpa using hj),?_⟩;have hj':j<ops.size:=by simpa using hj
 subst hR;unfold dQ;rw [List.getD_eq_getElem?_getD,List.getElem?_map,List.getElem?_range hj',List.getD_eq_getElem?_getD,List.getElem?_map,List.getElem?_range hj'];simp only [Option.map_some,Option.getD_some];refine nb λk hk=>hU k ?_
 have:=(List.mem_filter.1 hk).1
 simpa using this
end
section
variable {E : Env} {y : Nat → dC} {n : Nat}
theorem tF{id:Nat}{ops:Array Oper}{Q:Ex->St->Prop}{s:St}(O:List (List Nat))(N:List (Bool×List Nat))(R:List (List Nat))(hq:dn ops=true)(hn:jf ops N=true)(hR:dQ ops=R)(hO:DJ O R O)(hb:∀l∈O,∀k∈l,k<s.h.length)
  (h:bP (Q .normal) (bN E (cpR E n) ops s.h.length (aZ s.h.length O N) (λi=>(R.getD i []).flatMap (aZ s.h.length O N)) 0 ops.toList {s with h:=s.h++List.replicate ops.size .no})):WpC E y n (.region id ops true) Q s:=by
 refine Dy (tE hq).2 ?_
 cases hs:bN E (cpR E n) ops s.h.length (aZ s.h.length O N) (λi=>(R.getD i []).flatMap (aZ s.h.length O N)) 0 ops.toList {s with h:=s.h++List.replicate ops.size .no}with
 |none=>rw [hs]at h;exact h.elim
 |some s'=>rw [BG hq hn hR hO hb hs];rw [hs]at h;exact h
def evQ(E:Env)(cp:bw)(ops:Array Oper)(H:ak)(b:Nat):Nat->List Oper->List D->Option (List D)
 |_,[],t=>some t
 |i,o::r,t=>do
  let e<-step E cp ops (b+i) o (only (dq ops o) t) H
  if e.upd.isEmpty then evQ E cp ops H b (i+1) r (<-jk t o.dst e.v)else none
theorem oh{cp:bw}{ops:Array Oper}{H:ak}{b:Nat}:∀(l:List Oper) (i:Nat) (t t':List D),evQ E cp ops H b i l t=some t'->bN E cp ops b (λ_=> []) (λ_=> []) i l {t,h:=H}=some {t:=t',h:=H}
 | [],i,t,t',h=>by simp only [evQ,zsI]at h;subst h;rfl
 |o::l,i,t,t',h=>by
  simp only [evQ,zbB,zbE]at h;obtain⟨e,h1,h2⟩:=h;split at h2
  .rename_i hc;have hu:e.upd= []:=by simpa using hc
   simp only [zbE]at h2;obtain⟨t1,h3,h4⟩:=h2;simp only [bN,zbB,zbE];refine⟨e,h1,?_⟩;rw [if_pos (by simp [ids,hu])];simp only [zbE];exact⟨{t:=t1,h:=H},by simp [put,h3,hu,Ev.apply],oh l (i+1) t1 t' h4⟩
  .simp at h2
theorem BH{id:Nat}{ops:Array Oper}{Q:Ex->St->Prop}{s:St}(hq:dn ops=true)(h:bP (λt=>Q .normal {t,h:=s.h++List.replicate ops.size .no}) (evQ E (cpR E n) ops (s.h++List.replicate ops.size .no) s.h.length 0 ops.toList s.t)):WpC E y n (.region id ops true) Q s:=by
 cases hs:evQ E (cpR E n) ops (s.h++List.replicate ops.size .no) s.h.length 0 ops.toList s.t with
 |none=>rw [hs]at h;exact h.elim
 |some t'=>
  rw [hs]at h;refine tF [] [] (dQ ops) hq (by unfold jf;simp [ie]) rfl trivial (by simp) ?_;have e1:(aZ s.h.length [] [])=λ_=> []:=by funext i;simp [aZ]
  have e2:(λi=>((dQ ops).getD i []).flatMap (aZ s.h.length [] []))=λ_=> []:=by funext i;rw [e1];simp
  rw [e2,e1]
  have:=oh _ _ _ _ hs
  rw [this];exact h
end
end Ev
end
noncomputable section
namespace Ev
open Go Go.RowKit
def tab(n:Nat)(f:Nat->D):List D:=(List.range n).map f
def upd(f:Nat->D)(d:Nat)(v:D):Nat->D:=λi=>if i=d then v else f i
theorem Iv(f:Nat->D)(d:Nat)(v:D)(i:Nat):upd f d v i=if i=d then v else f i:=rfl
theorem nc(n:Nat)(f:Nat->D):(tab n f).length=n:=by simp [tab]
theorem gK(n:Nat)(f:Nat->D)(i:Nat):(tab n f)[i]? =if i<n then some (f i)else none:=by
 unfold tab;rw [List.getElem?_map];by_cases h:i<n
 .rw [List.getElem?_range h,if_pos h];rfl
 .rw [List.getElem?_eq_none (by simpa using h),if_neg h];rfl
theorem pT(n:Nat)(f:Nat->D)(d:Nat)(v:D):(tab n f).set d v=tab n (upd f d v):=by
 refine List.ext_getElem? λi=> ?_;rw [List.getElem?_set,gK,gK,nc,Iv];by_cases h:d=i
 .subst h;by_cases hn:d<n
  .rw [if_pos rfl,if_pos hn,if_pos hn,if_pos rfl]
  .rw [if_pos rfl,if_neg hn,if_neg hn]
 .rw [if_neg h,if_neg (λe:i=d=>h e.symm)]
theorem DA(t:List D):t=tab t.length λi=>t.getD i bu:=by
 refine List.ext_getElem? λi=> ?_;rw [gK,List.getD_eq_getElem?_getD];by_cases h:i<t.length
 .rw [if_pos h,List.getElem?_eq_getElem h];rfl
 .rw [if_neg h,List.getElem?_eq_none (by omega)]
section
variable {E : Env} {y : Nat → dC} {n : Nat}
theorem xk{k:FuncId}{f:FI}{vs:List TD}{r:Kind×List TD}(ha:E.ax k=none)(hf:E.fn k=some f)(hl:vs.length<=f.nt)
  (h:WpC E nY n f.body (yB E f.results r) {t:=tab f.nt λi=>(vs.map (bZ false)).getD i bu,h:= []}):RunsP E (n+1) k vs r:=by
 refine Ga ha hf ?_
 have e:vs.map (bZ false)++List.replicate (f.nt - vs.length) bu=tab f.nt λi=>(vs.map (bZ false)).getD i bu:=by
  rw [DA (vs.map (bZ false)++List.replicate (f.nt - vs.length) bu)];have hlen:(vs.map (bZ false)++List.replicate (f.nt - vs.length) bu).length=f.nt:=by simp;omega
  rw [hlen];unfold tab;congr 1;funext i;rw [List.getD_eq_getElem?_getD,List.getD_eq_getElem?_getD];by_cases hi:i<(vs.map (bZ false)).length
  .rw [List.getElem?_append_left hi]
  .rw [List.getElem?_append_right (by omega),List.getElem?_replicate,List.getElem?_eq_none (show(vs.map (bZ false)).length<=i by omega)];split<;>rfl
 rw [e];exact h
end
theorem fc{α β:Type}{f g:α->Option β}:∀{l:List α},(∀x∈l,f x=g x)->l.mapM f=l.mapM g
 | [],_=>rfl
 |x::l,h=>by rw [List.mapM_cons,List.mapM_cons,h x List.mem_cons_self,fc λy hy=>h y (List.mem_cons_of_mem _ hy)]
theorem DB{E:Env}{nid:Nat}{o:Oper}{ρ ρ':Operand->Option D}{H:ak}(h:∀x∈o.op.operands.toList,ρ x=ρ' x):sem E nid o ρ H=sem E nid o ρ' H:=by
 unfold sem
 cases ho:o.op with
 |move x=>simp only [h x (by simp [ho,Op.operands])]
 |assign x=>simp only [h x (by simp [ho,Op.operands])]
 |pick c a b=>simp only [h c (by simp [ho,Op.operands]),h a (by simp [ho,Op.operands]),h b (by simp [ho,Op.operands])]
 |alloc e=>rfl
 |box e x=>simp only [h x (by simp [ho,Op.operands])]
 |build ty parts=>
  have:(parts.toList.mapM λ(i,x)=>(ρ x).map λd=>(i,d))=parts.toList.mapM λ(i,x)=>(ρ' x).map λd=>(i,d):=fc λx hx=>by
   show(ρ x.2).map _=(ρ' x.2).map _;rw [h x.2 (by simp [ho,Op.operands];exact⟨x.1,by simpa using hx⟩)]
  simp only [this]
 |buildSlice ty len parts=>
  have:(parts.toList.mapM λ(i,x)=>(ρ x).map λd=>(i,d))=parts.toList.mapM λ(i,x)=>(ρ' x).map λd=>(i,d):=fc λx hx=>by
   show(ρ x.2).map _=(ρ' x.2).map _;rw [h x.2 (by simp [ho,Op.operands];exact⟨x.1,by simpa using hx⟩)]
  simp only [this]
 |load ty a=>simp only [h a (by simp [ho,Op.operands])]
 |store ty a x=>simp only [h a (by simp [ho,Op.operands]),h x (by simp [ho,Op.operands])]
 |binOp op ty x y sh=>simp only [h x (by simp [ho,Op.operands]),h y (by simp [ho,Op.operands])]
 |unOp op ty x=>simp only [h x (by simp [ho,Op.operands])]
 |convert src dst x=>simp only [h x (by simp [ho,Op.operands])]
 |makeFunc fn first cap=>
  have h1:∀x∈first.toList,ρ x=ρ' x:=λx hx=>h x (by simp [ho,Op.operands];simp at hx;simp [hx]);have h2:∀x∈cap.toList,ρ x=ρ' x:=λx hx=>h x (by simp [ho,Op.operands];simp at hx;simp [hx]);have e1:=fc (g:=λx=>(ρ' x).bind λd=>match d with| .one c=>some c|_=>none) (λx hx=>congrArg (λy=>Option.bind y λd=>match d with| .one c=>some c|_=>none) (h1 x hx));have e2:=fc (g:=λx=>(ρ' x).bind λd=>match d with| .one c=>some c|_=>none) (λx hx=>congrArg (λy=>Option.bind y λd=>match d with| .one c=>some c|_=>none) (h2 x hx));have key:∀{a b a' b':Option (List C)},a=a'->b=b'->(a.bind λf=>b.bind λg=>some ({v:= .one (.clo fn f g)}:Eff))=a'.bind λf=>b'.bind λg=>some {v:= .one (.clo fn f g)}:=λh1 h2=>by rw [h1,h2]
  exact key e1 e2
 |makeSlice ty l c=>simp only [h l (by simp [ho,Op.operands]),h c (by simp [ho,Op.operands])]
 |slice ty x lo hi mx=>
  have h1:∀d,de ρ hi d=de ρ' hi d:=λd=>by cases hi with|none=>rfl|some y=>simp only [de];rw [h y (by simp [ho,Op.operands])]
  have h2:∀d,de ρ lo d=de ρ' lo d:=λd=>by cases lo with|none=>rfl|some y=>simp only [de];rw [h y (by simp [ho,Op.operands])]
  have h3:∀d,de ρ mx d=de ρ' mx d:=λd=>by cases mx with|none=>rfl|some y=>simp only [de];rw [h y (by simp [ho,Op.operands])]
  simp only [h x (by simp [ho,Op.operands]),h1,h2,h3]
 |fieldAddr ty x f=>simp only [h x (by simp [ho,Op.operands])]
 |field ty x f=>simp only [h x (by simp [ho,Op.operands])]
 |indexAddr ty x ix=>simp only [h x (by simp [ho,Op.operands]),h ix (by simp [ho,Op.operands])]
 |index ty x ix=>simp only [h x (by simp [ho,Op.operands]),h ix (by simp [ho,Op.operands])]
 |extract tp ix=>simp only [h tp (by simp [ho,Op.operands])]
 |nilCheck x=>simp only [h x (by simp [ho,Op.operands])]
 |call c=>
  cases hc:c.callee with
  |builtin b=>
   have h1:c.args.toList.mapM ρ=c.args.toList.mapM ρ':=fc λx hx=>h x (by simp [ho,Op.operands,Call.operands,hc];simpa using hx);simp only [h1]
  |_=>simp only [hc]
 |_=>rfl
theorem tG{E:Env}{cp:bw}{ops:Array Oper}{nid:Nat}{o:Oper}{t:List D}{H:ak}:step E cp ops nid o (only (dq ops o) t) H=step E cp ops nid o (aE t) H:=by
 have hl:∀x∈o.op.operands.toList,ay (only (dq ops o) t) x=ay (aE t) x:=λx hx=>by
  cases x with
  |tmp i=>
   have:i∈dq ops o:=by
    unfold dq;rw [List.mem_append];exact .inl (List.mem_filterMap.2 ⟨.tmp i,hx,rfl⟩)
   simp [ay,only,this]
  |_=>rfl
 have hw:dD ops (only (dq ops o) t) o=dD ops (aE t) o:=by
  unfold dD
  cases hg:o.guard with
  |none=>rfl
  |some p=>
   obtain⟨j,want⟩:=p;simp only
   cases hj:ops[j]? with
   |none=>rfl
   |some g=>
    cases hd:g.dst with
    |none=>simp [hd]
    |some d=>
     have:d∈dq ops o:=by
      unfold dq;rw [List.mem_append];refine .inr ?_;simp only [hg,hj,zbS,hd];simp
     simp [hd,only,this]
 unfold step;rw [hw];congr 1;funext b;split
 .cases hc:aV o.op with
  |none=>exact DB hl
  |some c=>
   have ho:o.op= .call c:=by
    unfold aV at hc;split at hc
    .rename_i c' ho;split at hc
     .simp at hc
     .simp only [zsI]at hc;subst hc;exact ho
    .simp at hc
   have hr:cr c (ay (only (dq ops o) t))=cr c (ay (aE t)):=by
    unfold cr
    cases hcc:c.callee with
    |value f=>
     have h1:c.args.toList.mapM (ay (only (dq ops o) t))=c.args.toList.mapM (ay (aE t)):=fc λx hx=>hl x (by simp [ho,Op.operands,Call.operands,hcc];simp at hx;simp [hx]);simp only [h1,hl f (by simp [ho,Op.operands,Call.operands,hcc])]
    |_=>rfl
   have hp:fV cp nid c (only (dq ops o) t) H=fV cp nid c (aE t) H:=by
    unfold fV;simp only [hr]
   exact hp
 .rfl
def evR(E:Env)(cp:bw)(ops:Array Oper)(H:ak)(b:Nat):Nat->List Oper->List D->Option (List D)
 |_,[],t=>some t
 |i,o::r,t=>do
  let e<-step E cp ops (b+i) o (aE t) H
  if e.upd.isEmpty then evR E cp ops H b (i+1) r (<-jk t o.dst e.v)else none
theorem yE{E:Env}{cp:bw}{ops:Array Oper}{H:ak}{b:Nat}:∀(l:List Oper) (i:Nat) (t:List D),evR E cp ops H b i l t=evQ E cp ops H b i l t
 | [],_,_=>rfl
 |o::l,i,t=>by
  simp only [evR,evQ,tG];congr 1;funext e;split
  .congr 1;funext t';exact yE l (i+1) t'
  .rfl
def evW(E:Env)(cp:bw)(ops:Array Oper)(b:Nat)(U M:Nat->List Nat):Nat->List Oper->St->Option St
 |_,[],s=>some s
 |i,o::r,s=>do
  let e<-step E cp ops (b+i) o (aE s.t) (mask s.h (M i))
  if ids e=U i/\(U i).all (·<s.h.length)=true then evW E cp ops b U M (i+1) r (<-put o s e)else none
theorem DC{E:Env}{cp:bw}{ops:Array Oper}{b:Nat}{U M:Nat->List Nat}:∀(l:List Oper) (i:Nat) (s:St),evW E cp ops b U M i l s=bN E cp ops b U M i l s
 | [],_,_=>rfl
 |o::l,i,s=>by
  simp only [evW,bN,tG];congr 1;funext e;split
  .congr 1;funext s1;exact DC l (i+1) s1
  .rfl
section
variable {E : Env} {y : Nat → dC} {n : Nat}
theorem BI{id:Nat}{ops:Array Oper}{Q:Ex->St->Prop}{t:List D}{h:ak}(hq:dn ops=true)(hh:∀h',h'.length=h.length+ops.size->(∀k,ao h' k=ao h k)->bP (λt=>Q .normal {t,h:=h'}) (evR E (cpR E n) ops h' h.length 0 ops.toList t)):WpC E y n (.region id ops true) Q {t,h}:=by
 refine BH hq ?_;rw [<-yE];exact hh _ (by simp) λk=>lH _ _ _
theorem DD{id:Nat}{ops:Array Oper}{Q:Ex->St->Prop}{t:List D}{h:ak}(O:List (List Nat))(N:List (Bool×List Nat))(R:List (List Nat))(hq:dn ops=true)(hn:jf ops N=true)(hR:dQ ops=R)(hO:DJ O R O)(hb:∀l∈O,∀k∈l,k<h.length)
  (hh:∀h',h'.length=h.length+ops.size->(∀k,ao h' k=ao h k)->bP (Q .normal) (evW E (cpR E n) ops h.length (aZ h.length O N) (λi=>(R.getD i []).flatMap (aZ h.length O N)) 0 ops.toList {t,h:=h'})):WpC E y n (.region id ops true) Q {t,h}:=by
 refine tF O N R hq hn hR hO hb ?_;rw [<-DC];exact hh _ (by simp) λk=>lH _ _ _
end
end Ev
end
noncomputable section
namespace Ev
open Go Go.RowKit
def gOf(ops:Array Oper)(o:Oper):Option (Option (Tmp×Bool)):=
 match o.guard with
 |none=>some none
 |some (j,w)=>((ops.toList[j]?).bind λg=>g.dst).map λd=>some (d,w)
def tH(t:Tmp->Option D):Option (Tmp×Bool)->Option Bool
 |none=>some true
 |some (d,w)=>do
  match<-t d with
  | .one (.p _ (.v (.bool b)))=>some (b==w)
  | .tup []=>some false
  |_=>none
def pG(op:Op):Oper:={dst:=none,op,type:=0,pos:= "",after:=#[],guard:=none}
def stepG(E:Env)(cp:bw)(g:Option (Tmp×Bool))(nid:Nat)(op:Op)(t:Tmp->Option D)(H:ak):Option Eff:=do
 if<-tH t g then
  match aV op with
  |some c=>fV cp nid c t H
  |none=>sem E nid (pG op) (ay t) H
 else some {v:=bu}
theorem iv{E:Env}{cp:bw}{ops:Array Oper}{g:Option (Tmp×Bool)}{nid:Nat}{o:Oper}{t:Tmp->Option D}{H:ak}(hg:gOf ops o=some g):step E cp ops nid o t H=stepG E cp g nid o.op t H:=by
 have hw:dD ops t o=tH t g:=by
  unfold gOf at hg;unfold dD
  cases ho:o.guard with
  |none=>rw [ho]at hg;simp only [zsI]at hg;subst hg;rfl
  |some p=>
   obtain⟨j,w⟩:=p;rw [ho]at hg;simp only [Option.map_eq_some_iff]at hg;obtain⟨d,h1,h2⟩:=hg;subst h2;rw [zbE]at h1;obtain⟨o',h3,h4⟩:=h1;have h3':ops[j]? =some o':=by simpa using h3
   simp only [h3',h4,zbB,zbS,tH];rfl
 unfold step stepG;rw [hw];rfl
theorem jS(H:ak):Ev.apply H []=H:=rfl
section
variable {E : Env} {y : Nat → dC} {n : Nat} {cp : bw} {cf : fG} {ops : Array Oper} {Q : St → Prop} {QT : List D → Prop} {o : Oper} {r : List Oper} {f : Nat → D} {H H' : ak} {v : D} {u : List (Nat × Blk)} {d : Nat}
variable {g : Option (Tmp × Bool)}
variable {b i : Nat}
theorem GV(hg:gOf ops o=some g)(hd:o.dst=some d)(hn:d<n)(hs:stepG E cp g (b+i) o.op (aE (tab n f)) H=some ⟨v,[]⟩)(h:bP QT (evR E cp ops H b (i+1) r (tab n (upd f d v)))):bP QT (evR E cp ops H b i (o::r) (tab n f)):=by
 rw [<-iv hg]at hs
 have:evR E cp ops H b i (o::r) (tab n f)=evR E cp ops H b (i+1) r (tab n (upd f d v)):=by
  simp only [evR,hs,hd,jk,nc,hn,if_true,pT,zbB,zbS,List.isEmpty_nil]
 rw [this];exact h
theorem DE(hg:gOf ops o=some g)(hd:o.dst=none)(hs:stepG E cp g (b+i) o.op (aE (tab n f)) H=some ⟨v,[]⟩)(h:bP QT (evR E cp ops H b (i+1) r (tab n f))):bP QT (evR E cp ops H b i (o::r) (tab n f)):=by
 rw [<-iv hg]at hs
 have:evR E cp ops H b i (o::r) (tab n f)=evR E cp ops H b (i+1) r (tab n f):=by
  simp only [evR,hs,hd,jk,if_true,zbB,zbS,List.isEmpty_nil]
 rw [this];exact h
variable {U M : Nat → List Nat}
theorem GW(hg:gOf ops o=some g)(hd:o.dst=some d)(hn:d<n)(hs:stepG E cp g (b+i) o.op (aE (tab n f)) (mask H (M i))=some ⟨v,u⟩)(hi:u.map (·.1)=U i)(hl:(U i).all (·<H.length)=true)(hu:Ev.apply H u=H')(h:bP Q (evW E cp ops b U M (i+1) r {t:=tab n (upd f d v),h:=H'})):
  bP Q (evW E cp ops b U M i (o::r) {t:=tab n f,h:=H}):=by
 subst hu;rw [<-iv hg]at hs
 have:evW E cp ops b U M i (o::r) {t:=tab n f,h:=H}=evW E cp ops b U M (i+1) r {t:=tab n (upd f d v),h:=Ev.apply H u}:=by
  simp only [evW,hs,put,hd,jk,nc,hn,if_true,pT,zbB,zbS,ids,hi,hl,and_self]
 rw [this];exact h
theorem DF(hg:gOf ops o=some g)(hd:o.dst=none)(hs:stepG E cp g (b+i) o.op (aE (tab n f)) (mask H (M i))=some ⟨v,u⟩)(hi:u.map (·.1)=U i)(hl:(U i).all (·<H.length)=true)(hu:Ev.apply H u=H')(h:bP Q (evW E cp ops b U M (i+1) r {t:=tab n f,h:=H'})):
  bP Q (evW E cp ops b U M i (o::r) {t:=tab n f,h:=H}):=by
 subst hu;rw [<-iv hg]at hs
 have:evW E cp ops b U M i (o::r) {t:=tab n f,h:=H}=evW E cp ops b U M (i+1) r {t:=tab n f,h:=Ev.apply H u}:=by
  simp only [evW,hs,put,hd,jk,if_true,zbB,zbS,ids,hi,hl,and_self]
 rw [this];exact h
end
section
variable {E : Env} {y : Nat → dC} {n : Nat}
theorem yF{id:Nat}{l:List Oper}{Q:Ex->St->Prop}{t:List D}{h:ak}(k:Nat)(hk:l.length=k)(hq:dn l.toArray=true)(hh:∀h',h'.length=h.length+k->(∀k,ao h' k=ao h k)->bP (λt=>Q .normal {t,h:=h'}) (evR E (cpR E n) l.toArray h' h.length 0 l t)):WpC E y n (.region id l.toArray true) Q {t,h}:=
 BI hq λh' h1 h2=>by simpa using hh h' (by simpa [hk]using h1) h2
theorem BJ{id:Nat}{l:List Oper}{Q:Ex->St->Prop}{t:List D}{h:ak}(k:Nat)(hk:l.length=k)(O:List (List Nat))(N:List (Bool×List Nat))(R:List (List Nat))(hq:dn l.toArray=true)(hn:jf l.toArray N=true)(hR:dQ l.toArray=R)(hO:DJ O R O)(hb:∀l∈O,∀k∈l,k<h.length)
  (hh:∀h',h'.length=h.length+k->(∀k,ao h' k=ao h k)->bP (Q .normal) (evW E (cpR E n) l.toArray h.length (aZ h.length O N) (λi=>(R.getD i []).flatMap (aZ h.length O N)) 0 l {t,h:=h'})):WpC E y n (.region id l.toArray true) Q {t,h}:=
 DD O N R hq hn hR hO hb λh' h1 h2=>by simpa using hh h' (by simpa [hk]using h1) h2
end
end Ev
end
noncomputable section
namespace Ev
open Go Go.RowKit
def fieldAt(ti:TypeId->Option TI)(ty m:Nat):Option (Nat×Nat×Bool):=(ti ty).bind λt=>(fk t m).bind λfd=>(ti fd.type).bind λft=>some (fd.offset,ft.size,aH ft.desc)
def gS(ti:TypeId->Option TI)(ty:Nat):Option (Nat×Bool):=(ti ty).bind λt=>some (t.size,aH t.desc)
def eQ(ti:TypeId->Option TI)(ty:Nat):Option Nat:=(ti ty).bind λt=>(aP t).bind λe=>(ti e).bind λte=>some te.size
def zO:Option D->Option Eff
 |some d=>some ⟨d,[]⟩
 |none=>none
def yG:Option (Nat×Nat×Bool)->Option D->Option Eff
 |some (off,sz,_),some (.one (.ptr k i j))=>if sz=0 then none else some ⟨.one (.ptr k i (j+off)),[]⟩
 |some (off,sz,_),some (.one (.iptr fr s l i j))=>if sz=0 then none else some ⟨.one (.iptr fr s l i (j+off)),[]⟩
 |_,_=>none
def vw:Option D->Option Eff
 |some d=>some ⟨d,[]⟩
 |none=>none
def kOf(agg:Bool):Option (List C)->Option D
 |some cs=>bR agg cs
 |none=>none
def yH(j n:Nat):Option (List C)->Option (List C)
 |some cs=>cut cs j n
 |none=>none
def Iw(i:Nat):Option (Nat×List (List C))->Option (List C)
 |some (_,es)=>es[i]?
 |none=>none
def kIn(fr:Bool):Option (List T)->Option (List C)
 |some e=>some (e.map (pC fr))
 |none=>none
def eR(H:ak):Option (Nat×Bool)->Option D->Option Eff
 |some (sz,agg),some (.one (.ptr k i j))=>vw (kOf agg (yH j (if agg then sz else 1) (Iw i (ao H k))))
 |some (sz,agg),some (.one (.iptr fr _ l i j))=>vw (kOf agg (yH j (if agg then sz else 1) (kIn fr l[i]?)))
 |_,_=>none
def DG:Option D->Option D->Option D->Option Eff
 |some (.one (.p _ (.v (.bool true)))),a,_=>zO a
 |some (.one (.p _ (.v (.bool false)))),_,b=>zO b
 |_,_,_=>none
def oW(P:Program)(ti:TypeId->Option TI)(op:BinOp)(ty:TypeId)(x y:Operand)(a b:D):Option Eff:=
 match a,y with
 | .one (.p _ (.s nn _ _)),.const (.slice none 0 0)=>do
  let _<-aP (<-ti ty)
  match op with
  | .eql=>some {v:=mk (.bool (!nn))}
  | .neq=>some {v:=mk (.bool nn)}
  |_=>none
 | .one (.own ..),.const (.slice none 0 0)=>do
  let _<-aP (<-ti ty)
  match op with
  | .eql=>some {v:=mk (.bool false)}
  | .neq=>some {v:=mk (.bool true)}
  |_=>none
 |_,_=>do
  let va<-plain a
  let vb<-plain b
  mkO (<-al P (do eqGuard op ty x y va vb;binOp op ty va vb))
def Gc(P:Program)(ti:TypeId->Option TI)(op:BinOp)(ty:TypeId)(x y:Operand):Option D->Option D->Option Eff
 |some a,some b=>oW P ti op ty x y a b
 |_,_=>none
def Og(i:Nat)(fr:Bool)(sz:Nat)(l:List (List T)):Option Nat->Option Eff
 |some te=>if i<l.length/\sz=te then some ⟨.one (.iptr fr sz l i 0),[]⟩else none
 |none=>none
def Oh(i k off n:Nat):Option Nat->Option (Nat×List (List C))->Option Eff
 |some te,some (bz,_)=>if i<n/\bz=te then some ⟨.one (.ptr k (off+i) 0),[]⟩else none
 |_,_=>none
def xl(ti:TypeId->Option TI)(ty:TypeId)(H:ak)(i:Nat)(d:D):Option Eff:=do
 let t<-ti ty
 match d with
 | .one (.p fr (.s _ sz l))=>do
  let te<-ti (<-aP t)
  if i<l.length/\sz=te.size then some {v:= .one (.iptr fr sz l i 0)}else none
 | .one (.own k off n)=>do
  let te<-ti (<-aP t)
  let(bz,_)<-ao H k
  if i<n/\bz=te.size then some {v:= .one (.ptr k (off+i) 0)}else none
 | .one (.ptr k i' j)=>
  match t.desc with
  | .array n e=>do
   let te<-ti e
   if i<n then some {v:= .one (.ptr k i' (j+i*te.size))}else none
  |_=>none
 | .one (.iptr fr sz l i' j)=>
  match t.desc with
  | .array n e=>do
   let te<-ti e
   if i<n then some {v:= .one (.iptr fr sz l i' (j+i*te.size))}else none
  |_=>none
 |_=>none
def kIx(ti:TypeId->Option TI)(ty:TypeId)(H:ak):Option D->Option Nat->Option Eff
 |some d,some i=>xl ti ty H i d
 |_,_=>none
def yI(j:Nat)(cs:List C):Option (List C)->Option (List C)
 |some e=>patch e j cs
 |none=>none
def DH(k i bz:Nat)(es:List (List C)):Option (List C)->Option Eff
 |some e'=>some ⟨bu,[(k,.own bz (es.set i e'))]⟩
 |none=>none
def Gd(k i j sz:Nat):Option (List C)->Option (Nat×List (List C))->Option Eff
 |some cs,some (bz,es)=>if cs.length=sz then DH k i bz es (yI j cs es[i]?)else none
 |_,_=>none
def rh(H:ak):Option (Nat×Bool)->Option D->Option D->Option Eff
 |some (sz,_),some (.one (.ptr k i j)),some x=>Gd k i j sz (eb x) (ao H k)
 |_,_,_=>none
def Kf:Option D->Option Nat
 |some d=>eC d
 |none=>none
section
variable {E : Env} {cp : bw} {nid : Nat} {t : Tmp → Option D} {H : ak}
theorem DI{x:Operand}:stepG E cp none nid (.move x) t H=zO (ay t x):=by
 show(ay t x).bind (λd=>some (⟨d,[]⟩:Eff))=_;cases ay t x<;>rfl
theorem DK{x:Operand}:stepG E cp none nid (.assign x) t H=zO (ay t x):=by
 show(ay t x).bind (λd=>some (⟨d,[]⟩:Eff))=_;cases ay t x<;>rfl
theorem zP{ty:TypeId}{x:Operand}{m:Nat}:stepG E cp none nid (.fieldAddr ty x m) t H=yG (fieldAt E.ti ty m) (ay t x):=by
 show((E.ti ty).bind λt'=>(fk t' m).bind λfd=>(E.ti fd.type).bind λft=>if ft.size=0 then none else(ay t x).bind λd=>match d with
  | .one (.ptr k i j)=>some (⟨.one (.ptr k i (j+fd.offset)),[]⟩:Eff)
  | .one (.iptr fr sz l i j)=>some ⟨.one (.iptr fr sz l i (j+fd.offset)),[]⟩
  |_=>none)=_
 unfold fieldAt
 cases E.ti ty with
 |none=>rfl
 |some t'=>
  simp only [zbS]
  cases fk t' m with
  |none=>rfl
  |some fd=>
   simp only [zbS]
   cases E.ti fd.type with
   |none=>rfl
   |some ft=>
    simp only [zbS]
    cases hx:ay t x with
    |none=>split<;>rfl
    |some d=>
     cases d with
     |one c=>cases c<;>simp only [yG,zbS]<;>split<;>rfl
     |_=>simp only [yG,zbS];split<;>rfl
theorem DL{ty:TypeId}{x:Operand}:stepG E cp none nid (.load ty x) t H=eR H (gS E.ti ty) (ay t x):=by
 show((E.ti ty).bind λt'=>(ay t x).bind λd=>(load H (aH t'.desc) (if aH t'.desc then t'.size else 1) d).bind λv=>some (⟨v,[]⟩:Eff))=_;unfold gS
 cases E.ti ty with
 |none=>rfl
 |some t'=>
  simp only [zbS]
  cases ay t x with
  |none=>rfl
  |some d=>
   simp only [zbS]
   cases d with
   |one c=>
    cases c with
    |ptr k i j=>
     simp only [eR,load]
     cases ao H k with
     |none=>rfl
     |some p=>
      obtain⟨bz,es⟩:=p;simp only [zbB,zbS,Iw]
      cases es[i]? with
      |none=>rfl
      |some e=>
       simp only [zbS,yH];generalize cut e j _=z
       cases z with
       |none=>rfl
       |some cs=>simp only [zbS,kOf];cases bR _ cs<;>rfl
    |iptr fr sz l i j=>
     simp only [eR,load]
     cases l[i]? with
     |none=>rfl
     |some e=>
      simp only [zbB,zbS,kIn,yH];generalize cut _ j _=z
      cases z with
      |none=>rfl
      |some cs=>simp only [zbS,kOf];cases bR _ cs<;>rfl
    |_=>rfl
   |_=>rfl
theorem xm{op:BinOp}{ty sh:TypeId}{x y:Operand}:stepG E cp none nid (.binOp op ty x y sh) t H=Gc E.P E.ti op ty x y (ay t x) (ay t y):=by
 show((ay t x).bind λa=>(ay t y).bind λb=>oW E.P E.ti op ty x y a b)=_
 cases ay t x with
 |none=>rfl
 |some a=>
  cases ay t y with
  |none=>rfl
  |some b=>rfl
theorem Ix{P:Program}{ti:TypeId->Option TI}{op:BinOp}{ty:TypeId}{x y:Operand}{fr fr':Bool}{k k':IntKind}{a b:Int}:
  oW P ti op ty x y (.one (.p fr (.v (.int k a)))) (.one (.p fr' (.v (.int k' b))))=(al P (do eqGuard op ty x y (.int k a) (.int k' b);binOp op ty (.int k a) (.int k' b))).bind mkO:=rfl
theorem Iy{c a b:Operand}:stepG E cp none nid (.pick c a b) t H=DG (ay t c) (ay t a) (ay t b):=by
 show((ay t c).bind λd=>(asBool d).bind λz=>if z then(ay t a).bind λv=>some (⟨v,[]⟩:Eff)else(ay t b).bind λv=>some ⟨v,[]⟩)=_
 cases ay t c with
 |none=>rfl
 |some d=>
  simp only [zbS]
  cases d with
  |one e=>
   cases e with
   |p fr z=>
    cases z with
    |v z=>
     cases z with
     |bool z=>
      cases z
      .simp only [asBool,zbS,DG,Bool.false_eq_true,if_false];cases ay t b<;>rfl
      .simp only [asBool,zbS,DG,if_true];cases ay t a<;>rfl
     |_=>rfl
    |_=>rfl
   |_=>rfl
  |_=>rfl
theorem pU{ty:TypeId}{x ix:Operand}:stepG E cp none nid (.indexAddr ty x ix) t H=kIx E.ti ty H (ay t x) (Kf (ay t ix)):=by
 show((E.ti ty).bind λt'=>(ay t ix).bind λdi=>(eC di).bind λi=>(ay t x).bind λd=>_)=_
 cases h1:ay t x with
 |none=>
  simp only [Option.bind_none,kIx]
  cases E.ti ty with
  |none=>rfl
  |some t'=>
   cases ay t ix with
   |none=>rfl
   |some di=>simp only [zbS];cases eC di<;>rfl
 |some d=>
  cases h2:ay t ix with
  |none=>cases E.ti ty<;>rfl
  |some di=>
   simp only [Kf,zbS]
   cases h3:eC di with
   |none=>cases E.ti ty<;>rfl
   |some i=>
    simp only [zbS,kIx,xl];rfl
theorem Oi{ti:TypeId->Option TI}{ty:TypeId}{i:Nat}{fr nn:Bool}{sz:Nat}{l:List (List T)}:xl ti ty H i (.one (.p fr (.s nn sz l)))=Og i fr sz l (eQ ti ty):=by
 show((ti ty).bind λt'=>(aP t').bind λe=>(ti e).bind λte=>if i<l.length/\sz=te.size then some (⟨.one (.iptr fr sz l i 0),[]⟩:Eff)else none)=_;unfold eQ
 cases ti ty with
 |none=>rfl
 |some t'=>
  simp only [zbS]
  cases aP t' with
  |none=>rfl
  |some e=>
   simp only [zbS];cases ti e<;>rfl
theorem Oj{ti:TypeId->Option TI}{ty:TypeId}{i k off n:Nat}:xl ti ty H i (.one (.own k off n))=Oh i k off n (eQ ti ty) (ao H k):=by
 show((ti ty).bind λt'=>(aP t').bind λe=>(ti e).bind λte=>(ao H k).bind λp=>match p with|(bz,_)=>if i<n/\bz=te.size then some (⟨.one (.ptr k (off+i) 0),[]⟩:Eff)else none)=_;unfold eQ
 cases ti ty with
 |none=>rfl
 |some t'=>
  simp only [zbS]
  cases aP t' with
  |none=>rfl
  |some e=>
   simp only [zbS]
   cases ti e with
   |none=>rfl
   |some te=>simp only [zbS];cases ao H k<;>rfl
theorem Ge{ty:TypeId}{a x:Operand}:stepG E cp none nid (.store ty a x) t H=rh H (gS E.ti ty) (ay t a) (ay t x):=by
 show((E.ti ty).bind λt'=>(ay t a).bind λd=>(ay t x).bind λv=>store H t'.size d v)=_;unfold gS
 cases E.ti ty with
 |none=>rfl
 |some t'=>
  simp only [zbS]
  cases ay t a with
  |none=>rfl
  |some d=>
   simp only [zbS]
   cases ay t x with
   |none=>cases d with|one c=>cases c<;>rfl|_=>rfl
   |some v=>
    simp only [zbS]
    cases d with
    |one c=>
     cases c with
     |ptr k i j=>
      simp only [rh,store]
      cases eb v with
      |none=>rfl
      |some cs=>
       simp only [zbB,zbS]
       cases ao H k with
       |none=>simp only [Gd];split<;>rfl
       |some p=>
        obtain⟨bz,es⟩:=p;simp only [zbS,Gd];split
        .cases es[i]? with
         |none=>rfl
         |some e=>simp only [zbS,yI];cases patch e j cs<;>rfl
        .rfl
     |_=>rfl
    |_=>rfl
theorem lI{c:Call}:stepG E cp none nid (.call c) t H=match aV (.call c)with
  |some c=>fV cp nid c t H
  |none=>sem E nid (pG (.call c)) (ay t) H:=rfl
end
end Ev
end
noncomputable section
namespace Ev
open Go Go.RowKit
structure Sl(α:Type)where
 nn:Bool
 sz:Nat
 l:List α
def Sl.t{α:Type}(r:α->List T)(s:Sl α):T:= .s s.nn s.sz (s.l.map r)
def cK{α:Type}(r:α->List T)(x:α):List C:=(r x).map (pC true)
abbrev iT(k:IntKind)(n:Int):T:= .v (.int k n)
abbrev bT(b:Bool):T:= .v (.bool b)
abbrev iC(k:IntKind)(n:Int):C:= .p true (.v (.int k n))
abbrev bC(b:Bool):C:= .p true (.v (.bool b))
abbrev iD(k:IntKind)(n:Int):D:= .one (iC k n)
abbrev bD(b:Bool):D:= .one (bC b)
def up(f:Nat->D)(d:Nat)(v:D):Nat->D:=λi=>cond (Nat.beq i d) v (f i)
theorem ri(f:Nat->D)(d:Nat)(v:D):upd f d v=up f d v:=by
 funext i;unfold upd up
 cases hb:Nat.beq i d with
 |true=>rw [if_pos (Nat.eq_of_beq_eq_true hb)];rfl
 |false=>rw [if_neg (Nat.ne_of_beq_eq_false hb)];rfl
abbrev B1:=Nat×Nat×List (List C)
abbrev BL:=List (List B1)
def HBf(h:ak)(L:List B1):Prop:=(L.map (·.1)).Nodup/\∀x∈L,ao h x.1=some x.2
def HB(h:ak)(L:BL):Prop:=HBf h L.flatten
section
variable {h : ak} {L : BL} {p k sz : Nat} {es : List (List C)}
theorem Gf{s:List B1}(hp:L[p]? =some s){x:B1}(hx:x∈s):x∈L.flatten:=List.mem_flatten.2 ⟨s,List.mem_of_getElem? hp,hx⟩
theorem HB.get(hb:HB h L)(hp:L[p]? =some [(k,sz,es)]):ao h k=some (sz,es):=hb.2 (k,sz,es) (Gf hp (List.mem_singleton.2 rfl))
end
def ov(nt:Nat)(f:Nat->D):Operand->Option D
 | .tmp i=>cond (Nat.blt i nt) (some (f i)) none
 | .const v=>kM v
 | .global _=>none
 | .func k=>some (mk (.func (.func k) #[] #[]))
theorem bm(nt:Nat)(f:Nat->D)(x:Operand):ay (aE (tab nt f)) x=ov nt f x:=by
 cases x with
 |tmp i=>
  show(tab nt f)[i]? =cond (Nat.blt i nt) (some (f i)) none;rw [gK]
  cases h2:Nat.blt i nt with
  |true=>rw [if_pos (by simpa using h2)];rfl
  |false=>rw [if_neg (λh=>by have:Nat.blt i nt=true:=(by simpa using h);rw [h2]at this;exact absurd this (by simp))];rfl
 |_=>rfl
theorem fe(nt:Nat)(f:Nat->D):ay (aE (tab nt f))=ov nt f:=funext (bm nt f)
def wb(w:Bool):Option D->Option Bool
 |some (.one (.p _ (.v (.bool b))))=>some (b==w)
 |some (.tup [])=>some false
 |_=>none
theorem Kg(w:Bool)(z:Option D)(b:Bool)(h:wb w z=some b):(z.bind λd=>match d with
   | .one (.p _ (.v (.bool b)))=>some (b==w)
   | .tup []=>some false
   |_=>none)=some b:=by
 revert h
 cases z with
 |none=>exact λh=>by simp [wb]at h
 |some x=>
  cases x with
  |one c=>
   cases c with
   |p fr t=>cases t with
    |v z=>cases z<;>exact λh=>h
    |s _ _ _=>exact λh=>h
   |_=>exact λh=>h
  |agg _=>exact λh=>h
  |tup ds=>cases ds<;>exact λh=>h
def iw(ops:Array Oper)(o:Oper)(nt:Nat)(f:Nat->D):Option Bool:=
 match o.guard with
 |none=>some true
 |some (j,w)=>
  match(ops.toList[j]?).bind λg=>g.dst with
  |some d=>wb w (ov nt f (.tmp d))
  |none=>none
theorem jw{ops:Array Oper}{o:Oper}{nt:Nat}{f:Nat->D}{b:Bool}(h:iw ops o nt f=some b):∃g,gOf ops o=some g/\tH (aE (tab nt f)) g=some b:=by
 unfold iw at h;unfold gOf
 cases hg:o.guard with
 |none=>rw [hg]at h;simp only [zsI]at h;subst h;exact⟨none,rfl,rfl⟩
 |some q=>
  obtain⟨j,w⟩:=q;rw [hg]at h;simp only at h ⊢
  cases hd:(ops.toList[j]?).bind λg=>g.dst with
  |none=>rw [hd]at h;simp at h
  |some d=>
   rw [hd]at h;refine⟨some (d,w),by simp,?_⟩;have he:aE (tab nt f) d=ov nt f (.tmp d):=bm nt f (.tmp d)
   have:=Kg w _ b h
   rw [<-he]at this;exact this
def PS(E:Env)(n nt:Nat)(f:Nat->D)(L:BL)(op:Op)(v:D):Prop:=∀(h:ak) (nid:Nat),HB h L->stepG E (cpR E n) none nid op (aE (tab nt f)) h=some ⟨v,[]⟩
def PN(E:Env)(n nt:Nat)(f:Nat->D)(L:BL)(op:Op)(v:Nat->D)(sz:Nat)(es:List (List C)):Prop:=∀(h:ak) (nid:Nat),HB h L->stepG E (cpR E n) none nid op (aE (tab nt f)) h=some ⟨v nid,[(nid,.own sz es)]⟩
def PW(E:Env)(n nt:Nat)(f:Nat->D)(L:BL)(op:Op)(v:D)(p k sz:Nat)(es:List (List C)):Prop:=(∃x,L[p]? =some [(k,x)])/\∀(h:ak) (nid:Nat),HB h L->stepG E (cpR E n) none nid op (aE (tab nt f)) h=some ⟨v,[(k,.own sz es)]⟩
def gT(E:Env)(y:Nat->dC)(n:Nat)(ops:Array Oper)(l:List Oper)(K:St->Prop)(s:St):Prop:=∃s',(∃M,∀m,M<=m->oD E (bH E y m n).1 (bH E y m n).2 ops l s=some s')/\K s'
theorem DM{E:Env}{y:Nat->dC}{n:Nat}{ops:Array Oper}{K:St->Prop}{s:St}(h:K s):gT E y n ops [] K s:=⟨s,⟨0,λ_ _=>rfl⟩,h⟩
theorem tI{E:Env}{y:Nat->dC}{n:Nat}{ops:Array Oper}{o:Oper}{r:List Oper}{K:St->Prop}{s s1:St}(h1:∃M,∀m,M<=m->AC E (bH E y m n).1 (bH E y m n).2 ops o s=some s1)(h2:gT E y n ops r K s1):gT E y n ops (o::r) K s:=by
 obtain⟨M1,h1⟩:=h1;obtain⟨s',⟨M2,h2⟩,h3⟩:=h2;exact⟨s',⟨max M1 M2,λm hm=>by simp only [oD,h1 m (by omega),zbB,zbS];exact h2 m (by omega)⟩,h3⟩
theorem tJ{E:Env}{y:Nat->dC}{n:Nat}{ops:Array Oper}{o:Oper}{r:List Oper}{K:St->Prop}{s s1:St}{e:Eff}(hs:step E (cpR E n) ops s.h.length o (aE s.t) s.h=some e)(hp:put o s e=some s1)(h2:gT E y n ops r K s1):gT E y n ops (o::r) K s:=by
 obtain⟨M,hM⟩:=rd hs;refine tI ⟨M,λm hm=> ?_⟩ h2;unfold AC;rw [fN,hM m hm];exact hp
theorem DN{E:Env}{y:Nat->dC}{n:Nat}{id:Nat}{l:List Oper}{Q:Ex->St->Prop}{s:St}(h:gT E y n l.toArray l (Q .normal) s):WpC E y n (.region id l.toArray false) Q s:=by
 obtain⟨s',⟨M,h1⟩,h2⟩:=h;exact⟨.normal,s',⟨M,λm hm=>by simp only [evC,Bool.false_eq_true,if_false,h1 m hm];rfl⟩,h2⟩
section
variable {E : Env} {y : Nat → dC} {n : Nat} {ops : Array Oper} {Q : St → Prop} {o : Oper} {r : List Oper} {nt : Nat} {f : Nat → D} {H H' : ak} {v : D} {u : List (Nat × Blk)} {d : Nat} {g : Option (Tmp × Bool)}
theorem xn(hg:gOf ops o=some g)(hd:o.dst=some d)(hn:d<nt)(hs:stepG E (cpR E n) g H.length o.op (aE (tab nt f)) H=some ⟨v,u⟩)(hu:Ev.apply H u=H')(h:gT E y n ops r Q {t:=tab nt (upd f d v),h:=H'}):gT E y n ops (o::r) Q {t:=tab nt f,h:=H}:=by
 subst hu;rw [<-iv hg]at hs;exact tJ (s1:={t:=tab nt (upd f d v),h:=Ev.apply H u}) hs (by simp only [put,hd,jk,nc,hn,if_true,pT,zbB,zbS]) h
theorem tK(hg:gOf ops o=some g)(hd:o.dst=none)(hs:stepG E (cpR E n) g H.length o.op (aE (tab nt f)) H=some ⟨v,u⟩)(hu:Ev.apply H u=H')(h:gT E y n ops r Q {t:=tab nt f,h:=H'}):gT E y n ops (o::r) Q {t:=tab nt f,h:=H}:=by
 subst hu;rw [<-iv hg]at hs;exact tJ (s1:={t:=tab nt f,h:=Ev.apply H u}) hs (by simp only [put,hd,jk,zbB,zbS]) h
end
section
variable {E : Env} {y : Nat → dC} {n nt : Nat} {ops : Array Oper} {o : Oper} {r : List Oper} {K : St → Prop} {f : Nat → D} {L : BL} {d : Nat} {Q : Ex → St → Prop}
theorem nd{g:Option (Tmp×Bool)}{nid:Nat}{op:Op}{t:Tmp->Option D}{H:ak}{cp:bw}(h:tH t g=some true):stepG E cp g nid op t H=stepG E cp none nid op t H:=by
 unfold stepG;rw [h];rfl
theorem fT{g:Option (Tmp×Bool)}{nid:Nat}{op:Op}{t:Tmp->Option D}{H:ak}{cp:bw}(h:tH t g=some false):stepG E cp g nid op t H=some ⟨bu,[]⟩:=by
 unfold stepG;rw [h];rfl
theorem jx{a b:Nat}(h:Nat.blt a b=true):a<b:=by simpa using h
theorem hkn{z:Nat}:∀x∈([]:BL).flatten,x.1≠z:=λx hx=>by simp at hx
theorem hkc{A:BL}{z k:Nat}{y:Nat×List (List C)}(h1:k≠z)(h2:∀x∈A.flatten,x.1≠z):∀x∈([(k,y)]::A:BL).flatten,x.1≠z:=λx hx=>by
 rcases List.mem_cons.1 (show x∈(k,y)::A.flatten from hx)with rfl|hx
 .exact h1
 .exact h2 x hx
end
section
variable {A R : Type}
def gp(b:A->Option (A ⊕ R)):Nat->A->Option R
 |0,_=>none
 |m+1,a=>
  match b a with
  |none=>none
  |some (.inl a')=>gp b m a'
  |some (.inr r)=>some r
theorem lJ(b:A->Option (A ⊕ R)):∀(m:Nat) (a:A) (r:R),gp b m a=some r->∀k,m<=k->gp b k a=some r
 |0,a,r,h,k,hk=>by simp [gp]at h
 |m+1,a,r,h,k,hk=>by
  match k,hk with
  |k+1,hk=>
   unfold gp at h ⊢
   cases hb:b a with
   |none=>rw [hb]at h;simp at h
   |some x=>
    rw [hb]at h
    cases x with
    |inl a'=>exact lJ b m a' r h k (by omega)
    |inr r'=>exact h
open Classical in
def bI(b:A->Option (A ⊕ R))(a:A):Option R:=if h:∃r m,gp b m a=some r then some h.choose else none
theorem loopO_iff{b:A->Option (A ⊕ R)}{a:A}{r:R}:bI b a=some r↔∃m,gp b m a=some r:=by
 unfold bI;constructor
 .intro h;split at h
  .rename_i hx;obtain⟨m,hm⟩:=hx.choose_spec;exact⟨m,by rw [hm];exact h⟩
  .simp at h
 .rintro⟨m,hm⟩;have hx:∃r m,gp b m a=some r:=⟨r,m,hm⟩;rw [dif_pos hx];obtain⟨m',hm'⟩:=hx.choose_spec;have h1:=lJ b m a r hm (max m m') (by omega);have h2:=lJ b m' a _ hm' (max m m') (by omega);rw [h2]at h1;exact h1
theorem rj{b:A->Option (A ⊕ R)}{a:A}{r:R}(h:b a=some (.inr r)):bI b a=some r:=loopO_iff.2 ⟨1,by simp [gp,h]⟩
theorem yJ{b:A->Option (A ⊕ R)}{a a':A}(h:b a=some (.inl a')):bI b a=bI b a':=by
 have key:∀r,bI b a=some r↔bI b a'=some r:=λr=>by
  rw [loopO_iff,loopO_iff];constructor
  .rintro⟨m,hm⟩
   match m with
   |0=>simp [gp]at hm
   |m+1=>exact⟨m,by simpa [gp,h]using hm⟩
  .rintro⟨m,hm⟩;exact⟨m+1,by simpa [gp,h]using hm⟩
 cases h1:bI b a' with
 |none=>
  cases h2:bI b a with
  |none=>rfl
  |some r=>rw [(key r).1 h2]at h1;exact absurd h1 (by simp)
 |some r=>exact(key r).2 h1
theorem BM{E:Env}{y:Nat->dC}{n:Nat}{c:Code}(b:A->Option (A ⊕ R))(I:A->St->Prop)(J:R->Ex->St->Prop)(hN:∀r s,¬J r .normal s)
  (hb:∀a out s,b a=some out->I a s->WpC E y n c (λe s'=>match out with
   | .inl a'=>e= .normal/\I a' s'
   | .inr r=>J r e s') s):∀a r s,bI b a=some r->I a s->WpC E y n (.loop c) (J r) s:=by
 have key:∀k a r s,gp b k a=some r->I a s->∃e s',(∃M,∀m,M<=m->∀q,M<=q->gN (evC E (bH E y m n).1 (bH E y m n).2 m c) q s=some (e,s'))/\J r e s':=by
  intro k
  induction k with
  |zero=>intro a r s h;simp [gp]at h
  |succ k ih=>
   intro a r s h hs;unfold gp at h
   cases hba:b a with
   |none=>rw [hba]at h;simp at h
   |some out=>
    rw [hba]at h;obtain⟨e1,s1,⟨M1,h1⟩,h2⟩:=hb a out s hba hs
    cases out with
    |inl a'=>
     obtain⟨rfl,h3⟩:=h2;obtain⟨e2,s2,⟨M2,h5⟩,h6⟩:=ih a' r s1 h h3;refine⟨e2,s2,⟨max M1 M2+1,λm hm q hq=> ?_⟩,h6⟩
     match q,hq with
     |q+1,hq=>simp [gN,h1 m (by omega),h5 m (by omega) q (by omega)]
    |inr r'=>
     simp only [zsI]at h;subst h;refine⟨e1,s1,⟨M1+1,λm hm q hq=> ?_⟩,h2⟩
     match q,hq with
     |q+1,hq=>
      cases e1 with
      |normal=>exact absurd h2 (hN _ _)
      |exit id=>simp [gN,h1 m (by omega)]
      |ret=>simp [gN,h1 m (by omega)]
 intro a r s h hs;obtain⟨k,hk⟩:=loopO_iff.1 h;obtain⟨e,s',⟨M,h1⟩,h2⟩:=key k a r s hk hs;exact⟨e,s',⟨M,λm hm=>by simpa [evC]using h1 m hm m hm⟩,h2⟩
def JX{X Up KT:Type}(nt id:Nat)(S:X->KT->(Nat->D)->Nat->D)(SL:X->KT->BL)(G:Up->Ex->St->Prop):X ⊕ Up->Ex->St->Prop
 | .inl x,e,s=>e= .exit id/\∃k g,s.t=tab nt (S x k g)/\HB s.h (SL x k)
 | .inr u,e,s=>e= .ret/\G u .ret s
section
variable {X Up KT : Type} {nt id : Nat} {S : X → KT → (Nat → D) → Nat → D} {SL : X → KT → BL} {G : Up → Ex → St → Prop}
theorem Iz:∀r s,¬JX nt id S SL G r .normal s:=λr s h=>by
 cases r with
 |inl x=>exact absurd h.1 (by simp)
 |inr u=>exact absurd h.1 (by simp)
end
end
def atS{α:Type}(w:Nat)(s:Sl α)(i:Int):Option α:=if 0<=i/\s.sz=w then s.l[i.toNat]? else none
theorem DO{α:Type}{w:Nat}{s:Sl α}{i:Int}{x:α}(h:atS w s i=some x):0<=i/\s.sz=w/\s.l[i.toNat]? =some x:=by
 unfold atS at h;split at h
 .rename_i hc;exact⟨hc.1,hc.2,h⟩
 .simp at h
def atL{α:Type}(l:List α)(i:Int):Option α:=if 0<=i then l[i.toNat]? else none
theorem nf{α:Type}{l:List α}{i:Int}{x:α}(h:atL l i=some x):0<=i/\l[i.toNat]? =some x:=by
 unfold atL at h;split at h
 .rename_i hc;exact⟨hc,h⟩
 .simp at h
def cpL{α:Type}(l m:List α):Option (List α):=if m.length<=l.length then some (m++l.drop m.length)else none
theorem xo{α:Type}{l m r:List α}(h:cpL l m=some r):m.length<=l.length/\m++l.drop m.length=r:=by
 unfold cpL at h;split at h
 .exact⟨‹_›,Option.some.inj h⟩
 .cases h
theorem zQ{α:Type}{l m r:List α}(h:cpL l m=some r):r.length=l.length:=by
 obtain⟨h1,rfl⟩:=xo h;simp;omega
def app{α:Type}(l m:List α):Option (List α):=if l.length+m.length<=eh then some (l++m)else none
theorem ng{α:Type}{l m x:List α}(h:app l m=some x):l.length+m.length<=eh/\x=l++m:=by
 unfold app at h;split at h
 .rename_i hc;exact⟨hc,(Option.some.inj h).symm⟩
 .simp at h
end Ev
end
noncomputable section
namespace Ev
open Go Go.RowKit
section
variable {E : Env} {y : Nat → dC} {n nt : Nat} {f : Nat → D} {L : BL}
theorem IA{x:Operand}{v:D}(hx:ov nt f x=some v):PS E n nt f L (.move x) v:=λh nid hb=>by
 rw [DI,bm,hx];rfl
theorem DP{x:Operand}{v:D}(hx:ov nt f x=some v):PS E n nt f L (.assign x) v:=λh nid hb=>by
 rw [DK,bm,hx];rfl
theorem fw{op:BinOp}{ty sh:TypeId}{x y:Operand}{fa fb:Bool}{ka kb:IntKind}{a b:Int}{v:Value}(hx:ov nt f x=some (.one (.p fa (.v (.int ka a)))))(hy:ov nt f y=some (.one (.p fb (.v (.int kb b)))))
  (hp:al E.P (do eqGuard op ty x y (.int ka a) (.int kb b);binOp op ty (.int ka a) (.int kb b))=some v) (h1:one1 v=true):PS E n nt f L (.binOp op ty x y sh) (mk v):=λh nid hb=>by
 rw [xm,bm,hx,bm,hy];refine Eq.trans (b:=oW E.P E.ti op ty x y (.one (.p fa (.v (.int ka a)))) (.one (.p fb (.v (.int kb b))))) rfl ?_;rw [Ix,hp];show mkO v=_;unfold mkO;rw [if_pos h1]
theorem Gg{P:Program}{ti:TypeId->Option TI}{op:BinOp}{ty:TypeId}{x y:Operand}{fr fr':Bool}{a b:Bool}:
  oW P ti op ty x y (.one (.p fr (.v (.bool a)))) (.one (.p fr' (.v (.bool b))))=(al P (do eqGuard op ty x y (.bool a) (.bool b);binOp op ty (.bool a) (.bool b))).bind mkO:=rfl
theorem DQ{op:BinOp}{ty sh:TypeId}{x y:Operand}{fa fb:Bool}{a b:Bool}{v:Value}(hx:ov nt f x=some (.one (.p fa (.v (.bool a)))))(hy:ov nt f y=some (.one (.p fb (.v (.bool b)))))
  (hp:al E.P (do eqGuard op ty x y (.bool a) (.bool b);binOp op ty (.bool a) (.bool b))=some v) (h1:one1 v=true):PS E n nt f L (.binOp op ty x y sh) (mk v):=λh nid hb=>by
 rw [xm,bm,hx,bm,hy];refine Eq.trans (b:=oW E.P E.ti op ty x y (.one (.p fa (.v (.bool a)))) (.one (.p fb (.v (.bool b))))) rfl ?_;rw [Gg,hp];show mkO v=_;unfold mkO;rw [if_pos h1]
theorem IB{P:Program}{ti:TypeId->Option TI}{op:BinOp}{ty:TypeId}{x y:Operand}{a b:List C}:oW P ti op ty x y (.agg a) (.agg b)=(plain (.agg a)).bind λva=>(plain (.agg b)).bind λvb=>(al P (do eqGuard op ty x y va vb;binOp op ty va vb)).bind mkO:=rfl
theorem DR{op:BinOp}{ty sh:TypeId}{x y:Operand}{a b:List C}{va vb v:Value}(hx:ov nt f x=some (.agg a))(hy:ov nt f y=some (.agg b))(ha:plain (.agg a)=some va)(hb':plain (.agg b)=some vb)
  (hp:al E.P (do eqGuard op ty x y va vb;binOp op ty va vb)=some v) (h1:one1 v=true):PS E n nt f L (.binOp op ty x y sh) (mk v):=λh nid hb=>by
 rw [xm,bm,hx,bm,hy];refine Eq.trans (b:=oW E.P E.ti op ty x y (.agg a) (.agg b)) rfl ?_;rw [IB,ha,hb'];simp only [zbS];rw [hp];show mkO v=_;unfold mkO;rw [if_pos h1]
theorem DS{ty:TypeId}{x:Operand}{fr b:Bool}(hx:ov nt f x=some (.one (.p fr (.v (.bool b))))):PS E n nt f L (.unOp .not ty x) (bD (!b)):=λh nid hb=>by
 show((ay (aE (tab nt f)) x).bind λd=>(plain d).bind λv=>(al E.P (Op.unary .not v)).bind mkO)=_;rw [bm,hx];rfl
theorem Kh{ty:TypeId}{x:Operand}{fr:Bool}{k:IntKind}{a:Int}(hx:ov nt f x=some (.one (.p fr (.v (.int k a))))):PS E n nt f L (.unOp .neg ty x) (iD k (k.wrap (0 - a))):=λh nid hb=>by
 show((ay (aE (tab nt f)) x).bind λd=>(plain d).bind λv=>(al E.P (Op.unary .neg v)).bind mkO)=_;rw [bm,hx];rfl
theorem IC{src dst:TypeId}{x:Operand}{fr:Bool}{k:IntKind}{a:Int}{v:Value}(hx:ov nt f x=some (.one (.p fr (.v (.int k a)))))(hp:al E.P (Go.convert src dst (.int k a))=some v)(h1:one1 v=true):PS E n nt f L (.convert src dst x) (mk v):=λh nid hb=>by
 show sem E nid (pG (.convert src dst x)) (ay (aE (tab nt f))) h=_;unfold sem pG;simp only [bm,hx,zbB,zbS];show(al E.P (Go.convert src dst (.int k a))).bind mkO=_;rw [hp];show mkO v=_;unfold mkO;rw [if_pos h1]
theorem xp{ty:TypeId}{x:Operand}{m k i j off sz:Nat}{ag:Bool}(hx:ov nt f x=some (.one (.ptr k i j)))(ht:fieldAt E.ti ty m=some (off,sz,ag))(hz:Nat.beq sz 0=false):PS E n nt f L (.fieldAddr ty x m) (.one (.ptr k i (j+off))):=λh nid hb=>by
 rw [zP,bm,hx,ht];show(if sz=0 then none else _)=_;rw [if_neg (Nat.ne_of_beq_eq_false hz)]
theorem DT{ty:TypeId}{x:Operand}{m i j off sz s:Nat}{fr:Bool}{l:List (List T)}{ag:Bool}(hx:ov nt f x=some (.one (.iptr fr s l i j)))(ht:fieldAt E.ti ty m=some (off,sz,ag))(hz:Nat.beq sz 0=false):PS E n nt f L (.fieldAddr ty x m) (.one (.iptr fr s l i (j+off))):=λh nid hb=>by
 rw [zP,bm,hx,ht];show(if sz=0 then none else _)=_;rw [if_neg (Nat.ne_of_beq_eq_false hz)]
theorem DU{ty:TypeId}{x:Operand}{m off sz:Nat}{cs c2:List C}{ag:Bool}{v:D}(hx:ov nt f x=some (.agg cs))(ht:fieldAt E.ti ty m=some (off,sz,ag))(hc:cut cs off (cond ag sz 1)=some c2)(hv:bR ag c2=some v):PS E n nt f L (.field ty x m) v:=λh nid hb=>by
 show((E.ti ty).bind λt=>(fk t m).bind λfd=>(E.ti fd.type).bind λft=>(ay (aE (tab nt f)) x).bind λd=>match d with
  | .agg cs=>(cut cs fd.offset (if aH ft.desc then ft.size else 1)).bind λc=>(bR (aH ft.desc) c).bind λv=>some (⟨v,[]⟩:Eff)
  |_=>none)=_
 unfold fieldAt at ht;simp only [zbE,zsI,Prod.mk.injEq]at ht;obtain⟨t,h1,fd,h2,ft,h3,rfl,rfl,rfl⟩:=ht;rw [h1,bm,hx];simp only [zbS,h2,h3]
 have hc':cut cs fd.offset (if aH ft.desc then ft.size else 1)=some c2:=by
  rw [<-hc];cases aH ft.desc<;>rfl
 rw [hc'];simp only [zbS,hv]
theorem zR{α:Type}(b:Bool)(x y:α):(if b=true then x else y)=cond b x y:=by cases b<;>rfl
theorem vy{ty:TypeId}{x:Operand}{k i j sz bz:Nat}{ag:Bool}{es:List (List C)}{e cs:List C}{v:D}(p:Nat)(hx:ov nt f x=some (.one (.ptr k i j)))(hz:gS E.ti ty=some (sz,ag))(hp:L[p]? =some [(k,bz,es)])(he:es[i]? =some e)(hc:cut e j (cond ag sz 1)=some cs)(hv:bR ag cs=some v):PS E n nt f L (.load ty x) v:=λh nid hb=>by
 rw [DL,bm,hx,hz];show vw (kOf ag (yH j (if ag then sz else 1) (Iw i (ao h k))))=_;rw [hb.get hp,zR];show vw (kOf ag (yH j (cond ag sz 1) es[i]?))=_;rw [he];show vw (kOf ag (cut e j (cond ag sz 1)))=_;rw [hc];show vw (bR ag cs)=_;rw [hv];rfl
theorem Gh{ty:TypeId}{x:Operand}{i j sz s:Nat}{fr ag:Bool}{l:List (List T)}{e:List T}{cs:List C}{v:D}(hx:ov nt f x=some (.one (.iptr fr s l i j)))(hz:gS E.ti ty=some (sz,ag))(he:l[i]? =some e)(hc:cut (e.map (pC fr)) j (cond ag sz 1)=some cs)(hv:bR ag cs=some v):PS E n nt f L (.load ty x) v:=λh nid hb=>by
 rw [DL,bm,hx,hz];show vw (kOf ag (yH j (if ag then sz else 1) (kIn fr l[i]?)))=_;rw [he,zR];show vw (kOf ag (cut (e.map (pC fr)) j (cond ag sz 1)))=_;rw [hc];show vw (bR ag cs)=_;rw [hv];rfl
theorem vz{ty:TypeId}{a x:Operand}{k i j sz bz:Nat}{ag:Bool}{es es':List (List C)}{e e' cs:List C}{v:D}(p:Nat)(ha:ov nt f a=some (.one (.ptr k i j)))(hx:ov nt f x=some v)(hd:eb v=some cs)(hz:gS E.ti ty=some (sz,ag))(hs:Nat.beq cs.length sz=true)(hp:L[p]? =some [(k,bz,es)])(he:es[i]? =some e)(ht:patch e j cs=some e')(hes:es.set i e'=es'):PW E n nt f L (.store ty a x) bu p k bz es':=⟨⟨_,hp⟩,λh nid hb=>by
 rw [Ge,bm,ha,bm,hx,hz];show Gd k i j sz (eb v) (ao h k)=_;rw [hd,hb.get hp];show(if cs.length=sz then DH k i bz es (yI j cs es[i]?)else none)=_;rw [if_pos (Nat.eq_of_beq_eq_true hs),he];show DH k i bz es (patch e j cs)=_;rw [ht];subst hes
 rfl⟩
theorem Gi{ty:TypeId}{t:TI}{row:List C}{sz:Nat}(ht:E.ti ty=some t)(hr:fK t=row)(hs:t.size=sz):PN E n nt f L (.alloc ty) (λk=> .one (.ptr k 0 0)) sz [row]:=λh nid hb=>by
 show((E.ti ty).bind λt=>some (⟨.one (.ptr nid 0 0),[(nid,.own t.size [fK t])]⟩:Eff))=_;rw [ht];subst hr hs;rfl
theorem Ki{ty:TypeId}{x:Operand}{t:TI}{d:D}{cs:List C}{sz:Nat}(ht:E.ti ty=some t)(hx:ov nt f x=some d)(hc:eb d=some cs)(hs:cs.length=sz):PN E n nt f L (.box ty x) (λk=> .one (.ptr k 0 0)) sz [cs]:=λh nid hb=>by
 show((E.ti ty).bind λt=>(ay (aE (tab nt f)) x).bind λd=>(eb d).bind λcs=>some (⟨.one (.ptr nid 0 0),[(nid,.own cs.length [cs])]⟩:Eff))=_;rw [ht,bm,hx];simp only [zbS,hc];subst hs;rfl
def pV(nt:Nat)(f:Nat->D)(l:List (Nat×Operand)):Option (List (Nat×D)):=l.mapM λ((i,x):Nat×Operand)=>(ov nt f x).map λd=>(i,d)
theorem Gj{ty:TypeId}{parts:Array (Nat×Operand)}{t:TI}{ps:List (Nat×D)}{pl:Nat->Option (Nat×Nat)}{cs:List C}(ht:E.ti ty=some t)(hps:pV nt f parts.toList=some ps)(hpl:kK E.ti t=some pl)(hf:fill pl (fK t) ps=some cs):PS E n nt f L (.build ty parts) (.agg cs):=λh nid hb=>by
 show((E.ti ty).bind λt=>(parts.toList.mapM λ((i,x):Nat×Operand)=>(ay (aE (tab nt f)) x).map λd=>(i,d)).bind λps=>(kK E.ti t).bind λpl=>(fill pl (fK t) ps).bind λcs=>some (⟨.agg cs,[]⟩:Eff))=_;rw [ht,fe];simp only [zbS];have h1:(parts.toList.mapM λ((i,x):Nat×Operand)=>(ov nt f x).map λd=>(i,d))=some ps:=hps;simp only [h1,zbS,hpl,hf]
theorem gL{ti:TypeId->Option TI}{ty z:Nat}(h:eQ ti ty=some z):∃t e te,ti ty=some t/\aP t=some e/\ti e=some te/\te.size=z:=by
 unfold eQ at h;simp only [zbE,zsI]at h;obtain⟨t,h1,e,h2,te,h3,h4⟩:=h;exact⟨t,e,te,h1,h2,h3,h4⟩
theorem DV{ty ety:TypeId}{len z:Nat}{parts:Array (Nat×Operand)}{t te:TI}{ps:List (Nat×D)}{cs:List C}{es:List (List C)}(ht:E.ti ty=some t)(he:aP t=some ety)(hte:E.ti ety=some te)(hz:te.size=z)(hps:pV nt f parts.toList=some ps)(hf:fill (λi=>some (i*z,z)) (ku te len) ps=some cs)(hr:nI z cs len=some es)(hl:Nat.ble (len*z) 16777216=true):PN E n nt f L (.buildSlice ty len parts) (λk=> .one (.own k 0 len)) z es:=λh nid hb=>by
 show((E.ti ty).bind λt=>(aP t).bind λx=>(E.ti x).bind λe=>(parts.toList.mapM λ((i,x):Nat×Operand)=>(ay (aE (tab nt f)) x).map λd=>(i,d)).bind λps=>(fill (λi=>some (i*e.size,e.size)) (ku e len) ps).bind λcs=>(nI e.size cs len).bind λes=>if len*e.size<=2 ^ 24 then some (⟨.one (.own nid 0 len),[(nid,.own e.size es)]⟩:Eff)else none)=_;subst hz;rw [ht,fe];have h1:(parts.toList.mapM λ((i,x):Nat×Operand)=>(ov nt f x).map λd=>(i,d))=some ps:=hps;simp only [zbS,he,hte,h1,hf,hr];rw [if_pos (Nat.le_of_ble_eq_true hl)]
theorem Kj{x:Operand}{i:Nat}{ds:List D}{v:D}(hx:ov nt f x=some (.tup ds))(hi:ds[i]? =some v):PS E n nt f L (.extract x i) v:=λh nid hb=>by
 show((ay (aE (tab nt f)) x).bind λd=>match d with
  | .tup ds=>(ds[i]?).bind λv=>some (⟨v,[]⟩:Eff)
  |_=>none)=_
 rw [bm,hx];show(ds[i]?).bind _=_;rw [hi];rfl
theorem vA{α β:Type}{r:α->β}{l:List α}{i:Nat}{x:α}(h:l[i]? =some x):(l.map r)[i]? =some (r x):=by rw [List.getElem?_map,h];rfl
theorem DW{α:Type}{l:List α}{i:Nat}{x:α}(h:l[i]? =some x):i<l.length:=(List.getElem?_eq_some_iff.1 h).1
theorem map_set{α β:Type}{r:α->β}{l:List α}{i:Nat}{x:α}:(l.map r).set i (r x)=(l.set i x).map r:=(List.map_set).symm
theorem Kk{α:Type}{r:α->List T}{ty:TypeId}{x ix:Operand}{fr fb nn:Bool}{sz:Nat}{l:List α}{kb:IntKind}{i:Int}{y:α}(hx:ov nt f x=some (.one (.p fr (.s nn sz (l.map r)))))(hi:ov nt f ix=some (.one (.p fb (.v (.int kb i)))))(h0:0<=i)(hy:l[i.toNat]? =some y)(hz:eQ E.ti ty=some sz):PS E n nt f L (.indexAddr ty x ix) (.one (.iptr fr sz (l.map r) i.toNat 0)):=λh nid hb=>by
 rw [pU,bm,hx,bm,hi];show kIx E.ti ty h _ (eC (.one (.p fb (.v (.int kb i)))))=_;rw [eP _ _ _ h0];refine Eq.trans (b:=xl E.ti ty h i.toNat (.one (.p fr (.s nn sz (l.map r))))) rfl ?_;rw [Oi,hz];show(if i.toNat<(l.map r).length/\sz=sz then _ else _)=_;rw [if_pos ⟨by rw [List.length_map];exact DW hy,rfl⟩]
theorem GX{α:Type}{r:α->List C}{ty:TypeId}{x ix:Operand}{fb:Bool}{k sz:Nat}{l:List α}{kb:IntKind}{i:Int}{y:α}(p:Nat)(hx:ov nt f x=some (.one (.own k 0 l.length)))(hi:ov nt f ix=some (.one (.p fb (.v (.int kb i)))))(h0:0<=i)(hy:l[i.toNat]? =some y)(hp:L[p]? =some [(k,sz,l.map r)])(hz:eQ E.ti ty=some sz):PS E n nt f L (.indexAddr ty x ix) (.one (.ptr k i.toNat 0)):=λh nid hb=>by
 rw [pU,bm,hx,bm,hi];show kIx E.ti ty h _ (eC (.one (.p fb (.v (.int kb i)))))=_;rw [eP _ _ _ h0];refine Eq.trans (b:=xl E.ti ty h i.toNat (.one (.own k 0 l.length))) rfl ?_;rw [Oj,hz,hb.get hp];show(if i.toNat<l.length/\sz=sz then _ else _)=_;rw [if_pos ⟨DW hy,rfl⟩,Nat.zero_add]
theorem ID{c:Call}{a:Operand}{ty e:TypeId}{t:TI}{d:D}{m:Nat}(hc:c.callee= .builtin .len)(ha:c.args.toList= [a])(hty:c.argTypes[0]? =some ty)(ht:E.ti ty=some t)(hd:t.desc= .slice e)(hx:ov nt f a=some d)(hl:sq d=some m):PS E n nt f L (.call c) (iD .i64 m):=λh nid hb=>by
 have h1:aV (.call c)=none:=by unfold aV;simp only [hc]
 rw [lI,h1];unfold sem pG;simp only [hc,hty,ht,ha,fe,zbB,zbS,List.mapM_cons,List.mapM_nil,hx,Option.pure_def,hd,hl];rfl
theorem DX{α:Type}{r:α->List T}{fr nn:Bool}{sz:Nat}{l:List α}:sq (.one (.p fr (.s nn sz (l.map r))))=some l.length:=by
 show some (l.map r).length=_;rw [List.length_map]
def Kl(L:BL)(x:D)(xs:List (List C)):Prop:=∀h,HB h L->gz h x=some xs
theorem zS{α:Type}{r:α->List C}{k sz:Nat}{l:List α}(p:Nat)(hp:L[p]? =some [(k,sz,l.map r)]):Kl L (.one (.own k 0 l.length)) (l.map r):=λh hb=>by
 show((ao h k).bind λx=>cut x.2 0 l.length)=_;rw [hb.get hp];show cut (l.map r) 0 l.length=_;unfold cut;rw [if_pos (by simp),List.drop_zero,List.take_of_length_le (by simp)]
theorem Gk{α:Type}{r:α->List C}{ty:Nat}{x y:Operand}{t te:TI}{ety z:Nat}{fa fb:Bool}{ka kb:IntKind}{i j:Int}{a:α}(ht:E.ti ty=some t)(he:aP t=some ety)(hte:E.ti ety=some te)(hx:ov nt f x=some (.one (.p fa (.v (.int ka i)))))(hy:ov nt f y=some (.one (.p fb (.v (.int kb j)))))(h0:0<=i)(hij:i<=j)(hj:j.toNat<=eh)(hz:fK te=r a)(hs:te.size=z):PN E n nt f L (.makeSlice ty x y) (λk=> .one (.own k 0 (List.replicate i.toNat a).length)) z ((List.replicate i.toNat a).map r):=λh nid hb=>by
 show((E.ti ty).bind λt=>(aP t).bind λq=>(E.ti q).bind λe=>(ay (aE (tab nt f)) x).bind λdx=>(eC dx).bind λn=>(ay (aE (tab nt f)) y).bind λdy=>(eC dy).bind λm=>if n<=m/\m<=eh then some (⟨.one (.own nid 0 n),[(nid,.own e.size (List.replicate n (fK e)))]⟩:Eff)else none)=_;rw [ht];simp only [zbS,he,hte,bm,hx,hy,eP _ _ _ h0,eP _ _ _ (show 0<=j by omega)];rw [if_pos ⟨by omega,hj⟩,List.length_replicate,List.map_replicate,hz,hs]
theorem xq{α β γ:Type}{r:α->List β}{q:α->List γ}{g:β->Option (Bool×γ)}(hq:∀x,(r x).mapM g=some ((q x).map λt=>(true,t))):∀l:List α,((l.map r).mapM λe=>e.mapM g)=some ((l.map q).map λe=>e.map λt=>(true,t))
 | []=>rfl
 |x::l=>by
  rw [List.map_cons,List.mapM_cons,hq x,xq hq l];rfl
theorem yK{α:Type}{r:α->List T}{k sz:Nat}{l:List α}(p:Nat)(hp:L[p]? =some [(k,sz,l.map (cK r))])(hr:∀x h m,(cK r x).mapM (dS h (m+1))=some ((r x).map λt=>(true,t))):∀h,HB h L->∀m,dS h (m+2) (.own k 0 l.length)=some (true,.s true sz (l.map r)):=λh hb m=>by
 have hc:cut (l.map (cK r)) 0 l.length=some (l.map (cK r)):=by
  unfold cut;rw [if_pos (by simp),List.drop_zero,List.take_of_length_le (by simp)]
 have e1:dS h (m+2) (.own k 0 l.length)=(ao h k).bind λx=>(cut x.2 0 l.length).bind λes=>(es.mapM λe:List C=>e.mapM (dS h (m+1))).bind λq=>some (q.all (λe=>e.all (·.1)),T.s true x.1 (q.map (λe=>e.map (·.2)))):=rfl;rw [e1,hb.get hp];simp only [zbS,hc];rw [xq (q:=r) λx=>hr x h m];simp only [zbS,List.map_map];congr 2
 .rw [List.all_eq_true];intro x hx;simp only [List.mem_map]at hx;obtain⟨y,_,rfl⟩:=hx;rw [List.all_eq_true];intro z hz;simp only [Function.comp,List.mem_map]at hz;obtain⟨w,_,rfl⟩:=hz;rfl
 .congr 1;refine List.map_congr_left λx hx=> ?_;simp [Function.comp_def]
def Km(E:Env)(n:Nat)(k:FuncId)(vs:List TD)(rs:List TD):Prop:=∃fr:Bool,RunsP E n k vs (cond fr .fresh .any,rs)
def f0(vs:List TD):Nat->D:=λi=>(vs.map (bZ false)).getD i bu
end
def mo{α:Type}(w:Nat)(l:List α):Sl α:=
 match l with
 | []=>⟨false,0,[]⟩
 |_::_=>⟨true,w,l⟩
def moC{α:Type}(l:List α)(k:Nat):C:=
 match l with
 | []=> .p true (.s false 0 [])
 |_::_=> .own k 0 l.length
def IE(k:IntKind)(a b:Int):Option Int:=if b≠0 then some (k.wrap (a.tdiv b))else none
def IF(a b:Int):Option Int:=if b≠0 then some (a.tmod b)else none
theorem IG{P:Program}{t:TypeId}{x y:Operand}{k:IntKind}{a b z:Int}(h:IE k a b=some z):al P (do eqGuard .quo t x y (.int k a) (.int k b);binOp .quo t (.int k a) (.int k b))=some (.int k z):=by
 unfold IE at h;split at h
 .rename_i hc;rw [<-Option.some.inj h];exact JW _ _ _ _ _ _ _ hc
 .simp at h
theorem IH{P:Program}{t:TypeId}{x y:Operand}{k:IntKind}{a b z:Int}(h:IF a b=some z):al P (do eqGuard .rem t x y (.int k a) (.int k b);binOp .rem t (.int k a) (.int k b))=some (.int k z):=by
 unfold IF at h;split at h
 .rename_i hc;rw [<-Option.some.inj h];exact JY _ _ _ _ _ _ _ hc
 .simp at h
def DY(i:Int):Option Unit:=if 0<=i/\i.toNat<=eh then some ()else none
def DZ(i j:Int):Option Unit:=if i=j then some ()else if i<=j/\j.toNat<=eh then some ()else none
theorem yL{i j:Int}{u:Unit}(h:DZ i j=some u):i=j∨(i<=j/\j.toNat<=eh):=by
 unfold DZ at h;split at h
 .rename_i hi;exact .inl hi
 .split at h
  .rename_i hj;exact .inr hj
  .simp at h
theorem yN{i:Int}{u:Unit}(h:DY i=some u):0<=i/\i.toNat<=eh:=by
 unfold DY at h;split at h
 .assumption
 .simp at h
end Ev
end
end Go.Proofs.Ytkmbihigeeclbaa
