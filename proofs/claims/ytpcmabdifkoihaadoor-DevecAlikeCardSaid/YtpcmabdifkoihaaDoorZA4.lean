/- Texts of a claim, joined. -/
import Derived.Test.YtpcmabdifkoihaaDoorZA3
set_option linter.unusedVariables false
set_option linter.unusedSimpArgs false
namespace Go.Proofs.YtpcmabdifkoihaaDoor
noncomputable section
namespace Ev
open Go Go.RowKit
def tab(n:Nat)(f:Nat->D):List D:=(List.range n).map f
def upd(f:Nat->D)(d:Nat)(v:D):Nat->D:=λi=>if i=d then v else f i
theorem OK(f:Nat->D)(d:Nat)(v:D)(i:Nat):upd f d v i=if i=d then v else f i:=rfl
theorem kK(n:Nat)(f:Nat->D):(tab n f).length=n:=by simp [tab]
theorem jC(n:Nat)(f:Nat->D)(i:Nat):(tab n f)[i]? =if i<n then some (f i)else none:=by
 unfold tab;rw [List.getElem?_map];by_cases h:i<n
 .rw [List.getElem?_range h,if_pos h];rfl
 .rw [List.getElem?_eq_none (by simpa using h),if_neg h];rfl
theorem nc(n:Nat)(f:Nat->D)(d:Nat)(v:D):(tab n f).set d v=tab n (upd f d v):=by
 refine List.ext_getElem? λi=> ?_;rw [List.getElem?_set,jC,jC,kK,OK];by_cases h:d=i
 .subst h;by_cases hn:d<n
  .rw [if_pos rfl,if_pos hn,if_pos hn,if_pos rfl]
  .rw [if_pos rfl,if_neg hn,if_neg hn]
 .rw [if_neg h,if_neg (λe:i=d=>h e.symm)]
theorem JI(t:List D):t=tab t.length λi=>t.getD i co:=by
 refine List.ext_getElem? λi=> ?_;rw [jC,List.getD_eq_getElem?_getD];by_cases h:i<t.length
 .rw [if_pos h,List.getElem?_eq_getElem h];rfl
 .rw [if_neg h,List.getElem?_eq_none (by omega)]
section
variable {E : Env} {y : Nat → fu} {n : Nat}
theorem mE{k:FuncId}{f:FI}{vs:List TD}{r:Kind×List TD}(ha:E.ax k=none)(hf:E.fn k=some f)(hl:vs.length<=f.nt)
  (h:WpC E nY n f.body (hZ E f.results r) {t:=tab f.nt λi=>(vs.map (cR false)).getD i co,h:= []}):RunsP E (n+1) k vs r:=by
 refine LX ha hf ?_
 have e:vs.map (cR false)++List.replicate (f.nt - vs.length) co=tab f.nt λi=>(vs.map (cR false)).getD i co:=by
  rw [JI (vs.map (cR false)++List.replicate (f.nt - vs.length) co)];have hlen:(vs.map (cR false)++List.replicate (f.nt - vs.length) co).length=f.nt:=by simp;omega
  rw [hlen];unfold tab;congr 1;funext i;rw [List.getD_eq_getElem?_getD,List.getD_eq_getElem?_getD];by_cases hi:i<(vs.map (cR false)).length
  .rw [List.getElem?_append_left hi]
  .rw [List.getElem?_append_right (by omega),List.getElem?_replicate,List.getElem?_eq_none (show(vs.map (cR false)).length<=i by omega)];split<;>rfl
 rw [e];exact h
end
theorem js{α β:Type}{f g:α->Option β}:∀{l:List α},(∀x∈l,f x=g x)->l.mapM f=l.mapM g
 | [],_=>rfl
 |x::l,h=>by rw [List.mapM_cons,List.mapM_cons,h x List.mem_cons_self,js λy hy=>h y (List.mem_cons_of_mem _ hy)]
theorem JJ{E:Env}{nid:Nat}{o:Oper}{ρ ρ':Operand->Option D}{H:aC}(h:∀x∈o.op.operands.toList,ρ x=ρ' x):sem E nid o ρ H=sem E nid o ρ' H:=by
 unfold sem
 cases ho:o.op with
 |move x=>simp only [h x (by simp [ho,Op.operands])]
 |assign x=>simp only [h x (by simp [ho,Op.operands])]
 |pick c a b=>simp only [h c (by simp [ho,Op.operands]),h a (by simp [ho,Op.operands]),h b (by simp [ho,Op.operands])]
 |alloc e=>rfl
 |box e x=>simp only [h x (by simp [ho,Op.operands])]
 |build ty parts=>
  have:(parts.toList.mapM λ(i,x)=>(ρ x).map λd=>(i,d))=parts.toList.mapM λ(i,x)=>(ρ' x).map λd=>(i,d):=js λx hx=>by
   show(ρ x.2).map _=(ρ' x.2).map _;rw [h x.2 (by simp [ho,Op.operands];exact⟨x.1,by simpa using hx⟩)]
  simp only [this]
 |buildSlice ty len parts=>
  have:(parts.toList.mapM λ(i,x)=>(ρ x).map λd=>(i,d))=parts.toList.mapM λ(i,x)=>(ρ' x).map λd=>(i,d):=js λx hx=>by
   show(ρ x.2).map _=(ρ' x.2).map _;rw [h x.2 (by simp [ho,Op.operands];exact⟨x.1,by simpa using hx⟩)]
  simp only [this]
 |load ty a=>simp only [h a (by simp [ho,Op.operands])]
 |store ty a x=>simp only [h a (by simp [ho,Op.operands]),h x (by simp [ho,Op.operands])]
 |binOp op ty x y sh=>simp only [h x (by simp [ho,Op.operands]),h y (by simp [ho,Op.operands])]
 |unOp op ty x=>simp only [h x (by simp [ho,Op.operands])]
 |convert src dst x=>simp only [h x (by simp [ho,Op.operands])]
 |makeFunc fn first cap=>
  have h1:∀x∈first.toList,ρ x=ρ' x:=λx hx=>h x (by simp [ho,Op.operands];simp at hx;simp [hx]);have h2:∀x∈cap.toList,ρ x=ρ' x:=λx hx=>h x (by simp [ho,Op.operands];simp at hx;simp [hx]);have e1:=js (g:=λx=>(ρ' x).bind λd=>match d with| .one c=>some c|_=>none) (λx hx=>congrArg (λy=>Option.bind y λd=>match d with| .one c=>some c|_=>none) (h1 x hx));have e2:=js (g:=λx=>(ρ' x).bind λd=>match d with| .one c=>some c|_=>none) (λx hx=>congrArg (λy=>Option.bind y λd=>match d with| .one c=>some c|_=>none) (h2 x hx));have key:∀{a b a' b':Option (List C)},a=a'->b=b'->(a.bind λf=>b.bind λg=>some ({v:= .one (.clo fn f g)}:Eff))=a'.bind λf=>b'.bind λg=>some {v:= .one (.clo fn f g)}:=λh1 h2=>by rw [h1,h2]
  exact key e1 e2
 |makeSlice ty l c=>simp only [h l (by simp [ho,Op.operands]),h c (by simp [ho,Op.operands])]
 |slice ty x lo hi mx=>
  have h1:∀d,fD ρ hi d=fD ρ' hi d:=λd=>by cases hi with|none=>rfl|some y=>simp only [fD];rw [h y (by simp [ho,Op.operands])]
  have h2:∀d,fD ρ lo d=fD ρ' lo d:=λd=>by cases lo with|none=>rfl|some y=>simp only [fD];rw [h y (by simp [ho,Op.operands])]
  have h3:∀d,fD ρ mx d=fD ρ' mx d:=λd=>by cases mx with|none=>rfl|some y=>simp only [fD];rw [h y (by simp [ho,Op.operands])]
  simp only [h x (by simp [ho,Op.operands]),h1,h2,h3]
 |fieldAddr ty x f=>simp only [h x (by simp [ho,Op.operands])]
 |field ty x f=>simp only [h x (by simp [ho,Op.operands])]
 |indexAddr ty x ix=>simp only [h x (by simp [ho,Op.operands]),h ix (by simp [ho,Op.operands])]
 |index ty x ix=>simp only [h x (by simp [ho,Op.operands]),h ix (by simp [ho,Op.operands])]
 |extract tp ix=>simp only [h tp (by simp [ho,Op.operands])]
 |nilCheck x=>simp only [h x (by simp [ho,Op.operands])]
 |call c=>
  cases hc:c.callee with
  |builtin b=>
   have h1:c.args.toList.mapM ρ=c.args.toList.mapM ρ':=js λx hx=>h x (by simp [ho,Op.operands,Call.operands,hc];simpa using hx);simp only [h1]
  |_=>simp only [hc]
 |_=>rfl
theorem yE{E:Env}{cp:cU}{ops:Array Oper}{nid:Nat}{o:Oper}{t:List D}{H:aC}:step E cp ops nid o (only (looks ops o) t) H=step E cp ops nid o (aU t) H:=by
 have hl:∀x∈o.op.operands.toList,aS (only (looks ops o) t) x=aS (aU t) x:=λx hx=>by
  cases x with
  |tmp i=>
   have:i∈looks ops o:=by
    unfold looks;rw [List.mem_append];exact .inl (List.mem_filterMap.2 ⟨.tmp i,hx,rfl⟩)
   simp [aS,only,this]
  |_=>rfl
 have hw:gH ops (only (looks ops o) t) o=gH ops (aU t) o:=by
  unfold gH
  cases hg:o.guard with
  |none=>rfl
  |some p=>
   obtain⟨j,want⟩:=p;simp only
   cases hj:ops[j]? with
   |none=>rfl
   |some g=>
    cases hd:g.dst with
    |none=>simp [hd]
    |some d=>
     have:d∈looks ops o:=by
      unfold looks;rw [List.mem_append];refine .inr ?_;simp only [hg,hj,zbS,hd];simp
     simp [hd,only,this]
 unfold step;rw [hw];congr 1;funext b;split
 .cases hc:bi o.op with
  |none=>exact JJ hl
  |some c=>
   have ho:o.op= .call c:=by
    unfold bi at hc;split at hc
    .rename_i c' ho;split at hc
     .simp at hc
     .simp only [zsI]at hc;subst hc;exact ho
    .simp at hc
   have hr:bB c (aS (only (looks ops o) t))=bB c (aS (aU t)):=by
    unfold bB
    cases hcc:c.callee with
    |value f=>
     have h1:c.args.toList.mapM (aS (only (looks ops o) t))=c.args.toList.mapM (aS (aU t)):=js λx hx=>hl x (by simp [ho,Op.operands,Call.operands,hcc];simp at hx;simp [hx]);simp only [h1,hl f (by simp [ho,Op.operands,Call.operands,hcc])]
    |_=>rfl
   have hp:iv cp nid c (only (looks ops o) t) H=iv cp nid c (aU t) H:=by
    unfold iv;simp only [hr]
   exact hp
 .rfl
def evR(E:Env)(cp:cU)(ops:Array Oper)(H:aC)(b:Nat):Nat->List Oper->List D->Option (List D)
 |_,[],t=>some t
 |i,o::r,t=>do
  let e<-step E cp ops (b+i) o (aU t) H
  if e.upd.isEmpty then evR E cp ops H b (i+1) r (<-mn t o.dst e.v)else none
theorem EC{E:Env}{cp:cU}{ops:Array Oper}{H:aC}{b:Nat}:∀(l:List Oper) (i:Nat) (t:List D),evR E cp ops H b i l t=evQ E cp ops H b i l t
 | [],_,_=>rfl
 |o::l,i,t=>by
  simp only [evR,evQ,yE];congr 1;funext e;split
  .congr 1;funext t';exact EC l (i+1) t'
  .rfl
def evW(E:Env)(cp:cU)(ops:Array Oper)(b:Nat)(U M:Nat->List Nat):Nat->List Oper->St->Option St
 |_,[],s=>some s
 |i,o::r,s=>do
  let e<-step E cp ops (b+i) o (aU s.t) (mask s.h (M i))
  if ids e=U i/\(U i).all (·<s.h.length)=true then evW E cp ops b U M (i+1) r (<-put o s e)else none
theorem JK{E:Env}{cp:cU}{ops:Array Oper}{b:Nat}{U M:Nat->List Nat}:∀(l:List Oper) (i:Nat) (s:St),evW E cp ops b U M i l s=dI E cp ops b U M i l s
 | [],_,_=>rfl
 |o::l,i,s=>by
  simp only [evW,dI,yE];congr 1;funext e;split
  .congr 1;funext s1;exact JK l (i+1) s1
  .rfl
section
variable {E : Env} {y : Nat → fu} {n : Nat}
theorem HW{id:Nat}{ops:Array Oper}{Q:Ex->St->Prop}{t:List D}{h:aC}(hq:fB ops=true)(hh:∀h',h'.length=h.length+ops.size->(∀k,aJ h' k=aJ h k)->cH (λt=>Q .normal {t,h:=h'}) (evR E (cpR E n) ops h' h.length 0 ops.toList t)):WpC E y n (.region id ops true) Q {t,h}:=by
 refine HV hq ?_;rw [<-EC];exact hh _ (by simp) λk=>qd _ _ _
theorem JL{id:Nat}{ops:Array Oper}{Q:Ex->St->Prop}{t:List D}{h:aC}(O:List (List Nat))(N:List (Bool×List Nat))(R:List (List Nat))(hq:fB ops=true)(hn:mD ops N=true)(hR:gB ops=R)(hO:DJ O R O)(hb:∀l∈O,∀k∈l,k<h.length)
  (hh:∀h',h'.length=h.length+ops.size->(∀k,aJ h' k=aJ h k)->cH (Q .normal) (evW E (cpR E n) ops h.length (bg h.length O N) (λi=>(R.getD i []).flatMap (bg h.length O N)) 0 ops.toList {t,h:=h'})):WpC E y n (.region id ops true) Q {t,h}:=by
 refine yD O N R hq hn hR hO hb ?_;rw [<-JK];exact hh _ (by simp) λk=>qd _ _ _
end
end Ev
end
noncomputable section
namespace Ev
open Go Go.RowKit
def gOf(ops:Array Oper)(o:Oper):Option (Option (Tmp×Bool)):=
 match o.guard with
 |none=>some none
 |some (j,w)=>((ops.toList[j]?).bind λg=>g.dst).map λd=>some (d,w)
def yF(t:Tmp->Option D):Option (Tmp×Bool)->Option Bool
 |none=>some true
 |some (d,w)=>do
  match<-t d with
  | .one (.p _ (.v (.bool b)))=>some (b==w)
  | .tup []=>some false
  |_=>none
def sD(op:Op):Oper:={dst:=none,op,type:=0,pos:= "",after:=#[],guard:=none}
def stepG(E:Env)(cp:cU)(g:Option (Tmp×Bool))(nid:Nat)(op:Op)(t:Tmp->Option D)(H:aC):Option Eff:=do
 if<-yF t g then
  match bi op with
  |some c=>iv cp nid c t H
  |none=>sem E nid (sD op) (aS t) H
 else some {v:=co}
theorem mF{E:Env}{cp:cU}{ops:Array Oper}{g:Option (Tmp×Bool)}{nid:Nat}{o:Oper}{t:Tmp->Option D}{H:aC}(hg:gOf ops o=some g):step E cp ops nid o t H=stepG E cp g nid o.op t H:=by
 have hw:gH ops t o=yF t g:=by
  unfold gOf at hg;unfold gH
  cases ho:o.guard with
  |none=>rw [ho]at hg;simp only [zsI]at hg;subst hg;rfl
  |some p=>
   obtain⟨j,w⟩:=p;rw [ho]at hg;simp only [Option.map_eq_some_iff]at hg;obtain⟨d,h1,h2⟩:=hg;subst h2;rw [zbE]at h1;obtain⟨o',h3,h4⟩:=h1;have h3':ops[j]? =some o':=by simpa using h3
   simp only [h3',h4,zbB,zbS,yF];rfl
 unfold step stepG;rw [hw];rfl
theorem jt(H:aC):Ev.apply H []=H:=rfl
theorem kW(H:aC)(k:Nat)(b:Blk):Ev.apply H [(k,b)]=aK H k b:=rfl
theorem yG(H:aC)(k j:Nat)(b c:Blk):Ev.apply H [(k,b),(j,c)]=aK (aK H k b) j c:=rfl
section
variable {E : Env} {y : Nat → fu} {n : Nat} {cp : cU} {cf : kB} {ops : Array Oper} {Q : St → Prop} {QT : List D → Prop} {o : Oper} {r : List Oper} {f : Nat → D} {H H' : aC} {v : D} {u : List (Nat × Blk)} {d : Nat}
variable {g : Option (Tmp × Bool)}
variable {b i : Nat}
theorem FY(hg:gOf ops o=some g)(hd:o.dst=some d)(hn:d<n)(hs:stepG E cp g (b+i) o.op (aU (tab n f)) H=some ⟨v,[]⟩)(h:cH QT (evR E cp ops H b (i+1) r (tab n (upd f d v)))):cH QT (evR E cp ops H b i (o::r) (tab n f)):=by
 rw [<-mF hg]at hs
 have:evR E cp ops H b i (o::r) (tab n f)=evR E cp ops H b (i+1) r (tab n (upd f d v)):=by
  simp only [evR,hs,hd,mn,kK,hn,if_true,nc,zbB,zbS,List.isEmpty_nil]
 rw [this];exact h
theorem JM(hg:gOf ops o=some g)(hd:o.dst=none)(hs:stepG E cp g (b+i) o.op (aU (tab n f)) H=some ⟨v,[]⟩)(h:cH QT (evR E cp ops H b (i+1) r (tab n f))):cH QT (evR E cp ops H b i (o::r) (tab n f)):=by
 rw [<-mF hg]at hs
 have:evR E cp ops H b i (o::r) (tab n f)=evR E cp ops H b (i+1) r (tab n f):=by
  simp only [evR,hs,hd,mn,if_true,zbB,zbS,List.isEmpty_nil]
 rw [this];exact h
variable {U M : Nat → List Nat}
theorem yH(hg:gOf ops o=some g)(hd:o.dst=some d)(hn:d<n)(hs:stepG E cp g (b+i) o.op (aU (tab n f)) (mask H (M i))=some ⟨v,u⟩)(hi:u.map (·.1)=U i)(hl:(U i).all (·<H.length)=true)(hu:Ev.apply H u=H')(h:cH Q (evW E cp ops b U M (i+1) r {t:=tab n (upd f d v),h:=H'})):
  cH Q (evW E cp ops b U M i (o::r) {t:=tab n f,h:=H}):=by
 subst hu;rw [<-mF hg]at hs
 have:evW E cp ops b U M i (o::r) {t:=tab n f,h:=H}=evW E cp ops b U M (i+1) r {t:=tab n (upd f d v),h:=Ev.apply H u}:=by
  simp only [evW,hs,put,hd,mn,kK,hn,if_true,nc,zbB,zbS,ids,hi,hl,and_self]
 rw [this];exact h
theorem ED(hg:gOf ops o=some g)(hd:o.dst=none)(hs:stepG E cp g (b+i) o.op (aU (tab n f)) (mask H (M i))=some ⟨v,u⟩)(hi:u.map (·.1)=U i)(hl:(U i).all (·<H.length)=true)(hu:Ev.apply H u=H')(h:cH Q (evW E cp ops b U M (i+1) r {t:=tab n f,h:=H'})):
  cH Q (evW E cp ops b U M i (o::r) {t:=tab n f,h:=H}):=by
 subst hu;rw [<-mF hg]at hs
 have:evW E cp ops b U M i (o::r) {t:=tab n f,h:=H}=evW E cp ops b U M (i+1) r {t:=tab n f,h:=Ev.apply H u}:=by
  simp only [evW,hs,put,hd,mn,if_true,zbB,zbS,ids,hi,hl,and_self]
 rw [this];exact h
end
section
variable {E : Env} {y : Nat → fu} {n : Nat}
theorem wo{id:Nat}{l:List Oper}{Q:Ex->St->Prop}{t:List D}{h:aC}(k:Nat)(hk:l.length=k)(hq:fB l.toArray=true)(hh:∀h',h'.length=h.length+k->(∀k,aJ h' k=aJ h k)->cH (λt=>Q .normal {t,h:=h'}) (evR E (cpR E n) l.toArray h' h.length 0 l t)):WpC E y n (.region id l.toArray true) Q {t,h}:=
 HW hq λh' h1 h2=>by simpa using hh h' (by simpa [hk]using h1) h2
theorem yI{id:Nat}{l:List Oper}{Q:Ex->St->Prop}{t:List D}{h:aC}(k:Nat)(hk:l.length=k)(O:List (List Nat))(N:List (Bool×List Nat))(R:List (List Nat))(hq:fB l.toArray=true)(hn:mD l.toArray N=true)(hR:gB l.toArray=R)(hO:DJ O R O)(hb:∀l∈O,∀k∈l,k<h.length)
  (hh:∀h',h'.length=h.length+k->(∀k,aJ h' k=aJ h k)->cH (Q .normal) (evW E (cpR E n) l.toArray h.length (bg h.length O N) (λi=>(R.getD i []).flatMap (bg h.length O N)) 0 l {t,h:=h'})):WpC E y n (.region id l.toArray true) Q {t,h}:=
 JL O N R hq hn hR hO hb λh' h1 h2=>by simpa using hh h' (by simpa [hk]using h1) h2
end
end Ev
end
noncomputable section
namespace Ev
open Go Go.RowKit
def fieldAt(ti:TypeId->Option TI)(ty m:Nat):Option (Nat×Nat×Bool):=(ti ty).bind λt=>(jz t m).bind λfd=>(ti fd.type).bind λft=>some (fd.offset,ft.size,br ft.desc)
def dM(ti:TypeId->Option TI)(ty:Nat):Option (Nat×Bool):=(ti ty).bind λt=>some (t.size,br t.desc)
def cZ(ti:TypeId->Option TI)(ty:Nat):Option Nat:=(ti ty).bind λt=>(bn t).bind λe=>(ti e).bind λte=>some te.size
def FZ:Option D->Option Eff
 |some d=>some ⟨d,[]⟩
 |none=>none
def EE:Option (Nat×Nat×Bool)->Option D->Option Eff
 |some (off,sz,_),some (.one (.ptr k i j))=>if sz=0 then none else some ⟨.one (.ptr k i (j+off)),[]⟩
 |some (off,sz,_),some (.one (.iptr fr s l i j))=>if sz=0 then none else some ⟨.one (.iptr fr s l i (j+off)),[]⟩
 |_,_=>none
def AA:Option D->Option Eff
 |some d=>some ⟨d,[]⟩
 |none=>none
def kOf(agg:Bool):Option (List C)->Option D
 |some cs=>dr agg cs
 |none=>none
def EF(j n:Nat):Option (List C)->Option (List C)
 |some cs=>cut cs j n
 |none=>none
def OL(i:Nat):Option (Nat×List (List C))->Option (List C)
 |some (_,es)=>es[i]?
 |none=>none
def kIn(fr:Bool):Option (List T)->Option (List C)
 |some e=>some (e.map (pC fr))
 |none=>none
def iX(H:aC):Option (Nat×Bool)->Option D->Option Eff
 |some (sz,agg),some (.one (.ptr k i j))=>AA (kOf agg (EF j (if agg then sz else 1) (OL i (aJ H k))))
 |some (sz,agg),some (.one (.iptr fr _ l i j))=>AA (kOf agg (EF j (if agg then sz else 1) (kIn fr l[i]?)))
 |_,_=>none
def JN:Option D->Option D->Option D->Option Eff
 |some (.one (.p _ (.v (.bool true)))),a,_=>FZ a
 |some (.one (.p _ (.v (.bool false)))),_,b=>FZ b
 |_,_,_=>none
def tI(P:Program)(ti:TypeId->Option TI)(op:BinOp)(ty:TypeId)(x y:Operand)(a b:D):Option Eff:=
 match a,y with
 | .one (.p _ (.s nn _ _)),.const (.slice none 0 0)=>do
  let _<-bn (<-ti ty)
  match op with
  | .eql=>some {v:=mk (.bool (!nn))}
  | .neq=>some {v:=mk (.bool nn)}
  |_=>none
 | .one (.own ..),.const (.slice none 0 0)=>do
  let _<-bn (<-ti ty)
  match op with
  | .eql=>some {v:=mk (.bool false)}
  | .neq=>some {v:=mk (.bool true)}
  |_=>none
 |_,_=>do
  let va<-plain a
  let vb<-plain b
  mkO (<-aq P (do eqGuard op ty x y va vb;binOp op ty va vb))
def LZ(P:Program)(ti:TypeId->Option TI)(op:BinOp)(ty:TypeId)(x y:Operand):Option D->Option D->Option Eff
 |some a,some b=>tI P ti op ty x y a b
 |_,_=>none
def Tj(i:Nat)(fr:Bool)(sz:Nat)(l:List (List T)):Option Nat->Option Eff
 |some te=>if i<l.length/\sz=te then some ⟨.one (.iptr fr sz l i 0),[]⟩else none
 |none=>none
def Tk(i k off n:Nat):Option Nat->Option (Nat×List (List C))->Option Eff
 |some te,some (bz,_)=>if i<n/\bz=te then some ⟨.one (.ptr k (off+i) 0),[]⟩else none
 |_,_=>none
def CG(ti:TypeId->Option TI)(ty:TypeId)(H:aC)(i:Nat)(d:D):Option Eff:=do
 let t<-ti ty
 match d with
 | .one (.p fr (.s _ sz l))=>do
  let te<-ti (<-bn t)
  if i<l.length/\sz=te.size then some {v:= .one (.iptr fr sz l i 0)}else none
 | .one (.own k off n)=>do
  let te<-ti (<-bn t)
  let(bz,_)<-aJ H k
  if i<n/\bz=te.size then some {v:= .one (.ptr k (off+i) 0)}else none
 | .one (.ptr k i' j)=>
  match t.desc with
  | .array n e=>do
   let te<-ti e
   if i<n then some {v:= .one (.ptr k i' (j+i*te.size))}else none
  |_=>none
 | .one (.iptr fr sz l i' j)=>
  match t.desc with
  | .array n e=>do
   let te<-ti e
   if i<n then some {v:= .one (.iptr fr sz l i' (j+i*te.size))}else none
  |_=>none
 |_=>none
def kIx(ti:TypeId->Option TI)(ty:TypeId)(H:aC):Option D->Option Nat->Option Eff
 |some d,some i=>CG ti ty H i d
 |_,_=>none
def EG(j:Nat)(cs:List C):Option (List C)->Option (List C)
 |some e=>patch e j cs
 |none=>none
def JO(k i bz:Nat)(es:List (List C)):Option (List C)->Option Eff
 |some e'=>some ⟨co,[(k,.own bz (es.set i e'))]⟩
 |none=>none
def Ma(k i j sz:Nat):Option (List C)->Option (Nat×List (List C))->Option Eff
 |some cs,some (bz,es)=>if cs.length=sz then JO k i bz es (EG j cs es[i]?)else none
 |_,_=>none
def wq(H:aC):Option (Nat×Bool)->Option D->Option D->Option Eff
 |some (sz,_),some (.one (.ptr k i j)),some x=>Ma k i j sz (gU x) (aJ H k)
 |_,_,_=>none
def Sa:Option D->Option Nat
 |some d=>gY d
 |none=>none
section
variable {E : Env} {cp : cU} {nid : Nat} {t : Tmp → Option D} {H : aC}
theorem JP{x:Operand}:stepG E cp none nid (.move x) t H=FZ (aS t x):=by
 show(aS t x).bind (λd=>some (⟨d,[]⟩:Eff))=_;cases aS t x<;>rfl
theorem JQ{x:Operand}:stepG E cp none nid (.assign x) t H=FZ (aS t x):=by
 show(aS t x).bind (λd=>some (⟨d,[]⟩:Eff))=_;cases aS t x<;>rfl
theorem Ga{ty:TypeId}{x:Operand}{m:Nat}:stepG E cp none nid (.fieldAddr ty x m) t H=EE (fieldAt E.ti ty m) (aS t x):=by
 show((E.ti ty).bind λt'=>(jz t' m).bind λfd=>(E.ti fd.type).bind λft=>if ft.size=0 then none else(aS t x).bind λd=>match d with
  | .one (.ptr k i j)=>some (⟨.one (.ptr k i (j+fd.offset)),[]⟩:Eff)
  | .one (.iptr fr sz l i j)=>some ⟨.one (.iptr fr sz l i (j+fd.offset)),[]⟩
  |_=>none)=_
 unfold fieldAt
 cases E.ti ty with
 |none=>rfl
 |some t'=>
  simp only [zbS]
  cases jz t' m with
  |none=>rfl
  |some fd=>
   simp only [zbS]
   cases E.ti fd.type with
   |none=>rfl
   |some ft=>
    simp only [zbS]
    cases hx:aS t x with
    |none=>split<;>rfl
    |some d=>
     cases d with
     |one c=>cases c<;>simp only [EE,zbS]<;>split<;>rfl
     |_=>simp only [EE,zbS];split<;>rfl
theorem JR{ty:TypeId}{x:Operand}:stepG E cp none nid (.load ty x) t H=iX H (dM E.ti ty) (aS t x):=by
 show((E.ti ty).bind λt'=>(aS t x).bind λd=>(load H (br t'.desc) (if br t'.desc then t'.size else 1) d).bind λv=>some (⟨v,[]⟩:Eff))=_;unfold dM
 cases E.ti ty with
 |none=>rfl
 |some t'=>
  simp only [zbS]
  cases aS t x with
  |none=>rfl
  |some d=>
   simp only [zbS]
   cases d with
   |one c=>
    cases c with
    |ptr k i j=>
     simp only [iX,load]
     cases aJ H k with
     |none=>rfl
     |some p=>
      obtain⟨bz,es⟩:=p;simp only [zbB,zbS,OL]
      cases es[i]? with
      |none=>rfl
      |some e=>
       simp only [zbS,EF];generalize cut e j _=z
       cases z with
       |none=>rfl
       |some cs=>simp only [zbS,kOf];cases dr _ cs<;>rfl
    |iptr fr sz l i j=>
     simp only [iX,load]
     cases l[i]? with
     |none=>rfl
     |some e=>
      simp only [zbB,zbS,kIn,EF];generalize cut _ j _=z
      cases z with
      |none=>rfl
      |some cs=>simp only [zbS,kOf];cases dr _ cs<;>rfl
    |_=>rfl
   |_=>rfl
theorem CH{op:BinOp}{ty sh:TypeId}{x y:Operand}:stepG E cp none nid (.binOp op ty x y sh) t H=LZ E.P E.ti op ty x y (aS t x) (aS t y):=by
 show((aS t x).bind λa=>(aS t y).bind λb=>tI E.P E.ti op ty x y a b)=_
 cases aS t x with
 |none=>rfl
 |some a=>
  cases aS t y with
  |none=>rfl
  |some b=>rfl
theorem OM{P:Program}{ti:TypeId->Option TI}{op:BinOp}{ty:TypeId}{x y:Operand}{fr fr':Bool}{k k':IntKind}{a b:Int}:
  tI P ti op ty x y (.one (.p fr (.v (.int k a)))) (.one (.p fr' (.v (.int k' b))))=(aq P (do eqGuard op ty x y (.int k a) (.int k' b);binOp op ty (.int k a) (.int k' b))).bind mkO:=rfl
theorem EH{c a b:Operand}:stepG E cp none nid (.pick c a b) t H=JN (aS t c) (aS t a) (aS t b):=by
 show((aS t c).bind λd=>(asBool d).bind λz=>if z then(aS t a).bind λv=>some (⟨v,[]⟩:Eff)else(aS t b).bind λv=>some ⟨v,[]⟩)=_
 cases aS t c with
 |none=>rfl
 |some d=>
  simp only [zbS]
  cases d with
  |one e=>
   cases e with
   |p fr z=>
    cases z with
    |v z=>
     cases z with
     |bool z=>
      cases z
      .simp only [asBool,zbS,JN,Bool.false_eq_true,if_false];cases aS t b<;>rfl
      .simp only [asBool,zbS,JN,if_true];cases aS t a<;>rfl
     |_=>rfl
    |_=>rfl
   |_=>rfl
  |_=>rfl
theorem ur{ty:TypeId}{x ix:Operand}:stepG E cp none nid (.indexAddr ty x ix) t H=kIx E.ti ty H (aS t x) (Sa (aS t ix)):=by
 show((E.ti ty).bind λt'=>(aS t ix).bind λdi=>(gY di).bind λi=>(aS t x).bind λd=>_)=_
 cases h1:aS t x with
 |none=>
  simp only [Option.bind_none,kIx]
  cases E.ti ty with
  |none=>rfl
  |some t'=>
   cases aS t ix with
   |none=>rfl
   |some di=>simp only [zbS];cases gY di<;>rfl
 |some d=>
  cases h2:aS t ix with
  |none=>cases E.ti ty<;>rfl
  |some di=>
   simp only [Sa,zbS]
   cases h3:gY di with
   |none=>cases E.ti ty<;>rfl
   |some i=>
    simp only [zbS,kIx,CG];rfl
theorem Tl{ti:TypeId->Option TI}{ty:TypeId}{i:Nat}{fr nn:Bool}{sz:Nat}{l:List (List T)}:CG ti ty H i (.one (.p fr (.s nn sz l)))=Tj i fr sz l (cZ ti ty):=by
 show((ti ty).bind λt'=>(bn t').bind λe=>(ti e).bind λte=>if i<l.length/\sz=te.size then some (⟨.one (.iptr fr sz l i 0),[]⟩:Eff)else none)=_;unfold cZ
 cases ti ty with
 |none=>rfl
 |some t'=>
  simp only [zbS]
  cases bn t' with
  |none=>rfl
  |some e=>
   simp only [zbS];cases ti e<;>rfl
theorem Tm{ti:TypeId->Option TI}{ty:TypeId}{i k off n:Nat}:CG ti ty H i (.one (.own k off n))=Tk i k off n (cZ ti ty) (aJ H k):=by
 show((ti ty).bind λt'=>(bn t').bind λe=>(ti e).bind λte=>(aJ H k).bind λp=>match p with|(bz,_)=>if i<n/\bz=te.size then some (⟨.one (.ptr k (off+i) 0),[]⟩:Eff)else none)=_;unfold cZ
 cases ti ty with
 |none=>rfl
 |some t'=>
  simp only [zbS]
  cases bn t' with
  |none=>rfl
  |some e=>
   simp only [zbS]
   cases ti e with
   |none=>rfl
   |some te=>simp only [zbS];cases aJ H k<;>rfl
theorem Mb{ty:TypeId}{a x:Operand}:stepG E cp none nid (.store ty a x) t H=wq H (dM E.ti ty) (aS t a) (aS t x):=by
 show((E.ti ty).bind λt'=>(aS t a).bind λd=>(aS t x).bind λv=>store H t'.size d v)=_;unfold dM
 cases E.ti ty with
 |none=>rfl
 |some t'=>
  simp only [zbS]
  cases aS t a with
  |none=>rfl
  |some d=>
   simp only [zbS]
   cases aS t x with
   |none=>cases d with|one c=>cases c<;>rfl|_=>rfl
   |some v=>
    simp only [zbS]
    cases d with
    |one c=>
     cases c with
     |ptr k i j=>
      simp only [wq,store]
      cases gU v with
      |none=>rfl
      |some cs=>
       simp only [zbB,zbS]
       cases aJ H k with
       |none=>simp only [Ma];split<;>rfl
       |some p=>
        obtain⟨bz,es⟩:=p;simp only [zbS,Ma];split
        .cases es[i]? with
         |none=>rfl
         |some e=>simp only [zbS,EG];cases patch e j cs<;>rfl
        .rfl
     |_=>rfl
    |_=>rfl
theorem ju{c:Call}:stepG E cp none nid (.call c) t H=match bi (.call c)with
  |some c=>iv cp nid c t H
  |none=>sem E nid (sD (.call c)) (aS t) H:=rfl
end
end Ev
end
noncomputable section
namespace Ev
open Go Go.RowKit
structure Sl(α:Type)where
 nn:Bool
 sz:Nat
 l:List α
def Sl.t{α:Type}(r:α->List T)(s:Sl α):T:= .s s.nn s.sz (s.l.map r)
def aL{α:Type}(r:α->List T)(x:α):List C:=(r x).map (pC true)
abbrev iT(k:IntKind)(n:Int):T:= .v (.int k n)
abbrev bT(b:Bool):T:= .v (.bool b)
abbrev iC(k:IntKind)(n:Int):C:= .p true (.v (.int k n))
abbrev bC(b:Bool):C:= .p true (.v (.bool b))
abbrev iD(k:IntKind)(n:Int):D:= .one (iC k n)
abbrev bD(b:Bool):D:= .one (bC b)
def up(f:Nat->D)(d:Nat)(v:D):Nat->D:=λi=>cond (Nat.beq i d) v (f i)
theorem gS(f:Nat->D)(d:Nat)(v:D):upd f d v=up f d v:=by
 funext i;unfold upd up
 cases hb:Nat.beq i d with
 |true=>rw [if_pos (Nat.eq_of_beq_eq_true hb)];rfl
 |false=>rw [if_neg (Nat.ne_of_beq_eq_false hb)];rfl
theorem AB{f:Nat->D}{d:Nat}{v:D}(h:f d=v):up f d v=f:=by
 funext i;unfold up
 cases hb:Nat.beq i d with
 |true=>rw [Nat.eq_of_beq_eq_true hb,h];rfl
 |false=>rfl
abbrev B1:=Nat×Nat×List (List C)
abbrev BL:=List (List B1)
def HBf(h:aC)(L:List B1):Prop:=(L.map (·.1)).Nodup/\∀x∈L,aJ h x.1=some x.2
section
variable {h : aC} {L : List B1} {p k sz : Nat} {es : List (List C)}
theorem HBf.lt(hb:HBf h L){x}(hx:x∈L):x.1<h.length:=yB (hb.2 x hx)
theorem HBf.new(hb:HBf h L)(sz:Nat)(es:List (List C)):HBf (aK h h.length (.own sz es)) ((h.length,sz,es)::L):=by
 refine⟨?_,λx hx=> ?_⟩
 .rw [List.map_cons,List.nodup_cons];refine⟨λhm=> ?_,hb.1⟩;obtain⟨x,hx,he⟩:=List.mem_map.1 hm
  have:=hb.lt hx
  omega
 .rcases List.mem_cons.1 hx with rfl|hx
  .rw [fV,if_pos rfl]
  .rw [fV,if_neg (by have:=hb.lt hx;omega)];exact hb.2 x hx
theorem HX{l:List Nat}(hn:l.Nodup){i j x:Nat}(hi:l[i]? =some x)(hj:l[j]? =some x):i=j:=by
 obtain⟨h1,h2⟩:=List.getElem?_eq_some_iff.1 hi;obtain⟨h3,h4⟩:=List.getElem?_eq_some_iff.1 hj;have hp:=List.pairwise_iff_getElem.1 hn;rcases Nat.lt_trichotomy i j with h|h|h
 .exact absurd (h2.trans h4.symm) (hp i j h1 h3 h)
 .exact h
 .exact absurd (h4.trans h2.symm) (hp j i h3 h1 h)
theorem HBf.key(hb:HBf h L)(hp:L[p]? =some (k,sz,es)){j:Nat}{x:Nat×Nat×List (List C)}(hj:L[j]? =some x)(hx:x.1=k):j=p:=by
 refine HX (x:=k) hb.1 ?_ ?_
 .rw [List.getElem?_map,hj,<-hx];rfl
 .rw [List.getElem?_map,hp];rfl
theorem HBf.set(hb:HBf h L)(hp:L[p]? =some (k,sz,es))(sz':Nat)(es':List (List C)):HBf (aK h k (.own sz' es')) (L.set p (k,sz',es')):=by
 have hpl:=(List.getElem?_eq_some_iff.1 hp).1;refine⟨?_,λx hx=> ?_⟩
 .have:(L.set p (k,sz',es')).map (·.1)=L.map (·.1):=by
   rw [List.map_set];refine List.ext_getElem? λi=> ?_;rw [List.getElem?_set];split
   .rename_i hi;subst hi;rw [if_pos (by simpa using hpl),List.getElem?_map,hp];rfl
   .rfl
  rw [this];exact hb.1
 .obtain⟨i,hi⟩:=List.getElem?_of_mem hx;rw [List.getElem?_set]at hi;split at hi
  .rename_i hpi
   first
    |rw [if_pos hpl]at hi
    |skip
   simp only [zsI]at hi;subst hi;rw [fV,if_pos rfl]
  .rename_i hpi;rw [fV,if_neg (λhe=>hpi (hb.key hp hi he).symm)];exact hb.2 x (List.mem_of_getElem? hi)
theorem HBf.kill(hb:HBf h L)(hp:L[p]? =some (k,sz,es))(b:Blk):HBf (aK h k b) (L.eraseIdx p):=by
 refine⟨?_,λx hx=> ?_⟩
 .exact List.Nodup.sublist ((List.eraseIdx_sublist L p).map _) hb.1
 .rw [List.mem_eraseIdx_iff_getElem?]at hx;obtain⟨i,hne,hi⟩:=hx;rw [fV,if_neg (λhe=>hne (hb.key hp hi he))];exact hb.2 x (List.mem_of_getElem? hi)
end
def HB(h:aC)(L:BL):Prop:=HBf h L.flatten
theorem AC:∀{L:BL} {p:Nat} {e:B1},L[p]? =some [e]->∃q,L.flatten[q]? =some e/\(∀e',(L.set p [e']).flatten=L.flatten.set q e')/\(L.eraseIdx p).flatten=L.flatten.eraseIdx q
 | [],p,e,h=>by simp at h
 |s::L,0,e,h=>by
  simp only [List.getElem?_cons_zero,zsI]at h;subst h;exact⟨0,rfl,λe'=>rfl,rfl⟩
 |s::L,p+1,e,h=>by
  obtain⟨q,h1,h2,h3⟩:=AC (L:=L) (p:=p) (e:=e) (by simpa using h);refine⟨s.length+q,?_,λe'=> ?_,?_⟩
  .rw [List.flatten_cons,List.getElem?_append_right (by omega),Nat.add_sub_cancel_left,h1]
  .rw [List.set_cons_succ,List.flatten_cons,h2,List.flatten_cons,List.set_append_right _ _ (by omega),Nat.add_sub_cancel_left]
  .rw [List.eraseIdx_cons_succ,List.flatten_cons,h3,List.flatten_cons,List.eraseIdx_append_of_length_le (by omega),Nat.add_sub_cancel_left]
section
variable {h : aC} {L : BL} {p k sz : Nat} {es : List (List C)}
theorem nd{s:List B1}(hp:L[p]? =some s){x:B1}(hx:x∈s):x∈L.flatten:=List.mem_flatten.2 ⟨s,List.mem_of_getElem? hp,hx⟩
theorem HB.get(hb:HB h L)(hp:L[p]? =some [(k,sz,es)]):aJ h k=some (sz,es):=hb.2 (k,sz,es) (nd hp (List.mem_singleton.2 rfl))
theorem HB.lt(hb:HB h L){x}(hx:x∈L.flatten):x.1<h.length:=HBf.lt hb hx
theorem HB.new(hb:HB h L)(sz:Nat)(es:List (List C)):HB (aK h h.length (.own sz es)) ([(h.length,sz,es)]::L):=HBf.new hb sz es
theorem HB.set(hb:HB h L)(hp:L[p]? =some [(k,sz,es)])(sz':Nat)(es':List (List C)):HB (aK h k (.own sz' es')) (L.set p [(k,sz',es')]):=by
 obtain⟨q,h1,h2,_⟩:=AC hp;unfold HB;rw [h2];exact HBf.set hb h1 sz' es'
theorem HB.kill(hb:HB h L)(hp:L[p]? =some [(k,sz,es)])(b:Blk):HB (aK h k b) (L.eraseIdx p):=by
 obtain⟨q,h1,_,h3⟩:=AC hp;unfold HB;rw [h3];exact HBf.kill hb h1 b
def Apart(s t:List B1):Prop:=∀x∈s,∀y∈t,x.1≠y.1
theorem Apart.symm{s t:List B1}(h:Apart s t):Apart t s:=λx hx y hy e=>h y hy x hx e.symm
theorem yJ(hn:(L.flatten.map (·.1)).Nodup):(∀s∈L,s.Pairwise λx y=>x.1≠y.1)/\L.Pairwise Apart:=by
 have h1:L.flatten.Pairwise λx y=>x.1≠y.1:=List.pairwise_map.1 hn;exact List.pairwise_flatten.1 h1
theorem Gb(hn:(L.flatten.map (·.1)).Nodup){i j:Nat}{s t:List B1}(hi:L[i]? =some s)(hj:L[j]? =some t)(hij:i≠j):Apart s t:=by
 have hp:=List.pairwise_iff_getElem.1 (yJ hn).2;obtain⟨i1,rfl⟩:=List.getElem?_eq_some_iff.1 hi;obtain⟨j1,rfl⟩:=List.getElem?_eq_some_iff.1 hj;rcases Nat.lt_or_gt_of_ne hij with hlt|hlt
 .exact hp i j i1 j1 hlt
 .exact(hp j i j1 i1 hlt).symm
theorem HB.sub(hb:HB h L)(is:List Nat)(hn:is.Nodup){L2:BL}(h2:is.filterMap (λi=>L[i]?)=L2):HB h L2:=by
 subst h2;have hk:=yJ hb.1;refine⟨List.pairwise_map.2 (List.pairwise_flatten.2 ⟨λs hs=> ?_,?_⟩),λx hx=> ?_⟩
 .obtain⟨i,_,hi⟩:=List.mem_filterMap.1 hs;exact hk.1 s (List.mem_of_getElem? hi)
 .rw [List.pairwise_filterMap];refine hn.imp λ{i j} hij s hs t ht=> ?_;exact Gb hb.1 hs ht hij
 .obtain⟨s,hs,hx⟩:=List.mem_flatten.1 hx;obtain⟨i,_,hi⟩:=List.mem_filterMap.1 hs;exact hb.2 x (nd hi hx)
theorem yK:∀{L:BL} {p:Nat},L[p]? =some []->(L.eraseIdx p).flatten=L.flatten
 | [],p,h=>by simp at h
 |s::L,0,h=>by
  simp only [List.getElem?_cons_zero,zsI]at h;subst h;rfl
 |s::L,p+1,h=>by
  rw [List.eraseIdx_cons_succ,List.flatten_cons,yK (by simpa using h),List.flatten_cons]
end
def ov(nt:Nat)(f:Nat->D):Operand->Option D
 | .tmp i=>cond (Nat.blt i nt) (some (f i)) none
 | .const v=>pF v
 | .global _=>none
 | .func k=>some (mk (.func (.func k) #[] #[]))
theorem bV(nt:Nat)(f:Nat->D)(x:Operand):aS (aU (tab nt f)) x=ov nt f x:=by
 cases x with
 |tmp i=>
  show(tab nt f)[i]? =cond (Nat.blt i nt) (some (f i)) none;rw [jC]
  cases h2:Nat.blt i nt with
  |true=>rw [if_pos (by simpa using h2)];rfl
  |false=>rw [if_neg (λh=>by have:Nat.blt i nt=true:=(by simpa using h);rw [h2]at this;exact absurd this (by simp))];rfl
 |_=>rfl
theorem dY(nt:Nat)(f:Nat->D):aS (aU (tab nt f))=ov nt f:=funext (bV nt f)
def wb(w:Bool):Option D->Option Bool
 |some (.one (.p _ (.v (.bool b))))=>some (b==w)
 |some (.tup [])=>some false
 |_=>none
theorem Sb(w:Bool)(z:Option D)(b:Bool)(h:wb w z=some b):(z.bind λd=>match d with
   | .one (.p _ (.v (.bool b)))=>some (b==w)
   | .tup []=>some false
   |_=>none)=some b:=by
 revert h
 cases z with
 |none=>exact λh=>by simp [wb]at h
 |some x=>
  cases x with
  |one c=>
   cases c with
   |p fr t=>cases t with
    |v z=>cases z<;>exact λh=>h
    |s _ _ _=>exact λh=>h
   |_=>exact λh=>h
  |agg _=>exact λh=>h
  |tup ds=>cases ds<;>exact λh=>h
def dn(ops:Array Oper)(o:Oper)(nt:Nat)(f:Nat->D):Option Bool:=
 match o.guard with
 |none=>some true
 |some (j,w)=>
  match(ops.toList[j]?).bind λg=>g.dst with
  |some d=>wb w (ov nt f (.tmp d))
  |none=>none
theorem du{ops:Array Oper}{o:Oper}{nt:Nat}{f:Nat->D}{b:Bool}(h:dn ops o nt f=some b):∃g,gOf ops o=some g/\yF (aU (tab nt f)) g=some b:=by
 unfold dn at h;unfold gOf
 cases hg:o.guard with
 |none=>rw [hg]at h;simp only [zsI]at h;subst h;exact⟨none,rfl,rfl⟩
 |some q=>
  obtain⟨j,w⟩:=q;rw [hg]at h;simp only at h ⊢
  cases hd:(ops.toList[j]?).bind λg=>g.dst with
  |none=>rw [hd]at h;simp at h
  |some d=>
   rw [hd]at h;refine⟨some (d,w),by simp,?_⟩;have he:aU (tab nt f) d=ov nt f (.tmp d):=bV nt f (.tmp d)
   have:=Sb w _ b h
   rw [<-he]at this;exact this
def PS(E:Env)(n nt:Nat)(f:Nat->D)(L:BL)(op:Op)(v:D):Prop:=∀(h:aC) (nid:Nat),HB h L->stepG E (cpR E n) none nid op (aU (tab nt f)) h=some ⟨v,[]⟩
def PN(E:Env)(n nt:Nat)(f:Nat->D)(L:BL)(op:Op)(v:Nat->D)(sz:Nat)(es:List (List C)):Prop:=∀(h:aC) (nid:Nat),HB h L->stepG E (cpR E n) none nid op (aU (tab nt f)) h=some ⟨v nid,[(nid,.own sz es)]⟩
def PW(E:Env)(n nt:Nat)(f:Nat->D)(L:BL)(op:Op)(v:D)(p k sz:Nat)(es:List (List C)):Prop:=(∃x,L[p]? =some [(k,x)])/\∀(h:aC) (nid:Nat),HB h L->stepG E (cpR E n) none nid op (aU (tab nt f)) h=some ⟨v,[(k,.own sz es)]⟩
def PA(E:Env)(n nt:Nat)(f:Nat->D)(L:BL)(op:Op)(v:Nat->D)(p k sz:Nat)(es:List (List C)):Prop:=(∃x,L[p]? =some [(k,x)])/\∀(h:aC) (nid:Nat),HB h L->stepG E (cpR E n) none nid op (aU (tab nt f)) h=some ⟨v nid,[(k,.dead),(nid,.own sz es)]⟩
def WpL(E:Env)(y:Nat->fu)(n nt:Nat)(c:Code)(Q:Ex->St->Prop)(f:Nat->D)(L:BL):Prop:=∀h,HB h L->WpC E y n c Q {t:=tab nt f,h:=h}
def cP(nt:Nat)(Q:Ex->St->Prop)(e:Ex)(f:Nat->D)(L:BL):Prop:=∀h,HB h L->Q e {t:=tab nt f,h:=h}
def kp(E:Env)(y:Nat->fu)(n:Nat)(ops:Array Oper)(l:List Oper)(K:St->Prop)(s:St):Prop:=∃s',(∃M,∀m,M<=m->sZ E (be E y m n).1 (be E y m n).2 ops l s=some s')/\K s'
theorem CJ{E:Env}{y:Nat->fu}{n:Nat}{ops:Array Oper}{K:St->Prop}{s:St}(h:K s):kp E y n ops [] K s:=⟨s,⟨0,λ_ _=>rfl⟩,h⟩
theorem mG{E:Env}{y:Nat->fu}{n:Nat}{ops:Array Oper}{o:Oper}{r:List Oper}{K:St->Prop}{s s1:St}(h1:∃M,∀m,M<=m->zx E (be E y m n).1 (be E y m n).2 ops o s=some s1)(h2:kp E y n ops r K s1):kp E y n ops (o::r) K s:=by
 obtain⟨M1,h1⟩:=h1;obtain⟨s',⟨M2,h2⟩,h3⟩:=h2;exact⟨s',⟨max M1 M2,λm hm=>by simp only [sZ,h1 m (by omega),zbB,zbS];exact h2 m (by omega)⟩,h3⟩
theorem yL{E:Env}{y:Nat->fu}{n:Nat}{ops:Array Oper}{o:Oper}{r:List Oper}{K:St->Prop}{s s1:St}{e:Eff}(hs:step E (cpR E n) ops s.h.length o (aU s.t) s.h=some e)(hp:put o s e=some s1)(h2:kp E y n ops r K s1):kp E y n ops (o::r) K s:=by
 obtain⟨M,hM⟩:=wm hs;refine mG ⟨M,λm hm=> ?_⟩ h2;unfold zx;rw [kJ,hM m hm];exact hp
theorem CK{E:Env}{y:Nat->fu}{n:Nat}{id:Nat}{l:List Oper}{Q:Ex->St->Prop}{s:St}(h:kp E y n l.toArray l (Q .normal) s):WpC E y n (.region id l.toArray false) Q s:=by
 obtain⟨s',⟨M,h1⟩,h2⟩:=h;exact⟨.normal,s',⟨M,λm hm=>by simp only [evC,Bool.false_eq_true,if_false,h1 m hm];rfl⟩,h2⟩
section
variable {E : Env} {y : Nat → fu} {n : Nat} {ops : Array Oper} {Q : St → Prop} {o : Oper} {r : List Oper} {nt : Nat} {f : Nat → D} {H H' : aC} {v : D} {u : List (Nat × Blk)} {d : Nat} {g : Option (Tmp × Bool)}
theorem lq(hg:gOf ops o=some g)(hd:o.dst=some d)(hn:d<nt)(hs:stepG E (cpR E n) g H.length o.op (aU (tab nt f)) H=some ⟨v,u⟩)(hu:Ev.apply H u=H')(h:kp E y n ops r Q {t:=tab nt (upd f d v),h:=H'}):kp E y n ops (o::r) Q {t:=tab nt f,h:=H}:=by
 subst hu;rw [<-mF hg]at hs;exact yL (s1:={t:=tab nt (upd f d v),h:=Ev.apply H u}) hs (by simp only [put,hd,mn,kK,hn,if_true,nc,zbB,zbS]) h
theorem sE(hg:gOf ops o=some g)(hd:o.dst=none)(hs:stepG E (cpR E n) g H.length o.op (aU (tab nt f)) H=some ⟨v,u⟩)(hu:Ev.apply H u=H')(h:kp E y n ops r Q {t:=tab nt f,h:=H'}):kp E y n ops (o::r) Q {t:=tab nt f,h:=H}:=by
 subst hu;rw [<-mF hg]at hs;exact yL (s1:={t:=tab nt f,h:=Ev.apply H u}) hs (by simp only [put,hd,mn,zbB,zbS]) h
end
def dp(E:Env)(y:Nat->fu)(n nt:Nat)(ops:Array Oper)(l:List Oper)(K:St->Prop)(f:Nat->D)(L:BL):Prop:=∀h,HB h L->kp E y n ops l K {t:=tab nt f,h:=h}
def StL(E:Env)(n nt:Nat)(ops:Array Oper)(l:List Oper)(i:Nat)(K:St->Prop)(f:Nat->D)(L:BL):Prop:=∀h b,HB h L->cH (λt=>K {t,h}) (evR E (cpR E n) ops h b i l (tab nt f))
section
variable {E : Env} {y : Nat → fu} {n nt : Nat} {ops : Array Oper} {o : Oper} {r : List Oper} {K : St → Prop} {f : Nat → D} {L : BL} {d : Nat} {Q : Ex → St → Prop}
theorem eF{g:Option (Tmp×Bool)}{nid:Nat}{op:Op}{t:Tmp->Option D}{H:aC}{cp:cU}(h:yF t g=some true):stepG E cp g nid op t H=stepG E cp none nid op t H:=by
 unfold stepG;rw [h];rfl
theorem iB{g:Option (Tmp×Bool)}{nid:Nat}{op:Op}{t:Tmp->Option D}{H:aC}{cp:cU}(h:yF t g=some false):stepG E cp g nid op t H=some ⟨co,[]⟩:=by
 unfold stepG;rw [h];rfl
theorem ew{a b:Nat}(h:Nat.blt a b=true):a<b:=by simpa using h
theorem EI{v:D}(hw:dn ops o nt f=some true)(hd:o.dst=some d)(hn:Nat.blt d nt=true)(hs:PS E n nt f L o.op v)(h:dp E y n nt ops r K (up f d v) L):dp E y n nt ops (o::r) K f L:=λH hb=>by
 obtain⟨g,g1,g2⟩:=du hw;exact lq g1 hd (ew hn) ((eF g2).trans (hs H _ hb)) (jt _) (by rw [gS];exact h H hb)
theorem Mc(hw:dn ops o nt f=some false)(hd:o.dst=some d)(hn:Nat.blt d nt=true)(h:dp E y n nt ops r K (up f d co) L):dp E y n nt ops (o::r) K f L:=λH hb=>by
 obtain⟨g,g1,g2⟩:=du hw;exact lq g1 hd (ew hn) (iB g2) (jt _) (by rw [gS];exact h H hb)
theorem aD{v:Nat->D}{sz:Nat}{es:List (List C)}(hw:dn ops o nt f=some true)(hd:o.dst=some d)(hn:Nat.blt d nt=true)(hs:PN E n nt f L o.op v sz es)(h:∀k,dp E y n nt ops r K (up f d (v k)) ([(k,sz,es)]::L)):dp E y n nt ops (o::r) K f L:=λH hb=>by
 obtain⟨g,g1,g2⟩:=du hw;exact lq g1 hd (ew hn) ((eF g2).trans (hs H _ hb)) (kW _ _ _) (by rw [gS];exact h _ _ (hb.new sz es))
theorem mH{v:D}{p k sz:Nat}{es:List (List C)}{L':BL}(hw:dn ops o nt f=some true)(hd:o.dst=none)(hs:PW E n nt f L o.op v p k sz es)(hL:L.set p [(k,sz,es)]=L')(h:dp E y n nt ops r K f L'):dp E y n nt ops (o::r) K f L:=λH hb=>by
 obtain⟨g,g1,g2⟩:=du hw;obtain⟨⟨x,hx⟩,hs⟩:=hs;subst hL;exact sE g1 hd ((eF g2).trans (hs H _ hb)) (kW _ _ _) (h _ (hb.set (sz:=x.1) (es:=x.2) hx sz es))
theorem wr{v:D}{p k sz:Nat}{es:List (List C)}{L':BL}(hw:dn ops o nt f=some true)(hd:o.dst=some d)(hn:Nat.blt d nt=true)(hs:PW E n nt f L o.op v p k sz es)(hL:L.set p [(k,sz,es)]=L')(h:dp E y n nt ops r K (up f d v) L'):dp E y n nt ops (o::r) K f L:=λH hb=>by
 obtain⟨g,g1,g2⟩:=du hw;obtain⟨⟨x,hx⟩,hs⟩:=hs;subst hL;exact lq g1 hd (ew hn) ((eF g2).trans (hs H _ hb)) (kW _ _ _) (by rw [gS];exact h _ (hb.set (sz:=x.1) (es:=x.2) hx sz es))
theorem ON{v:Nat->D}{p k sz:Nat}{es:List (List C)}{L':BL}(hw:dn ops o nt f=some true)(hd:o.dst=some d)(hn:Nat.blt d nt=true)(hs:PA E n nt f L o.op v p k sz es)(hL:L.eraseIdx p=L')(h:∀k',dp E y n nt ops r K (up f d (v k')) ([(k',sz,es)]::L')):dp E y n nt ops (o::r) K f L:=λH hb=>by
 obtain⟨g,g1,g2⟩:=du hw;obtain⟨⟨x,hx⟩,hs⟩:=hs;subst hL;have hk:=hb.lt (nd hx (List.mem_singleton.2 rfl));refine lq g1 hd (ew hn) ((eF g2).trans (hs H _ hb)) (yG _ _ _ _ _) ?_;rw [gS];have h1:=hb.kill (sz:=x.1) (es:=x.2) hx .dead;have h2:=h1.new sz es;rw [gA _ hk]at h2;exact h _ _ h2
theorem EJ(h:cP nt Q .normal f L):dp E y n nt ops [] (Q .normal) f L:=λH hb=>CJ (h H hb)
theorem dF{i:Nat}(h:cP nt Q .normal f L):StL E n nt ops [] i (Q .normal) f L:=λH b hb=>h H hb
theorem OO{v:D}{i:Nat}(hw:dn ops o nt f=some true)(hd:o.dst=some d)(hn:Nat.blt d nt=true)(hs:PS E n nt f L o.op v)(h:StL E n nt ops r (i+1) K (up f d v) L):StL E n nt ops (o::r) i K f L:=λH b hb=>by
 obtain⟨g,g1,g2⟩:=du hw;exact FY g1 hd (ew hn) ((eF g2).trans (hs H _ hb)) (by rw [gS];exact h H b hb)
theorem Md{i:Nat}(hw:dn ops o nt f=some false)(hd:o.dst=some d)(hn:Nat.blt d nt=true)(h:StL E n nt ops r (i+1) K (up f d co) L):StL E n nt ops (o::r) i K f L:=λH b hb=>by
 obtain⟨g,g1,g2⟩:=du hw;exact FY g1 hd (ew hn) (iB g2) (by rw [gS];exact h H b hb)
def TnL(E:Env)(n nt:Nat)(ops:Array Oper)(l:List Oper)(i w:Nat)(O:List (List Nat))(N:List (Bool×List Nat))(R:List (List Nat))(b:Nat)(K:St->Prop)(f:Nat->D)(L:BL):Prop:=
 ∀H,HB H L->H.length=b+w->cH K (evW E (cpR E n) ops b (bg b O N) (λi=>(R.getD i []).flatMap (bg b O N)) i l {t:=tab nt f,h:=H})
theorem HB.mask{h:aC}(hb:HB h L)(M:List Nat){A:BL}(is:List Nat)(hn:is.Nodup)(hA:is.filterMap (λi=>L[i]?)=A)(hm:∀x∈A.flatten,x.1 ∉ M):HB (mask h M) A:=by
 have h1:=hb.sub is hn hA;refine⟨h1.1,λx hx=> ?_⟩;rw [tH,if_neg (hm x hx)];exact h1.2 x hx
section
variable {i w b : Nat} {O : List (List Nat)} {N : List (Bool × List Nat)} {R : List (List Nat)} {A : BL}
theorem eG(h:cP nt Q .normal f L):TnL E n nt ops [] i w O N R b (Q .normal) f L:=λH hb _=>h H hb
theorem EK{v:D}(hw:dn ops o nt f=some true)(hd:o.dst=some d)(hn:Nat.blt d nt=true)(is:List Nat)(hn2:is.Nodup)(hA:is.filterMap (λi=>L[i]?)=A)(hm:∀x∈A.flatten,x.1 ∉(R.getD i []).flatMap (bg b O N))(hu:bg b O N i= [])(hs:PS E n nt f A o.op v)
  (h:TnL E n nt ops r (i+1) w O N R b K (up f d v) L):TnL E n nt ops (o::r) i w O N R b K f L:=λH hb hl=>by
 obtain⟨g,g1,g2⟩:=du hw;exact yH g1 hd (ew hn) ((eF g2).trans (hs _ _ (hb.mask _ is hn2 hA hm))) (by rw [hu];rfl) (by rw [hu];rfl) (jt _) (by rw [gS];exact h H hb hl)
theorem HB.put{h:aC}{L:BL}{k:Nat}(hb:HB h L)(sz:Nat)(es:List (List C))(hk:∀x∈L.flatten,x.1≠k):HB (aK h k (.own sz es)) ([(k,sz,es)]::L):=by
 refine⟨?_,λx hx=> ?_⟩
 .show(k::L.flatten.map (·.1)).Nodup;rw [List.nodup_cons];refine⟨λhm=> ?_,hb.1⟩;obtain⟨x,hx,he⟩:=List.mem_map.1 hm;exact hk x hx he
 .rcases List.mem_cons.1 (show x∈(k,sz,es)::L.flatten from hx)with rfl|hx
  .rw [fV,if_pos rfl]
  .rw [fV,if_neg (hk x hx)];exact hb.2 x hx
theorem eH{v:Nat->D}{sz:Nat}{es:List (List C)}(hw:dn ops o nt f=some true)(hd:o.dst=some d)(hn:Nat.blt d nt=true)(is:List Nat)(hn2:is.Nodup)(hA:is.filterMap (λi=>L[i]?)=A)(hm:∀x∈A.flatten,x.1 ∉(R.getD i []).flatMap (bg b O N))(hu:bg b O N i= [b+i])(hi:Nat.blt i w=true)(hk:∀x∈L.flatten,x.1≠b+i)(hs:PN E n nt f A o.op v sz es)
  (h:TnL E n nt ops r (i+1) w O N R b K (up f d (v (b+i))) ([(b+i,sz,es)]::L)):TnL E n nt ops (o::r) i w O N R b K f L:=λH hb hl=>by
 obtain⟨g,g1,g2⟩:=du hw;have hlt:=ew hi;refine yH g1 hd (ew hn) ((eF g2).trans (hs _ _ (hb.mask _ is hn2 hA hm))) (by rw [hu];rfl) (by rw [hu];simp;omega) (kW _ _ _) ?_;rw [gS];exact h _ (hb.put sz es hk) (by rw [gA _ (by omega)];exact hl)
theorem jf{v:D}{p q k sz:Nat}{es:List (List C)}{L':BL}{x:Nat×List (List C)}(hw:dn ops o nt f=some true)(hd:o.dst=none)(is:List Nat)(hn2:is.Nodup)(hA:is.filterMap (λi=>L[i]?)=A)(hm:∀x∈A.flatten,x.1 ∉(R.getD i []).flatMap (bg b O N))(hu:bg b O N i= [k])(hs:PW E n nt f A o.op v p k sz es)(hq:L[q]? =some [(k,x)])(hL:L.set q [(k,sz,es)]=L')
  (h:TnL E n nt ops r (i+1) w O N R b K f L'):TnL E n nt ops (o::r) i w O N R b K f L:=λH hb hl=>by
 obtain⟨g,g1,g2⟩:=du hw;obtain⟨_,hs⟩:=hs;subst hL;have hk:=hb.lt (nd hq (List.mem_singleton.2 rfl));exact ED g1 hd ((eF g2).trans (hs _ _ (hb.mask _ is hn2 hA hm))) (by rw [hu];rfl) (by rw [hu];simpa using hk) (kW _ _ _) (h _ (hb.set (sz:=x.1) (es:=x.2) hq sz es) (by rw [gA _ hk];exact hl))
theorem OP{v:D}{p q k sz:Nat}{es:List (List C)}{L':BL}{x:Nat×List (List C)}(hw:dn ops o nt f=some true)(hd:o.dst=some d)(hn:Nat.blt d nt=true)(is:List Nat)(hn2:is.Nodup)(hA:is.filterMap (λi=>L[i]?)=A)(hm:∀x∈A.flatten,x.1 ∉(R.getD i []).flatMap (bg b O N))(hu:bg b O N i= [k])(hs:PW E n nt f A o.op v p k sz es)(hq:L[q]? =some [(k,x)])(hL:L.set q [(k,sz,es)]=L')
  (h:TnL E n nt ops r (i+1) w O N R b K (up f d v) L'):TnL E n nt ops (o::r) i w O N R b K f L:=λH hb hl=>by
 obtain⟨g,g1,g2⟩:=du hw;obtain⟨_,hs⟩:=hs;subst hL;have hk:=hb.lt (nd hq (List.mem_singleton.2 rfl));exact yH g1 hd (ew hn) ((eF g2).trans (hs _ _ (hb.mask _ is hn2 hA hm))) (by rw [hu];rfl) (by rw [hu];simpa using hk) (kW _ _ _) (by rw [gS];exact h _ (hb.set (sz:=x.1) (es:=x.2) hq sz es) (by rw [gA _ hk];exact hl))
theorem OQ{v:Nat->D}{p q k sz:Nat}{es:List (List C)}{L':BL}{x:Nat×List (List C)}(hw:dn ops o nt f=some true)(hd:o.dst=some d)(hn:Nat.blt d nt=true)(is:List Nat)(hn2:is.Nodup)(hA:is.filterMap (λi=>L[i]?)=A)(hm:∀x∈A.flatten,x.1 ∉(R.getD i []).flatMap (bg b O N))(hu:bg b O N i= [k,b+i])(hi:Nat.blt i w=true)(hk:∀x∈L.flatten,x.1≠b+i)(hs:PA E n nt f A o.op v p k sz es)(hq:L[q]? =some [(k,x)])(hL:L.eraseIdx q=L')
  (h:TnL E n nt ops r (i+1) w O N R b K (up f d (v (b+i))) ([(b+i,sz,es)]::L')):TnL E n nt ops (o::r) i w O N R b K f L:=λH hb hl=>by
 obtain⟨g,g1,g2⟩:=du hw;obtain⟨_,hs⟩:=hs;subst hL;have hlt:=ew hi;have hkl:=hb.lt (nd hq (List.mem_singleton.2 rfl));have hkl':k<H.length:=hkl;refine yH g1 hd (ew hn) ((eF g2).trans (hs _ _ (hb.mask _ is hn2 hA hm))) (by rw [hu];rfl) (by rw [hu];simp;omega) (yG _ _ _ _ _) ?_;rw [gS];refine h _ ((hb.kill (sz:=x.1) (es:=x.2) hq .dead).put sz es λy hy=>hk y (by obtain⟨s,h1,h2⟩:=List.mem_flatten.1 hy;exact List.mem_flatten.2 ⟨s,List.mem_of_mem_eraseIdx h1,h2⟩)) ?_;rw [gA _ (by rw [gA _ hkl'];omega),gA _ hkl'];exact hl
end
theorem av{L:BL}{b k:Nat}{x:Nat×List (List C)}(h:∀x∈L.flatten,x.1<b)(p:Nat)(hp:L[p]? =some [(k,x)]):k<b:=h _ (nd hp (List.mem_singleton.2 rfl))
theorem EL{L:BL}{k k2:Nat}{x x2:Nat×List (List C)}(hn:(L.flatten.map (·.1)).Nodup)(p q:Nat)(hp:L[p]? =some [(k,x)])(hq:L[q]? =some [(k2,x2)])(hpq:Nat.beq p q=false):k≠k2:=Gb hn hp hq (Nat.ne_of_beq_eq_false hpq) _ (List.mem_singleton.2 rfl) _ (List.mem_singleton.2 rfl)
theorem hm0{A:BL}{M:List Nat}(h:M= []):∀x∈A.flatten,x.1 ∉ M:=λx _=>by rw [h];simp
theorem hmn{M:List Nat}:∀x∈([]:BL).flatten,x.1 ∉ M:=λx hx=>by simp at hx
theorem hmc{A:BL}{M:List Nat}{k:Nat}{y:Nat×List (List C)}(h1:k ∉ M)(h2:∀x∈A.flatten,x.1 ∉ M):∀x∈([(k,y)]::A:BL).flatten,x.1 ∉ M:=λx hx=>by
 rcases List.mem_cons.1 (show x∈(k,y)::A.flatten from hx)with rfl|hx
 .exact h1
 .exact h2 x hx
theorem hkn{z:Nat}:∀x∈([]:BL).flatten,x.1≠z:=λx hx=>by simp at hx
theorem hkc{A:BL}{z k:Nat}{y:Nat×List (List C)}(h1:k≠z)(h2:∀x∈A.flatten,x.1≠z):∀x∈([(k,y)]::A:BL).flatten,x.1≠z:=λx hx=>by
 rcases List.mem_cons.1 (show x∈(k,y)::A.flatten from hx)with rfl|hx
 .exact h1
 .exact h2 x hx
theorem JS{id:Nat}{l:List Oper}(h:dp E y n nt l.toArray l (Q .normal) f L):WpL E y n nt (.region id l.toArray false) Q f L:=λH hb=>CK (h H hb)
theorem kL{id:Nat}{l:List Oper}(hq:fB l.toArray=true)(h:StL E n nt l.toArray l 0 (Q .normal) f L):WpL E y n nt (.region id l.toArray true) Q f L:=λH hb=>by
 refine wo l.length rfl hq λh' h1 h2=>h h' _ ⟨hb.1,λx hx=> ?_⟩;rw [h2];exact hb.2 x hx
theorem eI{id:Nat}{l:List Oper}(w:Nat)(hw:l.length=w)(O:List (List Nat))(N:List (Bool×List Nat))(R:List (List Nat))(hq:fB l.toArray=true)(hn:mD l.toArray N=true)(hR:gB l.toArray=R)(hO:∀b:Nat,(∀x∈L.flatten,x.1<b)->(L.flatten.map (·.1)).Nodup->DJ O R O/\∀l∈O,∀k∈l,k<b)
  (h:∀b,(∀x∈L.flatten,x.1<b)->(L.flatten.map (·.1)).Nodup->TnL E n nt l.toArray l 0 w O N R b (Q .normal) f L):WpL E y n nt (.region id l.toArray true) Q f L:=λH hb=>by
 have hlt:∀x∈L.flatten,x.1<H.length:=λx hx=>hb.lt hx;obtain⟨h3,h4⟩:=hO H.length hlt hb.1;exact yI w hw O N R hq hn hR h3 h4 λh' h1 h2=>h H.length hlt hb.1 h' ⟨hb.1,λx hx=>by rw [h2];exact hb.2 x hx⟩ h1
theorem NO{a b:Code}(h:WpL E y n nt a (nZ (WpC E y n b Q) Q) f L):WpL E y n nt (.seq a b) Q f L:=λH hb=>Ay (h H hb)
theorem OR(h:cP nt Q .normal f L):WpL E y n nt .skip Q f L:=λH hb=>CD (h H hb)
theorem Sd(h:cP nt Q .ret f L):WpL E y n nt .ret Q f L:=λH hb=>FX (h H hb)
theorem cJ{id:Nat}(h:cP nt Q (.exit id) f L):WpL E y n nt (.exit id) Q f L:=λH hb=>CF (h H hb)
def AD(id:Nat)(Q:Ex->St->Prop):Ex->St->Prop:=λe s=>Q (if e= .exit id then .normal else e) s
theorem Me{id:Nat}{c:Code}(h:WpL E y n nt c (AD id Q) f L):WpL E y n nt (.block id c) Q f L:=λH hb=>yA (h H hb)
theorem Mf{c:Operand}{a b:Code}{fr:Bool}(hc:ov nt f c=some (.one (.p fr (.v (.bool true)))))(h:WpL E y n nt a Q f L):WpL E y n nt (.cond c a b) Q f L:=λH hb=>by
 have h1:opnd (tab nt f) c=some (.one (.p fr (.v (.bool true)))):=(bV nt f c).trans hc;exact wk h1 rfl (h H hb)
theorem Mg{c:Operand}{a b:Code}{fr:Bool}(hc:ov nt f c=some (.one (.p fr (.v (.bool false)))))(h:WpL E y n nt b Q f L):WpL E y n nt (.cond c a b) Q f L:=λH hb=>by
 have h1:opnd (tab nt f) c=some (.one (.p fr (.v (.bool false)))):=(bV nt f c).trans hc;exact wk h1 rfl (h H hb)
theorem lQ{v:Bool->D}(hw:dn ops o nt f=some true)(hd:o.dst=some d)(hn:Nat.blt d nt=true)(hs:∃fr,PS E n nt f L o.op (v fr))(h:∀fr,dp E y n nt ops r K (up f d (v fr)) L):dp E y n nt ops (o::r) K f L:=by
 obtain⟨fr,hs⟩:=hs;exact EI hw hd hn hs (h fr)
theorem eJ{c:Code}(is:List Nat)(hn:is.Nodup){L2:BL}(h2:is.filterMap (λi=>L[i]?)=L2)(h:WpL E y n nt c Q f L2):WpL E y n nt c Q f L:=λH hb=>h H (hb.sub is hn h2)
theorem JT{b:Code}(h:WpL E y n nt b Q f L):cP nt (nZ (WpC E y n b Q) Q) .normal f L:=h
theorem cK{KK:St->Prop}{id:Nat}(h:cP nt Q (.exit id) f L):cP nt (nZ KK Q) (.exit id) f L:=h
theorem OS{id:Nat}(h:cP nt Q .normal f L):cP nt (AD id Q) (.exit id) f L:=λH hb=>by unfold AD;rw [if_pos rfl];exact h H hb
theorem OT{id j:Nat}(hj:Nat.beq j id=false)(h:cP nt Q (.exit j) f L):cP nt (AD id Q) (.exit j) f L:=λH hb=>by
 unfold AD;rw [if_neg (λhe=>by cases he;simp at hj)];exact h H hb
end
section
variable {A R : Type}
def lr(b:A->Option (A ⊕ R)):Nat->A->Option R
 |0,_=>none
 |m+1,a=>
  match b a with
  |none=>none
  |some (.inl a')=>lr b m a'
  |some (.inr r)=>some r
theorem qe(b:A->Option (A ⊕ R)):∀(m:Nat) (a:A) (r:R),lr b m a=some r->∀k,m<=k->lr b k a=some r
 |0,a,r,h,k,hk=>by simp [lr]at h
 |m+1,a,r,h,k,hk=>by
  match k,hk with
  |k+1,hk=>
   unfold lr at h ⊢
   cases hb:b a with
   |none=>rw [hb]at h;simp at h
   |some x=>
    rw [hb]at h
    cases x with
    |inl a'=>exact qe b m a' r h k (by omega)
    |inr r'=>exact h
open Classical in
def bF(b:A->Option (A ⊕ R))(a:A):Option R:=if h:∃r m,lr b m a=some r then some h.choose else none
theorem loopO_iff{b:A->Option (A ⊕ R)}{a:A}{r:R}:bF b a=some r↔∃m,lr b m a=some r:=by
 unfold bF;constructor
 .intro h;split at h
  .rename_i hx;obtain⟨m,hm⟩:=hx.choose_spec;exact⟨m,by rw [hm];exact h⟩
  .simp at h
 .rintro⟨m,hm⟩;have hx:∃r m,lr b m a=some r:=⟨r,m,hm⟩;rw [dif_pos hx];obtain⟨m',hm'⟩:=hx.choose_spec;have h1:=qe b m a r hm (max m m') (by omega);have h2:=qe b m' a _ hm' (max m m') (by omega);rw [h2]at h1;exact h1
theorem ir{b:A->Option (A ⊕ R)}{a:A}{r:R}(h:b a=some (.inr r)):bF b a=some r:=loopO_iff.2 ⟨1,by simp [lr,h]⟩
theorem jv{b:A->Option (A ⊕ R)}{a a':A}(h:b a=some (.inl a')):bF b a=bF b a':=by
 have key:∀r,bF b a=some r↔bF b a'=some r:=λr=>by
  rw [loopO_iff,loopO_iff];constructor
  .rintro⟨m,hm⟩
   match m with
   |0=>simp [lr]at hm
   |m+1=>exact⟨m,by simpa [lr,h]using hm⟩
  .rintro⟨m,hm⟩;exact⟨m+1,by simpa [lr,h]using hm⟩
 cases h1:bF b a' with
 |none=>
  cases h2:bF b a with
  |none=>rfl
  |some r=>rw [(key r).1 h2]at h1;exact absurd h1 (by simp)
 |some r=>exact(key r).2 h1
theorem yM{E:Env}{y:Nat->fu}{n:Nat}{c:Code}(b:A->Option (A ⊕ R))(I:A->St->Prop)(J:R->Ex->St->Prop)(hN:∀r s,¬J r .normal s)
  (hb:∀a out s,b a=some out->I a s->WpC E y n c (λe s'=>match out with
   | .inl a'=>e= .normal/\I a' s'
   | .inr r=>J r e s') s):∀a r s,bF b a=some r->I a s->WpC E y n (.loop c) (J r) s:=by
 have key:∀k a r s,lr b k a=some r->I a s->∃e s',(∃M,∀m,M<=m->∀q,M<=q->lW (evC E (be E y m n).1 (be E y m n).2 m c) q s=some (e,s'))/\J r e s':=by
  intro k
  induction k with
  |zero=>intro a r s h;simp [lr]at h
  |succ k ih=>
   intro a r s h hs;unfold lr at h
   cases hba:b a with
   |none=>rw [hba]at h;simp at h
   |some out=>
    rw [hba]at h;obtain⟨e1,s1,⟨M1,h1⟩,h2⟩:=hb a out s hba hs
    cases out with
    |inl a'=>
     obtain⟨rfl,h3⟩:=h2;obtain⟨e2,s2,⟨M2,h5⟩,h6⟩:=ih a' r s1 h h3;refine⟨e2,s2,⟨max M1 M2+1,λm hm q hq=> ?_⟩,h6⟩
     match q,hq with
     |q+1,hq=>simp [lW,h1 m (by omega),h5 m (by omega) q (by omega)]
    |inr r'=>
     simp only [zsI]at h;subst h;refine⟨e1,s1,⟨M1+1,λm hm q hq=> ?_⟩,h2⟩
     match q,hq with
     |q+1,hq=>
      cases e1 with
      |normal=>exact absurd h2 (hN _ _)
      |exit id=>simp [lW,h1 m (by omega)]
      |ret=>simp [lW,h1 m (by omega)]
 intro a r s h hs;obtain⟨k,hk⟩:=loopO_iff.1 h;obtain⟨e,s',⟨M,h1⟩,h2⟩:=key k a r s hk hs;exact⟨e,s',⟨M,λm hm=>by simpa [evC]using h1 m hm m hm⟩,h2⟩
def LQ{KT:Type}(nt:Nat)(S:A->KT->(Nat->D)->Nat->D)(SL:A->KT->BL)(J:R->Ex->St->Prop):A ⊕ R->Ex->St->Prop
 | .inl a,e,s=>e= .normal/\∃k g,s.t=tab nt (S a k g)/\HB s.h (SL a k)
 | .inr r,e,s=>J r e s
theorem OU{E:Env}{y:Nat->fu}{n nt:Nat}{c:Code}{KT:Type}{Q:Ex->St->Prop}{f:Nat->D}{L:BL}(b:A->Option (A ⊕ R))(S:A->KT->(Nat->D)->Nat->D)(SL:A->KT->BL)(J:R->Ex->St->Prop)(hN:∀r s,¬J r .normal s)
  (hb:∀a k g out,b a=some out->WpL E y n nt c (LQ nt S SL J out) (S a k g) (SL a k)) (a:A) (r:R) (hr:bF b a=some r) (k:KT) (hf:f=S a k f) (is:List Nat) (hn:is.Nodup) (hL:is.filterMap (λi=>L[i]?)=SL a k) (hJ:∀e s,J r e s->Q e s):WpL E y n nt (.loop c) Q f L:=λH hH=>by
 have h1:=yM (E:=E) (n:=n) (c:=c) b (λa s=>∃k g,s.t=tab nt (S a k g)/\HB s.h (SL a k)) J hN (λa out s ha ⟨k,g,h1,h2⟩=>by
  obtain⟨t,h⟩:=s;simp only at h1 h2;subst h1;have h3:=hb a k g out ha h h2
  cases out with
  |inl a'=>exact h3
  |inr r=>exact h3) a r {t:=tab nt f,h:=H} hr ⟨k,f,by rw [<-hf],hH.sub is hn hL⟩
 exact h1.mono λe s hs=>hJ e s hs
theorem cC{nt:Nat}{KT:Type}{S:A->KT->(Nat->D)->Nat->D}{SL:A->KT->BL}{J:R->Ex->St->Prop}{a:A}{f:Nat->D}{L:BL}(k:KT)(hf:f=S a k f)(is:List Nat)(hn:is.Nodup)(hL:is.filterMap (λi=>L[i]?)=SL a k):cP nt (LQ nt S SL J (.inl a)) .normal f L:=λH hb=>⟨rfl,k,f,congrArg (tab nt) hf,hb.sub is hn hL⟩
theorem cV{nt:Nat}{KT:Type}{S:A->KT->(Nat->D)->Nat->D}{SL:A->KT->BL}{J:R->Ex->St->Prop}{r:R}{e:Ex}{f:Nat->D}{L:BL}(h:cP nt (J r) e f L):cP nt (LQ nt S SL J (.inr r)) e f L:=h
def JX{X Up KT:Type}(nt id:Nat)(S:X->KT->(Nat->D)->Nat->D)(SL:X->KT->BL)(G:Up->Ex->St->Prop):X ⊕ Up->Ex->St->Prop
 | .inl x,e,s=>e= .exit id/\∃k g,s.t=tab nt (S x k g)/\HB s.h (SL x k)
 | .inr u,e,s=>e= .ret/\G u .ret s
section
variable {X Up KT : Type} {nt id : Nat} {S : X → KT → (Nat → D) → Nat → D} {SL : X → KT → BL} {G : Up → Ex → St → Prop}
theorem kq:∀r s,¬JX nt id S SL G r .normal s:=λr s h=>by
 cases r with
 |inl x=>exact absurd h.1 (by simp)
 |inr u=>exact absurd h.1 (by simp)
theorem dZ{x:X}{f:Nat->D}{L:BL}(k:KT)(hf:f=S x k f)(is:List Nat)(hn:is.Nodup)(hL:is.filterMap (λi=>L[i]?)=SL x k):cP nt (JX nt id S SL G (.inl x)) (.exit id) f L:=λH hb=>⟨rfl,k,f,congrArg (tab nt) hf,hb.sub is hn hL⟩
theorem EM{u:Up}{f:Nat->D}{L:BL}(h:cP nt (G u) .ret f L):cP nt (JX nt id S SL G (.inr u)) .ret f L:=λH hb=>⟨rfl,h H hb⟩
theorem J_x{x:X}{Q:Ex->St->Prop}(h:∀k g,cP nt Q (.exit id) (S x k g) (SL x k)):∀e s,JX nt id S SL G (.inl x) e s->Q e s:=λe s hs=>by
 obtain⟨rfl,k,g,h1,h2⟩:=hs;obtain⟨t,H⟩:=s;simp only at h1 h2;subst h1;exact h k g H h2
theorem mI{u:Up}{Q:Ex->St->Prop}(h:∀s,G u .ret s->Q .ret s):∀e s,JX nt id S SL G (.inr u) e s->Q e s:=λe s hs=>by
 obtain⟨rfl,h1⟩:=hs;exact h s h1
end
theorem cu{E:Env}{y:Nat->fu}{n nt:Nat}{c:Code}{KT β:Type}{Q:Ex->St->Prop}{f:Nat->D}{L:BL}{K:R->Option β}{out:β}(b:A->Option (A ⊕ R))(S:A->KT->(Nat->D)->Nat->D)(SL:A->KT->BL)(J:R->Ex->St->Prop)(hN:∀r s,¬J r .normal s)(a:A)(h:(bF b a).bind K=some out)(k:KT)(hf:f=S a k f)(is:List Nat)(hn:is.Nodup)(hL:is.filterMap (λi=>L[i]?)=SL a k)
  (hb:∀a k g out,b a=some out->WpL E y n nt c (LQ nt S SL J out) (S a k g) (SL a k)) (hc:∀r,K r=some out->∀e s,J r e s->Q e s):WpL E y n nt (.loop c) Q f L:=by
 obtain⟨r,hr,hk⟩:=Option.bind_eq_some_iff.1 h;exact OU b S SL J hN hb a r hr k hf is hn hL (hc r hk)
def ups(g:Nat->D):List (Nat×D)->Nat->D
 | []=>g
 |p::l=>up (ups g l) p.1 p.2
def Se(f:Nat->D):List (Nat×D)->Prop
 | []=>True
 |p::l=>f p.1=p.2/\Se f l
theorem am{f:Nat->D}:∀{l:List (Nat×D)},Se f l->f=ups f l
 | [],_=>rfl
 |p::l,h=>by
  have h1:=am h.2;show f=up (ups f l) p.1 p.2;rw [<-h1,AB h.1]
end
theorem al{α β:Type}{o:Option α}{k:α->Option β}{r:β}(h:o.bind k=some r):∃x,o=some x/\k x=some r:=Option.bind_eq_some_iff.1 h
theorem ifT{α:Type}{c:Prop}[Decidable c]{a b:α}{r:α}(hc:c)(h:(if c then a else b)=r):a=r:=by rw [if_pos hc]at h;exact h
theorem ifF{α:Type}{c:Prop}[Decidable c]{a b:α}{r:α}(hc:¬c)(h:(if c then a else b)=r):b=r:=by rw [if_neg hc]at h;exact h
theorem eO{X R α:Type}{f:X->α}{g:R->α}{x:X}{r:α}(h:Sum.elim f g (.inl x)=r):f x=r:=h
theorem gl{X R α:Type}{f:X->α}{g:R->α}{x:R}{r:α}(h:Sum.elim f g (.inr x)=r):g x=r:=h
def atS{α:Type}(w:Nat)(s:Sl α)(i:Int):Option α:=if 0<=i/\s.sz=w then s.l[i.toNat]? else none
theorem bw{α:Type}{w:Nat}{s:Sl α}{i:Int}{x:α}(h:atS w s i=some x):0<=i/\s.sz=w/\s.l[i.toNat]? =some x:=by
 unfold atS at h;split at h
 .rename_i hc;exact⟨hc.1,hc.2,h⟩
 .simp at h
def atL{α:Type}(l:List α)(i:Int):Option α:=if 0<=i then l[i.toNat]? else none
theorem fM{α:Type}{l:List α}{i:Int}{x:α}(h:atL l i=some x):0<=i/\l[i.toNat]? =some x:=by
 unfold atL at h;split at h
 .rename_i hc;exact⟨hc,h⟩
 .simp at h
def cpL{α:Type}(l m:List α):Option (List α):=if m.length<=l.length then some (m++l.drop m.length)else none
theorem wt{α:Type}{l m r:List α}(h:cpL l m=some r):m.length<=l.length/\m++l.drop m.length=r:=by
 unfold cpL at h;split at h
 .exact⟨‹_›,Option.some.inj h⟩
 .cases h
theorem AE{α:Type}{l m r:List α}(h:cpL l m=some r):r.length=l.length:=by
 obtain⟨h1,rfl⟩:=wt h;simp;omega
def app{α:Type}(l m:List α):Option (List α):=if l.length+m.length<=cE then some (l++m)else none
theorem dv{α:Type}{l m x:List α}(h:app l m=some x):l.length+m.length<=cE/\x=l++m:=by
 unfold app at h;split at h
 .rename_i hc;exact⟨hc,(Option.some.inj h).symm⟩
 .simp at h
end Ev
end
end Go.Proofs.YtpcmabdifkoihaaDoor
