/- Texts of a claim, joined. -/
import Derived.Test.YtjjbpdldbdmoeaaZM3
set_option linter.unusedVariables false
set_option linter.unusedSimpArgs false
namespace Go.Proofs.Ytjjbpdldbdmoeaa
noncomputable section
namespace Ev
open Go Go.RowKit
def tab(n:Nat)(f:Nat->D):List D:=(List.range n).map f
def upd(f:Nat->D)(d:Nat)(v:D):Nat->D:=λi=>if i=d then v else f i
theorem KI(f:Nat->D)(d:Nat)(v:D)(i:Nat):upd f d v i=if i=d then v else f i:=rfl
theorem ml(n:Nat)(f:Nat->D):(tab n f).length=n:=by simp [tab]
theorem gg(n:Nat)(f:Nat->D)(i:Nat):(tab n f)[i]? =if i<n then some (f i)else none:=by
 unfold tab;rw [List.getElem?_map];by_cases h:i<n
 .rw [List.getElem?_range h,if_pos h];rfl
 .rw [List.getElem?_eq_none (by simpa using h),if_neg h];rfl
theorem pc(n:Nat)(f:Nat->D)(d:Nat)(v:D):(tab n f).set d v=tab n (upd f d v):=by
 refine List.ext_getElem? λi=> ?_;rw [List.getElem?_set,gg,gg,ml,KI];by_cases h:d=i
 .subst h;by_cases hn:d<n
  .rw [if_pos rfl,if_pos hn,if_pos hn,if_pos rfl]
  .rw [if_pos rfl,if_neg hn,if_neg hn]
 .rw [if_neg h,if_neg (λe:i=d=>h e.symm)]
theorem EC(t:List D):t=tab t.length λi=>t.getD i aX:=by
 refine List.ext_getElem? λi=> ?_;rw [gg,List.getD_eq_getElem?_getD];by_cases h:i<t.length
 .rw [if_pos h,List.getElem?_eq_getElem h];rfl
 .rw [if_neg h,List.getElem?_eq_none (by omega)]
section
variable {E : Env} {y : Nat → cM} {n : Nat}
theorem mm{k:FuncId}{f:FI}{vs:List TD}{r:Kind×List TD}(ha:E.ax k=none)(hf:E.fn k=some f)(hl:vs.length<=f.nt)
  (h:WpC E nY n f.body (gZ E f.results r) {t:=tab f.nt λi=>(vs.map (bu false)).getD i aX,h:= []}):RunsP E (n+1) k vs r:=by
 refine GN ha hf ?_
 have e:vs.map (bu false)++List.replicate (f.nt - vs.length) aX=tab f.nt λi=>(vs.map (bu false)).getD i aX:=by
  rw [EC (vs.map (bu false)++List.replicate (f.nt - vs.length) aX)];have hlen:(vs.map (bu false)++List.replicate (f.nt - vs.length) aX).length=f.nt:=by simp;omega
  rw [hlen];unfold tab;congr 1;funext i;rw [List.getD_eq_getElem?_getD,List.getD_eq_getElem?_getD];by_cases hi:i<(vs.map (bu false)).length
  .rw [List.getElem?_append_left hi]
  .rw [List.getElem?_append_right (by omega),List.getElem?_replicate,List.getElem?_eq_none (show(vs.map (bu false)).length<=i by omega)];split<;>rfl
 rw [e];exact h
end
theorem eQ{α β:Type}{f g:α->Option β}:∀{l:List α},(∀x∈l,f x=g x)->l.mapM f=l.mapM g
 | [],_=>rfl
 |x::l,h=>by rw [List.mapM_cons,List.mapM_cons,h x List.mem_cons_self,eQ λy hy=>h y (List.mem_cons_of_mem _ hy)]
theorem ED{E:Env}{nid:Nat}{o:Oper}{ρ ρ':Operand->Option D}{H:Heap}(h:∀x∈o.op.operands.toList,ρ x=ρ' x):sem E nid o ρ H=sem E nid o ρ' H:=by
 unfold sem
 cases ho:o.op with
 |move x=>simp only [h x (by simp [ho,Op.operands])]
 |assign x=>simp only [h x (by simp [ho,Op.operands])]
 |pick c a b=>simp only [h c (by simp [ho,Op.operands]),h a (by simp [ho,Op.operands]),h b (by simp [ho,Op.operands])]
 |alloc e=>rfl
 |box e x=>simp only [h x (by simp [ho,Op.operands])]
 |build ty parts=>
  have:(parts.toList.mapM λ(i,x)=>(ρ x).map λd=>(i,d))=parts.toList.mapM λ(i,x)=>(ρ' x).map λd=>(i,d):=eQ λx hx=>by
   show(ρ x.2).map _=(ρ' x.2).map _;rw [h x.2 (by simp [ho,Op.operands];exact⟨x.1,by simpa using hx⟩)]
  simp only [this]
 |buildSlice ty len parts=>
  have:(parts.toList.mapM λ(i,x)=>(ρ x).map λd=>(i,d))=parts.toList.mapM λ(i,x)=>(ρ' x).map λd=>(i,d):=eQ λx hx=>by
   show(ρ x.2).map _=(ρ' x.2).map _;rw [h x.2 (by simp [ho,Op.operands];exact⟨x.1,by simpa using hx⟩)]
  simp only [this]
 |load ty a=>simp only [h a (by simp [ho,Op.operands])]
 |store ty a x=>simp only [h a (by simp [ho,Op.operands]),h x (by simp [ho,Op.operands])]
 |binOp op ty x y sh=>simp only [h x (by simp [ho,Op.operands]),h y (by simp [ho,Op.operands])]
 |unOp op ty x=>simp only [h x (by simp [ho,Op.operands])]
 |convert src dst x=>simp only [h x (by simp [ho,Op.operands])]
 |makeFunc fn first cap=>
  have h1:∀x∈first.toList,ρ x=ρ' x:=λx hx=>h x (by simp [ho,Op.operands];simp at hx;simp [hx]);have h2:∀x∈cap.toList,ρ x=ρ' x:=λx hx=>h x (by simp [ho,Op.operands];simp at hx;simp [hx]);have e1:=eQ (g:=λx=>(ρ' x).bind λd=>match d with| .one c=>some c|_=>none) (λx hx=>congrArg (λy=>Option.bind y λd=>match d with| .one c=>some c|_=>none) (h1 x hx));have e2:=eQ (g:=λx=>(ρ' x).bind λd=>match d with| .one c=>some c|_=>none) (λx hx=>congrArg (λy=>Option.bind y λd=>match d with| .one c=>some c|_=>none) (h2 x hx));have key:∀{a b a' b':Option (List C)},a=a'->b=b'->(a.bind λf=>b.bind λg=>some ({v:= .one (.clo fn f g)}:Eff))=a'.bind λf=>b'.bind λg=>some {v:= .one (.clo fn f g)}:=λh1 h2=>by rw [h1,h2]
  exact key e1 e2
 |makeSlice ty l c=>simp only [h l (by simp [ho,Op.operands]),h c (by simp [ho,Op.operands])]
 |slice ty x lo hi mx=>
  have h1:∀d,cJ ρ hi d=cJ ρ' hi d:=λd=>by cases hi with|none=>rfl|some y=>simp only [cJ];rw [h y (by simp [ho,Op.operands])]
  have h2:∀d,cJ ρ lo d=cJ ρ' lo d:=λd=>by cases lo with|none=>rfl|some y=>simp only [cJ];rw [h y (by simp [ho,Op.operands])]
  have h3:∀d,cJ ρ mx d=cJ ρ' mx d:=λd=>by cases mx with|none=>rfl|some y=>simp only [cJ];rw [h y (by simp [ho,Op.operands])]
  simp only [h x (by simp [ho,Op.operands]),h1,h2,h3]
 |fieldAddr ty x f=>simp only [h x (by simp [ho,Op.operands])]
 |field ty x f=>simp only [h x (by simp [ho,Op.operands])]
 |indexAddr ty x ix=>simp only [h x (by simp [ho,Op.operands]),h ix (by simp [ho,Op.operands])]
 |index ty x ix=>simp only [h x (by simp [ho,Op.operands]),h ix (by simp [ho,Op.operands])]
 |extract tp ix=>simp only [h tp (by simp [ho,Op.operands])]
 |nilCheck x=>simp only [h x (by simp [ho,Op.operands])]
 |call c=>
  cases hc:c.callee with
  |builtin b=>
   have h1:c.args.toList.mapM ρ=c.args.toList.mapM ρ':=eQ λx hx=>h x (by simp [ho,Op.operands,Call.operands,hc];simpa using hx);simp only [h1]
  |_=>simp only [hc]
 |_=>rfl
theorem sU{E:Env}{cp:bn}{ops:Array Oper}{nid:Nat}{o:Oper}{t:List D}{H:Heap}:step E cp ops nid o (only (dt ops o) t) H=step E cp ops nid o (ar t) H:=by
 have hl:∀x∈o.op.operands.toList,am (only (dt ops o) t) x=am (ar t) x:=λx hx=>by
  cases x with
  |tmp i=>
   have:i∈dt ops o:=by
    unfold dt;rw [List.mem_append];exact .inl (List.mem_filterMap.2 ⟨.tmp i,hx,rfl⟩)
   simp [am,only,this]
  |_=>rfl
 have hw:dJ ops (only (dt ops o) t) o=dJ ops (ar t) o:=by
  unfold dJ
  cases hg:o.guard with
  |none=>rfl
  |some p=>
   obtain⟨j,want⟩:=p;simp only
   cases hj:ops[j]? with
   |none=>rfl
   |some g=>
    cases hd:g.dst with
    |none=>simp [hd]
    |some d=>
     have:d∈dt ops o:=by
      unfold dt;rw [List.mem_append];refine .inr ?_;simp only [hg,hj,zbS,hd];simp
     simp [hd,only,this]
 unfold step;rw [hw];congr 1;funext b;split
 .cases hc:aB o.op with
  |none=>exact ED hl
  |some c=>
   have ho:o.op= .call c:=by
    unfold aB at hc;split at hc
    .rename_i c' ho;split at hc
     .simp at hc
     .simp only [zsI]at hc;subst hc;exact ho
    .simp at hc
   have hr:bh c (am (only (dt ops o) t))=bh c (am (ar t)):=by
    unfold bh
    cases hcc:c.callee with
    |value f=>
     have h1:c.args.toList.mapM (am (only (dt ops o) t))=c.args.toList.mapM (am (ar t)):=eQ λx hx=>hl x (by simp [ho,Op.operands,Call.operands,hcc];simp at hx;simp [hx]);simp only [h1,hl f (by simp [ho,Op.operands,Call.operands,hcc])]
    |_=>rfl
   have hp:fg cp nid c (only (dt ops o) t) H=fg cp nid c (ar t) H:=by
    unfold fg;simp only [hr]
   exact hp
 .rfl
def evR(E:Env)(cp:bn)(ops:Array Oper)(H:Heap)(b:Nat):Nat->List Oper->List D->Option (List D)
 |_,[],t=>some t
 |i,o::r,t=>do
  let e<-step E cp ops (b+i) o (ar t) H
  if e.upd.isEmpty then evR E cp ops H b (i+1) r (<-iH t o.dst e.v)else none
theorem yR{E:Env}{cp:bn}{ops:Array Oper}{H:Heap}{b:Nat}:∀(l:List Oper) (i:Nat) (t:List D),evR E cp ops H b i l t=evQ E cp ops H b i l t
 | [],_,_=>rfl
 |o::l,i,t=>by
  simp only [evR,evQ,sU];congr 1;funext e;split
  .congr 1;funext t';exact yR l (i+1) t'
  .rfl
def evW(E:Env)(cp:bn)(ops:Array Oper)(b:Nat)(U M:Nat->List Nat):Nat->List Oper->St->Option St
 |_,[],s=>some s
 |i,o::r,s=>do
  let e<-step E cp ops (b+i) o (ar s.t) (mask s.h (M i))
  if ids e=U i/\(U i).all (·<s.h.length)=true then evW E cp ops b U M (i+1) r (<-put o s e)else none
theorem EE{E:Env}{cp:bn}{ops:Array Oper}{b:Nat}{U M:Nat->List Nat}:∀(l:List Oper) (i:Nat) (s:St),evW E cp ops b U M i l s=bS E cp ops b U M i l s
 | [],_,_=>rfl
 |o::l,i,s=>by
  simp only [evW,bS,sU];congr 1;funext e;split
  .congr 1;funext s1;exact EE l (i+1) s1
  .rfl
section
variable {E : Env} {y : Nat → cM} {n : Nat}
theorem BH{id:Nat}{ops:Array Oper}{Q:Ex->St->Prop}{t:List D}{h:Heap}(hq:cL ops=true)(hh:∀h',h'.length=h.length+ops.size->(∀k,ai h' k=ai h k)->bm (λt=>Q .normal {t,h:=h'}) (evR E (cpR E n) ops h' h.length 0 ops.toList t)):WpC E y n (.region id ops true) Q {t,h}:=by
 refine BG hq ?_;rw [<-yR];exact hh _ (by simp) λk=>kJ _ _ _
theorem EF{id:Nat}{ops:Array Oper}{Q:Ex->St->Prop}{t:List D}{h:Heap}(O:List (List Nat))(N:List (Bool×List Nat))(R:List (List Nat))(hq:cL ops=true)(hn:gI ops N=true)(hR:dz ops=R)(hO:DJ O R O)(hb:∀l∈O,∀k∈l,k<h.length)
  (hh:∀h',h'.length=h.length+ops.size->(∀k,ai h' k=ai h k)->bm (Q .normal) (evW E (cpR E n) ops h.length (ay h.length O N) (λi=>(R.getD i []).flatMap (ay h.length O N)) 0 ops.toList {t,h:=h'})):WpC E y n (.region id ops true) Q {t,h}:=by
 refine sS O N R hq hn hR hO hb ?_;rw [<-EE];exact hh _ (by simp) λk=>kJ _ _ _
end
end Ev
end
noncomputable section
namespace Ev
open Go Go.RowKit
def gOf(ops:Array Oper)(o:Oper):Option (Option (Tmp×Bool)):=
 match o.guard with
 |none=>some none
 |some (j,w)=>((ops.toList[j]?).bind λg=>g.dst).map λd=>some (d,w)
def sV(t:Tmp->Option D):Option (Tmp×Bool)->Option Bool
 |none=>some true
 |some (d,w)=>do
  match<-t d with
  | .one (.p _ (.v (.bool b)))=>some (b==w)
  | .tup []=>some false
  |_=>none
def qy(op:Op):Oper:={dst:=none,op,type:=0,pos:= "",after:=#[],guard:=none}
def stepG(E:Env)(cp:bn)(g:Option (Tmp×Bool))(nid:Nat)(op:Op)(t:Tmp->Option D)(H:Heap):Option Eff:=do
 if<-sV t g then
  match aB op with
  |some c=>fg cp nid c t H
  |none=>sem E nid (qy op) (am t) H
 else some {v:=aX}
theorem gJ{E:Env}{cp:bn}{ops:Array Oper}{g:Option (Tmp×Bool)}{nid:Nat}{o:Oper}{t:Tmp->Option D}{H:Heap}(hg:gOf ops o=some g):step E cp ops nid o t H=stepG E cp g nid o.op t H:=by
 have hw:dJ ops t o=sV t g:=by
  unfold gOf at hg;unfold dJ
  cases ho:o.guard with
  |none=>rw [ho]at hg;simp only [zsI]at hg;subst hg;rfl
  |some p=>
   obtain⟨j,w⟩:=p;rw [ho]at hg;simp only [Option.map_eq_some_iff]at hg;obtain⟨d,h1,h2⟩:=hg;subst h2;rw [zbE]at h1;obtain⟨o',h3,h4⟩:=h1;have h3':ops[j]? =some o':=by simpa using h3
   simp only [h3',h4,zbB,zbS,sV];rfl
 unfold step stepG;rw [hw];rfl
theorem eT(H:Heap):Ev.apply H []=H:=rfl
theorem sW(H:Heap)(k:Nat)(b:Blk):Ev.apply H [(k,b)]=ak H k b:=rfl
theorem sX(H:Heap)(k j:Nat)(b c:Blk):Ev.apply H [(k,b),(j,c)]=ak (ak H k b) j c:=rfl
section
variable {E : Env} {y : Nat → cM} {n : Nat} {cp : bn} {cf : fx} {ops : Array Oper} {Q : St → Prop} {QT : List D → Prop} {o : Oper} {r : List Oper} {f : Nat → D} {H H' : Heap} {v : D} {u : List (Nat × Blk)} {d : Nat}
variable {g : Option (Tmp × Bool)}
variable {b i : Nat}
theorem An(hg:gOf ops o=some g)(hd:o.dst=some d)(hn:d<n)(hs:stepG E cp g (b+i) o.op (ar (tab n f)) H=some ⟨v,[]⟩)(h:bm QT (evR E cp ops H b (i+1) r (tab n (upd f d v)))):bm QT (evR E cp ops H b i (o::r) (tab n f)):=by
 rw [<-gJ hg]at hs
 have:evR E cp ops H b i (o::r) (tab n f)=evR E cp ops H b (i+1) r (tab n (upd f d v)):=by
  simp only [evR,hs,hd,iH,ml,hn,if_true,pc,zbB,zbS,List.isEmpty_nil]
 rw [this];exact h
theorem EG(hg:gOf ops o=some g)(hd:o.dst=none)(hs:stepG E cp g (b+i) o.op (ar (tab n f)) H=some ⟨v,[]⟩)(h:bm QT (evR E cp ops H b (i+1) r (tab n f))):bm QT (evR E cp ops H b i (o::r) (tab n f)):=by
 rw [<-gJ hg]at hs
 have:evR E cp ops H b i (o::r) (tab n f)=evR E cp ops H b (i+1) r (tab n f):=by
  simp only [evR,hs,hd,iH,if_true,zbB,zbS,List.isEmpty_nil]
 rw [this];exact h
variable {U M : Nat → List Nat}
theorem xg(hg:gOf ops o=some g)(hd:o.dst=some d)(hn:d<n)(hs:stepG E cp g (b+i) o.op (ar (tab n f)) (mask H (M i))=some ⟨v,u⟩)(hi:u.map (·.1)=U i)(hl:(U i).all (·<H.length)=true)(hu:Ev.apply H u=H')(h:bm Q (evW E cp ops b U M (i+1) r {t:=tab n (upd f d v),h:=H'})):
  bm Q (evW E cp ops b U M i (o::r) {t:=tab n f,h:=H}):=by
 subst hu;rw [<-gJ hg]at hs
 have:evW E cp ops b U M i (o::r) {t:=tab n f,h:=H}=evW E cp ops b U M (i+1) r {t:=tab n (upd f d v),h:=Ev.apply H u}:=by
  simp only [evW,hs,put,hd,iH,ml,hn,if_true,pc,zbB,zbS,ids,hi,hl,and_self]
 rw [this];exact h
theorem EH(hg:gOf ops o=some g)(hd:o.dst=none)(hs:stepG E cp g (b+i) o.op (ar (tab n f)) (mask H (M i))=some ⟨v,u⟩)(hi:u.map (·.1)=U i)(hl:(U i).all (·<H.length)=true)(hu:Ev.apply H u=H')(h:bm Q (evW E cp ops b U M (i+1) r {t:=tab n f,h:=H'})):
  bm Q (evW E cp ops b U M i (o::r) {t:=tab n f,h:=H}):=by
 subst hu;rw [<-gJ hg]at hs
 have:evW E cp ops b U M i (o::r) {t:=tab n f,h:=H}=evW E cp ops b U M (i+1) r {t:=tab n f,h:=Ev.apply H u}:=by
  simp only [evW,hs,put,hd,iH,if_true,zbB,zbS,ids,hi,hl,and_self]
 rw [this];exact h
end
section
variable {E : Env} {y : Nat → cM} {n : Nat}
theorem qz{id:Nat}{l:List Oper}{Q:Ex->St->Prop}{t:List D}{h:Heap}(k:Nat)(hk:l.length=k)(hq:cL l.toArray=true)(hh:∀h',h'.length=h.length+k->(∀k,ai h' k=ai h k)->bm (λt=>Q .normal {t,h:=h'}) (evR E (cpR E n) l.toArray h' h.length 0 l t)):WpC E y n (.region id l.toArray true) Q {t,h}:=
 BH hq λh' h1 h2=>by simpa using hh h' (by simpa [hk]using h1) h2
theorem sY{id:Nat}{l:List Oper}{Q:Ex->St->Prop}{t:List D}{h:Heap}(k:Nat)(hk:l.length=k)(O:List (List Nat))(N:List (Bool×List Nat))(R:List (List Nat))(hq:cL l.toArray=true)(hn:gI l.toArray N=true)(hR:dz l.toArray=R)(hO:DJ O R O)(hb:∀l∈O,∀k∈l,k<h.length)
  (hh:∀h',h'.length=h.length+k->(∀k,ai h' k=ai h k)->bm (Q .normal) (evW E (cpR E n) l.toArray h.length (ay h.length O N) (λi=>(R.getD i []).flatMap (ay h.length O N)) 0 l {t,h:=h'})):WpC E y n (.region id l.toArray true) Q {t,h}:=
 EF O N R hq hn hR hO hb λh' h1 h2=>by simpa using hh h' (by simpa [hk]using h1) h2
end
end Ev
end
noncomputable section
namespace Ev
open Go Go.RowKit
def fieldAt(ti:TypeId->Option TI)(ty m:Nat):Option (Nat×Nat×Bool):=(ti ty).bind λt=>(eZ t m).bind λfd=>(ti fd.type).bind λft=>some (fd.offset,ft.size,aE ft.desc)
def dU(ti:TypeId->Option TI)(ty:Nat):Option (Nat×Bool):=(ti ty).bind λt=>some (t.size,aE t.desc)
def cu(ti:TypeId->Option TI)(ty:Nat):Option Nat:=(ti ty).bind λt=>(aA t).bind λe=>(ti e).bind λte=>some te.size
def Ao:Option D->Option Eff
 |some d=>some ⟨d,[]⟩
 |none=>none
def yS:Option (Nat×Nat×Bool)->Option D->Option Eff
 |some (off,sz,_),some (.one (.ptr k i j))=>if sz=0 then none else some ⟨.one (.ptr k i (j+off)),[]⟩
 |some (off,sz,_),some (.one (.iptr fr s l i j))=>if sz=0 then none else some ⟨.one (.iptr fr s l i (j+off)),[]⟩
 |_,_=>none
def uZ:Option D->Option Eff
 |some d=>some ⟨d,[]⟩
 |none=>none
def kOf(agg:Bool):Option (List C)->Option D
 |some cs=>bY agg cs
 |none=>none
def yU(j n:Nat):Option (List C)->Option (List C)
 |some cs=>cut cs j n
 |none=>none
def KJ(i:Nat):Option (Nat×List (List C))->Option (List C)
 |some (_,es)=>es[i]?
 |none=>none
def kIn(fr:Bool):Option (List T)->Option (List C)
 |some e=>some (e.map (pC fr))
 |none=>none
def eK(H:Heap):Option (Nat×Bool)->Option D->Option Eff
 |some (sz,agg),some (.one (.ptr k i j))=>uZ (kOf agg (yU j (if agg then sz else 1) (KJ i (ai H k))))
 |some (sz,agg),some (.one (.iptr fr _ l i j))=>uZ (kOf agg (yU j (if agg then sz else 1) (kIn fr l[i]?)))
 |_,_=>none
def EI:Option D->Option D->Option D->Option Eff
 |some (.one (.p _ (.v (.bool true)))),a,_=>Ao a
 |some (.one (.p _ (.v (.bool false)))),_,b=>Ao b
 |_,_,_=>none
def oo(P:Program)(ti:TypeId->Option TI)(op:BinOp)(ty:TypeId)(x y:Operand)(a b:D):Option Eff:=
 match a,y with
 | .one (.p _ (.s nn _ _)),.const (.slice none 0 0)=>do
  let _<-aA (<-ti ty)
  match op with
  | .eql=>some {v:=mk (.bool (!nn))}
  | .neq=>some {v:=mk (.bool nn)}
  |_=>none
 | .one (.own ..),.const (.slice none 0 0)=>do
  let _<-aA (<-ti ty)
  match op with
  | .eql=>some {v:=mk (.bool false)}
  | .neq=>some {v:=mk (.bool true)}
  |_=>none
 |_,_=>do
  let va<-plain a
  let vb<-plain b
  mkO (<-ae P (do eqGuard op ty x y va vb;binOp op ty va vb))
def GP(P:Program)(ti:TypeId->Option TI)(op:BinOp)(ty:TypeId)(x y:Operand):Option D->Option D->Option Eff
 |some a,some b=>oo P ti op ty x y a b
 |_,_=>none
def OW(i:Nat)(fr:Bool)(sz:Nat)(l:List (List T)):Option Nat->Option Eff
 |some te=>if i<l.length/\sz=te then some ⟨.one (.iptr fr sz l i 0),[]⟩else none
 |none=>none
def OX(i k off n:Nat):Option Nat->Option (Nat×List (List C))->Option Eff
 |some te,some (bz,_)=>if i<n/\bz=te then some ⟨.one (.ptr k (off+i) 0),[]⟩else none
 |_,_=>none
def xh(ti:TypeId->Option TI)(ty:TypeId)(H:Heap)(i:Nat)(d:D):Option Eff:=do
 let t<-ti ty
 match d with
 | .one (.p fr (.s _ sz l))=>do
  let te<-ti (<-aA t)
  if i<l.length/\sz=te.size then some {v:= .one (.iptr fr sz l i 0)}else none
 | .one (.own k off n)=>do
  let te<-ti (<-aA t)
  let(bz,_)<-ai H k
  if i<n/\bz=te.size then some {v:= .one (.ptr k (off+i) 0)}else none
 | .one (.ptr k i' j)=>
  match t.desc with
  | .array n e=>do
   let te<-ti e
   if i<n then some {v:= .one (.ptr k i' (j+i*te.size))}else none
  |_=>none
 | .one (.iptr fr sz l i' j)=>
  match t.desc with
  | .array n e=>do
   let te<-ti e
   if i<n then some {v:= .one (.iptr fr sz l i' (j+i*te.size))}else none
  |_=>none
 |_=>none
def kIx(ti:TypeId->Option TI)(ty:TypeId)(H:Heap):Option D->Option Nat->Option Eff
 |some d,some i=>xh ti ty H i d
 |_,_=>none
def yV(j:Nat)(cs:List C):Option (List C)->Option (List C)
 |some e=>patch e j cs
 |none=>none
def EJ(k i bz:Nat)(es:List (List C)):Option (List C)->Option Eff
 |some e'=>some ⟨aX,[(k,.own bz (es.set i e'))]⟩
 |none=>none
def GQ(k i j sz:Nat):Option (List C)->Option (Nat×List (List C))->Option Eff
 |some cs,some (bz,es)=>if cs.length=sz then EJ k i bz es (yV j cs es[i]?)else none
 |_,_=>none
def qA(H:Heap):Option (Nat×Bool)->Option D->Option D->Option Eff
 |some (sz,_),some (.one (.ptr k i j)),some x=>GQ k i j sz (ea x) (ai H k)
 |_,_,_=>none
def NR:Option D->Option Nat
 |some d=>eB d
 |none=>none
section
variable {E : Env} {cp : bn} {nid : Nat} {t : Tmp → Option D} {H : Heap}
theorem EK{x:Operand}:stepG E cp none nid (.move x) t H=Ao (am t x):=by
 show(am t x).bind (λd=>some (⟨d,[]⟩:Eff))=_;cases am t x<;>rfl
theorem EL{x:Operand}:stepG E cp none nid (.assign x) t H=Ao (am t x):=by
 show(am t x).bind (λd=>some (⟨d,[]⟩:Eff))=_;cases am t x<;>rfl
theorem Ap{ty:TypeId}{x:Operand}{m:Nat}:stepG E cp none nid (.fieldAddr ty x m) t H=yS (fieldAt E.ti ty m) (am t x):=by
 show((E.ti ty).bind λt'=>(eZ t' m).bind λfd=>(E.ti fd.type).bind λft=>if ft.size=0 then none else(am t x).bind λd=>match d with
  | .one (.ptr k i j)=>some (⟨.one (.ptr k i (j+fd.offset)),[]⟩:Eff)
  | .one (.iptr fr sz l i j)=>some ⟨.one (.iptr fr sz l i (j+fd.offset)),[]⟩
  |_=>none)=_
 unfold fieldAt
 cases E.ti ty with
 |none=>rfl
 |some t'=>
  simp only [zbS]
  cases eZ t' m with
  |none=>rfl
  |some fd=>
   simp only [zbS]
   cases E.ti fd.type with
   |none=>rfl
   |some ft=>
    simp only [zbS]
    cases hx:am t x with
    |none=>split<;>rfl
    |some d=>
     cases d with
     |one c=>cases c<;>simp only [yS,zbS]<;>split<;>rfl
     |_=>simp only [yS,zbS];split<;>rfl
theorem EM{ty:TypeId}{x:Operand}:stepG E cp none nid (.load ty x) t H=eK H (dU E.ti ty) (am t x):=by
 show((E.ti ty).bind λt'=>(am t x).bind λd=>(load H (aE t'.desc) (if aE t'.desc then t'.size else 1) d).bind λv=>some (⟨v,[]⟩:Eff))=_;unfold dU
 cases E.ti ty with
 |none=>rfl
 |some t'=>
  simp only [zbS]
  cases am t x with
  |none=>rfl
  |some d=>
   simp only [zbS]
   cases d with
   |one c=>
    cases c with
    |ptr k i j=>
     simp only [eK,load]
     cases ai H k with
     |none=>rfl
     |some p=>
      obtain⟨bz,es⟩:=p;simp only [zbB,zbS,KJ]
      cases es[i]? with
      |none=>rfl
      |some e=>
       simp only [zbS,yU];generalize cut e j _=z
       cases z with
       |none=>rfl
       |some cs=>simp only [zbS,kOf];cases bY _ cs<;>rfl
    |iptr fr sz l i j=>
     simp only [eK,load]
     cases l[i]? with
     |none=>rfl
     |some e=>
      simp only [zbB,zbS,kIn,yU];generalize cut _ j _=z
      cases z with
      |none=>rfl
      |some cs=>simp only [zbS,kOf];cases bY _ cs<;>rfl
    |_=>rfl
   |_=>rfl
theorem xi{op:BinOp}{ty sh:TypeId}{x y:Operand}:stepG E cp none nid (.binOp op ty x y sh) t H=GP E.P E.ti op ty x y (am t x) (am t y):=by
 show((am t x).bind λa=>(am t y).bind λb=>oo E.P E.ti op ty x y a b)=_
 cases am t x with
 |none=>rfl
 |some a=>
  cases am t y with
  |none=>rfl
  |some b=>rfl
theorem KL{P:Program}{ti:TypeId->Option TI}{op:BinOp}{ty:TypeId}{x y:Operand}{fr fr':Bool}{k k':IntKind}{a b:Int}:
  oo P ti op ty x y (.one (.p fr (.v (.int k a)))) (.one (.p fr' (.v (.int k' b))))=(ae P (do eqGuard op ty x y (.int k a) (.int k' b);binOp op ty (.int k a) (.int k' b))).bind mkO:=rfl
theorem yW{c a b:Operand}:stepG E cp none nid (.pick c a b) t H=EI (am t c) (am t a) (am t b):=by
 show((am t c).bind λd=>(asBool d).bind λz=>if z then(am t a).bind λv=>some (⟨v,[]⟩:Eff)else(am t b).bind λv=>some ⟨v,[]⟩)=_
 cases am t c with
 |none=>rfl
 |some d=>
  simp only [zbS]
  cases d with
  |one e=>
   cases e with
   |p fr z=>
    cases z with
    |v z=>
     cases z with
     |bool z=>
      cases z
      .simp only [asBool,zbS,EI,Bool.false_eq_true,if_false];cases am t b<;>rfl
      .simp only [asBool,zbS,EI,if_true];cases am t a<;>rfl
     |_=>rfl
    |_=>rfl
   |_=>rfl
  |_=>rfl
theorem pd{ty:TypeId}{x ix:Operand}:stepG E cp none nid (.indexAddr ty x ix) t H=kIx E.ti ty H (am t x) (NR (am t ix)):=by
 show((E.ti ty).bind λt'=>(am t ix).bind λdi=>(eB di).bind λi=>(am t x).bind λd=>_)=_
 cases h1:am t x with
 |none=>
  simp only [Option.bind_none,kIx]
  cases E.ti ty with
  |none=>rfl
  |some t'=>
   cases am t ix with
   |none=>rfl
   |some di=>simp only [zbS];cases eB di<;>rfl
 |some d=>
  cases h2:am t ix with
  |none=>cases E.ti ty<;>rfl
  |some di=>
   simp only [NR,zbS]
   cases h3:eB di with
   |none=>cases E.ti ty<;>rfl
   |some i=>
    simp only [zbS,kIx,xh];rfl
theorem OY{ti:TypeId->Option TI}{ty:TypeId}{i:Nat}{fr nn:Bool}{sz:Nat}{l:List (List T)}:xh ti ty H i (.one (.p fr (.s nn sz l)))=OW i fr sz l (cu ti ty):=by
 show((ti ty).bind λt'=>(aA t').bind λe=>(ti e).bind λte=>if i<l.length/\sz=te.size then some (⟨.one (.iptr fr sz l i 0),[]⟩:Eff)else none)=_;unfold cu
 cases ti ty with
 |none=>rfl
 |some t'=>
  simp only [zbS]
  cases aA t' with
  |none=>rfl
  |some e=>
   simp only [zbS];cases ti e<;>rfl
theorem OZ{ti:TypeId->Option TI}{ty:TypeId}{i k off n:Nat}:xh ti ty H i (.one (.own k off n))=OX i k off n (cu ti ty) (ai H k):=by
 show((ti ty).bind λt'=>(aA t').bind λe=>(ti e).bind λte=>(ai H k).bind λp=>match p with|(bz,_)=>if i<n/\bz=te.size then some (⟨.one (.ptr k (off+i) 0),[]⟩:Eff)else none)=_;unfold cu
 cases ti ty with
 |none=>rfl
 |some t'=>
  simp only [zbS]
  cases aA t' with
  |none=>rfl
  |some e=>
   simp only [zbS]
   cases ti e with
   |none=>rfl
   |some te=>simp only [zbS];cases ai H k<;>rfl
theorem GR{ty:TypeId}{a x:Operand}:stepG E cp none nid (.store ty a x) t H=qA H (dU E.ti ty) (am t a) (am t x):=by
 show((E.ti ty).bind λt'=>(am t a).bind λd=>(am t x).bind λv=>store H t'.size d v)=_;unfold dU
 cases E.ti ty with
 |none=>rfl
 |some t'=>
  simp only [zbS]
  cases am t a with
  |none=>rfl
  |some d=>
   simp only [zbS]
   cases am t x with
   |none=>cases d with|one c=>cases c<;>rfl|_=>rfl
   |some v=>
    simp only [zbS]
    cases d with
    |one c=>
     cases c with
     |ptr k i j=>
      simp only [qA,store]
      cases ea v with
      |none=>rfl
      |some cs=>
       simp only [zbB,zbS]
       cases ai H k with
       |none=>simp only [GQ];split<;>rfl
       |some p=>
        obtain⟨bz,es⟩:=p;simp only [zbS,GQ];split
        .cases es[i]? with
         |none=>rfl
         |some e=>simp only [zbS,yV];cases patch e j cs<;>rfl
        .rfl
     |_=>rfl
    |_=>rfl
theorem fP{c:Call}:stepG E cp none nid (.call c) t H=match aB (.call c)with
  |some c=>fg cp nid c t H
  |none=>sem E nid (qy (.call c)) (am t) H:=rfl
end
end Ev
end
noncomputable section
namespace Ev
open Go Go.RowKit
structure Sl(α:Type)where
 nn:Bool
 sz:Nat
 l:List α
def Sl.t{α:Type}(r:α->List T)(s:Sl α):T:= .s s.nn s.sz (s.l.map r)
def aZ{α:Type}(r:α->List T)(x:α):List C:=(r x).map (pC true)
abbrev iT(k:IntKind)(n:Int):T:= .v (.int k n)
abbrev bT(b:Bool):T:= .v (.bool b)
abbrev iC(k:IntKind)(n:Int):C:= .p true (.v (.int k n))
abbrev bC(b:Bool):C:= .p true (.v (.bool b))
abbrev iD(k:IntKind)(n:Int):D:= .one (iC k n)
abbrev bD(b:Bool):D:= .one (bC b)
def up(f:Nat->D)(d:Nat)(v:D):Nat->D:=λi=>cond (Nat.beq i d) v (f i)
theorem fy(f:Nat->D)(d:Nat)(v:D):upd f d v=up f d v:=by
 funext i;unfold upd up
 cases hb:Nat.beq i d with
 |true=>rw [if_pos (Nat.eq_of_beq_eq_true hb)];rfl
 |false=>rw [if_neg (Nat.ne_of_beq_eq_false hb)];rfl
theorem GS{f:Nat->D}{d:Nat}{v:D}(h:f d=v):up f d v=f:=by
 funext i;unfold up
 cases hb:Nat.beq i d with
 |true=>rw [Nat.eq_of_beq_eq_true hb,h];rfl
 |false=>rfl
abbrev B1:=Nat×Nat×List (List C)
abbrev BL:=List (List B1)
def HBf(h:Heap)(L:List B1):Prop:=(L.map (·.1)).Nodup/\∀x∈L,ai h x.1=some x.2
section
variable {h : Heap} {L : List B1} {p k sz : Nat} {es : List (List C)}
theorem HBf.lt(hb:HBf h L){x}(hx:x∈L):x.1<h.length:=sQ (hb.2 x hx)
theorem HBf.new(hb:HBf h L)(sz:Nat)(es:List (List C)):HBf (ak h h.length (.own sz es)) ((h.length,sz,es)::L):=by
 refine⟨?_,λx hx=> ?_⟩
 .rw [List.map_cons,List.nodup_cons];refine⟨λhm=> ?_,hb.1⟩;obtain⟨x,hx,he⟩:=List.mem_map.1 hm
  have:=hb.lt hx
  omega
 .rcases List.mem_cons.1 hx with rfl|hx
  .rw [ec,if_pos rfl]
  .rw [ec,if_neg (by have:=hb.lt hx;omega)];exact hb.2 x hx
theorem BI{l:List Nat}(hn:l.Nodup){i j x:Nat}(hi:l[i]? =some x)(hj:l[j]? =some x):i=j:=by
 obtain⟨h1,h2⟩:=List.getElem?_eq_some_iff.1 hi;obtain⟨h3,h4⟩:=List.getElem?_eq_some_iff.1 hj;have hp:=List.pairwise_iff_getElem.1 hn;rcases Nat.lt_trichotomy i j with h|h|h
 .exact absurd (h2.trans h4.symm) (hp i j h1 h3 h)
 .exact h
 .exact absurd (h4.trans h2.symm) (hp j i h3 h1 h)
theorem HBf.key(hb:HBf h L)(hp:L[p]? =some (k,sz,es)){j:Nat}{x:Nat×Nat×List (List C)}(hj:L[j]? =some x)(hx:x.1=k):j=p:=by
 refine BI (x:=k) hb.1 ?_ ?_
 .rw [List.getElem?_map,hj,<-hx];rfl
 .rw [List.getElem?_map,hp];rfl
theorem HBf.kill(hb:HBf h L)(hp:L[p]? =some (k,sz,es))(b:Blk):HBf (ak h k b) (L.eraseIdx p):=by
 refine⟨?_,λx hx=> ?_⟩
 .exact List.Nodup.sublist ((List.eraseIdx_sublist L p).map _) hb.1
 .rw [List.mem_eraseIdx_iff_getElem?]at hx;obtain⟨i,hne,hi⟩:=hx;rw [ec,if_neg (λhe=>hne (hb.key hp hi he))];exact hb.2 x (List.mem_of_getElem? hi)
end
def HB(h:Heap)(L:BL):Prop:=HBf h L.flatten
theorem Aq:∀{L:BL} {p:Nat} {e:B1},L[p]? =some [e]->∃q,L.flatten[q]? =some e/\(∀e',(L.set p [e']).flatten=L.flatten.set q e')/\(L.eraseIdx p).flatten=L.flatten.eraseIdx q
 | [],p,e,h=>by simp at h
 |s::L,0,e,h=>by
  simp only [List.getElem?_cons_zero,zsI]at h;subst h;exact⟨0,rfl,λe'=>rfl,rfl⟩
 |s::L,p+1,e,h=>by
  obtain⟨q,h1,h2,h3⟩:=Aq (L:=L) (p:=p) (e:=e) (by simpa using h);refine⟨s.length+q,?_,λe'=> ?_,?_⟩
  .rw [List.flatten_cons,List.getElem?_append_right (by omega),Nat.add_sub_cancel_left,h1]
  .rw [List.set_cons_succ,List.flatten_cons,h2,List.flatten_cons,List.set_append_right _ _ (by omega),Nat.add_sub_cancel_left]
  .rw [List.eraseIdx_cons_succ,List.flatten_cons,h3,List.flatten_cons,List.eraseIdx_append_of_length_le (by omega),Nat.add_sub_cancel_left]
section
variable {h : Heap} {L : BL} {p k sz : Nat} {es : List (List C)}
theorem mn{s:List B1}(hp:L[p]? =some s){x:B1}(hx:x∈s):x∈L.flatten:=List.mem_flatten.2 ⟨s,List.mem_of_getElem? hp,hx⟩
theorem HB.get(hb:HB h L)(hp:L[p]? =some [(k,sz,es)]):ai h k=some (sz,es):=hb.2 (k,sz,es) (mn hp (List.mem_singleton.2 rfl))
theorem HB.lt(hb:HB h L){x}(hx:x∈L.flatten):x.1<h.length:=HBf.lt hb hx
theorem HB.new(hb:HB h L)(sz:Nat)(es:List (List C)):HB (ak h h.length (.own sz es)) ([(h.length,sz,es)]::L):=HBf.new hb sz es
theorem HB.kill(hb:HB h L)(hp:L[p]? =some [(k,sz,es)])(b:Blk):HB (ak h k b) (L.eraseIdx p):=by
 obtain⟨q,h1,_,h3⟩:=Aq hp;unfold HB;rw [h3];exact HBf.kill hb h1 b
def Apart(s t:List B1):Prop:=∀x∈s,∀y∈t,x.1≠y.1
theorem Apart.symm{s t:List B1}(h:Apart s t):Apart t s:=λx hx y hy e=>h y hy x hx e.symm
theorem sZ(hn:(L.flatten.map (·.1)).Nodup):(∀s∈L,s.Pairwise λx y=>x.1≠y.1)/\L.Pairwise Apart:=by
 have h1:L.flatten.Pairwise λx y=>x.1≠y.1:=List.pairwise_map.1 hn;exact List.pairwise_flatten.1 h1
theorem GT(hn:(L.flatten.map (·.1)).Nodup){i j:Nat}{s t:List B1}(hi:L[i]? =some s)(hj:L[j]? =some t)(hij:i≠j):Apart s t:=by
 have hp:=List.pairwise_iff_getElem.1 (sZ hn).2;obtain⟨i1,rfl⟩:=List.getElem?_eq_some_iff.1 hi;obtain⟨j1,rfl⟩:=List.getElem?_eq_some_iff.1 hj;rcases Nat.lt_or_gt_of_ne hij with hlt|hlt
 .exact hp i j i1 j1 hlt
 .exact(hp j i j1 i1 hlt).symm
theorem HB.sub(hb:HB h L)(is:List Nat)(hn:is.Nodup){L2:BL}(h2:is.filterMap (λi=>L[i]?)=L2):HB h L2:=by
 subst h2;have hk:=sZ hb.1;refine⟨List.pairwise_map.2 (List.pairwise_flatten.2 ⟨λs hs=> ?_,?_⟩),λx hx=> ?_⟩
 .obtain⟨i,_,hi⟩:=List.mem_filterMap.1 hs;exact hk.1 s (List.mem_of_getElem? hi)
 .rw [List.pairwise_filterMap];refine hn.imp λ{i j} hij s hs t ht=> ?_;exact GT hb.1 hs ht hij
 .obtain⟨s,hs,hx⟩:=List.mem_flatten.1 hx;obtain⟨i,_,hi⟩:=List.mem_filterMap.1 hs;exact hb.2 x (mn hi hx)
theorem ta:∀{L:BL} {p:Nat},L[p]? =some []->(L.eraseIdx p).flatten=L.flatten
 | [],p,h=>by simp at h
 |s::L,0,h=>by
  simp only [List.getElem?_cons_zero,zsI]at h;subst h;rfl
 |s::L,p+1,h=>by
  rw [List.eraseIdx_cons_succ,List.flatten_cons,ta (by simpa using h),List.flatten_cons]
end
def ov(nt:Nat)(f:Nat->D):Operand->Option D
 | .tmp i=>cond (Nat.blt i nt) (some (f i)) none
 | .const v=>jV v
 | .global _=>none
 | .func k=>some (mk (.func (.func k) #[] #[]))
theorem aQ(nt:Nat)(f:Nat->D)(x:Operand):am (ar (tab nt f)) x=ov nt f x:=by
 cases x with
 |tmp i=>
  show(tab nt f)[i]? =cond (Nat.blt i nt) (some (f i)) none;rw [gg]
  cases h2:Nat.blt i nt with
  |true=>rw [if_pos (by simpa using h2)];rfl
  |false=>rw [if_neg (λh=>by have:Nat.blt i nt=true:=(by simpa using h);rw [h2]at this;exact absurd this (by simp))];rfl
 |_=>rfl
theorem dA(nt:Nat)(f:Nat->D):am (ar (tab nt f))=ov nt f:=funext (aQ nt f)
def wb(w:Bool):Option D->Option Bool
 |some (.one (.p _ (.v (.bool b))))=>some (b==w)
 |some (.tup [])=>some false
 |_=>none
theorem NS(w:Bool)(z:Option D)(b:Bool)(h:wb w z=some b):(z.bind λd=>match d with
   | .one (.p _ (.v (.bool b)))=>some (b==w)
   | .tup []=>some false
   |_=>none)=some b:=by
 revert h
 cases z with
 |none=>exact λh=>by simp [wb]at h
 |some x=>
  cases x with
  |one c=>
   cases c with
   |p fr t=>cases t with
    |v z=>cases z<;>exact λh=>h
    |s _ _ _=>exact λh=>h
   |_=>exact λh=>h
  |agg _=>exact λh=>h
  |tup ds=>cases ds<;>exact λh=>h
def cv(ops:Array Oper)(o:Oper)(nt:Nat)(f:Nat->D):Option Bool:=
 match o.guard with
 |none=>some true
 |some (j,w)=>
  match(ops.toList[j]?).bind λg=>g.dst with
  |some d=>wb w (ov nt f (.tmp d))
  |none=>none
theorem cC{ops:Array Oper}{o:Oper}{nt:Nat}{f:Nat->D}{b:Bool}(h:cv ops o nt f=some b):∃g,gOf ops o=some g/\sV (ar (tab nt f)) g=some b:=by
 unfold cv at h;unfold gOf
 cases hg:o.guard with
 |none=>rw [hg]at h;simp only [zsI]at h;subst h;exact⟨none,rfl,rfl⟩
 |some q=>
  obtain⟨j,w⟩:=q;rw [hg]at h;simp only at h ⊢
  cases hd:(ops.toList[j]?).bind λg=>g.dst with
  |none=>rw [hd]at h;simp at h
  |some d=>
   rw [hd]at h;refine⟨some (d,w),by simp,?_⟩;have he:ar (tab nt f) d=ov nt f (.tmp d):=aQ nt f (.tmp d)
   have:=NS w _ b h
   rw [<-he]at this;exact this
def PS(E:Env)(n nt:Nat)(f:Nat->D)(L:BL)(op:Op)(v:D):Prop:=∀(h:Heap) (nid:Nat),HB h L->stepG E (cpR E n) none nid op (ar (tab nt f)) h=some ⟨v,[]⟩
def PN(E:Env)(n nt:Nat)(f:Nat->D)(L:BL)(op:Op)(v:Nat->D)(sz:Nat)(es:List (List C)):Prop:=∀(h:Heap) (nid:Nat),HB h L->stepG E (cpR E n) none nid op (ar (tab nt f)) h=some ⟨v nid,[(nid,.own sz es)]⟩
def PW(E:Env)(n nt:Nat)(f:Nat->D)(L:BL)(op:Op)(v:D)(p k sz:Nat)(es:List (List C)):Prop:=(∃x,L[p]? =some [(k,x)])/\∀(h:Heap) (nid:Nat),HB h L->stepG E (cpR E n) none nid op (ar (tab nt f)) h=some ⟨v,[(k,.own sz es)]⟩
def PA(E:Env)(n nt:Nat)(f:Nat->D)(L:BL)(op:Op)(v:Nat->D)(p k sz:Nat)(es:List (List C)):Prop:=(∃x,L[p]? =some [(k,x)])/\∀(h:Heap) (nid:Nat),HB h L->stepG E (cpR E n) none nid op (ar (tab nt f)) h=some ⟨v nid,[(k,.dead),(nid,.own sz es)]⟩
def WpL(E:Env)(y:Nat->cM)(n nt:Nat)(c:Code)(Q:Ex->St->Prop)(f:Nat->D)(L:BL):Prop:=∀h,HB h L->WpC E y n c Q {t:=tab nt f,h:=h}
def cP(nt:Nat)(Q:Ex->St->Prop)(e:Ex)(f:Nat->D)(L:BL):Prop:=∀h,HB h L->Q e {t:=tab nt f,h:=h}
def fZ(E:Env)(y:Nat->cM)(n:Nat)(ops:Array Oper)(l:List Oper)(K:St->Prop)(s:St):Prop:=∃s',(∃M,∀m,M<=m->nM E (bI E y m n).1 (bI E y m n).2 ops l s=some s')/\K s'
theorem xj{E:Env}{y:Nat->cM}{n:Nat}{ops:Array Oper}{K:St->Prop}{s:St}(h:K s):fZ E y n ops [] K s:=⟨s,⟨0,λ_ _=>rfl⟩,h⟩
theorem tc{E:Env}{y:Nat->cM}{n:Nat}{ops:Array Oper}{o:Oper}{r:List Oper}{K:St->Prop}{s s1:St}(h1:∃M,∀m,M<=m->AR E (bI E y m n).1 (bI E y m n).2 ops o s=some s1)(h2:fZ E y n ops r K s1):fZ E y n ops (o::r) K s:=by
 obtain⟨M1,h1⟩:=h1;obtain⟨s',⟨M2,h2⟩,h3⟩:=h2;exact⟨s',⟨max M1 M2,λm hm=>by simp only [nM,h1 m (by omega),zbB,zbS];exact h2 m (by omega)⟩,h3⟩
theorem tj{E:Env}{y:Nat->cM}{n:Nat}{ops:Array Oper}{o:Oper}{r:List Oper}{K:St->Prop}{s s1:St}{e:Eff}(hs:step E (cpR E n) ops s.h.length o (ar s.t) s.h=some e)(hp:put o s e=some s1)(h2:fZ E y n ops r K s1):fZ E y n ops (o::r) K s:=by
 obtain⟨M,hM⟩:=qw hs;refine tc ⟨M,λm hm=> ?_⟩ h2;unfold AR;rw [fD,hM m hm];exact hp
theorem xm{E:Env}{y:Nat->cM}{n:Nat}{id:Nat}{l:List Oper}{Q:Ex->St->Prop}{s:St}(h:fZ E y n l.toArray l (Q .normal) s):WpC E y n (.region id l.toArray false) Q s:=by
 obtain⟨s',⟨M,h1⟩,h2⟩:=h;exact⟨.normal,s',⟨M,λm hm=>by simp only [evC,Bool.false_eq_true,if_false,h1 m hm];rfl⟩,h2⟩
section
variable {E : Env} {y : Nat → cM} {n : Nat} {ops : Array Oper} {Q : St → Prop} {o : Oper} {r : List Oper} {nt : Nat} {f : Nat → D} {H H' : Heap} {v : D} {u : List (Nat × Blk)} {d : Nat} {g : Option (Tmp × Bool)}
theorem gK(hg:gOf ops o=some g)(hd:o.dst=some d)(hn:d<nt)(hs:stepG E (cpR E n) g H.length o.op (ar (tab nt f)) H=some ⟨v,u⟩)(hu:Ev.apply H u=H')(h:fZ E y n ops r Q {t:=tab nt (upd f d v),h:=H'}):fZ E y n ops (o::r) Q {t:=tab nt f,h:=H}:=by
 subst hu;rw [<-gJ hg]at hs;exact tj (s1:={t:=tab nt (upd f d v),h:=Ev.apply H u}) hs (by simp only [put,hd,iH,ml,hn,if_true,pc,zbB,zbS]) h
theorem tl(hg:gOf ops o=some g)(hd:o.dst=none)(hs:stepG E (cpR E n) g H.length o.op (ar (tab nt f)) H=some ⟨v,u⟩)(hu:Ev.apply H u=H')(h:fZ E y n ops r Q {t:=tab nt f,h:=H'}):fZ E y n ops (o::r) Q {t:=tab nt f,h:=H}:=by
 subst hu;rw [<-gJ hg]at hs;exact tj (s1:={t:=tab nt f,h:=Ev.apply H u}) hs (by simp only [put,hd,iH,zbB,zbS]) h
end
def dB(E:Env)(y:Nat->cM)(n nt:Nat)(ops:Array Oper)(l:List Oper)(K:St->Prop)(f:Nat->D)(L:BL):Prop:=∀h,HB h L->fZ E y n ops l K {t:=tab nt f,h:=h}
def StL(E:Env)(n nt:Nat)(ops:Array Oper)(l:List Oper)(i:Nat)(K:St->Prop)(f:Nat->D)(L:BL):Prop:=∀h b,HB h L->bm (λt=>K {t,h}) (evR E (cpR E n) ops h b i l (tab nt f))
section
variable {E : Env} {y : Nat → cM} {n nt : Nat} {ops : Array Oper} {o : Oper} {r : List Oper} {K : St → Prop} {f : Nat → D} {L : BL} {d : Nat} {Q : Ex → St → Prop}
theorem dC{g:Option (Tmp×Bool)}{nid:Nat}{op:Op}{t:Tmp->Option D}{H:Heap}{cp:bn}(h:sV t g=some true):stepG E cp g nid op t H=stepG E cp none nid op t H:=by
 unfold stepG;rw [h];rfl
theorem eo{g:Option (Tmp×Bool)}{nid:Nat}{op:Op}{t:Tmp->Option D}{H:Heap}{cp:bn}(h:sV t g=some false):stepG E cp g nid op t H=some ⟨aX,[]⟩:=by
 unfold stepG;rw [h];rfl
theorem cV{a b:Nat}(h:Nat.blt a b=true):a<b:=by simpa using h
theorem vc{v:D}(hw:cv ops o nt f=some true)(hd:o.dst=some d)(hn:Nat.blt d nt=true)(hs:PS E n nt f L o.op v)(h:dB E y n nt ops r K (up f d v) L):dB E y n nt ops (o::r) K f L:=λH hb=>by
 obtain⟨g,g1,g2⟩:=cC hw;exact gK g1 hd (cV hn) ((dC g2).trans (hs H _ hb)) (eT _) (by rw [fy];exact h H hb)
theorem GU(hw:cv ops o nt f=some false)(hd:o.dst=some d)(hn:Nat.blt d nt=true)(h:dB E y n nt ops r K (up f d aX) L):dB E y n nt ops (o::r) K f L:=λH hb=>by
 obtain⟨g,g1,g2⟩:=cC hw;exact gK g1 hd (cV hn) (eo g2) (eT _) (by rw [fy];exact h H hb)
theorem eL{v:Nat->D}{sz:Nat}{es:List (List C)}(hw:cv ops o nt f=some true)(hd:o.dst=some d)(hn:Nat.blt d nt=true)(hs:PN E n nt f L o.op v sz es)(h:∀k,dB E y n nt ops r K (up f d (v k)) ([(k,sz,es)]::L)):dB E y n nt ops (o::r) K f L:=λH hb=>by
 obtain⟨g,g1,g2⟩:=cC hw;exact gK g1 hd (cV hn) ((dC g2).trans (hs H _ hb)) (sW _ _ _) (by rw [fy];exact h _ _ (hb.new sz es))
theorem EN{v:Nat->D}{p k sz:Nat}{es:List (List C)}{L':BL}(hw:cv ops o nt f=some true)(hd:o.dst=some d)(hn:Nat.blt d nt=true)(hs:PA E n nt f L o.op v p k sz es)(hL:L.eraseIdx p=L')(h:∀k',dB E y n nt ops r K (up f d (v k')) ([(k',sz,es)]::L')):dB E y n nt ops (o::r) K f L:=λH hb=>by
 obtain⟨g,g1,g2⟩:=cC hw;obtain⟨⟨x,hx⟩,hs⟩:=hs;subst hL;have hk:=hb.lt (mn hx (List.mem_singleton.2 rfl));refine gK g1 hd (cV hn) ((dC g2).trans (hs H _ hb)) (sX _ _ _ _ _) ?_;rw [fy];have h1:=hb.kill (sz:=x.1) (es:=x.2) hx .dead;have h2:=h1.new sz es;rw [eP _ hk]at h2;exact h _ _ h2
theorem yX(h:cP nt Q .normal f L):dB E y n nt ops [] (Q .normal) f L:=λH hb=>xj (h H hb)
theorem ee{i:Nat}(h:cP nt Q .normal f L):StL E n nt ops [] i (Q .normal) f L:=λH b hb=>h H hb
theorem KN{v:D}{i:Nat}(hw:cv ops o nt f=some true)(hd:o.dst=some d)(hn:Nat.blt d nt=true)(hs:PS E n nt f L o.op v)(h:StL E n nt ops r (i+1) K (up f d v) L):StL E n nt ops (o::r) i K f L:=λH b hb=>by
 obtain⟨g,g1,g2⟩:=cC hw;exact An g1 hd (cV hn) ((dC g2).trans (hs H _ hb)) (by rw [fy];exact h H b hb)
theorem GV{i:Nat}(hw:cv ops o nt f=some false)(hd:o.dst=some d)(hn:Nat.blt d nt=true)(h:StL E n nt ops r (i+1) K (up f d aX) L):StL E n nt ops (o::r) i K f L:=λH b hb=>by
 obtain⟨g,g1,g2⟩:=cC hw;exact An g1 hd (cV hn) (eo g2) (by rw [fy];exact h H b hb)
def TnL(E:Env)(n nt:Nat)(ops:Array Oper)(l:List Oper)(i w:Nat)(O:List (List Nat))(N:List (Bool×List Nat))(R:List (List Nat))(b:Nat)(K:St->Prop)(f:Nat->D)(L:BL):Prop:=
 ∀H,HB H L->H.length=b+w->bm K (evW E (cpR E n) ops b (ay b O N) (λi=>(R.getD i []).flatMap (ay b O N)) i l {t:=tab nt f,h:=H})
theorem HB.mask{h:Heap}(hb:HB h L)(M:List Nat){A:BL}(is:List Nat)(hn:is.Nodup)(hA:is.filterMap (λi=>L[i]?)=A)(hm:∀x∈A.flatten,x.1 ∉ M):HB (mask h M) A:=by
 have h1:=hb.sub is hn hA;refine⟨h1.1,λx hx=> ?_⟩;rw [om,if_neg (hm x hx)];exact h1.2 x hx
section
variable {i w b : Nat} {O : List (List Nat)} {N : List (Bool × List Nat)} {R : List (List Nat)} {A : BL}
theorem EO(h:cP nt Q .normal f L):TnL E n nt ops [] i w O N R b (Q .normal) f L:=λH hb _=>h H hb
theorem KO{v:D}(hw:cv ops o nt f=some true)(hd:o.dst=some d)(hn:Nat.blt d nt=true)(is:List Nat)(hn2:is.Nodup)(hA:is.filterMap (λi=>L[i]?)=A)(hm:∀x∈A.flatten,x.1 ∉(R.getD i []).flatMap (ay b O N))(hu:ay b O N i= [])(hs:PS E n nt f A o.op v)
  (h:TnL E n nt ops r (i+1) w O N R b K (up f d v) L):TnL E n nt ops (o::r) i w O N R b K f L:=λH hb hl=>by
 obtain⟨g,g1,g2⟩:=cC hw;exact xg g1 hd (cV hn) ((dC g2).trans (hs _ _ (hb.mask _ is hn2 hA hm))) (by rw [hu];rfl) (by rw [hu];rfl) (eT _) (by rw [fy];exact h H hb hl)
theorem HB.put{h:Heap}{L:BL}{k:Nat}(hb:HB h L)(sz:Nat)(es:List (List C))(hk:∀x∈L.flatten,x.1≠k):HB (ak h k (.own sz es)) ([(k,sz,es)]::L):=by
 refine⟨?_,λx hx=> ?_⟩
 .show(k::L.flatten.map (·.1)).Nodup;rw [List.nodup_cons];refine⟨λhm=> ?_,hb.1⟩;obtain⟨x,hx,he⟩:=List.mem_map.1 hm;exact hk x hx he
 .rcases List.mem_cons.1 (show x∈(k,sz,es)::L.flatten from hx)with rfl|hx
  .rw [ec,if_pos rfl]
  .rw [ec,if_neg (hk x hx)];exact hb.2 x hx
theorem yY{v:Nat->D}{sz:Nat}{es:List (List C)}(hw:cv ops o nt f=some true)(hd:o.dst=some d)(hn:Nat.blt d nt=true)(is:List Nat)(hn2:is.Nodup)(hA:is.filterMap (λi=>L[i]?)=A)(hm:∀x∈A.flatten,x.1 ∉(R.getD i []).flatMap (ay b O N))(hu:ay b O N i= [b+i])(hi:Nat.blt i w=true)(hk:∀x∈L.flatten,x.1≠b+i)(hs:PN E n nt f A o.op v sz es)
  (h:TnL E n nt ops r (i+1) w O N R b K (up f d (v (b+i))) ([(b+i,sz,es)]::L)):TnL E n nt ops (o::r) i w O N R b K f L:=λH hb hl=>by
 obtain⟨g,g1,g2⟩:=cC hw;have hlt:=cV hi;refine xg g1 hd (cV hn) ((dC g2).trans (hs _ _ (hb.mask _ is hn2 hA hm))) (by rw [hu];rfl) (by rw [hu];simp;omega) (sW _ _ _) ?_;rw [fy];exact h _ (hb.put sz es hk) (by rw [eP _ (by omega)];exact hl)
theorem KP{v:Nat->D}{p q k sz:Nat}{es:List (List C)}{L':BL}{x:Nat×List (List C)}(hw:cv ops o nt f=some true)(hd:o.dst=some d)(hn:Nat.blt d nt=true)(is:List Nat)(hn2:is.Nodup)(hA:is.filterMap (λi=>L[i]?)=A)(hm:∀x∈A.flatten,x.1 ∉(R.getD i []).flatMap (ay b O N))(hu:ay b O N i= [k,b+i])(hi:Nat.blt i w=true)(hk:∀x∈L.flatten,x.1≠b+i)(hs:PA E n nt f A o.op v p k sz es)(hq:L[q]? =some [(k,x)])(hL:L.eraseIdx q=L')
  (h:TnL E n nt ops r (i+1) w O N R b K (up f d (v (b+i))) ([(b+i,sz,es)]::L')):TnL E n nt ops (o::r) i w O N R b K f L:=λH hb hl=>by
 obtain⟨g,g1,g2⟩:=cC hw;obtain⟨_,hs⟩:=hs;subst hL;have hlt:=cV hi;have hkl:=hb.lt (mn hq (List.mem_singleton.2 rfl));have hkl':k<H.length:=hkl;refine xg g1 hd (cV hn) ((dC g2).trans (hs _ _ (hb.mask _ is hn2 hA hm))) (by rw [hu];rfl) (by rw [hu];simp;omega) (sX _ _ _ _ _) ?_;rw [fy];refine h _ ((hb.kill (sz:=x.1) (es:=x.2) hq .dead).put sz es λy hy=>hk y (by obtain⟨s,h1,h2⟩:=List.mem_flatten.1 hy;exact List.mem_flatten.2 ⟨s,List.mem_of_mem_eraseIdx h1,h2⟩)) ?_;rw [eP _ (by rw [eP _ hkl'];omega),eP _ hkl'];exact hl
end
theorem KQ{L:BL}{b k:Nat}{x:Nat×List (List C)}(h:∀x∈L.flatten,x.1<b)(p:Nat)(hp:L[p]? =some [(k,x)]):k<b:=h _ (mn hp (List.mem_singleton.2 rfl))
theorem hm0{A:BL}{M:List Nat}(h:M= []):∀x∈A.flatten,x.1 ∉ M:=λx _=>by rw [h];simp
theorem hmn{M:List Nat}:∀x∈([]:BL).flatten,x.1 ∉ M:=λx hx=>by simp at hx
theorem hmc{A:BL}{M:List Nat}{k:Nat}{y:Nat×List (List C)}(h1:k ∉ M)(h2:∀x∈A.flatten,x.1 ∉ M):∀x∈([(k,y)]::A:BL).flatten,x.1 ∉ M:=λx hx=>by
 rcases List.mem_cons.1 (show x∈(k,y)::A.flatten from hx)with rfl|hx
 .exact h1
 .exact h2 x hx
theorem hkn{z:Nat}:∀x∈([]:BL).flatten,x.1≠z:=λx hx=>by simp at hx
theorem hkc{A:BL}{z k:Nat}{y:Nat×List (List C)}(h1:k≠z)(h2:∀x∈A.flatten,x.1≠z):∀x∈([(k,y)]::A:BL).flatten,x.1≠z:=λx hx=>by
 rcases List.mem_cons.1 (show x∈(k,y)::A.flatten from hx)with rfl|hx
 .exact h1
 .exact h2 x hx
theorem EP{id:Nat}{l:List Oper}(h:dB E y n nt l.toArray l (Q .normal) f L):WpL E y n nt (.region id l.toArray false) Q f L:=λH hb=>xm (h H hb)
theorem jr{id:Nat}{l:List Oper}(hq:cL l.toArray=true)(h:StL E n nt l.toArray l 0 (Q .normal) f L):WpL E y n nt (.region id l.toArray true) Q f L:=λH hb=>by
 refine qz l.length rfl hq λh' h1 h2=>h h' _ ⟨hb.1,λx hx=> ?_⟩;rw [h2];exact hb.2 x hx
theorem EQ{id:Nat}{l:List Oper}(w:Nat)(hw:l.length=w)(O:List (List Nat))(N:List (Bool×List Nat))(R:List (List Nat))(hq:cL l.toArray=true)(hn:gI l.toArray N=true)(hR:dz l.toArray=R)(hO:∀b:Nat,(∀x∈L.flatten,x.1<b)->(L.flatten.map (·.1)).Nodup->DJ O R O/\∀l∈O,∀k∈l,k<b)
  (h:∀b,(∀x∈L.flatten,x.1<b)->(L.flatten.map (·.1)).Nodup->TnL E n nt l.toArray l 0 w O N R b (Q .normal) f L):WpL E y n nt (.region id l.toArray true) Q f L:=λH hb=>by
 have hlt:∀x∈L.flatten,x.1<H.length:=λx hx=>hb.lt hx;obtain⟨h3,h4⟩:=hO H.length hlt hb.1;exact sY w hw O N R hq hn hR h3 h4 λh' h1 h2=>h H.length hlt hb.1 h' ⟨hb.1,λx hx=>by rw [h2];exact hb.2 x hx⟩ h1
theorem Iw{a b:Code}(h:WpL E y n nt a (iZ (WpC E y n b Q) Q) f L):WpL E y n nt (.seq a b) Q f L:=λH hb=>uX (h H hb)
theorem KR(h:cP nt Q .normal f L):WpL E y n nt .skip Q f L:=λH hb=>xe (h H hb)
theorem NT(h:cP nt Q .ret f L):WpL E y n nt .ret Q f L:=λH hb=>Am (h H hb)
theorem kK{id:Nat}(h:cP nt Q (.exit id) f L):WpL E y n nt (.exit id) Q f L:=λH hb=>xf (h H hb)
def yZ(id:Nat)(Q:Ex->St->Prop):Ex->St->Prop:=λe s=>Q (if e= .exit id then .normal else e) s
theorem GW{id:Nat}{c:Code}(h:WpL E y n nt c (yZ id Q) f L):WpL E y n nt (.block id c) Q f L:=λH hb=>sP (h H hb)
theorem GX{c:Operand}{a b:Code}{fr:Bool}(hc:ov nt f c=some (.one (.p fr (.v (.bool true)))))(h:WpL E y n nt a Q f L):WpL E y n nt (.cond c a b) Q f L:=λH hb=>by
 have h1:opnd (tab nt f) c=some (.one (.p fr (.v (.bool true)))):=(aQ nt f c).trans hc;exact qv h1 rfl (h H hb)
theorem GY{c:Operand}{a b:Code}{fr:Bool}(hc:ov nt f c=some (.one (.p fr (.v (.bool false)))))(h:WpL E y n nt b Q f L):WpL E y n nt (.cond c a b) Q f L:=λH hb=>by
 have h1:opnd (tab nt f) c=some (.one (.p fr (.v (.bool false)))):=(aQ nt f c).trans hc;exact qv h1 rfl (h H hb)
theorem ER{c:Code}(is:List Nat)(hn:is.Nodup){L2:BL}(h2:is.filterMap (λi=>L[i]?)=L2)(h:WpL E y n nt c Q f L2):WpL E y n nt c Q f L:=λH hb=>h H (hb.sub is hn h2)
theorem ES{b:Code}(h:WpL E y n nt b Q f L):cP nt (iZ (WpC E y n b Q) Q) .normal f L:=h
theorem kL{KK:St->Prop}{id:Nat}(h:cP nt Q (.exit id) f L):cP nt (iZ KK Q) (.exit id) f L:=h
theorem KU{id:Nat}(h:cP nt Q .normal f L):cP nt (yZ id Q) (.exit id) f L:=λH hb=>by unfold yZ;rw [if_pos rfl];exact h H hb
end
section
variable {A R : Type}
def fQ(b:A->Option (A ⊕ R)):Nat->A->Option R
 |0,_=>none
 |m+1,a=>
  match b a with
  |none=>none
  |some (.inl a')=>fQ b m a'
  |some (.inr r)=>some r
theorem kM(b:A->Option (A ⊕ R)):∀(m:Nat) (a:A) (r:R),fQ b m a=some r->∀k,m<=k->fQ b k a=some r
 |0,a,r,h,k,hk=>by simp [fQ]at h
 |m+1,a,r,h,k,hk=>by
  match k,hk with
  |k+1,hk=>
   unfold fQ at h ⊢
   cases hb:b a with
   |none=>rw [hb]at h;simp at h
   |some x=>
    rw [hb]at h
    cases x with
    |inl a'=>exact kM b m a' r h k (by omega)
    |inr r'=>exact h
open Classical in
def cD(b:A->Option (A ⊕ R))(a:A):Option R:=if h:∃r m,fQ b m a=some r then some h.choose else none
theorem loopO_iff{b:A->Option (A ⊕ R)}{a:A}{r:R}:cD b a=some r↔∃m,fQ b m a=some r:=by
 unfold cD;constructor
 .intro h;split at h
  .rename_i hx;obtain⟨m,hm⟩:=hx.choose_spec;exact⟨m,by rw [hm];exact h⟩
  .simp at h
 .rintro⟨m,hm⟩;have hx:∃r m,fQ b m a=some r:=⟨r,m,hm⟩;rw [dif_pos hx];obtain⟨m',hm'⟩:=hx.choose_spec;have h1:=kM b m a r hm (max m m') (by omega);have h2:=kM b m' a _ hm' (max m m') (by omega);rw [h2]at h1;exact h1
theorem kN{b:A->Option (A ⊕ R)}{a:A}{r:R}(h:b a=some (.inr r)):cD b a=some r:=loopO_iff.2 ⟨1,by simp [fQ,h]⟩
theorem za{b:A->Option (A ⊕ R)}{a a':A}(h:b a=some (.inl a')):cD b a=cD b a':=by
 have key:∀r,cD b a=some r↔cD b a'=some r:=λr=>by
  rw [loopO_iff,loopO_iff];constructor
  .rintro⟨m,hm⟩
   match m with
   |0=>simp [fQ]at hm
   |m+1=>exact⟨m,by simpa [fQ,h]using hm⟩
  .rintro⟨m,hm⟩;exact⟨m+1,by simpa [fQ,h]using hm⟩
 cases h1:cD b a' with
 |none=>
  cases h2:cD b a with
  |none=>rfl
  |some r=>rw [(key r).1 h2]at h1;exact absurd h1 (by simp)
 |some r=>exact(key r).2 h1
theorem tr{E:Env}{y:Nat->cM}{n:Nat}{c:Code}(b:A->Option (A ⊕ R))(I:A->St->Prop)(J:R->Ex->St->Prop)(hN:∀r s,¬J r .normal s)
  (hb:∀a out s,b a=some out->I a s->WpC E y n c (λe s'=>match out with
   | .inl a'=>e= .normal/\I a' s'
   | .inr r=>J r e s') s):∀a r s,cD b a=some r->I a s->WpC E y n (.loop c) (J r) s:=by
 have key:∀k a r s,fQ b k a=some r->I a s->∃e s',(∃M,∀m,M<=m->∀q,M<=q->gp (evC E (bI E y m n).1 (bI E y m n).2 m c) q s=some (e,s'))/\J r e s':=by
  intro k
  induction k with
  |zero=>intro a r s h;simp [fQ]at h
  |succ k ih=>
   intro a r s h hs;unfold fQ at h
   cases hba:b a with
   |none=>rw [hba]at h;simp at h
   |some out=>
    rw [hba]at h;obtain⟨e1,s1,⟨M1,h1⟩,h2⟩:=hb a out s hba hs
    cases out with
    |inl a'=>
     obtain⟨rfl,h3⟩:=h2;obtain⟨e2,s2,⟨M2,h5⟩,h6⟩:=ih a' r s1 h h3;refine⟨e2,s2,⟨max M1 M2+1,λm hm q hq=> ?_⟩,h6⟩
     match q,hq with
     |q+1,hq=>simp [gp,h1 m (by omega),h5 m (by omega) q (by omega)]
    |inr r'=>
     simp only [zsI]at h;subst h;refine⟨e1,s1,⟨M1+1,λm hm q hq=> ?_⟩,h2⟩
     match q,hq with
     |q+1,hq=>
      cases e1 with
      |normal=>exact absurd h2 (hN _ _)
      |exit id=>simp [gp,h1 m (by omega)]
      |ret=>simp [gp,h1 m (by omega)]
 intro a r s h hs;obtain⟨k,hk⟩:=loopO_iff.1 h;obtain⟨e,s',⟨M,h1⟩,h2⟩:=key k a r s hk hs;exact⟨e,s',⟨M,λm hm=>by simpa [evC]using h1 m hm m hm⟩,h2⟩
def LQ{KT:Type}(nt:Nat)(S:A->KT->(Nat->D)->Nat->D)(SL:A->KT->BL)(J:R->Ex->St->Prop):A ⊕ R->Ex->St->Prop
 | .inl a,e,s=>e= .normal/\∃k g,s.t=tab nt (S a k g)/\HB s.h (SL a k)
 | .inr r,e,s=>J r e s
theorem KV{E:Env}{y:Nat->cM}{n nt:Nat}{c:Code}{KT:Type}{Q:Ex->St->Prop}{f:Nat->D}{L:BL}(b:A->Option (A ⊕ R))(S:A->KT->(Nat->D)->Nat->D)(SL:A->KT->BL)(J:R->Ex->St->Prop)(hN:∀r s,¬J r .normal s)
  (hb:∀a k g out,b a=some out->WpL E y n nt c (LQ nt S SL J out) (S a k g) (SL a k)) (a:A) (r:R) (hr:cD b a=some r) (k:KT) (hf:f=S a k f) (is:List Nat) (hn:is.Nodup) (hL:is.filterMap (λi=>L[i]?)=SL a k) (hJ:∀e s,J r e s->Q e s):WpL E y n nt (.loop c) Q f L:=λH hH=>by
 have h1:=tr (E:=E) (n:=n) (c:=c) b (λa s=>∃k g,s.t=tab nt (S a k g)/\HB s.h (SL a k)) J hN (λa out s ha ⟨k,g,h1,h2⟩=>by
  obtain⟨t,h⟩:=s;simp only at h1 h2;subst h1;have h3:=hb a k g out ha h h2
  cases out with
  |inl a'=>exact h3
  |inr r=>exact h3) a r {t:=tab nt f,h:=H} hr ⟨k,f,by rw [<-hf],hH.sub is hn hL⟩
 exact h1.mono λe s hs=>hJ e s hs
theorem dD{nt:Nat}{KT:Type}{S:A->KT->(Nat->D)->Nat->D}{SL:A->KT->BL}{J:R->Ex->St->Prop}{a:A}{f:Nat->D}{L:BL}(k:KT)(hf:f=S a k f)(is:List Nat)(hn:is.Nodup)(hL:is.filterMap (λi=>L[i]?)=SL a k):cP nt (LQ nt S SL J (.inl a)) .normal f L:=λH hb=>⟨rfl,k,f,congrArg (tab nt) hf,hb.sub is hn hL⟩
theorem jR{nt:Nat}{KT:Type}{S:A->KT->(Nat->D)->Nat->D}{SL:A->KT->BL}{J:R->Ex->St->Prop}{r:R}{e:Ex}{f:Nat->D}{L:BL}(h:cP nt (J r) e f L):cP nt (LQ nt S SL J (.inr r)) e f L:=h
def JX{X Up KT:Type}(nt id:Nat)(S:X->KT->(Nat->D)->Nat->D)(SL:X->KT->BL)(G:Up->Ex->St->Prop):X ⊕ Up->Ex->St->Prop
 | .inl x,e,s=>e= .exit id/\∃k g,s.t=tab nt (S x k g)/\HB s.h (SL x k)
 | .inr u,e,s=>e= .ret/\G u .ret s
section
variable {X Up KT : Type} {nt id : Nat} {S : X → KT → (Nat → D) → Nat → D} {SL : X → KT → BL} {G : Up → Ex → St → Prop}
theorem sd:∀r s,¬JX nt id S SL G r .normal s:=λr s h=>by
 cases r with
 |inl x=>exact absurd h.1 (by simp)
 |inr u=>exact absurd h.1 (by simp)
theorem kP{x:X}{f:Nat->D}{L:BL}(k:KT)(hf:f=S x k f)(is:List Nat)(hn:is.Nodup)(hL:is.filterMap (λi=>L[i]?)=SL x k):cP nt (JX nt id S SL G (.inl x)) (.exit id) f L:=λH hb=>⟨rfl,k,f,congrArg (tab nt) hf,hb.sub is hn hL⟩
theorem KW{u:Up}{f:Nat->D}{L:BL}(h:cP nt (G u) .ret f L):cP nt (JX nt id S SL G (.inr u)) .ret f L:=λH hb=>⟨rfl,h H hb⟩
theorem J_x{x:X}{Q:Ex->St->Prop}(h:∀k g,cP nt Q (.exit id) (S x k g) (SL x k)):∀e s,JX nt id S SL G (.inl x) e s->Q e s:=λe s hs=>by
 obtain⟨rfl,k,g,h1,h2⟩:=hs;obtain⟨t,H⟩:=s;simp only at h1 h2;subst h1;exact h k g H h2
theorem zb{u:Up}{Q:Ex->St->Prop}(h:∀s,G u .ret s->Q .ret s):∀e s,JX nt id S SL G (.inr u) e s->Q e s:=λe s hs=>by
 obtain⟨rfl,h1⟩:=hs;exact h s h1
end
theorem ia{E:Env}{y:Nat->cM}{n nt:Nat}{c:Code}{KT β:Type}{Q:Ex->St->Prop}{f:Nat->D}{L:BL}{K:R->Option β}{out:β}(b:A->Option (A ⊕ R))(S:A->KT->(Nat->D)->Nat->D)(SL:A->KT->BL)(J:R->Ex->St->Prop)(hN:∀r s,¬J r .normal s)(a:A)(h:(cD b a).bind K=some out)(k:KT)(hf:f=S a k f)(is:List Nat)(hn:is.Nodup)(hL:is.filterMap (λi=>L[i]?)=SL a k)
  (hb:∀a k g out,b a=some out->WpL E y n nt c (LQ nt S SL J out) (S a k g) (SL a k)) (hc:∀r,K r=some out->∀e s,J r e s->Q e s):WpL E y n nt (.loop c) Q f L:=by
 obtain⟨r,hr,hk⟩:=Option.bind_eq_some_iff.1 h;exact KV b S SL J hN hb a r hr k hf is hn hL (hc r hk)
def ups(g:Nat->D):List (Nat×D)->Nat->D
 | []=>g
 |p::l=>up (ups g l) p.1 p.2
def NU(f:Nat->D):List (Nat×D)->Prop
 | []=>True
 |p::l=>f p.1=p.2/\NU f l
theorem az{f:Nat->D}:∀{l:List (Nat×D)},NU f l->f=ups f l
 | [],_=>rfl
 |p::l,h=>by
  have h1:=az h.2;show f=up (ups f l) p.1 p.2;rw [<-h1,GS h.1]
end
theorem bg{α β:Type}{o:Option α}{k:α->Option β}{r:β}(h:o.bind k=some r):∃x,o=some x/\k x=some r:=Option.bind_eq_some_iff.1 h
theorem ifT{α:Type}{c:Prop}[Decidable c]{a b:α}{r:α}(hc:c)(h:(if c then a else b)=r):a=r:=by rw [if_pos hc]at h;exact h
theorem ifF{α:Type}{c:Prop}[Decidable c]{a b:α}{r:α}(hc:¬c)(h:(if c then a else b)=r):b=r:=by rw [if_neg hc]at h;exact h
theorem qB{X R α:Type}{f:X->α}{g:R->α}{x:X}{r:α}(h:Sum.elim f g (.inl x)=r):f x=r:=h
theorem qC{X R α:Type}{f:X->α}{g:R->α}{x:R}{r:α}(h:Sum.elim f g (.inr x)=r):g x=r:=h
def atS{α:Type}(w:Nat)(s:Sl α)(i:Int):Option α:=if 0<=i/\s.sz=w then s.l[i.toNat]? else none
theorem ck{α:Type}{w:Nat}{s:Sl α}{i:Int}{x:α}(h:atS w s i=some x):0<=i/\s.sz=w/\s.l[i.toNat]? =some x:=by
 unfold atS at h;split at h
 .rename_i hc;exact⟨hc.1,hc.2,h⟩
 .simp at h
def atL{α:Type}(l:List α)(i:Int):Option α:=if 0<=i then l[i.toNat]? else none
theorem mq{α:Type}{l:List α}{i:Int}{x:α}(h:atL l i=some x):0<=i/\l[i.toNat]? =some x:=by
 unfold atL at h;split at h
 .rename_i hc;exact⟨hc,h⟩
 .simp at h
def cpL{α:Type}(l m:List α):Option (List α):=if m.length<=l.length then some (m++l.drop m.length)else none
theorem xn{α:Type}{l m r:List α}(h:cpL l m=some r):m.length<=l.length/\m++l.drop m.length=r:=by
 unfold cpL at h;split at h
 .exact⟨‹_›,Option.some.inj h⟩
 .cases h
theorem Ar{α:Type}{l m r:List α}(h:cpL l m=some r):r.length=l.length:=by
 obtain⟨h1,rfl⟩:=xn h;simp;omega
def app{α:Type}(l m:List α):Option (List α):=if l.length+m.length<=cQ then some (l++m)else none
theorem aT{α:Type}{l m x:List α}(h:app l m=some x):l.length+m.length<=cQ/\x=l++m:=by
 unfold app at h;split at h
 .rename_i hc;exact⟨hc,(Option.some.inj h).symm⟩
 .simp at h
end Ev
end
end Go.Proofs.Ytjjbpdldbdmoeaa
