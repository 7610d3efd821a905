/- Texts of a claim, joined. -/
import Derived.Test.YtkmbihigeeclbaaZFB0
import Derived.Laws.Cover3
set_option linter.unusedVariables false
set_option linter.unusedSimpArgs false
namespace Go.Proofs.Ytkmbihigeeclbaa
noncomputable section
namespace Ev
open Go Go.RowKit
section
variable {P : Program} {ti : TypeId → Option TI} {w : World} {base : Nat} {F0 : Nat → Prop} {ρ : Nat → Nat} {H : ak}
theorem wo(off:Nat):∀(l:List Value) (s:Nat) (arr:Array Value),((l.zipIdx s).foldl (λcs p=>cs.setIfInBounds (off+p.2) p.1) arr).size=arr.size/\
  ∀m,((l.zipIdx s).foldl (λcs p=>cs.setIfInBounds (off+p.2) p.1) arr)[m]? =if off+s<=m/\m<off+s+l.length/\m<arr.size then l[m - (off+s)]? else arr[m]?
 | [],s,arr=>⟨rfl,λm=>by rw [if_neg (by simp;omega)];rfl⟩
 |v::l,s,arr=>by
  obtain⟨h1,h2⟩:=wo off l (s+1) (arr.setIfInBounds (off+s) v);refine⟨by simpa using h1,λm=> ?_⟩;simp only [List.zipIdx_cons,List.foldl_cons];rw [h2 m];simp only [Array.size_setIfInBounds,List.length_cons];by_cases hm:m=off+s
  .subst hm;rw [if_neg (by omega)];by_cases hs:off+s<arr.size
   .rw [if_pos (by omega)];simp [Array.getElem?_setIfInBounds,hs]
   .rw [if_neg (by omega)];simp [Array.getElem?_setIfInBounds];rw [if_neg hs];exact(Array.getElem?_eq_none (by omega)).symm
  .by_cases hin:off+(s+1)<=m/\m<off+(s+1)+l.length/\m<arr.size
   .rw [if_pos hin,if_pos (by omega),show m - (off+s)=(m - (off+(s+1)))+1 by omega];simp
   .rw [if_neg hin,if_neg (by omega),Array.getElem?_setIfInBounds,if_neg (by omega)]
def sW(w:World)(base:Nat)(F:Nat->Prop)(ρ:Nat->Nat)(H:ak)(ps:List (Nat×D))(vs:List (Nat×Value)):Prop:=
 ps.length=vs.length/\∀(i:Nat) p,ps[i]? =some p->∃v,vs[i]? =some (p.1,v)/\RepD w base F ρ H p.2 v
theorem uF{F:Nat->Prop}{pl:Nat->Option (Nat×Nat)}:∀(ps:List (Nat×D)) (vs:List (Nat×Value)) (cs r:List C) (arr:Array Value),sW w base F ρ H ps vs->RepCs w base F ρ H cs arr.toList->Ev.fill pl cs ps=some r->
  ∃arr',Instr.fill pl arr vs=some arr'/\RepCs w base F ρ H r arr'.toList
 | [],vs,cs,r,arr,hp,hc,hf=>by
  have:vs= []:=List.length_eq_zero_iff.1 hp.1.symm
  subst this;simp only [Ev.fill,zsI]at hf;subst hf;exact⟨arr,rfl,hc⟩
 |(i,d)::ps,[],cs,r,arr,hp,hc,hf=>by simp [sW]at hp
 |(i,d)::ps,(i',v)::vs,cs,r,arr,hp,hc,hf=>by
  obtain⟨v',h1,hd⟩:=hp.2 0 (i,d) rfl;simp at h1;obtain⟨rfl,rfl⟩:=h1;have hp':sW w base F ρ H ps vs:=⟨by have:=hp.1;simpa using this,λj p hj=>by have:=hp.2 (j+1) p (by simpa using hj);simpa using this⟩;simp only [Ev.fill,zbB,zbE]at hf;obtain⟨⟨off,size⟩,e1,ds,e2,e3⟩:=hf;split at e3
  .rename_i hlen;simp only [zbE]at e3;obtain⟨cs',e4,e5⟩:=e3;obtain⟨hr,hone⟩:=kS hd e2;obtain⟨p1,p2,p3⟩:=kZ e4;have hl:v.cells.size=ds.length:=by have:=hr.1;simpa using this.symm
   have hl2:cs.length=arr.size:=by have:=hc.1;simpa using this
   have hfold:v.cells.zipIdx.foldl (λcs (c,j)=>cs.setIfInBounds (off+j) c) arr=(v.cells.toList.zipIdx 0).foldl (λcs p=>cs.setIfInBounds (off+p.2) p.1) arr:=by
    rw [<-Array.foldl_toList,Array.toList_zipIdx]
   obtain⟨f1,f2⟩:=wo off v.cells.toList 0 arr
   obtain⟨arr',g1,g2⟩:=uF ps vs cs' r (v.cells.zipIdx.foldl (λcs (c,j)=>cs.setIfInBounds (off+j) c) arr) hp' ⟨by rw [hfold];simp [f1,p2,hl2],λm c hm=>by
    rw [hfold];rw [p3 m]at hm;rw [Array.getElem?_toList,f2 m];split at hm
    .rename_i hr2;rw [if_pos (by simp [hl];omega)];simpa using hr.2 _ c hm
    .rename_i hr2;rw [if_neg (by simp [hl];omega)]
     simpa using hc.2 m c hm⟩ e5
   refine⟨arr',?_,g2⟩;simp only [Instr.fill,e1];rw [if_neg (by simp [hl];omega)];exact g1
  .simp at e3
theorem nM{F:Nat->Prop}{g:Tmp->Option D}{a:Act}(h:RelG w base F ρ H g a):∀(l:List (Nat×Operand)) (ps:List (Nat×D)),(l.mapM λ(i,x)=>(ay g x).map λd=>(i,d))=some ps->
  sW w base F ρ H ps (l.map λ(i,x)=>(i,a.eval x))
 | [],ps,hp=>by simp at hp;subst hp;exact⟨rfl,λi p hi=>by simp at hi⟩
 |(i,x)::l,ps,hp=>by
  simp only [List.mapM_cons,zbB,zbE,Option.map_eq_some_iff,Option.pure_def,zsI]at hp;obtain⟨p,⟨d,h1,rfl⟩,r,h2,rfl⟩:=hp;obtain⟨g1,g2⟩:=nM h l r h2;refine⟨by simpa using g1,λj p hj=> ?_⟩
  cases j with
  |zero=>simp at hj;subst hj;exact⟨a.eval x,by simp,h.opnd h1⟩
  |succ j=>simp at hj;simpa using g2 j p hj
theorem mr{F:Nat->Prop}{g:Tmp->Option D}{a:Act}(h:RelG w base F ρ H g a):∀(l:List Operand) (ds:List D),l.mapM (ay g)=some ds->ds.length=l.length/\∀(i:Nat) d,ds[i]? =some d->∃y,(l.map a.eval)[i]? =some y/\RepD w base F ρ H d y
 | [],ds,hp=>by simp at hp;subst hp;exact⟨rfl,λi p hi=>by simp at hi⟩
 |x::l,ds,hp=>by
  simp only [List.mapM_cons,zbB,zbE,Option.pure_def,zsI]at hp;obtain⟨d,h1,r,h2,rfl⟩:=hp;obtain⟨g1,g2⟩:=mr h l r h2;refine⟨by simpa using g1,λj p hj=> ?_⟩
  cases j with
  |zero=>simp at hj;subst hj;exact⟨a.eval x,by simp,h.opnd h1⟩
  |succ j=>simp at hj;simpa using g2 j p hj
theorem qi(h:dr P ti){ty:TypeId}{i:TI}(ht:ti ty=some i){F:Nat->Prop}:RepCs w base F ρ H (fK i) i.zero:=sU (h.zero ty i ht).1
theorem oH(h:dr P ti):∀(fs:List Field) (l:List (Nat×Nat)),(fs.mapM λf=>(ti f.type).map λi=>(f.offset,i.size))=some l->(fs.mapM λf=>(P.info? f.type).map λi=>(f.offset,i.size))=some l
 | [],l,hl=>by simpa using hl
 |f::fs,l,hl=>by
  simp only [List.mapM_cons,zbB,zbE,Option.map_eq_some_iff,Option.pure_def,zsI]at hl ⊢;obtain⟨p,⟨i,h1,rfl⟩,r,h2,rfl⟩:=hl;obtain⟨o,z,g1,_,_,g4,_⟩:=h.info _ _ h1;exact⟨_,⟨o,g1,rfl⟩,r,oH h fs r h2,by rw [g4]⟩
theorem Cl(h:dr P ti){ty:TypeId}{i:TI}(ht:ti ty=some i){F:Nat->Prop}{pl:Nat->Option (Nat×Nat)}(hpl:kK ti i=some pl){ps:List (Nat×D)}{vs:List (Nat×Value)}(hp:sW w base F ρ H ps vs){r:List C}
  (hf:Ev.fill pl (fK i) ps=some r):∃z,(Instr.build ty vs.toArray).run P w= .ok z w/\RepD w base F ρ H (.agg r) z:=by
 obtain⟨o,z,g1,g2,g3,g4,g5⟩:=h.info ty i ht;have hz:RepCs w base F ρ H (fK i) z.cells.toList:=by rw [g3];exact qi h ht
 obtain⟨arr',f1,f2⟩:=uF ps vs (fK i) r z.cells hp hz hf
 have hb:P.built ty vs=some arr':=by
  unfold Program.built;rw [g1,h.und ty i ht];unfold kK at hpl;split at hpl
  .rename_i fs hd;rw [hd];simp only [Option.map_eq_some_iff]at hpl;obtain⟨l,k1,rfl⟩:=hpl;simp only [g2,oH h _ _ k1];simpa using f1
  .rename_i n e hd;rw [hd];simp only [Option.map_eq_some_iff]at hpl;obtain⟨te,k1,rfl⟩:=hpl;obtain⟨o2,z2,m1,m2,m3,m4,m5⟩:=h.info _ _ k1;simp only [g2,m1,m4];exact f1
  .simp at hpl
 refine⟨_,run_build w ty vs.toArray arr' (by simpa using hb),?_⟩
 have:=RepD.agg _ _ f2
 simpa using this
theorem wq{sz n:Nat}{cs:List C}{es:List (List C)}(h:nI sz cs n=some es):es.length=n/\∀(i:Nat) e,es[i]? =some e->cut cs (i*sz) sz=some e:=by
 unfold nI at h
 have key:∀(l:List Nat) (es:List (List C)),l.mapM (λi=>cut cs (i*sz) sz)=some es->es.length=l.length/\∀(i:Nat) e,es[i]? =some e->∃q,l[i]? =some q/\cut cs (q*sz) sz=some e:=by
  intro l
  induction l with
  |nil=>intro es h;simp at h;subst h;exact⟨rfl,λi e hi=>by simp at hi⟩
  |cons q l ih=>
   intro es h;simp only [List.mapM_cons,zbB,zbE,Option.pure_def,zsI]at h;obtain⟨e0,h1,r,h2,rfl⟩:=h;obtain⟨g1,g2⟩:=ih r h2;refine⟨by simpa using g1,λi e hi=> ?_⟩
   cases i with
   |zero=>simp at hi;subst hi;exact⟨q,rfl,h1⟩
   |succ i=>simpa using g2 i e (by simpa using hi)
 obtain⟨g1,g2⟩:=key _ _ h;refine⟨by simpa using g1,λi e hi=> ?_⟩;obtain⟨q,k1,k2⟩:=g2 i e hi;have hlt:=(List.getElem?_eq_some_iff.1 hi).1;rw [g1]at hlt;simp at hlt;simp [hlt]at k1;rw [k1];exact k2
theorem mt(R:HRel w base F0 ρ H)(hb:base<=w.heap.size){nid:Nat}(hn:∀B,H[nid]? =some B->B= .no){s:Sem Value}{arr:Array Value}{ty:TypeId}{sz:Nat}{es:List (List C)}{n:Nat}{d:D}{y:Value}
  (hfit:es.length*sz<=arr.size) (hwid:∀(i:Nat) e,es[i]? =some e->e.length=sz)
  (hc:∀(i j:Nat) e c,es[i]? =some e->e[j]? =some c->∃y,arr[i*sz+j]? =some y/\RepC w base (Fb F0 ρ H) ρ H c y)
  (hrun:s.run P w= .ok y (w.alloc (.cells arr ty)))
  (hy:(d= .one (.ptr nid 0 0)/\y= .pointer (some ⟨w.heap.size,0,none⟩))∨(∃c,d= .one (.own nid 0 n)/\y= .slice (some ⟨w.heap.size,0,none⟩) n c/\n<=c/\c*sz<=arr.size)):
  Good P base F0 w ρ H s {v:=d,upd:= [(nid,.own sz es)]}:=by
 obtain⟨h1,h2⟩:=qg R hb hn (w1:=w) rfl rfl rfl rfl (ty:=ty) hfit hwid hc;refine⟨y,_,_,hrun,h1,h2,?_⟩;have hk:∃B,(av H nid (.own sz es))[nid]? =some B/\B≠ .no:=⟨_,aR _ _ _,by simp⟩
 have hbs:aU (w.alloc (.cells arr ty)) w.heap.size=arr.size:=by
  unfold aU
  have:(w.alloc (.cells arr ty)).heap[w.heap.size]? =some (.cells arr ty):=by show(w.heap.push _)[w.heap.size]? =_;simp
  rw [this]
 simp only [apply,List.foldl_cons,List.foldl_nil];rcases hy with⟨rfl,rfl⟩|⟨cp,rfl,rfl,hnc,hle⟩
 .refine .one _ _ (.ptr nid 0 0 _ hk λsz' es' hb'=> ?_);simp
 .refine .one _ _ (.own nid 0 n cp _ hk hnc λsz' es' hb'=> ?_);rw [aR]at hb';cases hb';simp only [if_true];rw [hbs];simpa using hle
theorem Cm(h:dr P ti)(R:HRel w base F0 ρ H)(hb:base<=w.heap.size){nid:Nat}(hn:∀B,H[nid]? =some B->B= .no){ty:TypeId}{i:TI}(ht:ti ty=some i):
  Good P base F0 w ρ H (Instr.alloc ty true (.tuple #[])) {v:= .one (.ptr nid 0 0),upd:= [(nid,.own i.size [fK i])]}:=by
 obtain⟨z,z1,z2⟩:=wj h ht;have hz:=qi (w:=w) (base:=base) (ρ:=ρ) (H:=H) h ht (F:=Fb F0 ρ H);have hl:=(h.zero ty i ht).2.1;refine mt R hb hn (arr:=z.cells) (ty:=ty) (n:=0) (by simp [<-hl,<-z1]) (λn e he=> ?_) (λn m e c he hm=> ?_) ?_ (.inl ⟨rfl,rfl⟩)
 .cases n with
  |zero=>simp at he;subst he;simp [fK,hl]
  |succ n=>simp at he
 .cases n with
  |zero=>
   simp at he;subst he;obtain⟨y,g1,g2⟩:=hz.2 m c hm;exact⟨y,by rw [<-z1]at g1;simpa using g1,g2⟩
  |succ n=>simp at he
 .simp [Instr.alloc,z2,newVar,newRow]
theorem Ic(R:HRel w base F0 ρ H)(hb:base<=w.heap.size){nid:Nat}(hn:∀B,H[nid]? =some B->B= .no){ty:TypeId}{d:D}{x:Value}(hx:RepD w base (Fb F0 ρ H) ρ H d x){cs:List C}(hc:eb d=some cs):
  Good P base F0 w ρ H (Instr.box ty x) {v:= .one (.ptr nid 0 0),upd:= [(nid,.own cs.length [cs])]}:=by
 obtain⟨hr,hone⟩:=kS hx hc;refine mt R hb hn (arr:=x.cells) (ty:=ty) (n:=0) (by have:=hr.1;simp at this ⊢;omega) (λn e he=> ?_) (λn m e c he hm=> ?_) ?_ (.inl ⟨rfl,rfl⟩)
 .cases n with
  |zero=>simp at he;subst he;rfl
  |succ n=>simp at he
 .cases n with
  |zero=>
   simp at he;subst he;obtain⟨y,g1,g2⟩:=hr.2 m c hm;exact⟨y,by simpa using g1,g2⟩
  |succ n=>simp at he
 .simp [Instr.box,newVar,newRow]
theorem AG(h:dr P ti){ty:TypeId}{i:TI}(ht:ti ty=some i){F:Nat->Prop}{z:Value}(hz:z.cells.toList=i.zero)(n:Nat):RepCs w base F ρ H (ku i n) ((Array.range (n*i.size)).map (z.cells[·% z.cells.size]!)).toList:=by
 have hl:=(h.zero ty i ht).2.1;have hs:z.cells.size=i.size:=by rw [<-hl,<-hz];simp
 refine⟨by simp [ku],λm c hm=> ?_⟩;simp only [ku,List.getElem?_map,Option.map_eq_some_iff]at hm;obtain⟨q,h1,rfl⟩:=hm;obtain⟨hq,h2⟩:=List.getElem?_eq_some_iff.1 h1;simp at hq h2;subst h2
 have hpos:0<i.size:=by
  rcases Nat.eq_zero_or_pos i.size with h0|h0
  .rw [h0]at hq;simp at hq
  .exact h0
 have hmod:m % i.size<i.zero.length:=by rw [hl];exact Nat.mod_lt _ hpos
 refine⟨i.zero[m % i.size],?_,?_⟩
 .have hlt:m % i.size<z.cells.size:=by rw [hs];exact Nat.mod_lt _ hpos
  have e:z.cells[m % i.size]! =i.zero[m % i.size]:=by
   rw [getElem!_pos z.cells _ hlt]
   have:z.cells[m % i.size]? =some i.zero[m % i.size]:=by rw [<-Array.getElem?_toList,hz];simp [hmod]
   rw [Array.getElem?_eq_getElem hlt]at this;exact Option.some.inj this
  simp [hq,hs,e]
 .have e:(fK i).getD (m % i.size) (.p true (.v .nilFunc))=fF i.zero[m % i.size]:=by simp [fK,List.getD_eq_getElem?_getD,hmod]
  rw [e];exact qe ((h.zero ty i ht).1 _ (List.getElem_mem _))
theorem ss(h:dr P ti)(R:HRel w base F0 ρ H)(hb:base<=w.heap.size){nid:Nat}(hn:∀B,H[nid]? =some B->B= .no){ty e:TypeId}{i te:TI}(ht:ti ty=some i)(hd:i.desc= .slice e)(hte:ti e=some te){len:Nat}
  (hlen:len*te.size<=2 ^ 24) {ps:List (Nat×D)} {vs:List (Nat×Value)} (hp:sW w base (Fb F0 ρ H) ρ H ps vs) {cs:List C} (hf:Ev.fill (λi=>some (i*te.size,te.size)) (ku te len) ps=some cs) {es:List (List C)} (he:nI te.size cs len=some es):
  Good P base F0 w ρ H (Instr.buildSlice ty len vs.toArray) {v:= .one (.own nid 0 len),upd:= [(nid,.own te.size es)]}:=by
 obtain⟨z,z1,z2⟩:=wj h hte;obtain⟨arr',f1,f2⟩:=uF ps vs (ku te len) cs ((Array.range (len*te.size)).map (z.cells[·% z.cells.size]!)) hp (AG h hte z1 len) hf;obtain⟨r1,r2⟩:=wq he;have hu:=run_underlying (h.und ty i ht) w;rw [hd]at hu;have hs:=eE h hte w
 have hsz:len*te.size<=arr'.size:=by
  rcases Nat.eq_zero_or_pos len with h0|h0
  .subst h0;simp
  .obtain⟨er,hr⟩:∃er,es[len - 1]? =some er:=⟨es[len - 1],by simp⟩
   have:=(dt (r2 _ _ hr)).2.1
   have hl:=f2.1;simp at hl;rw [<-hl]
   have e3:(len - 1)*te.size+te.size=len*te.size:=by
    conv=>rhs;rw [show len=(len - 1)+1 by omega,Nat.add_mul,Nat.one_mul]
   omega
 refine mt R hb hn (arr:=arr') (ty:=e) (n:=len) (by rw [r1];exact hsz) (λn e' he'=>(dt (r2 n e' he')).1) (λn m e' c he' hm=> ?_) ?_ (.inr ⟨len,rfl,rfl,Nat.le_refl _,hsz⟩)
 .obtain⟨c1,c2,c3⟩:=dt (r2 n e' he');have hlt:=(List.getElem?_eq_some_iff.1 hm).1;rw [c3 m (by omega)]at hm;obtain⟨y,g1,g2⟩:=f2.2 _ c hm;exact⟨y,by simpa using g1,g2⟩
 .have h24:¬(16777216<len*te.size):=by
   have:(2:Nat)^ 24=16777216:=by decide
   omega
  by_cases hz:len*te.size=0
  .have e0:(Array.range (len*te.size)).map (z.cells[·% z.cells.size]!)=#[]:=by simp [hz]
   rw [e0]at f1;simp [Instr.buildSlice,hu,hs,h24,hz,newRow,Array.range_zero',f1]
  .simp [Instr.buildSlice,hu,hs,h24,hz,newRow,z2,f1]
theorem sX(w:World)(a:Addr)(n:Nat){b:Nat}(hb:a.block≠b):(w.freeze a n).heap[b]? =w.heap[b]? :=by
 unfold World.freeze;split
 .rfl
 .simp [Array.getElem?_modify,hb]
theorem wt(w:World)(a:Addr)(n:Nat):(w.freeze a n).heap.size=w.heap.size:=by
 unfold World.freeze;split<;>simp
theorem wu(w:World)(b n:Nat){c:Array Value}{t:TypeId}{lo hi:Nat}(h:w.heap[b]? =some (.cells c t (lo,hi))):(w.freeze ⟨b,n,none⟩ 1).heap[b]? =some (.cells c t (if lo==hi then(n,n+1)else(min lo n,max hi (n+1)))):=by
 unfold World.freeze;rw [if_neg (by decide)];simp [Array.getElem?_modify,h]
theorem wv(w:World)(b n:Nat)(a:Addr):(w.freeze ⟨b,n,none⟩ 1).cell? a=w.cell? a:=by
 unfold World.cell?;by_cases hb:b=a.block
 .subst hb;unfold World.freeze;rw [if_neg (by decide)];simp only [Array.getElem?_modify,if_true]
  cases hg:w.heap[a.block]? with
  |none=>rfl
  |some x=>cases x<;>rfl
 .rw [sX w ⟨b,n,none⟩ 1 (b:=a.block) hb]
theorem xU(h:dr P ti)(R:HRel w base F0 ρ H){t e:TypeId}{d te:TI}(ht:ti t=some d)(hd:d.desc= .slice e)(hte:ti e=some te)(h2:sT te.desc=true){k off n:Nat}{es:List (List C)}(hk:H[k]? =some (.own 1 es)){x:Value}(hx:RepD w base (Fb F0 ρ H) ρ H (.one (.own k off n)) x):
  Good P base F0 w ρ H (Go.convert t t x) {v:= .one (.own k off n),upd:= [(k,.own 1 es)]}:=by
 have u2:=h.und t d ht;have u3:=h.und e te hte;rw [hd]at u2
 have e3:te.desc= .int .u8:=by
  generalize te.desc=x at h2;unfold sT at h2;split at h2
  .rfl
  .simp at h2
 rw [e3]at u3
 cases hx with
 |one c y hc=>
  cases hc with
  |own k off n c a hk' hcap haa=>
   obtain⟨g1,g2⟩:=haa _ _ hk;subst g1;have hlt:=R.lt k _ _ hk;have hcl:=R.fz k _ _ hk
   obtain⟨arr,ty,lo,hi,hg⟩|hg:(∃arr ty lo hi,w.heap[ρ k]? =some (.cells arr ty (lo,hi)))∨w.shape? (ρ k)=none:=by
    unfold World.shape?
    cases hg:w.heap[ρ k]? with
    |none=>exact .inr rfl
    |some o=>
     cases o<;>first|exact .inr rfl|exact .inl ⟨_,_,_,_,rfl⟩
   .have hsh:w.shape? (ρ k)=some (ty,arr.size):=by unfold World.shape?;rw [hg]
    have hrun:(Go.convert t t (.slice (some ⟨ρ k,off*1,none⟩) n c)).run P w= .ok (.slice (some ⟨ρ k,off*1,none⟩) n c) (w.freeze ⟨ρ k,arr.size,none⟩ 1):=by
     simp [convert,run_underlying u2,run_underlying u3,markStringish,hsh]
    have hbs:aU w (ρ k)=arr.size:=by unfold aU;rw [hg]
    have hnew:=wu w (ρ k) arr.size hg;have hbs2:aU (w.freeze ⟨ρ k,arr.size,none⟩ 1) (ρ k)=aU w (ρ k):=by rw [hbs];unfold aU;rw [hnew]
    obtain⟨q1,q2⟩:=jL R (es':=es) hk (w':=w.freeze ⟨ρ k,arr.size,none⟩ 1) (wt _ _ _) (by unfold World.freeze;split<;>rfl) (by unfold World.freeze;split<;>rfl) (by unfold World.freeze;split<;>rfl) (λb hb=>sX _ _ _ λe=>hb e.symm) hbs2 (λc2 t2 l2 h2 hq=>by
     rw [hnew]at hq
     cases hq':(lo==hi)with
     |true=>
      rw [hq']at hq;simp only [if_true,zsI,Obj.cells.injEq,Prod.mk.injEq]at hq;obtain⟨rfl,rfl,rfl,rfl⟩:=hq;exact .inr (Nat.le_refl _)
     |false=>
      rw [hq']at hq;simp only [Bool.false_eq_true,if_false,zsI,Obj.cells.injEq,Prod.mk.injEq]at hq;obtain⟨rfl,rfl,rfl,rfl⟩:=hq;rcases hcl _ _ _ _ hg with h|h
      .rw [h]at hq';simp at hq'
      .exact .inr (by omega)) rfl (λh0=>by omega) (R.wid k _ _ hk) (λi j e c hi hj=>by
     obtain⟨y,y1,y2⟩:=R.cell k _ _ hk i j e c hi hj
     exact⟨y,by rw [wv];exact y1,y2⟩)
    refine⟨_,_,_,hrun,q1,q2,?_⟩;refine .one _ _ (.own k off n c _ ⟨_,aR _ _ _,by simp⟩ hcap λsz' es' he=> ?_);simp only [apply,List.foldl_cons,List.foldl_nil]at he;rw [aR]at he;cases he;exact⟨rfl,by rw [hbs2];exact g2⟩
   .have hrun:(Go.convert t t (.slice (some ⟨ρ k,off*1,none⟩) n c)).run P w= .ok (.slice (some ⟨ρ k,off*1,none⟩) n c) w:=by
     simp [convert,run_underlying u2,run_underlying u3,markStringish,hg]
    obtain⟨q1,q2⟩:=jL R (es':=es) hk (w':=w) rfl rfl rfl rfl (λb hb=>rfl) rfl hcl rfl (λh0=>by omega) (R.wid k _ _ hk) (R.cell k _ _ hk);refine⟨_,_,_,hrun,q1,q2,?_⟩;refine .one _ _ (.own k off n c _ ⟨_,aR _ _ _,by simp⟩ hcap λsz' es' he=> ?_);simp only [apply,List.foldl_cons,List.foldl_nil]at he;rw [aR]at he;cases he;exact⟨rfl,g2⟩
theorem uG(h:dr P ti)(R:HRel w base F0 ρ H)(hb:base<=w.heap.size){nid:Nat}(hn:∀B,H[nid]? =some B->B= .no){ty e:TypeId}{i te:TI}(ht:ti ty=some i)(hd:i.desc= .slice e)(hte:ti e=some te){n m:Nat}(hnm:n<=m)(hbd:m<=eh){kl kc:IntKind}:
  Good P base F0 w ρ H (Instr.makeSlice ty (.int kl (n:Int)) (.int kc (m:Int))) {v:= .one (.own nid 0 n),upd:= [(nid,.own te.size (List.replicate n (fK te)))]}:=by
 obtain⟨o,z,g1,g2,g3,g4,g5⟩:=h.info e te hte;have hu:=h.und ty i ht;rw [hd]at hu;have hl:=(h.zero e te hte).2;unfold eh at hbd
 have hby:(o.bytes:Int)*(m:Int)<=281474976710656:=by
  have:o.bytes*m<=65536*2 ^ 30:=Nat.mul_le_mul (by omega) hbd
  have e1:(65536:Nat)*2 ^ 30=70368744177664:=by decide
  have:((o.bytes*m:Nat):Int)<=281474976710656:=by omega
  rwa [Int.natCast_mul]at this
 have hrun:=run_make (P:=P) w ty e o z hu g1 g2 kl kc n m (by omega) (by omega) hby (by omega);simp only [Int.toNat_natCast]at hrun;have hzr:=qi (w:=w) (base:=base) (ρ:=ρ) (H:=H) h hte (F:=Fb F0 ρ H);have hs:z.cells.size=te.size:=by rw [<-hl.1,<-g3];simp
 have hmul:n*te.size<=m*te.size:=Nat.mul_le_mul_right _ hnm;refine mt R hb hn (n:=n) ?_ (λq e' he'=> ?_) (λq j e' c he' hj=> ?_) hrun (.inr ⟨m,rfl,rfl,hnm,?_⟩)
 .simp [size_madeCells,g4];exact hmul
 .rw [List.getElem?_replicate]at he';split at he'
  .cases he';simp [fK,hl.1]
  .simp at he'
 .rw [List.getElem?_replicate]at he';split at he'
  .rename_i hq;cases he';obtain⟨y,k1,k2⟩:=hzr.2 j c hj;refine⟨y,?_,k2⟩;have hjl:=(List.getElem?_eq_some_iff.1 k1).1;rw [hl.1]at hjl
   have hlt:q*te.size+j<m*o.size:=by
    rw [g4]
    have:(q+1)*te.size<=n*te.size:=Nat.mul_le_mul_right _ hq
    rw [Nat.add_mul]at this;omega
   have hmod:(q*te.size+j)% z.cells.size=j:=by rw [hs,Nat.mul_comm,Nat.mul_add_mod,Nat.mod_eq_of_lt hjl]
   have e:z.cells[j]! =y:=by
    have hlt2:j<z.cells.size:=by omega
    rw [getElem!_pos z.cells _ hlt2];rw [<-g3,Array.getElem?_toList,Array.getElem?_eq_getElem hlt2]at k1;exact Option.some.inj k1
   simp [madeCells,hlt,hmod,e]
  .simp at he'
 .simp [size_madeCells,g4]
end
end Ev
end
noncomputable section
namespace Ev
open Go Go.RowKit
section
variable {P : Program} {ti : TypeId → Option TI} {w : World} {base : Nat} {F0 : Nat → Prop} {ρ : Nat → Nat} {H : ak}
def RepEs(w:World)(base:Nat)(F:Nat->Prop)(ρ:Nat->Nat)(H:ak)(sz:Nat)(es:List (List C))(ys:List Value):Prop:=
 ys.length=es.length*sz/\(∀(i:Nat) e,es[i]? =some e->e.length=sz)/\∀(i j:Nat) e c,es[i]? =some e->e[j]? =some c->∃y,ys[i*sz+j]? =some y/\RepC w base F ρ H c y
theorem RepEs.mono{w':World}{F F':Nat->Prop}{ρ':Nat->Nat}{H':ak}{sz:Nat}{es:List (List C)}{ys:List Value}(hh:∀c y,RepC w base F ρ H c y->RepC w' base F' ρ' H' c y)(h:RepEs w base F ρ H sz es ys):RepEs w' base F' ρ' H' sz es ys:=
 ⟨h.1,h.2.1,λi j e c hi hj=>let⟨y,g1,g2⟩:=h.2.2 i j e c hi hj;⟨y,g1,hh c y g2⟩⟩
theorem RepEs.one1{F:Nat->Prop}{sz:Nat}{es:List (List C)}{ys:List Value}(h:RepEs w base F ρ H sz es ys):∀u∈ys,u.oneCell'=true:=by
 intro u hu;obtain⟨n,hn,rfl⟩:=List.getElem_of_mem hu
 have hsz:0<sz:=by
  rcases Nat.eq_zero_or_pos sz with h0|h0
  .rw [h.1,h0]at hn;simp at hn
  .exact h0
 have hi:n / sz<es.length:=by rw [Nat.div_lt_iff_lt_mul hsz,<-h.1];exact hn
 have hj:n % sz<es[n / sz].length:=by rw [h.2.1 _ _ (List.getElem?_eq_getElem hi)];exact Nat.mod_lt _ hsz
 obtain⟨y,g1,g2⟩:=h.2.2 (n / sz) (n % sz) _ _ (List.getElem?_eq_getElem hi) (List.getElem?_eq_getElem hj);rw [show n / sz*sz+n % sz=n by rw [Nat.mul_comm];exact Nat.div_add_mod n sz,List.getElem?_eq_getElem hn]at g1;rw [Option.some.inj g1];exact g2.one
theorem ld{F:Nat->Prop}{sz:Nat}{es:List (List C)}(hwid:∀(i:Nat) e,es[i]? =some e->e.length=sz){Q:Nat->Value->Prop}
  (h:∀(i j:Nat) e c,es[i]? =some e->e[j]? =some c->∃y,Q (i*sz+j) y/\RepC w base F ρ H c y):∃ys,RepEs w base F ρ H sz es ys/\∀(n:Nat) y,ys[n]? =some y->Q n y:=by
 have key:∀n:Nat,∃y:Value,n<es.length*sz->Q n y/\∀e c,es[n / sz]? =some e->e[n % sz]? =some c->RepC w base F ρ H c y:=by
  intro n;by_cases hn:n<es.length*sz
  .have hsz:0<sz:=by
    rcases Nat.eq_zero_or_pos sz with h0|h0
    .rw [h0]at hn;simp at hn
    .exact h0
   have hi:n / sz<es.length:=by rw [Nat.div_lt_iff_lt_mul hsz];exact hn
   have hj:n % sz<es[n / sz].length:=by rw [hwid _ _ (List.getElem?_eq_getElem hi)];exact Nat.mod_lt _ hsz
   obtain⟨y,g1,g2⟩:=h (n / sz) (n % sz) _ _ (List.getElem?_eq_getElem hi) (List.getElem?_eq_getElem hj);rw [show n / sz*sz+n % sz=n by rw [Nat.mul_comm];exact Nat.div_add_mod n sz]at g1;refine⟨y,λ_=>⟨g1,λe c he hc=> ?_⟩⟩;rw [List.getElem?_eq_getElem hi]at he;cases he;rw [List.getElem?_eq_getElem hj]at hc;cases hc;exact g2
  .exact⟨.nilFunc,λhh=>absurd hh hn⟩
 refine⟨(List.range (es.length*sz)).map λn=>(key n).choose,⟨by simp,hwid,λi j e c hi hj=> ?_⟩,λn y hn=> ?_⟩
 .have hil:=(List.getElem?_eq_some_iff.1 hi).1;have hjl:=(List.getElem?_eq_some_iff.1 hj).1;have he:=hwid i e hi
  have hlt:i*sz+j<es.length*sz:=by
   have:(i+1)*sz<=es.length*sz:=Nat.mul_le_mul_right _ hil
   rw [Nat.add_mul]at this;omega
  have hsz:0<sz:=by omega
  have hd:(i*sz+j)/ sz=i:=by rw [Nat.mul_comm,Nat.mul_add_div hsz];simp [Nat.div_eq_of_lt (show j<sz by omega)]
  have hm:(i*sz+j)% sz=j:=by rw [Nat.mul_comm,Nat.mul_add_mod,Nat.mod_eq_of_lt (by omega)]
  exact⟨_,by simp [hlt],((key (i*sz+j)).choose_spec hlt).2 e c (by rw [hd];exact hi) (by rw [hm];exact hj)⟩
 .obtain⟨hl,h1⟩:=List.getElem?_eq_some_iff.1 hn;simp at hl h1;rw [<-h1];exact((key n).choose_spec hl).1
theorem gB{α:Type}{l r:List α}{i n j:Nat}{x:α}(h:cut l i n=some r)(hj:r[j]? =some x):j<n/\l[i+j]? =some x:=by
 obtain⟨c1,c2,c3⟩:=dt h;have hlt:=(List.getElem?_eq_some_iff.1 hj).1;rw [c1]at hlt;exact⟨hlt,by rw [<-c3 j hlt];exact hj⟩
theorem mu(R:HRel w base F0 ρ H){d:D}{y:Value}(hy:RepD w base (Fb F0 ρ H) ρ H d y){xs:List (List C)}(hx:gz H d=some xs){tx e':TypeId}(hk:P.underlying tx=some (.slice e')){sz:Nat}(hsz:∀(i:Nat) e,xs[i]? =some e->e.length=sz):
  ∃ys,RepEs w base (Fb F0 ρ H) ρ H sz xs ys/\Src P sz tx y xs.length ys w:=by
 unfold gz at hx;split at hx
 .rename_i fr nn bz l;simp only [zsI]at hx;subst hx
  cases hy with
  |one c y hy=>
   cases hy with
   |p fr t y h=>
    cases h with
    |s nn bz l a c yy hn hc h0 hl hm hr=>
     cases a with
     |none=>
      have hc0:=h0 rfl;have hnil:l= []:=List.length_eq_zero_iff.1 (by omega);subst hnil;subst hc0;exact⟨[],⟨by simp,λi e h=>by simp at h,λi j e c h=>by simp at h⟩,Src.ofNil w hk 0⟩
     |some a=>
      obtain⟨ys,h1,h2⟩:=ld (w:=w) (base:=base) (F:=Fb F0 ρ H) (ρ:=ρ) (H:=H) (sz:=sz) (Q:=λn y=>w.cell? (a.add n)=some y) hsz (λi j e c hi hj=>by
       simp only [List.getElem?_map,Option.map_eq_some_iff]at hi;obtain⟨e0,g1,rfl⟩:=hi;have hw:=hsz i (e0.map (pC fr)) (by simp [g1]);simp only [List.getElem?_map,Option.map_eq_some_iff]at hj;obtain⟨t,g2,rfl⟩:=hj;obtain⟨b,hb,k1,k2,k3⟩:=hm i e0 j t g1 g2;cases hb
       have:bz=sz:=by rw [<-hl i e0 g1];simpa using hw
       subst this
       exact⟨yy i j,k3,uD (.p fr t _ (hr i e0 j t g1 g2))⟩)
      refine⟨ys,h1,?_⟩;have hlen:(l.map (·.map (pC fr))).length=l.length:=by simp
      rw [hlen];exact Src.ofSlice w hk a l.length c ys (by rw [h1.1,hlen]) (λj u hu=>h2 j u hu) h1.one1
 .rename_i k off n;simp only [zbB,zbE]at hx;obtain⟨⟨bz,es⟩,h1,h2⟩:=hx;have hb:=bk h1
  cases hy with
  |one c y hy=>
   cases hy with
   |own k off n c a hk' hn ha=>
    obtain⟨g1,g2⟩:=ha _ _ hb;subst g1
    obtain⟨ys,y1,y2⟩:=ld (w:=w) (base:=base) (F:=Fb F0 ρ H) (ρ:=ρ) (H:=H) (sz:=sz) (Q:=λn y=>w.cell? ⟨ρ k,off*bz+n,none⟩=some y) hsz (λi j e c hi hj=>by
     obtain⟨i1,i2⟩:=gB h2 hi;have hw:=R.wid k bz es hb _ e i2
     have:bz=sz:=by rw [<-hw];exact hsz i e hi
     subst this;obtain⟨y,k1,k2⟩:=R.cell k bz es hb _ j e c i2 hj
     exact⟨y,by rw [<-k1,Nat.add_mul,Nat.add_assoc],k2⟩)
    refine⟨ys,y1,?_⟩;have hlen:=(dt h2).1;rw [hlen];exact Src.ofSlice w hk _ n c ys (by rw [y1.1,hlen]) (λj u hu=>by rw [Addr.add_mid];exact y2 j u hu) y1.one1
 .simp at hx
theorem Jy{bytes need cap:Nat}(h1:cap<need)(h2:need<=eh)(h3:bytes<=65536):Builtin.nextslicecap need cap*bytes<=281474976710656:=by
 refine growslice_fits h1 ?_;unfold eh at h2
 have:need*bytes<=2 ^ 30*65536:=Nat.mul_le_mul h2 h3
 have e1:(2:Nat)^ 30*65536=70368744177664:=by decide
 omega
theorem AH(R:HRel w base F0 ρ H){k sz:Nat}{es:List (List C)}(hk:H[k]? =some (.own sz es))(hz:sz≠0):HRel w base F0 ρ (av H k .dead)/\Ext w ρ H w ρ (av H k .dead):=by
 have hback:∀(j sz:Nat) (es:List (List C)),(av H k .dead)[j]? =some (.own sz es)->H[j]? =some (.own sz es):=λj sz es h=>by
  by_cases hj:j=k
  .subst hj;rw [aR]at h;cases h
  .exact ba hj (by simp) h
 have E:Ext w ρ H w ρ (av H k .dead):=by
  refine⟨rfl,rfl,rfl,Nat.le_refl _,λ_ _ _=>rfl,λb hb ⟨j,sz',es',h1,h2⟩=>⟨j,sz',es',hback _ _ _ h1,h2⟩,λ_ _=>rfl,λj B hB hno=> ?_,λj es1 _ hB=> ?_⟩
  .by_cases hj:j=k
   .subst hj;exact⟨_,aR _ _ _,by simp,λ_ _ he=>by cases he⟩
   .exact⟨B,bJ hj hB,hno,λsz' es' he=>⟨es',he,rfl⟩⟩
  .by_cases hj:j=k
   .subst hj;rw [hk]at hB;cases hB;exact absurd rfl hz
   .exact⟨bJ hj hB,rfl⟩
 exact⟨eF R E (λj sz' es' h=> .inl ⟨hback _ _ _ h,rfl,rfl⟩) λj j' _ _ _ _ h1 h2 h3=>R.inj j j' _ _ _ _ (hback _ _ _ h1) (hback _ _ _ h2) h3,E⟩
theorem qj(R:HRel w base F0 ρ H)(hb:base<=w.heap.size){nid:Nat}(hn:∀B,H[nid]? =some B->B= .no){s:Sem Value}{arr:Array Value}{ty:TypeId}{sz:Nat}{es:List (List C)}{ys:List Value}{cap:Nat}
  (hes:RepEs w base (Fb F0 ρ H) ρ H sz es ys) (harr:∀(n:Nat) y,ys[n]? =some y->arr[n]? =some y) (hsize:cap*sz<=arr.size) (hcap:es.length<=cap)
  (hrun:s.run P w= .ok (.slice (some ⟨w.heap.size,0,none⟩) es.length cap) (w.drew.alloc (.cells arr ty))):
  Good P base F0 w ρ H s {v:= .one (.own nid 0 es.length),upd:= [(nid,.own sz es)]}:=by
 have hfit:es.length*sz<=arr.size:=Nat.le_trans (Nat.mul_le_mul_right _ hcap) hsize;obtain⟨h1,h2⟩:=qg R hb hn (w1:=w.drew) rfl rfl rfl rfl (arr:=arr) (ty:=ty) hfit hes.2.1 (λi j e c hi hj=>let⟨y,g1,g2⟩:=hes.2.2 i j e c hi hj;⟨y,harr _ y g1,g2⟩);refine⟨_,_,_,hrun,h1,h2,?_⟩;have hk:∃B,(av H nid (.own sz es))[nid]? =some B/\B≠ .no:=⟨_,aR _ _ _,by simp⟩
 have hbs:aU (w.drew.alloc (.cells arr ty)) w.heap.size=arr.size:=by
  unfold aU
  have:(w.drew.alloc (.cells arr ty)).heap[w.heap.size]? =some (.cells arr ty):=by show(w.heap.push _)[w.heap.size]? =_;simp
  rw [this]
 simp only [apply,List.foldl_cons,List.foldl_nil];refine .one _ _ (.own nid 0 _ cap _ hk hcap λsz' es' hb'=> ?_);rw [aR]at hb';cases hb';simp only [if_true];rw [hbs];simpa using hsize
theorem AI(h:dr P ti)(R:HRel w base F0 ρ H)(hb:base<=w.heap.size){nid:Nat}(hn:∀B,H[nid]? =some B->B= .no){t tx e:TypeId}{i ix te:TI}(ht:ti t=some i)(hd:i.desc= .slice e)(hte:ti e=some te)
  (hx:ti tx=some ix) {ex:TypeId} (hdx:ix.desc= .slice ex) {da dx:D} {a x:Value} (ha:RepD w base (Fb F0 ρ H) ρ H da a) (hxx:RepD w base (Fb F0 ρ H) ρ H dx x) {ef:Eff} (hap:append H nid te.size da dx=some ef) (ty:TypeId):
  Good P base F0 w ρ H (Builtin.append_ #[t,tx] ty #[a,x]) ef:=by
 obtain⟨o,z,o1,o2,o3,o4,o5⟩:=h.info e te hte;have hu:=h.und t i ht;rw [hd]at hu;have hux:=h.und tx ix hx;rw [hdx]at hux;have hby:=(h.zero e te hte).2.2;unfold Ev.append at hap;simp only [zbB,zbE]at hap;obtain⟨xs,hxs,hap⟩:=hap;split at hap
 .rename_i fr nn bz;split at hap
  .simp at hap
  .rename_i hnn;split at hap
   .rename_i h0;simp only [zsI]at hap;subst hap;obtain⟨ys,y1,y2⟩:=mu (P:=P) R hxx hxs hux (sz:=te.size) (λk e hk=>by rw [List.length_eq_zero_iff.1 h0]at hk;simp at hk);obtain⟨a',c',e1,e2,e3,e4⟩:=nL (by cases ha with|one c y hc=>exact hc)
    have hnone:a'=none:=by cases a' with|none=>rfl|some b=>simp at e2;simp [e2]at hnn
    subst hnone;have hc0:=e4 rfl;subst hc0;have hyn:ys= []:=List.length_eq_zero_iff.1 (by rw [y1.1,h0];simp);subst hyn;rw [h0]at y2;refine aC R (y:=a) ?_ ha;subst e1;have hlen:∀w',(Builtin.lenOf x).run P w'= .ok 0 w':=y2.len;have hcl:=y2.cells;simp [Builtin.append_,run_underlying hu,run_underlying hux,sizeOf,typeInfo,o1,o4,hlen,hcl]
   .rename_i h0;split at hap
    .rename_i hle;split at hap
     .rename_i hwid;simp only [zsI]at hap;subst hap;obtain⟨ys,y1,y2⟩:=mu (P:=P) R hxx hxs hux (sz:=te.size) (λk e hk=>by have:=List.all_eq_true.1 hwid e (List.mem_of_getElem? hk);simpa using this);obtain⟨a',c',e1,e2,e3,e4⟩:=nL (by cases ha with|one c y hc=>exact hc)
      have hnone:a'=none:=by cases a' with|none=>rfl|some b=>simp at e2;simp [e2]at hnn
      subst hnone;have hc0:=e4 rfl;subst hc0;subst e1;have hpos:0<xs.length:=by omega
      rw [<-o4]at y2;have hrun:=run_append_grow_src (P:=P) w t tx ty e o z hu o1 o2 none 0 0 [] (by simp [run_firstCells_none]) x xs.length ys y2 (by omega) (by unfold eh at hle;omega) (by rw [o5];exact Jy (by omega) (by omega) hby);simp only [Nat.zero_add,List.nil_append]at hrun;have hcapge:xs.length<=grownCap w xs.length 0 e:=by unfold grownCap Question.cut;simp
      refine qj R hb hn y1 (λn y hy=> ?_) ?_ hcapge hrun
      .have hlt:=(List.getElem?_eq_some_iff.1 hy).1;rw [Array.getElem?_append_left (by simpa using hlt)];simpa using hy
      .have hzs:z.cells.size=te.size:=by rw [<-(h.zero e te hte).2.1,<-o3];simp
       simp [Builtin.zeroCells,y1.1,hzs];rw [<-Nat.add_mul,Nat.add_sub_cancel' hcapge];exact Nat.le_refl _
     .simp at hap
    .simp at hap
 .rename_i k off n;simp only [zbE]at hap;obtain⟨⟨bz,es⟩,hg,hap⟩:=hap;have hbk:=bk hg;split at hap
  .rename_i hc;obtain⟨rfl,rfl,hle,rfl,hwid,hz0⟩:=hc;simp only at hle;simp only [zsI]at hap;subst hap;obtain⟨ys,y1,y2⟩:=mu (P:=P) R hxx hxs hux (sz:=te.size) (λk e hk=>by have:=List.all_eq_true.1 hwid e (List.mem_of_getElem? hk);simpa using this)
   cases ha with
   |one c y ha=>
    cases ha with
    |own k' off' n' c a hk' hcap haa=>
     obtain⟨g1,g2⟩:=haa _ _ hbk;simp only [Nat.zero_mul,Nat.zero_add]at g1 g2;subst g1;obtain⟨os,q1,q2⟩:=ld (w:=w) (base:=base) (F:=Fb F0 ρ H) (ρ:=ρ) (H:=H) (sz:=te.size) (Q:=λn y=>w.cell? ⟨ρ k,n,none⟩=some y) (R.wid k _ es hbk) (λi j e c hi hj=>R.cell k _ es hbk i j e c hi hj)
     have hall:RepEs w base (Fb F0 ρ H) ρ H te.size (es++xs) (os++ys):=by
      refine⟨by simp [q1.1,y1.1,Nat.add_mul],λi e hi=> ?_,λi j e c hi hj=> ?_⟩
      .rw [List.getElem?_append]at hi;split at hi
       .exact q1.2.1 i e hi
       .exact y1.2.1 _ e hi
      .rw [List.getElem?_append]at hi;split at hi
       .rename_i hlt;obtain⟨y,k1,k2⟩:=q1.2.2 i j e c hi hj
        have:=(List.getElem?_eq_some_iff.1 k1).1
        exact⟨y,by rw [List.getElem?_append_left this];exact k1,k2⟩
       .rename_i hge;obtain⟨y,k1,k2⟩:=y1.2.2 _ j e c hi hj;have hge2:es.length*te.size<=i*te.size:=Nat.mul_le_mul_right _ (by omega);refine⟨y,?_,k2⟩;rw [List.getElem?_append_right (by rw [q1.1];omega),q1.1,<-k1,Nat.sub_mul];congr 1;omega
     rw [<-o4]at y2;by_cases hroom:es.length+xs.length<=c
     .have hst:(es.length+xs.length)*te.size<=aU w (ρ k):=Nat.le_trans (Nat.mul_le_mul_right _ hroom) g2;rw [Nat.add_mul]at hst;have hcell:∀j,j<ys.length->(w.cell? ⟨ρ k,es.length*te.size+j,none⟩).isSome=true:=λj hj=>cell_lt.1 (by rw [y1.1]at hj;omega);have hrun:=run_append_room_src (P:=P) w t tx ty e o hu o1 (ρ k) 0 es.length c x xs.length ys y2 hroom (by rw [o4];simpa using hcell) (λj hj=>(R.fz k _ es hbk).fz (cell_lt.2 (by rw [o4];simpa using hcell j hj)));rw [o4]at hrun;simp only [Nat.zero_add]at hrun;obtain⟨f1,f2,f3,f4,f5,f6⟩:=eG (ρ k) ys (es.length*te.size) w
      obtain⟨r1,r2⟩:=AE R (es':=es++xs) hbk hn f1 f2 f3 f4 f5 f6 ((R.fz k _ es hbk).setCells _ _ _) (by simp [Nat.add_mul];omega) hz0 hall.2.1 (λi j e c hi hj=>by
       obtain⟨y,k1,k2⟩:=hall.2.2 i j e c hi hj;refine⟨y,?_,k2⟩;by_cases hlt:i*te.size+j<os.length
       .rw [List.getElem?_append_left hlt]at k1;rw [World.cell?_setCells_out _ _ _ _ _ (λ_ _=>by simp only;left;rw [q1.1]at hlt;exact hlt)];exact q2 _ y k1
       .rw [List.getElem?_append_right (by omega),q1.1]at k1;have hl2:=(List.getElem?_eq_some_iff.1 k1).1
        have:=World.cell?_setCells_in (ρ k) ys (es.length*te.size) w hcell _ hl2
        rw [q1.1]at hlt;rw [show es.length*te.size+(i*te.size+j - es.length*te.size)=i*te.size+j by omega]at this;rw [this,<-k1]
        simp)
      refine⟨_,_,_,hrun,r1,r2,?_⟩;simp only [apply,List.foldl_cons,List.foldl_nil];refine .one _ _ (.own nid 0 _ c _ ⟨_,aR _ _ _,by simp⟩ hroom λsz' es' hb'=> ?_);rw [aR]at hb';cases hb';simp only [if_true,f6,Nat.zero_mul,Nat.zero_add];exact⟨trivial,g2⟩
     .have hold:(Builtin.firstCells o.size es.length (.slice (some ⟨ρ k,0,none⟩) es.length c)).run P w.drew= .ok os.toArray w.drew:=
       run_firstCells_some w.drew o.size es.length _ es.length c os (by rw [q1.1,o4]) (λj v hv=>by rw [Addr.add_mid];simpa using q2 j v hv)
      have hrun:=run_append_grow_src (P:=P) w t tx ty e o z hu o1 o2 (some ⟨ρ k,0,none⟩) es.length c os hold x xs.length ys y2 (by omega) (by unfold eh at hle;omega) (by rw [o5];exact Jy (by omega) hle hby);have hcapge:es.length+xs.length<=grownCap w (es.length+xs.length) c e:=by unfold grownCap Question.cut;simp
      have hlen2:(es++xs).length=es.length+xs.length:=by simp
      have hkn:k≠nid:=λe=>by have:=hn _ (e▸hbk);simp at this
      obtain⟨R2,E2⟩:=AH R hbk hz0;have hmono:∀c y,RepC w base (Fb F0 ρ H) ρ H c y->RepC w base (Fb F0 ρ (av H k .dead)) ρ (av H k .dead) c y:=λc y hc=>hc.ext R.lt E2
      have hn2:∀B,(av H k .dead)[nid]? =some B->B= .no:=λB hB=>by
       by_cases hno:B= .no
       .exact hno
       .exact hn B (ba (Ne.symm hkn) hno hB)
      have hG:=qj (P:=P) R2 hb hn2 (s:=Builtin.append_ #[t,tx] ty #[.slice (some ⟨ρ k,0,none⟩) es.length c,x]) (ty:=e)
       (arr:=(os++ys).toArray++Builtin.zeroCells z.cells (grownCap w (es.length+xs.length) c e - (es.length+xs.length))) (cap:=grownCap w (es.length+xs.length) c e) (hall.mono hmono) (λn y hy=>by
        have hlt:=(List.getElem?_eq_some_iff.1 hy).1;rw [Array.getElem?_append_left (by simpa using hlt)]
        simpa using hy) (by
        have hzs:z.cells.size=te.size:=by rw [<-(h.zero e te hte).2.1,<-o3];simp
        simp [Builtin.zeroCells,q1.1,y1.1,hzs];rw [<-Nat.add_mul,<-Nat.add_mul,Nat.add_sub_cancel' hcapge]
        exact Nat.le_refl _) (by rw [hlen2];exact hcapge) (by rw [hlen2];exact hrun)
      obtain⟨y',w',ρ',m1,m2,m3,m4⟩:=hG;rw [hlen2]at m4;exact⟨y',w',ρ',m1,m2,E2.trans m3,m4⟩
  .simp at hap
 .simp at hap
theorem Ff(h:dr P ti)(R:HRel w base F0 ρ H){t tx e:TypeId}{i ix te:TI}(ht:ti t=some i)(hd:i.desc= .slice e)(hte:ti e=some te)
  (hx:ti tx=some ix) {ex:TypeId} (hdx:ix.desc= .slice ex) {da dx:D} {a x:Value} (ha:RepD w base (Fb F0 ρ H) ρ H da a) (hxx:RepD w base (Fb F0 ρ H) ρ H dx x) {ef:Eff} (hap:qa H te.size da dx=some ef) (ty:TypeId):
  Good P base F0 w ρ H (Builtin.copy_ #[t,tx] ty #[a,x]) ef:=by
 obtain⟨o,z,o1,o2,o3,o4,o5⟩:=h.info e te hte;have hu:=h.und t i ht;rw [hd]at hu;have hux:=h.und tx ix hx;rw [hdx]at hux;unfold qa at hap;simp only [zbB,zbE]at hap;obtain⟨xs,hxs,hap⟩:=hap;split at hap
 .rename_i k off n;simp only [zbE]at hap;obtain⟨⟨bz,es⟩,hg,es',hp,hap⟩:=hap;have hbk:=bk hg;split at hap
  .rename_i hc;obtain⟨rfl,hle,hwid,hz0⟩:=hc;simp only [zsI]at hap;subst hap;obtain⟨ys,y1,y2⟩:=mu (P:=P) R hxx hxs hux (sz:=te.size) (λk e hk=>by have:=List.all_eq_true.1 hwid e (List.mem_of_getElem? hk);simpa using this);obtain⟨p1,p2,p3⟩:=kZ hp
   cases ha with
   |one c y ha=>
    cases ha with
    |own k' off' n' c a hk' hcap haa=>
     obtain⟨g1,g2⟩:=haa _ _ hbk;subst g1;rw [<-o4]at y2;have hfit:=R.fit k _ _ hbk;have hyl:ys.length=xs.length*te.size:=y1.1
     have hcell:∀j,j<ys.length->(w.cell? ⟨ρ k,off*te.size+j,none⟩).isSome=true:=λj hj=>cell_lt.1 (by
      have e1:(off+xs.length)*te.size<=es.length*te.size:=Nat.mul_le_mul_right _ p1;rw [Nat.add_mul]at e1
      omega)
     have hst:=run_storeCells_cells (P:=P) (ρ k) (off*te.size) ys 0 w (by simpa using hcell) (λj hj=>(R.fz k _ es hbk).fz (cell_lt.2 (by simpa using hcell j hj))) y2.one;simp only [Nat.add_zero]at hst;have hmin:Nat.min xs.length n=xs.length:=Nat.min_eq_left hle;have hcl:=y2.cells;have hlen:∀w',(Builtin.lenOf x).run P w'= .ok xs.length w':=y2.len
     have hrun:(Builtin.copy_ #[t,tx] ty #[.slice (some ⟨ρ k,off*te.size,none⟩) n c,x]).run P w= .ok (goInt xs.length) (w.setCells (ρ k) (off*te.size) ys):=by
      simp [Builtin.copy_,run_underlying hu,sizeOf,typeInfo,o1,hlen,hmin,hcl,hst]
     obtain⟨f1,f2,f3,f4,f5,f6⟩:=eG (ρ k) ys (off*te.size) w
     have hT:=jL R (es':=es') hbk f1 f2 f3 f4 f5 f6 ((R.fz k _ es hbk).setCells _ _ _) p2 (λhz=>absurd hz hz0)
      (λi e hi=>by
       rw [p3 i]at hi;split at hi
       .exact by have:=List.all_eq_true.1 hwid e (List.mem_of_getElem? hi);simpa using this
       .exact R.wid k _ es hbk i e hi)
      (λi j e c hi hj=>by
       rw [p3 i]at hi;split at hi
       .rename_i hr;obtain⟨y,k1,k2⟩:=y1.2.2 (i - off) j e c hi hj;refine⟨y,?_,k2⟩;have hlt:=(List.getElem?_eq_some_iff.1 k1).1
        have:=World.cell?_setCells_in (ρ k) ys (off*te.size) w hcell ((i - off)*te.size+j) hlt
        rw [show off*te.size+((i - off)*te.size+j)=i*te.size+j by
         have:off*te.size+(i - off)*te.size=i*te.size:=by rw [<-Nat.add_mul];congr 1;omega
         omega]at this
        rw [this,<-k1];simp
       .rename_i hr;obtain⟨y,k1,k2⟩:=R.cell k _ es hbk i j e c hi hj;refine⟨y,?_,k2⟩;rw [World.cell?_setCells_out _ _ _ _ _ (λ_ _=> ?_)]
        .exact k1
        .have e1:=R.wid k _ es hbk i e hi;have e2:=(List.getElem?_eq_some_iff.1 hj).1;simp only;rw [hyl];by_cases hio:i<off
         .left
          have:(i+1)*te.size<=off*te.size:=Nat.mul_le_mul_right _ hio
          rw [Nat.add_mul]at this;omega
         .right
          have:(off+xs.length)*te.size<=i*te.size:=Nat.mul_le_mul_right _ (by omega)
          rw [Nat.add_mul]at this
          omega)
     exact⟨_,_,ρ,hrun,hT.1,hT.2,eD rfl⟩
  .simp at hap
 .simp only [zsI]at hap;subst hap;obtain⟨a',c',e1,e2,e3,e4⟩:=nL (by cases ha with|one c y hc=>exact hc);subst e1
  have hfc:∃sp sLen sCap,x= .slice sp sLen sCap:=by
   unfold gz at hxs;split at hxs
   .cases hxx with
    |one c y hy=>cases hy with
     |p fr t y h=>cases h with
      |s nn bz l a c yy hn hc h0 hl hm hr=>exact⟨_,_,_,rfl⟩
   .cases hxx with
    |one c y hy=>cases hy with
     |own k off n c a hk' hn ha=>exact⟨_,_,_,rfl⟩
   .simp at hxs
  obtain⟨sp,sLen,sCap,rfl⟩:=hfc;refine aC R (y:=goInt 0) ?_ (eD rfl);have hmin:Nat.min sLen 0=0:=Nat.min_zero _
  cases sp with
  |none=>cases a'<;>simp [Builtin.copy_,run_underlying hu,sizeOf,typeInfo,o1,Builtin.lenOf,Builtin.firstCells,hmin,storeCells]
  |some b=>cases a'<;>simp [Builtin.copy_,run_underlying hu,sizeOf,typeInfo,o1,Builtin.lenOf,Builtin.firstCells,hmin,storeCells,loadCells,loadCellsFrom]
 .simp at hap
end
end Ev
end
noncomputable section
namespace Ev
open Go Go.RowKit
section
variable {E : Env} {w : World} {base : Nat} {F0 : Nat → Prop} {ρ : Nat → Nat} {H : ak}
def sY(P:Program)(base:Nat)(F0:Nat->Prop)(w:World)(ρ:Nat->Nat)(H:ak)(s:Sem Next)(e:Eff):Prop:=
 ∃y w' ρ',(s.run P w= .ok (.value y) w'∨(s.run P w= .ok .skip w'/\y=undef))/\HRel w' base F0 ρ' (apply H e.upd)/\Ext w ρ H w' ρ' (apply H e.upd)/\RepD w' base (Fb F0 ρ' (apply H e.upd)) ρ' (apply H e.upd) e.v y
theorem Good.v{P:Program}{s:Sem Value}{e:Eff}(h:Good P base F0 w ρ H s e):sY P base F0 w ρ H (do pure (.value (<-s))) e:=by
 obtain⟨y,w',ρ',h1,h2,h3,h4⟩:=h;exact⟨y,w',ρ',.inl (by simp [Sem.run_bind,h1,Result.andThen]),h2,h3,h4⟩
theorem Good.u{P:Program}{s:Sem Unit}{e:Eff}(h:Good P base F0 w ρ H (do s;pure undef) e):sY P base F0 w ρ H (do s;pure .skip) e:=by
 obtain⟨y,w',ρ',h1,h2,h3,h4⟩:=h;rw [Sem.run_bind]at h1
 cases hr:s.run P w with
 |halt x w1=>rw [hr]at h1;simp [Result.andThen]at h1
 |ok u w1=>
  rw [hr]at h1;simp [Result.andThen]at h1;obtain⟨rfl,rfl⟩:=h1;exact⟨undef,w1,ρ',.inr ⟨by simp [Sem.run_bind,hr,Result.andThen],rfl⟩,h2,h3,h4⟩
theorem fq{P:Program}(R:HRel w base F0 ρ H){s:Sem Next}{d:D}{y:Value}(h1:s.run P w= .ok (.value y) w)(h2:RepD w base (Fb F0 ρ H) ρ H d y):sY P base F0 w ρ H s {v:=d}:=
 ⟨y,w,ρ,.inl h1,R,Ext.refl _ _ _,h2⟩
theorem qk{P:Program}(R:HRel w base F0 ρ H){s:Sem Value}{x:Value}{e:Eff}(h1:s.run P w= .ok x w)(h2:mkO x=some e):sY P base F0 w ρ H (do pure (.value (<-s))) e:=by
 unfold mkO at h2;split at h2
 .rename_i hx;simp only [zsI]at h2;subst h2;exact(aC R h1 (eD (by rw [<-uE];exact hx))).v
 .simp at h2
theorem nN(t:Tmp->Option D)(a:Act){F:Nat->Prop}(T:RelG w base F ρ H t a){o:Option Operand}{dflt n:Nat}(h:de (ay t) o dflt=some n):
  (o.map a.eval=none/\n=dflt)∨∃k,o.map a.eval=some (.int k (n:Int)):=by
 cases o with
 |none=>simp [de]at h;exact .inl ⟨rfl,h.symm⟩
 |some y=>
  simp only [de,zbE]at h;obtain⟨d,h1,h2⟩:=h;obtain⟨k,hk⟩:=ig (T.opnd h1) h2;exact .inr ⟨k,by simp [hk]⟩
theorem zq{F:Nat->Prop}{d:D}{n:Nat}{y:Value}(h:RepD w base F ρ H d y)(hl:sq d=some n):∃a c,y= .slice a n c/\n<=c:=by
 unfold sq at hl;split at hl
 .simp only [zsI]at hl;subst hl
  cases h with|one c y h=>obtain⟨a,c,e1,e2,e3,e4⟩:=nL h;exact⟨a,c,e1,e3⟩
 .simp only [zsI]at hl;subst hl
  cases h with|one c y h=>cases h with|own k off n c a hk hn ha=>exact⟨some a,c,rfl,hn⟩
 .simp at hl
theorem ql{F:Nat->Prop}{t:Tmp->Option D}{a:Act}(T:RelG w base F ρ H t a):∀(l:List Operand) (cs:List C),(l.mapM λx=>(ay t x).bind λ| .one c=>some c|_=>none)=some cs->RepCs w base F ρ H cs (l.map a.eval)
 | [],cs,h=>by simp at h;subst h;exact⟨rfl,λi c hi=>by simp at hi⟩
 |x::l,cs,h=>by
  simp only [List.mapM_cons,zbB,zbE,Option.pure_def,zsI]at h;obtain⟨c,⟨d,h1,h1'⟩,r,h2,rfl⟩:=h;obtain⟨g1,g2⟩:=ql T l r h2;refine⟨by simpa using g1,λj p hj=> ?_⟩
  cases j with
  |zero=>
   simp at hj;subst hj;have hr:=T.opnd h1;split at h1'
   .simp only [zsI]at h1';subst h1'
    cases hr with|one c y hr=>exact⟨_,by simp,hr⟩
   .simp at h1'
  |succ j=>simp at hj;simpa using g2 j p hj
theorem Fg{F:Nat->Prop}{fn:Fn}{f g:List C}{v1 v2:List Value}(h1:RepCs w base F ρ H f v1)(h2:RepCs w base F ρ H g v2):RepC w base F ρ H (.clo fn f g) (.func fn v1.toArray v2.toArray):=
 .clo fn f g _ _ (λi=>v1.getD i .nilFunc) (λi=>v2.getD i .nilFunc) (by simpa using h1.1) (by simpa using h2.1)
  (λi c hi=>by obtain⟨y,e1,e2⟩:=h1.2 i c hi;simp [List.getD_eq_getElem?_getD,e1]) (λi c hi=>by obtain⟨y,e1,e2⟩:=h2.2 i c hi;simp [List.getD_eq_getElem?_getD,e1])
  (λi c hi=>by obtain⟨y,e1,e2⟩:=h1.2 i c hi;simpa [List.getD_eq_getElem?_getD,e1]using e2) (λi c hi=>by obtain⟨y,e1,e2⟩:=h2.2 i c hi;simpa [List.getD_eq_getElem?_getD,e1]using e2)
theorem AJ{P:Program}(w:World)(d:Nat)(t e:TypeId)(a:Option Addr)(l c:Nat)(h:P.underlying t=some (.slice e)):(Op.equalIn (d+1) t (.slice a l c) (.slice none 0 0)).run P w= .ok a.isNone w:=by
 cases a<;>simp [Op.equalIn,run_underlying h]
theorem qm{P:Program}(w:World)(t e:TypeId)(a:Option Addr)(l c:Nat)(h:P.underlying t=some (.slice e)):(Op.equal t (.slice a l c) (.slice none 0 0)).run P w= .ok a.isNone w:=AJ w 9999 t e a l c h
theorem uH{P:Program}(w:World)(t e:TypeId)(a:Option Addr)(l c:Nat)(h:P.underlying t=some (.slice e)):(binOp .eql t (.slice a l c) (.slice none 0 0)).run P w= .ok (.bool a.isNone) w:=by
 simp [binOp,qm w t e a l c h]
theorem uI{P:Program}(w:World)(t e:TypeId)(a:Option Addr)(l c:Nat)(h:P.underlying t=some (.slice e)):(binOp .neq t (.slice a l c) (.slice none 0 0)).run P w= .ok (.bool (!a.isNone)) w:=by
 simp [binOp,qm w t e a l c h]
theorem zr{P:Program}{ty e:TypeId}(hu:P.underlying ty=some (.slice e))(x y:Operand)(a:Option Addr)(n c:Nat)(w:World):
  (do eqGuard .eql ty x y (.slice a n c) (.slice none 0 0);binOp .eql ty (.slice a n c) (.slice none 0 0)).run P w= .ok (.bool a.isNone) w:=by
 rw [eqGuard_at_slice];show(binOp .eql ty (.slice a n c) (.slice none 0 0)).run P w=_;exact uH w ty e a n c hu
theorem zt{P:Program}{ty e:TypeId}(hu:P.underlying ty=some (.slice e))(x y:Operand)(a:Option Addr)(n c:Nat)(w:World):
  (do eqGuard .neq ty x y (.slice a n c) (.slice none 0 0);binOp .neq ty (.slice a n c) (.slice none 0 0)).run P w= .ok (.bool (!a.isNone)) w:=by
 rw [eqGuard_at_slice];show(binOp .neq ty (.slice a n c) (.slice none 0 0)).run P w=_;exact uI w ty e a n c hu
set_option maxHeartbeats 1000000 in
theorem Id(hE:dr E.P E.ti)(R:HRel w base F0 ρ H)(hb:base<=w.heap.size){nid:Nat}(hn:∀B,H[nid]? =some B->B= .no){t:Tmp->Option D}{a:Act}(T:RelG w base (Fb F0 ρ H) ρ H t a){o:Oper}{e:Eff}
  (h:sem E nid o (ay t) H=some e):sY E.P base F0 w ρ H (execOp a.eval o) e:=by
 unfold sem at h;unfold execOp;split at h
 case h_1 x ho=>
  simp only [zbB,zbE,zsI]at h;obtain⟨d,h1,rfl⟩:=h;rw [ho];exact fq R rfl (T.opnd h1)
 case h_2 x ho=>
  simp only [zbB,zbE,zsI]at h;obtain⟨d,h1,rfl⟩:=h;rw [ho];exact fq R rfl (T.opnd h1)
 case h_3 c x y ho=>
  simp only [zbB,zbE]at h;obtain⟨d,h1,b,h2,h3⟩:=h;have hc:=qf (T.opnd h1) h2;rw [ho];cases b
  .simp only [Bool.false_eq_true,if_false,zbE,zsI]at h3;obtain⟨d2,h4,rfl⟩:=h3;exact fq R (by simp [hc,Go.asBool]) (T.opnd h4)
  .simp only [if_true,zbE,zsI]at h3;obtain⟨d2,h4,rfl⟩:=h3;exact fq R (by simp [hc,Go.asBool]) (T.opnd h4)
 case h_4 ty ho=>
  simp only [zbB,zbE,zsI]at h;obtain⟨i,h1,rfl⟩:=h;rw [ho];exact(Cm hE R hb hn h1).v
 case h_5 ty x ho=>
  simp only [zbB,zbE,zsI]at h;obtain⟨i,h1,d,h2,cs,h3,rfl⟩:=h;rw [ho];exact(Ic R hb hn (T.opnd h2) h3).v
 case h_6 ty parts ho=>
  simp only [zbB,zbE,zsI]at h;obtain⟨i,h1,ps,h2,pl,h3,cs,h4,rfl⟩:=h;rw [ho];obtain⟨z,z1,z2⟩:=Cl hE h1 h3 (nM T _ _ h2) h4;refine(aC R ?_ z2).v;rw [<-z1];congr 2;apply Array.ext';simp
 case h_7 ty len parts ho=>
  simp only [zbB,zbE]at h;obtain⟨i,h1,e1,h2,te,h3,ps,h4,cs,h5,es,h6,h7⟩:=h;split at h7
  .rename_i hle;simp only [zsI]at h7;subst h7;rw [ho]
   have:=ss hE R hb hn h1 (bF h2) h3 hle (nM T _ _ h4) h5 h6
   have e2:(parts.toList.map λ(i,x)=>(i,a.eval x)).toArray=parts.map λ(i,x)=>(i,a.eval x):=by apply Array.ext';simp
   rw [e2]at this;exact this.v
  .simp at h7
 case h_8 ty x ho=>
  simp only [zbB,zbE,zsI]at h;obtain⟨i,h1,d,h2,d2,h3,rfl⟩:=h;rw [ho];obtain⟨z,z1,z2⟩:=zp hE h1 R (T.opnd h2) h3;exact(aC R z1 z2).v
 case h_9 ty x y ho=>
  simp only [zbB,zbE]at h;obtain⟨i,h1,d,h2,d2,h3,h4⟩:=h;rw [ho];exact(Cj hE h1 R (T.opnd h2) (T.opnd h3) h4).u
 case h_10 op ty x y yt ho=>
  simp only [zbB,zbE]at h;obtain⟨da,h1,db,h2,h3⟩:=h;rw [ho];split at h3
  .rename_i fr nn sz l;simp only [zbE]at h3;obtain⟨i,h4,et,h5,h6⟩:=h3;obtain⟨aa,c,e1,e2,e3,e4⟩:=nL (by have:=T.opnd h1;cases this with|one c y hc=>exact hc);have hu:=hE.und _ _ h4;rw [bF h5]at hu;split at h6
   .simp only [zsI]at h6;subst h6;refine(aC R (y:= .bool (!nn)) ?_ (eD rfl)).v;simp only [e1];rw [show a.eval (.const (.slice none 0 0))= .slice none 0 0 from rfl,zr hu,e2];cases aa<;>rfl
   .simp only [zsI]at h6;subst h6;refine(aC R (y:= .bool nn) ?_ (eD rfl)).v;simp only [e1];rw [show a.eval (.const (.slice none 0 0))= .slice none 0 0 from rfl,zt hu,e2];cases aa<;>rfl
   .simp at h6
  .rename_i k off n;simp only [zbE]at h3;obtain⟨i,h4,et,h5,h6⟩:=h3;have hr:=T.opnd h1;have hu:=hE.und _ _ h4;rw [bF h5]at hu;generalize hx:a.eval x=vx at hr
   cases hr with
   |one c y hr=>
    cases hr with
    |own k off n c aa hk hc ha=>
     split at h6
     .simp only [zsI]at h6;subst h6;refine(aC R (y:= .bool false) ?_ (eD rfl)).v;simp only [hx];rw [show a.eval (.const (.slice none 0 0))= .slice none 0 0 from rfl,zr hu];rfl
     .simp only [zsI]at h6;subst h6;refine(aC R (y:= .bool true) ?_ (eD rfl)).v;simp only [hx];rw [show a.eval (.const (.slice none 0 0))= .slice none 0 0 from rfl,zt hu];rfl
     .simp at h6
  .simp only [zbE]at h3;obtain⟨va,g1,vb,g2,x1,g3,g4⟩:=h3;have q1:=cq (T.opnd h1) g1;have q2:=cq (T.opnd h2) g2;simp only [q1,q2];exact qk R (kP g3 w) g4
 case h_11 op ty x ho=>
  simp only [zbB,zbE]at h;obtain⟨d,h1,va,g1,x1,g3,g4⟩:=h;rw [ho];have q1:=cq (T.opnd h1) g1;simp only [q1];exact qk R (kP g3 w) g4
 case h_12 src dst x ho=>
  simp only [zbB,zbE]at h;obtain⟨d,h1,h⟩:=h;rw [ho];have hd:=T.opnd h1;split at h
  .rename_i k off n;simp only [zbE]at h;obtain⟨td,g3,et,g4,te,g5,⟨bz,es⟩,g6,h3⟩:=h;split at h3
   .rename_i hc;simp only [Bool.and_eq_true,beq_iff_eq]at hc;simp only [zsI]at h3;subst h3;obtain⟨⟨rfl,hu8⟩,rfl⟩:=hc;exact(xU hE R g3 (bF g4) g5 hu8 (bk g6) hd).v
   .simp at h3
  .simp only [zbE]at h;obtain⟨va,g1,h2⟩:=h;have q1:=cq hd g1;simp only [q1];split at h2
   .simp only [zbE]at h2;obtain⟨x1,g3,g4⟩:=h2;exact qk R (kP g3 w) g4
   .simp at h2
 case h_13 fn first cap ho=>
  simp only [zbB,zbE,zsI]at h;obtain⟨f,h1,g,h2,rfl⟩:=h;rw [ho];have q1:=ql T _ _ h1;have q2:=ql T _ _ h2;refine(aC R (y:= .func fn (first.map a.eval) (cap.map a.eval)) rfl (.one _ _ ?_)).v
  have:=Fg (fn:=fn) q1 q2
  rw [show first.map a.eval=(first.toList.map a.eval).toArray by apply Array.ext';simp,show cap.map a.eval=(cap.toList.map a.eval).toArray by apply Array.ext';simp];exact this
 case h_14 ty l c ho=>
  simp only [zbB,zbE]at h;obtain⟨i,h1,et,h2,te,h3,dl,h4,n,h5,dc,h6,m,h7,h8⟩:=h;split at h8
  .rename_i hc;obtain⟨hnm,hle⟩:=hc;simp only [zsI]at h8;subst h8;rw [ho];obtain⟨k1,q1⟩:=ig (T.opnd h4) h5;obtain⟨k2,q2⟩:=ig (T.opnd h6) h7;simp only [q1,q2];exact(uG hE R hb hn h1 (bF h2) h3 hnm hle).v
  .simp at h8
 case h_15 ty x lo hi mx ho=>
  split at h
  .simp at h
  .rename_i hmx;simp only [zbB,zbE]at h;obtain⟨i,h1,et,h2,te,h3,d,h4,n,h5,h',h6,l,h7,m,h7m,h8⟩:=h;have b3:=nN t a T (o:=mx) (dflt:=n) (n:=m) h7m;have b1:=nN t a T (o:=lo) (dflt:=0) (n:=l) h7;have b2:=nN t a T (o:=hi) (dflt:=n) (n:=h') h6;have hd:=T.opnd h4;obtain⟨aa,c,e1,e2⟩:=zq hd h5;rw [ho];split at h8
   .rename_i hle
    obtain⟨M,hM,hM1,hM2⟩:∃M,((mx.map a.eval=none/\M=c)∨(hi.map a.eval≠none/\∃k,mx.map a.eval=some (.int k (M:Int))))/\h'<=M/\M<=c:=by
     rcases b3 with⟨q1,q2⟩|⟨k,q⟩
     .exact⟨c,.inl ⟨q1,rfl⟩,by omega,Nat.le_refl _⟩
     .refine⟨m,.inr ⟨?_,k,q⟩,hle.2.1,by omega⟩
      cases mx with
      |none=>simp at q
      |some z=>cases hi with
       |none=>simp at hmx
       |some z=>simp
    have hrun:=AF hE h1 (bF h2) h3 (a:=aa) (n:=n) (c:=c) b1 b2 hM hle.1 hM1 hM2 w;split at h8
    .rename_i fr nn sz es;split at h8
     .rename_i hsz;simp only [zsI]at h8;subst h8;simp only [e1];refine(aC R hrun ?_).v;rw [e1]at hd
      cases hd with
      |one cc y hc=>
       have:=EZ hc hle.1 (by omega) hM1 hM2
       have e3:l*te.size=l*sz:=by
        rcases hsz with h0|h0
        .rw [h0]
        .rw [h0];simp
       rw [e3];exact .one _ _ this
     .simp at h8
    .rename_i k off n';simp only [zbE]at h8;obtain⟨⟨sz,es⟩,h9,h10⟩:=h8;split at h10
     .rename_i hlh;subst hlh;simp only [zsI]at h10;subst h10;simp only [e1];refine(aC R hrun ?_).v;rw [e1]at hd
      cases hd with
      |one cc y hc=>
       cases hc with
       |own k off n c aa hk hcap ha=>
        simp only [Nat.sub_self];split
        .exact .one _ _ (sV _)
        .exact .one _ _ (sV _)
     .rename_i hlh;split at h10
      .rename_i hsz;simp only at hsz;simp only [zsI]at h10;subst h10;simp only [e1];refine(aC R hrun ?_).v;rw [e1]at hd
       cases hd with
       |one cc y hc=>
        have:=wl (bk h9) hc (x:=l) (z:=h') (by omega) (by simp only [sq,zsI]at h5;omega) hM1 hM2
        rw [hsz]at this;exact .one _ _ this
      .simp at h10
    .simp at h8
   .simp at h8
 case h_16 ty x f ho=>
  simp only [zbB,zbE]at h;obtain⟨i,h1,fd,h2,ft,h3,h4⟩:=h;rw [ho];split at h4
  .simp at h4
  .rename_i hz;simp only [zbE]at h4;obtain⟨d,h5,h6⟩:=h4;have hd:=T.opnd h5;generalize hx:a.eval x=vx at hd;split at h6
   .simp only [zsI]at h6;subst h6
    cases hd with
    |one c y hc=>
     have hc2:=hc
     cases hc with
     |ptr k i j aa hk ha=>
      simp only [hx];exact(aC R (mn hE h1 h2 h3 hz aa w) (.one _ _ (oG hc2))).v
   .simp only [zsI]at h6;subst h6
    cases hd with
    |one c y hc=>
     have hc2:=hc
     cases hc with
     |iptr fr sz l i j aa yy hm hr=>
      simp only [hx];exact(aC R (mn hE h1 h2 h3 hz aa w) (.one _ _ (mq hc2))).v
   .simp at h6
 case h_17 ty x f ho=>
  simp only [zbB,zbE]at h;obtain⟨i,h1,fd,h2,ft,h3,d,h5,h6⟩:=h;rw [ho];have hd:=T.opnd h5;generalize hx:a.eval x=vx at hd;split at h6
  .simp only [zbE,zsI]at h6;obtain⟨cs,h7,d2,h8,rfl⟩:=h6
   cases hd with
   |agg cs' ys hc=>
    obtain⟨z,z1,z2⟩:=wm hE h3 (w:=w) hc h7 h8;obtain⟨fs,g1,g2⟩:=oF h2;have hu:=run_underlying (hE.und _ _ h1) w;rw [g1]at hu;refine(aC R (y:=z) ?_ z2).v;simp only [hx];simp [Instr.field,hu,g2,asAgg,z1]
  .simp at h6
 case h_18 ty x ix ho=>
  simp only [zbB,zbE]at h;obtain⟨i,h1,di,h2,n,h3,d,h5,h6⟩:=h;rw [ho];obtain⟨k1,q1⟩:=ig (T.opnd h2) h3;have hd:=T.opnd h5;generalize hx:a.eval x=vx at hd;split at h6
  .rename_i fr nn sz l;simp only [zbE]at h6;obtain⟨et,h7,te,h8,h9⟩:=h6;split at h9
   .rename_i hlt;simp only [zsI]at h9;subst h9
    cases hd with
    |one c y hc=>
     obtain⟨aa,c,e1,e2,e3,e4⟩:=nL hc
     cases aa with
     |none=>have:=e4 rfl;omega
     |some aa=>
      subst e1;simp only [hx,q1];refine(aC R (jn hE h1 (bF h7) h8 hlt.1 w) ?_).v;rw [<-hlt.2];exact .one _ _ (Ck hc)
   .simp at h9
  .rename_i k off n';simp only [zbE]at h6;obtain⟨et,h7,te,h8,⟨bz,es⟩,h9,h10⟩:=h6;split at h10
   .rename_i hlt;simp only at hlt;simp only [zsI]at h10;subst h10
    cases hd with
    |one c y hc=>
     cases hc with
     |own k off n' c aa hk hcap ha=>
      simp only [hx,q1];refine(aC R (jn hE h1 (bF h7) h8 hlt.1 w) (.one _ _ (.ptr k (off+n) 0 _ hk λsz es' hb'=> ?_))).v;rw [bk h9]at hb';cases hb';rw [(ha _ _ (bk h9)).1,Addr.add_mid,Nat.add_mul,<-hlt.2];rfl
   .simp at h10
  .rename_i k i' j;split at h6
   .rename_i m et hdsc;simp only [zbE]at h6;obtain⟨te,h7,h8⟩:=h6;split at h8
    .rename_i hlt;simp only [zsI]at h8;subst h8
     cases hd with
     |one c y hc=>
      have hc2:=hc
      cases hc with
      |ptr k i j aa hk ha=>
       simp only [hx,q1];exact(aC R (jo hE h1 hdsc h7 hlt w) (.one _ _ (oG hc2))).v
    .simp at h8
   .simp at h6
  .rename_i fr sz l i' j;split at h6
   .rename_i m et hdsc;simp only [zbE]at h6;obtain⟨te,h7,h8⟩:=h6;split at h8
    .rename_i hlt;simp only [zsI]at h8;subst h8
     cases hd with
     |one c y hc=>
      have hc2:=hc
      cases hc with
      |iptr fr sz l i j aa yy hm hr=>
       simp only [hx,q1];exact(aC R (jo hE h1 hdsc h7 hlt w) (.one _ _ (mq hc2))).v
    .simp at h8
   .simp at h6
  .simp at h6
 case h_19 ty x ix ho=>
  simp only [zbB,zbE]at h;obtain⟨i,h1,di,h2,n,h3,d,h5,h6⟩:=h;rw [ho];obtain⟨k1,q1⟩:=ig (T.opnd h2) h3;have hd:=T.opnd h5;generalize hx:a.eval x=vx at hd;split at h6
  .split at h6
   .rename_i m et hdsc;simp only [zbE]at h6;obtain⟨te,h7,h8⟩:=h6;split at h8
    .rename_i hlt;simp only [zbE,zsI]at h8;obtain⟨cs,h9,d2,h10,rfl⟩:=h8
     cases hd with
     |agg cs' ys hc=>
      obtain⟨z,z1,z2⟩:=wm hE h7 (w:=w) hc h9 h10;have hu:=run_underlying (hE.und _ _ h1) w;rw [hdsc]at hu;have hs:=eE hE h7 w;refine(aC R (y:=z) ?_ z2).v;simp only [hx,q1];have hb1:(0:Int)<=(n:Int)/\(n:Int)<(m:Int):=by omega
      have hb2:¬m<=n:=by omega
      simp [Instr.index,asIntOf,hu,hs,hb1,hb2,z1]
    .simp at h8
   .simp at h6
  .simp at h6
 case h_20 tp ix ho=>
  simp only [zbB,zbE]at h;obtain⟨d,h5,h6⟩:=h;rw [ho];have hd:=T.opnd h5;generalize hx:a.eval tp=vx at hd;split at h6
  .simp only [zbE,zsI]at h6;obtain⟨d2,h7,rfl⟩:=h6
   cases hd with
   |tup ds ys y hl he hr=>
    refine(aC R (y:=y ix) ?_ (hr ix d2 h7)).v;simp only [hx];simp [Instr.extract,he ix d2 h7]
  .simp at h6
 case h_21 c ho=>
  split at h
  .rename_i b hb';simp only [zbB,zbE]at h;obtain⟨ty,h1,i,h2,args,h3,h4⟩:=h;rw [ho];obtain⟨g1,g2⟩:=mr T _ _ h3
   have hres:∀(s:Deferred->Sem Next),((resolve a.eval c o.type)>>=s)=s {target:= .builtin b c.argTypes o.type (c.args.map λ| .const _=>true|_=>false),args:=c.args.map a.eval}:=by
    intro s;unfold resolve;rw [hb'];rfl
   have hgo:(do let d<-resolve a.eval c o.type;invoke d.target d.args:Sem Next)=builtin b c.argTypes o.type (c.args.map λ| .const _=>true|_=>false) (c.args.map a.eval):=by
    rw [hres];rfl
   show sY E.P base F0 w ρ H (do let d<-resolve a.eval c o.type;invoke d.target d.args) e;rw [hgo];have hargs:∀l,c.args.toList.map a.eval=l->c.args.map a.eval=l.toArray:=λl hl=>by rw [<-hl];apply Array.ext';simp
   split at h4
   .rename_i x;obtain⟨y,e1,e2⟩:=g2 0 x rfl
    have hl1:c.args.toList.map a.eval= [y]:=by
     cases hc:c.args.toList with
     |nil=>rw [hc]at g1;simp at g1
     |cons q r=>
      rw [hc]at g1 e1;simp at g1 e1;subst g1;simp [e1]
    rw [hargs _ hl1];split at h4
    .rename_i et hd;simp only [zbE,zsI]at h4;obtain⟨n,h5,rfl⟩:=h4;obtain⟨aa,cc,q1,q2⟩:=zq e2 h5;have hu:=run_underlying (hE.und _ _ h2) w;rw [hd]at hu;refine(aC (s:=Builtin.len_ c.argTypes o.type #[y]) R (y:= .int .i64 n) ?_ (eD rfl)).v;subst q1;simp [Builtin.len_,h1,hu,goInt]
    .rename_i hd;simp only [zbE]at h4;obtain⟨v,h5,h6⟩:=h4;have hv:=cq e2 h5;split at h6
     .rename_i s;simp only [zsI]at h6;subst h6;have hu:=run_underlying (hE.und _ _ h2) w;rw [hd]at hu;refine(aC (s:=Builtin.len_ c.argTypes o.type #[y]) R (y:= .int .i64 s.size) ?_ (eD rfl)).v;subst hv;simp [Builtin.len_,h1,hu,goInt]
     .simp at h6
    .rename_i n et hd;simp only [zsI]at h4;subst h4;have hu:=run_underlying (hE.und _ _ h2) w;rw [hd]at hu;refine(aC (s:=Builtin.len_ c.argTypes o.type #[y]) R (y:= .int .i64 n) ?_ (eD rfl)).v;simp [Builtin.len_,h1,hu,goInt]
    .simp at h4
   .rename_i x0 x1;obtain⟨y0,e1,e2⟩:=g2 0 x0 rfl;obtain⟨y1,e3,e4⟩:=g2 1 x1 rfl
    have hl1:c.args.toList.map a.eval= [y0,y1]:=by
     generalize c.args.toList=l at g1 e1 e3
     match l,g1 with
     | [q,r],_=>simp at e1 e3;simp [e1,e3]
    rw [hargs _ hl1];simp only [zbE]at h4;obtain⟨et,h5,te,h6,ty1,h7,t1,h8,et1,h9,h10⟩:=h4
    have:=AI hE R hb hn h2 (bF h5) h6 h8 (bF h9) e2 e4 h10 o.type
    have hts:Builtin.append_ c.argTypes o.type [y0,y1].toArray=Builtin.append_ #[ty,ty1] o.type #[y0,y1]:=by
     unfold Builtin.append_;simp [h1,h7]
    refine Good.v (s:=Builtin.append_ c.argTypes o.type [y0,y1].toArray) ?_;rw [hts];exact this
   .rename_i x0 x1;obtain⟨y0,e1,e2⟩:=g2 0 x0 rfl;obtain⟨y1,e3,e4⟩:=g2 1 x1 rfl
    have hl1:c.args.toList.map a.eval= [y0,y1]:=by
     generalize c.args.toList=l at g1 e1 e3
     match l,g1 with
     | [q,r],_=>simp at e1 e3;simp [e1,e3]
    rw [hargs _ hl1];simp only [zbE]at h4;obtain⟨et,h5,te,h6,ty1,h7,t1,h8,et1,h9,h10⟩:=h4
    have:=Ff hE R h2 (bF h5) h6 h8 (bF h9) e2 e4 h10 o.type
    have hts:Builtin.copy_ c.argTypes o.type [y0,y1].toArray=Builtin.copy_ #[ty,ty1] o.type #[y0,y1]:=by
     unfold Builtin.copy_;simp [h1]
    refine Good.v (s:=Builtin.copy_ c.argTypes o.type [y0,y1].toArray) ?_;rw [hts];exact this
   .rename_i x0 x1;obtain⟨y0,e1,e2⟩:=g2 0 x0 rfl;obtain⟨y1,e3,e4⟩:=g2 1 x1 rfl
    have hl1:c.args.toList.map a.eval= [y0,y1]:=by
     generalize c.args.toList=l at g1 e1 e3
     match l,g1 with
     | [q,r],_=>simp at e1 e3;simp [e1,e3]
    rw [hargs _ hl1];simp only [zbE]at h4;obtain⟨v0,h5,v1,h6,h7⟩:=h4;have q0:=cq e2 h5;have q1:=cq e4 h6;split at h7
    .rename_i k p k' q;simp only [zsI]at h7;subst h7;refine(aC (s:=Builtin.min_ c.argTypes o.type [y0,y1].toArray) R (y:= .int k (if q<p then q else p)) ?_ (eD rfl)).v;rw [q0,q1];simp [Builtin.min_,Builtin.min2]
    .simp at h7
   .rename_i x0 x1;obtain⟨y0,e1,e2⟩:=g2 0 x0 rfl;obtain⟨y1,e3,e4⟩:=g2 1 x1 rfl
    have hl1:c.args.toList.map a.eval= [y0,y1]:=by
     generalize c.args.toList=l at g1 e1 e3
     match l,g1 with
     | [q,r],_=>simp at e1 e3;simp [e1,e3]
    rw [hargs _ hl1];simp only [zbE]at h4;obtain⟨v0,h5,v1,h6,h7⟩:=h4;have q0:=cq e2 h5;have q1:=cq e4 h6;split at h7
    .rename_i k p k' q;simp only [zsI]at h7;subst h7;refine(aC (s:=Builtin.max_ c.argTypes o.type [y0,y1].toArray) R (y:= .int k (if q>p then q else p)) ?_ (eD rfl)).v;rw [q0,q1];simp [Builtin.max_,Builtin.max2]
    .simp at h7
   .simp at h4
  .simp at h
 case h_22 x ho=>
  simp only [zbB,zbE]at h;obtain⟨d,h1,h2⟩:=h;have hd:=T.opnd h1;rw [ho];generalize hx:a.eval x=vx at hd;split at h2
  .simp only [zsI]at h2;subst h2
   cases hd with
   |one c y hc=>
    have hc2:=hc
    cases hc with
    |ptr k i j aa hk ha=>
     simp only [hx];exact fq R rfl (.one _ _ hc2)
  .simp at h2
 case h_23=>simp at h
end
end Ev
end
noncomputable section
namespace Ev
open Go Go.RowKit
theorem ce{α β:Type}{f:α->Option β}:∀{l:List α} {r:List β},l.mapM f=some r->r.length=l.length/\(∀(i:Nat) x,l[i]? =some x->∃z,r[i]? =some z/\f x=some z)/\∀(i:Nat) z,r[i]? =some z->∃x,l[i]? =some x/\f x=some z
 | [],r,h=>by simp at h;subst h;exact⟨rfl,λi x hi=>by simp at hi,λi x hi=>by simp at hi⟩
 |x::l,r,h=>by
  simp only [List.mapM_cons,zbB,zbE,Option.pure_def,zsI]at h;obtain⟨z,h1,r',h2,rfl⟩:=h;obtain⟨g1,g2,g3⟩:=ce h2;refine⟨by simpa using g1,λi x' hi=> ?_,λi z' hi=> ?_⟩
  .cases i with
   |zero=>simp at hi;subst hi;exact⟨z,rfl,h1⟩
   |succ i=>simpa using g2 i x' (by simpa using hi)
  .cases i with
   |zero=>simp at hi;subst hi;exact⟨x,rfl,h1⟩
   |succ i=>simpa using g3 i z' (by simpa using hi)
def RepTs(w:World)(F:Nat->Prop)(ts:List T)(ys:List Value):Prop:=ts.length=ys.length/\∀(i:Nat) t,ts[i]? =some t->∃y,ys[i]? =some y/\RepT w F t y
inductive RepTD(w:World)(F:Nat->Prop):TD->Value->Prop
 |one (t:T) (y:Value) (h:RepT w F t y):RepTD w F (.one t) y
 |agg (ts:List T) (ys:List Value) (h:RepTs w F ts ys):RepTD w F (.agg ts) (.agg ys.toArray)
def gO(w:World)(F:Nat->Prop)(ts:List TD)(ys:List Value):Prop:=ts.length=ys.length/\∀(i:Nat) t,ts[i]? =some t->∃y,ys[i]? =some y/\RepTD w F t y
def lf(w:World)(F:Nat->Prop):List TD->Value->Prop
 | [r],y=>RepTD w F r y
 |rs,y=>∃ys,y= .tuple ys.toArray/\gO w F rs ys
def Cn(w':World)(B:Nat)(rs:List TD)(y:Value):Prop:=
 ∃(b c sz:Nat) (l:List (List T)),rs= [.one (.s true sz l)]/\y= .slice (some ⟨b,0,none⟩) l.length c/\l.length<=c/\B<=b/\b<w'.heap.size/\c*sz<=aU w' b/\Clean w' b/\
  (∀(i:Nat) e,l[i]? =some e->e.length=sz)/\∀(i j:Nat) e t,l[i]? =some e->e[j]? =some t->∃x,t= .v x/\x.oneCell'=true/\w'.cell? ⟨b,i*sz+j,none⟩=some x
def fY(P:Program)(k:FuncId)(vs:List TD)(kind:Kind)(rs:List TD):Prop:=
 ∀(w:World) (F:Nat->Prop) (ys:List Value),LD w.heap.size w->(∀b,F b->b<w.heap.size)->gO w F vs ys->
  Calls P k ys.toArray w λe w'=>∃y,e= .returned y/\lf w' (λb=>b<w.heap.size/\(kind≠ .any∨F b)) rs y/\(kind= .own->Cn w' w.heap.size rs y)/\Below w.heap.size w w'
theorem RepT.weak{w:World}{F F':Nat->Prop}(hF:∀b,F' b->F b){t:T}{y:Value}(h:RepT w F t y):RepT w F' t y:=
 h.mono (Nat.le_refl _) λb _ _ hn=>⟨rfl,λhf=>hn (hF b hf)⟩
theorem RepTs.weak{w:World}{F F':Nat->Prop}(hF:∀t y,RepT w F t y->RepT w F' t y){ts:List T}{ys:List Value}(h:RepTs w F ts ys):RepTs w F' ts ys:=
 ⟨h.1,λi t hi=>let⟨y,h1,h2⟩:=h.2 i t hi;⟨y,h1,hF t y h2⟩⟩
section
variable {w : World} {base : Nat} {F0 : Nat → Prop} {ρ : Nat → Nat} {H : ak}
theorem uJ(R:HRel w base F0 ρ H):∀(d:Nat) (c:C) (b:Bool) (t:T) (y:Value),dS H d c=some (b,t)->RepC w base (Fb F0 ρ H) ρ H c y->RepT w (λ_=>False) t y/\(fm c=false->RepT w (Frs (Fb F0 ρ H) base b) t y):=by
 have hp:∀(fr b:Bool) (t t':T) (y:Value),some ((match t with| .v _=>true|_=>fr),t)=some (b,t')->RepC w base (Fb F0 ρ H) ρ H (.p fr t) y->RepT w (λ_=>False) t' y/\(fm (.p fr t)=false->RepT w (Frs (Fb F0 ρ H) base b) t' y):=by
  intro fr b t t' y h hr;simp only [zsI,Prod.mk.injEq]at h;obtain⟨h1,rfl⟩:=h
  cases hr with
  |p fr t y hr=>
   refine⟨hr.weak λ_ h=>h.elim,λ_=> ?_⟩
   cases t with
   |v x=>cases hr with|v _ hx=>exact .v _ hx
   |s nn sz l=>simp at h1;subst h1;exact hr
 intro d
 induction d with
 |zero=>
  intro c b t y h hr
  cases c with
  |p fr t0=>exact hp fr b t0 t y h hr
  |_=>simp [dS]at h
 |succ d ih=>
  intro c b t y h hr
  cases c with
  |p fr t0=>exact hp fr b t0 t y h hr
  |own k off n=>
   simp only [dS,zbB,zbE,zsI,Prod.mk.injEq]at h;obtain⟨⟨sz,es⟩,h1,es',h2,r,h3,h4,rfl⟩:=h;have hb:=bk h1;obtain⟨m1,m2,m3⟩:=ce h3;obtain⟨c1,c2,c3⟩:=dt h2
   cases hr with
   |own k off n c a hk hn ha=>
    obtain⟨g1,g2⟩:=ha _ _ hb;refine⟨?_,λh=>by simp [fm]at h⟩;have hlen:(r.map (·.map (·.2))).length=n:=by simp [m1,c1]
    have:=RepT.s (w:=w) (F:=λ_=>False) true sz (r.map (·.map (·.2))) (some a) c (λi j=>(w.cell? (a.add (i*sz+j))).getD .nilFunc) rfl (by omega) (λh=>by cases h)
     (λi e hi=>by
      simp only [List.getElem?_map,Option.map_eq_some_iff]at hi;obtain⟨q,q1,rfl⟩:=hi;obtain⟨x,x1,x2⟩:=m3 i q q1;obtain⟨l1,l2⟩:=gB h2 x1
      have:=R.wid k sz es hb _ x l2
      simp [(ce x2).1,this]) ?_ ?_
    .rwa [hlen]at this
    all_goals
     intro i e j t hi hj;simp only [List.getElem?_map,Option.map_eq_some_iff]at hi;obtain⟨q,q1,rfl⟩:=hi;simp only [List.getElem?_map,Option.map_eq_some_iff]at hj;obtain⟨p,p1,rfl⟩:=hj;obtain⟨x,x1,x2⟩:=m3 i q q1;obtain⟨l1,l2⟩:=gB h2 x1;obtain⟨n1,n2,n3⟩:=ce x2;obtain⟨cc,d1,d2⟩:=n3 j p p1;obtain⟨y,e1,e2⟩:=R.cell k sz es hb _ j x cc l2 d1;have e3:w.cell? (a.add (i*sz+j))=some y:=by rw [g1,Addr.add_mid,<-e1,Nat.add_mul,Nat.add_assoc]
    .refine⟨a,rfl,?_,λh=>h,by rw [e3];rfl⟩;rw [g1];exact R.lt k sz es hb
    .rw [e3];exact(ih cc p.1 p.2 y d2 e2).1
  |_=>simp [dS]at h
theorem ww(R:HRel w base F0 ρ H){d:D}{b:Bool}{td:TD}{y:Value}(h:cl H d=some (b,td))(hr:RepD w base (Fb F0 ρ H) ρ H d y):RepTD w (λ_=>False) td y/\(iE d=false->RepTD w (Frs (Fb F0 ρ H) base b) td y):=by
 cases hr with
 |one c y hr=>
  simp only [cl,zbB,zbE,zsI,Prod.mk.injEq]at h;obtain⟨⟨b',t⟩,h1,rfl,rfl⟩:=h;obtain⟨g1,g2⟩:=uJ R _ _ _ _ _ h1 hr;exact⟨.one _ _ g1,λho=> .one _ _ (g2 ho)⟩
 |agg cs ys hr=>
  simp only [cl,zbB,zbE,zsI,Prod.mk.injEq]at h;obtain⟨r,h1,rfl,rfl⟩:=h;obtain⟨m1,m2,m3⟩:=ce h1
  have key:∀(i:Nat) t,(r.map (·.2))[i]? =some t->∃c b y,cs[i]? =some c/\dS H 6 c=some (b,t)/\(b,t)∈r/\ys[i]? =some y/\RepC w base (Fb F0 ρ H) ρ H c y:=by
   intro i t hi;simp only [List.getElem?_map,Option.map_eq_some_iff]at hi;obtain⟨p,p1,rfl⟩:=hi;obtain⟨c,c1,c2⟩:=m3 i p p1;obtain⟨y,y1,y2⟩:=hr.2 i c c1;exact⟨c,p.1,y,c1,c2,List.mem_of_getElem? p1,y1,y2⟩
  have hl:(r.map (·.2)).length=ys.length:=by simp [m1,hr.1]
  refine⟨.agg _ _ ⟨hl,λi t hi=> ?_⟩,λho=> .agg _ _ ⟨hl,λi t hi=> ?_⟩⟩
  .obtain⟨c,b,y,k1,k2,k3,k4,k5⟩:=key i t hi;exact⟨y,k4,(uJ R _ _ _ _ _ k2 k5).1⟩
  .obtain⟨c,b,y,k1,k2,k3,k4,k5⟩:=key i t hi
   have ho':fm c=false:=by
    simp only [iE,List.any_eq_false]at ho;simpa using ho c (List.mem_of_getElem? k1)
   refine⟨y,k4,((uJ R _ _ _ _ _ k2 k5).2 ho').weak λq hq=>hq.imp id λ⟨h1,h2⟩=>⟨?_,h2⟩⟩;exact List.all_eq_true.1 h1 _ k3
 |tup=>simp [cl]at h
theorem lg{w':World}{F:Nat->Prop}{F':Nat->Prop}{ρ':Nat->Nat}{H':ak}{fr:Bool}(hF:∀b,Frs F' base fr b->F b){r:TD}{y:Value}(h:RepTD w' F r y):RepD w' base F' ρ' H' (bZ fr r) y:=by
 cases h with
 |one t y h=>exact .one _ _ (uD (.p fr t y (h.weak hF)))
 |agg ts ys h=>
  refine .agg _ _ ⟨by simpa using h.1,λi c hi=> ?_⟩;simp only [List.getElem?_map,Option.map_eq_some_iff]at hi;obtain⟨t,t1,rfl⟩:=hi;obtain⟨y,y1,y2⟩:=h.2 i t t1;exact⟨y,y1,uD (.p fr t y (y2.weak hF))⟩
theorem uK{w':World}{F:Nat->Prop}{ρ':Nat->Nat}{H':ak}{ds:List D}{ys:List Value}(hl:ds.length=ys.length)(h:∀(i:Nat) d,ds[i]? =some d->∃y,ys[i]? =some y/\RepD w' base F ρ' H' d y):RepD w' base F ρ' H' (.tup ds) (.tuple ys.toArray):=
 .tup ds _ (λi=>ys.getD i .nilFunc) (by simpa using hl) (λi d hi=>by obtain⟨y,y1,y2⟩:=h i d hi;simp [List.getD_eq_getElem?_getD,y1])
  (λi d hi=>by obtain⟨y,y1,y2⟩:=h i d hi;simpa [List.getD_eq_getElem?_getD,y1]using y2)
theorem Fh{w':World}{F:Nat->Prop}{F':Nat->Prop}{ρ':Nat->Nat}{H':ak}{fr:Bool}(hF:∀b,Frs F' base fr b->F b){rs:List TD}{y:Value}(h:lf w' F rs y):RepD w' base F' ρ' H' (iF (rs.map (bZ fr))) y:=by
 have hds:∀ys,gO w' F rs ys->RepD w' base F' ρ' H' (.tup (rs.map (bZ fr))) (.tuple ys.toArray):=λys h=>
  uK (by simpa using h.1) λi d hi=>by
   simp only [List.getElem?_map,Option.map_eq_some_iff]at hi;obtain⟨t,t1,rfl⟩:=hi;obtain⟨y,y1,y2⟩:=h.2 i t t1;exact⟨y,y1,lg hF y2⟩
 unfold lf at h;split at h
 .exact lg hF h
 .rename_i hne;obtain⟨ys,rfl,h⟩:=h
  have:iF (rs.map (bZ fr))= .tup (rs.map (bZ fr)):=by
   match rs,hne with
   | [],_=>rfl
   | [r],hne=>exact absurd rfl (hne r)
   |r::r2::l,_=>rfl
  rw [this];exact hds ys h
end
def Enters(P:Program)(k:FuncId):Prop:=∃fn c,P.funcs[k]? =some fn/\(fn.name== "runtime.NumGoroutine")=false/\fn.body=some c
theorem nO{P:Program}{k:FuncId}(h:Enters P k)(args:Array Value)(w:World):(callFunc k args).run P w= .ok (.enter k args) w:=by
 obtain⟨fn,c,h1,h2,h3⟩:=h;have h2':¬fn.name= "runtime.NumGoroutine" :=by simpa using h2
 simp [callFunc,program,Sem.run,h1,h2',h3]
section
variable {P : Program} {w : World} {base : Nat} {F0 : Nat → Prop} {ρ : Nat → Nat} {H : ak}
theorem qn{t:Tmp->Option D}{a:Act}{F:Nat->Prop}(T:RelG w base F ρ H t a){c:Call}{k:FuncId}{args:List D}(h:cr c (ay t)=some (k,args))(hk:Enters P k)(ty:TypeId):
  ∃ys:List Value,(do let d<-resolve a.eval c ty;invoke d.target d.args:Sem Next).run P w= .ok (.enter k ys.toArray) w/\args.length=ys.length/\∀(i:Nat) d,args[i]? =some d->∃y,ys[i]? =some y/\RepD w base F ρ H d y:=by
 unfold cr at h;split at h
 .rename_i f hf;simp only [zbB,zbE]at h;obtain⟨ds,h1,df,h2,h3⟩:=h;obtain⟨g1,g2⟩:=mr T _ _ h1;have hfr:=T.opnd h2;have hmap:c.args.map a.eval=(c.args.toList.map a.eval).toArray:=by apply Array.ext';simp
  split at h3
  .rename_i fr q first cap;split at h3
   .rename_i hz;simp only [zsI,Prod.mk.injEq]at h3;obtain⟨rfl,rfl⟩:=h3;have hv:=cq (x:= .func (.func q) first cap) hfr rfl;have hz1:first=#[]:=Array.eq_empty_of_size_eq_zero hz.1;have hz2:cap=#[]:=Array.eq_empty_of_size_eq_zero hz.2;subst hz1 hz2;refine⟨c.args.toList.map a.eval,?_,by simpa using g1,g2⟩
    have hr:(do let d<-resolve a.eval c ty;invoke d.target d.args:Sem Next)=callFunc q (c.args.map a.eval):=by
     unfold resolve;rw [hf];simp only [hv];show callFunc q (#[]++c.args.map a.eval++ #[])=_;simp
    rw [hr,hmap];exact nO hk _ w
   .simp at h3
  .rename_i q first cap;simp only [zsI,Prod.mk.injEq]at h3;obtain⟨rfl,rfl⟩:=h3;generalize hv:a.eval f=vf at hfr
   cases hfr with
   |one cc y hc=>
    cases hc with
    |clo fn first cap v1 v2 y1 y2 l1 l2 e1 e2 r1 r2=>
     refine⟨v1.toList++c.args.toList.map a.eval++v2.toList,?_,by simp [l1,l2,g1],λi d hi=> ?_⟩
     .have hr:(do let d<-resolve a.eval c ty;invoke d.target d.args:Sem Next)=callFunc q (v1++c.args.map a.eval++v2):=by
       unfold resolve;rw [hf];simp only [hv];rfl
      rw [hr,hmap]
      have:v1++(c.args.toList.map a.eval).toArray++v2=(v1.toList++c.args.toList.map a.eval++v2.toList).toArray:=by apply Array.ext';simp
      rw [this];exact nO hk _ w
     .have hl0:(first.map D.one).length=v1.toList.length:=by simp [l1]
      have hl1:(first.map D.one++ds).length=(v1.toList++c.args.toList.map a.eval).length:=by simp [l1,g1]
      rw [List.getElem?_append]at hi ⊢;rw [hl1]at hi;split at hi
      .rename_i hlt;rw [if_pos hlt];rw [List.getElem?_append]at hi ⊢;rw [hl0]at hi;split at hi
       .rename_i hlt2;rw [if_pos hlt2];simp only [List.getElem?_map,Option.map_eq_some_iff]at hi;obtain⟨cx,c1,rfl⟩:=hi;exact⟨y1 i,by rw [Array.getElem?_toList];exact e1 i cx c1,.one _ _ (r1 i cx c1)⟩
       .rename_i hlt2;rw [if_neg hlt2];exact g2 _ d hi
      .rename_i hlt;rw [if_neg hlt];simp only [List.getElem?_map,Option.map_eq_some_iff]at hi;obtain⟨cx,c1,rfl⟩:=hi;exact⟨y2 _,by rw [Array.getElem?_toList];exact e2 _ cx c1,.one _ _ (r2 _ cx c1)⟩
  .simp at h3
 .simp at h
end
end Ev
end
end Go.Proofs.Ytkmbihigeeclbaa
