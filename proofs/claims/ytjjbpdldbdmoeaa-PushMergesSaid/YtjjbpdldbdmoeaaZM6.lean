/- Texts of a claim, joined. -/
import Derived.Test.YtjjbpdldbdmoeaaZM5
import Derived.Deep.RegionLaw
set_option linter.unusedVariables false
set_option linter.unusedSimpArgs false
namespace Go.Proofs.Ytjjbpdldbdmoeaa
noncomputable section
open Go.RowKit Go.Lib Go.Sort
namespace Hp
theorem Oo:(Try.prog.info? 97).map (λi=>(i.zero,i.size,i.bytes))=some (some (.agg #[.int .i64 0,.slice none 0 0]),2,32):=by kernel_rfl
theorem ou{P:Program}{e:TypeId}{z:Value}{s b:Nat}(h:(P.info? e).map (λi=>(i.zero,i.size,i.bytes))=some (some z,s,b)):∃i,P.info? e=some i/\i.zero=some z/\i.size=s/\i.bytes=b:=by
 obtain⟨i,hi,he⟩:=Option.map_eq_some_iff.1 h;simp at he;exact⟨i,hi,he.1,he.2.1,he.2.2⟩
theorem zk(l:List Hd):∀u∈bX l,u.oneCell'=true:=by
 induction l with
 |nil=>intro u hu;simp [bX]at hu
 |cons h l ih=>
  intro u hu;rw [eu]at hu;rcases List.mem_append.1 hu with hu|hu
  .simp only [enc,List.mem_cons,List.not_mem_nil,or_false]at hu;rcases hu with rfl|rfl<;>rfl
  .exact ih u hu
theorem nu{w:World}{base n:Nat}{e:TypeId}{s:Nat}{v:Value}{xs:List Value}(h:w.ownsRow base e s v n xs):∃a c,v= .slice a n c/\(a=none->n=0/\c=0):=by
 rcases h.2 with⟨e,h0⟩|⟨g,cap,cur,e,_⟩
 .subst h0;exact⟨none,0,e,λ_=>⟨rfl,rfl⟩⟩
 .exact⟨some ⟨g,0,none⟩,cap,e,λh=>by cases h⟩
structure OkF(F:Nat->Prop)(base:Nat)(w:World):Prop where
 lo:∀k,k<base->F k
 hi:∀k,F k->k<w.heap.size
theorem OkF.le{F:Nat->Prop}{base:Nat}{w:World}(h:OkF F base w):base<=w.heap.size:=by
 rcases Nat.eq_zero_or_pos base with e|e
 .omega
 .have:=h.hi _ (h.lo (base - 1) (by omega));omega
def Kp(F:Nat->Prop)(w w':World):Prop:=Below 0 w w'/\∀k,F k->k<w.heap.size->w'.heap[k]? =w.heap[k]?
theorem Kp.refl(F:Nat->Prop)(w:World):Kp F w w:=⟨Below.refl _ _,λ_ _ _=>rfl⟩
theorem Kp.size{F:Nat->Prop}{w w':World}(h:Kp F w w'):w.heap.size<=w'.heap.size:=h.1.size
theorem Kp.trans{F:Nat->Prop}{w w' w2:World}(h:Kp F w w')(h2:Kp F w' w2):Kp F w w2:=⟨h.1.trans h2.1,λk hf hk=>(h2.2 k hf (Nat.lt_of_lt_of_le hk h.size)).trans (h.2 k hf hk)⟩
theorem Kp.of_below{F:Nat->Prop}{w w':World}(h:Below w.heap.size w w'):Kp F w w':=⟨⟨h.os,h.tape,h.output,h.size,λk hk=>by omega⟩,λk _ hk=>h.block k hk⟩
theorem Kp.of_grown{F:Nat->Prop}{w w':World}{row:Option Nat}(hg:w.grownBy w' row)(hr:∀k,row=some k->¬F k):Kp F w w':=⟨⟨hg.os,hg.tape,hg.output,hg.size,λk hk=>by omega⟩,λk hf hk=>hg.block k hk (λe=>hr k e.symm hf)⟩
theorem OkF.mono{F:Nat->Prop}{base:Nat}{w w':World}(h:OkF F base w)(hb:w.heap.size<=w'.heap.size):OkF F base w':=⟨h.lo,λk hf=>Nat.lt_of_lt_of_le (h.hi k hf) hb⟩
theorem Kp.bel{F:Nat->Prop}{base:Nat}{w w':World}(h:Kp F w w')(hz:OkF F base w):Below base w w':=⟨h.1.os,h.1.tape,h.1.output,h.1.size,λk hk=>h.2 k (hz.lo k hk) (by have:=hz.le;omega)⟩
theorem Good.kp{F:Nat->Prop}{w w':World}{base:Nat}{hs:List Hd}(h:Good w base hs)(hz:OkF F base w)(hb:Kp F w w'):Good w' base hs:=h.below hz.le (hb.bel hz)
def QH(F:Nat->Prop)(w:World)(base Q:Nat)(hs:List Hd):Prop:=¬F Q/\∃a c,CellsAt w Q 93 #[.slice a hs.length c]/\w.ownsRow base 97 2 (.slice a hs.length c) hs.length (bX hs)/\∀g,(Value.slice a hs.length c).ownBlock=some g->g≠Q/\¬F g
theorem Pi{base:Nat}{w W W':World}{row:Option Nat}(h:Below base w W)(hg:W.grownBy W' row)(hr:∀k,row=some k->base<=k)(hb:base<=W.heap.size):Below base w W':=h.trans ⟨hg.os,hg.tape,hg.output,hg.size,λk hk=>hg.block k (by omega) (λe=>by have:=hr k e.symm;omega)⟩
theorem dm{α:Type}(l:List α)(x:α):(l++ [x]).length=l.length+1:=by simp
theorem eV{w w':World}{base n:Nat}{e:TypeId}{s:Nat}{v:Value}{xs:List Value}(h:w.ownsRow base e s v n xs)(hb:Below w.heap.size w w'):w'.ownsRow base e s v n xs:=h.kept (dO hb none) (Classical.em _)
theorem oS{P:Program}{ops:Array Oper}{o:Oper}{a:Act}{w:World}{K:Act->World->Prop}{Q:Exit->Act->World->Prop}{E:Prop}
  (hg:o.guard=none) (d x:Operand) (dT sT:TypeId) (hop:o.op=Op.call {callee:=Callee.builtin Builtin.append,args:=#[d,x],argTypes:=#[dT,sT]})
  (v u:Value) (hd:a.eval d=v) (hx:a.eval x=u) {v':Value} {w':World} (hr:(Builtin.append_ #[dT,sT] o.type #[v,u]).run P w= .ok v' w') (hK:K (a.put o.dst v') w'):
  if Region.wanted o (yielded ops a.tmps)=true then Oper.wp P o a w K Q else E:=by
 have hw:Region.wanted o (yielded ops a.tmps)=true:=by simp [Region.wanted,hg]
 rw [if_pos hw];unfold Oper.wp;simp [execOp,hop,resolve,invoke,builtin,hd,hx,hr,Result.andThen];exact hK
set_option maxRecDepth 100000 in
set_option maxHeartbeats 1000000 in
theorem xA(F:Nat->Prop)(base Q:Nat)(hs:List Hd)(x:Hd)(w:World)(h:QH F w base Q hs)(hzF:OkF F base w)(hl:hs.length<=100000):
  Calls Try.prog 125 #[.pointer (some ⟨Q,0,none⟩),.iface 97 (HV x)] w λe w'=>e= .returned (.tuple #[])/\QH F w' base Q (hs++ [x])/\Kp F w w':=by
 have hz:=hzF.le;obtain⟨hbQ,a,c,hC,hown,hne⟩:=h;have q0:w.cell? ⟨Q,0,none⟩=some (.slice a hs.length c):=hC.cell 0;have kQ:=Has.of hC.lt;have hQlt:=hC.lt;obtain⟨i0,hi0,hz0,hz1,hz2⟩:=ou Oo
 have hAP:∀W,(W=w.drew.alloc (.cells #[.int .i64 x.k,.slice x.a x.l.length x.c] 97)∨W=(w.alloc (.cells #[.int .i64 x.k,.slice x.a x.l.length x.c] 97)).drew)->∃a' c' w',(Builtin.append_ #[91,91] 91 #[.slice a hs.length c,.slice (some ⟨w.heap.size,0,none⟩) 1 1]).run Try.prog W= .ok (.slice a' (hs.length+1) c') w'/\w'.ownsRow base 97 2 (.slice a' (hs.length+1) c') (hs.length+1) (bX (hs++ [x]))/\(∀g,(Value.slice a' (hs.length+1) c').ownBlock=some g->g≠Q/\¬F g)/\CellsAt w' Q 93 #[.slice a hs.length c]/\Kp F w w':=λW hW=>by
  have hB:Below w.heap.size w W:=by
   rcases hW with rfl|rfl
   .exact bla (Lq (Below.refl _ _)) _
   .exact Lq (bla (Below.refl _ _) _)
  have hX:CellsAt W w.heap.size 97 #[.int .i64 x.k,.slice x.a x.l.length x.c]:=by
   have h0:CellsAt (w.alloc (.cells #[.int .i64 x.k,.slice x.a x.l.length x.c] 97)) w.heap.size 97 #[.int .i64 x.k,.slice x.a x.l.length x.c]:=World.alloc_heap_new w _;rcases hW with rfl|rfl
   .exact h0
   .exact h0
  have hzW:base<=W.heap.size:=Nat.le_trans hz hB.size
  obtain⟨v',w',h1,h2,h3,_,h5⟩:=run_append_own_at (P:=Try.prog) (w:=W) base 91 91 97 i0 (.agg #[.int .i64 0,.slice none 0 0]) 2 32 Try.underlying91 hi0 hz0 hz1 hz2 rfl (by decide) _ hs.length (bX hs) (eV hown hB) ⟨w.heap.size,0,none⟩ 1 1 (bX [x]) rfl (λj u hj=>by
   rw [sI,hX.cell];have hj2:j<2:=by have:=(List.getElem?_eq_some_iff.1 hj).1;simpa [bX,enc]using this
   rcases(show j=0∨j=1 by omega)with rfl|rfl
   .exact hj
   .exact hj) (zk [x]) (by unfold maxLen;omega) (by omega) hzW
  obtain⟨a',c',rfl,_⟩:=nu h2;have hoW:∀k,(Value.slice a hs.length c).ownBlock=some k->base<=k/\k<W.heap.size:=(eV hown hB).lt;refine⟨a',c',w',h1,by rw [qJ];exact h2,λg hg=> ?_,(hC.below hB).grown h3 (λe=>(hne Q e.symm).1 rfl),?_⟩
  .rcases h5 with h5|h5
   .exact hne g (h5.symm.trans hg)
   .rw [h5]at hg
    have:W.heap.size=g:=Option.some.inj hg
    have hsz:=hB.size;refine⟨by omega,λhf=> ?_⟩
    have:=hzF.hi g hf
    omega
  .exact(Kp.of_below hB).trans (Kp.of_grown h3 (λk hk=>(hne k hk).2))
 have hTA:∀W:World,(Instr.typeAssert (.iface 97 (.agg #[.int .i64 x.k,.slice x.a x.l.length x.c])) 20 97 false).run Try.prog W= .ok (.agg #[.int .i64 x.k,.slice x.a x.l.length x.c]) W:=λ_=>by kernel_rfl
 go_enter Try.func125,Try.ntmps125
 go_wp2
 go_region_law (obtain⟨a',c',w3,hrun,hown3,hne3,hC3,hB3⟩:=hAP _ (by first|exact .inl rfl|exact .inr rfl);have t0:=hC3.cell 0;have tf:=hC3.frozen 0;have tk:=Has.of hC3.lt;refine oS rfl (.tmp 8) (.tmp 11) 91 91 rfl _ _ (by simp [Act.eval,Act.put]) (by simp [Act.eval,Act.put]) hrun ?_)
 all_goals go_wp2
 all_goals go_end0
 all_goals (
  refine⟨rfl,⟨hbQ,a',c',?_,?_,?_⟩,hB3.trans (Kp.of_grown (aK w3 Q 0 _) (λk e=>by cases e;exact hbQ))⟩
  .rw [dm];simpa using hC3.set 0 (.slice a' (hs.length+1) c')
  .rw [dm];exact hown3.kept (aK w3 Q 0 _) (.inr (λe=>(hne3 Q e).1 rfl))
  .rw [dm]
   exact hne3)
end Hp
end
noncomputable section
open Go.RowKit Go.Lib Go.Sort
namespace Hp
theorem Fr{w:World}{base g n c:Nat}{hs:List Hd}{x:Hd}(h:w.ownsRow base 97 2 (.slice (some ⟨g,0,none⟩) (n+1) c) (n+1) (bX (hs++ [x])))(hn:hs.length=n):w.ownsRow base 97 2 (.slice (some ⟨g,0,none⟩) n c) n (bX hs):=by
 rcases h.2 with⟨e,h0⟩|⟨g',cap,cur,e,hbg,hg,hnc,hcm,hcs,htake⟩
 .omega
 .cases e;refine⟨by rw [kR,hn],.inr ⟨g,c,cur,rfl,hbg,hg,by omega,hcm,hcs,?_⟩⟩
  have:=congrArg (List.take (n*2)) htake
  rw [List.take_take,show min (n*2) ((n+1)*2)=n*2 by omega,qJ]at this;rw [this,List.take_left' (by rw [kR,hn])]
set_option maxRecDepth 100000 in
set_option maxHeartbeats 1000000 in
theorem zl(F:Nat->Prop)(base Q:Nat)(hs:List Hd)(x:Hd)(w:World)(h:QH F w base Q (hs++ [x]))(hzF:OkF F base w)(hl:hs.length<=100000):
  Calls Try.prog 124 #[.pointer (some ⟨Q,0,none⟩)] w λe w'=>e= .returned (.iface 97 (HV x))/\QH F w' base Q hs/\Kp F w w':=by
 have hz:=hzF.le;obtain⟨hbQ,a,c,hC,hown,hne⟩:=h;rw [dm]at hC hown hne;obtain⟨n,hn⟩:∃n,n=hs.length:=⟨_,rfl⟩;rw [<-hn]at hC hown hne hl;have hr:=vr hown (by rw [dm,hn])
 have hgo:∃g,a=some ⟨g,0,none⟩/\n+1<=c:=by
  rcases hown.2 with⟨e,h0⟩|⟨g',cap,cur,e,hbg,hg,hnc,hcm,hcs,htake⟩
  .omega
  .cases e;exact⟨g',rfl,hnc⟩
 obtain⟨g,rfl,hnc⟩:=hgo;obtain⟨b,e,hb,x0,x1⟩:=hr n (by rw [dm];omega);cases e;rw [sI]at x0 x1;rw [hn,BO,<-hn]at x0 x1;have q0:w.cell? ⟨Q,0,none⟩=some (.slice (some ⟨g,0,none⟩) (n+1) c):=hC.cell 0;have qf:=hC.frozen 0;have kQ:=Has.of hC.lt;have kg:=Has.of hb;have hlt:((n:Nat):Int)<((n:Nat):Int)+1:=by omega
 have HN:=Lib.hid hn;have hQlt:=hC.lt;clear hn hr
 go_enter Try.func124,Try.ntmps124
 go_wp2
 go_ret
 have hnn:=HN.out;have hC1:CellsAt (w.setCell ⟨Q,0,none⟩ (.slice (some ⟨g,0,none⟩) n c)) Q 93 #[.slice (some ⟨g,0,none⟩) n c]:=by simpa using hC.set 0 (.slice (some ⟨g,0,none⟩) n c)
 have hB1:Kp F w (w.setCell ⟨Q,0,none⟩ (.slice (some ⟨g,0,none⟩) n c)):=Kp.of_grown (aK w Q 0 _) (λk e=>by cases e;exact hbQ);have ho1:=(Fr hown hnn.symm).kept (aK w Q 0 (.slice (some ⟨g,0,none⟩) n c)) (.inr (λe=>(hne Q e).1 rfl));generalize w.setCell ⟨Q,0,none⟩ (.slice (some ⟨g,0,none⟩) n c)=W at hC1 hB1 ho1 ⊢;have hA:Below W.heap.size W (W.alloc (.cells #[.int .i64 x.k,.slice x.a x.l.length x.c] 97)):=bla (Below.refl _ _) _;refine⟨rfl,⟨hbQ,some ⟨g,0,none⟩,c,?_,?_,?_⟩,hB1.trans (Kp.of_below hA)⟩
 .rw [<-hnn];exact hC1.below hA
 .rw [<-hnn];exact ho1.alloc _
 .rw [<-hnn];exact hne
end Hp
end
noncomputable section
open Go.RowKit Go.Lib Go.Sort
namespace Hp
theorem Lr(n Q:Nat)(w:World):(method (n+1) 89 (.pointer (some ⟨Q,0,none⟩)) "Push").run Try.prog w= .ok (125,.pointer (some ⟨Q,0,none⟩)) w:=by kernel_rfl
theorem Oq(n Q:Nat)(w:World):(method (n+1) 89 (.pointer (some ⟨Q,0,none⟩)) "Pop").run Try.prog w= .ok (124,.pointer (some ⟨Q,0,none⟩)) w:=by kernel_rfl
theorem vt{l:List FieldStep}{a b:Nat}{c:Bool}(h:l.map (λs=>(s.struct,s.index,s.deref))= [(a,b,c)]):l= [⟨a,b,c⟩]:=by
 match l,h with
 | [⟨x,y,z⟩],h=>
  simp only [List.map_cons,List.map_nil,List.cons.injEq,Prod.mk.injEq,and_true]at h;obtain⟨rfl,rfl,rfl⟩:=h;rfl
theorem Fs:(Array.find? (λx=>x.name== "Len") Try.t89.methods).map (λm=>(m.path.toList.map (λs=>(s.struct,s.index,s.deref)),m.func))=some ([(93,0,true)],some (34,false)):=by kernel_rfl
theorem IB{Q:Nat}{w:World}{a:Option Addr}{k c:Nat}(h:w.cell? ⟨Q,0,none⟩=some (.slice a k c))(n:Nat):(method (n+1) 89 (.pointer (some ⟨Q,0,none⟩)) "Len").run Try.prog w= .ok (34,.slice a k c) w:=by
 obtain⟨m,h1,h2⟩:=Option.map_eq_some_iff.1 Fs;obtain⟨h3,h4⟩:=Prod.mk.inj h2;have h5:=vt h3;unfold method
 go_simp
 unfold follow
 go_simp
 unfold Place.get
 go_simp
 unfold follow receiverAt Place.get
 go_simp
theorem BP:(Array.find? (λx=>x.name== "Less") Try.t89.methods).map (λm=>(m.path.toList.map (λs=>(s.struct,s.index,s.deref)),m.func))=some ([(93,0,true)],some (123,false)):=by kernel_rfl
theorem zm{Q:Nat}{w:World}{a:Option Addr}{k c:Nat}(h:w.cell? ⟨Q,0,none⟩=some (.slice a k c))(n:Nat):(method (n+1) 89 (.pointer (some ⟨Q,0,none⟩)) "Less").run Try.prog w= .ok (123,.slice a k c) w:=by
 obtain⟨m,h1,h2⟩:=Option.map_eq_some_iff.1 BP;obtain⟨h3,h4⟩:=Prod.mk.inj h2;have h5:=vt h3;unfold method
 go_simp
 unfold follow
 go_simp
 unfold Place.get
 go_simp
 unfold follow receiverAt Place.get
 go_simp
theorem BQ:(Array.find? (λx=>x.name== "Swap") Try.t89.methods).map (λm=>(m.path.toList.map (λs=>(s.struct,s.index,s.deref)),m.func))=some ([(93,0,true)],some (126,false)):=by kernel_rfl
theorem qN{Q:Nat}{w:World}{a:Option Addr}{k c:Nat}(h:w.cell? ⟨Q,0,none⟩=some (.slice a k c))(n:Nat):(method (n+1) 89 (.pointer (some ⟨Q,0,none⟩)) "Swap").run Try.prog w= .ok (126,.slice a k c) w:=by
 obtain⟨m,h1,h2⟩:=Option.map_eq_some_iff.1 BQ;obtain⟨h3,h4⟩:=Prod.mk.inj h2;have h5:=vt h3;unfold method
 go_simp
 unfold follow
 go_simp
 unfold Place.get
 go_simp
 unfold follow receiverAt Place.get
 go_simp
theorem QH.cell{F:Nat->Prop}{w:World}{base Q:Nat}{hs:List Hd}(h:QH F w base Q hs):∃a c,w.cell? ⟨Q,0,none⟩=some (.slice a hs.length c):=by
 obtain⟨_,a,c,hC,_⟩:=h;exact⟨a,c,hC.cell 0⟩
theorem QH.below{F:Nat->Prop}{w w':World}{base Q:Nat}{hs:List Hd}(h:QH F w base Q hs)(hb:Below w.heap.size w w'):QH F w' base Q hs:=by
 obtain⟨h1,a,c,hC,ho,hn⟩:=h;exact⟨h1,a,c,hC.below hb,eV ho hb,hn⟩
theorem xB{F:Nat->Prop}{w:World}{base Q:Nat}{hs:List Hd}{a:Option Addr}{c:Nat}(h:QH F w base Q hs)(hq:w.cell? ⟨Q,0,none⟩=some (.slice a hs.length c))(hg:Good w base hs)(hz:OkF F base w){i k:Nat}(hi:i<hs.length)(hk:k<hs.length)(hl:hs.length<=100000):Calls Try.prog 123 #[.slice a hs.length c,.int .i64 i,.int .i64 k] w λe w'=>e= .returned (.bool (lt (at_ hs i).key (at_ hs k).key))/\QH F w' base Q hs/\Kp F w w'/\Below w.heap.size w w':=by
 obtain⟨h1,a',c',hC,ho,hn⟩:=h;have e:=(hC.cell 0).symm.trans hq;cases e;refine(zi a c hs i k base w (vr ho rfl) hg hz.le hi hk hl).mono ?_;rintro e w' ⟨rfl,hb⟩;exact⟨rfl,⟨h1,a,c,hC.below hb,eV ho hb,hn⟩,Kp.of_below hb,hb⟩
theorem xC{F:Nat->Prop}{w:World}{base Q:Nat}{hs:List Hd}{a:Option Addr}{c:Nat}(h:QH F w base Q hs)(hq:w.cell? ⟨Q,0,none⟩=some (.slice a hs.length c))(hz:OkF F base w){i k:Nat}(hi:i<hs.length)(hk:k<hs.length)(hl:hs.length<=100000):Calls Try.prog 126 #[.slice a hs.length c,.int .i64 i,.int .i64 k] w λe w'=>e= .returned (.tuple #[])/\QH F w' base Q (jF hs i k)/\Kp F w w':=by
 obtain⟨h1,a',c',hC,ho,hn⟩:=h;have e:=(hC.cell 0).symm.trans hq;cases e
 have hgo:∃g,a=some ⟨g,0,none⟩/\base<=g:=by
  rcases ho.2 with⟨e,h0⟩|⟨g',cap,cur,e,hbg,hg,hnc,hcm,hcs,htake⟩
  .omega
  .cases e;exact⟨g',rfl,hbg⟩
 obtain⟨g,rfl,hbg⟩:=hgo;refine(zj base g hs.length c hs i k w ho rfl hi hk hl).mono ?_;rintro e w' ⟨rfl,ho2,hg2⟩;refine⟨rfl,⟨h1,some ⟨g,0,none⟩,c,?_,?_,?_⟩,Kp.of_grown hg2 (λk e=>by cases e;exact(hn g rfl).2)⟩
 .rw [gM];exact hC.grown hg2 (λe=>(hn Q e.symm).1 rfl)
 .rw [gM];exact ho2
 .rw [gM];exact hn
theorem ju{w:World}{base:Nat}{hs ks:List Hd}(h:Good w base hs)(hp:ks.Perm hs):Good w base ks:=λx hx=>h x (hp.mem_iff.1 hx)
end Hp
end
noncomputable section
open Go.RowKit Go.Lib Go.Sort
namespace Hp
theorem HD{j:Nat}(h:0<j):(((j:Int) - 1).tdiv 2)=((par j:Nat):Int):=by
 unfold par;rw [Int.tdiv_eq_ediv_of_nonneg (by omega)];omega
set_option maxRecDepth 100000 in
set_option maxHeartbeats 1000000 in
theorem Ft(F:Nat->Prop)(base Q:Nat)(n:Nat)(j0:Nat)(hs:List Hd)(w:World)(h:QH F w base Q hs)(hg:Good w base hs)(hz:OkF F base w)(hn:hs.length=n)(hl:n<=100000)(hj:j0<n)(hu:Up Hd.key n (at_ hs) j0):
  Calls Try.prog 72 #[.iface 89 (.pointer (some ⟨Q,0,none⟩)),.int .i64 j0] w λe w'=>e= .returned (.tuple #[])/\∃ks,ks.Perm hs/\Heap Hd.key n (at_ ks)/\QH F w' base Q ks/\Kp F w w':=by
 go_enter Try.func72,Try.ntmps72
 go_wp2
 go_loopw [1] (λy wr=>∃(j:Nat) (ks:List Hd),y= .int .i64 (j:Int)/\j<n/\ks.Perm hs/\ks.length=n/\QH F wr base Q ks/\Up Hd.key n (at_ ks) j/\Kp F w wr) (λy _=>(intOf y).toNat)
 case atStart=>exact⟨j0,hs,rfl,hj,List.Perm.refl _,hn,h,hu,Kp.refl _ _⟩
 case round=>
  clear hu h hj;obtain⟨j,ks,rfl,hj,hp,hkn,h,hu,hb⟩:=hrel;have hgk:=(ju hg hp).kp hz hb;have hzr:OkF F base wr:=hz.mono hb.size;by_cases hj0:j=0
  .subst hj0
   go_wp2
   go_end0
   exact⟨rfl,ks,hp,hu.done (.inl rfl),h,hb⟩
  .have hq:=HD (show 0<j by omega);have hpl:=fS (show 0<j by omega);obtain⟨a,c,hc⟩:=h.cell;have hme:=zm hc;have hjk:j<ks.length:=by omega
   have hpk:par j<ks.length:=by omega
   have hlk:ks.length<=100000:=by omega
   have HK:=Lib.hid hkn;clear hkn
   go_wp2_with fail
   refine(xB h hc hgk hzr (i:=j) (k:=par j) hjk hpk hlk).mono ?_;rintro e w1 ⟨rfl,h1,hb1,hb1'⟩;obtain⟨a1,c1,hc1⟩:=h1.cell;have hms:=qN hc1;clear hme hc;have hz1:OkF F base w1:=hzr.mono hb1.size
   cases hlt:lt (at_ ks j).key (at_ ks (par j)).key with
   |false=>
    go_wp2
    go_end0
    exact⟨rfl,ks,hp,hu.done (.inr hlt),h1,hb.trans hb1⟩
   |true=>
    go_wp2_with fail
    refine(xC h1 hc1 hz1 (i:=par j) (k:=j) hpk hjk hlk).mono ?_;rintro e w2 ⟨rfl,h2,hb2⟩
    go_wp2
    refine⟨⟨par j,jF ks (par j) j,by first|rfl|simp,by omega,(gN hpk hjk).trans hp,by rw [gM];exact HK.out,h2,?_,(hb.trans hb1).trans hb2⟩,by simp [intOf];omega⟩;rw [fE hpk hjk];exact hu.step (by omega) hj hlt
end Hp
end
noncomputable section
open Go.RowKit Go.Lib Go.Sort
namespace Hp
set_option maxRecDepth 100000 in
set_option maxHeartbeats 1000000 in
theorem qO(F:Nat->Prop)(base Q:Nat)(hs:List Hd)(x:Hd)(w:World)(h:QH F w base Q hs)(hg:Good w base (hs++ [x]))(hz:OkF F base w)(hl:hs.length<100000)(hH:Heap Hd.key hs.length (at_ hs)):
  Calls Try.prog 33 #[.iface 89 (.pointer (some ⟨Q,0,none⟩)),.iface 97 (HV x)] w λe w'=>e= .returned (.tuple #[])/\∃ks,ks.Perm (hs++ [x])/\Heap Hd.key ks.length (at_ ks)/\QH F w' base Q ks/\Kp F w w':=by
 have hmp:=λn=>Lr n Q w;have hl2:=Nat.le_of_lt hl
 go_enter Try.func33,Try.ntmps33
 go_wp2_with fail
 refine(xA F base Q hs x w h hz hl2).mono ?_;rintro e w1 ⟨rfl,h1,hb1⟩;obtain⟨a1,c1,hc1⟩:=h1.cell;have hml:=IB hc1;have hz1:OkF F base w1:=hz.mono hb1.size
 go_wp2_with fail
 refine(jt a1 (hs.length+1) c1 w1).mono ?_;rintro e w2 ⟨rfl,rfl⟩;have ej:(((hs.length+1:Nat)):Int) - 1=hs.length:=by omega
 have ej2:(((hs.length+1:Nat)):Int)<=100000:=by omega
 clear hml hmp
 go_wp2_with fail
 have hHu:Up Hd.key (hs.length+1) (at_ (hs++ [x])) hs.length:=(hH.congr (λk hk=>(tz hk).symm)).up;refine(Ft F base Q (hs.length+1) hs.length (hs++ [x]) _ h1 (hg.kp hz hb1) hz1 (dm hs x) hl (Nat.lt_succ_self _) hHu).mono ?_;rintro e w2 ⟨rfl,ks,hp,hk,hq,hb⟩
 go_wp2
 go_end0
 refine⟨rfl,ks,hp,?_,hq,hb1.trans hb⟩;rw [hp.length_eq,dm];exact hk
end Hp
end
noncomputable section
open Go.RowKit Go.Lib Go.Sort
namespace Hp
theorem Pj{α:Type}{key:α->Int×Int}{f:Nat->α}{n i:Nat}(h:n<=2*i+2):∀k,0<k->k<n->par k=i->le (key (f (2*i+1))) (key (f k)):=λk k0 kn kp=>by
 rcases(vq k0).1 kp with rfl|rfl
 .exact le_refl _
 .omega
theorem min2{α:Type}{key:α->Int×Int}{f:Nat->α}{n i:Nat}(h:lt (key (f (2*i+2))) (key (f (2*i+1)))=false):∀k,0<k->k<n->par k=i->le (key (f (2*i+1))) (key (f k)):=λk k0 kn kp=>by
 rcases(vq k0).1 kp with rfl|rfl
 .exact le_refl _
 .exact h
theorem Pk{α:Type}{key:α->Int×Int}{f:Nat->α}{n i:Nat}(h:lt (key (f (2*i+2))) (key (f (2*i+1)))=true):∀k,0<k->k<n->par k=i->le (key (f (2*i+2))) (key (f k)):=λk k0 kn kp=>by
 rcases(vq k0).1 kp with rfl|rfl
 .exact le_of_lt h
 .exact le_refl _
theorem jv{F:Nat->Prop}{w:World}{base Q:Nat}{hs:List Hd}{a:Option Addr}{c m:Nat}{I K:Int}(h:QH F w base Q hs)(hq:w.cell? ⟨Q,0,none⟩=some (.slice a hs.length c))(hg:Good w base hs)(hz:OkF F base w){i k:Nat}(hi:i<hs.length)(hk:k<hs.length)(hl:hs.length<=100000)(hI:I=(i:Int))(hK:K=(k:Int))(hm:hs.length=m):Calls Try.prog 123 #[.slice a m c,.int .i64 I,.int .i64 K] w λe w'=>e= .returned (.bool (lt (at_ hs i).key (at_ hs k).key))/\QH F w' base Q hs/\Kp F w w'/\Below w.heap.size w w':=by
 subst hI hK hm;exact xB h hq hg hz hi hk hl
theorem jw{F:Nat->Prop}{w:World}{base Q:Nat}{hs:List Hd}{a:Option Addr}{c m:Nat}{I K:Int}(h:QH F w base Q hs)(hq:w.cell? ⟨Q,0,none⟩=some (.slice a hs.length c))(hz:OkF F base w){i k:Nat}(hi:i<hs.length)(hk:k<hs.length)(hl:hs.length<=100000)(hI:I=(i:Int))(hK:K=(k:Int))(hm:hs.length=m):Calls Try.prog 126 #[.slice a m c,.int .i64 I,.int .i64 K] w λe w'=>e= .returned (.tuple #[])/\QH F w' base Q (jF hs i k)/\Kp F w w':=by
 subst hI hK hm;exact xC h hq hz hi hk hl
set_option maxRecDepth 100000 in
set_option maxHeartbeats 2000000 in
theorem zn(F:Nat->Prop)(base Q:Nat)(n:Nat)(hs:List Hd)(w:World)(h:QH F w base Q hs)(hg:Good w base hs)(hz:OkF F base w)(hn:n<hs.length)(hl:hs.length<=100000)(hd:Down Hd.key n (at_ hs) 0):
  Calls Try.prog 73 #[.iface 89 (.pointer (some ⟨Q,0,none⟩)),.int .i64 0,.int .i64 n] w λe w'=>(∃b,e= .returned (.bool b))/\∃ks,ks.Perm hs/\at_ ks n=at_ hs n/\Heap Hd.key n (at_ ks)/\QH F w' base Q ks/\Kp F w w':=by
 have hnI:((n:Nat):Int)<=100000:=by omega
 go_enter Try.func73,Try.ntmps73
 go_wp2
 go_loopw [7] (λy wr=>∃(i:Nat) (ks:List Hd),y= .int .i64 (i:Int)/\i<=n/\ks.Perm hs/\at_ ks n=at_ hs n/\QH F wr base Q ks/\Down Hd.key n (at_ ks) i/\Kp F w wr) (λy _=>n - (intOf y).toNat)
 case atStart=>exact⟨0,hs,rfl,Nat.zero_le _,List.Perm.refl _,rfl,h,hd,Kp.refl _ _⟩
 case round=>
  clear hd h;obtain⟨i,ks,rfl,hi,hp,hat,h,hd,hb⟩:=hrel;have hgk:=(ju hg hp).kp hz hb;have hzr:OkF F base wr:=hz.mono hb.size;have hiI:((i:Nat):Int)<=n:=by omega
  have hkn:=hp.length_eq;have hnk:n<ks.length:=by omega
  have hlk:ks.length<=100000:=by omega
  clear hn hl;have HK:=Lib.hid hkn;clear hkn;by_cases hj1:n<=2*i+1
  .have hj1I:((n:Nat):Int)<=2*((i:Nat):Int)+1:=by omega
   go_wp2
   go_ret
   exact⟨⟨_,rfl⟩,ks,hp,hat,hd.done (λk k0 kn kp=>by rcases(vq k0).1 kp with rfl|rfl<;>omega),h,hb⟩
  .have hj1I:2*((i:Nat):Int)+1<n:=by omega
   have hik:i<ks.length:=by omega
   have hjk:2*i+1<ks.length:=by omega
   obtain⟨a,c,hc⟩:=h.cell;have hme:=zm hc;by_cases hj2:n<=2*i+2
   .have hj2I:((n:Nat):Int)<=2*((i:Nat):Int)+2:=by omega
    have hm:=Pj (key:=Hd.key) (f:=at_ ks) hj2
    go_wp2_with fail
    refine(jv h hc hgk hzr (i:=2*i+1) (k:=i) hjk hik hlk (by omega) (by omega) rfl).mono ?_;rintro e w2 ⟨rfl,h2,hb2,hb2'⟩;obtain⟨a2,c2,hc2⟩:=h2.cell;have hms:=qN hc2;clear hme hc hb2';have hz2:OkF F base w2:=hzr.mono hb2.size
    cases hlt2:lt (at_ ks (2*i+1)).key (at_ ks i).key with
    |false=>
     go_wp2
     go_ret
     exact⟨⟨_,rfl⟩,ks,hp,hat,hd.done (λk k0 kn kp=>le_trans (ns hlt2) (hm k k0 kn kp)),h2,hb.trans hb2⟩
    |true=>
     go_wp2_with fail
     refine(jw h2 hc2 hz2 (i:=i) (k:=2*i+1) hik hjk hlk (by omega) (by omega) rfl).mono ?_;rintro e w3 ⟨rfl,h3,hb3⟩
     go_wp2
     refine⟨⟨2*i+1,jF ks i (2*i+1),by first|rfl|simp|(congr 1),by omega,(gN hik hjk).trans hp,?_,h3,?_,(hb.trans hb2).trans hb3⟩,by simp [intOf];omega⟩
     .rw [fE hik hjk];unfold swp;rw [if_neg (by omega),if_neg (by omega)];exact hat
     .rw [fE hik hjk];exact hd.step (by omega) (by omega) (by unfold par;omega) hm hlt2
   .have hj2I:2*((i:Nat):Int)+2<n:=by omega
    have hj2k:2*i+2<ks.length:=by omega
    go_wp2_with fail
    refine(jv h hc hgk hzr (i:=2*i+2) (k:=2*i+1) hj2k hjk hlk (by omega) (by omega) rfl).mono ?_;rintro e w1 ⟨rfl,h1,hb1,hb1'⟩;have hgk1:=hgk.kp hzr hb1;have hbb:=hb.trans hb1;obtain⟨a1,c1,hc1⟩:=h1.cell;clear hme hc hb1' h hgk hb hb1;have hme:=zm hc1;have hz1:OkF F base w1:=hz.mono hbb.size
    cases hlt:lt (at_ ks (2*i+2)).key (at_ ks (2*i+1)).key with
    |false=>
     have hm:=min2 (key:=Hd.key) (f:=at_ ks) (n:=n) hlt
     go_wp2_with fail
     refine(jv h1 hc1 hgk1 hz1 (i:=2*i+1) (k:=i) hjk hik hlk (by omega) (by omega) rfl).mono ?_;rintro e w2 ⟨rfl,h2,hb2,hb2'⟩;obtain⟨a2,c2,hc2⟩:=h2.cell;have hms:=qN hc2;clear hme hc1 hb2';have hz2:OkF F base w2:=hz1.mono hb2.size
     cases hlt2:lt (at_ ks (2*i+1)).key (at_ ks i).key with
     |false=>
      go_wp2
      go_ret
      exact⟨⟨_,rfl⟩,ks,hp,hat,hd.done (λk k0 kn kp=>le_trans (ns hlt2) (hm k k0 kn kp)),h2,hbb.trans hb2⟩
     |true=>
      go_wp2_with fail
      refine(jw h2 hc2 hz2 (i:=i) (k:=2*i+1) hik hjk hlk (by omega) (by omega) rfl).mono ?_;rintro e w3 ⟨rfl,h3,hb3⟩
      go_wp2
      refine⟨⟨2*i+1,jF ks i (2*i+1),by first|rfl|simp|(congr 1),by omega,(gN hik hjk).trans hp,?_,h3,?_,(hbb.trans hb2).trans hb3⟩,by simp [intOf];omega⟩
      .rw [fE hik hjk];unfold swp;rw [if_neg (by omega),if_neg (by omega)];exact hat
      .rw [fE hik hjk];exact hd.step (by omega) (by omega) (by unfold par;omega) hm hlt2
    |true=>
     have hm:=Pk (key:=Hd.key) (f:=at_ ks) (n:=n) hlt
     go_wp2_with fail
     refine(jv h1 hc1 hgk1 hz1 (i:=2*i+2) (k:=i) hj2k hik hlk (by omega) (by omega) rfl).mono ?_;rintro e w2 ⟨rfl,h2,hb2,hb2'⟩;obtain⟨a2,c2,hc2⟩:=h2.cell;have hms:=qN hc2;clear hme hc1 hb2';have hz2:OkF F base w2:=hz1.mono hb2.size
     cases hlt2:lt (at_ ks (2*i+2)).key (at_ ks i).key with
     |false=>
      go_wp2
      go_ret
      exact⟨⟨_,rfl⟩,ks,hp,hat,hd.done (λk k0 kn kp=>le_trans (ns hlt2) (hm k k0 kn kp)),h2,hbb.trans hb2⟩
     |true=>
      go_wp2_with fail
      refine(jw h2 hc2 hz2 (i:=i) (k:=2*i+2) hik hj2k hlk (by omega) (by omega) rfl).mono ?_;rintro e w3 ⟨rfl,h3,hb3⟩
      go_wp2
      refine⟨⟨2*i+2,jF ks i (2*i+2),by first|rfl|simp|(congr 1),by omega,(gN hik hj2k).trans hp,?_,h3,?_,(hbb.trans hb2).trans hb3⟩,by simp [intOf];omega⟩
      .rw [fE hik hj2k];unfold swp;rw [if_neg (by omega),if_neg (by omega)];exact hat
      .rw [fE hik hj2k];exact hd.step (by omega) (by omega) (by unfold par;omega) hm hlt2
end Hp
end
noncomputable section
open Go.RowKit Go.Lib Go.Sort
namespace Hp
theorem xD(F:Nat->Prop)(base Q:Nat)(n:Nat)(N:Int)(hN:N=(n:Int))(hs:List Hd)(w:World)(h:QH F w base Q hs)(hg:Good w base hs)(hz:OkF F base w)(hn:n<hs.length)(hl:hs.length<=100000)(hd:Down Hd.key n (at_ hs) 0):
  Calls Try.prog 73 #[.iface 89 (.pointer (some ⟨Q,0,none⟩)),.int .i64 0,.int .i64 N] w λe w'=>(∃b,e= .returned (.bool b))/\∃ks,ks.Perm hs/\at_ ks n=at_ hs n/\Heap Hd.key n (at_ ks)/\QH F w' base Q ks/\Kp F w w':=by
 subst hN;exact zn F base Q n hs w h hg hz hn hl hd
theorem HE{ks:List Hd}{n:Nat}(h:ks.length=n+1):∃ms,ks=ms++ [at_ ks n]/\ms.length=n:=by
 refine⟨ks.take n,?_,by rw [List.length_take];omega⟩;rw [at_lt (by omega)]
 have:=List.take_append_getElem (l:=ks) (i:=n) (by omega)
 rw [this,show n+1=ks.length by omega,List.take_length]
set_option maxRecDepth 100000 in
set_option maxHeartbeats 2000000 in
theorem BS(F:Nat->Prop)(base Q:Nat)(hs:List Hd)(w:World)(h:QH F w base Q hs)(hg:Good w base hs)(hz:OkF F base w)(h0:0<hs.length)(hl:hs.length<=100000)(hH:Heap Hd.key hs.length (at_ hs)):
  Calls Try.prog 35 #[.iface 89 (.pointer (some ⟨Q,0,none⟩))] w λe w'=>∃x ms,e= .returned (.iface 97 (HV x))/\(ms++ [x]).Perm hs/\(∀y∈hs,le x.key y.key)/\Heap Hd.key ms.length (at_ ms)/\QH F w' base Q ms/\Kp F w w':=by
 obtain⟨n,hn⟩:∃n,n+1=hs.length:=⟨hs.length - 1,by omega⟩;obtain⟨a,c,hc⟩:=h.cell;have hml:=IB hc;have hms:=qN hc;have hnk:n<hs.length:=by omega
 have hlI:((hs.length:Nat):Int)<=100000:=by omega
 have hlI0:(0:Int)<((hs.length:Nat):Int):=by omega
 have HK:=Lib.hid hn;clear hn
 go_enter Try.func35,Try.ntmps35
 go_wp2_with fail
 refine(jt a hs.length c w).mono ?_;rintro e w1 ⟨rfl,rfl⟩
 go_wp2_with fail
 refine(jw h hc hz (i:=0) (k:=n) h0 hnk hl (by rfl) (by have:=HK.out;omega) rfl).mono ?_;rintro e w2 ⟨rfl,h2,hb2⟩;have hz2:OkF F base w2:=hz.mono hb2.size;have hp2:=gN h0 hnk;have hg2:=(ju hg hp2).kp hz hb2;have hl2:=gM hs 0 n
 have ha2:at_ (jF hs 0 n) n=at_ hs 0:=by
  rw [fE h0 hnk];unfold swp;by_cases e:n=0
  .rw [if_pos e,e]
  .rw [if_neg e,if_pos rfl]
 have hd2:Down Hd.key n (at_ (jF hs 0 n)) 0:=by
  rw [fE h0 hnk]
  have:=hH
  rw [<-HK.out]at this;exact this.down rfl
 clear hml hms hc;have HS:=Lib.hid hl2;clear hl2;generalize jF hs 0 n=js at h2 hp2 hg2 ha2 hd2 HS
 go_wp2_with fail
 refine(xD F base Q n _ (by have:=HK.out;omega) js w2 h2 hg2 hz2 (by rw [HS.out];exact hnk) (by rw [HS.out];exact hl) hd2).mono ?_;rintro e w3 ⟨⟨b,rfl⟩,ks,hp3,ha3,hh3,h3,hb3⟩;obtain⟨ms,hks,hmn⟩:=HE (hp3.length_eq.trans (HS.out.trans HK.out.symm));rw [ha3,ha2]at hks;subst hks;have hz3:OkF F base w3:=hz2.mono hb3.size;have hmp:=λk=>Oq k Q w3;have HM:=Lib.hid hmn;have hml:ms.length<=100000:=by omega
 clear hmn
 go_wp2_with fail
 refine(zl F base Q ms (at_ hs 0) w3 h3 hz3 hml).mono ?_;rintro e w4 ⟨rfl,h4,hb4⟩
 go_wp2
 go_ret
 refine⟨at_ hs 0,ms,rfl,hp3.trans hp2,λy hy=> ?_,?_,h4,(hb2.trans hb3).trans hb4⟩
 .obtain⟨k,hk,rfl⟩:=List.mem_iff_getElem.1 hy
  have:=hH.root k hk
  rw [at_lt hk]at this;exact this
 .rw [HM.out];exact hh3.congr (λk hk=>tz (by rw [HM.out];exact hk))
end Hp
end
noncomputable section
open Go.RowKit Go.Lib Go.Sort
namespace Hp
@[go_sem] abbrev PV (p:Int×Int):Value:= .agg #[.int .i64 p.1,.int .u64 p.2]
@[go_sem] abbrev SV (s:Sm3):Value:= .agg #[.int .i64 s.1,.int .i64 s.2.1,.int .u64 s.2.2]
def se(s:Sm3):List Value:= [.int .i64 s.1,.int .i64 s.2.1,.int .u64 s.2.2]
def cellsS(l:List Sm3):List Value:=l.flatMap se
theorem ew(h:Sm3)(l:List Sm3):cellsS (h::l)=se h++cellsS l:=rfl
theorem zo(l m:List Sm3):cellsS (l++m)=cellsS l++cellsS m:=by simp [cellsS]
theorem zp(l:List Sm3):(cellsS l).length=l.length*3:=by
 induction l with
 |nil=>rfl
 |cons h l ih=>rw [ew,List.length_append,ih];simp [se];omega
theorem cellsS_at:∀(l:List Sm3) (i j:Nat),i<l.length->j<3->(cellsS l)[i*3+j]? =(se (at_ l i))[j]?
 | [],i,j,h,hj=>by simp at h
 |x::l,0,j,h,hj=>by
  rw [ew,List.getElem?_append_left (by simp [se];omega),show 0*3+j=j by omega];rfl
 |x::l,i+1,j,h,hj=>by
  rw [ew,List.getElem?_append_right (by simp [se];omega)]
  have:=cellsS_at l i j (by simpa using h) hj
  rw [show(i+1)*3+j - (se x).length=i*3+j by simp [se];omega,this];rfl
theorem zq(l:List Sm3):∀u∈cellsS l,u.oneCell'=true:=by
 induction l with
 |nil=>intro u hu;simp [cellsS]at hu
 |cons h l ih=>
  intro u hu;rw [ew]at hu;rcases List.mem_append.1 hu with hu|hu
  .simp only [se,List.mem_cons,List.not_mem_nil,or_false]at hu;rcases hu with rfl|rfl|rfl<;>rfl
  .exact ih u hu
theorem qP:∀(l:List Sm3) (i:Nat) (x:Sm3),(((cellsS l).set (i*3) (.int .i64 x.1)).set (i*3+1) (.int .i64 x.2.1)).set (i*3+2) (.int .u64 x.2.2)=cellsS (l.set i x)
 | [],i,x=>by simp [cellsS]
 |y::l,0,x=>rfl
 |y::l,i+1,x=>by
  have ih:=qP l i x;rw [List.set_cons_succ,ew,ew,<-ih,show(i+1)*3=i*3+3 by omega];rfl
theorem Ot:(Try.prog.info? 69).map (λi=>(i.zero,i.size,i.bytes))=some (some (.agg #[.int .i64 0,.int .i64 0,.int .u64 0]),3,24):=by kernel_rfl
theorem qH{l:List Value}{i:Nat}{v:Value}(h:l[i]? =some v):l.set i v=l:=by
 apply List.ext_getElem?;intro j;rw [List.getElem?_set];by_cases e:i=j
 .subst e;rw [if_pos rfl,if_pos (List.getElem?_eq_some_iff.1 h).1,h]
 .rw [if_neg e]
theorem BT{cur:Array Value}{L:List Sm3}{n:Nat}(h:cur.toList.take (n*3)=cellsS L)(i:Nat)(hi:i<L.length)(x:Sm3)(hx:(at_ L i).1=x.1):((cur.setIfInBounds (i*3+1) (.int .i64 x.2.1)).setIfInBounds (i*3+2) (.int .u64 x.2.2)).toList.take (n*3)=cellsS (L.set i x):=by
 rw [Array.toList_setIfInBounds,Array.toList_setIfInBounds,List.take_set,List.take_set,h,<-qP,qH (i:=i*3)]
 have:=cellsS_at L i 0 hi (by omega)
 rw [Nat.add_zero]at this;rw [this,<-hx];rfl
def putL(A:Int×Int->Int×Int->Int×Int)(L:List Sm3)(s:Sm3):List Sm3:=
 if L≠[]/\(at_ L (L.length - 1)).1=s.1 then L.set (L.length - 1) (s.1,A (at_ L (L.length - 1)).2 s.2)else L++ [s]
theorem iz{w:World}{ops:Array Oper}{rest:List Oper}{o:Oper}{a:Act}{Q:Exit->Act->World->Prop}(hgd:o.guard=none)(s x:Operand)
  (ho:o.op= .call {callee:= .builtin .append,args:=#[s,x],argTypes:=#[32,32]}) (base:Nat) (v:Value) (n:Nat) (L:List Sm3) (hs:a.eval s=v) (hown:w.ownsRow base 69 3 v n (cellsS L))
  (X:Nat) (y:Sm3) (hx:a.eval x= .slice (some ⟨X,0,none⟩) 1 1) (hr:CellsAt w X 69 #[.int .i64 y.1,.int .i64 y.2.1,.int .u64 y.2.2]) (hnm:n<=100000) (hbase:base<=w.heap.size)
  (h:∀v' w',w'.ownsRow base 69 3 v' (n+1) (cellsS (L++ [y]))->w.grownBy w' v.ownBlock->(v'.ownBlock=v.ownBlock∨v'.ownBlock=some w.heap.size)->wpList Try.prog ops Q rest (a.put o.dst v') w'):wpList Try.prog ops Q (o::rest) a w:=by
 obtain⟨i0,hi0,hz0,hz1,hz2⟩:=ou Ot
 refine wpList_append_own_at w hgd s x 32 ho base 69 i0 (.agg #[.int .i64 0,.int .i64 0,.int .u64 0]) 3 24 Try.underlying32 hi0 hz0 hz1 hz2 rfl (by decide) v n (cellsS L) hs hown ⟨X,0,none⟩ 1 1 (cellsS [y]) hx rfl ?_ (zq [y]) (by unfold maxLen;omega) (by omega) hbase
   λv' w' hown' hg _ hat=>h v' w' (by rw [zo];exact hown') hg hat
 intro j u hj;rw [sI,hr.cell];have hj3:j<3:=by have:=(List.getElem?_eq_some_iff.1 hj).1;simpa [cellsS,se]using this
 rcases(show j=0∨j=1∨j=2 by omega)with rfl|rfl|rfl
 .exact hj
 .exact hj
 .exact hj
set_option maxRecDepth 100000 in
set_option maxHeartbeats 2000000 in
theorem BU(base:Nat)(r:Int)(A:Int×Int->Int×Int->Int×Int)(L:List Sm3)(s:Sm3)(a:Option Addr)(n c:Nat)(w:World)(hn:n=L.length)(hown:w.ownsRow base 69 3 (.slice a n c) n (cellsS L))(hz:base<=w.heap.size)(hl:n<=100000)
  (hAdd:∀x y W,Below w.heap.size w W->Calls Try.prog 27 #[.int .i64 r,PV x,PV y] W λe w'=>e= .returned (PV (A x y))/\Below W.heap.size W w'):
  Calls Try.prog 36 #[.int .i64 r,.slice a n c,SV s] w λe w'=>∃v,e= .returned v/\w'.ownsRow base 69 3 v (putL A L s).length (cellsS (putL A L s))/\w.grownBy w' (Value.slice a n c).ownBlock/\(v.ownBlock=(Value.slice a n c).ownBlock∨∃k,v.ownBlock=some k/\w.heap.size<=k):=by
 have HA:=Lib.hid hAdd;have HN:=Lib.hid hn;clear hAdd hn;have hlI:((n:Nat):Int)<=100000:=by omega
 obtain⟨SB,hSB⟩:∃SB,SB=w.heap.size:=⟨_,rfl⟩;have hC1:CellsAt (w.alloc (.cells #[.int .i64 s.1,.int .i64 s.2.1,.int .u64 s.2.2] 69)) w.heap.size 69 #[.int .i64 s.1,.int .i64 s.2.1,.int .u64 s.2.2]:=World.alloc_heap_new w _;have hB1:Below w.heap.size w (w.alloc (.cells #[.int .i64 s.1,.int .i64 s.2.1,.int .u64 s.2.2] 69)):=bla (Below.refl _ _) _;rw [<-hSB]at hC1;have HSB:=Lib.hid hSB;clear hSB
 go_enter Try.func36,Try.ntmps36
 by_cases h0:n=0
 .subst h0
  go_wp2
  rw [<-HSB.out];generalize w.alloc (.cells #[.int .i64 s.1,.int .i64 s.2.1,.int .u64 s.2.2] 69)=W1 at hC1 hB1 ⊢;have s0:W1.cell? ⟨SB,0,none⟩=some (.int .i64 s.1):=hC1.cell 0;have s1:W1.cell? ⟨SB,1,none⟩=some (.int .i64 s.2.1):=hC1.cell 1;have s2:W1.cell? ⟨SB,2,none⟩=some (.int .u64 s.2.2):=hC1.cell 2;have kS:=Has.of hC1.lt
  go_quiet (fail)
  go_wp2_with (refine iz rfl _ _ rfl base (.slice a 0 c) 0 L rfl (eV hown (show Below w.heap.size w _ from bla (bld hB1) _)) _ s rfl (World.alloc_heap_new _ _) (by omega) (Nat.le_trans hz (bla (bld hB1) _).size) ?_;intro v' w3 hown3 hg3 hat3)
  go_ret
  have hp:putL A L s=L++ [s]:=if_neg (λh=>h.1 (List.eq_nil_of_length_eq_zero HN.out.symm));rw [hp,dm,<-HN.out];exact⟨v',rfl,hown3,(dO (bla (bld hB1) _) _).trans hg3,hat3.elim .inl (λe=> .inr ⟨_,e,(bla (bld hB1) _).size⟩)⟩
 .obtain⟨m,rfl⟩:∃m,n=m+1:=⟨n - 1,by omega⟩;obtain⟨g,cap,cur,e,hbg,hg,hnc,hcm,hcs,htake⟩:=hown.2.resolve_left (λh=>h0 h.2);cases e;have hC:CellsAt w g 69 cur:=hg;have hml:m<L.length:=by rw [<-HN.out];omega
  have g0:=hown.cells (g:=g) rfl (m*3) _ ((cellsS_at L m 0 hml (by omega)).trans rfl);have g1:=hown.cells (g:=g) rfl (m*3+1) _ ((cellsS_at L m 1 hml (by omega)).trans rfl);have g2:=hown.cells (g:=g) rfl (m*3+2) _ ((cellsS_at L m 2 hml (by omega)).trans rfl);rw [sI]at g0 g1 g2;have hgl:=hC.lt;have hm0:¬((m:Nat):Int)<0:=by omega
  have hm1:decide (((m:Nat):Int)<0)=false:=decide_eq_false hm0;have hmi:((m:Nat):Int)<((m:Nat):Int)+1:=by omega
  have hlm:at_ L m=at_ L (L.length - 1):=by rw [<-HN.out];rfl
  generalize hy:at_ L m=y at g0 g1 g2 hlm;have HY:=Lib.hid hy;have HLM:=Lib.hid hlm;clear hy hlm
  go_wp2
  rw [<-HSB.out];generalize w.alloc (.cells #[.int .i64 s.1,.int .i64 s.2.1,.int .u64 s.2.2] 69)=W1 at hC1 hB1 ⊢;have s0:W1.cell? ⟨SB,0,none⟩=some (.int .i64 s.1):=hC1.cell 0;have s1:W1.cell? ⟨SB,1,none⟩=some (.int .i64 s.2.1):=hC1.cell 1;have s2:W1.cell? ⟨SB,2,none⟩=some (.int .u64 s.2.2):=hC1.cell 2;have kS:=Has.of hC1.lt;replace g0:W1.cell? ⟨g,m*3,none⟩=some (.int .i64 y.1):=(hB1.cell (p:=⟨g,m*3,none⟩) hgl).trans g0;replace g1:W1.cell? ⟨g,m*3+1,none⟩=some (.int .i64 y.2.1):=(hB1.cell (p:=⟨g,m*3+1,none⟩) hgl).trans g1;replace g2:W1.cell? ⟨g,m*3+2,none⟩=some (.int .u64 y.2.2):=(hB1.cell (p:=⟨g,m*3+2,none⟩) hgl).trans g2;have kg:=Has.of (hC.below hB1).lt;by_cases hAt:y.1=s.1
  .have HAT:=Lib.hid hAt;rw [hAt]at g0;clear hAt
   go_quiet (fail)
   go_wp2
   have hB2:Below w.heap.size w (W1.drewN nq):=bld hB1;have hC2:CellsAt (W1.drewN nq) g 69 cur:=hC.below hB2;have hS2:CellsAt (W1.drewN nq) SB 69 #[.int .i64 s.1,.int .i64 s.2.1,.int .u64 s.2.2]:=hC1;replace s1:(W1.drewN nq).cell? ⟨SB,1,none⟩=some (.int .i64 s.2.1):=s1;replace s2:(W1.drewN nq).cell? ⟨SB,2,none⟩=some (.int .u64 s.2.2):=s2;replace g1:(W1.drewN nq).cell? ⟨g,m*3+1,none⟩=some (.int .i64 y.2.1):=g1;replace g2:(W1.drewN nq).cell? ⟨g,m*3+2,none⟩=some (.int .u64 y.2.2):=g2;clear s0 g0 kS kg hC1 hB1;generalize W1.drewN nq=W2 at hB2 hC2 hS2 s1 s2 g1 g2 ⊢;have kS:=Has.of hS2.lt;have kg:=Has.of hC2.lt;have lS:=hS2.lt;have lg:=hC2.lt;have hkp:∀W,Below W2.heap.size W2 W->W.cell? ⟨g,m*3+1,none⟩=some (.int .i64 y.2.1)/\W.cell? ⟨g,m*3+2,none⟩=some (.int .u64 y.2.2)/\W.cell? ⟨SB,1,none⟩=some (.int .i64 s.2.1)/\W.cell? ⟨SB,2,none⟩=some (.int .u64 s.2.2):=λW hW=>⟨(hW.cell (p:=⟨g,m*3+1,none⟩) lg).trans g1,(hW.cell (p:=⟨g,m*3+2,none⟩) lg).trans g2,(hW.cell (p:=⟨SB,1,none⟩) lS).trans s1,(hW.cell (p:=⟨SB,2,none⟩) lS).trans s2⟩;have bd:Below W2.heap.size W2 W2.drew:=⟨rfl,rfl,rfl,Nat.le_refl _,λ_ _=>rfl⟩;have bdn:∀k,Below W2.heap.size W2 (W2.drewN k):=λk=>bld (Below.refl _ _)
   go_region_with (first|(go_at_call 27;refine(HA.out y.2 s.2 _ (by first|exact hB2.trans (bd.mono hB2.size)|exact hB2.trans ((bdn _).mono hB2.size)|exact hB2)).mono ?_;rintro e w3 ⟨rfl,hb3⟩;have hBX:Below W2.heap.size W2 w3:=(by first|exact bd.trans hb3|exact(bdn _).trans hb3|exact hb3);have hC3:=hC2.below hBX;have tf1:=hC3.frozen (m*3+1);have tf2:=(hC3.set (m*3+1) (.int .i64 (A y.2 s.2).1)).frozen (m*3+2);have tf3:=hC3.frozen (m*3+2);have kg3:=Has.of hC3.lt;obtain⟨u1,z1⟩:∃u,w3.cell? ⟨g,m*3+1,none⟩=some u:=⟨_,(hkp _ hBX).1⟩;obtain⟨u2,z2⟩:∃u,w3.cell? ⟨g,m*3+2,none⟩=some u:=⟨_,(hkp _ hBX).2.1⟩))
   all_goals (
    go_wp2
    go_ret
    have hLm:L.length - 1=m:=by rw [<-HN.out];rfl
    have hp:putL A L s=L.set m (s.1,A y.2 s.2):=by
     unfold putL;rw [<-HLM.out,hLm];exact if_pos ⟨λe=>by rw [e]at hml;simp at hml,HAT.out⟩
    have hG:=((dO (hB2.trans (hBX.mono hB2.size)) (some g)).trans (aK w3 g (m*3+1) (.int .i64 (A y.2 s.2).1))).trans (aK _ g (m*3+2) (.int .u64 (A y.2 s.2).2));refine⟨.slice (some ⟨g,0,none⟩) (m+1) c,rfl,?_,hG,.inl rfl⟩;rw [hp,List.length_set,<-HN.out]
    exact⟨by rw [zp,List.length_set,HN.out],.inr ⟨g,c,_,rfl,hbg,((hC3.set (m*3+1) (.int .i64 (A y.2 s.2).1)).set (m*3+2) (.int .u64 (A y.2 s.2).2)),hnc,hcm,by simp only [Array.size_setIfInBounds];exact hcs,BT htake m hml (s.1,A y.2 s.2) (by rw [HY.out];exact HAT.out)⟩⟩)
  .have hb:(y.1 !=s.1)=true:=by simpa using hAt
   go_quiet (fail)
   go_wp2_with (refine iz rfl _ _ rfl base (.slice (some ⟨g,0,none⟩) (m+1) c) (m+1) L rfl (eV hown (show Below w.heap.size w _ from bla (bld hB1) _)) _ s rfl (World.alloc_heap_new _ _) (by omega) (Nat.le_trans hz (bla (bld hB1) _).size) ?_;intro v' w3 hown3 hg3 hat3)
   go_ret
   have hp:putL A L s=L++ [s]:=if_neg (λh=>hAt (by rw [HLM.out];exact h.2));rw [hp,dm,<-HN.out];exact⟨v',rfl,hown3,(dO (bla (bld hB1) _) _).trans hg3,hat3.elim .inl (λe=> .inr ⟨_,e,(bla (bld hB1) _).size⟩)⟩
end Hp
end
noncomputable section
open Go.RowKit Go.Lib Go.Sort
namespace Hp
def tot(hs:List Hd):Nat:=(hs.map (λh=>h.l.length)).sum
theorem qQ{a b:List Hd}(h:a.Perm b):tot a=tot b:=by
 induction h with
 |nil=>rfl
 |cons x _ ih=>unfold tot at*;simp [ih]
 |swap x y l=>unfold tot;simp;omega
 |trans _ _ h1 h2=>exact h1.trans h2
theorem xE(a:List Hd)(x:Hd):tot (a++ [x])=tot a+x.l.length:=by simp [tot]
inductive Ext:List Hd->List (Int×Sm3)->Prop
 |nil:Ext [] []
 |last {hs ms:List Hd} {x:Hd} {s:Sm3} {seq:List (Int×Sm3)}:(ms++ [x]).Perm hs->x.l= [s]->(∀y∈hs,le x.key y.key)->Ext ms seq->Ext hs ((x.k,s)::seq)
 |more {hs ms ks:List Hd} {x x':Hd} {s:Sm3} {t:List Sm3} {seq:List (Int×Sm3)}:(ms++ [x]).Perm hs->x.l=s::t->t≠[]->x'.k=x.k->x'.l=t->ks.Perm (ms++ [x'])->(∀y∈hs,le x.key y.key)->Ext ks seq->Ext hs ((x.k,s)::seq)
theorem Ext.perm{hs ks:List Hd}{seq:List (Int×Sm3)}(h:Ext hs seq)(hp:hs.Perm ks):Ext ks seq:=by
 cases h with
 |nil=>rw [hp.symm.eq_nil];exact .nil
 |last h1 h2 h3 h4=>exact .last (h1.trans hp) h2 (λy hy=>h3 y (hp.mem_iff.2 hy)) h4
 |more h1 h2 h3 h4 h5 h6 h7 h8=>exact .more (h1.trans hp) h2 h3 h4 h5 h6 (λy hy=>h7 y (hp.mem_iff.2 hy)) h8
def outOf(A:Int×Int->Int×Int->Int×Int)(seq:List (Int×Sm3)):List Sm3:=seq.foldl (λo x=>putL A o x.2) []
theorem outOf_snoc(A:Int×Int->Int×Int->Int×Int)(d:List (Int×Sm3))(x:Int×Sm3):outOf A (d++ [x])=putL A (outOf A d) x.2:=by simp [outOf]
theorem putL_len(A:Int×Int->Int×Int->Int×Int)(L:List Sm3)(s:Sm3):(putL A L s).length<=L.length+1/\0<(putL A L s).length:=by
 unfold putL;split
 .rename_i h;rw [List.length_set];exact⟨by omega,List.length_pos_iff.2 h.1⟩
 .simp
theorem Fu{F:Nat->Prop}{w w':World}{base n:Nat}{e:TypeId}{s:Nat}{v:Value}{xs:List Value}(h:w.ownsRow base e s v n xs)(hF:∀k,v.ownBlock=some k->F k)(hb:Kp F w w'):w'.ownsRow base e s v n xs:=by
 refine⟨h.1,?_⟩;rcases h.2 with h0|⟨g,cap,cur,e,hbg,hg,hr⟩
 .exact .inl h0
 .subst e;have hlt:=(h.lt g rfl).2;exact .inr ⟨g,cap,cur,rfl,hbg,(hb.2 g (hF g rfl) hlt).trans hg,hr⟩
def FV(base:Nat)(v:Value):Nat->Prop:=λk=>k<base∨v.ownBlock=some k
theorem FV.ok{w:World}{base n:Nat}{e:TypeId}{s:Nat}{v:Value}{xs:List Value}(h:w.ownsRow base e s v n xs)(hz:base<=w.heap.size):OkF (FV base v) base w:=⟨λk hk=> .inl hk,λk hk=>by
 rcases hk with hk|hk
 .omega
 .exact(h.lt k hk).2⟩
theorem QH.lt{F:Nat->Prop}{w:World}{base Q:Nat}{hs:List Hd}(h:QH F w base Q hs):Q<w.heap.size:=by
 obtain⟨_,a,c,hC,_⟩:=h;exact hC.lt
theorem QH.put{w w':World}{base Q:Nat}{hs:List Hd}{v v':Value}(h:QH (FV base v) w base Q hs)(hg:w.grownBy w' v.ownBlock)(hv:v'.ownBlock=v.ownBlock∨∃k,v'.ownBlock=some k/\w.heap.size<=k):QH (FV base v') w' base Q hs:=by
 have hq:=h.lt;obtain⟨h1,a,c,hC,ho,hn⟩:=h
 have key:∀g,g<w.heap.size->¬FV base v g->¬FV base v' g:=λg hg hf hf'=>by
  rcases hf' with h|h
  .exact hf (.inl h)
  .rcases hv with e|⟨k,e,hk⟩
   .exact hf (.inr (e▸h))
   .rw [e]at h;cases h;omega
 refine⟨key Q hq h1,a,c,hC.grown hg (λe=>h1 (.inr e.symm)),ho.kept hg ?_,λg hgo=>⟨(hn g hgo).1,key g (ho.lt g hgo).2 (hn g hgo).2⟩⟩;by_cases e:(Value.slice a hs.length c).ownBlock=none
 .exact .inl e
 .refine .inr (λe2=> ?_);obtain⟨g,hgv⟩:=Option.ne_none_iff_exists'.1 e;exact(hn g hgv).2 (.inr (e2.symm.trans hgv))
theorem QH.wide{F G:Nat->Prop}{w:World}{base Q:Nat}{hs:List Hd}(h:QH F w base Q hs)(hFG:∀k,G k->F k):QH G w base Q hs:=by
 obtain⟨h1,a,c,hC,ho,hn⟩:=h;exact⟨λg=>h1 (hFG _ g),a,c,hC,ho,λg hg=>⟨(hn g hg).1,λe=>(hn g hg).2 (hFG _ e)⟩⟩
theorem RdS.tail{w:World}{base:Nat}{b:Addr}{s:Sm3}{t:List Sm3}(h:RdS w base (some b) (s::t)):RdS w base (some (b.add 3)) t:=by
 intro i hi;obtain⟨b',e,hl,c0,c1,c2⟩:=h (i+1) (by simp;omega);cases e
 have ad:∀k,(b.add 3).add k=b.add (3+k):=λk=>by
  unfold Addr.add;by_cases hk:k=0
  .subst hk;simp
  .simp [hk];omega
 refine⟨b.add 3,rfl,by rw [mv];exact hl,?_,?_,?_⟩
 .rw [ad,show 3+i*3=(i+1)*3 by omega];simpa using c0
 .rw [ad,show 3+(i*3+1)=(i+1)*3+1 by omega];simpa using c1
 .rw [ad,show 3+(i*3+2)=(i+1)*3+2 by omega];simpa using c2
def ne(hs:List Hd):List Hd:=hs.filter (λh=> !h.l.isEmpty)
theorem xF{hs:List Hd}{x:Hd}(h:x.l= []):ne (hs++ [x])=ne hs:=by simp [ne,h]
theorem HF{hs:List Hd}{x:Hd}(h:x.l≠[]):ne (hs++ [x])=ne hs++ [x]:=by
 have:x.l.isEmpty=false:=by simpa using h
 simp [ne,this]
theorem HG{hs:List Hd}{i:Nat}(h:i<hs.length):hs.take (i+1)=hs.take i++ [at_ hs i]:=by
 rw [at_lt h,List.take_append_getElem]
end Hp
end
noncomputable section
open Go.RowKit Go.Lib Go.Sort
namespace Hp
abbrev Evt:=Int×Sm3
def kl(x:Evt):Int×Int:=(x.2.1,x.1)
def evts(H:List Hd):List Evt:=H.flatMap (λh=>h.l.map (λs=>(h.k,s)))
def Ris(l:List Sm3):Prop:=l.Pairwise (λa b=>a.1<b.1)
theorem dP(h:Hd)(H:List Hd):evts (h::H)=h.l.map (λs=>(h.k,s))++evts H:=rfl
theorem qR(a b:List Hd):evts (a++b)=evts a++evts b:=by simp [evts]
theorem nv{a b:List Hd}(h:a.Perm b):(evts a).Perm (evts b):=by
 induction h with
 |nil=>exact .refl _
 |cons x _ ih=>rw [dP,dP];exact ih.append_left _
 |swap x y l=>
  rw [dP,dP,dP,dP,<-List.append_assoc,<-List.append_assoc];exact List.perm_append_comm.append_right _
 |trans _ _ h1 h2=>exact h1.trans h2
theorem qS{hs:List Hd}{seq:List Evt}(h:Ext hs seq):seq.Perm (evts hs):=by
 induction h with
 |nil=>exact .refl _
 | @last hs ms x s seq h1 h2 h3 h4 ih=>
  refine List.Perm.trans ?_ (nv h1);rw [qR]
  have:evts [x]= [(x.k,s)]:=by simp [evts,h2]
  rw [this];exact(ih.cons _).trans (List.perm_append_singleton _ _).symm
 | @more hs ms ks x x' s t seq h1 h2 h3 h4 h5 h6 h7 h8 ih=>
  refine List.Perm.trans ?_ (nv h1);have e1:evts [x]=(x.k,s)::t.map (λs=>(x.k,s)):=by simp [evts,h2]
  have e2:evts [x']=t.map (λs=>(x.k,s)):=by simp [evts,h5,h4]
  rw [qR,e1]
  have:=ih.trans (nv h6)
  rw [qR,e2]at this;exact(this.cons _).trans List.perm_middle.symm
theorem Aw{hs:List Hd}(hr:∀h∈hs,Ris h.l){e:Evt}(he:e∈evts hs):∃h∈hs,le h.key (kl e):=by
 unfold evts at he;rw [List.mem_flatMap]at he;obtain⟨h,hm,he⟩:=he;rw [List.mem_map]at he;obtain⟨s,hs',rfl⟩:=he;refine⟨h,hm,?_⟩;have hR:=hr h hm;unfold Hd.key kl
 cases hl:h.l with
 |nil=>rw [hl]at hs';cases hs'
 |cons a l=>
  rw [hl]at hs' hR;rw [le_iff];simp only [List.headD_cons];unfold Ris at hR;rw [List.pairwise_cons]at hR;rcases List.mem_cons.1 hs' with rfl|hm2
  .exact .inr ⟨rfl,Int.le_refl _⟩
  .exact .inl (hR.1 s hm2)
theorem zr{hs:List Hd}{seq:List Evt}(h:Ext hs seq)(hr:∀h∈hs,Ris h.l):seq.Pairwise (λa b=>le (kl a) (kl b)):=by
 have H:=h
 induction h with
 |nil=>exact .nil
 | @last hs ms x s seq h1 h2 h3 h4 ih=>
  have hp:=qS H;refine List.pairwise_cons.2 ⟨λe he=> ?_,ih (λh hm=>hr h (h1.mem_iff.1 (by simp [hm]))) h4⟩;obtain⟨h,hm,hl⟩:=Aw hr (hp.mem_iff.1 (List.mem_cons_of_mem _ he));have hk:kl (x.k,s)=x.key:=by simp [kl,Hd.key,h2]
  rw [hk];exact le_trans (h3 h hm) hl
 | @more hs ms ks x x' s t seq h1 h2 h3 h4 h5 h6 h7 h8 ih=>
  have hp:=qS H;refine List.pairwise_cons.2 ⟨λe he=> ?_,ih (λh hm=> ?_) h8⟩
  .obtain⟨h,hm,hl⟩:=Aw hr (hp.mem_iff.1 (List.mem_cons_of_mem _ he));have hk:kl (x.k,s)=x.key:=by simp [kl,Hd.key,h2]
   rw [hk];exact le_trans (h7 h hm) hl
  .rcases List.mem_append.1 (h6.mem_iff.1 hm)with hm|hm
   .exact hr h (h1.mem_iff.1 (by simp [hm]))
   .rw [List.mem_singleton.1 hm,h5]
    have:=hr x (h1.mem_iff.1 (by simp))
    rw [h2]at this;exact(List.pairwise_cons.1 this).2
theorem uniq{α:Type}{R:α->α->Prop}:∀(l m:List α),l.Perm m->l.Pairwise R->m.Pairwise R->(∀a∈l,∀b∈l,R a b->R b a->a=b)->l=m
 | [],m,hp,_,_,_=>(hp.symm.eq_nil).symm
 |a::l,m,hp,hl,hm,h=>by
  cases m with
  |nil=>exact absurd hp.eq_nil (by simp)
  |cons b m=>
   have e:a=b:=by
    rcases List.mem_cons.1 (hp.mem_iff.1 (List.mem_cons_self))with e|ha
    .exact e
    .rcases List.mem_cons.1 (hp.mem_iff.2 (List.mem_cons_self))with e|hb
     .exact e.symm
     .exact h a (List.mem_cons_self) b (List.mem_cons_of_mem _ hb) ((List.pairwise_cons.1 hl).1 b hb) ((List.pairwise_cons.1 hm).1 a ha)
   subst e;rw [uniq l m hp.cons_inv (List.pairwise_cons.1 hl).2 (List.pairwise_cons.1 hm).2 (λa ha b hb=>h a (List.mem_cons_of_mem _ ha) b (List.mem_cons_of_mem _ hb))]
def wG(x:Evt):List Evt->List Evt
 | []=> [x]
 |y::l=>if lt (kl y) (kl x)=true then y::wG x l else x::y::l
def sortE:List Evt->List Evt
 | []=> []
 |x::l=>wG x (sortE l)
theorem nz(x:Evt):∀l,(wG x l).Perm (x::l)
 | []=> .refl _
 |y::l=>by
  unfold wG;split
  .exact((nz x l).cons y).trans (.swap x y l)
  .exact .refl _
theorem sortE_perm:∀l,(sortE l).Perm l
 | []=> .refl _
 |x::l=>(nz x _).trans ((sortE_perm l).cons x)
theorem ow(x:Evt):∀l:List Evt,l.Pairwise (λa b=>le (kl a) (kl b))->(wG x l).Pairwise (λa b=>le (kl a) (kl b))
 | [],_=>by simp [wG]
 |y::l,h=>by
  have h2:=List.pairwise_cons.1 h;unfold wG;split
  .rename_i hc;refine List.pairwise_cons.2 ⟨λe he=> ?_,ow x l h2.2⟩;rcases List.mem_cons.1 ((nz x l).mem_iff.1 he)with rfl|he
   .exact le_of_lt hc
   .exact h2.1 e he
  .rename_i hc;have hc':lt (kl y) (kl x)=false:=by simpa using hc
   refine List.pairwise_cons.2 ⟨λe he=> ?_,h⟩;rcases List.mem_cons.1 he with rfl|he
   .exact hc'
   .exact le_trans hc' (h2.1 e he)
theorem sortE_sorted:∀l:List Evt,(sortE l).Pairwise (λa b=>le (kl a) (kl b))
 | []=> .nil
 |x::l=>ow x _ (sortE_sorted l)
theorem HH(H:List Hd):evts (ne H)=evts H:=by
 induction H with
 |nil=>rfl
 |cons x H ih=>
  unfold ne at*;rw [List.filter_cons]
  cases hx:x.l with
  |nil=>simp only [List.isEmpty_nil,Bool.not_true];rw [if_neg (by simp),ih,dP,hx];rfl
  |cons s t=>simp only [List.isEmpty_cons,Bool.not_false];rw [if_pos trivial,dP,ih,dP]
theorem Fv{l:List Sm3}(h:Ris l){a b:Sm3}(ha:a∈l)(hb:b∈l)(e:a.1=b.1):a=b:=by
 induction l with
 |nil=>cases ha
 |cons x l ih=>
  have h2:=List.pairwise_cons.1 h;rcases List.mem_cons.1 ha with rfl|ha'
  .rcases List.mem_cons.1 hb with rfl|hb'
   .rfl
   .have:=h2.1 b hb';omega
  .rcases List.mem_cons.1 hb with rfl|hb'
   .have:=h2.1 a ha';omega
   .exact ih h2.2 ha' hb'
theorem ext_eq{H:List Hd}{seq:List Evt}(h:Ext (ne H) seq)(hr:∀h∈H,Ris h.l)(hk:∀i,i<H.length->(at_ H i).k=(i:Int)):seq=sortE (evts H):=by
 have hp:=qS h;rw [HH]at hp;have hn:∀h∈ne H,h∈H:=λh hm=>(List.mem_filter.1 hm).1;refine uniq _ _ (hp.trans (sortE_perm _).symm) (zr h (λh hm=>hr h (hn h hm))) (sortE_sorted _) (λa ha b hb h1 h2=> ?_);have ma:=hp.mem_iff.1 ha;have mb:=hp.mem_iff.1 hb;unfold evts at ma mb;rw [List.mem_flatMap]at ma mb;obtain⟨x,hx,ma⟩:=ma;obtain⟨y,hy,mb⟩:=mb;rw [List.mem_map]at ma mb;obtain⟨s,hs,rfl⟩:=ma;obtain⟨u,hu,rfl⟩:=mb;unfold kl at h1 h2;rw [le_iff]at h1 h2;simp only at h1 h2;obtain⟨i,hi,rfl⟩:=List.mem_iff_getElem.1 hx;obtain⟨j,hj,rfl⟩:=List.mem_iff_getElem.1 hy;have ki:=hk i hi;have kj:=hk j hj;rw [at_lt hi]at ki;rw [at_lt hj]at kj;have e:i=j:=by omega
 subst e
 have:=Fv (hr _ hx) hs hu (by omega)
 rw [this]
end Hp
end
noncomputable section
namespace Ev
namespace K
open Go Go.RowKit
inductive Ty where
 |I (k:IntKind)
 |B
 |S (e:Ty)
 |U
 |C (x y:Ty)
 deriving DecidableEq,Inhabited
namespace Ty
@[reducible] def val:Ty->Type
 | .I _=>Int
 | .B=>Bool
 | .S e=>Sl e.val
 | .U=>Unit
 | .C x y=>x.val×y.val
def size:Ty->Nat
 | .U=>0
 | .C x y=>x.size+y.size
 |_=>1
def row:(t:Ty)->t.val->List T
 | .I k,x=> [iT k x]
 | .B,x=> [bT x]
 | .S e,x=> [Sl.t e.row x]
 | .U,_=> []
 | .C a b,x=>a.row x.1++b.row x.2
def zero:(t:Ty)->t.val
 | .I _=>(0:Int)
 | .B=>false
 | .S _=>⟨false,0,[]⟩
 | .U=>()
 | .C a b=>(a.zero,b.zero)
def plain:Ty->Bool
 | .S _=>false
 | .C a b=>a.plain && b.plain
 |_=>true
end Ty
def dV(t t':Ty)(x:t.val):Option t'.val:=if h:t=t' then some (h▸x)else none
inductive KC where
 |n (k:IntKind) (x:Int)
 |b (v:Bool)
 |p (tag:Nat) (P:Prop) (d:Decidable P)
 |bv (x:Bool)
 |v (x:Value)
 |nil
 |s (e:Ty) (fr:Bool) (x:Sl e.val)
 |o (e:Ty) (p:Nat)
 |m (e:Ty) (p:Nat)
 |ptr (p j:Nat)
 |pe (p:Nat) (i:Int) (j:Nat)
 |ip (e:Ty) (fr:Bool) (x:Sl e.val) (i:Int) (y:e.val) (j:Nat)
 |clo (fn:FuncId) (ps:List Nat)
 |yld (p:Nat)
inductive KD where
 |one (c:KC)
 |agg (cs:List KC)
 |tup (ds:List (Bool×List KC))
inductive KB where
 |box (cs:List KC)
 |rows (e:Ty) (ne:Bool) (l:List e.val)
 |mrows (e:Ty) (l:List e.val)
 |dead
structure KS where
 sl:List (Nat×KD)
 bl:List (Nat×KB)
 nx:Nat
structure KF where
 nt:Nat:=0
 sl:List (Nat×KD):= []
 bl:List (Nat×KB):= []
def af{α:Type}:List (Nat×α)->Nat->Option α
 | [],_=>none
 |x::r,i=>cond (Nat.beq x.1 i) (some x.2) (af r i)
def aH{α:Type}(l m:List (Nat×α))(i:Nat):Option α:=
 match af l i with
 |some a=>some a
 |none=>af m i
def fT(F:KF)(ks:KS)(i:Nat):Option KD:=aH ks.sl F.sl i
def aj(F:KF)(ks:KS)(p:Nat):Option KB:=
 match aH ks.bl F.bl p with
 |some .dead=>none
 |x=>x
def bQ(fr:Bool):(e:Ty)->e.val->List KC
 | .I k,x=> [.n k x]
 | .B,x=> [.bv x]
 | .S e,x=> [.s e fr x]
 | .U,_=> []
 | .C a b,x=>bQ fr a x.1++bQ fr b x.2
def ij(B:Nat->Option KB):(e:Ty)->KC->Option e.val
 | .I k,.n k' x=>if k=k' then some x else none
 | .B,.b v=>some v
 | .B,.p _ P d=>some (@decide P d)
 | .B,.bv x=>some x
 | .S e,.nil=>some ⟨false,0,[]⟩
 | .S e,.s e' _ x=>dV (.S e') (.S e) x
 | .S e,.o _ p=>match B p with
  |some (.rows e' _ l)=>dV (.S e') (.S e) ⟨true,e'.size,l⟩
  |_=>none
 | .S e,.m _ p=>match B p with
  |some (.mrows e' l)=>dV (.S e') (.S e) (mo e'.size l)
  |_=>none
 |_,_=>none
def dec(B:Nat->Option KB):(e:Ty)->List KC->Option e.val
 | .U,[]=>some ()
 | .C a b,cs=>(dec B a (cs.take a.size)).bind λx=>(dec B b (cs.drop a.size)).bind λy=>some (x,y)
 |e,[c]=>ij B e c
 |_,_=>none
def noB:Nat->Option KB:=λ_=>none
def frC:KC->Bool
 | .s _ fr _=>fr
 |_=>true
def mw:KC->Bool
 | .n .. | .b _| .p .. | .bv _| .v _| .nil| .s .. =>true
 |_=>false
abbrev TyD:=Bool×Ty
@[reducible] def cl:List TyD->Type
 | []=>Unit
 | [t]=>t.2.val
 |t::r=>t.2.val×cl r
def iF(t:TyD)(x:t.2.val):TD:=
 match t with
 |(true,e)=> .agg (e.row x)
 |(false,e)=>match e.row x with
  | [y]=> .one y
  |ys=> .agg ys
def dF:(ts:List TyD)->cl ts->List TD
 | [],_=> []
 | [t],x=> [iF t x]
 |t::t'::r,x=>iF t x.1::dF (t'::r) x.2
def mkD(x:Bool×List KC):KD:=
 match x with
 |(true,cs)=> .agg cs
 |(false,[c])=> .one c
 |(false,cs)=> .agg cs
def Fw(fr:Bool)(t:TyD)(x:t.2.val):Bool×List KC:=(t.1,bQ fr t.2 x)
def jc(fr:Bool):(ts:List TyD)->cl ts->List (Bool×List KC)
 | [],_=> []
 | [t],x=> [Fw fr t x]
 |t::t'::r,x=>Fw fr t x.1::jc fr (t'::r) x.2
def vu(B:Nat->Option KB)(t:TyD):KD->Option t.2.val
 | .one c=>if t.1 then none else ij B t.2 c
 | .agg cs=>if t.1 then dec B t.2 cs else none
 | .tup _=>none
def gn(B:Nat->Option KB):(ts:List TyD)->List KD->Option (cl ts)
 | [],[]=>some ()
 | [t],[d]=>vu B t d
 |t::t'::r,d::ds=>(vu B t d).bind λx=>(gn B (t'::r) ds).bind λy=>some (x,y)
 |_,_=>none
def my:KD->Bool
 | .one c=>mw c
 | .agg cs=>cs.all mw
 | .tup _=>false
inductive OutK where
 |data (fr:Bool) (ts:List TyD)
 |own (e:Ty)
 |mown (e:Ty)
 |gown (e:Ty)
@[reducible] def OutK.val:OutK->Type
 | .data _ ts=>cl ts
 | .own e=>List e.val
 | .mown e=>List e.val
 | .gown e=>Sl e.val
structure cK where
 k:FuncId
 ins:List TyD
 out:OutK
 f:cl ins->Option out.val
 d:Nat
structure KG where
 ti:List (Nat×TI)
 eqs:List (Nat×List IntKind)
 fns:List cK
 fi:List (FuncId×FI)
def KG.fn(G:KG)(k:FuncId):Option cK:=G.fns.find? λe=>Nat.beq e.k k
def HI(ti:List (Nat×TI)):Nat->TypeId->Option Ty
 |0,_=>none
 |n+1,t=>match af ti t with
  |none=>none
  |some i=>match i.desc with
   | .int k=>some (.I k)
   | .bool=>some .B
   | .slice e=>(HI ti n e).map .S
   | .array m e=>(HI ti n e).bind λx=>prod (List.replicate m x)
   | .struct fs=>(seqO (fs.toList.map λf=>HI ti n f.type)).bind prod
   |_=>none
where
 prod:List Ty->Option Ty
  | []=>some .U
  | [x]=>some x
  |x::y::r=>(prod (y::r)).map (.C x)
 seqO:List (Option Ty)->Option (List Ty)
  | []=>some []
  |none::_=>none
  |some x::r=>(seqO r).map (x::·)
def KG.ty(G:KG)(t:TypeId):Option Ty:=HI G.ti 9 t
def KG.elem(G:KG)(t:TypeId):Option (TypeId×Ty×Nat):=
 match af G.ti t with
 |some i=>match aA i with
  |some e=>match af G.ti e with
   |some te=>(G.ty e).map λx=>(e,x,te.size)
   |none=>none
  |none=>none
 |none=>none
structure KE where
 v:KD
 upd:Option (Nat×KB):=none
 new:Option KB:=none
def kC:Value->KC
 | .int k n=> .n k n
 | .bool b=> .b b
 | .slice none 0 0=> .nil
 |x=> .v x
def nA:Value->Option KD
 | .agg cs=>if cs.toList.all one1 then some (.agg (cs.toList.map kC))else none
 | .tuple _=>none
 |v=>some (.one (kC v))
def kO(F:KF)(ks:KS):Operand->Option KD
 | .tmp i=>fT F ks i
 | .const v=>nA v
 | .global _=>none
 | .func f=>some (.one (.v (.func (.func f) #[] #[])))
def kUn:KD:= .tup []
def Ls(tag:Nat)(op:BinOp)(k k':IntKind)(a b:Int){R:Type}(κ:KE->Option R):Option R:=
 match op with
 | .shl=>(Lh k a b).bind λz=>κ ⟨.one (.n k z),none,none⟩
 | .shr=>(Ff k a b).bind λz=>κ ⟨.one (.n k z),none,none⟩
 |op=>if k=k' then match op with
  | .add=>κ ⟨.one (.n k (k.wrap (a+b))),none,none⟩
  | .sub=>κ ⟨.one (.n k (k.wrap (a - b))),none,none⟩
  | .mul=>κ ⟨.one (.n k (k.wrap (a*b))),none,none⟩
  | .and=>κ ⟨.one (.n k (Ob k a b)),none,none⟩
  | .or=>κ ⟨.one (.n k (orI k a b)),none,none⟩
  | .xor=>κ ⟨.one (.n k (Li k a b)),none,none⟩
  | .andNot=>κ ⟨.one (.n k (Au k a b)),none,none⟩
  | .quo=>(Lb k a b).bind λz=>κ ⟨.one (.n k z),none,none⟩
  | .rem=>(Lc a b).bind λz=>κ ⟨.one (.n k z),none,none⟩
  | .eql=>κ ⟨.one (.p tag (a=b) (Int.instDecidableEq a b)),none,none⟩
  | .neq=>κ ⟨.one (.p tag (a≠b) (@instDecidableNot _ (Int.instDecidableEq a b))),none,none⟩
  | .lss=>κ ⟨.one (.p tag (a<b) (Int.decLt a b)),none,none⟩
  | .leq=>κ ⟨.one (.p tag (a<=b) (Int.decLe a b)),none,none⟩
  | .gtr=>κ ⟨.one (.p tag (a>b) (Int.decLt b a)),none,none⟩
  | .geq=>κ ⟨.one (.p tag (a >= b) (Int.decLe b a)),none,none⟩
  |_=>none
 else none
def qT:Operand->Bool
 | .const (.slice none 0 0)=>true
 |_=>false
def nB(op:BinOp)(tag:Nat)(P:Prop)(d:Decidable P):Option KC:=
 match op with
 | .eql=>some (.p tag P d)
 | .neq=>some (.p tag (¬P) (@instDecidableNot P d))
 |_=>none
def Ay(op:BinOp)(v:Bool):Option KC:=
 match op with
 | .eql=>some (.b v)
 | .neq=>some (.b (!v))
 |_=>none
def eqP:List (Int×Int)->Prop
 | []=>True
 | [x]=>x.1=x.2
 |x::y::r=>x.1=x.2/\eqP (y::r)
def eqD:(l:List (Int×Int))->Decidable (eqP l)
 | []=> .isTrue trivial
 | [x]=>Int.instDecidableEq x.1 x.2
 |x::y::r=> @instDecidableAnd _ _ (Int.instDecidableEq x.1 x.2) (eqD (y::r))
def dQ:List IntKind->List KC->List KC->Option (List (Int×Int))
 | [],[],[]=>some []
 |k::ks,.n k1 x::r,.n k2 y::s=>if k1=k/\k2=k then(dQ ks r s).map ((x,y)::·)else none
 |_,_,_=>none
def Az:KC->Option Bool
 | .b v=>some v
 | .p _ P d=>some (@decide P d)
 | .bv x=>some x
 |_=>none
def vw(ti:List (Nat×TI))(t:TypeId):Bool:=match af ti t with
 |some i=>match i.desc with
  | .bool=>true
  |_=>false
 |none=>false
def GP(G:KG)(F:KF)(ks:KS)(tag:Nat)(op:BinOp)(ty:TypeId)(y:Operand)(a b:KD){R:Type}(κ:KE->Option R):Option R:=
 match a,b with
 | .one (.n k x),.one (.n k' x')=>Ls tag op k k' x x' κ
 | .one (.s e fr x),_=>match qT y,G.elem ty with
  |true,some _=>(nB op tag (x.nn=false) (instDecidableEqBool x.nn false)).bind λc=>κ ⟨.one c,none,none⟩
  |_,_=>none
 | .one (.o e p),_=>match qT y,G.elem ty,aj F ks p with
  |true,some _,some (.rows _ _ _)=>(Ay op false).bind λc=>κ ⟨.one c,none,none⟩
  |_,_,_=>none
 | .one .nil,_=>match qT y,G.elem ty with
  |true,some _=>(Ay op true).bind λc=>κ ⟨.one c,none,none⟩
  |_,_=>none
 | .agg cs,.agg ds=>match af G.eqs ty with
  |some kinds=>match dQ kinds cs ds with
   |some l=>(nB op tag (eqP l) (eqD l)).bind λc=>κ ⟨.one c,none,none⟩
   |none=>none
  |none=>none
 | .one c,.one d=>match vw G.ti ty,Az c,Az d with
  |true,some x,some x'=>(nB op tag (x=x') (instDecidableEqBool x x')).bind λc=>κ ⟨.one c,none,none⟩
  |_,_,_=>none
 |_,_=>none
def kOf(agg:Bool)(cs:List KC):Option KD:=
 if agg then some (.agg cs)else match cs with
  | [c]=>some (.one c)
  |_=>none
def kCs:KD->Option (List KC)
 | .one c=>some [c]
 | .agg cs=>some cs
 | .tup _=>none
def wd(z:Nat×Bool):Nat:=cond z.2 z.1 1
def Fx(ti:List (Nat×TI))(t:TypeId):Option (Nat×Bool):=match af ti t with
 |some i=>some (i.size,aE i.desc)
 |none=>none
def HJ(ti:List (Nat×TI))(t:TypeId)(m:Nat):Option (Nat×Nat×Bool):=match af ti t with
 |some i=>match eZ i m with
  |some fd=>match af ti fd.type with
   |some ft=>some (fd.offset,ft.size,aE ft.desc)
   |none=>none
  |none=>none
 |none=>none
def eK(F:KF)(ks:KS)(z:Nat×Bool)(a:KD){R:Type}(κ:KD->Option R):Option R:=
 match a with
 | .one (.ptr p j)=>match aj F ks p with
  |some (.box cs)=>((cut cs j (wd z)).bind (kOf z.2)).bind κ
  |_=>none
 | .one (.ip e fr x i y j)=>((cut (bQ fr e y) j (wd z)).bind (kOf z.2)).bind κ
 | .one (.pe p i j)=>match aj F ks p with
  |some (.rows e _ l)=>(atL l i).bind λy=>((cut (bQ true e y) j (wd z)).bind (kOf z.2)).bind κ
  |some (.mrows e l)=>(atL l i).bind λy=>((cut (bQ true e y) j (wd z)).bind (kOf z.2)).bind κ
  |_=>none
 |_=>none
def qA(ks:KS)(sz:Nat)(a x:KD){R:Type}(κ:KE->Option R):Option R:=
 match kCs x with
 |none=>none
 |some cs=>if cs.length=sz then match a with
  | .one (.ptr p j)=>match af ks.bl p with
   |some (.box es)=>(patch es j cs).bind λes'=>κ ⟨kUn,some (p,.box es'),none⟩
   |_=>none
  | .one (.pe p i j)=>match af ks.bl p with
   |some (.rows e ne l)=>if cs.all frC then(atL l i).bind λy=>(patch (bQ true e y) j cs).bind λes'=>(dec noB e es').bind λy'=>κ ⟨kUn,some (p,.rows e ne (l.set i.toNat y')),none⟩else none
   |some (.mrows e l)=>if cs.all frC then(atL l i).bind λy=>(patch (bQ true e y) j cs).bind λes'=>(dec noB e es').bind λy'=>κ ⟨kUn,some (p,.mrows e (l.set i.toNat y')),none⟩else none
   |_=>none
  |_=>none
 else none
def kPlaces(ti:List (Nat×TI))(t:TypeId):Option (Nat->Option (Nat×Nat)):=match af ti t with
 |some i=>match i.desc with
  | .struct fs=>(seqP (fs.toList.map λf=>match af ti f.type with
   |some q=>some (f.offset,q.size)
   |none=>none)).map λl n=>l[n]?
  | .array _ e=>match af ti e with
   |some te=>some λn=>some (n*te.size,te.size)
   |none=>none
  |_=>none
 |none=>none
where
 seqP:List (Option (Nat×Nat))->Option (List (Nat×Nat))
  | []=>some []
  |none::_=>none
  |some x::r=>(seqP r).map (x::·)
def xG(place:Nat->Option (Nat×Nat))(cells:List KC):List (Nat×KD)->Option (List KC)
 | []=>some cells
 |(i,d)::r=>match place i,kCs d with
  |some (off,size),some cs=>if cs.length=size then(patch cells off cs).bind λc=>xG place c r else none
  |_,_=>none
def qU(F:KF)(ks:KS):List (Nat×Operand)->Option (List (Nat×KD))
 | []=>some []
 |(i,x)::r=>(kO F ks x).bind λd=>(qU F ks r).bind λl=>some ((i,d)::l)
def fB(F:KF)(ks:KS):List Operand->Option (List KD)
 | []=>some []
 |x::r=>(kO F ks x).bind λd=>(fB F ks r).bind λl=>some (d::l)
def jx(e:Ty):List (List KC)->Option (List e.val)
 | []=>some []
 |cs::r=>if cs.all frC=true then(dec noB e cs).bind λx=>(jx e r).bind λl=>some (x::l)else none
def tB(z:Nat)(cs:List KC):Nat->Nat->Option (List (List KC))
 |0,_=>some []
 |n+1,i=>(cut cs (i*z) z).bind λa=>(tB z cs n (i+1)).bind λl=>some (a::l)
def vy(F:KF)(ks:KS)(e:Ty):KC->Option (List e.val×Bool)
 | .nil=>some ([],false)
 | .s e' fr x=>if(fr||e'.plain)=true then(dV (.S e') (.S e) x).map λx=>(x.l,false)else none
 | .o _ p=>match aj F ks p with
  |some (.rows e' ne l)=>(dV (.S e') (.S e) ⟨true,0,l⟩).map λx=>(x.l,ne)
  |_=>none
 | .m _ p=>match aj F ks p with
  |some (.mrows e' l)=>(dV (.S e') (.S e) ⟨true,0,l⟩).map λx=>(x.l,false)
  |_=>none
 |_=>none
def vz(F:KF)(ks:KS)(nid:Nat)(e:Ty)(a x:KC){R:Type}(κ:KE->Option R):Option R:=
 match vy F ks e x with
 |none=>none
 |some (xs,ne)=>match a with
  | .nil=>(app [] xs).bind λlm=>cond ne (κ ⟨.one (.o e nid),none,some (.rows e true lm)⟩) (κ ⟨.one (.m e nid),none,some (.mrows e lm)⟩)
  | .o _ p=>match af ks.bl p with
   |some (.rows e' ne' l)=>(dV (.S e') (.S e) ⟨true,0,l⟩).bind λl=>(app l.l xs).bind λlm=>κ ⟨.one (.o e nid),some (p,.dead),some (.rows e (ne||ne') lm)⟩
   |_=>none
  | .m _ p=>match af ks.bl p with
   |some (.mrows e' l)=>(dV (.S e') (.S e) ⟨true,0,l⟩).bind λl=>(app l.l xs).bind λlm=>cond ne (κ ⟨.one (.o e nid),some (p,.dead),some (.rows e true lm)⟩) (κ ⟨.one (.m e nid),some (p,.dead),some (.mrows e lm)⟩)
   |_=>none
  |_=>none
def Lt(F:KF)(ks:KS):KC->Option Int
 | .nil=>some 0
 | .s _ _ x=>some ((x.l.length:Nat):Int)
 | .o _ p=>match aj F ks p with
  |some (.rows _ _ l)=>some ((l.length:Nat):Int)
  |_=>none
 | .m _ p=>match aj F ks p with
  |some (.mrows _ l)=>some ((l.length:Nat):Int)
  |_=>none
 |_=>none
def qV(G:KG)(F:KF)(ks:KS)(nid:Nat)(c:Call)(b:Builtin)(args:List KD){R:Type}(κ:KE->Option R):Option R:=
 match c.argTypes[0]? with
 |none=>none
 |some ty=>match b,args with
  | .len,[.one x]=>match G.elem ty with
   |some _=>(Lt F ks x).bind λn=>κ ⟨.one (.n .i64 n),none,none⟩
   |none=>none
  | .min,[.one (.n k x),.one (.n _ y)]=>match af G.ti ty with
   |some _=>κ ⟨.one (.n k (Of x y)),none,none⟩
   |none=>none
  | .max,[.one (.n k x),.one (.n _ y)]=>match af G.ti ty with
   |some _=>κ ⟨.one (.n k (Og x y)),none,none⟩
   |none=>none
  | .append,[.one a,.one x]=>match G.elem ty,(c.argTypes[1]?).bind G.elem with
   |some (_,e,z),some _=>if e.size=z/\z≠0 then vz F ks nid e a x κ else none
   |_,_=>none
  | .copy,[.one (.o _ p),.one x]=>match G.elem ty,(c.argTypes[1]?).bind G.elem,af ks.bl p with
   |some (_,e,z),some _,some (.rows e' ne l)=>if e.size=z/\z≠0 then match vy F ks e x with
    |some (xs,_)=>(dV (.S e') (.S e) ⟨true,0,l⟩).bind λl=>(cpL l.l xs).bind λlm=>κ ⟨.one (.n .i64 ((xs.length:Nat):Int)),some (p,.rows e ne lm),none⟩
    |none=>none
    else none
   |_,_,_=>none
  |_,_=>none
def Fy:List (Bool×List KC)->KD
 | [d]=>mkD d
 |ds=> .tup ds
def Lu(nid:Nat):(o:OutK)->o.val->KE
 | .data fr ts,x=>⟨Fy (jc fr ts x),none,none⟩
 | .own e,l=>⟨.one (.o e nid),none,some (.rows e false l)⟩
 | .mown e,l=>⟨.one (.m e nid),none,some (.mrows e l)⟩
 | .gown _,_=>⟨.one .nil,none,none⟩
def zt(F:KF)(ks:KS)(nid:Nat)(en:cK)(args:List KD){R:Type}(κ:KE->Option R):Option R:=
 match en.out with
 | .data false _=>if args.all my then(gn (aj F ks) en.ins args).bind λa=>(en.f a).bind λout=>κ (Lu nid en.out out)else none
 | .gown _=>none
 |_=>(gn (aj F ks) en.ins args).bind λa=>(en.f a).bind λout=>κ (Lu nid en.out out)
def jd(F:KF)(ks:KS)(c:Call):Option (FuncId×List KD):=
 match c.callee with
 | .value f=>match kO F ks f,fB F ks c.args.toList with
  |some (.one (.v (.func (.func k) first cap))),some args=>if first.size=0/\cap.size=0 then some (k,args)else none
  |some (.one (.clo k ps)),some args=>some (k,args++ps.map λp=> .one (.ptr p 0))
  |_,_=>none
 |_=>none
def AA:List KD->Option (List Nat)
 | []=>some []
 | .one (.ptr p j)::r=>if j=0 then(AA r).map (p::·)else none
 |_=>none
def qW(F:KF)(ks:KS)(o:Option Operand)(d:Int):Option Int:=
 match o with
 |none=>some d
 |some x=>match kO F ks x with
  |some (.one (.n _ i))=>some i
  |_=>none
def Lv{R:Type}(b:Bool)(n:Nat)(j m:Int)(x:Option R):Option R:=cond b (if j<=m/\m<=(n:Int)then x else none) x
theorem BV{R:Type}{b:Bool}{n:Nat}{j m:Int}{x:Option R}{r:R}(h:Lv b n j m x=some r):x=some r/\(b=true->j<=m/\m<=(n:Int)):=by
 unfold Lv at h
 cases b with
 |false=>exact⟨h,λh=>by simp at h⟩
 |true=>
  simp only [cond_true]at h;split at h
  .rename_i hc;exact⟨h,λ_=>hc⟩
  .simp at h
def bp(G:KG)(F:KF)(ks:KS)(tag nid:Nat)(op:Op){R:Type}(κ:KE->Option R):Option R:=
 match op with
 | .move x| .assign x=>(kO F ks x).bind λd=>κ ⟨d,none,none⟩
 | .alloc t=>match af G.ti t with
  |some i=>κ ⟨.one (.ptr nid 0),none,some (.box (i.zero.map kC))⟩
  |none=>none
 | .box t x=>match af G.ti t,(kO F ks x).bind kCs with
  |some _,some cs=>κ ⟨.one (.ptr nid 0),none,some (.box cs)⟩
  |_,_=>none
 | .build t parts=>match af G.ti t,kPlaces G.ti t,qU F ks parts.toList with
  |some i,some pl,some ps=>(xG pl (i.zero.map kC) ps).bind λcs=>κ ⟨.agg cs,none,none⟩
  |_,_,_=>none
 | .buildSlice t len parts=>match G.elem t,qU F ks parts.toList with
  |some (te,e,z),some ps=>match af G.ti te with
   |some i=>if e.size=z/\z*len<=1000000 then(xG (λn=>some (n*z,z)) ((List.replicate len (i.zero.map kC)).flatten) ps).bind λcs=>(tB z cs len 0).bind λrs=>(jx e rs).bind λl=>κ ⟨.one (.o e nid),none,some (.rows e (Nat.blt 0 len) l)⟩else none
   |none=>none
  |_,_=>none
 | .load t a=>match Fx G.ti t,kO F ks a with
  |some z,some d=>eK F ks z d λv=>κ ⟨v,none,none⟩
  |_,_=>none
 | .store t a x=>match Fx G.ti t,kO F ks a,kO F ks x with
  |some z,some d,some v=>qA ks z.1 d v κ
  |_,_,_=>none
 | .binOp op ty x y _=>match kO F ks x,kO F ks y with
  |some a,some b=>GP G F ks tag op ty y a b κ
  |_,_=>none
 | .unOp op _ x=>match op,kO F ks x with
  | .not,some (.one (.b v))=>κ ⟨.one (.b (!v)),none,none⟩
  | .not,some (.one (.p _ P d))=>κ ⟨.one (.p tag (¬P) (@instDecidableNot P d)),none,none⟩
  | .not,some (.one (.bv x))=>κ ⟨.one (.p tag (¬x=true) (@instDecidableNot _ (instDecidableEqBool x true))),none,none⟩
  | .neg,some (.one (.n k x))=>κ ⟨.one (.n k (k.wrap (0 - x))),none,none⟩
  | .xor,some (.one (.n k x))=>κ ⟨.one (.n k (Fm k x)),none,none⟩
  |_,_=>none
 | .convert src dst x=>match af G.ti src,af G.ti dst,kO F ks x with
  |some s,some d,some (.one (.n k a))=>match s.desc,d.desc with
   | .int k1,.int k2=>if k1=k then κ ⟨.one (.n k2 (k2.wrap a)),none,none⟩else none
   |_,_=>none
  |_,_,_=>none
 | .makeFunc fn first cap=>match fn,first.toList,(fB F ks cap.toList).bind AA with
  | .func k,[],some ps=>κ ⟨.one (.clo k ps),none,none⟩
  |_,_,_=>none
 | .makeSlice t l c=>match G.elem t,kO F ks l,kO F ks c with
  |some (te,e,z),some (.one (.n _ n)),some (.one (.n _ m))=>match af G.ti te with
   |some i=>if e.size=z/\z≠0 then(Fe n m).bind λ_=>(Fd n).bind λ_=>(dec noB e (i.zero.map kC)).bind λx=>κ ⟨.one (.o e nid),none,some (.rows e false (List.replicate n.toNat x))⟩else none
   |none=>none
  |_,_,_=>none
 | .slice t x lo hi mx=>match mx.isSome && hi.isNone,G.elem t,kO F ks x with
  |false,some (te,e,z),some (.one (.s e' fr s))=>match qW F ks lo 0,qW F ks hi ((s.l.length:Nat):Int),qW F ks mx ((s.l.length:Nat):Int)with
   |some i,some j,some m=>Lv mx.isSome s.l.length j m ((nr z s i j).bind λs'=>κ ⟨.one (.s e' fr s'),none,none⟩)
   |_,_,_=>none
  |_,_,_=>none
 | .fieldAddr t x f=>match HJ G.ti t f,kO F ks x with
  |some (off,sz,_),some (.one (.ptr p j))=>if sz=0 then none else κ ⟨.one (.ptr p (j+off)),none,none⟩
  |some (off,sz,_),some (.one (.pe p i j))=>if sz=0 then none else κ ⟨.one (.pe p i (j+off)),none,none⟩
  |some (off,sz,_),some (.one (.ip e fr x i y j))=>if sz=0 then none else κ ⟨.one (.ip e fr x i y (j+off)),none,none⟩
  |_,_=>none
 | .field t x f=>match HJ G.ti t f,kO F ks x with
  |some (off,sz,ag),some (.agg cs)=>((cut cs off (wd (sz,ag))).bind (kOf ag)).bind λd=>κ ⟨d,none,none⟩
  |_,_=>none
 | .indexAddr t x ix=>match kO F ks x,kO F ks ix with
  |some (.one (.s e fr s)),some (.one (.n _ i))=>match G.elem t with
   |some (_,_,z)=>(atS z s i).bind λy=>κ ⟨.one (.ip e fr s i y 0),none,none⟩
   |none=>none
  |some (.one (.o _ p)),some (.one (.n _ i))=>match G.elem t,aj F ks p with
   |some (_,_,z),some (.rows e _ l)=>if e.size=z then(atL l i).bind λ_=>κ ⟨.one (.pe p i 0),none,none⟩else none
   |_,_=>none
  |some (.one (.m _ p)),some (.one (.n _ i))=>match G.elem t,aj F ks p with
   |some (_,_,z),some (.mrows e l)=>if e.size=z then(atL l i).bind λ_=>κ ⟨.one (.pe p i 0),none,none⟩else none
   |_,_=>none
  |some (.one (.ptr p j)),some (.one (.n _ (.ofNat a)))=>match af G.ti t with
   |some ti=>match ti.desc with
    | .array n e=>match af G.ti e with
     |some te=>if a<n then κ ⟨.one (.ptr p (j+a*te.size)),none,none⟩else none
     |none=>none
    |_=>none
   |none=>none
  |some (.one (.ip e fr s i y j)),some (.one (.n _ (.ofNat a)))=>match af G.ti t with
   |some ti=>match ti.desc with
    | .array n e'=>match af G.ti e' with
     |some te=>if a<n then κ ⟨.one (.ip e fr s i y (j+a*te.size)),none,none⟩else none
     |none=>none
    |_=>none
   |none=>none
  |_,_=>none
 | .index t x ix=>match af G.ti t,kO F ks x,kO F ks ix with
  |some ti,some (.agg cs),some (.one (.n _ (.ofNat a)))=>match ti.desc with
   | .array n e=>match af G.ti e with
    |some te=>if a<n then((cut cs (a*te.size) (wd (te.size,aE te.desc))).bind (kOf (aE te.desc))).bind λd=>κ ⟨d,none,none⟩else none
    |none=>none
   |_=>none
  |_,_,_=>none
 | .extract x i=>match kO F ks x with
  |some (.tup ds)=>(ds[i]?).bind λd=>κ ⟨mkD d,none,none⟩
  |_=>none
 | .call c=>match c.callee with
  | .builtin b=>(fB F ks c.args.toList).bind λargs=>qV G F ks nid c b args κ
  |_=>match jd F ks c with
   |some (k,args)=>match G.fn k with
    |some en=>zt F ks nid en args κ
    |none=>none
   |none=>none
 |_=>none
def je(tag:Nat)(v:Bool):KC->KC
 | .p t P d=>cond (Nat.beq t tag) (.b v) (.p t P d)
 |c=>c
def Lw(tag:Nat)(v:Bool):KD->KD
 | .one c=> .one (je tag v c)
 | .agg cs=> .agg (cs.map (je tag v))
 | .tup ds=> .tup ds
def Fz(tag:Nat)(v:Bool):KB->KB
 | .box cs=> .box (cs.map (je tag v))
 |b=>b
def subst(tag:Nat)(v:Bool)(ks:KS):KS:={ks with sl:=ks.sl.map λx=>(x.1,Lw tag v x.2),bl:=ks.bl.map λx=>(x.1,Fz tag v x.2)}
def kIf(c:KC)(ks:KS){R:Type}(κ:Bool->KS->Option R):Option R:=
 match c with
 | .b v=>κ v ks
 | .p tag P d=> @ite _ P d (κ true (subst tag true ks)) (κ false (subst tag false ks))
 | .bv x=>if x=true then κ true ks else κ false ks
 |_=>none
def iA(tag:Nat):KD->KD
 | .one (.bv x)=> .one (.p tag (x=true) (instDecidableEqBool x true))
 |d=>d
def blU(e:KE)(bl:List (Nat×KB)):List (Nat×KB):=
 match e.upd with
 |some x=>x::bl
 |none=>bl
def blE(e:KE)(nid:Nat)(bl:List (Nat×KB)):List (Nat×KB):=
 match e.new with
 |some b=>(nid,b)::blU e bl
 |none=>blU e bl
def slE(dst:Option Tmp)(v:KD)(sl:List (Nat×KD)):List (Nat×KD):=
 match dst with
 |some d=>(d,v)::sl
 |none=>sl
def zu(dst:Option Tmp)(tag nid:Nat)(e:KE)(ks:KS):KS:={sl:=slE dst (iA tag e.v) ks.sl,bl:=blE e nid ks.bl,nx:=ks.nx+2}
def fk(F:KF):Option Tmp->Bool
 |some d=>Nat.blt d F.nt
 |none=>true
def tC(dst:Option Tmp)(ks:KS):KS:={ks with sl:=slE dst kUn ks.sl}
def tD(F:KF)(op:Op)(ks:KS){R:Type}(κ:Op->KS->Option R):Option R:=
 match op with
 | .pick c a b=>match kO F ks c with
  |some (.one c)=>kIf c ks λt ks=>κ (.move (cond t a b)) ks
  |_=>none
 |op=>κ op ks
def tE(F:KF)(ops:List Oper)(o:Oper)(ks:KS){R:Type}(κ:Bool->KS->Option R):Option R:=
 cond (fk F o.dst) (match o.guard with
 |none=>κ true ks
 |some (j,w)=>match(ops[j]?).bind λg=>g.dst with
  |some d=>match fT F ks d with
   |some (.one c)=>kIf c ks λb ks=>κ (b==w) ks
   |some (.tup [])=>κ false ks
   |_=>none
  |none=>none) none
abbrev tF:=(R:Type)->KF->FuncId->List KD->KS->(KD->KS->Option R)->Option R
def qX(G:KG)(F:KF)(ks:KS)(op:Op):Option (FuncId×List KD):=
 match op with
 | .call c=>match c.callee with
  | .builtin _=>none
  |_=>match jd F ks c with
   |some (k,args)=>match af G.fi k with
    |some _=>some (k,args)
    |none=>none
   |none=>none
 |_=>none
def sf(G:KG)(call:tF)(F:KF)(ops:List Oper){R:Type}(κ:KS->Option R):List Oper->KS->Option R
 | [],ks=>κ ks
 |o::r,ks=>tE F ops o ks λw ks=>cond w
   (tD F o.op ks λop ks=>match qX G F ks op with
    |some (k,args)=>match o.dst with
     |some d=>call R F k args ks λv ks2=>sf G call F ops κ r {ks2 with sl:=(d,v)::ks.sl}
     |none=>none
    |none=>bp G F ks ks.nx (ks.nx+1) op λe=>sf G call F ops κ r (zu o.dst ks.nx (ks.nx+1) e ks))
   (sf G call F ops κ r (tC o.dst ks))
def jf(G:KG)(F:KF)(ops:List Oper){R:Type}(κ:KS->Option R):List Oper->KS->Option R
 | [],ks=>κ ks
 |o::r,ks=>tE F ops o ks λw ks=>cond w
   (tD F o.op ks λop ks=>bp G F ks ks.nx (ks.nx+1) op λe=>match e.upd,e.new with
    |none,none=>jf G F ops κ r (zu o.dst ks.nx (ks.nx+1) e ks)
    |_,_=>none)
   (jf G F ops κ r (tC o.dst ks))
end K
end Ev
end
end Go.Proofs.Ytjjbpdldbdmoeaa
