/- Texts of a claim, joined. -/
import Derived.Test.YtjjbpdldbdmoeaaGreatDoorZP10
import Derived.Deep.LoopGhost
import Derived.StillTailTactics
set_option linter.unusedVariables false
set_option linter.unusedSimpArgs false
namespace Go.Proofs.YtjjbpdldbdmoeaaGreatDoor
noncomputable section
open Go.RowKit Go.Lib Go.Sort
namespace Hp
theorem abw(n Q:Nat)(w:World):(method (n+1) 126 (.pointer (some ⟨Q,0,none⟩)) "Push").run Tryz.prog w= .ok (124,.pointer (some ⟨Q,0,none⟩)) w:=by kernel_rfl
theorem aek(n Q:Nat)(w:World):(method (n+1) 126 (.pointer (some ⟨Q,0,none⟩)) "Pop").run Tryz.prog w= .ok (123,.pointer (some ⟨Q,0,none⟩)) w:=by kernel_rfl
theorem Gm{l:List FieldStep}{a b:Nat}{c:Bool}(h:l.map (λs=>(s.struct,s.index,s.deref))= [(a,b,c)]):l= [⟨a,b,c⟩]:=by
 match l,h with
 | [⟨x,y,z⟩],h=>
  simp only [List.map_cons,List.map_nil,List.cons.injEq,Prod.mk.injEq,and_true]at h;obtain⟨rfl,rfl,rfl⟩:=h;rfl
theorem TG:(Array.find? (λx=>x.name== "Len") Tryz.t126.methods).map (λm=>(m.path.toList.map (λs=>(s.struct,s.index,s.deref)),m.func))=some ([(130,0,true)],some (71,false)):=by kernel_rfl
theorem ZP{Q:Nat}{w:World}{a:Option Addr}{k c:Nat}(h:w.cell? ⟨Q,0,none⟩=some (.slice a k c))(n:Nat):(method (n+1) 126 (.pointer (some ⟨Q,0,none⟩)) "Len").run Tryz.prog w= .ok (71,.slice a k c) w:=by
 obtain⟨m,h1,h2⟩:=Option.map_eq_some_iff.1 TG;obtain⟨h3,h4⟩:=Prod.mk.inj h2;have h5:=Gm h3;unfold method
 go_simp
 unfold follow
 go_simp
 unfold Place.get
 go_simp
 unfold follow receiverAt Place.get
 go_simp
theorem Qk:(Array.find? (λx=>x.name== "Less") Tryz.t126.methods).map (λm=>(m.path.toList.map (λs=>(s.struct,s.index,s.deref)),m.func))=some ([(130,0,true)],some (122,false)):=by kernel_rfl
theorem LY{Q:Nat}{w:World}{a:Option Addr}{k c:Nat}(h:w.cell? ⟨Q,0,none⟩=some (.slice a k c))(n:Nat):(method (n+1) 126 (.pointer (some ⟨Q,0,none⟩)) "Less").run Tryz.prog w= .ok (122,.slice a k c) w:=by
 obtain⟨m,h1,h2⟩:=Option.map_eq_some_iff.1 Qk;obtain⟨h3,h4⟩:=Prod.mk.inj h2;have h5:=Gm h3;unfold method
 go_simp
 unfold follow
 go_simp
 unfold Place.get
 go_simp
 unfold follow receiverAt Place.get
 go_simp
theorem Ql:(Array.find? (λx=>x.name== "Swap") Tryz.t126.methods).map (λm=>(m.path.toList.map (λs=>(s.struct,s.index,s.deref)),m.func))=some ([(130,0,true)],some (125,false)):=by kernel_rfl
theorem Ap{Q:Nat}{w:World}{a:Option Addr}{k c:Nat}(h:w.cell? ⟨Q,0,none⟩=some (.slice a k c))(n:Nat):(method (n+1) 126 (.pointer (some ⟨Q,0,none⟩)) "Swap").run Tryz.prog w= .ok (125,.slice a k c) w:=by
 obtain⟨m,h1,h2⟩:=Option.map_eq_some_iff.1 Ql;obtain⟨h3,h4⟩:=Prod.mk.inj h2;have h5:=Gm h3;unfold method
 go_simp
 unfold follow
 go_simp
 unfold Place.get
 go_simp
 unfold follow receiverAt Place.get
 go_simp
theorem QH.cell{F:Nat->Prop}{w:World}{base Q:Nat}{hs:List Hd}(h:QH F w base Q hs):∃a c,w.cell? ⟨Q,0,none⟩=some (.slice a hs.length c):=by
 obtain⟨_,a,c,hC,_⟩:=h;exact⟨a,c,hC.cell 0⟩
theorem QH.below{F:Nat->Prop}{w w':World}{base Q:Nat}{hs:List Hd}(h:QH F w base Q hs)(hb:Below w.heap.size w w'):QH F w' base Q hs:=by
 obtain⟨h1,a,c,hC,ho,hn⟩:=h;exact⟨h1,a,c,hC.below hb,kw ho hb,hn⟩
theorem IU{F:Nat->Prop}{w:World}{base Q:Nat}{hs:List Hd}{a:Option Addr}{c:Nat}(h:QH F w base Q hs)(hq:w.cell? ⟨Q,0,none⟩=some (.slice a hs.length c))(hg:Good w base hs)(hz:OkF F base w){i k:Nat}(hi:i<hs.length)(hk:k<hs.length)(hl:hs.length<=100000):Calls Tryz.prog 122 #[.slice a hs.length c,.int .i64 i,.int .i64 k] w λe w'=>e= .returned (.bool (lt (at_ hs i).key (at_ hs k).key))/\QH F w' base Q hs/\Kp F w w'/\Below w.heap.size w w':=by
 obtain⟨h1,a',c',hC,ho,hn⟩:=h;have e:=(hC.cell 0).symm.trans hq;cases e;refine(LU a c hs i k base w (Gl ho rfl) hg hz.le hi hk hl).mono ?_;rintro e w' ⟨rfl,hb⟩;exact⟨rfl,⟨h1,a,c,hC.below hb,kw ho hb,hn⟩,Kp.of_below hb,hb⟩
theorem IV{F:Nat->Prop}{w:World}{base Q:Nat}{hs:List Hd}{a:Option Addr}{c:Nat}(h:QH F w base Q hs)(hq:w.cell? ⟨Q,0,none⟩=some (.slice a hs.length c))(hz:OkF F base w){i k:Nat}(hi:i<hs.length)(hk:k<hs.length)(hl:hs.length<=100000):Calls Tryz.prog 125 #[.slice a hs.length c,.int .i64 i,.int .i64 k] w λe w'=>e= .returned (.tuple #[])/\QH F w' base Q (sN hs i k)/\Kp F w w':=by
 obtain⟨h1,a',c',hC,ho,hn⟩:=h;have e:=(hC.cell 0).symm.trans hq;cases e
 have hgo:∃g,a=some ⟨g,0,none⟩/\base<=g:=by
  rcases ho.2 with⟨e,h0⟩|⟨g',cap,cur,e,hbg,hg,hnc,hcm,hcs,htake⟩
  .omega
  .cases e;exact⟨g',rfl,hbg⟩
 obtain⟨g,rfl,hbg⟩:=hgo;refine(LV base g hs.length c hs i k w ho rfl hi hk hl).mono ?_;rintro e w' ⟨rfl,ho2,hg2⟩;refine⟨rfl,⟨h1,some ⟨g,0,none⟩,c,?_,?_,?_⟩,Kp.of_grown hg2 (λk e=>by cases e;exact(hn g rfl).2)⟩
 .rw [oD];exact hC.grown hg2 (λe=>(hn Q e.symm).1 rfl)
 .rw [oD];exact ho2
 .rw [oD];exact hn
theorem se{w:World}{base:Nat}{hs ks:List Hd}(h:Good w base hs)(hp:ks.Perm hs):Good w base ks:=λx hx=>h x (hp.mem_iff.1 hx)
end Hp
end
noncomputable section
open Go.RowKit Go.Lib Go.Sort
namespace Hp
theorem Xz{j:Nat}(h:0<j):(((j:Int) - 1).tdiv 2)=((par j:Nat):Int):=by
 unfold par;rw [Int.tdiv_eq_ediv_of_nonneg (by omega)];omega
set_option maxRecDepth 100000 in
set_option maxHeartbeats 1000000 in
theorem TH(F:Nat->Prop)(base Q:Nat)(n:Nat)(j0:Nat)(hs:List Hd)(w:World)(h:QH F w base Q hs)(hg:Good w base hs)(hz:OkF F base w)(hn:hs.length=n)(hl:n<=100000)(hj:j0<n)(hu:Up Hd.key n (at_ hs) j0):
  Calls Tryz.prog 94 #[.iface 126 (.pointer (some ⟨Q,0,none⟩)),.int .i64 j0] w λe w'=>e= .returned (.tuple #[])/\∃ks,ks.Perm hs/\Heap Hd.key n (at_ ks)/\QH F w' base Q ks/\Kp F w w':=by
 go_enter Tryz.func94,Tryz.ntmps94
 go_wp2
 go_loopw [1] (λy wr=>∃(j:Nat) (ks:List Hd),y= .int .i64 (j:Int)/\j<n/\ks.Perm hs/\ks.length=n/\QH F wr base Q ks/\Up Hd.key n (at_ ks) j/\Kp F w wr) (λy _=>(intOf y).toNat)
 case atStart=>exact⟨j0,hs,rfl,hj,List.Perm.refl _,hn,h,hu,Kp.refl _ _⟩
 case round=>
  clear hu h hj;obtain⟨j,ks,rfl,hj,hp,hkn,h,hu,hb⟩:=hrel;have hgk:=(se hg hp).kp hz hb;have hzr:OkF F base wr:=hz.mono hb.size;by_cases hj0:j=0
  .subst hj0
   go_wp2
   go_end0
   exact⟨rfl,ks,hp,hu.done (.inl rfl),h,hb⟩
  .have hq:=Xz (show 0<j by omega);have hpl:=mN (show 0<j by omega);obtain⟨a,c,hc⟩:=h.cell;have hme:=LY hc;have hjk:j<ks.length:=by omega
   have hpk:par j<ks.length:=by omega
   have hlk:ks.length<=100000:=by omega
   have HK:=Lib.hid hkn;clear hkn
   go_wp2_with fail
   refine(IU h hc hgk hzr (i:=j) (k:=par j) hjk hpk hlk).mono ?_;rintro e w1 ⟨rfl,h1,hb1,hb1'⟩;obtain⟨a1,c1,hc1⟩:=h1.cell;have hms:=Ap hc1;clear hme hc;have hz1:OkF F base w1:=hzr.mono hb1.size
   cases hlt:lt (at_ ks j).key (at_ ks (par j)).key with
   |false=>
    go_wp2
    go_end0
    exact⟨rfl,ks,hp,hu.done (.inr hlt),h1,hb.trans hb1⟩
   |true=>
    go_wp2_with fail
    refine(IV h1 hc1 hz1 (i:=par j) (k:=j) hpk hjk hlk).mono ?_;rintro e w2 ⟨rfl,h2,hb2⟩
    go_wp2
    refine⟨⟨par j,sN ks (par j) j,by first|rfl|simp,by omega,(oF hpk hjk).trans hp,by rw [oD];exact HK.out,h2,?_,(hb.trans hb1).trans hb2⟩,by simp [intOf];omega⟩;rw [mg hpk hjk];exact hu.step (by omega) hj hlt
end Hp
end
noncomputable section
open Go.RowKit Go.Lib Go.Sort
namespace Hp
set_option maxRecDepth 100000 in
set_option maxHeartbeats 1000000 in
theorem Aq(F:Nat->Prop)(base Q:Nat)(hs:List Hd)(x:Hd)(w:World)(h:QH F w base Q hs)(hg:Good w base (hs++ [x]))(hz:OkF F base w)(hl:hs.length<100000)(hH:Heap Hd.key hs.length (at_ hs)):
  Calls Tryz.prog 70 #[.iface 126 (.pointer (some ⟨Q,0,none⟩)),.iface 134 (HV x)] w λe w'=>e= .returned (.tuple #[])/\∃ks,ks.Perm (hs++ [x])/\Heap Hd.key ks.length (at_ ks)/\QH F w' base Q ks/\Kp F w w':=by
 have hmp:=λn=>abw n Q w;have hl2:=Nat.le_of_lt hl
 go_enter Tryz.func70,Tryz.ntmps70
 go_wp2_with fail
 refine(IT F base Q hs x w h hz hl2).mono ?_;rintro e w1 ⟨rfl,h1,hb1⟩;obtain⟨a1,c1,hc1⟩:=h1.cell;have hml:=ZP hc1;have hz1:OkF F base w1:=hz.mono hb1.size
 go_wp2_with fail
 refine(sd a1 (hs.length+1) c1 w1).mono ?_;rintro e w2 ⟨rfl,rfl⟩;have ej:(((hs.length+1:Nat)):Int) - 1=hs.length:=by omega
 have ej2:(((hs.length+1:Nat)):Int)<=100000:=by omega
 clear hml hmp
 go_wp2_with fail
 have hHu:Up Hd.key (hs.length+1) (at_ (hs++ [x])) hs.length:=(hH.congr (λk hk=>(El hk).symm)).up;refine(TH F base Q (hs.length+1) hs.length (hs++ [x]) _ h1 (hg.kp hz hb1) hz1 (gN hs x) hl (Nat.lt_succ_self _) hHu).mono ?_;rintro e w2 ⟨rfl,ks,hp,hk,hq,hb⟩
 go_wp2
 go_end0
 refine⟨rfl,ks,hp,?_,hq,hb1.trans hb⟩;rw [hp.length_eq,gN];exact hk
end Hp
end
noncomputable section
open Go.RowKit Go.Lib Go.Sort
namespace Hp
theorem afG{α:Type}{key:α->Int×Int}{f:Nat->α}{n i:Nat}(h:n<=2*i+2):∀k,0<k->k<n->par k=i->le (key (f (2*i+1))) (key (f k)):=λk k0 kn kp=>by
 rcases(Gk k0).1 kp with rfl|rfl
 .exact le_refl _
 .omega
theorem min2{α:Type}{key:α->Int×Int}{f:Nat->α}{n i:Nat}(h:lt (key (f (2*i+2))) (key (f (2*i+1)))=false):∀k,0<k->k<n->par k=i->le (key (f (2*i+1))) (key (f k)):=λk k0 kn kp=>by
 rcases(Gk k0).1 kp with rfl|rfl
 .exact le_refl _
 .exact h
theorem afH{α:Type}{key:α->Int×Int}{f:Nat->α}{n i:Nat}(h:lt (key (f (2*i+2))) (key (f (2*i+1)))=true):∀k,0<k->k<n->par k=i->le (key (f (2*i+2))) (key (f k)):=λk k0 kn kp=>by
 rcases(Gk k0).1 kp with rfl|rfl
 .exact le_of_lt h
 .exact le_refl _
theorem sf{F:Nat->Prop}{w:World}{base Q:Nat}{hs:List Hd}{a:Option Addr}{c m:Nat}{I K:Int}(h:QH F w base Q hs)(hq:w.cell? ⟨Q,0,none⟩=some (.slice a hs.length c))(hg:Good w base hs)(hz:OkF F base w){i k:Nat}(hi:i<hs.length)(hk:k<hs.length)(hl:hs.length<=100000)(hI:I=(i:Int))(hK:K=(k:Int))(hm:hs.length=m):Calls Tryz.prog 122 #[.slice a m c,.int .i64 I,.int .i64 K] w λe w'=>e= .returned (.bool (lt (at_ hs i).key (at_ hs k).key))/\QH F w' base Q hs/\Kp F w w'/\Below w.heap.size w w':=by
 subst hI hK hm;exact IU h hq hg hz hi hk hl
theorem sg{F:Nat->Prop}{w:World}{base Q:Nat}{hs:List Hd}{a:Option Addr}{c m:Nat}{I K:Int}(h:QH F w base Q hs)(hq:w.cell? ⟨Q,0,none⟩=some (.slice a hs.length c))(hz:OkF F base w){i k:Nat}(hi:i<hs.length)(hk:k<hs.length)(hl:hs.length<=100000)(hI:I=(i:Int))(hK:K=(k:Int))(hm:hs.length=m):Calls Tryz.prog 125 #[.slice a m c,.int .i64 I,.int .i64 K] w λe w'=>e= .returned (.tuple #[])/\QH F w' base Q (sN hs i k)/\Kp F w w':=by
 subst hI hK hm;exact IV h hq hz hi hk hl
set_option maxRecDepth 100000 in
set_option maxHeartbeats 2000000 in
theorem LZ(F:Nat->Prop)(base Q:Nat)(n:Nat)(hs:List Hd)(w:World)(h:QH F w base Q hs)(hg:Good w base hs)(hz:OkF F base w)(hn:n<hs.length)(hl:hs.length<=100000)(hd:Down Hd.key n (at_ hs) 0):
  Calls Tryz.prog 95 #[.iface 126 (.pointer (some ⟨Q,0,none⟩)),.int .i64 0,.int .i64 n] w λe w'=>(∃b,e= .returned (.bool b))/\∃ks,ks.Perm hs/\at_ ks n=at_ hs n/\Heap Hd.key n (at_ ks)/\QH F w' base Q ks/\Kp F w w':=by
 have hnI:((n:Nat):Int)<=100000:=by omega
 go_enter Tryz.func95,Tryz.ntmps95
 go_wp2
 go_loopw [7] (λy wr=>∃(i:Nat) (ks:List Hd),y= .int .i64 (i:Int)/\i<=n/\ks.Perm hs/\at_ ks n=at_ hs n/\QH F wr base Q ks/\Down Hd.key n (at_ ks) i/\Kp F w wr) (λy _=>n - (intOf y).toNat)
 case atStart=>exact⟨0,hs,rfl,Nat.zero_le _,List.Perm.refl _,rfl,h,hd,Kp.refl _ _⟩
 case round=>
  clear hd h;obtain⟨i,ks,rfl,hi,hp,hat,h,hd,hb⟩:=hrel;have hgk:=(se hg hp).kp hz hb;have hzr:OkF F base wr:=hz.mono hb.size;have hiI:((i:Nat):Int)<=n:=by omega
  have hkn:=hp.length_eq;have hnk:n<ks.length:=by omega
  have hlk:ks.length<=100000:=by omega
  clear hn hl;have HK:=Lib.hid hkn;clear hkn;by_cases hj1:n<=2*i+1
  .have hj1I:((n:Nat):Int)<=2*((i:Nat):Int)+1:=by omega
   go_wp2
   go_ret
   exact⟨⟨_,rfl⟩,ks,hp,hat,hd.done (λk k0 kn kp=>by rcases(Gk k0).1 kp with rfl|rfl<;>omega),h,hb⟩
  .have hj1I:2*((i:Nat):Int)+1<n:=by omega
   have hik:i<ks.length:=by omega
   have hjk:2*i+1<ks.length:=by omega
   obtain⟨a,c,hc⟩:=h.cell;have hme:=LY hc;by_cases hj2:n<=2*i+2
   .have hj2I:((n:Nat):Int)<=2*((i:Nat):Int)+2:=by omega
    have hm:=afG (key:=Hd.key) (f:=at_ ks) hj2
    go_wp2_with fail
    refine(sf h hc hgk hzr (i:=2*i+1) (k:=i) hjk hik hlk (by omega) (by omega) rfl).mono ?_;rintro e w2 ⟨rfl,h2,hb2,hb2'⟩;obtain⟨a2,c2,hc2⟩:=h2.cell;have hms:=Ap hc2;clear hme hc hb2';have hz2:OkF F base w2:=hzr.mono hb2.size
    cases hlt2:lt (at_ ks (2*i+1)).key (at_ ks i).key with
    |false=>
     go_wp2
     go_ret
     exact⟨⟨_,rfl⟩,ks,hp,hat,hd.done (λk k0 kn kp=>le_trans (wW hlt2) (hm k k0 kn kp)),h2,hb.trans hb2⟩
    |true=>
     go_wp2_with fail
     refine(sg h2 hc2 hz2 (i:=i) (k:=2*i+1) hik hjk hlk (by omega) (by omega) rfl).mono ?_;rintro e w3 ⟨rfl,h3,hb3⟩
     go_wp2
     refine⟨⟨2*i+1,sN ks i (2*i+1),by first|rfl|simp|(congr 1),by omega,(oF hik hjk).trans hp,?_,h3,?_,(hb.trans hb2).trans hb3⟩,by simp [intOf];omega⟩
     .rw [mg hik hjk];unfold swp;rw [if_neg (by omega),if_neg (by omega)];exact hat
     .rw [mg hik hjk];exact hd.step (by omega) (by omega) (by unfold par;omega) hm hlt2
   .have hj2I:2*((i:Nat):Int)+2<n:=by omega
    have hj2k:2*i+2<ks.length:=by omega
    go_wp2_with fail
    refine(sf h hc hgk hzr (i:=2*i+2) (k:=2*i+1) hj2k hjk hlk (by omega) (by omega) rfl).mono ?_;rintro e w1 ⟨rfl,h1,hb1,hb1'⟩;have hgk1:=hgk.kp hzr hb1;have hbb:=hb.trans hb1;obtain⟨a1,c1,hc1⟩:=h1.cell;clear hme hc hb1' h hgk hb hb1;have hme:=LY hc1;have hz1:OkF F base w1:=hz.mono hbb.size
    cases hlt:lt (at_ ks (2*i+2)).key (at_ ks (2*i+1)).key with
    |false=>
     have hm:=min2 (key:=Hd.key) (f:=at_ ks) (n:=n) hlt
     go_wp2_with fail
     refine(sf h1 hc1 hgk1 hz1 (i:=2*i+1) (k:=i) hjk hik hlk (by omega) (by omega) rfl).mono ?_;rintro e w2 ⟨rfl,h2,hb2,hb2'⟩;obtain⟨a2,c2,hc2⟩:=h2.cell;have hms:=Ap hc2;clear hme hc1 hb2';have hz2:OkF F base w2:=hz1.mono hb2.size
     cases hlt2:lt (at_ ks (2*i+1)).key (at_ ks i).key with
     |false=>
      go_wp2
      go_ret
      exact⟨⟨_,rfl⟩,ks,hp,hat,hd.done (λk k0 kn kp=>le_trans (wW hlt2) (hm k k0 kn kp)),h2,hbb.trans hb2⟩
     |true=>
      go_wp2_with fail
      refine(sg h2 hc2 hz2 (i:=i) (k:=2*i+1) hik hjk hlk (by omega) (by omega) rfl).mono ?_;rintro e w3 ⟨rfl,h3,hb3⟩
      go_wp2
      refine⟨⟨2*i+1,sN ks i (2*i+1),by first|rfl|simp|(congr 1),by omega,(oF hik hjk).trans hp,?_,h3,?_,(hbb.trans hb2).trans hb3⟩,by simp [intOf];omega⟩
      .rw [mg hik hjk];unfold swp;rw [if_neg (by omega),if_neg (by omega)];exact hat
      .rw [mg hik hjk];exact hd.step (by omega) (by omega) (by unfold par;omega) hm hlt2
    |true=>
     have hm:=afH (key:=Hd.key) (f:=at_ ks) (n:=n) hlt
     go_wp2_with fail
     refine(sf h1 hc1 hgk1 hz1 (i:=2*i+2) (k:=i) hj2k hik hlk (by omega) (by omega) rfl).mono ?_;rintro e w2 ⟨rfl,h2,hb2,hb2'⟩;obtain⟨a2,c2,hc2⟩:=h2.cell;have hms:=Ap hc2;clear hme hc1 hb2';have hz2:OkF F base w2:=hz1.mono hb2.size
     cases hlt2:lt (at_ ks (2*i+2)).key (at_ ks i).key with
     |false=>
      go_wp2
      go_ret
      exact⟨⟨_,rfl⟩,ks,hp,hat,hd.done (λk k0 kn kp=>le_trans (wW hlt2) (hm k k0 kn kp)),h2,hbb.trans hb2⟩
     |true=>
      go_wp2_with fail
      refine(sg h2 hc2 hz2 (i:=i) (k:=2*i+2) hik hj2k hlk (by omega) (by omega) rfl).mono ?_;rintro e w3 ⟨rfl,h3,hb3⟩
      go_wp2
      refine⟨⟨2*i+2,sN ks i (2*i+2),by first|rfl|simp|(congr 1),by omega,(oF hik hj2k).trans hp,?_,h3,?_,(hbb.trans hb2).trans hb3⟩,by simp [intOf];omega⟩
      .rw [mg hik hj2k];unfold swp;rw [if_neg (by omega),if_neg (by omega)];exact hat
      .rw [mg hik hj2k];exact hd.step (by omega) (by omega) (by unfold par;omega) hm hlt2
end Hp
end
noncomputable section
open Go.RowKit Go.Lib Go.Sort
namespace Hp
theorem IW(F:Nat->Prop)(base Q:Nat)(n:Nat)(N:Int)(hN:N=(n:Int))(hs:List Hd)(w:World)(h:QH F w base Q hs)(hg:Good w base hs)(hz:OkF F base w)(hn:n<hs.length)(hl:hs.length<=100000)(hd:Down Hd.key n (at_ hs) 0):
  Calls Tryz.prog 95 #[.iface 126 (.pointer (some ⟨Q,0,none⟩)),.int .i64 0,.int .i64 N] w λe w'=>(∃b,e= .returned (.bool b))/\∃ks,ks.Perm hs/\at_ ks n=at_ hs n/\Heap Hd.key n (at_ ks)/\QH F w' base Q ks/\Kp F w w':=by
 subst hN;exact LZ F base Q n hs w h hg hz hn hl hd
theorem XA{ks:List Hd}{n:Nat}(h:ks.length=n+1):∃ms,ks=ms++ [at_ ks n]/\ms.length=n:=by
 refine⟨ks.take n,?_,by rw [List.length_take];omega⟩;rw [at_lt (by omega)]
 have:=List.take_append_getElem (l:=ks) (i:=n) (by omega)
 rw [this,show n+1=ks.length by omega,List.take_length]
set_option maxRecDepth 100000 in
set_option maxHeartbeats 2000000 in
theorem Qm(F:Nat->Prop)(base Q:Nat)(hs:List Hd)(w:World)(h:QH F w base Q hs)(hg:Good w base hs)(hz:OkF F base w)(h0:0<hs.length)(hl:hs.length<=100000)(hH:Heap Hd.key hs.length (at_ hs)):
  Calls Tryz.prog 72 #[.iface 126 (.pointer (some ⟨Q,0,none⟩))] w λe w'=>∃x ms,e= .returned (.iface 134 (HV x))/\(ms++ [x]).Perm hs/\(∀y∈hs,le x.key y.key)/\Heap Hd.key ms.length (at_ ms)/\QH F w' base Q ms/\Kp F w w':=by
 obtain⟨n,hn⟩:∃n,n+1=hs.length:=⟨hs.length - 1,by omega⟩;obtain⟨a,c,hc⟩:=h.cell;have hml:=ZP hc;have hms:=Ap hc;have hnk:n<hs.length:=by omega
 have hlI:((hs.length:Nat):Int)<=100000:=by omega
 have hlI0:(0:Int)<((hs.length:Nat):Int):=by omega
 have HK:=Lib.hid hn;clear hn
 go_enter Tryz.func72,Tryz.ntmps72
 go_wp2_with fail
 refine(sd a hs.length c w).mono ?_;rintro e w1 ⟨rfl,rfl⟩
 go_wp2_with fail
 refine(sg h hc hz (i:=0) (k:=n) h0 hnk hl (by rfl) (by have:=HK.out;omega) rfl).mono ?_;rintro e w2 ⟨rfl,h2,hb2⟩;have hz2:OkF F base w2:=hz.mono hb2.size;have hp2:=oF h0 hnk;have hg2:=(se hg hp2).kp hz hb2;have hl2:=oD hs 0 n
 have ha2:at_ (sN hs 0 n) n=at_ hs 0:=by
  rw [mg h0 hnk];unfold swp;by_cases e:n=0
  .rw [if_pos e,e]
  .rw [if_neg e,if_pos rfl]
 have hd2:Down Hd.key n (at_ (sN hs 0 n)) 0:=by
  rw [mg h0 hnk]
  have:=hH
  rw [<-HK.out]at this;exact this.down rfl
 clear hml hms hc;have HS:=Lib.hid hl2;clear hl2;generalize sN hs 0 n=js at h2 hp2 hg2 ha2 hd2 HS
 go_wp2_with fail
 refine(IW F base Q n _ (by have:=HK.out;omega) js w2 h2 hg2 hz2 (by rw [HS.out];exact hnk) (by rw [HS.out];exact hl) hd2).mono ?_;rintro e w3 ⟨⟨b,rfl⟩,ks,hp3,ha3,hh3,h3,hb3⟩;obtain⟨ms,hks,hmn⟩:=XA (hp3.length_eq.trans (HS.out.trans HK.out.symm));rw [ha3,ha2]at hks;subst hks;have hz3:OkF F base w3:=hz2.mono hb3.size;have hmp:=λk=>aek k Q w3;have HM:=Lib.hid hmn;have hml:ms.length<=100000:=by omega
 clear hmn
 go_wp2_with fail
 refine(LX F base Q ms (at_ hs 0) w3 h3 hz3 hml).mono ?_;rintro e w4 ⟨rfl,h4,hb4⟩
 go_wp2
 go_ret
 refine⟨at_ hs 0,ms,rfl,hp3.trans hp2,λy hy=> ?_,?_,h4,(hb2.trans hb3).trans hb4⟩
 .obtain⟨k,hk,rfl⟩:=List.mem_iff_getElem.1 hy
  have:=hH.root k hk
  rw [at_lt hk]at this;exact this
 .rw [HM.out];exact hh3.congr (λk hk=>El (by rw [HM.out];exact hk))
end Hp
end
noncomputable section
open Go.RowKit Go.Lib Go.Sort
namespace Hp
@[go_sem] abbrev PV (p:Int×Int):Value:= .agg #[.int .i64 p.1,.int .u64 p.2]
@[go_sem] abbrev SV (s:Sm3):Value:= .agg #[.int .i64 s.1,.int .i64 s.2.1,.int .u64 s.2.2]
def lM(s:Sm3):List Value:= [.int .i64 s.1,.int .i64 s.2.1,.int .u64 s.2.2]
def cellsS(l:List Sm3):List Value:=l.flatMap lM
theorem jz(h:Sm3)(l:List Sm3):cellsS (h::l)=lM h++cellsS l:=rfl
theorem Ma(l m:List Sm3):cellsS (l++m)=cellsS l++cellsS m:=by simp [cellsS]
theorem Mb(l:List Sm3):(cellsS l).length=l.length*3:=by
 induction l with
 |nil=>rfl
 |cons h l ih=>rw [jz,List.length_append,ih];simp [lM];omega
theorem cellsS_at:∀(l:List Sm3) (i j:Nat),i<l.length->j<3->(cellsS l)[i*3+j]? =(lM (at_ l i))[j]?
 | [],i,j,h,hj=>by simp at h
 |x::l,0,j,h,hj=>by
  rw [jz,List.getElem?_append_left (by simp [lM];omega),show 0*3+j=j by omega];rfl
 |x::l,i+1,j,h,hj=>by
  rw [jz,List.getElem?_append_right (by simp [lM];omega)]
  have:=cellsS_at l i j (by simpa using h) hj
  rw [show(i+1)*3+j - (lM x).length=i*3+j by simp [lM];omega,this];rfl
theorem Mc(l:List Sm3):∀u∈cellsS l,u.oneCell'=true:=by
 induction l with
 |nil=>intro u hu;simp [cellsS]at hu
 |cons h l ih=>
  intro u hu;rw [jz]at hu;rcases List.mem_append.1 hu with hu|hu
  .simp only [lM,List.mem_cons,List.not_mem_nil,or_false]at hu;rcases hu with rfl|rfl|rfl<;>rfl
  .exact ih u hu
theorem Ar:∀(l:List Sm3) (i:Nat) (x:Sm3),(((cellsS l).set (i*3) (.int .i64 x.1)).set (i*3+1) (.int .i64 x.2.1)).set (i*3+2) (.int .u64 x.2.2)=cellsS (l.set i x)
 | [],i,x=>by simp [cellsS]
 |y::l,0,x=>rfl
 |y::l,i+1,x=>by
  have ih:=Ar l i x;rw [List.set_cons_succ,jz,jz,<-ih,show(i+1)*3=i*3+3 by omega];rfl
theorem ael:(Tryz.prog.info? 76).map (λi=>(i.zero,i.size,i.bytes))=some (some (.agg #[.int .i64 0,.int .i64 0,.int .u64 0]),3,24):=by kernel_rfl
theorem vm{l:List Value}{i:Nat}{v:Value}(h:l[i]? =some v):l.set i v=l:=by
 apply List.ext_getElem?;intro j;rw [List.getElem?_set];by_cases e:i=j
 .subst e;rw [if_pos rfl,if_pos (List.getElem?_eq_some_iff.1 h).1,h]
 .rw [if_neg e]
theorem Qn{cur:Array Value}{L:List Sm3}{n:Nat}(h:cur.toList.take (n*3)=cellsS L)(i:Nat)(hi:i<L.length)(x:Sm3)(hx:(at_ L i).1=x.1):((cur.setIfInBounds (i*3+1) (.int .i64 x.2.1)).setIfInBounds (i*3+2) (.int .u64 x.2.2)).toList.take (n*3)=cellsS (L.set i x):=by
 rw [Array.toList_setIfInBounds,Array.toList_setIfInBounds,List.take_set,List.take_set,h,<-Ar,vm (i:=i*3)]
 have:=cellsS_at L i 0 hi (by omega)
 rw [Nat.add_zero]at this;rw [this,<-hx];rfl
def wY(A:Int×Int->Int×Int->Int×Int)(L:List Sm3)(s:Sm3):List Sm3:=
 if L≠[]/\(at_ L (L.length - 1)).1=s.1 then L.set (L.length - 1) (s.1,A (at_ L (L.length - 1)).2 s.2)else L++ [s]
theorem qw{w:World}{ops:Array Oper}{rest:List Oper}{o:Oper}{a:Act}{Q:Exit->Act->World->Prop}(hgd:o.guard=none)(s x:Operand)
  (ho:o.op= .call {callee:= .builtin .append,args:=#[s,x],argTypes:=#[39,39]}) (base:Nat) (v:Value) (n:Nat) (L:List Sm3) (hs:a.eval s=v) (hown:w.ownsRow base 76 3 v n (cellsS L))
  (X:Nat) (y:Sm3) (hx:a.eval x= .slice (some ⟨X,0,none⟩) 1 1) (hr:CellsAt w X 76 #[.int .i64 y.1,.int .i64 y.2.1,.int .u64 y.2.2]) (hnm:n<=100000) (hbase:base<=w.heap.size)
  (h:∀v' w',w'.ownsRow base 76 3 v' (n+1) (cellsS (L++ [y]))->w.grownBy w' v.ownBlock->(v'.ownBlock=v.ownBlock∨v'.ownBlock=some w.heap.size)->wpList Tryz.prog ops Q rest (a.put o.dst v') w'):wpList Tryz.prog ops Q (o::rest) a w:=by
 obtain⟨i0,hi0,hz0,hz1,hz2⟩:=xY ael
 refine wpList_append_own_at w hgd s x 39 ho base 76 i0 (.agg #[.int .i64 0,.int .i64 0,.int .u64 0]) 3 24 Tryz.underlying39 hi0 hz0 hz1 hz2 rfl (by decide) v n (cellsS L) hs hown ⟨X,0,none⟩ 1 1 (cellsS [y]) hx rfl ?_ (Mc [y]) (by unfold maxLen;omega) (by omega) hbase
   λv' w' hown' hg _ hat=>h v' w' (by rw [Ma];exact hown') hg hat
 intro j u hj;rw [Em,hr.cell];have hj3:j<3:=by have:=(List.getElem?_eq_some_iff.1 hj).1;simpa [cellsS,lM]using this
 rcases(show j=0∨j=1∨j=2 by omega)with rfl|rfl|rfl
 .exact hj
 .exact hj
 .exact hj
set_option maxRecDepth 100000 in
set_option maxHeartbeats 2000000 in
theorem Qo(base:Nat)(r:Int)(A:Int×Int->Int×Int->Int×Int)(L:List Sm3)(s:Sm3)(a:Option Addr)(n c:Nat)(w:World)(hn:n=L.length)(hown:w.ownsRow base 76 3 (.slice a n c) n (cellsS L))(hz:base<=w.heap.size)(hl:n<=100000)
  (hAdd:∀x y W,Below w.heap.size w W->Calls Tryz.prog 24 #[.int .i64 r,PV x,PV y] W λe w'=>e= .returned (PV (A x y))/\Below W.heap.size W w'):
  Calls Tryz.prog 73 #[.int .i64 r,.slice a n c,SV s] w λe w'=>∃v,e= .returned v/\w'.ownsRow base 76 3 v (wY A L s).length (cellsS (wY A L s))/\w.grownBy w' (Value.slice a n c).ownBlock/\(v.ownBlock=(Value.slice a n c).ownBlock∨∃k,v.ownBlock=some k/\w.heap.size<=k):=by
 have HA:=Lib.hid hAdd;have HN:=Lib.hid hn;clear hAdd hn;have hlI:((n:Nat):Int)<=100000:=by omega
 obtain⟨SB,hSB⟩:∃SB,SB=w.heap.size:=⟨_,rfl⟩;have hC1:CellsAt (w.alloc (.cells #[.int .i64 s.1,.int .i64 s.2.1,.int .u64 s.2.2] 76)) w.heap.size 76 #[.int .i64 s.1,.int .i64 s.2.1,.int .u64 s.2.2]:=World.alloc_heap_new w _;have hB1:Below w.heap.size w (w.alloc (.cells #[.int .i64 s.1,.int .i64 s.2.1,.int .u64 s.2.2] 76)):=bla (Below.refl _ _) _;rw [<-hSB]at hC1;have HSB:=Lib.hid hSB;clear hSB
 go_enter Tryz.func73,Tryz.ntmps73
 by_cases h0:n=0
 .subst h0
  go_wp2
  rw [<-HSB.out];generalize w.alloc (.cells #[.int .i64 s.1,.int .i64 s.2.1,.int .u64 s.2.2] 76)=W1 at hC1 hB1 ⊢;have s0:W1.cell? ⟨SB,0,none⟩=some (.int .i64 s.1):=hC1.cell 0;have s1:W1.cell? ⟨SB,1,none⟩=some (.int .i64 s.2.1):=hC1.cell 1;have s2:W1.cell? ⟨SB,2,none⟩=some (.int .u64 s.2.2):=hC1.cell 2;have kS:=Has.of hC1.lt
  go_quiet (fail)
  go_wp2_with (refine qw rfl _ _ rfl base (.slice a 0 c) 0 L rfl (kw hown (show Below w.heap.size w _ from bla (bld hB1) _)) _ s rfl (World.alloc_heap_new _ _) (by omega) (Nat.le_trans hz (bla (bld hB1) _).size) ?_;intro v' w3 hown3 hg3 hat3)
  go_ret
  have hp:wY A L s=L++ [s]:=if_neg (λh=>h.1 (List.eq_nil_of_length_eq_zero HN.out.symm));rw [hp,gN,<-HN.out];exact⟨v',rfl,hown3,(iv (bla (bld hB1) _) _).trans hg3,hat3.elim .inl (λe=> .inr ⟨_,e,(bla (bld hB1) _).size⟩)⟩
 .obtain⟨m,rfl⟩:∃m,n=m+1:=⟨n - 1,by omega⟩;obtain⟨g,cap,cur,e,hbg,hg,hnc,hcm,hcs,htake⟩:=hown.2.resolve_left (λh=>h0 h.2);cases e;have hC:CellsAt w g 76 cur:=hg;have hml:m<L.length:=by rw [<-HN.out];omega
  have g0:=hown.cells (g:=g) rfl (m*3) _ ((cellsS_at L m 0 hml (by omega)).trans rfl);have g1:=hown.cells (g:=g) rfl (m*3+1) _ ((cellsS_at L m 1 hml (by omega)).trans rfl);have g2:=hown.cells (g:=g) rfl (m*3+2) _ ((cellsS_at L m 2 hml (by omega)).trans rfl);rw [Em]at g0 g1 g2;have hgl:=hC.lt;have hm0:¬((m:Nat):Int)<0:=by omega
  have hm1:decide (((m:Nat):Int)<0)=false:=decide_eq_false hm0;have hmi:((m:Nat):Int)<((m:Nat):Int)+1:=by omega
  have hlm:at_ L m=at_ L (L.length - 1):=by rw [<-HN.out];rfl
  generalize hy:at_ L m=y at g0 g1 g2 hlm;have HY:=Lib.hid hy;have HLM:=Lib.hid hlm;clear hy hlm
  go_wp2
  rw [<-HSB.out];generalize w.alloc (.cells #[.int .i64 s.1,.int .i64 s.2.1,.int .u64 s.2.2] 76)=W1 at hC1 hB1 ⊢;have s0:W1.cell? ⟨SB,0,none⟩=some (.int .i64 s.1):=hC1.cell 0;have s1:W1.cell? ⟨SB,1,none⟩=some (.int .i64 s.2.1):=hC1.cell 1;have s2:W1.cell? ⟨SB,2,none⟩=some (.int .u64 s.2.2):=hC1.cell 2;have kS:=Has.of hC1.lt;replace g0:W1.cell? ⟨g,m*3,none⟩=some (.int .i64 y.1):=(hB1.cell (p:=⟨g,m*3,none⟩) hgl).trans g0;replace g1:W1.cell? ⟨g,m*3+1,none⟩=some (.int .i64 y.2.1):=(hB1.cell (p:=⟨g,m*3+1,none⟩) hgl).trans g1;replace g2:W1.cell? ⟨g,m*3+2,none⟩=some (.int .u64 y.2.2):=(hB1.cell (p:=⟨g,m*3+2,none⟩) hgl).trans g2;have kg:=Has.of (hC.below hB1).lt;by_cases hAt:y.1=s.1
  .have HAT:=Lib.hid hAt;rw [hAt]at g0;clear hAt
   go_quiet (fail)
   go_wp2
   have hB2:Below w.heap.size w (W1.drewN nq):=bld hB1;have hC2:CellsAt (W1.drewN nq) g 76 cur:=hC.below hB2;have hS2:CellsAt (W1.drewN nq) SB 76 #[.int .i64 s.1,.int .i64 s.2.1,.int .u64 s.2.2]:=hC1;replace s1:(W1.drewN nq).cell? ⟨SB,1,none⟩=some (.int .i64 s.2.1):=s1;replace s2:(W1.drewN nq).cell? ⟨SB,2,none⟩=some (.int .u64 s.2.2):=s2;replace g1:(W1.drewN nq).cell? ⟨g,m*3+1,none⟩=some (.int .i64 y.2.1):=g1;replace g2:(W1.drewN nq).cell? ⟨g,m*3+2,none⟩=some (.int .u64 y.2.2):=g2;clear s0 g0 kS kg hC1 hB1;generalize W1.drewN nq=W2 at hB2 hC2 hS2 s1 s2 g1 g2 ⊢;have kS:=Has.of hS2.lt;have kg:=Has.of hC2.lt;have lS:=hS2.lt;have lg:=hC2.lt;have hkp:∀W,Below W2.heap.size W2 W->W.cell? ⟨g,m*3+1,none⟩=some (.int .i64 y.2.1)/\W.cell? ⟨g,m*3+2,none⟩=some (.int .u64 y.2.2)/\W.cell? ⟨SB,1,none⟩=some (.int .i64 s.2.1)/\W.cell? ⟨SB,2,none⟩=some (.int .u64 s.2.2):=λW hW=>⟨(hW.cell (p:=⟨g,m*3+1,none⟩) lg).trans g1,(hW.cell (p:=⟨g,m*3+2,none⟩) lg).trans g2,(hW.cell (p:=⟨SB,1,none⟩) lS).trans s1,(hW.cell (p:=⟨SB,2,none⟩) lS).trans s2⟩;have bd:Below W2.heap.size W2 W2.drew:=⟨rfl,rfl,rfl,Nat.le_refl _,λ_ _=>rfl⟩;have bdn:∀k,Below W2.heap.size W2 (W2.drewN k):=λk=>bld (Below.refl _ _)
   go_region_with (first|(go_at_call 24;refine(HA.out y.2 s.2 _ (by first|exact hB2.trans (bd.mono hB2.size)|exact hB2.trans ((bdn _).mono hB2.size)|exact hB2)).mono ?_;rintro e w3 ⟨rfl,hb3⟩;have hBX:Below W2.heap.size W2 w3:=(by first|exact bd.trans hb3|exact(bdn _).trans hb3|exact hb3);have hC3:=hC2.below hBX;have tf1:=hC3.frozen (m*3+1);have tf2:=(hC3.set (m*3+1) (.int .i64 (A y.2 s.2).1)).frozen (m*3+2);have tf3:=hC3.frozen (m*3+2);have kg3:=Has.of hC3.lt;obtain⟨u1,z1⟩:∃u,w3.cell? ⟨g,m*3+1,none⟩=some u:=⟨_,(hkp _ hBX).1⟩;obtain⟨u2,z2⟩:∃u,w3.cell? ⟨g,m*3+2,none⟩=some u:=⟨_,(hkp _ hBX).2.1⟩))
   all_goals (
    go_wp2
    go_ret
    have hLm:L.length - 1=m:=by rw [<-HN.out];rfl
    have hp:wY A L s=L.set m (s.1,A y.2 s.2):=by
     unfold wY;rw [<-HLM.out,hLm];exact if_pos ⟨λe=>by rw [e]at hml;simp at hml,HAT.out⟩
    have hG:=((iv (hB2.trans (hBX.mono hB2.size)) (some g)).trans (bV w3 g (m*3+1) (.int .i64 (A y.2 s.2).1))).trans (bV _ g (m*3+2) (.int .u64 (A y.2 s.2).2));refine⟨.slice (some ⟨g,0,none⟩) (m+1) c,rfl,?_,hG,.inl rfl⟩;rw [hp,List.length_set,<-HN.out]
    exact⟨by rw [Mb,List.length_set,HN.out],.inr ⟨g,c,_,rfl,hbg,((hC3.set (m*3+1) (.int .i64 (A y.2 s.2).1)).set (m*3+2) (.int .u64 (A y.2 s.2).2)),hnc,hcm,by simp only [Array.size_setIfInBounds];exact hcs,Qn htake m hml (s.1,A y.2 s.2) (by rw [HY.out];exact HAT.out)⟩⟩)
  .have hb:(y.1 !=s.1)=true:=by simpa using hAt
   go_quiet (fail)
   go_wp2_with (refine qw rfl _ _ rfl base (.slice (some ⟨g,0,none⟩) (m+1) c) (m+1) L rfl (kw hown (show Below w.heap.size w _ from bla (bld hB1) _)) _ s rfl (World.alloc_heap_new _ _) (by omega) (Nat.le_trans hz (bla (bld hB1) _).size) ?_;intro v' w3 hown3 hg3 hat3)
   go_ret
   have hp:wY A L s=L++ [s]:=if_neg (λh=>hAt (by rw [HLM.out];exact h.2));rw [hp,gN,<-HN.out];exact⟨v',rfl,hown3,(iv (bla (bld hB1) _) _).trans hg3,hat3.elim .inl (λe=> .inr ⟨_,e,(bla (bld hB1) _).size⟩)⟩
end Hp
end
noncomputable section
open Go.RowKit Go.Lib Go.Sort
namespace Hp
def tot(hs:List Hd):Nat:=(hs.map (λh=>h.l.length)).sum
theorem As{a b:List Hd}(h:a.Perm b):tot a=tot b:=by
 induction h with
 |nil=>rfl
 |cons x _ ih=>unfold tot at*;simp [ih]
 |swap x y l=>unfold tot;simp;omega
 |trans _ _ h1 h2=>exact h1.trans h2
theorem IX(a:List Hd)(x:Hd):tot (a++ [x])=tot a+x.l.length:=by simp [tot]
inductive Ext:List Hd->List (Int×Sm3)->Prop
 |nil:Ext [] []
 |last {hs ms:List Hd} {x:Hd} {s:Sm3} {seq:List (Int×Sm3)}:(ms++ [x]).Perm hs->x.l= [s]->(∀y∈hs,le x.key y.key)->Ext ms seq->Ext hs ((x.k,s)::seq)
 |more {hs ms ks:List Hd} {x x':Hd} {s:Sm3} {t:List Sm3} {seq:List (Int×Sm3)}:(ms++ [x]).Perm hs->x.l=s::t->t≠[]->x'.k=x.k->x'.l=t->ks.Perm (ms++ [x'])->(∀y∈hs,le x.key y.key)->Ext ks seq->Ext hs ((x.k,s)::seq)
theorem Ext.perm{hs ks:List Hd}{seq:List (Int×Sm3)}(h:Ext hs seq)(hp:hs.Perm ks):Ext ks seq:=by
 cases h with
 |nil=>rw [hp.symm.eq_nil];exact .nil
 |last h1 h2 h3 h4=>exact .last (h1.trans hp) h2 (λy hy=>h3 y (hp.mem_iff.2 hy)) h4
 |more h1 h2 h3 h4 h5 h6 h7 h8=>exact .more (h1.trans hp) h2 h3 h4 h5 h6 (λy hy=>h7 y (hp.mem_iff.2 hy)) h8
def outOf(A:Int×Int->Int×Int->Int×Int)(seq:List (Int×Sm3)):List Sm3:=seq.foldl (λo x=>wY A o x.2) []
theorem Md(A:Int×Int->Int×Int->Int×Int)(d:List (Int×Sm3))(x:Int×Sm3):outOf A (d++ [x])=wY A (outOf A d) x.2:=by simp [outOf]
theorem TJ(A:Int×Int->Int×Int->Int×Int)(L:List Sm3)(s:Sm3):(wY A L s).length<=L.length+1/\0<(wY A L s).length:=by
 unfold wY;split
 .rename_i h;rw [List.length_set];exact⟨by omega,List.length_pos_iff.2 h.1⟩
 .simp
theorem TK{F:Nat->Prop}{w w':World}{base n:Nat}{e:TypeId}{s:Nat}{v:Value}{xs:List Value}(h:w.ownsRow base e s v n xs)(hF:∀k,v.ownBlock=some k->F k)(hb:Kp F w w'):w'.ownsRow base e s v n xs:=by
 refine⟨h.1,?_⟩;rcases h.2 with h0|⟨g,cap,cur,e,hbg,hg,hr⟩
 .exact .inl h0
 .subst e;have hlt:=(h.lt g rfl).2;exact .inr ⟨g,cap,cur,rfl,hbg,(hb.2 g (hF g rfl) hlt).trans hg,hr⟩
def FV(base:Nat)(v:Value):Nat->Prop:=λk=>k<base∨v.ownBlock=some k
theorem FV.ok{w:World}{base n:Nat}{e:TypeId}{s:Nat}{v:Value}{xs:List Value}(h:w.ownsRow base e s v n xs)(hz:base<=w.heap.size):OkF (FV base v) base w:=⟨λk hk=> .inl hk,λk hk=>by
 rcases hk with hk|hk
 .omega
 .exact(h.lt k hk).2⟩
theorem QH.lt{F:Nat->Prop}{w:World}{base Q:Nat}{hs:List Hd}(h:QH F w base Q hs):Q<w.heap.size:=by
 obtain⟨_,a,c,hC,_⟩:=h;exact hC.lt
theorem QH.put{w w':World}{base Q:Nat}{hs:List Hd}{v v':Value}(h:QH (FV base v) w base Q hs)(hg:w.grownBy w' v.ownBlock)(hv:v'.ownBlock=v.ownBlock∨∃k,v'.ownBlock=some k/\w.heap.size<=k):QH (FV base v') w' base Q hs:=by
 have hq:=h.lt;obtain⟨h1,a,c,hC,ho,hn⟩:=h
 have key:∀g,g<w.heap.size->¬FV base v g->¬FV base v' g:=λg hg hf hf'=>by
  rcases hf' with h|h
  .exact hf (.inl h)
  .rcases hv with e|⟨k,e,hk⟩
   .exact hf (.inr (e▸h))
   .rw [e]at h;cases h;omega
 refine⟨key Q hq h1,a,c,hC.grown hg (λe=>h1 (.inr e.symm)),ho.kept hg ?_,λg hgo=>⟨(hn g hgo).1,key g (ho.lt g hgo).2 (hn g hgo).2⟩⟩;by_cases e:(Value.slice a hs.length c).ownBlock=none
 .exact .inl e
 .refine .inr (λe2=> ?_);obtain⟨g,hgv⟩:=Option.ne_none_iff_exists'.1 e;exact(hn g hgv).2 (.inr (e2.symm.trans hgv))
theorem QH.wide{F G:Nat->Prop}{w:World}{base Q:Nat}{hs:List Hd}(h:QH F w base Q hs)(hFG:∀k,G k->F k):QH G w base Q hs:=by
 obtain⟨h1,a,c,hC,ho,hn⟩:=h;exact⟨λg=>h1 (hFG _ g),a,c,hC,ho,λg hg=>⟨(hn g hg).1,λe=>(hn g hg).2 (hFG _ e)⟩⟩
theorem RdS.tail{w:World}{base:Nat}{b:Addr}{s:Sm3}{t:List Sm3}(h:RdS w base (some b) (s::t)):RdS w base (some (b.add 3)) t:=by
 intro i hi;obtain⟨b',e,hl,c0,c1,c2⟩:=h (i+1) (by simp;omega);cases e
 have ad:∀k,(b.add 3).add k=b.add (3+k):=λk=>by
  unfold Addr.add;by_cases hk:k=0
  .subst hk;simp
  .simp [hk];omega
 refine⟨b.add 3,rfl,by rw [vk];exact hl,?_,?_,?_⟩
 .rw [ad,show 3+i*3=(i+1)*3 by omega];simpa using c0
 .rw [ad,show 3+(i*3+1)=(i+1)*3+1 by omega];simpa using c1
 .rw [ad,show 3+(i*3+2)=(i+1)*3+2 by omega];simpa using c2
def ne(hs:List Hd):List Hd:=hs.filter (λh=> !h.l.isEmpty)
theorem IY{hs:List Hd}{x:Hd}(h:x.l= []):ne (hs++ [x])=ne hs:=by simp [ne,h]
theorem XB{hs:List Hd}{x:Hd}(h:x.l≠[]):ne (hs++ [x])=ne hs++ [x]:=by
 have:x.l.isEmpty=false:=by simpa using h
 simp [ne,this]
theorem XC{hs:List Hd}{i:Nat}(h:i<hs.length):hs.take (i+1)=hs.take i++ [at_ hs i]:=by
 rw [at_lt h,List.take_append_getElem]
end Hp
end
noncomputable section
open Go.RowKit Go.Lib Go.Sort
namespace Hp
abbrev Evt:=Int×Sm3
def kl(x:Evt):Int×Int:=(x.2.1,x.1)
def evts(H:List Hd):List Evt:=H.flatMap (λh=>h.l.map (λs=>(h.k,s)))
def Ris(l:List Sm3):Prop:=l.Pairwise (λa b=>a.1<b.1)
theorem iw(h:Hd)(H:List Hd):evts (h::H)=h.l.map (λs=>(h.k,s))++evts H:=rfl
theorem At(a b:List Hd):evts (a++b)=evts a++evts b:=by simp [evts]
theorem wZ{a b:List Hd}(h:a.Perm b):(evts a).Perm (evts b):=by
 induction h with
 |nil=>exact .refl _
 |cons x _ ih=>rw [iw,iw];exact ih.append_left _
 |swap x y l=>
  rw [iw,iw,iw,iw,<-List.append_assoc,<-List.append_assoc];exact List.perm_append_comm.append_right _
 |trans _ _ h1 h2=>exact h1.trans h2
theorem Au{hs:List Hd}{seq:List Evt}(h:Ext hs seq):seq.Perm (evts hs):=by
 induction h with
 |nil=>exact .refl _
 | @last hs ms x s seq h1 h2 h3 h4 ih=>
  refine List.Perm.trans ?_ (wZ h1);rw [At]
  have:evts [x]= [(x.k,s)]:=by simp [evts,h2]
  rw [this];exact(ih.cons _).trans (List.perm_append_singleton _ _).symm
 | @more hs ms ks x x' s t seq h1 h2 h3 h4 h5 h6 h7 h8 ih=>
  refine List.Perm.trans ?_ (wZ h1);have e1:evts [x]=(x.k,s)::t.map (λs=>(x.k,s)):=by simp [evts,h2]
  have e2:evts [x']=t.map (λs=>(x.k,s)):=by simp [evts,h5,h4]
  rw [At,e1]
  have:=ih.trans (wZ h6)
  rw [At,e2]at this;exact(this.cons _).trans List.perm_middle.symm
theorem OC{hs:List Hd}(hr:∀h∈hs,Ris h.l){e:Evt}(he:e∈evts hs):∃h∈hs,le h.key (kl e):=by
 unfold evts at he;rw [List.mem_flatMap]at he;obtain⟨h,hm,he⟩:=he;rw [List.mem_map]at he;obtain⟨s,hs',rfl⟩:=he;refine⟨h,hm,?_⟩;have hR:=hr h hm;unfold Hd.key kl
 cases hl:h.l with
 |nil=>rw [hl]at hs';cases hs'
 |cons a l=>
  rw [hl]at hs' hR;rw [le_iff];simp only [List.headD_cons];unfold Ris at hR;rw [List.pairwise_cons]at hR;rcases List.mem_cons.1 hs' with rfl|hm2
  .exact .inr ⟨rfl,Int.le_refl _⟩
  .exact .inl (hR.1 s hm2)
theorem Me{hs:List Hd}{seq:List Evt}(h:Ext hs seq)(hr:∀h∈hs,Ris h.l):seq.Pairwise (λa b=>le (kl a) (kl b)):=by
 have H:=h
 induction h with
 |nil=>exact .nil
 | @last hs ms x s seq h1 h2 h3 h4 ih=>
  have hp:=Au H;refine List.pairwise_cons.2 ⟨λe he=> ?_,ih (λh hm=>hr h (h1.mem_iff.1 (by simp [hm]))) h4⟩;obtain⟨h,hm,hl⟩:=OC hr (hp.mem_iff.1 (List.mem_cons_of_mem _ he));have hk:kl (x.k,s)=x.key:=by simp [kl,Hd.key,h2]
  rw [hk];exact le_trans (h3 h hm) hl
 | @more hs ms ks x x' s t seq h1 h2 h3 h4 h5 h6 h7 h8 ih=>
  have hp:=Au H;refine List.pairwise_cons.2 ⟨λe he=> ?_,ih (λh hm=> ?_) h8⟩
  .obtain⟨h,hm,hl⟩:=OC hr (hp.mem_iff.1 (List.mem_cons_of_mem _ he));have hk:kl (x.k,s)=x.key:=by simp [kl,Hd.key,h2]
   rw [hk];exact le_trans (h7 h hm) hl
  .rcases List.mem_append.1 (h6.mem_iff.1 hm)with hm|hm
   .exact hr h (h1.mem_iff.1 (by simp [hm]))
   .rw [List.mem_singleton.1 hm,h5]
    have:=hr x (h1.mem_iff.1 (by simp))
    rw [h2]at this;exact(List.pairwise_cons.1 this).2
theorem aem{α:Type}{R:α->α->Prop}:∀(l m:List α),l.Perm m->l.Pairwise R->m.Pairwise R->(∀a∈l,∀b∈l,R a b->R b a->a=b)->l=m
 | [],m,hp,_,_,_=>(hp.symm.eq_nil).symm
 |a::l,m,hp,hl,hm,h=>by
  cases m with
  |nil=>exact absurd hp.eq_nil (by simp)
  |cons b m=>
   have e:a=b:=by
    rcases List.mem_cons.1 (hp.mem_iff.1 (List.mem_cons_self))with e|ha
    .exact e
    .rcases List.mem_cons.1 (hp.mem_iff.2 (List.mem_cons_self))with e|hb
     .exact e.symm
     .exact h a (List.mem_cons_self) b (List.mem_cons_of_mem _ hb) ((List.pairwise_cons.1 hl).1 b hb) ((List.pairwise_cons.1 hm).1 a ha)
   subst e;rw [aem l m hp.cons_inv (List.pairwise_cons.1 hl).2 (List.pairwise_cons.1 hm).2 (λa ha b hb=>h a (List.mem_cons_of_mem _ ha) b (List.mem_cons_of_mem _ hb))]
def dm(x:Evt):List Evt->List Evt
 | []=> [x]
 |y::l=>if lt (kl y) (kl x)=true then y::dm x l else x::y::l
def sortE:List Evt->List Evt
 | []=> []
 |x::l=>dm x (sortE l)
theorem xb(x:Evt):∀l,(dm x l).Perm (x::l)
 | []=> .refl _
 |y::l=>by
  unfold dm;split
  .exact((xb x l).cons y).trans (.swap x y l)
  .exact .refl _
theorem Av:∀l,(sortE l).Perm l
 | []=> .refl _
 |x::l=>(xb x _).trans ((Av l).cons x)
theorem xZ(x:Evt):∀l:List Evt,l.Pairwise (λa b=>le (kl a) (kl b))->(dm x l).Pairwise (λa b=>le (kl a) (kl b))
 | [],_=>by simp [dm]
 |y::l,h=>by
  have h2:=List.pairwise_cons.1 h;unfold dm;split
  .rename_i hc;refine List.pairwise_cons.2 ⟨λe he=> ?_,xZ x l h2.2⟩;rcases List.mem_cons.1 ((xb x l).mem_iff.1 he)with rfl|he
   .exact le_of_lt hc
   .exact h2.1 e he
  .rename_i hc;have hc':lt (kl y) (kl x)=false:=by simpa using hc
   refine List.pairwise_cons.2 ⟨λe he=> ?_,h⟩;rcases List.mem_cons.1 he with rfl|he
   .exact hc'
   .exact le_trans hc' (h2.1 e he)
theorem vn:∀l:List Evt,(sortE l).Pairwise (λa b=>le (kl a) (kl b))
 | []=> .nil
 |x::l=>xZ x _ (vn l)
theorem XD(H:List Hd):evts (ne H)=evts H:=by
 induction H with
 |nil=>rfl
 |cons x H ih=>
  unfold ne at*;rw [List.filter_cons]
  cases hx:x.l with
  |nil=>simp only [List.isEmpty_nil,Bool.not_true];rw [if_neg (by simp),ih,iw,hx];rfl
  |cons s t=>simp only [List.isEmpty_cons,Bool.not_false];rw [if_pos trivial,iw,ih,iw]
theorem TL{l:List Sm3}(h:Ris l){a b:Sm3}(ha:a∈l)(hb:b∈l)(e:a.1=b.1):a=b:=by
 induction l with
 |nil=>cases ha
 |cons x l ih=>
  have h2:=List.pairwise_cons.1 h;rcases List.mem_cons.1 ha with rfl|ha'
  .rcases List.mem_cons.1 hb with rfl|hb'
   .rfl
   .have:=h2.1 b hb';omega
  .rcases List.mem_cons.1 hb with rfl|hb'
   .have:=h2.1 a ha';omega
   .exact ih h2.2 ha' hb'
theorem ext_eq{H:List Hd}{seq:List Evt}(h:Ext (ne H) seq)(hr:∀h∈H,Ris h.l)(hk:∀i,i<H.length->(at_ H i).k=(i:Int)):seq=sortE (evts H):=by
 have hp:=Au h;rw [XD]at hp;have hn:∀h∈ne H,h∈H:=λh hm=>(List.mem_filter.1 hm).1;refine aem _ _ (hp.trans (Av _).symm) (Me h (λh hm=>hr h (hn h hm))) (vn _) (λa ha b hb h1 h2=> ?_);have ma:=hp.mem_iff.1 ha;have mb:=hp.mem_iff.1 hb;unfold evts at ma mb;rw [List.mem_flatMap]at ma mb;obtain⟨x,hx,ma⟩:=ma;obtain⟨y,hy,mb⟩:=mb;rw [List.mem_map]at ma mb;obtain⟨s,hs,rfl⟩:=ma;obtain⟨u,hu,rfl⟩:=mb;unfold kl at h1 h2;rw [le_iff]at h1 h2;simp only at h1 h2;obtain⟨i,hi,rfl⟩:=List.mem_iff_getElem.1 hx;obtain⟨j,hj,rfl⟩:=List.mem_iff_getElem.1 hy;have ki:=hk i hi;have kj:=hk j hj;rw [at_lt hi]at ki;rw [at_lt hj]at kj;have e:i=j:=by omega
 subst e
 have:=TL (hr _ hx) hs hu (by omega)
 rw [this]
end Hp
end
noncomputable section
namespace Ev
namespace KM
end KM
end Ev
namespace Sm
namespace Mg
open Go Ev Ev.KM
def qJ:List (Int×Int×Int)->Bool
 | []=>true
 |a::r=>match r with
  | []=>true
  |b::_=>decide (a.1<b.1)&& qJ r
theorem Aw(a b:Int×Int×Int)(r:List (Int×Int×Int)):qJ (a::b::r)=(decide (a.1<b.1)&& qJ (b::r)):=rfl
theorem IZ:∀l:List (Int×Int×Int),qJ l=true↔Hp.Ris l
 | []=>by simp [qJ,Hp.Ris]
 | [a]=>by simp [qJ,Hp.Ris]
 |a::b::r=>by
  have ih:=IZ (b::r);rw [Aw,Bool.and_eq_true,ih,decide_eq_true_eq];unfold Hp.Ris;constructor
  .rintro⟨h1,h2⟩;refine List.pairwise_cons.2 ⟨λc hc=> ?_,h2⟩;rcases List.mem_cons.1 hc with rfl|hc
   .exact h1
   .have:=(List.pairwise_cons.1 h2).1 c hc;omega
  .intro h;have h2:=List.pairwise_cons.1 h;exact⟨h2.1 b (by simp),h2.2⟩
theorem Qp:∀(l:List (Int×Int×Int)) (j:Nat),0<j->(hj:j<l.length)->qJ (l.drop (j - 1))=(decide (l[j - 1].1<l[j].1)&& qJ (l.drop j)):=by
 intro l j h0 hj
 have e1:l.drop (j - 1)=l[j - 1]::l.drop j:=by
  rw [List.drop_eq_getElem_cons (by omega)];congr 2;omega
 rw [e1,List.drop_eq_getElem_cons hj,Aw]
theorem Gn{x:Sl (Int×Int×Int)}(hs:x.l= []∨x.sz=3)(hn:x.l.length<=9223372036854775807):ku x=some (qJ x.l):=by
 rw [Dh]
 have h1:∀j:Nat,0<j->(hj:j<x.l.length)->gQ x j=some (if x.l[j - 1].1<x.l[j].1 then .inl ((j+1:Nat):Int)else .inr (.inr (.inl false))):=λj h0 hj=>by
  unfold gQ;rw [if_pos (by omega),show IntKind.i64.wrap ((j:Int) - 1)=((j - 1:Nat):Int)by rw [cY (by omega) (by omega)];omega,cg hs hj,cg hs (show j - 1<x.l.length by omega)];simp only [zbS,ci hj hn];by_cases hc:x.l[j - 1].1<x.l[j].1
  .rw [if_neg (by omega),if_pos hc]
  .rw [if_pos (by omega),if_neg hc]
 have h2:∀j:Nat,x.l.length<=j->gQ x j=some (.inr (.inl ())):=λj hj=>by
  unfold gQ;rw [if_neg (by omega)]
 by_cases hl:x.l.length<=1
 .rw [show(1:Int)=((1:Nat):Int)from rfl,jv (h2 1 hl)]
  match x.l,hl with
  | [],_=>rfl
  | [a],_=>rfl
  |a::b::r,hl=>simp at hl
 obtain⟨r,e1,e2⟩:=cr (b:=gQ x) x.l.length (λj a=>0<j/\a=(j:Int)/\qJ x.l=qJ (x.l.drop (j - 1))) (λr=>(qJ x.l=true/\r= .inl ())∨(qJ x.l=false/\r= .inr (.inl false)))
  (by
   rintro j _ hj ⟨h0,rfl,hr⟩;rw [h1 j h0 hj];rw [Qp _ j h0 hj]at hr;by_cases hk:x.l[j - 1].1<x.l[j].1
   .rw [if_pos hk];exact .inl ⟨_,rfl,by omega,rfl,by rw [hr,decide_eq_true hk];simp⟩
   .rw [if_neg hk];exact .inr ⟨_,rfl,.inr ⟨by rw [hr,decide_eq_false hk];rfl,rfl⟩⟩)
  (by
   rintro _ ⟨h0,rfl,hr⟩;refine⟨_,h2 _ (Nat.le_refl _),.inl ⟨?_,rfl⟩⟩;rw [hr,List.drop_eq_getElem_cons (by omega),show x.l.length - 1+1=x.l.length by omega,List.drop_length]
   rfl)
  1 (by omega) ((1:Nat):Int) ⟨by omega,rfl,by simp⟩
 rw [show(1:Int)=((1:Nat):Int)from rfl,e1];rcases e2 with⟨g1,rfl⟩|⟨g1,rfl⟩
 .rw [g1];rfl
 .rw [g1];rfl
end Mg
end Sm
end
noncomputable section
namespace Sm
abbrev V:=Int×Int
structure Rg where
 o:Int->V
 ad:V->V->V
 na:V->Int×Bool
abbrev Ky:=Int×Int
def key(e:Int×Int×Int):Ky:=(e.1,e.2.1)
def klt(a b:Ky):Bool:=decide (a.1<b.1∨a.1=b.1/\a.2<b.2)
theorem zE(a:Ky):klt a a=false:=by simp [klt]
theorem Eo{a b c:Ky}(h1:klt a b=true)(h2:klt b c=true):klt a c=true:=by simp [klt]at*;omega
theorem OD{a b:Ky}(h1:klt a b=false)(h2:klt b a=false):a=b:=by
 simp [klt]at*;refine Prod.ext ?_ ?_<;>omega
theorem abx{a b:Ky}(h:klt a b=true):a≠b:=by rintro rfl;rw [zE]at h;cases h
def toE(R:Rg)(p:Ky×V):Int×Int×Int:=(p.1.1,p.1.2,(R.na p.2).1)
def upd(R:Rg)(f:Ky->Option V)(e:Int×Int×Int):Ky->Option V:=λk=>if k=key e then some (match f (key e)with|some s=>R.ad s (R.o e.2.2)|none=>R.o e.2.2)else f k
def fm(R:Rg)(l:List (Int×Int×Int)):Ky->Option V:=l.foldl (upd R) (λ_=>none)
def ins(R:Rg):List (Ky×V)->(Int×Int×Int)->List (Ky×V)
 | [],e=> [(key e,R.o e.2.2)]
 |p::S,e=>if klt p.1 (key e)=true then p::ins R S e else if klt (key e) p.1=true then(key e,R.o e.2.2)::p::S else(p.1,R.ad p.2 (R.o e.2.2))::S
def canS(R:Rg)(l:List (Int×Int×Int)):List (Ky×V):=l.foldl (ins R) []
theorem Qq(R:Rg)(l:List (Int×Int×Int))(e:Int×Int×Int):canS R (l++ [e])=ins R (canS R l) e:=by simp [canS]
def Rep(S:List (Ky×V))(f:Ky->Option V):Prop:=S.Pairwise (λp q=>klt p.1 q.1=true)/\∀k z,(k,z)∈S↔f k=some z
theorem Rep.nil:Rep [] (λ_=>none):=⟨List.Pairwise.nil,by simp⟩
theorem OE(R:Rg)(e:Int×Int×Int):∀(S:List (Ky×V)) (q:Ky×V),q∈ins R S e->q.1=key e∨q∈S
 | [],q,h=>by simp [ins]at h;subst h;exact .inl rfl
 |p::S,q,h=>by
  unfold ins at h;split at h
  .rcases List.mem_cons.1 h with rfl|h
   .exact .inr (by simp)
   .rcases OE R e S q h with h|h
    .exact .inl h
    .exact .inr (by simp [h])
  .split at h
   .rcases List.mem_cons.1 h with rfl|h
    .exact .inl rfl
    .exact .inr h
   .rename_i h1 h2;rcases List.mem_cons.1 h with rfl|h
    .exact .inl (OD (by simpa using h1) (by simpa using h2))
    .exact .inr (by simp [h])
theorem Ay(R:Rg)(e:Int×Int×Int):∀(S:List (Ky×V)),S.Pairwise (λp q=>klt p.1 q.1=true)->(ins R S e).Pairwise (λp q=>klt p.1 q.1=true)
 | [],_=>by simp [ins]
 |p::S,h=>by
  obtain⟨h1,h2⟩:=List.pairwise_cons.1 h;unfold ins;split
  .rename_i hp;refine List.pairwise_cons.2 ⟨λq hq=> ?_,Ay R e S h2⟩;rcases OE R e S q hq with h|h
   .rw [h];exact hp
   .exact h1 q h
  .split
   .rename_i hp;refine List.pairwise_cons.2 ⟨λq hq=> ?_,h⟩;rcases List.mem_cons.1 hq with rfl|hq
    .exact hp
    .exact Eo hp (h1 q hq)
   .exact List.pairwise_cons.2 ⟨h1,h2⟩
theorem aby(R:Rg)(e:Int×Int×Int):∀(S:List (Ky×V)) (f:Ky->Option V),Rep S f->Rep (ins R S e) (upd R f e)
 |S,f,h=>⟨Ay R e S h.1,by
  intro k z
  have hmem:∀(S:List (Ky×V)),S.Pairwise (λp q=>klt p.1 q.1=true)->((k,z)∈ins R S e↔if k=key e then(∃s,(k,s)∈S/\z=R.ad s (R.o e.2.2))∨((∀s,(k,s)∉ S)/\z=R.o e.2.2)else(k,z)∈S):=by
   intro S
   induction S with
   |nil=>intro _;simp [ins,key]
   |cons p S ih=>
    intro hs;obtain⟨h1,h2⟩:=List.pairwise_cons.1 hs;unfold ins;split
    .rename_i hp;rw [List.mem_cons,ih h2];by_cases hk:k=key e
     .have hne:∀s,(k,s)≠p:=λs hs=>abx hp (by rw [<-hs];exact hk);simp [hk];rw [<-hk];simp [hne]
     .simp [hk]
    .split
     .rename_i hp0 hp
      have hno:∀s,(key e,s)∉ p::S:=by
       intro s hs;rcases List.mem_cons.1 hs with rfl|hs
       .rw [zE]at hp;cases hp
       .have:=Eo hp (h1 _ hs)
        rw [zE]at this;cases this
      by_cases hk:k=key e
      .subst hk;rw [List.mem_cons];simp only [if_true];constructor
       .rintro(h|h)
        .exact .inr ⟨hno,by cases h;rfl⟩
        .exact absurd h (hno _)
       .rintro(⟨s,h,_⟩|⟨_,rfl⟩)
        .exact absurd h (hno _)
        .exact .inl rfl
      .rw [List.mem_cons,if_neg hk];constructor
       .rintro(h|h)
        .cases h;exact absurd rfl hk
        .exact h
       .exact .inr
     .rename_i hp0 hp;have he:p.1=key e:=OD (by simpa using hp0) (by simpa using hp)
      have hno:∀s,(key e,s)∉ S:=by
       intro s hs
       have:=h1 _ hs
       rw [he,zE]at this;cases this
      by_cases hk:k=key e
      .subst hk;simp only [if_true];rw [List.mem_cons];constructor
       .rintro(h|h)
        .exact .inl ⟨p.2,by rw [<-he];simp,by have:=congrArg Prod.snd h;exact this⟩
        .exact absurd h (hno _)
       .rintro(⟨s,h,rfl⟩|⟨h,_⟩)
        .rcases List.mem_cons.1 h with h|h
         .left
          rw [<-h]
         .exact absurd h (hno _)
        .exact absurd (show(key e,p.2)∈p::S by rw [<-he];simp) (h _)
      .rw [List.mem_cons,if_neg hk,List.mem_cons];constructor
       .rintro(h|h)
        .exact absurd (by rw [<-he];exact congrArg Prod.fst h) hk
        .exact .inr h
       .rintro(h|h)
        .exact absurd (by rw [<-he,<-h]) hk
        .exact .inr h
  rw [hmem S h.1];unfold upd;by_cases hk:k=key e
  .subst hk;simp only [if_true]
   cases hf:f (key e)with
   |none=>
    have hno:∀s,(key e,s)∉ S:=λs hs=>by rw [h.2,hf]at hs;cases hs
    simp [hno,eq_comm]
   |some s=>
    have hs:=(h.2 (key e) s).2 hf;simp only [zsI];constructor
    .rintro(⟨s',h',rfl⟩|⟨h',_⟩)
     .rw [h.2,hf]at h';cases h';rfl
     .exact absurd hs (h' _)
    .rintro rfl;exact .inl ⟨s,hs,rfl⟩
  .simp [hk,h.2]⟩
theorem OF(R:Rg)(l:List (Int×Int×Int)):Rep (canS R l) (fm R l):=by
 have:∀(l:List (Int×Int×Int)) (S:List (Ky×V)) (f:Ky->Option V),Rep S f->Rep (l.foldl (ins R) S) (l.foldl (upd R) f):=by
  intro l
  induction l with
  |nil=>intro S f h;exact h
  |cons e l ih=>intro S f h;exact ih _ _ (aby R e S f h)
 exact this l [] _ Rep.nil
theorem XE{R:Rg}:∀{l:List (Int×Int×Int)} {k:Ky} {z:V},fm R l k=some z->∃e∈l,key e=k:=by
 intro l
 have:∀(l:List (Int×Int×Int)) (f:Ky->Option V) (k:Ky) (z:V),l.foldl (upd R) f k=some z->(∃e∈l,key e=k)∨∃z,f k=some z:=by
  intro l
  induction l with
  |nil=>intro f k z h;exact .inr ⟨z,h⟩
  |cons e l ih=>
   intro f k z h;rcases ih _ _ _ h with⟨e',h1,h2⟩|⟨z',h2⟩
   .exact .inl ⟨e',by simp [h1],h2⟩
   .unfold upd at h2;split at h2
    .rename_i hk;exact .inl ⟨e,by simp,hk.symm⟩
    .exact .inr ⟨z',h2⟩
 intro k z h;rcases this l _ k z h with h|⟨z,h⟩
 .exact h
 .cases h
def sumR(R:Rg)(l:List (Int×Int×Int)):List (Int×Int×Int)×Int:=if(canS R l).all (λp=>(R.na p.2).2)=true then((canS R l).map (toE R),0)else([],12)
end Sm
end
noncomputable section
open Go.RowKit Go.Sort
namespace Sm
open Ev
@[go_sem] abbrev WV (p:V):Value:= .agg #[.int .i64 p.1,.int .u64 p.2]
abbrev Ed:=Int×Int×Int
def orI(x y:Int):Int:=if x=0 then y else x
theorem Em(g i:Nat):((⟨g,0,none⟩:Addr).add i)=⟨g,i,none⟩:=by unfold Addr.add;split<;>simp_all
theorem IS(a:Addr)(k:Nat):a.add (k+1)=⟨a.block,(a.add k).off+1,none⟩:=by
 unfold Addr.add;by_cases h:k=0
 .subst h;simp
 .simp [h];omega
def PT:T->Option Value
 | .v x=>if x.oneCell' then some x else none
 | .s _ _ _=>none
def PTs:List T->Option (List Value)
 | []=>some []
 |t::r=>(PT t).bind λx=>(PTs r).map (x::·)
def PD:TD->Option Value
 | .one t=>PT t
 | .agg ts=>(PTs ts).map λl=> .agg l.toArray
theorem TM{t:T}{x:Value}(h:PT t=some x)(w:World)(F:Nat->Prop):RepT w F t x/\∀y,RepT w F t y->y=x:=by
 cases t with
 |s=>simp [PT]at h
 |v z=>
  simp only [PT]at h;split at h
  .rename_i hz;cases h;exact⟨.v _ hz,λy hy=>by cases hy;rfl⟩
  .simp at h
theorem OG:∀{ts:List T} {l:List Value},PTs ts=some l->∀(w:World) (F:Nat->Prop),RepTs w F ts l/\∀ys,RepTs w F ts ys->ys=l
 | [],l,h,w,F=>by
  simp [PTs]at h;subst h;exact⟨⟨rfl,by simp⟩,λys hy=>by have:=hy.1;simpa using this.symm⟩
 |t::r,l,h,w,F=>by
  simp only [PTs,zbE,Option.map_eq_some_iff]at h;obtain⟨x,hx,l',hl,rfl⟩:=h;obtain⟨h1,h2⟩:=TM hx w F;obtain⟨h3,h4⟩:=OG hl w F;refine⟨⟨by simp [h3.1],λi t' hi=> ?_⟩,λys hy=> ?_⟩
  .cases i with
   |zero=>simp at hi;subst hi;exact⟨x,rfl,h1⟩
   |succ i=>obtain⟨y,e1,e2⟩:=h3.2 i t' (by simpa using hi);exact⟨y,by simpa using e1,e2⟩
  .obtain⟨hl,hy⟩:=hy
   cases ys with
   |nil=>simp at hl
   |cons y ys=>
    obtain⟨y',e1,e2⟩:=hy 0 t rfl;simp at e1;subst e1
    rw [h2 _ e2,h4 ys ⟨by simpa using hl,λi t' hi=>by
     obtain⟨z,f1,f2⟩:=hy (i+1) t' (by simpa using hi)
     exact⟨z,by simpa using f1,f2⟩⟩]
theorem TN{t:TD}{x:Value}(h:PD t=some x)(w:World)(F:Nat->Prop):RepTD w F t x/\∀y,RepTD w F t y->y=x:=by
 cases t with
 |one t=>
  obtain⟨h1,h2⟩:=TM h w F;exact⟨.one _ _ h1,λy hy=>by cases hy with|one _ _ hy=>exact h2 _ hy⟩
 |agg ts=>
  simp only [PD,Option.map_eq_some_iff]at h;obtain⟨l,hl,rfl⟩:=h;obtain⟨h1,h2⟩:=OG hl w F;exact⟨.agg _ _ h1,λy hy=>by cases hy with|agg _ ys hy=>rw [h2 _ hy]⟩
def PDs:List TD->Option (List Value)
 | []=>some []
 |t::r=>(PD t).bind λx=>(PDs r).map (x::·)
theorem zF:∀{ts:List TD} {l:List Value},PDs ts=some l->∀(w:World) (F:Nat->Prop),nZ w F ts l/\∀ys,nZ w F ts ys->ys=l
 | [],l,h,w,F=>by
  simp [PDs]at h;subst h;exact⟨⟨rfl,by simp⟩,λys hy=>by have:=hy.1;simpa using this.symm⟩
 |t::r,l,h,w,F=>by
  simp only [PDs,zbE,Option.map_eq_some_iff]at h;obtain⟨x,hx,l',hl,rfl⟩:=h;obtain⟨h1,h2⟩:=TN hx w F;obtain⟨h3,h4⟩:=zF hl w F;refine⟨⟨by simp [h3.1],λi t' hi=> ?_⟩,λys hy=> ?_⟩
  .cases i with
   |zero=>simp at hi;subst hi;exact⟨x,rfl,h1⟩
   |succ i=>obtain⟨y,e1,e2⟩:=h3.2 i t' (by simpa using hi);exact⟨y,by simpa using e1,e2⟩
  .obtain⟨hl,hy⟩:=hy
   cases ys with
   |nil=>simp at hl
   |cons y ys=>
    obtain⟨y',e1,e2⟩:=hy 0 t rfl;simp at e1;subst e1
    rw [h2 _ e2,h4 ys ⟨by simpa using hl,λi t' hi=>by
     obtain⟨z,f1,f2⟩:=hy (i+1) t' (by simpa using hi)
     exact⟨z,by simpa using f1,f2⟩⟩]
def PR:List TD->Option Value
 | [r]=>PD r
 |rs=>(PDs rs).map λl=> .tuple l.toArray
theorem TO{rs:List TD}{x:Value}(h:PR rs=some x)(w:World)(F:Nat->Prop){y:Value}(hy:wR w F rs y):y=x:=by
 match rs,h,hy with
 | [],h,⟨ys,e,hy⟩=>
  simp [PR,PDs]at h;subst h;rw [e,(zF (ts:= []) (l:= []) rfl w F).2 _ hy]
 | [r],h,hy=>exact(TN h w F).2 _ hy
 |r::r'::rs,h,⟨ys,e,hy⟩=>
  simp only [PR,Option.map_eq_some_iff]at h;obtain⟨l,hl,rfl⟩:=h;rw [e,(zF hl w F).2 _ hy]
theorem ya{P:Program}{k:FuncId}{vs:List TD}{kind:Kind}{rs:List TD}(h:bL P k vs kind rs){ys:List Value}{y:Value}(h1:PDs vs=some ys)(h2:PR rs=some y)(w:World)(hL:LD w.heap.size w):Calls P k ys.toArray w λe w'=>e= .returned y/\Below w.heap.size w w':=by
 refine(h w (λ_=>False) ys hL (λ_ h=>h.elim) (zF h1 w _).1).mono λe w' ⟨y',e1,e2,_,e3⟩=>⟨?_,e3⟩;rw [e1,TO h2 w' _ e2]
end Sm
end
noncomputable section
open Go.RowKit Go.Lib Go.Sort
namespace Hp
theorem vo(w:World)(base:Nat)(e:TypeId)(s:Nat):w.ownsRow base e s (.slice none 0 0) 0 []:=⟨by simp,.inl ⟨rfl,rfl⟩⟩
theorem QH.nil(w:World)(base Q:Nat)(F:Nat->Prop)(hQ:¬F Q)(hC:CellsAt w Q 130 #[.slice none 0 0]):QH F w base Q []:=⟨hQ,none,0,hC,vo w base _ _,λg hg=>by cases hg⟩
theorem Good.app{w:World}{base:Nat}{hs:List Hd}{x:Hd}(h:Good w base hs)(hx:x.l≠[])(hr:RdS w base x.a x.l):Good w base (hs++ [x]):=λy hy=>by
 rcases List.mem_append.1 hy with hy|hy
 .exact h y hy
 .rw [List.mem_singleton.1 hy];exact⟨hx,hr⟩
theorem TP:Heap Hd.key ([]:List Hd).length (at_ ([]:List Hd)):=λk _ hk=>by simp at hk
theorem abz(H:List Hd):tot (ne H)=tot H:=by
 induction H with
 |nil=>rfl
 |cons x H ih=>
  unfold ne tot at*;rw [List.filter_cons]
  cases hx:x.l with
  |nil=>simp [hx];exact ih
  |cons s t=>simp [hx];exact ih
theorem FB.ok{base:Nat}{w:World}(h:base<=w.heap.size):OkF (λk=>k<base) base w:=⟨λ_ h=>h,λk hk=>by omega⟩
theorem Ja{F:Nat->Prop}{base Q:Nat}{hs:List Hd}{k:Int}{ad:Option Addr}{c m:Nat}{l:List Sm3}{w w0:World}(h:QH F w0 base Q hs)(hg:Good w0 base (hs++ [⟨k,ad,c,l⟩]))(hz:OkF F base w0)(hb:Below w0.heap.size w0 w)(hl:hs.length<100000)(hH:Heap Hd.key hs.length (at_ hs))(hm:l.length=m):
  Calls Tryz.prog 70 #[.iface 126 (.pointer (some ⟨Q,0,none⟩)),.iface 134 (.agg #[.int .i64 k,.slice ad m c])] w λe w'=>e= .returned (.tuple #[])/\∃ks,ks.Perm (hs++ [⟨k,ad,c,l⟩])/\Heap Hd.key ks.length (at_ ks)/\QH F w' base Q ks/\Kp F w0 w':=by
 subst hm;refine(Aq F base Q hs ⟨k,ad,c,l⟩ w (h.below hb) (hg.below hz.le (hb.mono hz.le)) (hz.mono hb.size) hl hH).mono ?_;rintro e w' ⟨h1,ks,h2,h3,h4,h5⟩;exact⟨h1,ks,h2,h3,h4,(Kp.of_below hb).trans h5⟩
def aen(ok:Bool)(A:Int×Int->Int×Int->Int×Int)(R:List Sm3->Bool)(H:List Hd)(w:World)(e:Ending)(w':World):Prop:=∃(v:Value) (code:Int) (res:List Sm3),e= .returned (.tuple #[v,.int .i64 code])/\w'.ownsRow w.heap.size 76 3 v res.length (cellsS res)/\(res= []->v= .slice none 0 0)/\Below w.heap.size w w'/\((ok=false/\code=8/\res= [])∨(ok=true/\(∃h∈H,R h.l=false)/\code=6/\res= [])∨(ok=true/\(∀h∈H,R h.l=true)/\code=0/\∃seq,Ext (ne H) seq/\res=outOf A seq))
set_option maxRecDepth 100000 in
set_option maxHeartbeats 2000000 in
theorem merge_walk(r:Int)(ok:Bool)(A:Int×Int->Int×Int->Int×Int)(a:Option Addr)(n c:Nat)(H:List Hd)(w:World)(hn:n=H.length)(hl:n<=90000)(hT:tot H<=90000)
  (hRow:∀i,i<n->∃b,a=some b/\b.block<w.heap.size/\w.cell? (b.add i)=some (.slice (at_ H i).a (at_ H i).l.length (at_ H i).c))
  (hk:∀i,i<n->(at_ H i).k=(i:Int)) (hRd:∀h∈H,RdS w w.heap.size h.a h.l) (hc:∀h∈H,h.l.length<=h.c)
  (hIs:∀W,Below w.heap.size w W->Calls Tryz.prog 19 #[.int .i64 r] W λe w'=>e= .returned (.bool ok)/\Below W.heap.size W w')
  (R:List Sm3->Bool) (hR:∀i,i<n->∀W,Below w.heap.size w W->Calls Tryz.prog 69 #[.slice (at_ H i).a (at_ H i).l.length (at_ H i).c] W λe w'=>e= .returned (.bool (R (at_ H i).l))/\Below W.heap.size W w')
  (hAdd:ok=true->∀x y W,Below w.heap.size w W->Calls Tryz.prog 24 #[.int .i64 r,PV x,PV y] W λe w'=>e= .returned (PV (A x y))/\Below W.heap.size W w'):
  Calls Tryz.prog 38 #[.int .i64 r,.slice a n c] w λe w'=>aen ok A R H w e w':=by
 have HROW:=Lib.hid hRow;have HK:=Lib.hid hk;have HRD:=Lib.hid hRd;have HC:=Lib.hid hc;have HIS:=Lib.hid hIs;have HR:=Lib.hid hR;have HADD:=Lib.hid hAdd;have HN:=Lib.hid hn;have HT:=Lib.hid hT;have hnI:((n:Nat):Int)<=90000:=by omega
 clear hRow hk hRd hc hIs hR hAdd hn hT;have hGood:∀W,Below w.heap.size w W->∀ks:List Hd,(∀y∈ks,y∈H/\y.l≠[])->Good W w.heap.size ks:=λW hW ks hks y hy=>⟨(hks y hy).2,(HRD.out y (hks y hy).1).below (Nat.le_refl _) hW⟩;have HGOOD:=Lib.hid hGood;clear hGood
 go_enter Tryz.func38,Tryz.ntmps38
 go_wp2_with fail
 refine(HIS.out w (Below.refl _ _)).mono ?_;rintro e w1 ⟨rfl,hb1⟩
 cases ok with
 |false=>
  go_wp2
  go_ret2
  exact⟨_,8,[],rfl,vo _ _ _ _,λ_=>rfl,hb1,.inl ⟨rfl,rfl,rfl⟩⟩
 |true=>
  have hA:=HADD.out rfl;have HA:=Lib.hid hA;clear hA HADD HIS;have hQ0:CellsAt (w1.alloc (.cells #[.slice none 0 0] 130)) w1.heap.size 130 #[.slice none 0 0]:=World.alloc_heap_new w1 _;have hb2:Below w.heap.size w (w1.alloc (.cells #[.slice none 0 0] 130)):=bla hb1 _;have hQb:=hb1.size
  go_wp2
  generalize w1.alloc (.cells #[.slice none 0 0] 130)=W0 at hQ0 hb2 ⊢;generalize w1.heap.size=Q at hQ0 hQb ⊢;have hq0:QH (λk=>k<w.heap.size) W0 w.heap.size Q []:=QH.nil _ _ _ _ (by show¬Q<w.heap.size;omega) hQ0
  go_loopw [18] (λy wr=>∃(i:Nat) (ks:List Hd),y= .int .i64 (i:Int)/\i<=n/\QH (λk=>k<w.heap.size) wr w.heap.size Q ks/\Heap Hd.key ks.length (at_ ks)/\ks.Perm (ne (H.take i))/\(∀j,j<i->R (at_ H j).l=true)/\Below w.heap.size w wr) (λy _=>n - (intOf y).toNat)
  case atStart=>exact⟨0,[],rfl,Nat.zero_le _,hq0,TP,List.Perm.refl _,λj hj=>by omega,hb2⟩
  case round=>
   clear hQ0 hb2 hq0;obtain⟨i,ks,rfl,hi,hq,hh,hp,hall,hb⟩:=hrel
   have hks:∀y∈ks,y∈H/\y.l≠[]:=λy hy=>by
    have h1:=hp.mem_iff.1 hy;unfold ne at h1;rw [List.mem_filter]at h1;exact⟨List.mem_of_mem_take h1.1,by simpa using h1.2⟩
   have hkl:ks.length<=i:=by
    have h1:=hp.length_eq;have h2:(ne (H.take i)).length<=(H.take i).length:=List.length_filter_le _ _;rw [List.length_take]at h2;omega
   by_cases hin:i=n
   .subst hin
    have hallH:∀h∈H,R h.l=true:=λh hh=>by
     obtain⟨j,hj,rfl⟩:=List.mem_iff_getElem.1 hh
     have:=hall j (by rw [HN.out];exact hj)
     rwa [at_lt hj]at this
    have HALL:=Lib.hid hallH;clear hall hallH;rw [show H.take i=H from by rw [HN.out];exact List.take_length]at hp
    have hTk:tot ks<=90000:=by
     rw [As hp];refine Nat.le_trans ?_ HT.out;rw [abz];exact Nat.le_refl _
    have hG0:=HGOOD.out wr hb ks hks;have hc0:∀h∈ks,h.l.length<=h.c:=λh hm=>HC.out h (hks h hm).1
    have hq0:QH (FV w.heap.size (.slice none 0 0)) wr w.heap.size Q ks:=hq.wide (λk hk=>by
     rcases hk with hk|hk
     .exact hk
     .cases hk)
    have hE0:∀seq,Ext ks seq->Ext (ne H) ([]++seq):=λseq h=>h.perm hp;clear hq hp hks
    go_wp2
    go_loopg [9] (tot ks) (λk v wr=>∃(hs:List Hd) (d:List (Int×Sm3)),k=tot hs/\tot hs+(outOf A d).length<=90000/\hs.length<=90000/\wr.ownsRow w.heap.size 76 3 v (outOf A d).length (cellsS (outOf A d))/\(outOf A d= []->v= .slice none 0 0)/\QH (FV w.heap.size v) wr w.heap.size Q hs/\Good wr w.heap.size hs/\(∀h∈hs,h.l.length<=h.c)/\Heap Hd.key hs.length (at_ hs)/\(∀seq,Ext hs seq->Ext (ne H) (d++seq))/\Below w.heap.size w wr)
    case atStart=>exact⟨ks,[],rfl,by simpa [outOf]using hTk,by omega,vo _ _ _ _,λ_=>rfl,hq0,hG0,hc0,hh,hE0,hb⟩
    case round=>
     clear hb hh hTk hG0 hc0 hq0 hE0;obtain⟨hs,d,hgk,hTd,hhl,hown,hnil,hq,hG,hcp,hh,hE,hb⟩:=hrel;obtain⟨ao,co,rfl,hao⟩:=wX hown;obtain⟨o,ho⟩:∃o,o=outOf A d:=⟨_,rfl⟩;rw [<-ho]at hTd hown hnil hq ⊢;have HO:=Lib.hid ho;have HNIL:=Lib.hid hnil;have HGK:=Lib.hid hgk;have hOk:OkF (FV w.heap.size (.slice ao o.length co)) w.heap.size wr:=FV.ok hown hb.size;obtain⟨aq,cq,hcq⟩:=hq.cell;have kQ:=Has.of hq.lt;clear ho hnil hgk hao;by_cases h0:hs.length=0
     .have hs0:hs= []:=List.eq_nil_of_length_eq_zero h0;subst hs0
      go_wp2_with fail
      refine(sd aq 0 cq wr).mono ?_;rintro e _ ⟨rfl,rfl⟩
      go_wp2
      go_ret2
      exact⟨_,0,o,rfl,hown,HNIL.out,hb,.inr (.inr ⟨rfl,HALL.out,rfl,d,by simpa using hE [] .nil,HO.out⟩)⟩
     .have h0':0<hs.length:=by omega
      have h0I:(0:Int)<((hs.length:Nat):Int):=by omega
      go_wp2_with fail
      refine(sd aq hs.length cq wr).mono ?_;rintro e _ ⟨rfl,rfl⟩
      go_wp2_with fail
      refine(Qm (FV w.heap.size (.slice ao o.length co)) w.heap.size Q hs _ hq hG hOk h0' (by omega) hh).mono ?_;rintro e w2 ⟨x,ms,rfl,hpm,hleast,hh2,hq2,hk2⟩;have hxm:x∈hs:=hpm.mem_iff.1 (by simp);have hbw2:Below w.heap.size w w2:=hb.trans (hk2.bel hOk);have hown2:=TK hown (λk e=> .inr e) hk2;have hG2:=hG.kp hOk hk2;have hx2:=(hG2 x hxm).2;have hxc:=hcp x hxm;have hmc:∀h∈ms,h.l.length<=h.c:=λh hm=>hcp h (hpm.mem_iff.1 (by simp [hm]));have hGm:Good w2 w.heap.size ms:=λh hm=>hG2 h (hpm.mem_iff.1 (by simp [hm]));have htot:=As hpm;rw [IX]at htot;have hxne:=(hG2 x hxm).1;have hml:ms.length+1=hs.length:=by have:=hpm.length_eq;rw [gN]at this;exact this
      obtain⟨xk,xa,xc,xl⟩:=x
      cases xl with
      |nil=>exact absurd rfl hxne
      |cons s t=>
      have hTA:∀W:World,(Instr.typeAssert (.iface 134 (.agg #[.int .i64 xk,.slice xa (t.length+1) xc])) 20 134 false).run Tryz.prog W= .ok (.agg #[.int .i64 xk,.slice xa (t.length+1) xc]) W:=λ_=>by kernel_rfl
      clear hcq kQ;obtain⟨b,rfl,hbl,x0,x1,x2⟩:=hx2 0 (by simp);simp only [List.getElem_cons_zero,Nat.zero_mul,Nat.zero_add]at x0 x1 x2;have x0:w2.cell? b=some (.int .i64 s.1):=by simpa [Addr.add]using x0
      have x1:w2.cell? ⟨b.block,b.off+1,none⟩=some (.int .i64 s.2.1):=by simpa [Addr.add]using x1
      have x2:w2.cell? ⟨b.block,b.off+2,none⟩=some (.int .u64 s.2.2):=by simpa [Addr.add]using x2
      have kb:=Has.of (show b.block<w2.heap.size from Nat.lt_of_lt_of_le hbl hbw2.size)
      go_wp2_with fail
      have hHB:CellsAt (w2.alloc (.cells #[.int .i64 xk,.slice (some b) (t.length+1) xc] 134)) w2.heap.size 134 #[.int .i64 xk,.slice (some b) (t.length+1) xc]:=World.alloc_heap_new w2 _;have hB3:Below w2.heap.size w2 (w2.alloc (.cells #[.int .i64 xk,.slice (some b) (t.length+1) xc] 134)):=bla (Below.refl _ _) _;have hbw3:=hbw2.trans (hB3.mono hbw2.size);have hq3:=hq2.below hB3;have hown3:=kw hown2 hB3;have hGm3:=hGm.below hbw2.size (hB3.mono hbw2.size);have hRt3:=hx2.tail.below hbw2.size (hB3.mono hbw2.size);have hHo:∀k,(Value.slice ao o.length co).ownBlock=some k->k≠w2.heap.size:=λk e=>by have:=(hown2.lt k e).2;omega
      generalize w2.alloc (.cells #[.int .i64 xk,.slice (some b) (t.length+1) xc] 134)=w3 at hHB hB3 hbw3 hq3 hown3 hGm3 hRt3 ⊢;generalize w2.heap.size=HB at hHB hHo ⊢;have hz3:=hbw3.size;refine(Qo w.heap.size r A o s ao o.length co w3 rfl hown3 hz3 (by omega) (λx y W hW=>HA.out x y W (hbw3.trans (hW.mono hz3)))).mono ?_;rintro e w4 ⟨v',rfl,hown4,hg4,hv4⟩;have hHB4:=hHB.grown hg4 (λe=>hHo HB e.symm rfl);have hq4:=hq3.put hg4 hv4;have hb34:Below w.heap.size w3 w4:=afF (Below.refl _ _) hg4 (λk e=>(hown3.lt k e).1) hz3;have hbw4:=hbw3.trans hb34;have hGm4:=hGm3.below hz3 hb34;have hRt4:=hRt3.below hz3 hb34;have e0:w4.cell? ⟨HB,0,none⟩=some (.int .i64 xk):=hHB4.cell 0;have e1:w4.cell? ⟨HB,1,none⟩=some (.slice (some b) (t.length+1) xc):=hHB4.cell 1;have kH:=Has.of hHB4.lt;have hpl:=TJ A o s;have hos:wY A o s=outOf A (d++ [(xk,s)]):=by rw [Md,<-HO.out]
      obtain⟨o',ho'⟩:∃o',o'=wY A o s:=⟨_,rfl⟩;rw [<-ho']at hown4 hpl;have HO':=Lib.hid (ho'.trans hos);obtain⟨a',c',rfl,ha'⟩:=wX hown4;have hll:=hpm.length_eq;clear hown3 hq3 hHB hg4 hv4 hb34 hGm3 hRt3 x0 x1 x2 kb hq2 hown2 hHo ha' hos ho' hown hq hx2 hG2 hk2 hHB4;have htot':tot ms+(t.length+1)=tot hs:=htot;have hxc':t.length+1<=xc:=hxc
      cases t with
      |nil=>
       go_wp2
       go_roundg (tot ms)
       case measure=>
        have:=HGK.out
        simp only [List.length_nil]at htot';omega
       case rel=>
        refine⟨ms,d++ [(xk,s)],rfl,?_,by omega,?_,?_,hq4,hGm4,hmc,hh2,?_,hbw4⟩
        .rw [<-HO'.out];simp only [List.length_nil]at htot';omega
        .rw [<-HO'.out];exact hown4
        .intro e;rw [<-HO'.out]at e;rw [e]at hpl;simp at hpl
        .intro seq h
         have:=hE _ (.last hpm rfl hleast h)
         simpa using this
      |cons s2 t2=>
       simp only [List.length_cons]at htot' hxc';have hs1:(1:Int)<=((t2.length:Nat):Int)+1+1:=by omega
       have hs2:t2.length+1+1<=xc:=hxc';have hs3:((t2.length:Nat):Int)+1+1<=(xc:Int):=by omega
       go_wp2
       have hz4:OkF (FV w.heap.size (.slice a' o'.length c')) w.heap.size w4:=FV.ok hown4 hbw4.size;have hba:b.add 3=⟨b.block,b.off+3,none⟩:=by simp [Addr.add]
       rw [hba]at hRt4;have hGa:Good w4 w.heap.size (ms++ [⟨xk,some ⟨b.block,b.off+3,none⟩,xc - 1,s2::t2⟩]):=hGm4.app (by simp) hRt4;have bd:Below w4.heap.size w4 w4.drew:=⟨rfl,rfl,rfl,Nat.le_refl _,λ_ _=>rfl⟩;have bdn:∀k,Below w4.heap.size w4 (w4.drewN k):=λk=>bld (Below.refl _ _);have hmsl:ms.length<100000:=by omega
       have hml2:(s2::t2).length=t2.length+1:=rfl;have hP:=Ja (w:=w4.drew) (c:=xc - 1) (m:=t2.length+1) hq4 hGa hz4 bd hmsl hh2 hml2
       go_still_tail 9,(by kernel_rfl)
       change wpList _ _ _ _ _ w4.drew;generalize w4.drew=w4d at hP;have HP:=Lib.hid hP;clear hP
       go_wp2_with fail
       refine HP.out.mono ?_;rintro e w5 ⟨rfl,ks5,hp5,hh5,hq5,hk45⟩
       all_goals (
        have hown5:=TK hown4 (λk e=> .inr e) hk45;have hbw5:Below w.heap.size w w5:=hbw4.trans (hk45.bel hz4);have hG5:Good w5 w.heap.size ks5:=se (hGa.kp hz4 hk45) hp5
        have hc5:∀h∈ks5,h.l.length<=h.c:=λh hm=>by
         rcases List.mem_append.1 (hp5.mem_iff.1 hm)with h1|h1
         .exact hmc h h1
         .rw [List.mem_singleton.1 h1];simp only [List.length_cons];omega
        have ht5:=As hp5;rw [IX]at ht5;simp only [List.length_cons]at ht5;have hl5:=hp5.length_eq;rw [gN]at hl5
        go_wp2
        go_roundg (tot ks5)
        case measure=>
         have:=HGK.out
         omega
        case rel=>
         refine⟨ks5,d++ [(xk,s)],rfl,?_,by omega,?_,?_,hq5,hG5,hc5,hh5,?_,hbw5⟩
         .rw [<-HO'.out];omega
         .rw [<-HO'.out];exact hown5
         .intro e;rw [<-HO'.out]at e;rw [e]at hpl;simp at hpl
         .intro seq h
          have:=hE _ (.more (x':=⟨xk,some ⟨b.block,b.off+3,none⟩,xc - 1,s2::t2⟩) hpm rfl (by simp) rfl rfl hp5 hleast h)
          simpa using this)
   .have hlt:i<n:=by omega
    have hiI:((i:Nat):Int)<n:=by omega
    obtain⟨b,rfl,hbl,cc⟩:=HROW.out i hlt;have hXm:at_ H i∈H:=by rw [at_lt (by rw [<-HN.out];exact hlt)];exact List.getElem_mem _
    have hXk:=HK.out i hlt;have hXR:=HR.out i hlt wr hb;have hTk:=XC (show i<H.length by rw [<-HN.out];exact hlt);obtain⟨X,hX⟩:∃X,X=at_ H i:=⟨_,rfl⟩;rw [<-hX]at cc hXm hXk hXR hTk
    have hall':R X.l=true->∀j,j<i+1->R (at_ H j).l=true:=λh j hj=>by
     by_cases e:j=i
     .rw [e,<-hX];exact h
     .exact hall j (by omega)
    have HXR:=Lib.hid hXR;have HTK:=Lib.hid hTk;have HALL:=Lib.hid hall';have HXK:=Lib.hid hXk;clear hX hXR hTk hall hall' hXk;obtain⟨xk,xa,xc,xl⟩:=X;have cc1:=(hb.cell (p:=b.add i) (by rw [vk];exact hbl)).trans cc;have kb:=Has.of (show b.block<wr.heap.size from Nat.lt_of_lt_of_le hbl hb.size)
    go_wp2_with fail
    refine(HXR.out).mono ?_;rintro e w2 ⟨rfl,hb2⟩;have hbw2:Below w.heap.size w w2:=hb.trans (hb2.mono hb.size);have hq2:=hq.below hb2;have hz2:OkF (λk=>k<w.heap.size) w.heap.size w2:=FB.ok hbw2.size
    cases hr:R xl with
    |false=>
     go_wp2
     go_ret2
     exact⟨_,6,[],rfl,vo _ _ _ _,λ_=>rfl,hbw2,.inr (.inl ⟨rfl,⟨_,hXm,hr⟩,rfl,rfl⟩)⟩
    |true=>
     have hall2:=HALL.out hr;have HALL2:=Lib.hid hall2;have HRT:=Lib.hid hr;clear hr hall2
     cases xl with
     |nil=>
      go_wp2
      refine⟨⟨i+1,ks,by simp,by omega,hq2,hh,?_,HALL2.out,hbw2⟩,by simp [intOf];omega⟩;rw [HTK.out,IY rfl];exact hp
     |cons s t=>
      have hxl:(1:Int)<=(((s::t).length:Nat):Int):=by simp;omega
      have hgt:Good w2 w.heap.size (ks++ [⟨(i:Int),xa,xc,s::t⟩]):=(HGOOD.out w2 hbw2 ks hks).app (by simp) ((HRD.out _ hXm).below (Nat.le_refl _) hbw2);generalize hL:s::t=L at hxl hgt cc cc1 HXR HTK HALL HALL2 HRT hXm HXK;have hL1:L≠[]:=by rw [<-hL];simp
      clear hL
      go_wp2_with fail
      refine(Aq (λk=>k<w.heap.size) w.heap.size Q ks ⟨(i:Int),xa,xc,L⟩ w2 hq2 hgt hz2 (by omega) hh).mono ?_;rintro e w3 ⟨rfl,ks3,hp3,hh3,hq3,hk3⟩
      go_wp2
      refine⟨⟨i+1,ks3,by simp,by omega,hq3,hh3,?_,HALL2.out,hbw2.trans (hk3.bel hz2)⟩,by simp [intOf];omega⟩;rw [HTK.out,XB hL1];have hxk:=HXK.out;rw [show xk=(i:Int)from hxk];exact hp3.trans (hp.append_right _)
end Hp
end
noncomputable section
namespace Ev
namespace K
open Go Go.RowKit
set_option maxRecDepth 100000
set_option maxHeartbeats 1000000
def TQ:Ax:=(λ_=>none)
theorem Qr:Cb Tryz.prog TQ:=(xz _)
def TR:Ax:=(bu (bu (bu (bu (bu (bu (bu (bu (bu (bu (bu (bu TQ 22 dk) 27 dk) 30 dk) 31 dk) 41 dk) 45 dk) 54 dk) 55 dk) 57 dk) 60 dk) 99 dk) 105 dk)
theorem Qs:Cb Tryz.prog TR:=(az (az (az (az (az (az (az (az (az (az (az (az Qr λvs kind rs h=>by simp [dk]at h) λvs kind rs h=>by simp [dk]at h) λvs kind rs h=>by simp [dk]at h) λvs kind rs h=>by simp [dk]at h) λvs kind rs h=>by simp [dk]at h) λvs kind rs h=>by simp [dk]at h) λvs kind rs h=>by simp [dk]at h) λvs kind rs h=>by simp [dk]at h) λvs kind rs h=>by simp [dk]at h) λvs kind rs h=>by simp [dk]at h) λvs kind rs h=>by simp [dk]at h) λvs kind rs h=>by simp [dk]at h)
def E1B:Env:=wj Tryz.prog TR
theorem mO:E1B.Ok:=pr ua ub Qs
theorem qT:WR E1B TT:=⟨tz1,⟨tz2,⟨tz3,⟨tz4,⟨tz5,⟨tz6,⟨tz7,⟨tz8,⟨aaj,⟨aak,⟨aal,⟨aam,⟨aan,⟨aao,⟨aap,⟨Xc,⟨Xd,⟨aaq,⟨Xe,⟨Xf,⟨aar,⟨Xg,⟨aas,⟨Xh,⟨Xi,⟨aat,⟨Xj,⟨aau,⟨aav,⟨Xk,⟨aaw,⟨aax,⟨Xl,⟨aay,⟨aaz,⟨aaA,⟨Xm,⟨aaB,⟨aaC,⟨aaD,⟨Xn,⟨aaE,⟨aaF,⟨aaG,⟨aaH,⟨aaI,⟨aaJ,⟨aaK,⟨aaL,⟨aaM,⟨Xo,⟨aaN,⟨aaO,⟨aaP,⟨Xp,⟨aaQ,⟨aaR,⟨aaS,⟨aaT,⟨Xq,⟨aaU,⟨Xr,⟨aaV,⟨Xu,⟨aaW,⟨aaX,⟨aaY,⟨aaZ,⟨Xv,⟨ab0,⟨ab1,⟨ab2,⟨ab3,⟨ab4,⟨Xw,⟨ab5,⟨ab6,⟨ab7,⟨ab8,⟨ab9,⟨aba,⟨abb,⟨abc,⟨abd,⟨abe,⟨abf,⟨abg,⟨abh,⟨abi,⟨RV,⟨RW,⟨RX,⟨RY,⟨RZ,⟨Sa,⟨Sb,⟨Sd,⟨Se,⟨Sf,⟨Sg,⟨Si,⟨Sj,⟨Sk,⟨Sn,⟨So,⟨Oy,⟨Sp,⟨Oz,⟨Sq,⟨Sr,⟨Ss,⟨Su,⟨Sv,⟨Sw,⟨Sx,⟨Sy,⟨Sz,⟨SA,⟨SC,⟨SD,⟨SE,⟨SF,⟨SG,⟨SH,⟨SI,⟨SJ,⟨SK,⟨SM,⟨SN,⟨SO,⟨SP,⟨SQ,⟨SR,⟨SS,⟨ST,⟨SU,⟨SW,⟨SX,⟨SY,⟨SZ,⟨Ta,⟨Tb,⟨Tc,⟨Td,⟨Te,⟨Tf,⟨Tg,⟨Ti,⟨Tj,⟨Tl,⟨Tm,⟨Tn,⟨To,⟨Tp,⟨Tq,⟨Tr,⟨Ts,⟨Tt,⟨Tu,⟨Tv,⟨Tw,⟨Tx,⟨Tz,trivial⟩⟩⟩⟩⟩⟩⟩⟩⟩⟩⟩⟩⟩⟩⟩⟩⟩⟩⟩⟩⟩⟩⟩⟩⟩⟩⟩⟩⟩⟩⟩⟩⟩⟩⟩⟩⟩⟩⟩⟩⟩⟩⟩⟩⟩⟩⟩⟩⟩⟩⟩⟩⟩⟩⟩⟩⟩⟩⟩⟩⟩⟩⟩⟩⟩⟩⟩⟩⟩⟩⟩⟩⟩⟩⟩⟩⟩⟩⟩⟩⟩⟩⟩⟩⟩⟩⟩⟩⟩⟩⟩⟩⟩⟩⟩⟩⟩⟩⟩⟩⟩⟩⟩⟩⟩⟩⟩⟩⟩⟩⟩⟩⟩⟩⟩⟩⟩⟩⟩⟩⟩⟩⟩⟩⟩⟩⟩⟩⟩⟩⟩⟩⟩⟩⟩⟩⟩⟩⟩⟩⟩⟩⟩⟩⟩⟩⟩⟩⟩⟩⟩⟩⟩⟩⟩⟩⟩⟩⟩⟩⟩⟩⟩
theorem nz:WS E1B.P EQS:=⟨aae OA OB,trivial⟩
theorem aeo:E1B.fn 19=some adN:=cv Tryz.func19 rfl
theorem aep:E1B.fn 24=some abj:=cv Tryz.func24 rfl
theorem aeq:E1B.fn 46=some abl:=cv Tryz.func46 rfl
theorem aer:E1B.fn 47=some abm:=cv Tryz.func47 rfl
theorem aes:E1B.fn 48=some abn:=cv Tryz.func48 rfl
theorem aet:E1B.fn 49=some abo:=cv Tryz.func49 rfl
theorem aeu:E1B.fn 69=some ae2:=cv Tryz.func69 rfl
theorem aev:E1B.fn 77=some abq:=cv Tryz.func77 rfl
end K
end Ev
end
noncomputable section
namespace Ev
namespace K
open Go Go.RowKit
set_option maxRecDepth 100000
set_option maxHeartbeats 1000000
theorem Gp:GOk wU E1B 0:=gok mO qT nz trivial trivial
theorem Jb:aS E1B sa:=bF Gp (by kernel_rfl) aeq (by kernel_rfl) rfl
theorem vp:GOk mH E1B 0:=gok mO qT nz trivial trivial
theorem xd:aS E1B mI:=bF vp (by kernel_rfl) aev (by kernel_rfl) rfl
theorem xe:GOk ob E1B 1:=gok mO qT nz ⟨⟨by decide,xd⟩,trivial⟩ trivial
theorem zf:aS E1B kT:=bF xe (by kernel_rfl) aer (by kernel_rfl) rfl
theorem Dj:GOk uc E1B 0:=gok mO qT nz trivial trivial
theorem Gq:aS E1B mJ:=bF Dj (by kernel_rfl) aes (by kernel_rfl) rfl
theorem zg:GOk pG E1B 1:=gok mO qT nz ⟨⟨by decide,Jb⟩,trivial⟩ trivial
theorem Az:aS E1B mf:=bF zg (by kernel_rfl) aet (by kernel_rfl) rfl
theorem Dk:GOk ud E1B 2:=gok mO qT nz ⟨⟨by decide,zf⟩,⟨⟨by decide,Gq⟩,⟨⟨by decide,Az⟩,trivial⟩⟩⟩ trivial
theorem Gr:aS E1B Ae:=bF Dk (by kernel_rfl) aep (by kernel_rfl) rfl
theorem Gs:GOk Ek E1B 0:=gok mO qT nz trivial trivial
theorem Jc:aS E1B Qg:=bF Gs (by kernel_rfl) aeo (by kernel_rfl) rfl
theorem zh:GOk vh E1B 0:=gok mO qT nz trivial trivial
theorem AA:aS E1B Gi:=bF zh (by kernel_rfl) aeu (by kernel_rfl) rfl
end K
end Ev
end
end Go.Proofs.YtjjbpdldbdmoeaaGreatDoor
