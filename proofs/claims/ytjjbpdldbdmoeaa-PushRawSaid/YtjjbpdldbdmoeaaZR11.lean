/- Texts of a claim, joined. -/
import Derived.Test.YtjjbpdldbdmoeaaZR10
import Derived.Laws.AppendOwnNone
import Derived.KernelRfl
import Derived.Test.YtjjbpdldbdmoeaaZR5
import Derived.Deep.LoopGhost
import Derived.StillTailTactics
set_option linter.unusedVariables false
set_option linter.unusedSimpArgs false
namespace Go.Proofs.Ytjjbpdldbdmoeaa
noncomputable section
open Go.RowKit Go.Lib Go.Sort
namespace Hp
theorem Wo{j:Nat}(h:0<j):(((j:Int) - 1).tdiv 2)=((par j:Nat):Int):=by
 unfold par;rw [Int.tdiv_eq_ediv_of_nonneg (by omega)];omega
set_option maxRecDepth 100000 in
set_option maxHeartbeats 1000000 in
theorem SN(F:Nat→Prop)(base Q:Nat)(n:Nat)(j0:Nat)(hs:List Hd)(w:World)(h:QH F w base Q hs)(hg:Good w base hs)(hz:OkF F base w)(hn:hs.length=n)(hl:n≤100000)(hj:j0<n)(hu:Up Hd.key n (at_ hs) j0):
  Calls Try.prog 72 #[.iface 89 (.pointer (some ⟨Q,0,none⟩)),.int .i64 j0] w fun e w'=>e= .returned (.tuple #[])∧∃ks,ks.Perm hs∧Heap Hd.key n (at_ ks)∧QH F w' base Q ks∧Kp F w w':=by
 go_enter Try.func72,Try.ntmps72
 go_wp2
 go_loopw [1] (fun y wr=>∃(j:Nat) (ks:List Hd),y= .int .i64 (j:Int)∧j<n∧ks.Perm hs∧ks.length=n∧QH F wr base Q ks∧Up Hd.key n (at_ ks) j∧Kp F w wr) (fun y _=>(intOf y).toNat)
 case atStart=>exact⟨j0,hs,rfl,hj,List.Perm.refl _,hn,h,hu,Kp.refl _ _⟩
 case round=>
  clear hu h hj;obtain⟨j,ks,rfl,hj,hp,hkn,h,hu,hb⟩:=hrel;have hgk:=(rE hg hp).kp hz hb;have hzr:OkF F base wr:=hz.mono hb.size;by_cases hj0:j=0
  ·subst hj0
   go_wp2
   go_end0
   exact⟨rfl,ks,hp,hu.done (.inl rfl),h,hb⟩
  ·have hq:=Wo (show 0<j by omega);have hpl:=mL (show 0<j by omega);obtain⟨a,c,hc⟩:=h.cell;have hme:=LI hc;have hjk:j<ks.length:=by omega
   have hpk:par j<ks.length:=by omega
   have hlk:ks.length≤100000:=by omega
   have HK:=Lib.hid hkn;clear hkn
   go_wp2_with fail
   refine(IB h hc hgk hzr (i:=j) (k:=par j) hjk hpk hlk).mono ?_;rintro e w1 ⟨rfl,h1,hb1,hb1'⟩;obtain⟨a1,c1,hc1⟩:=h1.cell;have hms:=Aa hc1;clear hme hc;have hz1:OkF F base w1:=hzr.mono hb1.size
   cases hlt:lt (at_ ks j).key (at_ ks (par j)).key with
   |false=>
    go_wp2
    go_end0
    exact⟨rfl,ks,hp,hu.done (.inr hlt),h1,hb.trans hb1⟩
   |true=>
    go_wp2_with fail
    refine(IC h1 hc1 hz1 (i:=par j) (k:=j) hpk hjk hlk).mono ?_;rintro e w2 ⟨rfl,h2,hb2⟩
    go_wp2
    refine⟨⟨par j,sd ks (par j) j,by first|rfl|simp,by omega,(od hpk hjk).trans hp,by rw [oc];exact HK.out,h2,?_,(hb.trans hb1).trans hb2⟩,by simp [intOf];omega⟩;rw [mw hpk hjk];exact hu.step (by omega) hj hlt
end Hp
end
noncomputable section
open Go.RowKit Go.Lib Go.Sort
namespace Hp
set_option maxRecDepth 100000 in
set_option maxHeartbeats 1000000 in
theorem Ac(F:Nat→Prop)(base Q:Nat)(hs:List Hd)(x:Hd)(w:World)(h:QH F w base Q hs)(hg:Good w base (hs++ [x]))(hz:OkF F base w)(hl:hs.length<100000)(hH:Heap Hd.key hs.length (at_ hs)):
  Calls Try.prog 33 #[.iface 89 (.pointer (some ⟨Q,0,none⟩)),.iface 97 (HV x)] w fun e w'=>e= .returned (.tuple #[])∧∃ks,ks.Perm (hs++ [x])∧Heap Hd.key ks.length (at_ ks)∧QH F w' base Q ks∧Kp F w w':=by
 have hmp:=fun n=>aas n Q w;have hl2:=Nat.le_of_lt hl
 go_enter Try.func33,Try.ntmps33
 go_wp2_with fail
 refine(IA F base Q hs x w h hz hl2).mono ?_;rintro e w1 ⟨rfl,h1,hb1⟩;obtain⟨a1,c1,hc1⟩:=h1.cell;have hml:=YA hc1;have hz1:OkF F base w1:=hz.mono hb1.size
 go_wp2_with fail
 refine(rD a1 (hs.length+1) c1 w1).mono ?_;rintro e w2 ⟨rfl,rfl⟩;have ej:(((hs.length+1:Nat)):Int) - 1=hs.length:=by omega
 have ej2:(((hs.length+1:Nat)):Int)≤100000:=by omega
 clear hml hmp
 go_wp2_with fail
 have hHu:Up Hd.key (hs.length+1) (at_ (hs++ [x])) hs.length:=(hH.congr (fun k hk=>(DU hk).symm)).up;refine(SN F base Q (hs.length+1) hs.length (hs++ [x]) _ h1 (hg.kp hz hb1) hz1 (gO hs x) hl (Nat.lt_succ_self _) hHu).mono ?_;rintro e w2 ⟨rfl,ks,hp,hk,hq,hb⟩
 go_wp2
 go_end0
 refine⟨rfl,ks,hp,?_,hq,hb1.trans hb⟩;rw [hp.length_eq,gO];exact hk
end Hp
end
noncomputable section
open Go.RowKit Go.Lib Go.Sort
namespace Hp
theorem aez{α:Type}{key:α→Int×Int}{f:Nat→α}{n i:Nat}(h:n≤2*i+2):∀k,0<k→k<n→par k=i→le (key (f (2*i+1))) (key (f k)):=fun k k0 kn kp=>by
 rcases(FN k0).1 kp with rfl|rfl
 ·exact le_refl _
 ·omega
theorem min2{α:Type}{key:α→Int×Int}{f:Nat→α}{n i:Nat}(h:lt (key (f (2*i+2))) (key (f (2*i+1)))=false):∀k,0<k→k<n→par k=i→le (key (f (2*i+1))) (key (f k)):=fun k k0 kn kp=>by
 rcases(FN k0).1 kp with rfl|rfl
 ·exact le_refl _
 ·exact h
theorem aeA{α:Type}{key:α→Int×Int}{f:Nat→α}{n i:Nat}(h:lt (key (f (2*i+2))) (key (f (2*i+1)))=true):∀k,0<k→k<n→par k=i→le (key (f (2*i+2))) (key (f k)):=fun k k0 kn kp=>by
 rcases(FN k0).1 kp with rfl|rfl
 ·exact le_of_lt h
 ·exact le_refl _
theorem rF{F:Nat→Prop}{w:World}{base Q:Nat}{hs:List Hd}{a:Option Addr}{c m:Nat}{I K:Int}(h:QH F w base Q hs)(hq:w.cell? ⟨Q,0,none⟩=some (.slice a hs.length c))(hg:Good w base hs)(hz:OkF F base w){i k:Nat}(hi:i<hs.length)(hk:k<hs.length)(hl:hs.length≤100000)(hI:I=(i:Int))(hK:K=(k:Int))(hm:hs.length=m):Calls Try.prog 123 #[.slice a m c,.int .i64 I,.int .i64 K] w fun e w'=>e= .returned (.bool (lt (at_ hs i).key (at_ hs k).key))∧QH F w' base Q hs∧Kp F w w'∧Below w.heap.size w w':=by
 subst hI hK hm;exact IB h hq hg hz hi hk hl
theorem rG{F:Nat→Prop}{w:World}{base Q:Nat}{hs:List Hd}{a:Option Addr}{c m:Nat}{I K:Int}(h:QH F w base Q hs)(hq:w.cell? ⟨Q,0,none⟩=some (.slice a hs.length c))(hz:OkF F base w){i k:Nat}(hi:i<hs.length)(hk:k<hs.length)(hl:hs.length≤100000)(hI:I=(i:Int))(hK:K=(k:Int))(hm:hs.length=m):Calls Try.prog 126 #[.slice a m c,.int .i64 I,.int .i64 K] w fun e w'=>e= .returned (.tuple #[])∧QH F w' base Q (sd hs i k)∧Kp F w w':=by
 subst hI hK hm;exact IC h hq hz hi hk hl
set_option maxRecDepth 100000 in
set_option maxHeartbeats 2000000 in
theorem LJ(F:Nat→Prop)(base Q:Nat)(n:Nat)(hs:List Hd)(w:World)(h:QH F w base Q hs)(hg:Good w base hs)(hz:OkF F base w)(hn:n<hs.length)(hl:hs.length≤100000)(hd:Down Hd.key n (at_ hs) 0):
  Calls Try.prog 73 #[.iface 89 (.pointer (some ⟨Q,0,none⟩)),.int .i64 0,.int .i64 n] w fun e w'=>(∃b,e= .returned (.bool b))∧∃ks,ks.Perm hs∧at_ ks n=at_ hs n∧Heap Hd.key n (at_ ks)∧QH F w' base Q ks∧Kp F w w':=by
 have hnI:((n:Nat):Int)≤100000:=by omega
 go_enter Try.func73,Try.ntmps73
 go_wp2
 go_loopw [7] (fun y wr=>∃(i:Nat) (ks:List Hd),y= .int .i64 (i:Int)∧i≤n∧ks.Perm hs∧at_ ks n=at_ hs n∧QH F wr base Q ks∧Down Hd.key n (at_ ks) i∧Kp F w wr) (fun y _=>n - (intOf y).toNat)
 case atStart=>exact⟨0,hs,rfl,Nat.zero_le _,List.Perm.refl _,rfl,h,hd,Kp.refl _ _⟩
 case round=>
  clear hd h;obtain⟨i,ks,rfl,hi,hp,hat,h,hd,hb⟩:=hrel;have hgk:=(rE hg hp).kp hz hb;have hzr:OkF F base wr:=hz.mono hb.size;have hiI:((i:Nat):Int)≤n:=by omega
  have hkn:=hp.length_eq;have hnk:n<ks.length:=by omega
  have hlk:ks.length≤100000:=by omega
  clear hn hl;have HK:=Lib.hid hkn;clear hkn;by_cases hj1:n≤2*i+1
  ·have hj1I:((n:Nat):Int)≤2*((i:Nat):Int)+1:=by omega
   go_wp2
   go_ret
   exact⟨⟨_,rfl⟩,ks,hp,hat,hd.done (fun k k0 kn kp=>by rcases(FN k0).1 kp with rfl|rfl<;>omega),h,hb⟩
  ·have hj1I:2*((i:Nat):Int)+1<n:=by omega
   have hik:i<ks.length:=by omega
   have hjk:2*i+1<ks.length:=by omega
   obtain⟨a,c,hc⟩:=h.cell;have hme:=LI hc;by_cases hj2:n≤2*i+2
   ·have hj2I:((n:Nat):Int)≤2*((i:Nat):Int)+2:=by omega
    have hm:=aez (key:=Hd.key) (f:=at_ ks) hj2
    go_wp2_with fail
    refine(rF h hc hgk hzr (i:=2*i+1) (k:=i) hjk hik hlk (by omega) (by omega) rfl).mono ?_;rintro e w2 ⟨rfl,h2,hb2,hb2'⟩;obtain⟨a2,c2,hc2⟩:=h2.cell;have hms:=Aa hc2;clear hme hc hb2';have hz2:OkF F base w2:=hzr.mono hb2.size
    cases hlt2:lt (at_ ks (2*i+1)).key (at_ ks i).key with
    |false=>
     go_wp2
     go_ret
     exact⟨⟨_,rfl⟩,ks,hp,hat,hd.done (fun k k0 kn kp=>le_trans (wy hlt2) (hm k k0 kn kp)),h2,hb.trans hb2⟩
    |true=>
     go_wp2_with fail
     refine(rG h2 hc2 hz2 (i:=i) (k:=2*i+1) hik hjk hlk (by omega) (by omega) rfl).mono ?_;rintro e w3 ⟨rfl,h3,hb3⟩
     go_wp2
     refine⟨⟨2*i+1,sd ks i (2*i+1),by first|rfl|simp|(congr 1),by omega,(od hik hjk).trans hp,?_,h3,?_,(hb.trans hb2).trans hb3⟩,by simp [intOf];omega⟩
     ·rw [mw hik hjk];unfold swp;rw [if_neg (by omega),if_neg (by omega)];exact hat
     ·rw [mw hik hjk];exact hd.step (by omega) (by omega) (by unfold par;omega) hm hlt2
   ·have hj2I:2*((i:Nat):Int)+2<n:=by omega
    have hj2k:2*i+2<ks.length:=by omega
    go_wp2_with fail
    refine(rF h hc hgk hzr (i:=2*i+2) (k:=2*i+1) hj2k hjk hlk (by omega) (by omega) rfl).mono ?_;rintro e w1 ⟨rfl,h1,hb1,hb1'⟩;have hgk1:=hgk.kp hzr hb1;have hbb:=hb.trans hb1;obtain⟨a1,c1,hc1⟩:=h1.cell;clear hme hc hb1' h hgk hb hb1;have hme:=LI hc1;have hz1:OkF F base w1:=hz.mono hbb.size
    cases hlt:lt (at_ ks (2*i+2)).key (at_ ks (2*i+1)).key with
    |false=>
     have hm:=min2 (key:=Hd.key) (f:=at_ ks) (n:=n) hlt
     go_wp2_with fail
     refine(rF h1 hc1 hgk1 hz1 (i:=2*i+1) (k:=i) hjk hik hlk (by omega) (by omega) rfl).mono ?_;rintro e w2 ⟨rfl,h2,hb2,hb2'⟩;obtain⟨a2,c2,hc2⟩:=h2.cell;have hms:=Aa hc2;clear hme hc1 hb2';have hz2:OkF F base w2:=hz1.mono hb2.size
     cases hlt2:lt (at_ ks (2*i+1)).key (at_ ks i).key with
     |false=>
      go_wp2
      go_ret
      exact⟨⟨_,rfl⟩,ks,hp,hat,hd.done (fun k k0 kn kp=>le_trans (wy hlt2) (hm k k0 kn kp)),h2,hbb.trans hb2⟩
     |true=>
      go_wp2_with fail
      refine(rG h2 hc2 hz2 (i:=i) (k:=2*i+1) hik hjk hlk (by omega) (by omega) rfl).mono ?_;rintro e w3 ⟨rfl,h3,hb3⟩
      go_wp2
      refine⟨⟨2*i+1,sd ks i (2*i+1),by first|rfl|simp|(congr 1),by omega,(od hik hjk).trans hp,?_,h3,?_,(hbb.trans hb2).trans hb3⟩,by simp [intOf];omega⟩
      ·rw [mw hik hjk];unfold swp;rw [if_neg (by omega),if_neg (by omega)];exact hat
      ·rw [mw hik hjk];exact hd.step (by omega) (by omega) (by unfold par;omega) hm hlt2
    |true=>
     have hm:=aeA (key:=Hd.key) (f:=at_ ks) (n:=n) hlt
     go_wp2_with fail
     refine(rF h1 hc1 hgk1 hz1 (i:=2*i+2) (k:=i) hj2k hik hlk (by omega) (by omega) rfl).mono ?_;rintro e w2 ⟨rfl,h2,hb2,hb2'⟩;obtain⟨a2,c2,hc2⟩:=h2.cell;have hms:=Aa hc2;clear hme hc1 hb2';have hz2:OkF F base w2:=hz1.mono hb2.size
     cases hlt2:lt (at_ ks (2*i+2)).key (at_ ks i).key with
     |false=>
      go_wp2
      go_ret
      exact⟨⟨_,rfl⟩,ks,hp,hat,hd.done (fun k k0 kn kp=>le_trans (wy hlt2) (hm k k0 kn kp)),h2,hbb.trans hb2⟩
     |true=>
      go_wp2_with fail
      refine(rG h2 hc2 hz2 (i:=i) (k:=2*i+2) hik hj2k hlk (by omega) (by omega) rfl).mono ?_;rintro e w3 ⟨rfl,h3,hb3⟩
      go_wp2
      refine⟨⟨2*i+2,sd ks i (2*i+2),by first|rfl|simp|(congr 1),by omega,(od hik hj2k).trans hp,?_,h3,?_,(hbb.trans hb2).trans hb3⟩,by simp [intOf];omega⟩
      ·rw [mw hik hj2k];unfold swp;rw [if_neg (by omega),if_neg (by omega)];exact hat
      ·rw [mw hik hj2k];exact hd.step (by omega) (by omega) (by unfold par;omega) hm hlt2
end Hp
end
noncomputable section
open Go.RowKit Go.Lib Go.Sort
namespace Hp
theorem ID(F:Nat→Prop)(base Q:Nat)(n:Nat)(N:Int)(hN:N=(n:Int))(hs:List Hd)(w:World)(h:QH F w base Q hs)(hg:Good w base hs)(hz:OkF F base w)(hn:n<hs.length)(hl:hs.length≤100000)(hd:Down Hd.key n (at_ hs) 0):
  Calls Try.prog 73 #[.iface 89 (.pointer (some ⟨Q,0,none⟩)),.int .i64 0,.int .i64 N] w fun e w'=>(∃b,e= .returned (.bool b))∧∃ks,ks.Perm hs∧at_ ks n=at_ hs n∧Heap Hd.key n (at_ ks)∧QH F w' base Q ks∧Kp F w w':=by
 subst hN;exact LJ F base Q n hs w h hg hz hn hl hd
theorem Wp{ks:List Hd}{n:Nat}(h:ks.length=n+1):∃ms,ks=ms++ [at_ ks n]∧ms.length=n:=by
 refine⟨ks.take n,?_,by rw [List.length_take];omega⟩;rw [at_lt (by omega)]
 have:=List.take_append_getElem (l:=ks) (i:=n) (by omega)
 rw [this,show n+1=ks.length by omega,List.take_length]
set_option maxRecDepth 100000 in
set_option maxHeartbeats 2000000 in
theorem Pz(F:Nat→Prop)(base Q:Nat)(hs:List Hd)(w:World)(h:QH F w base Q hs)(hg:Good w base hs)(hz:OkF F base w)(h0:0<hs.length)(hl:hs.length≤100000)(hH:Heap Hd.key hs.length (at_ hs)):
  Calls Try.prog 35 #[.iface 89 (.pointer (some ⟨Q,0,none⟩))] w fun e w'=>∃x ms,e= .returned (.iface 97 (HV x))∧(ms++ [x]).Perm hs∧(∀y∈hs,le x.key y.key)∧Heap Hd.key ms.length (at_ ms)∧QH F w' base Q ms∧Kp F w w':=by
 obtain⟨n,hn⟩:∃n,n+1=hs.length:=⟨hs.length - 1,by omega⟩;obtain⟨a,c,hc⟩:=h.cell;have hml:=YA hc;have hms:=Aa hc;have hnk:n<hs.length:=by omega
 have hlI:((hs.length:Nat):Int)≤100000:=by omega
 have hlI0:(0:Int)<((hs.length:Nat):Int):=by omega
 have HK:=Lib.hid hn;clear hn
 go_enter Try.func35,Try.ntmps35
 go_wp2_with fail
 refine(rD a hs.length c w).mono ?_;rintro e w1 ⟨rfl,rfl⟩
 go_wp2_with fail
 refine(rG h hc hz (i:=0) (k:=n) h0 hnk hl (by rfl) (by have:=HK.out;omega) rfl).mono ?_;rintro e w2 ⟨rfl,h2,hb2⟩;have hz2:OkF F base w2:=hz.mono hb2.size;have hp2:=od h0 hnk;have hg2:=(rE hg hp2).kp hz hb2;have hl2:=oc hs 0 n
 have ha2:at_ (sd hs 0 n) n=at_ hs 0:=by
  rw [mw h0 hnk];unfold swp;by_cases e:n=0
  ·rw [if_pos e,e]
  ·rw [if_neg e,if_pos rfl]
 have hd2:Down Hd.key n (at_ (sd hs 0 n)) 0:=by
  rw [mw h0 hnk]
  have:=hH
  rw [←HK.out]at this;exact this.down rfl
 clear hml hms hc;have HS:=Lib.hid hl2;clear hl2;generalize sd hs 0 n=js at h2 hp2 hg2 ha2 hd2 HS
 go_wp2_with fail
 refine(ID F base Q n _ (by have:=HK.out;omega) js w2 h2 hg2 hz2 (by rw [HS.out];exact hnk) (by rw [HS.out];exact hl) hd2).mono ?_;rintro e w3 ⟨⟨b,rfl⟩,ks,hp3,ha3,hh3,h3,hb3⟩;obtain⟨ms,hks,hmn⟩:=Wp (hp3.length_eq.trans (HS.out.trans HK.out.symm));rw [ha3,ha2]at hks;subst hks;have hz3:OkF F base w3:=hz2.mono hb3.size;have hmp:=fun k=>adf k Q w3;have HM:=Lib.hid hmn;have hml:ms.length≤100000:=by omega
 clear hmn
 go_wp2_with fail
 refine(LH F base Q ms (at_ hs 0) w3 h3 hz3 hml).mono ?_;rintro e w4 ⟨rfl,h4,hb4⟩
 go_wp2
 go_ret
 refine⟨at_ hs 0,ms,rfl,hp3.trans hp2,fun y hy=> ?_,?_,h4,(hb2.trans hb3).trans hb4⟩
 ·obtain⟨k,hk,rfl⟩:=List.mem_iff_getElem.1 hy
  have:=hH.root k hk
  rw [at_lt hk]at this;exact this
 ·rw [HM.out];exact hh3.congr (fun k hk=>DU (by rw [HM.out];exact hk))
end Hp
end
noncomputable section
open Go.RowKit Go.Lib Go.Sort
namespace Hp
@[go_sem] abbrev PV (p:Int×Int):Value:= .agg #[.int .i64 p.1,.int .u64 p.2]
@[go_sem] abbrev SV (s:Sm3):Value:= .agg #[.int .i64 s.1,.int .i64 s.2.1,.int .u64 s.2.2]
def mc(s:Sm3):List Value:= [.int .i64 s.1,.int .i64 s.2.1,.int .u64 s.2.2]
def cellsS(l:List Sm3):List Value:=l.flatMap mc
theorem jE(h:Sm3)(l:List Sm3):cellsS (h::l)=mc h++cellsS l:=rfl
theorem LK(l m:List Sm3):cellsS (l++m)=cellsS l++cellsS m:=by simp [cellsS]
theorem LL(l:List Sm3):(cellsS l).length=l.length*3:=by
 induction l with
 |nil=>rfl
 |cons h l ih=>rw [jE,List.length_append,ih];simp [mc];omega
theorem cellsS_at:∀(l:List Sm3) (i j:Nat),i<l.length→j<3→(cellsS l)[i*3+j]? =(mc (at_ l i))[j]?
 | [],i,j,h,hj=>by simp at h
 |x::l,0,j,h,hj=>by
  rw [jE,List.getElem?_append_left (by simp [mc];omega),show 0*3+j=j by omega];rfl
 |x::l,i+1,j,h,hj=>by
  rw [jE,List.getElem?_append_right (by simp [mc];omega)]
  have:=cellsS_at l i j (by simpa using h) hj
  rw [show(i+1)*3+j - (mc x).length=i*3+j by simp [mc];omega,this];rfl
theorem LM(l:List Sm3):∀u∈cellsS l,u.oneCell'=true:=by
 induction l with
 |nil=>intro u hu;simp [cellsS]at hu
 |cons h l ih=>
  intro u hu;rw [jE]at hu;rcases List.mem_append.1 hu with hu|hu
  ·simp only [mc,List.mem_cons,List.not_mem_nil,or_false]at hu;rcases hu with rfl|rfl|rfl<;>rfl
  ·exact ih u hu
theorem Ad:∀(l:List Sm3) (i:Nat) (x:Sm3),(((cellsS l).set (i*3) (.int .i64 x.1)).set (i*3+1) (.int .i64 x.2.1)).set (i*3+2) (.int .u64 x.2.2)=cellsS (l.set i x)
 | [],i,x=>by simp [cellsS]
 |y::l,0,x=>rfl
 |y::l,i+1,x=>by
  have ih:=Ad l i x;rw [List.set_cons_succ,jE,jE,←ih,show(i+1)*3=i*3+3 by omega];rfl
theorem adg:(Try.prog.info? 69).map (fun i=>(i.zero,i.size,i.bytes))=some (some (.agg #[.int .i64 0,.int .i64 0,.int .u64 0]),3,24):=by kernel_rfl
theorem oe{l:List Value}{i:Nat}{v:Value}(h:l[i]? =some v):l.set i v=l:=by
 apply List.ext_getElem?;intro j;rw [List.getElem?_set];by_cases e:i=j
 ·subst e;rw [if_pos rfl,if_pos (List.getElem?_eq_some_iff.1 h).1,h]
 ·rw [if_neg e]
theorem PB{cur:Array Value}{L:List Sm3}{n:Nat}(h:cur.toList.take (n*3)=cellsS L)(i:Nat)(hi:i<L.length)(x:Sm3)(hx:(at_ L i).1=x.1):((cur.setIfInBounds (i*3+1) (.int .i64 x.2.1)).setIfInBounds (i*3+2) (.int .u64 x.2.2)).toList.take (n*3)=cellsS (L.set i x):=by
 rw [Array.toList_setIfInBounds,Array.toList_setIfInBounds,List.take_set,List.take_set,h,←Ad,oe (i:=i*3)]
 have:=cellsS_at L i 0 hi (by omega)
 rw [Nat.add_zero]at this;rw [this,←hx];rfl
def wA(A:Int×Int→Int×Int→Int×Int)(L:List Sm3)(s:Sm3):List Sm3:=
 if L≠[]∧(at_ L (L.length - 1)).1=s.1 then L.set (L.length - 1) (s.1,A (at_ L (L.length - 1)).2 s.2)else L++ [s]
theorem pV{w:World}{ops:Array Oper}{rest:List Oper}{o:Oper}{a:Act}{Q:Exit→Act→World→Prop}(hgd:o.guard=none)(s x:Operand)
  (ho:o.op= .call {callee:= .builtin .append,args:=#[s,x],argTypes:=#[32,32]}) (base:Nat) (v:Value) (n:Nat) (L:List Sm3) (hs:a.eval s=v) (hown:w.ownsRow base 69 3 v n (cellsS L))
  (X:Nat) (y:Sm3) (hx:a.eval x= .slice (some ⟨X,0,none⟩) 1 1) (hr:CellsAt w X 69 #[.int .i64 y.1,.int .i64 y.2.1,.int .u64 y.2.2]) (hnm:n≤100000) (hbase:base≤w.heap.size)
  (h:∀v' w',w'.ownsRow base 69 3 v' (n+1) (cellsS (L++ [y]))→w.grownBy w' v.ownBlock→(v'.ownBlock=v.ownBlock∨v'.ownBlock=some w.heap.size)→wpList Try.prog ops Q rest (a.put o.dst v') w'):wpList Try.prog ops Q (o::rest) a w:=by
 obtain⟨i0,hi0,hz0,hz1,hz2⟩:=xK adg
 refine wpList_append_own_at w hgd s x 32 ho base 69 i0 (.agg #[.int .i64 0,.int .i64 0,.int .u64 0]) 3 24 Try.underlying32 hi0 hz0 hz1 hz2 rfl (by decide) v n (cellsS L) hs hown ⟨X,0,none⟩ 1 1 (cellsS [y]) hx rfl ?_ (LM [y]) (by unfold maxLen;omega) (by omega) hbase
   fun v' w' hown' hg _ hat=>h v' w' (by rw [LK];exact hown') hg hat
 intro j u hj;rw [DW,hr.cell];have hj3:j<3:=by have:=(List.getElem?_eq_some_iff.1 hj).1;simpa [cellsS,mc]using this
 rcases(show j=0∨j=1∨j=2 by omega)with rfl|rfl|rfl
 ·exact hj
 ·exact hj
 ·exact hj
set_option maxRecDepth 100000 in
set_option maxHeartbeats 2000000 in
theorem PC(base:Nat)(r:Int)(A:Int×Int→Int×Int→Int×Int)(L:List Sm3)(s:Sm3)(a:Option Addr)(n c:Nat)(w:World)(hn:n=L.length)(hown:w.ownsRow base 69 3 (.slice a n c) n (cellsS L))(hz:base≤w.heap.size)(hl:n≤100000)
  (hAdd:∀x y W,Below w.heap.size w W→Calls Try.prog 27 #[.int .i64 r,PV x,PV y] W fun e w'=>e= .returned (PV (A x y))∧Below W.heap.size W w'):
  Calls Try.prog 36 #[.int .i64 r,.slice a n c,SV s] w fun e w'=>∃v,e= .returned v∧w'.ownsRow base 69 3 v (wA A L s).length (cellsS (wA A L s))∧w.grownBy w' (Value.slice a n c).ownBlock∧(v.ownBlock=(Value.slice a n c).ownBlock∨∃k,v.ownBlock=some k∧w.heap.size≤k):=by
 have HA:=Lib.hid hAdd;have HN:=Lib.hid hn;clear hAdd hn;have hlI:((n:Nat):Int)≤100000:=by omega
 obtain⟨SB,hSB⟩:∃SB,SB=w.heap.size:=⟨_,rfl⟩;have hC1:CellsAt (w.alloc (.cells #[.int .i64 s.1,.int .i64 s.2.1,.int .u64 s.2.2] 69)) w.heap.size 69 #[.int .i64 s.1,.int .i64 s.2.1,.int .u64 s.2.2]:=World.alloc_heap_new w _;have hB1:Below w.heap.size w (w.alloc (.cells #[.int .i64 s.1,.int .i64 s.2.1,.int .u64 s.2.2] 69)):=bla (Below.refl _ _) _;rw [←hSB]at hC1;have HSB:=Lib.hid hSB;clear hSB
 go_enter Try.func36,Try.ntmps36
 by_cases h0:n=0
 ·subst h0
  go_wp2
  rw [←HSB.out];generalize w.alloc (.cells #[.int .i64 s.1,.int .i64 s.2.1,.int .u64 s.2.2] 69)=W1 at hC1 hB1 ⊢;have s0:W1.cell? ⟨SB,0,none⟩=some (.int .i64 s.1):=hC1.cell 0;have s1:W1.cell? ⟨SB,1,none⟩=some (.int .i64 s.2.1):=hC1.cell 1;have s2:W1.cell? ⟨SB,2,none⟩=some (.int .u64 s.2.2):=hC1.cell 2;have kS:=Has.of hC1.lt
  go_quiet (fail)
  go_wp2_with (refine pV rfl _ _ rfl base (.slice a 0 c) 0 L rfl (kN hown (show Below w.heap.size w _ from bla (bld hB1) _)) _ s rfl (World.alloc_heap_new _ _) (by omega) (Nat.le_trans hz (bla (bld hB1) _).size) ?_;intro v' w3 hown3 hg3 hat3)
  go_ret
  have hp:wA A L s=L++ [s]:=if_neg (fun h=>h.1 (List.eq_nil_of_length_eq_zero HN.out.symm));rw [hp,gO,←HN.out];exact⟨v',rfl,hown3,(iz (bla (bld hB1) _) _).trans hg3,hat3.elim .inl (fun e=> .inr ⟨_,e,(bla (bld hB1) _).size⟩)⟩
 ·obtain⟨m,rfl⟩:∃m,n=m+1:=⟨n - 1,by omega⟩;obtain⟨g,cap,cur,e,hbg,hg,hnc,hcm,hcs,htake⟩:=hown.2.resolve_left (fun h=>h0 h.2);cases e;have hC:CellsAt w g 69 cur:=hg;have hml:m<L.length:=by rw [←HN.out];omega
  have g0:=hown.cells (g:=g) rfl (m*3) _ ((cellsS_at L m 0 hml (by omega)).trans rfl);have g1:=hown.cells (g:=g) rfl (m*3+1) _ ((cellsS_at L m 1 hml (by omega)).trans rfl);have g2:=hown.cells (g:=g) rfl (m*3+2) _ ((cellsS_at L m 2 hml (by omega)).trans rfl);rw [DW]at g0 g1 g2;have hgl:=hC.lt;have hm0:¬((m:Nat):Int)<0:=by omega
  have hm1:decide (((m:Nat):Int)<0)=false:=decide_eq_false hm0;have hmi:((m:Nat):Int)<((m:Nat):Int)+1:=by omega
  have hlm:at_ L m=at_ L (L.length - 1):=by rw [←HN.out];rfl
  generalize hy:at_ L m=y at g0 g1 g2 hlm;have HY:=Lib.hid hy;have HLM:=Lib.hid hlm;clear hy hlm
  go_wp2
  rw [←HSB.out];generalize w.alloc (.cells #[.int .i64 s.1,.int .i64 s.2.1,.int .u64 s.2.2] 69)=W1 at hC1 hB1 ⊢;have s0:W1.cell? ⟨SB,0,none⟩=some (.int .i64 s.1):=hC1.cell 0;have s1:W1.cell? ⟨SB,1,none⟩=some (.int .i64 s.2.1):=hC1.cell 1;have s2:W1.cell? ⟨SB,2,none⟩=some (.int .u64 s.2.2):=hC1.cell 2;have kS:=Has.of hC1.lt;replace g0:W1.cell? ⟨g,m*3,none⟩=some (.int .i64 y.1):=(hB1.cell (p:=⟨g,m*3,none⟩) hgl).trans g0;replace g1:W1.cell? ⟨g,m*3+1,none⟩=some (.int .i64 y.2.1):=(hB1.cell (p:=⟨g,m*3+1,none⟩) hgl).trans g1;replace g2:W1.cell? ⟨g,m*3+2,none⟩=some (.int .u64 y.2.2):=(hB1.cell (p:=⟨g,m*3+2,none⟩) hgl).trans g2;have kg:=Has.of (hC.below hB1).lt;by_cases hAt:y.1=s.1
  ·have HAT:=Lib.hid hAt;rw [hAt]at g0;clear hAt
   go_quiet (fail)
   go_wp2
   have hB2:Below w.heap.size w (W1.drewN nq):=bld hB1;have hC2:CellsAt (W1.drewN nq) g 69 cur:=hC.below hB2;have hS2:CellsAt (W1.drewN nq) SB 69 #[.int .i64 s.1,.int .i64 s.2.1,.int .u64 s.2.2]:=hC1;replace s1:(W1.drewN nq).cell? ⟨SB,1,none⟩=some (.int .i64 s.2.1):=s1;replace s2:(W1.drewN nq).cell? ⟨SB,2,none⟩=some (.int .u64 s.2.2):=s2;replace g1:(W1.drewN nq).cell? ⟨g,m*3+1,none⟩=some (.int .i64 y.2.1):=g1;replace g2:(W1.drewN nq).cell? ⟨g,m*3+2,none⟩=some (.int .u64 y.2.2):=g2;clear s0 g0 kS kg hC1 hB1;generalize W1.drewN nq=W2 at hB2 hC2 hS2 s1 s2 g1 g2 ⊢;have kS:=Has.of hS2.lt;have kg:=Has.of hC2.lt;have lS:=hS2.lt;have lg:=hC2.lt;have hkp:∀W,Below W2.heap.size W2 W→W.cell? ⟨g,m*3+1,none⟩=some (.int .i64 y.2.1)∧W.cell? ⟨g,m*3+2,none⟩=some (.int .u64 y.2.2)∧W.cell? ⟨SB,1,none⟩=some (.int .i64 s.2.1)∧W.cell? ⟨SB,2,none⟩=some (.int .u64 s.2.2):=fun W hW=>⟨(hW.cell (p:=⟨g,m*3+1,none⟩) lg).trans g1,(hW.cell (p:=⟨g,m*3+2,none⟩) lg).trans g2,(hW.cell (p:=⟨SB,1,none⟩) lS).trans s1,(hW.cell (p:=⟨SB,2,none⟩) lS).trans s2⟩;have bd:Below W2.heap.size W2 W2.drew:=⟨rfl,rfl,rfl,Nat.le_refl _,fun _ _=>rfl⟩;have bdn:∀k,Below W2.heap.size W2 (W2.drewN k):=fun k=>bld (Below.refl _ _)
   go_region_with (first|(go_at_call 27;refine(HA.out y.2 s.2 _ (by first|exact hB2.trans (bd.mono hB2.size)|exact hB2.trans ((bdn _).mono hB2.size)|exact hB2)).mono ?_;rintro e w3 ⟨rfl,hb3⟩;have hBX:Below W2.heap.size W2 w3:=(by first|exact bd.trans hb3|exact(bdn _).trans hb3|exact hb3);have hC3:=hC2.below hBX;have tf1:=hC3.frozen (m*3+1);have tf2:=(hC3.set (m*3+1) (.int .i64 (A y.2 s.2).1)).frozen (m*3+2);have tf3:=hC3.frozen (m*3+2);have kg3:=Has.of hC3.lt;obtain⟨u1,z1⟩:∃u,w3.cell? ⟨g,m*3+1,none⟩=some u:=⟨_,(hkp _ hBX).1⟩;obtain⟨u2,z2⟩:∃u,w3.cell? ⟨g,m*3+2,none⟩=some u:=⟨_,(hkp _ hBX).2.1⟩))
   all_goals (
    go_wp2
    go_ret
    have hLm:L.length - 1=m:=by rw [←HN.out];rfl
    have hp:wA A L s=L.set m (s.1,A y.2 s.2):=by
     unfold wA;rw [←HLM.out,hLm];exact if_pos ⟨fun e=>by rw [e]at hml;simp at hml,HAT.out⟩
    have hG:=((iz (hB2.trans (hBX.mono hB2.size)) (some g)).trans (cj w3 g (m*3+1) (.int .i64 (A y.2 s.2).1))).trans (cj _ g (m*3+2) (.int .u64 (A y.2 s.2).2));refine⟨.slice (some ⟨g,0,none⟩) (m+1) c,rfl,?_,hG,.inl rfl⟩;rw [hp,List.length_set,←HN.out]
    exact⟨by rw [LL,List.length_set,HN.out],.inr ⟨g,c,_,rfl,hbg,((hC3.set (m*3+1) (.int .i64 (A y.2 s.2).1)).set (m*3+2) (.int .u64 (A y.2 s.2).2)),hnc,hcm,by simp only [Array.size_setIfInBounds];exact hcs,PB htake m hml (s.1,A y.2 s.2) (by rw [HY.out];exact HAT.out)⟩⟩)
  ·have hb:(y.1 !=s.1)=true:=by simpa using hAt
   go_quiet (fail)
   go_wp2_with (refine pV rfl _ _ rfl base (.slice (some ⟨g,0,none⟩) (m+1) c) (m+1) L rfl (kN hown (show Below w.heap.size w _ from bla (bld hB1) _)) _ s rfl (World.alloc_heap_new _ _) (by omega) (Nat.le_trans hz (bla (bld hB1) _).size) ?_;intro v' w3 hown3 hg3 hat3)
   go_ret
   have hp:wA A L s=L++ [s]:=if_neg (fun h=>hAt (by rw [HLM.out];exact h.2));rw [hp,gO,←HN.out];exact⟨v',rfl,hown3,(iz (bla (bld hB1) _) _).trans hg3,hat3.elim .inl (fun e=> .inr ⟨_,e,(bla (bld hB1) _).size⟩)⟩
end Hp
end
noncomputable section
open Go.RowKit Go.Lib Go.Sort
namespace Hp
def tot(hs:List Hd):Nat:=(hs.map (fun h=>h.l.length)).sum
theorem Ae{a b:List Hd}(h:a.Perm b):tot a=tot b:=by
 induction h with
 |nil=>rfl
 |cons x _ ih=>unfold tot at*;simp [ih]
 |swap x y l=>unfold tot;simp;omega
 |trans _ _ h1 h2=>exact h1.trans h2
theorem IE(a:List Hd)(x:Hd):tot (a++ [x])=tot a+x.l.length:=by simp [tot]
inductive Ext:List Hd→List (Int×Sm3)→Prop
 |nil:Ext [] []
 |last {hs ms:List Hd} {x:Hd} {s:Sm3} {seq:List (Int×Sm3)}:(ms++ [x]).Perm hs→x.l= [s]→(∀y∈hs,le x.key y.key)→Ext ms seq→Ext hs ((x.k,s)::seq)
 |more {hs ms ks:List Hd} {x x':Hd} {s:Sm3} {t:List Sm3} {seq:List (Int×Sm3)}:(ms++ [x]).Perm hs→x.l=s::t→t≠[]→x'.k=x.k→x'.l=t→ks.Perm (ms++ [x'])→(∀y∈hs,le x.key y.key)→Ext ks seq→Ext hs ((x.k,s)::seq)
theorem Ext.perm{hs ks:List Hd}{seq:List (Int×Sm3)}(h:Ext hs seq)(hp:hs.Perm ks):Ext ks seq:=by
 cases h with
 |nil=>rw [hp.symm.eq_nil];exact .nil
 |last h1 h2 h3 h4=>exact .last (h1.trans hp) h2 (fun y hy=>h3 y (hp.mem_iff.2 hy)) h4
 |more h1 h2 h3 h4 h5 h6 h7 h8=>exact .more (h1.trans hp) h2 h3 h4 h5 h6 (fun y hy=>h7 y (hp.mem_iff.2 hy)) h8
def outOf(A:Int×Int→Int×Int→Int×Int)(seq:List (Int×Sm3)):List Sm3:=seq.foldl (fun o x=>wA A o x.2) []
theorem LN(A:Int×Int→Int×Int→Int×Int)(d:List (Int×Sm3))(x:Int×Sm3):outOf A (d++ [x])=wA A (outOf A d) x.2:=by simp [outOf]
theorem SO(A:Int×Int→Int×Int→Int×Int)(L:List Sm3)(s:Sm3):(wA A L s).length≤L.length+1∧0<(wA A L s).length:=by
 unfold wA;split
 ·rename_i h;rw [List.length_set];exact⟨by omega,List.length_pos_iff.2 h.1⟩
 ·simp
theorem SP{F:Nat→Prop}{w w':World}{base n:Nat}{e:TypeId}{s:Nat}{v:Value}{xs:List Value}(h:w.ownsRow base e s v n xs)(hF:∀k,v.ownBlock=some k→F k)(hb:Kp F w w'):w'.ownsRow base e s v n xs:=by
 refine⟨h.1,?_⟩;rcases h.2 with h0|⟨g,cap,cur,e,hbg,hg,hr⟩
 ·exact .inl h0
 ·subst e;have hlt:=(h.lt g rfl).2;exact .inr ⟨g,cap,cur,rfl,hbg,(hb.2 g (hF g rfl) hlt).trans hg,hr⟩
def FV(base:Nat)(v:Value):Nat→Prop:=fun k=>k<base∨v.ownBlock=some k
theorem FV.ok{w:World}{base n:Nat}{e:TypeId}{s:Nat}{v:Value}{xs:List Value}(h:w.ownsRow base e s v n xs)(hz:base≤w.heap.size):OkF (FV base v) base w:=⟨fun k hk=> .inl hk,fun k hk=>by
 rcases hk with hk|hk
 ·omega
 ·exact(h.lt k hk).2⟩
theorem QH.lt{F:Nat→Prop}{w:World}{base Q:Nat}{hs:List Hd}(h:QH F w base Q hs):Q<w.heap.size:=by
 obtain⟨_,a,c,hC,_⟩:=h;exact hC.lt
theorem QH.put{w w':World}{base Q:Nat}{hs:List Hd}{v v':Value}(h:QH (FV base v) w base Q hs)(hg:w.grownBy w' v.ownBlock)(hv:v'.ownBlock=v.ownBlock∨∃k,v'.ownBlock=some k∧w.heap.size≤k):QH (FV base v') w' base Q hs:=by
 have hq:=h.lt;obtain⟨h1,a,c,hC,ho,hn⟩:=h
 have key:∀g,g<w.heap.size→¬FV base v g→¬FV base v' g:=fun g hg hf hf'=>by
  rcases hf' with h|h
  ·exact hf (.inl h)
  ·rcases hv with e|⟨k,e,hk⟩
   ·exact hf (.inr (e▸h))
   ·rw [e]at h;cases h;omega
 refine⟨key Q hq h1,a,c,hC.grown hg (fun e=>h1 (.inr e.symm)),ho.kept hg ?_,fun g hgo=>⟨(hn g hgo).1,key g (ho.lt g hgo).2 (hn g hgo).2⟩⟩;by_cases e:(Value.slice a hs.length c).ownBlock=none
 ·exact .inl e
 ·refine .inr (fun e2=> ?_);obtain⟨g,hgv⟩:=Option.ne_none_iff_exists'.1 e;exact(hn g hgv).2 (.inr (e2.symm.trans hgv))
theorem QH.wide{F G:Nat→Prop}{w:World}{base Q:Nat}{hs:List Hd}(h:QH F w base Q hs)(hFG:∀k,G k→F k):QH G w base Q hs:=by
 obtain⟨h1,a,c,hC,ho,hn⟩:=h;exact⟨fun g=>h1 (hFG _ g),a,c,hC,ho,fun g hg=>⟨(hn g hg).1,fun e=>(hn g hg).2 (hFG _ e)⟩⟩
theorem RdS.tail{w:World}{base:Nat}{b:Addr}{s:Sm3}{t:List Sm3}(h:RdS w base (some b) (s::t)):RdS w base (some (b.add 3)) t:=by
 intro i hi;obtain⟨b',e,hl,c0,c1,c2⟩:=h (i+1) (by simp;omega);cases e
 have ad:∀k,(b.add 3).add k=b.add (3+k):=fun k=>by
  unfold Addr.add;by_cases hk:k=0
  ·subst hk;simp
  ·simp [hk];omega
 refine⟨b.add 3,rfl,by rw [uC];exact hl,?_,?_,?_⟩
 ·rw [ad,show 3+i*3=(i+1)*3 by omega];simpa using c0
 ·rw [ad,show 3+(i*3+1)=(i+1)*3+1 by omega];simpa using c1
 ·rw [ad,show 3+(i*3+2)=(i+1)*3+2 by omega];simpa using c2
def ne(hs:List Hd):List Hd:=hs.filter (fun h=> !h.l.isEmpty)
theorem IF{hs:List Hd}{x:Hd}(h:x.l= []):ne (hs++ [x])=ne hs:=by simp [ne,h]
theorem Wq{hs:List Hd}{x:Hd}(h:x.l≠[]):ne (hs++ [x])=ne hs++ [x]:=by
 have:x.l.isEmpty=false:=by simpa using h
 simp [ne,this]
theorem Wr{hs:List Hd}{i:Nat}(h:i<hs.length):hs.take (i+1)=hs.take i++ [at_ hs i]:=by
 rw [at_lt h,List.take_append_getElem]
end Hp
end
noncomputable section
open Go.RowKit Go.Lib Go.Sort
namespace Hp
abbrev Evt:=Int×Sm3
def kl(x:Evt):Int×Int:=(x.2.1,x.1)
def evts(H:List Hd):List Evt:=H.flatMap (fun h=>h.l.map (fun s=>(h.k,s)))
def Ris(l:List Sm3):Prop:=l.Pairwise (fun a b=>a.1<b.1)
theorem iA(h:Hd)(H:List Hd):evts (h::H)=h.l.map (fun s=>(h.k,s))++evts H:=rfl
theorem Af(a b:List Hd):evts (a++b)=evts a++evts b:=by simp [evts]
theorem wB{a b:List Hd}(h:a.Perm b):(evts a).Perm (evts b):=by
 induction h with
 |nil=>exact .refl _
 |cons x _ ih=>rw [iA,iA];exact ih.append_left _
 |swap x y l=>
  rw [iA,iA,iA,iA,←List.append_assoc,←List.append_assoc];exact List.perm_append_comm.append_right _
 |trans _ _ h1 h2=>exact h1.trans h2
theorem Ag{hs:List Hd}{seq:List Evt}(h:Ext hs seq):seq.Perm (evts hs):=by
 induction h with
 |nil=>exact .refl _
 | @last hs ms x s seq h1 h2 h3 h4 ih=>
  refine List.Perm.trans ?_ (wB h1);rw [Af]
  have:evts [x]= [(x.k,s)]:=by simp [evts,h2]
  rw [this];exact(ih.cons _).trans (List.perm_append_singleton _ _).symm
 | @more hs ms ks x x' s t seq h1 h2 h3 h4 h5 h6 h7 h8 ih=>
  refine List.Perm.trans ?_ (wB h1);have e1:evts [x]=(x.k,s)::t.map (fun s=>(x.k,s)):=by simp [evts,h2]
  have e2:evts [x']=t.map (fun s=>(x.k,s)):=by simp [evts,h5,h4]
  rw [Af,e1]
  have:=ih.trans (wB h6)
  rw [Af,e2]at this;exact(this.cons _).trans List.perm_middle.symm
theorem NY{hs:List Hd}(hr:∀h∈hs,Ris h.l){e:Evt}(he:e∈evts hs):∃h∈hs,le h.key (kl e):=by
 unfold evts at he;rw [List.mem_flatMap]at he;obtain⟨h,hm,he⟩:=he;rw [List.mem_map]at he;obtain⟨s,hs',rfl⟩:=he;refine⟨h,hm,?_⟩;have hR:=hr h hm;unfold Hd.key kl
 cases hl:h.l with
 |nil=>rw [hl]at hs';cases hs'
 |cons a l=>
  rw [hl]at hs' hR;rw [le_iff];simp only [List.headD_cons];unfold Ris at hR;rw [List.pairwise_cons]at hR;rcases List.mem_cons.1 hs' with rfl|hm2
  ·exact .inr ⟨rfl,Int.le_refl _⟩
  ·exact .inl (hR.1 s hm2)
theorem LO{hs:List Hd}{seq:List Evt}(h:Ext hs seq)(hr:∀h∈hs,Ris h.l):seq.Pairwise (fun a b=>le (kl a) (kl b)):=by
 have H:=h
 induction h with
 |nil=>exact .nil
 | @last hs ms x s seq h1 h2 h3 h4 ih=>
  have hp:=Ag H;refine List.pairwise_cons.2 ⟨fun e he=> ?_,ih (fun h hm=>hr h (h1.mem_iff.1 (by simp [hm]))) h4⟩;obtain⟨h,hm,hl⟩:=NY hr (hp.mem_iff.1 (List.mem_cons_of_mem _ he));have hk:kl (x.k,s)=x.key:=by simp [kl,Hd.key,h2]
  rw [hk];exact le_trans (h3 h hm) hl
 | @more hs ms ks x x' s t seq h1 h2 h3 h4 h5 h6 h7 h8 ih=>
  have hp:=Ag H;refine List.pairwise_cons.2 ⟨fun e he=> ?_,ih (fun h hm=> ?_) h8⟩
  ·obtain⟨h,hm,hl⟩:=NY hr (hp.mem_iff.1 (List.mem_cons_of_mem _ he));have hk:kl (x.k,s)=x.key:=by simp [kl,Hd.key,h2]
   rw [hk];exact le_trans (h7 h hm) hl
  ·rcases List.mem_append.1 (h6.mem_iff.1 hm)with hm|hm
   ·exact hr h (h1.mem_iff.1 (by simp [hm]))
   ·rw [List.mem_singleton.1 hm,h5]
    have:=hr x (h1.mem_iff.1 (by simp))
    rw [h2]at this;exact(List.pairwise_cons.1 this).2
theorem uniq{α:Type}{R:α→α→Prop}:∀(l m:List α),l.Perm m→l.Pairwise R→m.Pairwise R→(∀a∈l,∀b∈l,R a b→R b a→a=b)→l=m
 | [],m,hp,_,_,_=>(hp.symm.eq_nil).symm
 |a::l,m,hp,hl,hm,h=>by
  cases m with
  |nil=>exact absurd hp.eq_nil (by simp)
  |cons b m=>
   have e:a=b:=by
    rcases List.mem_cons.1 (hp.mem_iff.1 (List.mem_cons_self))with e|ha
    ·exact e
    ·rcases List.mem_cons.1 (hp.mem_iff.2 (List.mem_cons_self))with e|hb
     ·exact e.symm
     ·exact h a (List.mem_cons_self) b (List.mem_cons_of_mem _ hb) ((List.pairwise_cons.1 hl).1 b hb) ((List.pairwise_cons.1 hm).1 a ha)
   subst e;rw [uniq l m hp.cons_inv (List.pairwise_cons.1 hl).2 (List.pairwise_cons.1 hm).2 (fun a ha b hb=>h a (List.mem_cons_of_mem _ ha) b (List.mem_cons_of_mem _ hb))]
def dh(x:Evt):List Evt→List Evt
 | []=> [x]
 |y::l=>if lt (kl y) (kl x)=true then y::dh x l else x::y::l
def sortE:List Evt→List Evt
 | []=> []
 |x::l=>dh x (sortE l)
theorem wD(x:Evt):∀l,(dh x l).Perm (x::l)
 | []=> .refl _
 |y::l=>by
  unfold dh;split
  ·exact((wD x l).cons y).trans (.swap x y l)
  ·exact .refl _
theorem Ah:∀l,(sortE l).Perm l
 | []=> .refl _
 |x::l=>(wD x _).trans ((Ah l).cons x)
theorem xL(x:Evt):∀l:List Evt,l.Pairwise (fun a b=>le (kl a) (kl b))→(dh x l).Pairwise (fun a b=>le (kl a) (kl b))
 | [],_=>by simp [dh]
 |y::l,h=>by
  have h2:=List.pairwise_cons.1 h;unfold dh;split
  ·rename_i hc;refine List.pairwise_cons.2 ⟨fun e he=> ?_,xL x l h2.2⟩;rcases List.mem_cons.1 ((wD x l).mem_iff.1 he)with rfl|he
   ·exact le_of_lt hc
   ·exact h2.1 e he
  ·rename_i hc;have hc':lt (kl y) (kl x)=false:=by simpa using hc
   refine List.pairwise_cons.2 ⟨fun e he=> ?_,h⟩;rcases List.mem_cons.1 he with rfl|he
   ·exact hc'
   ·exact le_trans hc' (h2.1 e he)
theorem uD:∀l:List Evt,(sortE l).Pairwise (fun a b=>le (kl a) (kl b))
 | []=> .nil
 |x::l=>xL x _ (uD l)
theorem Ws(H:List Hd):evts (ne H)=evts H:=by
 induction H with
 |nil=>rfl
 |cons x H ih=>
  unfold ne at*;rw [List.filter_cons]
  cases hx:x.l with
  |nil=>simp only [List.isEmpty_nil,Bool.not_true];rw [if_neg (by simp),ih,iA,hx];rfl
  |cons s t=>simp only [List.isEmpty_cons,Bool.not_false];rw [if_pos trivial,iA,ih,iA]
theorem SQ{l:List Sm3}(h:Ris l){a b:Sm3}(ha:a∈l)(hb:b∈l)(e:a.1=b.1):a=b:=by
 induction l with
 |nil=>cases ha
 |cons x l ih=>
  have h2:=List.pairwise_cons.1 h;rcases List.mem_cons.1 ha with rfl|ha'
  ·rcases List.mem_cons.1 hb with rfl|hb'
   ·rfl
   ·have:=h2.1 b hb';omega
  ·rcases List.mem_cons.1 hb with rfl|hb'
   ·have:=h2.1 a ha';omega
   ·exact ih h2.2 ha' hb'
theorem ext_eq{H:List Hd}{seq:List Evt}(h:Ext (ne H) seq)(hr:∀h∈H,Ris h.l)(hk:∀i,i<H.length→(at_ H i).k=(i:Int)):seq=sortE (evts H):=by
 have hp:=Ag h;rw [Ws]at hp;have hn:∀h∈ne H,h∈H:=fun h hm=>(List.mem_filter.1 hm).1;refine uniq _ _ (hp.trans (Ah _).symm) (LO h (fun h hm=>hr h (hn h hm))) (uD _) (fun a ha b hb h1 h2=> ?_);have ma:=hp.mem_iff.1 ha;have mb:=hp.mem_iff.1 hb;unfold evts at ma mb;rw [List.mem_flatMap]at ma mb;obtain⟨x,hx,ma⟩:=ma;obtain⟨y,hy,mb⟩:=mb;rw [List.mem_map]at ma mb;obtain⟨s,hs,rfl⟩:=ma;obtain⟨u,hu,rfl⟩:=mb;unfold kl at h1 h2;rw [le_iff]at h1 h2;simp only at h1 h2;obtain⟨i,hi,rfl⟩:=List.mem_iff_getElem.1 hx;obtain⟨j,hj,rfl⟩:=List.mem_iff_getElem.1 hy;have ki:=hk i hi;have kj:=hk j hj;rw [at_lt hi]at ki;rw [at_lt hj]at kj;have e:i=j:=by omega
 subst e
 have:=SQ (hr _ hx) hs hu (by omega)
 rw [this]
end Hp
end
noncomputable section
namespace Ev
namespace KM
end KM
end Ev
namespace Sm
namespace Mg
open Go Ev Ev.KM
def qk:List (Int×Int×Int)→Bool
 | []=>true
 |a::r=>match r with
  | []=>true
  |b::_=>decide (a.1<b.1)&& qk r
theorem Ai(a b:Int×Int×Int)(r:List (Int×Int×Int)):qk (a::b::r)=(decide (a.1<b.1)&& qk (b::r)):=rfl
theorem IG:∀l:List (Int×Int×Int),qk l=true↔Hp.Ris l
 | []=>by simp [qk,Hp.Ris]
 | [a]=>by simp [qk,Hp.Ris]
 |a::b::r=>by
  have ih:=IG (b::r);rw [Ai,Bool.and_eq_true,ih,decide_eq_true_eq];unfold Hp.Ris;constructor
  ·rintro⟨h1,h2⟩;refine List.pairwise_cons.2 ⟨fun c hc=> ?_,h2⟩;rcases List.mem_cons.1 hc with rfl|hc
   ·exact h1
   ·have:=(List.pairwise_cons.1 h2).1 c hc;omega
  ·intro h;have h2:=List.pairwise_cons.1 h;exact⟨h2.1 b (by simp),h2.2⟩
theorem PE:∀(l:List (Int×Int×Int)) (j:Nat),0<j→(hj:j<l.length)→qk (l.drop (j - 1))=(decide (l[j - 1].1<l[j].1)&& qk (l.drop j)):=by
 intro l j h0 hj
 have e1:l.drop (j - 1)=l[j - 1]::l.drop j:=by
  rw [List.drop_eq_getElem_cons (by omega)];congr 2;omega
 rw [e1,List.drop_eq_getElem_cons hj,Ai]
theorem FQ{x:Sl (Int×Int×Int)}(hs:x.l= []∨x.sz=3)(hn:x.l.length≤9223372036854775807):kL x=some (qk x.l):=by
 rw [CG]
 have h1:∀j:Nat,0<j→(hj:j<x.l.length)→gR x j=some (if x.l[j - 1].1<x.l[j].1 then .inl ((j+1:Nat):Int)else .inr (.inr (.inl false))):=fun j h0 hj=>by
  unfold gR;rw [if_pos (by omega),show IntKind.i64.wrap ((j:Int) - 1)=((j - 1:Nat):Int)by rw [fM (by omega) (by omega)];omega,bI hs hj,bI hs (show j - 1<x.l.length by omega)];simp only [zbS,cX hj hn];by_cases hc:x.l[j - 1].1<x.l[j].1
  ·rw [if_neg (by omega),if_pos hc]
  ·rw [if_pos (by omega),if_neg hc]
 have h2:∀j:Nat,x.l.length≤j→gR x j=some (.inr (.inl ())):=fun j hj=>by
  unfold gR;rw [if_neg (by omega)]
 by_cases hl:x.l.length≤1
 ·rw [show(1:Int)=((1:Nat):Int)from rfl,pJ (h2 1 hl)]
  match x.l,hl with
  | [],_=>rfl
  | [a],_=>rfl
  |a::b::r,hl=>simp at hl
 obtain⟨r,e1,e2⟩:=cu (b:=gR x) x.l.length (fun j a=>0<j∧a=(j:Int)∧qk x.l=qk (x.l.drop (j - 1))) (fun r=>(qk x.l=true∧r= .inl ())∨(qk x.l=false∧r= .inr (.inl false)))
  (by
   rintro j _ hj ⟨h0,rfl,hr⟩;rw [h1 j h0 hj];rw [PE _ j h0 hj]at hr;by_cases hk:x.l[j - 1].1<x.l[j].1
   ·rw [if_pos hk];exact .inl ⟨_,rfl,by omega,rfl,by rw [hr,decide_eq_true hk];simp⟩
   ·rw [if_neg hk];exact .inr ⟨_,rfl,.inr ⟨by rw [hr,decide_eq_false hk];rfl,rfl⟩⟩)
  (by
   rintro _ ⟨h0,rfl,hr⟩;refine⟨_,h2 _ (Nat.le_refl _),.inl ⟨?_,rfl⟩⟩;rw [hr,List.drop_eq_getElem_cons (by omega),show x.l.length - 1+1=x.l.length by omega,List.drop_length]
   rfl)
  1 (by omega) ((1:Nat):Int) ⟨by omega,rfl,by simp⟩
 rw [show(1:Int)=((1:Nat):Int)from rfl,e1];rcases e2 with⟨g1,rfl⟩|⟨g1,rfl⟩
 ·rw [g1];rfl
 ·rw [g1];rfl
end Mg
end Sm
end
noncomputable section
namespace Sm
abbrev V:=Int×Int
structure Rg where
 o:Int→V
 ad:V→V→V
 na:V→Int×Bool
abbrev Ky:=Int×Int
def key(e:Int×Int×Int):Ky:=(e.1,e.2.1)
def klt(a b:Ky):Bool:=decide (a.1<b.1∨a.1=b.1∧a.2<b.2)
theorem uE(a:Ky):klt a a=false:=by simp [klt]
theorem DY{a b c:Ky}(h1:klt a b=true)(h2:klt b c=true):klt a c=true:=by simp [klt]at*;omega
theorem NZ{a b:Ky}(h1:klt a b=false)(h2:klt b a=false):a=b:=by
 simp [klt]at*;refine Prod.ext ?_ ?_<;>omega
theorem SR{a b:Ky}(h:klt a b=true):a≠b:=by rintro rfl;rw [uE]at h;cases h
theorem SS{a b:Ky}(h:klt a b=true):klt b a=false:=by simp [klt]at*;omega
def toE(R:Rg)(p:Ky×V):Int×Int×Int:=(p.1.1,p.1.2,(R.na p.2).1)
def upd(R:Rg)(f:Ky→Option V)(e:Int×Int×Int):Ky→Option V:=fun k=>if k=key e then some (match f (key e)with|some s=>R.ad s (R.o e.2.2)|none=>R.o e.2.2)else f k
def fm(R:Rg)(l:List (Int×Int×Int)):Ky→Option V:=l.foldl (upd R) (fun _=>none)
def ins(R:Rg):List (Ky×V)→(Int×Int×Int)→List (Ky×V)
 | [],e=> [(key e,R.o e.2.2)]
 |p::S,e=>if klt p.1 (key e)=true then p::ins R S e else if klt (key e) p.1=true then(key e,R.o e.2.2)::p::S else(p.1,R.ad p.2 (R.o e.2.2))::S
def canS(R:Rg)(l:List (Int×Int×Int)):List (Ky×V):=l.foldl (ins R) []
theorem PF(R:Rg)(l:List (Int×Int×Int))(e:Int×Int×Int):canS R (l++ [e])=ins R (canS R l) e:=by simp [canS]
def Rep(S:List (Ky×V))(f:Ky→Option V):Prop:=S.Pairwise (fun p q=>klt p.1 q.1=true)∧∀k z,(k,z)∈S↔f k=some z
theorem Rep.nil:Rep [] (fun _=>none):=⟨List.Pairwise.nil,by simp⟩
theorem Oa(R:Rg)(e:Int×Int×Int):∀(S:List (Ky×V)) (q:Ky×V),q∈ins R S e→q.1=key e∨q∈S
 | [],q,h=>by simp [ins]at h;subst h;exact .inl rfl
 |p::S,q,h=>by
  unfold ins at h;split at h
  ·rcases List.mem_cons.1 h with rfl|h
   ·exact .inr (by simp)
   ·rcases Oa R e S q h with h|h
    ·exact .inl h
    ·exact .inr (by simp [h])
  ·split at h
   ·rcases List.mem_cons.1 h with rfl|h
    ·exact .inl rfl
    ·exact .inr h
   ·rename_i h1 h2;rcases List.mem_cons.1 h with rfl|h
    ·exact .inl (NZ (by simpa using h1) (by simpa using h2))
    ·exact .inr (by simp [h])
theorem Aj(R:Rg)(e:Int×Int×Int):∀(S:List (Ky×V)),S.Pairwise (fun p q=>klt p.1 q.1=true)→(ins R S e).Pairwise (fun p q=>klt p.1 q.1=true)
 | [],_=>by simp [ins]
 |p::S,h=>by
  obtain⟨h1,h2⟩:=List.pairwise_cons.1 h;unfold ins;split
  ·rename_i hp;refine List.pairwise_cons.2 ⟨fun q hq=> ?_,Aj R e S h2⟩;rcases Oa R e S q hq with h|h
   ·rw [h];exact hp
   ·exact h1 q h
  ·split
   ·rename_i hp;refine List.pairwise_cons.2 ⟨fun q hq=> ?_,h⟩;rcases List.mem_cons.1 hq with rfl|hq
    ·exact hp
    ·exact DY hp (h1 q hq)
   ·exact List.pairwise_cons.2 ⟨h1,h2⟩
theorem aat(R:Rg)(e:Int×Int×Int):∀(S:List (Ky×V)) (f:Ky→Option V),Rep S f→Rep (ins R S e) (upd R f e)
 |S,f,h=>⟨Aj R e S h.1,by
  intro k z
  have hmem:∀(S:List (Ky×V)),S.Pairwise (fun p q=>klt p.1 q.1=true)→((k,z)∈ins R S e↔if k=key e then(∃s,(k,s)∈S∧z=R.ad s (R.o e.2.2))∨((∀s,(k,s)∉ S)∧z=R.o e.2.2)else(k,z)∈S):=by
   intro S
   induction S with
   |nil=>intro _;simp [ins,key]
   |cons p S ih=>
    intro hs;obtain⟨h1,h2⟩:=List.pairwise_cons.1 hs;unfold ins;split
    ·rename_i hp;rw [List.mem_cons,ih h2];by_cases hk:k=key e
     ·have hne:∀s,(k,s)≠p:=fun s hs=>SR hp (by rw [←hs];exact hk);simp [hk];rw [←hk];simp [hne]
     ·simp [hk]
    ·split
     ·rename_i hp0 hp
      have hno:∀s,(key e,s)∉ p::S:=by
       intro s hs;rcases List.mem_cons.1 hs with rfl|hs
       ·rw [uE]at hp;cases hp
       ·have:=DY hp (h1 _ hs)
        rw [uE]at this;cases this
      by_cases hk:k=key e
      ·subst hk;rw [List.mem_cons];simp only [if_true];constructor
       ·rintro(h|h)
        ·exact .inr ⟨hno,by cases h;rfl⟩
        ·exact absurd h (hno _)
       ·rintro(⟨s,h,_⟩|⟨_,rfl⟩)
        ·exact absurd h (hno _)
        ·exact .inl rfl
      ·rw [List.mem_cons,if_neg hk];constructor
       ·rintro(h|h)
        ·cases h;exact absurd rfl hk
        ·exact h
       ·exact .inr
     ·rename_i hp0 hp;have he:p.1=key e:=NZ (by simpa using hp0) (by simpa using hp)
      have hno:∀s,(key e,s)∉ S:=by
       intro s hs
       have:=h1 _ hs
       rw [he,uE]at this;cases this
      by_cases hk:k=key e
      ·subst hk;simp only [if_true];rw [List.mem_cons];constructor
       ·rintro(h|h)
        ·exact .inl ⟨p.2,by rw [←he];simp,by have:=congrArg Prod.snd h;exact this⟩
        ·exact absurd h (hno _)
       ·rintro(⟨s,h,rfl⟩|⟨h,_⟩)
        ·rcases List.mem_cons.1 h with h|h
         ·left
          rw [←h]
         ·exact absurd h (hno _)
        ·exact absurd (show(key e,p.2)∈p::S by rw [←he];simp) (h _)
      ·rw [List.mem_cons,if_neg hk,List.mem_cons];constructor
       ·rintro(h|h)
        ·exact absurd (by rw [←he];exact congrArg Prod.fst h) hk
        ·exact .inr h
       ·rintro(h|h)
        ·exact absurd (by rw [←he,←h]) hk
        ·exact .inr h
  rw [hmem S h.1];unfold upd;by_cases hk:k=key e
  ·subst hk;simp only [if_true]
   cases hf:f (key e)with
   |none=>
    have hno:∀s,(key e,s)∉ S:=fun s hs=>by rw [h.2,hf]at hs;cases hs
    simp [hno,eq_comm]
   |some s=>
    have hs:=(h.2 (key e) s).2 hf;simp only [zsI];constructor
    ·rintro(⟨s',h',rfl⟩|⟨h',_⟩)
     ·rw [h.2,hf]at h';cases h';rfl
     ·exact absurd hs (h' _)
    ·rintro rfl;exact .inl ⟨s,hs,rfl⟩
  ·simp [hk,h.2]⟩
theorem zp(R:Rg)(l:List (Int×Int×Int)):Rep (canS R l) (fm R l):=by
 have:∀(l:List (Int×Int×Int)) (S:List (Ky×V)) (f:Ky→Option V),Rep S f→Rep (l.foldl (ins R) S) (l.foldl (upd R) f):=by
  intro l
  induction l with
  |nil=>intro S f h;exact h
  |cons e l ih=>intro S f h;exact ih _ _ (aat R e S f h)
 exact this l [] _ Rep.nil
theorem Rep.nodup{S:List (Ky×V)}{f:Ky→Option V}(h:Rep S f):S.Nodup:=h.1.imp fun{a b} h e=>by rw [e,uE]at h;cases h
theorem Rep.uniq{S T:List (Ky×V)}{f:Ky→Option V}(h:Rep S f)(h':Rep T f):S=T:=by
 have hp:S.Perm T:=(List.perm_ext_iff_of_nodup h.nodup h'.nodup).2 fun p=>by rw [show p=(p.1,p.2)from rfl,h.2,h'.2]
 refine hp.eq_of_pairwise (le:=fun p q=>klt p.1 q.1=true) (fun a b _ _ h1 h2=> ?_) h.1 h'.1;rw [SS h1]at h2;cases h2
theorem IH(R:Rg)(e:Int×Int×Int):∀(S:List (Ky×V)),(∀p∈S,klt p.1 (key e)=true)→ins R S e=S++ [(key e,R.o e.2.2)]
 | [],_=>rfl
 |p::S,h=>by
  unfold ins;rw [if_pos (h p (by simp)),IH R e S (fun q hq=>h q (by simp [hq]))];rfl
theorem II(R:Rg):∀(l:List (Int×Int×Int)),l.Pairwise (fun a b=>klt (key a) (key b)=true)→canS R l=l.map (fun e=>(key e,R.o e.2.2)):=by
 intro l
 have:∀(m l:List (Int×Int×Int)),(l++m).Pairwise (fun a b=>klt (key a) (key b)=true)→m.foldl (ins R) (l.map (fun e=>(key e,R.o e.2.2)))=(l++m).map (fun e=>(key e,R.o e.2.2)):=by
  intro m
  induction m with
  |nil=>intro l _;simp
  |cons e m ih=>
   intro l h;rw [List.foldl_cons,IH]
   ·have:=ih (l++ [e]) (by simpa using h)
    simpa using this
   ·intro p hp;obtain⟨a,ha,rfl⟩:=List.mem_map.1 hp;exact(List.pairwise_append.1 h).2.2 a ha e (by simp)
 intro h
 have:=this l [] h
 simpa [canS]using this
theorem FS{R:Rg}:∀{l:List (Int×Int×Int)} {k:Ky} {z:V},fm R l k=some z→∃e∈l,key e=k:=by
 intro l
 have:∀(l:List (Int×Int×Int)) (f:Ky→Option V) (k:Ky) (z:V),l.foldl (upd R) f k=some z→(∃e∈l,key e=k)∨∃z,f k=some z:=by
  intro l
  induction l with
  |nil=>intro f k z h;exact .inr ⟨z,h⟩
  |cons e l ih=>
   intro f k z h;rcases ih _ _ _ h with⟨e',h1,h2⟩|⟨z',h2⟩
   ·exact .inl ⟨e',by simp [h1],h2⟩
   ·unfold upd at h2;split at h2
    ·rename_i hk;exact .inl ⟨e,by simp,hk.symm⟩
    ·exact .inr ⟨z',h2⟩
 intro k z h;rcases this l _ k z h with h|⟨z,h⟩
 ·exact h
 ·cases h
def sumR(R:Rg)(l:List (Int×Int×Int)):List (Int×Int×Int)×Int:=if(canS R l).all (fun p=>(R.na p.2).2)=true then((canS R l).map (toE R),0)else([],12)
end Sm
end
noncomputable section
open Go.RowKit Go.Sort
namespace Sm
open Ev
@[go_sem] abbrev WV (p:V):Value:= .agg #[.int .i64 p.1,.int .u64 p.2]
abbrev Ed:=Int×Int×Int
def orI(x y:Int):Int:=if x=0 then y else x
theorem DW(g i:Nat):((⟨g,0,none⟩:Addr).add i)=⟨g,i,none⟩:=by unfold Addr.add;split<;>simp_all
theorem Iz(a:Addr)(k:Nat):a.add (k+1)=⟨a.block,(a.add k).off+1,none⟩:=by
 unfold Addr.add;by_cases h:k=0
 ·subst h;simp
 ·simp [h];omega
def PT:T→Option Value
 | .v x=>if x.oneCell' then some x else none
 | .s _ _ _=>none
def PTs:List T→Option (List Value)
 | []=>some []
 |t::r=>(PT t).bind fun x=>(PTs r).map (x::·)
def PD:TD→Option Value
 | .one t=>PT t
 | .agg ts=>(PTs ts).map fun l=> .agg l.toArray
theorem ST{t:T}{x:Value}(h:PT t=some x)(w:World)(F:Nat→Prop):RepT w F t x∧∀y,RepT w F t y→y=x:=by
 cases t with
 |s=>simp [PT]at h
 |v z=>
  simp only [PT]at h;split at h
  ·rename_i hz;cases h;exact⟨.v _ hz,fun y hy=>by cases hy;rfl⟩
  ·simp at h
theorem Ob:∀{ts:List T} {l:List Value},PTs ts=some l→∀(w:World) (F:Nat→Prop),RepTs w F ts l∧∀ys,RepTs w F ts ys→ys=l
 | [],l,h,w,F=>by
  simp [PTs]at h;subst h;exact⟨⟨rfl,by simp⟩,fun ys hy=>by have:=hy.1;simpa using this.symm⟩
 |t::r,l,h,w,F=>by
  simp only [PTs,zbE,Option.map_eq_some_iff]at h;obtain⟨x,hx,l',hl,rfl⟩:=h;obtain⟨h1,h2⟩:=ST hx w F;obtain⟨h3,h4⟩:=Ob hl w F;refine⟨⟨by simp [h3.1],fun i t' hi=> ?_⟩,fun ys hy=> ?_⟩
  ·cases i with
   |zero=>simp at hi;subst hi;exact⟨x,rfl,h1⟩
   |succ i=>obtain⟨y,e1,e2⟩:=h3.2 i t' (by simpa using hi);exact⟨y,by simpa using e1,e2⟩
  ·obtain⟨hl,hy⟩:=hy
   cases ys with
   |nil=>simp at hl
   |cons y ys=>
    obtain⟨y',e1,e2⟩:=hy 0 t rfl;simp at e1;subst e1
    rw [h2 _ e2,h4 ys ⟨by simpa using hl,fun i t' hi=>by
     obtain⟨z,f1,f2⟩:=hy (i+1) t' (by simpa using hi)
     exact⟨z,by simpa using f1,f2⟩⟩]
theorem SU{t:TD}{x:Value}(h:PD t=some x)(w:World)(F:Nat→Prop):RepTD w F t x∧∀y,RepTD w F t y→y=x:=by
 cases t with
 |one t=>
  obtain⟨h1,h2⟩:=ST h w F;exact⟨.one _ _ h1,fun y hy=>by cases hy with|one _ _ hy=>exact h2 _ hy⟩
 |agg ts=>
  simp only [PD,Option.map_eq_some_iff]at h;obtain⟨l,hl,rfl⟩:=h;obtain⟨h1,h2⟩:=Ob hl w F;exact⟨.agg _ _ h1,fun y hy=>by cases hy with|agg _ ys hy=>rw [h2 _ hy]⟩
def PDs:List TD→Option (List Value)
 | []=>some []
 |t::r=>(PD t).bind fun x=>(PDs r).map (x::·)
theorem zq:∀{ts:List TD} {l:List Value},PDs ts=some l→∀(w:World) (F:Nat→Prop),nP w F ts l∧∀ys,nP w F ts ys→ys=l
 | [],l,h,w,F=>by
  simp [PDs]at h;subst h;exact⟨⟨rfl,by simp⟩,fun ys hy=>by have:=hy.1;simpa using this.symm⟩
 |t::r,l,h,w,F=>by
  simp only [PDs,zbE,Option.map_eq_some_iff]at h;obtain⟨x,hx,l',hl,rfl⟩:=h;obtain⟨h1,h2⟩:=SU hx w F;obtain⟨h3,h4⟩:=zq hl w F;refine⟨⟨by simp [h3.1],fun i t' hi=> ?_⟩,fun ys hy=> ?_⟩
  ·cases i with
   |zero=>simp at hi;subst hi;exact⟨x,rfl,h1⟩
   |succ i=>obtain⟨y,e1,e2⟩:=h3.2 i t' (by simpa using hi);exact⟨y,by simpa using e1,e2⟩
  ·obtain⟨hl,hy⟩:=hy
   cases ys with
   |nil=>simp at hl
   |cons y ys=>
    obtain⟨y',e1,e2⟩:=hy 0 t rfl;simp at e1;subst e1
    rw [h2 _ e2,h4 ys ⟨by simpa using hl,fun i t' hi=>by
     obtain⟨z,f1,f2⟩:=hy (i+1) t' (by simpa using hi)
     exact⟨z,by simpa using f1,f2⟩⟩]
def PR:List TD→Option Value
 | [r]=>PD r
 |rs=>(PDs rs).map fun l=> .tuple l.toArray
theorem SW{rs:List TD}{x:Value}(h:PR rs=some x)(w:World)(F:Nat→Prop){y:Value}(hy:wu w F rs y):y=x:=by
 match rs,h,hy with
 | [],h,⟨ys,e,hy⟩=>
  simp [PR,PDs]at h;subst h;rw [e,(zq (ts:= []) (l:= []) rfl w F).2 _ hy]
 | [r],h,hy=>exact(SU h w F).2 _ hy
 |r::r'::rs,h,⟨ys,e,hy⟩=>
  simp only [PR,Option.map_eq_some_iff]at h;obtain⟨l,hl,rfl⟩:=h;rw [e,(zq hl w F).2 _ hy]
theorem xM{P:Program}{k:FuncId}{vs:List TD}{kind:Kind}{rs:List TD}(h:bP P k vs kind rs){ys:List Value}{y:Value}(h1:PDs vs=some ys)(h2:PR rs=some y)(w:World)(hL:LD w.heap.size w):Calls P k ys.toArray w fun e w'=>e= .returned y∧Below w.heap.size w w':=by
 refine(h w (fun _=>False) ys hL (fun _ h=>h.elim) (zq h1 w _).1).mono fun e w' ⟨y',e1,e2,_,e3⟩=>⟨?_,e3⟩;rw [e1,SW h2 w' _ e2]
end Sm
end
noncomputable section
open Go.RowKit Go.Lib Go.Sort
namespace Hp
theorem uF(w:World)(base:Nat)(e:TypeId)(s:Nat):w.ownsRow base e s (.slice none 0 0) 0 []:=⟨by simp,.inl ⟨rfl,rfl⟩⟩
theorem QH.nil(w:World)(base Q:Nat)(F:Nat→Prop)(hQ:¬F Q)(hC:CellsAt w Q 93 #[.slice none 0 0]):QH F w base Q []:=⟨hQ,none,0,hC,uF w base _ _,fun g hg=>by cases hg⟩
theorem Good.app{w:World}{base:Nat}{hs:List Hd}{x:Hd}(h:Good w base hs)(hx:x.l≠[])(hr:RdS w base x.a x.l):Good w base (hs++ [x]):=fun y hy=>by
 rcases List.mem_append.1 hy with hy|hy
 ·exact h y hy
 ·rw [List.mem_singleton.1 hy];exact⟨hx,hr⟩
theorem SX:Heap Hd.key ([]:List Hd).length (at_ ([]:List Hd)):=fun k _ hk=>by simp at hk
theorem aau(H:List Hd):tot (ne H)=tot H:=by
 induction H with
 |nil=>rfl
 |cons x H ih=>
  unfold ne tot at*;rw [List.filter_cons]
  cases hx:x.l with
  |nil=>simp [hx];exact ih
  |cons s t=>simp [hx];exact ih
theorem FB.ok{base:Nat}{w:World}(h:base≤w.heap.size):OkF (fun k=>k<base) base w:=⟨fun _ h=>h,fun k hk=>by omega⟩
theorem IJ{F:Nat→Prop}{base Q:Nat}{hs:List Hd}{k:Int}{ad:Option Addr}{c m:Nat}{l:List Sm3}{w w0:World}(h:QH F w0 base Q hs)(hg:Good w0 base (hs++ [⟨k,ad,c,l⟩]))(hz:OkF F base w0)(hb:Below w0.heap.size w0 w)(hl:hs.length<100000)(hH:Heap Hd.key hs.length (at_ hs))(hm:l.length=m):
  Calls Try.prog 33 #[.iface 89 (.pointer (some ⟨Q,0,none⟩)),.iface 97 (.agg #[.int .i64 k,.slice ad m c])] w fun e w'=>e= .returned (.tuple #[])∧∃ks,ks.Perm (hs++ [⟨k,ad,c,l⟩])∧Heap Hd.key ks.length (at_ ks)∧QH F w' base Q ks∧Kp F w0 w':=by
 subst hm;refine(Ac F base Q hs ⟨k,ad,c,l⟩ w (h.below hb) (hg.below hz.le (hb.mono hz.le)) (hz.mono hb.size) hl hH).mono ?_;rintro e w' ⟨h1,ks,h2,h3,h4,h5⟩;exact⟨h1,ks,h2,h3,h4,(Kp.of_below hb).trans h5⟩
def adh(ok:Bool)(A:Int×Int→Int×Int→Int×Int)(R:List Sm3→Bool)(H:List Hd)(w:World)(e:Ending)(w':World):Prop:=∃(v:Value) (code:Int) (res:List Sm3),e= .returned (.tuple #[v,.int .i64 code])∧w'.ownsRow w.heap.size 69 3 v res.length (cellsS res)∧(res= []→v= .slice none 0 0)∧Below w.heap.size w w'∧((ok=false∧code=8∧res= [])∨(ok=true∧(∃h∈H,R h.l=false)∧code=6∧res= [])∨(ok=true∧(∀h∈H,R h.l=true)∧code=0∧∃seq,Ext (ne H) seq∧res=outOf A seq))
set_option maxRecDepth 100000 in
set_option maxHeartbeats 2000000 in
theorem merge_walk(r:Int)(ok:Bool)(A:Int×Int→Int×Int→Int×Int)(a:Option Addr)(n c:Nat)(H:List Hd)(w:World)(hn:n=H.length)(hl:n≤90000)(hT:tot H≤90000)
  (hRow:∀i,i<n→∃b,a=some b∧b.block<w.heap.size∧w.cell? (b.add i)=some (.slice (at_ H i).a (at_ H i).l.length (at_ H i).c))
  (hk:∀i,i<n→(at_ H i).k=(i:Int)) (hRd:∀h∈H,RdS w w.heap.size h.a h.l) (hc:∀h∈H,h.l.length≤h.c)
  (hIs:∀W,Below w.heap.size w W→Calls Try.prog 22 #[.int .i64 r] W fun e w'=>e= .returned (.bool ok)∧Below W.heap.size W w')
  (R:List Sm3→Bool) (hR:∀i,i<n→∀W,Below w.heap.size w W→Calls Try.prog 32 #[.slice (at_ H i).a (at_ H i).l.length (at_ H i).c] W fun e w'=>e= .returned (.bool (R (at_ H i).l))∧Below W.heap.size W w')
  (hAdd:ok=true→∀x y W,Below w.heap.size w W→Calls Try.prog 27 #[.int .i64 r,PV x,PV y] W fun e w'=>e= .returned (PV (A x y))∧Below W.heap.size W w'):
  Calls Try.prog 11 #[.int .i64 r,.slice a n c] w fun e w'=>adh ok A R H w e w':=by
 have HROW:=Lib.hid hRow;have HK:=Lib.hid hk;have HRD:=Lib.hid hRd;have HC:=Lib.hid hc;have HIS:=Lib.hid hIs;have HR:=Lib.hid hR;have HADD:=Lib.hid hAdd;have HN:=Lib.hid hn;have HT:=Lib.hid hT;have hnI:((n:Nat):Int)≤90000:=by omega
 clear hRow hk hRd hc hIs hR hAdd hn hT;have hGood:∀W,Below w.heap.size w W→∀ks:List Hd,(∀y∈ks,y∈H∧y.l≠[])→Good W w.heap.size ks:=fun W hW ks hks y hy=>⟨(hks y hy).2,(HRD.out y (hks y hy).1).below (Nat.le_refl _) hW⟩;have HGOOD:=Lib.hid hGood;clear hGood
 go_enter Try.func11,Try.ntmps11
 go_wp2_with fail
 refine(HIS.out w (Below.refl _ _)).mono ?_;rintro e w1 ⟨rfl,hb1⟩
 cases ok with
 |false=>
  go_wp2
  go_ret2
  exact⟨_,8,[],rfl,uF _ _ _ _,fun _=>rfl,hb1,.inl ⟨rfl,rfl,rfl⟩⟩
 |true=>
  have hA:=HADD.out rfl;have HA:=Lib.hid hA;clear hA HADD HIS;have hQ0:CellsAt (w1.alloc (.cells #[.slice none 0 0] 93)) w1.heap.size 93 #[.slice none 0 0]:=World.alloc_heap_new w1 _;have hb2:Below w.heap.size w (w1.alloc (.cells #[.slice none 0 0] 93)):=bla hb1 _;have hQb:=hb1.size
  go_wp2
  generalize w1.alloc (.cells #[.slice none 0 0] 93)=W0 at hQ0 hb2 ⊢;generalize w1.heap.size=Q at hQ0 hQb ⊢;have hq0:QH (fun k=>k<w.heap.size) W0 w.heap.size Q []:=QH.nil _ _ _ _ (by show¬Q<w.heap.size;omega) hQ0
  go_loopw [18] (fun y wr=>∃(i:Nat) (ks:List Hd),y= .int .i64 (i:Int)∧i≤n∧QH (fun k=>k<w.heap.size) wr w.heap.size Q ks∧Heap Hd.key ks.length (at_ ks)∧ks.Perm (ne (H.take i))∧(∀j,j<i→R (at_ H j).l=true)∧Below w.heap.size w wr) (fun y _=>n - (intOf y).toNat)
  case atStart=>exact⟨0,[],rfl,Nat.zero_le _,hq0,SX,List.Perm.refl _,fun j hj=>by omega,hb2⟩
  case round=>
   clear hQ0 hb2 hq0;obtain⟨i,ks,rfl,hi,hq,hh,hp,hall,hb⟩:=hrel
   have hks:∀y∈ks,y∈H∧y.l≠[]:=fun y hy=>by
    have h1:=hp.mem_iff.1 hy;unfold ne at h1;rw [List.mem_filter]at h1;exact⟨List.mem_of_mem_take h1.1,by simpa using h1.2⟩
   have hkl:ks.length≤i:=by
    have h1:=hp.length_eq;have h2:(ne (H.take i)).length≤(H.take i).length:=List.length_filter_le _ _;rw [List.length_take]at h2;omega
   by_cases hin:i=n
   ·subst hin
    have hallH:∀h∈H,R h.l=true:=fun h hh=>by
     obtain⟨j,hj,rfl⟩:=List.mem_iff_getElem.1 hh
     have:=hall j (by rw [HN.out];exact hj)
     rwa [at_lt hj]at this
    have HALL:=Lib.hid hallH;clear hall hallH;rw [show H.take i=H from by rw [HN.out];exact List.take_length]at hp
    have hTk:tot ks≤90000:=by
     rw [Ae hp];refine Nat.le_trans ?_ HT.out;rw [aau];exact Nat.le_refl _
    have hG0:=HGOOD.out wr hb ks hks;have hc0:∀h∈ks,h.l.length≤h.c:=fun h hm=>HC.out h (hks h hm).1
    have hq0:QH (FV w.heap.size (.slice none 0 0)) wr w.heap.size Q ks:=hq.wide (fun k hk=>by
     rcases hk with hk|hk
     ·exact hk
     ·cases hk)
    have hE0:∀seq,Ext ks seq→Ext (ne H) ([]++seq):=fun seq h=>h.perm hp;clear hq hp hks
    go_wp2
    go_loopg [9] (tot ks) (fun k v wr=>∃(hs:List Hd) (d:List (Int×Sm3)),k=tot hs∧tot hs+(outOf A d).length≤90000∧hs.length≤90000∧wr.ownsRow w.heap.size 69 3 v (outOf A d).length (cellsS (outOf A d))∧(outOf A d= []→v= .slice none 0 0)∧QH (FV w.heap.size v) wr w.heap.size Q hs∧Good wr w.heap.size hs∧(∀h∈hs,h.l.length≤h.c)∧Heap Hd.key hs.length (at_ hs)∧(∀seq,Ext hs seq→Ext (ne H) (d++seq))∧Below w.heap.size w wr)
    case atStart=>exact⟨ks,[],rfl,by simpa [outOf]using hTk,by omega,uF _ _ _ _,fun _=>rfl,hq0,hG0,hc0,hh,hE0,hb⟩
    case round=>
     clear hb hh hTk hG0 hc0 hq0 hE0;obtain⟨hs,d,hgk,hTd,hhl,hown,hnil,hq,hG,hcp,hh,hE,hb⟩:=hrel;obtain⟨ao,co,rfl,hao⟩:=wz hown;obtain⟨o,ho⟩:∃o,o=outOf A d:=⟨_,rfl⟩;rw [←ho]at hTd hown hnil hq ⊢;have HO:=Lib.hid ho;have HNIL:=Lib.hid hnil;have HGK:=Lib.hid hgk;have hOk:OkF (FV w.heap.size (.slice ao o.length co)) w.heap.size wr:=FV.ok hown hb.size;obtain⟨aq,cq,hcq⟩:=hq.cell;have kQ:=Has.of hq.lt;clear ho hnil hgk hao;by_cases h0:hs.length=0
     ·have hs0:hs= []:=List.eq_nil_of_length_eq_zero h0;subst hs0
      go_wp2_with fail
      refine(rD aq 0 cq wr).mono ?_;rintro e _ ⟨rfl,rfl⟩
      go_wp2
      go_ret2
      exact⟨_,0,o,rfl,hown,HNIL.out,hb,.inr (.inr ⟨rfl,HALL.out,rfl,d,by simpa using hE [] .nil,HO.out⟩)⟩
     ·have h0':0<hs.length:=by omega
      have h0I:(0:Int)<((hs.length:Nat):Int):=by omega
      go_wp2_with fail
      refine(rD aq hs.length cq wr).mono ?_;rintro e _ ⟨rfl,rfl⟩
      go_wp2_with fail
      refine(Pz (FV w.heap.size (.slice ao o.length co)) w.heap.size Q hs _ hq hG hOk h0' (by omega) hh).mono ?_;rintro e w2 ⟨x,ms,rfl,hpm,hleast,hh2,hq2,hk2⟩;have hxm:x∈hs:=hpm.mem_iff.1 (by simp);have hbw2:Below w.heap.size w w2:=hb.trans (hk2.bel hOk);have hown2:=SP hown (fun k e=> .inr e) hk2;have hG2:=hG.kp hOk hk2;have hx2:=(hG2 x hxm).2;have hxc:=hcp x hxm;have hmc:∀h∈ms,h.l.length≤h.c:=fun h hm=>hcp h (hpm.mem_iff.1 (by simp [hm]));have hGm:Good w2 w.heap.size ms:=fun h hm=>hG2 h (hpm.mem_iff.1 (by simp [hm]));have htot:=Ae hpm;rw [IE]at htot;have hxne:=(hG2 x hxm).1;have hml:ms.length+1=hs.length:=by have:=hpm.length_eq;rw [gO]at this;exact this
      obtain⟨xk,xa,xc,xl⟩:=x
      cases xl with
      |nil=>exact absurd rfl hxne
      |cons s t=>
      have hTA:∀W:World,(Instr.typeAssert (.iface 97 (.agg #[.int .i64 xk,.slice xa (t.length+1) xc])) 20 97 false).run Try.prog W= .ok (.agg #[.int .i64 xk,.slice xa (t.length+1) xc]) W:=fun _=>by kernel_rfl
      clear hcq kQ;obtain⟨b,rfl,hbl,x0,x1,x2⟩:=hx2 0 (by simp);simp only [List.getElem_cons_zero,Nat.zero_mul,Nat.zero_add]at x0 x1 x2;have x0:w2.cell? b=some (.int .i64 s.1):=by simpa [Addr.add]using x0
      have x1:w2.cell? ⟨b.block,b.off+1,none⟩=some (.int .i64 s.2.1):=by simpa [Addr.add]using x1
      have x2:w2.cell? ⟨b.block,b.off+2,none⟩=some (.int .u64 s.2.2):=by simpa [Addr.add]using x2
      have kb:=Has.of (show b.block<w2.heap.size from Nat.lt_of_lt_of_le hbl hbw2.size)
      go_wp2_with fail
      have hHB:CellsAt (w2.alloc (.cells #[.int .i64 xk,.slice (some b) (t.length+1) xc] 97)) w2.heap.size 97 #[.int .i64 xk,.slice (some b) (t.length+1) xc]:=World.alloc_heap_new w2 _;have hB3:Below w2.heap.size w2 (w2.alloc (.cells #[.int .i64 xk,.slice (some b) (t.length+1) xc] 97)):=bla (Below.refl _ _) _;have hbw3:=hbw2.trans (hB3.mono hbw2.size);have hq3:=hq2.below hB3;have hown3:=kN hown2 hB3;have hGm3:=hGm.below hbw2.size (hB3.mono hbw2.size);have hRt3:=hx2.tail.below hbw2.size (hB3.mono hbw2.size);have hHo:∀k,(Value.slice ao o.length co).ownBlock=some k→k≠w2.heap.size:=fun k e=>by have:=(hown2.lt k e).2;omega
      generalize w2.alloc (.cells #[.int .i64 xk,.slice (some b) (t.length+1) xc] 97)=w3 at hHB hB3 hbw3 hq3 hown3 hGm3 hRt3 ⊢;generalize w2.heap.size=HB at hHB hHo ⊢;have hz3:=hbw3.size;refine(PC w.heap.size r A o s ao o.length co w3 rfl hown3 hz3 (by omega) (fun x y W hW=>HA.out x y W (hbw3.trans (hW.mono hz3)))).mono ?_;rintro e w4 ⟨v',rfl,hown4,hg4,hv4⟩;have hHB4:=hHB.grown hg4 (fun e=>hHo HB e.symm rfl);have hq4:=hq3.put hg4 hv4;have hb34:Below w.heap.size w3 w4:=aey (Below.refl _ _) hg4 (fun k e=>(hown3.lt k e).1) hz3;have hbw4:=hbw3.trans hb34;have hGm4:=hGm3.below hz3 hb34;have hRt4:=hRt3.below hz3 hb34;have e0:w4.cell? ⟨HB,0,none⟩=some (.int .i64 xk):=hHB4.cell 0;have e1:w4.cell? ⟨HB,1,none⟩=some (.slice (some b) (t.length+1) xc):=hHB4.cell 1;have kH:=Has.of hHB4.lt;have hpl:=SO A o s;have hos:wA A o s=outOf A (d++ [(xk,s)]):=by rw [LN,←HO.out]
      obtain⟨o',ho'⟩:∃o',o'=wA A o s:=⟨_,rfl⟩;rw [←ho']at hown4 hpl;have HO':=Lib.hid (ho'.trans hos);obtain⟨a',c',rfl,ha'⟩:=wz hown4;have hll:=hpm.length_eq;clear hown3 hq3 hHB hg4 hv4 hb34 hGm3 hRt3 x0 x1 x2 kb hq2 hown2 hHo ha' hos ho' hown hq hx2 hG2 hk2 hHB4;have htot':tot ms+(t.length+1)=tot hs:=htot;have hxc':t.length+1≤xc:=hxc
      cases t with
      |nil=>
       go_wp2
       go_roundg (tot ms)
       case measure=>
        have:=HGK.out
        simp only [List.length_nil]at htot';omega
       case rel=>
        refine⟨ms,d++ [(xk,s)],rfl,?_,by omega,?_,?_,hq4,hGm4,hmc,hh2,?_,hbw4⟩
        ·rw [←HO'.out];simp only [List.length_nil]at htot';omega
        ·rw [←HO'.out];exact hown4
        ·intro e;rw [←HO'.out]at e;rw [e]at hpl;simp at hpl
        ·intro seq h
         have:=hE _ (.last hpm rfl hleast h)
         simpa using this
      |cons s2 t2=>
       simp only [List.length_cons]at htot' hxc';have hs1:(1:Int)≤((t2.length:Nat):Int)+1+1:=by omega
       have hs2:t2.length+1+1≤xc:=hxc';have hs3:((t2.length:Nat):Int)+1+1≤(xc:Int):=by omega
       go_wp2
       have hz4:OkF (FV w.heap.size (.slice a' o'.length c')) w.heap.size w4:=FV.ok hown4 hbw4.size;have hba:b.add 3=⟨b.block,b.off+3,none⟩:=by simp [Addr.add]
       rw [hba]at hRt4;have hGa:Good w4 w.heap.size (ms++ [⟨xk,some ⟨b.block,b.off+3,none⟩,xc - 1,s2::t2⟩]):=hGm4.app (by simp) hRt4;have bd:Below w4.heap.size w4 w4.drew:=⟨rfl,rfl,rfl,Nat.le_refl _,fun _ _=>rfl⟩;have bdn:∀k,Below w4.heap.size w4 (w4.drewN k):=fun k=>bld (Below.refl _ _);have hmsl:ms.length<100000:=by omega
       have hml2:(s2::t2).length=t2.length+1:=rfl;have hP:=IJ (w:=w4.drew) (c:=xc - 1) (m:=t2.length+1) hq4 hGa hz4 bd hmsl hh2 hml2
       go_still_tail 9,(by kernel_rfl)
       change wpList _ _ _ _ _ w4.drew;generalize w4.drew=w4d at hP;have HP:=Lib.hid hP;clear hP
       go_wp2_with fail
       refine HP.out.mono ?_;rintro e w5 ⟨rfl,ks5,hp5,hh5,hq5,hk45⟩
       all_goals (
        have hown5:=SP hown4 (fun k e=> .inr e) hk45;have hbw5:Below w.heap.size w w5:=hbw4.trans (hk45.bel hz4);have hG5:Good w5 w.heap.size ks5:=rE (hGa.kp hz4 hk45) hp5
        have hc5:∀h∈ks5,h.l.length≤h.c:=fun h hm=>by
         rcases List.mem_append.1 (hp5.mem_iff.1 hm)with h1|h1
         ·exact hmc h h1
         ·rw [List.mem_singleton.1 h1];simp only [List.length_cons];omega
        have ht5:=Ae hp5;rw [IE]at ht5;simp only [List.length_cons]at ht5;have hl5:=hp5.length_eq;rw [gO]at hl5
        go_wp2
        go_roundg (tot ks5)
        case measure=>
         have:=HGK.out
         omega
        case rel=>
         refine⟨ks5,d++ [(xk,s)],rfl,?_,by omega,?_,?_,hq5,hG5,hc5,hh5,?_,hbw5⟩
         ·rw [←HO'.out];omega
         ·rw [←HO'.out];exact hown5
         ·intro e;rw [←HO'.out]at e;rw [e]at hpl;simp at hpl
         ·intro seq h
          have:=hE _ (.more (x':=⟨xk,some ⟨b.block,b.off+3,none⟩,xc - 1,s2::t2⟩) hpm rfl (by simp) rfl rfl hp5 hleast h)
          simpa using this)
   ·have hlt:i<n:=by omega
    have hiI:((i:Nat):Int)<n:=by omega
    obtain⟨b,rfl,hbl,cc⟩:=HROW.out i hlt;have hXm:at_ H i∈H:=by rw [at_lt (by rw [←HN.out];exact hlt)];exact List.getElem_mem _
    have hXk:=HK.out i hlt;have hXR:=HR.out i hlt wr hb;have hTk:=Wr (show i<H.length by rw [←HN.out];exact hlt);obtain⟨X,hX⟩:∃X,X=at_ H i:=⟨_,rfl⟩;rw [←hX]at cc hXm hXk hXR hTk
    have hall':R X.l=true→∀j,j<i+1→R (at_ H j).l=true:=fun h j hj=>by
     by_cases e:j=i
     ·rw [e,←hX];exact h
     ·exact hall j (by omega)
    have HXR:=Lib.hid hXR;have HTK:=Lib.hid hTk;have HALL:=Lib.hid hall';have HXK:=Lib.hid hXk;clear hX hXR hTk hall hall' hXk;obtain⟨xk,xa,xc,xl⟩:=X;have cc1:=(hb.cell (p:=b.add i) (by rw [uC];exact hbl)).trans cc;have kb:=Has.of (show b.block<wr.heap.size from Nat.lt_of_lt_of_le hbl hb.size)
    go_wp2_with fail
    refine(HXR.out).mono ?_;rintro e w2 ⟨rfl,hb2⟩;have hbw2:Below w.heap.size w w2:=hb.trans (hb2.mono hb.size);have hq2:=hq.below hb2;have hz2:OkF (fun k=>k<w.heap.size) w.heap.size w2:=FB.ok hbw2.size
    cases hr:R xl with
    |false=>
     go_wp2
     go_ret2
     exact⟨_,6,[],rfl,uF _ _ _ _,fun _=>rfl,hbw2,.inr (.inl ⟨rfl,⟨_,hXm,hr⟩,rfl,rfl⟩)⟩
    |true=>
     have hall2:=HALL.out hr;have HALL2:=Lib.hid hall2;have HRT:=Lib.hid hr;clear hr hall2
     cases xl with
     |nil=>
      go_wp2
      refine⟨⟨i+1,ks,by simp,by omega,hq2,hh,?_,HALL2.out,hbw2⟩,by simp [intOf];omega⟩;rw [HTK.out,IF rfl];exact hp
     |cons s t=>
      have hxl:(1:Int)≤(((s::t).length:Nat):Int):=by simp;omega
      have hgt:Good w2 w.heap.size (ks++ [⟨(i:Int),xa,xc,s::t⟩]):=(HGOOD.out w2 hbw2 ks hks).app (by simp) ((HRD.out _ hXm).below (Nat.le_refl _) hbw2);generalize hL:s::t=L at hxl hgt cc cc1 HXR HTK HALL HALL2 HRT hXm HXK;have hL1:L≠[]:=by rw [←hL];simp
      clear hL
      go_wp2_with fail
      refine(Ac (fun k=>k<w.heap.size) w.heap.size Q ks ⟨(i:Int),xa,xc,L⟩ w2 hq2 hgt hz2 (by omega) hh).mono ?_;rintro e w3 ⟨rfl,ks3,hp3,hh3,hq3,hk3⟩
      go_wp2
      refine⟨⟨i+1,ks3,by simp,by omega,hq3,hh3,?_,HALL2.out,hbw2.trans (hk3.bel hz2)⟩,by simp [intOf];omega⟩;rw [HTK.out,Wq hL1];have hxk:=HXK.out;rw [show xk=(i:Int)from hxk];exact hp3.trans (hp.append_right _)
end Hp
end
noncomputable section
namespace Ev
namespace K
open Go Go.RowKit
set_option maxRecDepth 100000
set_option maxHeartbeats 1000000
def SY:Ax:=(fun _=>none)
theorem PG:By Try.prog SY:=(xf _)
def SZ:Ax:=(cE (cE (cE SY 25 pd) 56 pd) 75 pd)
theorem PH:By Try.prog SZ:=(aP (aP (aP PG fun vs kind rs h=>by simp [pd]at h) fun vs kind rs h=>by simp [pd]at h) fun vs kind rs h=>by simp [pd]at h)
def E1B:Env:=vH Try.prog SZ
theorem mM:E1B.Ok:=oM tz tA PH
theorem qw:VM E1B TT:=⟨tz1,⟨tz2,⟨tz3,⟨tz4,⟨tz5,⟨tz6,⟨tz7,⟨tz8,⟨Zd,⟨Ze,⟨Zf,⟨Zg,⟨Zh,⟨Zi,⟨Zj,⟨VV,⟨VW,⟨VX,⟨Zk,⟨VY,⟨VZ,⟨Zl,⟨Wa,⟨Zm,⟨Zn,⟨Wb,⟨Zo,⟨Zp,⟨Zq,⟨Zr,⟨Zs,⟨Zt,⟨Zu,⟨Zv,⟨Zw,⟨Zx,⟨Wc,⟨Zy,⟨Zz,⟨ZA,⟨ZB,⟨We,⟨ZC,⟨ZD,⟨ZE,⟨ZF,⟨ZG,⟨ZH,⟨ZI,⟨ZJ,⟨ZK,⟨ZL,⟨ZM,⟨Wf,⟨ZN,⟨Wg,⟨ZO,⟨Wh,⟨ZP,⟨Wi,⟨ZQ,⟨ZR,⟨ZS,⟨ZT,⟨Wj,⟨ZU,⟨ZV,⟨ZW,⟨ZX,⟨ZY,⟨Wk,⟨ZZ,⟨aa0,⟨aa1,⟨aa2,⟨aa3,⟨aa4,⟨Wl,⟨aa5,⟨aa6,⟨aa7,⟨aa8,⟨aa9,⟨aaa,⟨aab,⟨aac,⟨aad,⟨aae,⟨aaf,⟨aag,⟨QY,⟨QZ,⟨Ra,⟨Rb,⟨Rc,⟨Rd,⟨Re,⟨Rf,⟨Rh,⟨Ri,⟨Rj,⟨Rk,⟨Rm,⟨Rn,⟨Ro,⟨Rp,⟨Rq,⟨Rr,⟨Rs,⟨Rt,⟨Ru,⟨Rv,⟨Rw,⟨Rx,⟨Ry,⟨Rz,⟨RA,⟨RE,⟨RF,⟨RH,⟨RI,⟨RJ,⟨RK,⟨RL,⟨RM,⟨RN,⟨RO,⟨RP,⟨RQ,⟨RT,⟨RU,⟨RV,⟨RW,⟨RX,⟨RY,⟨RZ,⟨Sa,⟨Sb,⟨NV,⟨Sd,⟨Se,⟨Sf,⟨Sg,⟨Si,⟨Sj,⟨Sk,⟨Sn,⟨So,⟨Sp,⟨Sq,⟨Sr,⟨Ss,⟨Su,⟨Sv,⟨Sw,⟨Sx,⟨Sy,⟨Sz,⟨SA,⟨SC,⟨SD,⟨SE,trivial⟩⟩⟩⟩⟩⟩⟩⟩⟩⟩⟩⟩⟩⟩⟩⟩⟩⟩⟩⟩⟩⟩⟩⟩⟩⟩⟩⟩⟩⟩⟩⟩⟩⟩⟩⟩⟩⟩⟩⟩⟩⟩⟩⟩⟩⟩⟩⟩⟩⟩⟩⟩⟩⟩⟩⟩⟩⟩⟩⟩⟩⟩⟩⟩⟩⟩⟩⟩⟩⟩⟩⟩⟩⟩⟩⟩⟩⟩⟩⟩⟩⟩⟩⟩⟩⟩⟩⟩⟩⟩⟩⟩⟩⟩⟩⟩⟩⟩⟩⟩⟩⟩⟩⟩⟩⟩⟩⟩⟩⟩⟩⟩⟩⟩⟩⟩⟩⟩⟩⟩⟩⟩⟩⟩⟩⟩⟩⟩⟩⟩⟩⟩⟩⟩⟩⟩⟩⟩⟩⟩⟩⟩⟩⟩⟩⟩⟩⟩⟩⟩⟩⟩⟩⟩⟩⟩⟩⟩⟩⟩⟩⟩
theorem nr:VN E1B.P EQS:=⟨YZ NW NX,trivial⟩
theorem adi:E1B.fn 22=some acG:=dY Try.func22 rfl
theorem adj:E1B.fn 27=some aah:=dY Try.func27 rfl
theorem adk:E1B.fn 32=some acI:=dY Try.func32 rfl
theorem adl:E1B.fn 57=some aai:=dY Try.func57 rfl
theorem adm:E1B.fn 58=some aaj:=dY Try.func58 rfl
theorem adn:E1B.fn 59=some aak:=dY Try.func59 rfl
theorem ado:E1B.fn 60=some aal:=dY Try.func60 rfl
theorem adp:E1B.fn 90=some aan:=dY Try.func90 rfl
end K
end Ev
end
noncomputable section
namespace Ev
namespace K
open Go Go.RowKit
set_option maxRecDepth 100000
set_option maxHeartbeats 1000000
theorem FT:GOk ww E1B 0:=gok mM qw nr trivial trivial
theorem IK:bm E1B rC:=cC FT (by kernel_rfl) adl (by kernel_rfl) rfl
theorem uG:GOk mG E1B 0:=gok mM qw nr trivial trivial
theorem wE:bm E1B mH:=cC uG (by kernel_rfl) adp (by kernel_rfl) rfl
theorem wG:GOk nQ E1B 1:=gok mM qw nr ⟨⟨by decide,wE⟩,trivial⟩ trivial
theorem yO:bm E1B lk:=cC wG (by kernel_rfl) adm (by kernel_rfl) rfl
theorem CI:GOk tB E1B 0:=gok mM qw nr trivial trivial
theorem FU:bm E1B mI:=cC CI (by kernel_rfl) adn (by kernel_rfl) rfl
theorem yP:GOk pf E1B 1:=gok mM qw nr ⟨⟨by decide,IK⟩,trivial⟩ trivial
theorem Ak:bm E1B mv:=cC yP (by kernel_rfl) ado (by kernel_rfl) rfl
theorem CJ:GOk tC E1B 2:=gok mM qw nr ⟨⟨by decide,yO⟩,⟨⟨by decide,FU⟩,⟨⟨by decide,Ak⟩,trivial⟩⟩⟩ trivial
theorem FW:bm E1B zQ:=cC CJ (by kernel_rfl) adj (by kernel_rfl) rfl
theorem FX:GOk DT E1B 0:=gok mM qw nr trivial trivial
theorem IL:bm E1B Ps:=cC FX (by kernel_rfl) adi (by kernel_rfl) rfl
theorem yQ:GOk uB E1B 0:=gok mM qw nr trivial trivial
theorem Al:bm E1B FH:=cC yQ (by kernel_rfl) adk (by kernel_rfl) rfl
end K
end Ev
end
end Go.Proofs.Ytjjbpdldbdmoeaa
