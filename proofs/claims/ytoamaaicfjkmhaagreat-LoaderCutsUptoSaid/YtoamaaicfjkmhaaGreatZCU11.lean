/- Texts of a claim, joined. -/
import Derived.Test.YtoamaaicfjkmhaaGreatZCU10
import Derived.Laws.CopyOwn
import Derived.Lib.EndianBits
set_option linter.unusedVariables false
set_option linter.unusedSimpArgs false
namespace Go.Proofs.YtoamaaicfjkmhaaGreat
noncomputable section
namespace Ev
open Go Sm
def iU:List (Int×Int×Int)->Bool
 | []=>true
 |a::r=>match r with
  | []=>true
  |b::_=>klt (key a) (key b)&& iU r
theorem Cp(a b:Int×Int×Int)(r:List (Int×Int×Int)):iU (a::b::r)=(klt (key a) (key b)&& iU (b::r)):=rfl
theorem Fy:∀(l:List (Int×Int×Int)) (j:Nat),0<j->(hj:j<l.length)->iU (l.drop (j - 1))=(klt (key l[j - 1]) (key l[j])&& iU (l.drop j)):=by
 intro l j h0 hj
 have e1:l.drop (j - 1)=l[j - 1]::l.drop j:=by
  rw [List.drop_eq_getElem_cons (by omega)];congr 2;omega
 rw [e1,List.drop_eq_getElem_cons hj,Cp]
theorem vC(x y:Int):cn x y=some (pL x y):=by
 rw [mW,iS,iS];unfold pL;simp only [zbS,ne_eq,not_true_eq_false,decide_false,Bool.false_eq_true,if_false];by_cases h1:x<y
 .rw [if_pos h1,if_pos h1]
 .rw [if_neg h1,if_neg h1];by_cases h2:y<x
  .rw [if_pos h2,if_pos (show x>y from h2)]
  .rw [if_neg h2,if_neg (show¬x>y from h2)]
theorem Hq(x y:Int):fI ⟨true,1,[x,y]⟩=some (Sm.orI x y):=by
 rw [vz];unfold Sm.orI;have s0:atS 1 (⟨true,1,[x,y]⟩:Sl Int) 0=some x:=rfl;have s1:atS 1 (⟨true,1,[x,y]⟩:Sl Int) 1=some y:=rfl;have w0:IntKind.i64.wrap (0+1)=1:=by decide
 have w1:IntKind.i64.wrap (1+1)=2:=by decide
 by_cases hx:x=0
 .have h0:bt ⟨true,1,[x,y]⟩ 0=some (.inl 1):=by
   unfold bt;simp only [s0,zbS,List.length_cons,List.length_nil];rw [if_pos (by decide),if_neg (λh=>h hx),w0]
  rw [if_pos hx,nr h0];by_cases hy:y=0
  .have h1:bt ⟨true,1,[x,y]⟩ 1=some (.inl 2):=by
    unfold bt;simp only [s1,zbS,List.length_cons,List.length_nil];rw [if_pos (by decide),if_neg (λh=>h hy),w1]
   have h2:bt ⟨true,1,[x,y]⟩ 2=some (.inr (.inl ())):=by
    unfold bt;simp only [List.length_cons,List.length_nil];rw [if_neg (by decide)]
   rw [nr h1,fM h2,hy];rfl
  .have h1:bt ⟨true,1,[x,y]⟩ 1=some (.inr (.inr (.inl y))):=by
    unfold bt;simp only [s1,zbS,List.length_cons,List.length_nil];rw [if_pos (by decide),if_pos (λh=>hy h)]
   rw [fM h1];rfl
 .have h0:bt ⟨true,1,[x,y]⟩ 0=some (.inr (.inr (.inl x))):=by
   unfold bt;simp only [s0,zbS,List.length_cons,List.length_nil];rw [if_pos (by decide),if_pos (λh=>hx h)]
  rw [if_neg hx,fM h0];rfl
theorem Hr(a b:Int×Int×Int):∃c:Int,eh a b=some c/\(c<0↔klt (key a) (key b)=true):=by
 rw [rt];simp only [vC,zbS,Hq];refine⟨_,rfl,?_⟩;unfold Sm.orI pL klt key;simp only [decide_eq_true_eq];split<;>split<;>(try split)<;>omega
theorem zY{x:Sl (Int×Int×Int)}(hn:x.l.length<=9223372036854775807){b:Int->Option (Int ⊕ PUnit ⊕ Bool ⊕ Empty)}(h1:∀j:Nat,0<j->(hj:j<x.l.length)->b j=some (if klt (key x.l[j - 1]) (key x.l[j])=true then .inl ((j+1:Nat):Int)else .inr (.inr (.inl false))))(h2:∀j:Nat,x.l.length<=j->b j=some (.inr (.inl ()))):
  (iU x.l=true/\bO b 1=some (.inl ()))∨(iU x.l=false/\bO b 1=some (.inr (.inl false))):=by
 by_cases hl:x.l.length<=1
 .refine .inl ⟨?_,fM (h2 1 hl)⟩
  match x.l,hl with
  | [],_=>rfl
  | [a],_=>rfl
  |a::b::r,hl=>simp at hl
 obtain⟨r,e1,e2⟩:=oV (b:=b) x.l.length (λj a=>0<j/\a=(j:Int)/\iU x.l=iU (x.l.drop (j - 1))) (λr=>(iU x.l=true/\r= .inl ())∨(iU x.l=false/\r= .inr (.inl false)))
  (by
   rintro j _ hj ⟨h0,rfl,hr⟩;rw [h1 j h0 hj];rw [Fy _ j h0 hj]at hr
   cases hk:klt (key x.l[j - 1]) (key x.l[j])with
   |true=>rw [hk]at hr;exact .inl ⟨_,rfl,by omega,rfl,by rw [hr];simp⟩
   |false=>rw [hk]at hr;exact .inr ⟨_,rfl,.inr ⟨by rw [hr];rfl,rfl⟩⟩)
  (by
   rintro _ ⟨h0,rfl,hr⟩;refine⟨_,h2 _ (Nat.le_refl _),.inl ⟨?_,rfl⟩⟩;rw [hr,List.drop_eq_getElem_cons (by omega),show x.l.length - 1+1=x.l.length by omega,List.drop_length]
   rfl)
  1 (by omega) ((1:Nat):Int) ⟨by omega,rfl,by simp⟩
 rcases e2 with⟨g1,rfl⟩|⟨g1,rfl⟩
 .exact .inl ⟨g1,e1⟩
 .exact .inr ⟨g1,e1⟩
theorem vD{x:Sl (Int×Int×Int)}(hs:x.l= []∨x.sz=3)(hn:x.l.length<=9223372036854775807):dS x=some (iU x.l):=by
 rw [sP]
 have H:=zY (b:=fp x) hn (λj h0 hj=>by
  unfold fp;rw [if_pos (by omega),show IntKind.i64.wrap ((j:Int) - 1)=((j - 1:Nat):Int)by rw [wrap64 (by omega) (by omega)];omega,iF hs (by omega),iF hs hj];obtain⟨c,e1,e2⟩:=Hr x.l[j - 1] x.l[j];simp only [zbS,e1,gY hj hn];by_cases hc:c >= 0
  .rw [if_pos hc,if_neg (λh=>by have:=e2.2 h;omega)]
  .rw [if_neg hc,if_pos (e2.1 (by omega))]) (λj hj=>by
  unfold fp
  rw [if_neg (by omega)])
 rcases H with⟨h1,h2⟩|⟨h1,h2⟩
 .rw [h2,h1];rfl
 .rw [h2,h1];rfl
end Ev
end
noncomputable section
namespace Ev
namespace K
open Go Go.RowKit
set_option maxRecDepth 100000
set_option maxHeartbeats 1000000
def Hs:Ax:=(λ_=>none)
theorem Fz:Bc Tryz.prog Hs:=(wU _)
def Ht:Ax:=(aF (aF (aF (aF (aF (aF (aF (aF (aF (aF (aF (aF (aF (aF (aF (aF (aF (aF (aF (aF (aF (aF (aF (aF (aF (aF (aF (aF (aF (aF (aF (aF (aF (aF Hs 31 ay) 48 ay) 52 ay) 53 ay) 55 ay) 60 ay) 68 ay) 69 ay) 77 ay) 78 ay) 79 ay) 85 ay) 93 ay) 97 ay) 103 ay) 104 ay) 106 ay) 113 ay) 114 ay) 115 ay) 116 ay) 121 ay) 124 ay) 125 ay) 126 ay) 127 ay) 128 ay) 129 ay) 130 ay) 131 ay) 134 ay) 137 ay) 138 ay) 139 ay)
theorem FD:Bc Tryz.prog Ht:=(aj (aj (aj (aj (aj (aj (aj (aj (aj (aj (aj (aj (aj (aj (aj (aj (aj (aj (aj (aj (aj (aj (aj (aj (aj (aj (aj (aj (aj (aj (aj (aj (aj (aj Fz λvs kind rs h=>by simp [ay]at h) λvs kind rs h=>by simp [ay]at h) λvs kind rs h=>by simp [ay]at h) λvs kind rs h=>by simp [ay]at h) λvs kind rs h=>by simp [ay]at h) λvs kind rs h=>by simp [ay]at h) λvs kind rs h=>by simp [ay]at h) λvs kind rs h=>by simp [ay]at h) λvs kind rs h=>by simp [ay]at h) λvs kind rs h=>by simp [ay]at h) λvs kind rs h=>by simp [ay]at h) λvs kind rs h=>by simp [ay]at h) λvs kind rs h=>by simp [ay]at h) λvs kind rs h=>by simp [ay]at h) λvs kind rs h=>by simp [ay]at h) λvs kind rs h=>by simp [ay]at h) λvs kind rs h=>by simp [ay]at h) λvs kind rs h=>by simp [ay]at h) λvs kind rs h=>by simp [ay]at h) λvs kind rs h=>by simp [ay]at h) λvs kind rs h=>by simp [ay]at h) λvs kind rs h=>by simp [ay]at h) λvs kind rs h=>by simp [ay]at h) λvs kind rs h=>by simp [ay]at h) λvs kind rs h=>by simp [ay]at h) λvs kind rs h=>by simp [ay]at h) λvs kind rs h=>by simp [ay]at h) λvs kind rs h=>by simp [ay]at h) λvs kind rs h=>by simp [ay]at h) λvs kind rs h=>by simp [ay]at h) λvs kind rs h=>by simp [ay]at h) λvs kind rs h=>by simp [ay]at h) λvs kind rs h=>by simp [ay]at h) λvs kind rs h=>by simp [ay]at h)
def E1B:Env:=AZ Tryz.prog Ht
theorem bF:E1B.Ok:=ud DD DE FD
theorem cr:Kg E1B TT:=⟨tz1,⟨tz2,⟨tz3,⟨tz4,⟨tz5,⟨tz6,⟨tz7,⟨tz8,⟨SU,⟨SV,⟨SW,⟨SX,⟨SY,⟨SZ,⟨Ta,⟨Tb,⟨Tc,⟨Td,⟨Te,⟨Tf,⟨Tg,⟨Ti,⟨Tj,⟨Tk,⟨Tl,⟨Tm,⟨Tn,⟨To,⟨Tp,⟨Tq,⟨Tr,⟨Ts,⟨Tt,⟨Tu,⟨Tv,⟨Tw,⟨Tx,⟨Tz,⟨TA,⟨TB,⟨TC,⟨TE,⟨TF,⟨TG,⟨TH,⟨TJ,⟨TK,⟨TL,⟨TM,⟨TN,⟨TO,⟨TP,⟨TQ,⟨TR,⟨TS,⟨TU,⟨TV,⟨TW,⟨TX,⟨TY,⟨TZ,⟨Ua,⟨Ub,⟨Uc,⟨Ud,⟨Ue,⟨Uf,⟨Ug,⟨Uh,⟨Ui,⟨Uj,⟨Uk,⟨Ul,⟨Um,⟨Un,⟨Uo,⟨Uq,⟨Ur,⟨Us,⟨Ut,⟨Uu,⟨Uv,⟨Uw,⟨Ux,⟨Uy,⟨Uz,⟨UA,⟨Mw,⟨My,⟨Mz,⟨MA,⟨MC,⟨MD,⟨ME,⟨MF,⟨MG,⟨MH,⟨MI,⟨MJ,⟨MK,⟨ML,⟨MM,⟨MN,⟨MO,⟨MP,⟨MQ,⟨MR,⟨MS,⟨MT,⟨MU,⟨MV,⟨MW,⟨MX,⟨MY,⟨MZ,⟨Na,⟨Nb,⟨Nc,⟨Nd,⟨Nf,⟨Ng,⟨Nh,⟨Ni,⟨Nj,⟨Nk,⟨Nl,⟨Nm,⟨Nn,⟨No,⟨Np,⟨Nq,⟨Nr,⟨Ns,⟨Nt,⟨Nu,⟨Nv,⟨Nw,⟨Nx,⟨Ny,⟨Nz,⟨NA,⟨NC,⟨ND,⟨NE,⟨NF,⟨NG,⟨NH,⟨NI,⟨NJ,⟨NK,⟨NL,⟨NM,⟨NN,⟨NO,⟨NP,⟨NQ,⟨NR,⟨NS,⟨NT,⟨NU,trivial⟩⟩⟩⟩⟩⟩⟩⟩⟩⟩⟩⟩⟩⟩⟩⟩⟩⟩⟩⟩⟩⟩⟩⟩⟩⟩⟩⟩⟩⟩⟩⟩⟩⟩⟩⟩⟩⟩⟩⟩⟩⟩⟩⟩⟩⟩⟩⟩⟩⟩⟩⟩⟩⟩⟩⟩⟩⟩⟩⟩⟩⟩⟩⟩⟩⟩⟩⟩⟩⟩⟩⟩⟩⟩⟩⟩⟩⟩⟩⟩⟩⟩⟩⟩⟩⟩⟩⟩⟩⟩⟩⟩⟩⟩⟩⟩⟩⟩⟩⟩⟩⟩⟩⟩⟩⟩⟩⟩⟩⟩⟩⟩⟩⟩⟩⟩⟩⟩⟩⟩⟩⟩⟩⟩⟩⟩⟩⟩⟩⟩⟩⟩⟩⟩⟩⟩⟩⟩⟩⟩⟩⟩⟩⟩⟩⟩⟩⟩⟩⟩⟩⟩⟩⟩⟩⟩⟩⟩⟩⟩
theorem bE:Kh E1B.P EQS:=⟨EX EZ Fc,⟨EY Fd Fe,⟨EY Ff Fg,⟨EX BT BV,trivial⟩⟩⟩⟩
theorem Qe:E1B.fn 24=some PF:=bH Tryz.func24 rfl
theorem Qf:E1B.fn 26=some UE:=bH Tryz.func26 rfl
theorem Qg:E1B.fn 43=some PG:=bH Tryz.func43 rfl
theorem Qh:E1B.fn 51=some PH:=bH Tryz.func51 rfl
theorem Qi:E1B.fn 56=some UG:=bH Tryz.func56 rfl
theorem Qj:E1B.fn 81=some PI:=bH Tryz.func81 rfl
theorem Qk:E1B.fn 82=some PJ:=bH Tryz.func82 rfl
theorem Ql:E1B.fn 83=some PK:=bH Tryz.func83 rfl
theorem Qm:E1B.fn 84=some PL:=bH Tryz.func84 rfl
theorem Qn:E1B.fn 86=some UI:=bH Tryz.func86 rfl
theorem Qo:E1B.fn 87=some UJ:=bH Tryz.func87 rfl
theorem Qp:E1B.fn 99=some PM:=bH Tryz.func99 rfl
theorem Ot:E1B.fn 100=some Ki:=bH Tryz.func100 rfl
theorem Ou:E1B.fn 101=some Kj:=bH Tryz.func101 rfl
theorem Ov:E1B.fn 102=some NV:=bH Tryz.func102 rfl
theorem Ow:E1B.fn 108=some NW:=bH Tryz.func108 rfl
theorem Ox:E1B.fn 110=some NX:=bH Tryz.func110 rfl
theorem Oy:E1B.fn 111=some NY:=bH Tryz.func111 rfl
theorem Oz:E1B.fn 112=some NZ:=bH Tryz.func112 rfl
theorem OA:E1B.fn 117=some Oa:=bH Tryz.func117 rfl
theorem OB:E1B.fn 118=some Ob:=bH Tryz.func118 rfl
theorem OC:E1B.fn 119=some Oc:=bH Tryz.func119 rfl
theorem OD:E1B.fn 120=some Od:=bH Tryz.func120 rfl
theorem OE:E1B.fn 123=some Oe:=bH Tryz.func123 rfl
end K
end Ev
end
noncomputable section
namespace Ev
namespace K
open Go Go.RowKit
set_option maxRecDepth 100000
set_option maxHeartbeats 1000000
theorem yj:GOk xM E1B 0:=gok bF cr bE trivial trivial
theorem jZ:aC E1B qG:=aU yj (by kernel_rfl) Oy (by kernel_rfl) rfl
theorem oh:GOk lh E1B 0:=gok bF cr bE trivial trivial
theorem pS:aC E1B lk:=aU oh (by kernel_rfl) OE (by kernel_rfl) rfl
theorem pT:GOk mF E1B 1:=gok bF cr bE ⟨⟨by decide,pS⟩,trivial⟩ trivial
theorem rz:aC E1B mG:=aU pT (by kernel_rfl) OA (by kernel_rfl) rfl
theorem rA:GOk pu E1B 1:=gok bF cr bE ⟨⟨by decide,jZ⟩,trivial⟩ trivial
theorem sS:aC E1B pw:=aU rA (by kernel_rfl) OB (by kernel_rfl) rfl
theorem vF:GOk uZ E1B 0:=gok bF cr bE trivial trivial
theorem yk:aC E1B vc:=aU vF (by kernel_rfl) OC (by kernel_rfl) rfl
theorem vG:GOk vd E1B 2:=gok bF cr bE ⟨⟨by decide,rz⟩,⟨⟨by decide,sS⟩,⟨⟨by decide,yk⟩,trivial⟩⟩⟩ trivial
theorem yl:aC E1B DH:=aU vG (by kernel_rfl) Ox (by kernel_rfl) rfl
theorem pU:GOk mH E1B 1:=gok bF cr bE ⟨⟨by decide,jZ⟩,trivial⟩ trivial
theorem rB:aC E1B mI:=aU pU (by kernel_rfl) OD (by kernel_rfl) rfl
theorem pV:GOk mJ E1B 2:=gok bF cr bE ⟨⟨by decide,rB⟩,trivial⟩ trivial
theorem rC:aC E1B wk:=aU pV (by kernel_rfl) Oz (by kernel_rfl) rfl
theorem ym:GOk xN E1B 0:=gok bF cr bE trivial trivial
theorem zZ:aC E1B GR:=aU ym (by kernel_rfl) Ow (by kernel_rfl) rfl
theorem rD:GOk px E1B 0:=gok bF cr bE trivial trivial
theorem sT:aC E1B py:=aU rD (by kernel_rfl) Qn (by kernel_rfl) rfl
theorem mY:GOk jK E1B 0:=gok bF cr bE trivial trivial
theorem ol:aC E1B jL:=aU mY (by kernel_rfl) Ov (by kernel_rfl) rfl
theorem ke:GOk iu E1B 1:=gok bF cr bE ⟨⟨by decide,ol⟩,trivial⟩ trivial
theorem me:aC E1B iv:=aU ke (by kernel_rfl) Qo (by kernel_rfl) rfl
theorem om:GOk ll E1B 2:=gok bF cr bE ⟨⟨by decide,sT⟩,⟨⟨by decide,me⟩,trivial⟩⟩ trivial
theorem pW:aC E1B lq:=aU om (by kernel_rfl) Qi (by kernel_rfl) rfl
theorem pX:GOk mK E1B 3:=gok bF cr bE ⟨⟨by decide,pW⟩,trivial⟩ trivial
theorem rE:aC E1B wm:=aU pX (by kernel_rfl) Qf (by kernel_rfl) rfl
theorem pY:GOk iI E1B 0:=gok bF cr bE trivial trivial
theorem rF:aC E1B fU:=aU pY (by kernel_rfl) Qg (by kernel_rfl) rfl
theorem vH:GOk nO E1B 0:=gok bF cr bE trivial trivial
theorem yn:aC E1B nQ:=aU vH (by kernel_rfl) Qj (by kernel_rfl) rfl
theorem vJ:GOk nR E1B 0:=gok bF cr bE trivial trivial
theorem yo:aC E1B nS:=aU vJ (by kernel_rfl) Qk (by kernel_rfl) rfl
theorem mZ:GOk gn E1B 0:=gok bF cr bE trivial trivial
theorem oo:aC E1B go:=aU mZ (by kernel_rfl) Qp (by kernel_rfl) rfl
theorem pZ:GOk iJ E1B 0:=gok bF cr bE trivial trivial
theorem rG:aC E1B iK:=aU pZ (by kernel_rfl) Ot (by kernel_rfl) rfl
theorem sU:GOk lr E1B 0:=gok bF cr bE trivial trivial
theorem vK:aC E1B lu:=aU sU (by kernel_rfl) Ou (by kernel_rfl) rfl
theorem sV:GOk lv E1B 1:=gok bF cr bE ⟨⟨by decide,oo⟩,⟨⟨by decide,rG⟩,⟨⟨by decide,vK⟩,trivial⟩⟩⟩ trivial
theorem vL:aC E1B lx:=aU sV (by kernel_rfl) Ql (by kernel_rfl) rfl
theorem oq:GOk ie E1B 0:=gok bF cr bE trivial trivial
theorem qa:aC E1B ig:=aU oq (by kernel_rfl) Qm (by kernel_rfl) rfl
theorem nc:GOk gp E1B 2:=gok bF cr bE ⟨⟨by decide,rF⟩,⟨⟨by decide,yn⟩,⟨⟨by decide,yo⟩,⟨⟨by decide,vL⟩,⟨⟨by decide,qa⟩,trivial⟩⟩⟩⟩⟩ trivial
theorem ot:aC E1B gq:=aU nc (by kernel_rfl) Qh (by kernel_rfl) rfl
theorem qb:GOk iL E1B 3:=gok bF cr bE ⟨⟨by decide,ot⟩,trivial⟩ trivial
theorem rH:aC E1B iM:=aU qb (by kernel_rfl) Qe (by kernel_rfl) rfl
end K
end Ev
end
noncomputable section
open Go.RowKit Go.Sort
namespace Sm
namespace Eg
open Ev
abbrev ety:K.Ty:= .C (.I .i64) (.C (.I .i64) (.I .i64))
def RG(r:Int):Rg:=⟨ofW,fS r,cS⟩
def inB(n:Int):Bool:=decide (-9223372036854775808<=n)&& decide (n<=9223372036854775807)
theorem Cq{n:Int}(h:inB n=true):pK n:=by simpa [inB,pK]using h
def okB(x:Sl (Int×Int×Int)):Bool:=decide (x.l.length<=90000)&&(x.l.all λe=>inB e.1 &&(inB e.2.1 && inB e.2.2))&&(decide (x.sz=3)||x.l.isEmpty)&&(x.nn||x.l.isEmpty)
def fn(a:Int×Sl (Int×Int×Int)):Option (Sl (Int×Int×Int)×Int):=
 if iy a.1=true then if okB a.2=true then if iU a.2.l=true then some (⟨a.2.nn,3,a.2.l⟩,0)else
  let o:=dQ (RG a.1) a.2.l
  some (if o.2=0 then(⟨true,3,o.1⟩,0)else(⟨false,0,[]⟩,o.2))else none else some (⟨false,0,[]⟩,8)
theorem Qq{w:World}{F:Nat->Prop}{x:Sl (Int×Int×Int)}{y:Value}(hx:okB x=true)(h:RepT w F (Sl.t ety.row x) y):∃a c,y= .slice a x.l.length c/\RdE w a x.l/\(a=none->c=0/\x.l.length=0)/\x.l.length<=c/\x.nn=a.isSome:=by
 obtain⟨nn,sz,l⟩:=x;simp only [okB,Bool.and_eq_true,Bool.or_eq_true,decide_eq_true_eq,List.isEmpty_iff]at hx;unfold Sl.t at h
 cases h with
 |s _ _ _ a c ys hn hc h0 hl hm hr=>
  rw [List.length_map]at hc ⊢;refine⟨a,c,rfl,?_,λha=>⟨h0 ha,by have:=h0 ha;omega⟩,hc,hn⟩;intro i hi
  have hsz:sz=3:=by
   rcases hx.1.2 with h|h
   .exact h
   .rw [h]at hi;simp at hi
  subst hsz;have hil:(l.map ety.row)[i]? =some (ety.row l[i]):=by simp [hi]
  have he:el l i=l[i]:=by simp [el,List.getD_eq_getElem?_getD,hi]
  rw [he]
  have g:∀j v,(ety.row l[i])[j]? =some (.v v)->∃b,a=some b/\b.block<w.heap.size/\w.cell? (b.add (i*3+j))=some v:=by
   intro j v hj;obtain⟨b,h1,h2,_,h3⟩:=hm i _ j _ hil hj;refine⟨b,h1,h2,?_⟩
   have:=hr i _ j _ hil hj
   rw [h3];generalize ys i j=y at this
   cases this with|v x hx=>rfl
  obtain⟨b,e0,h1,c0⟩:=g 0 (.int .i64 l[i].1) rfl;obtain⟨b1,e1,_,c1⟩:=g 1 (.int .i64 l[i].2.1) rfl;obtain⟨b2,e2,_,c2⟩:=g 2 (.int .i64 l[i].2.2) rfl;rw [e0]at e1 e2;cases e1;cases e2;refine⟨b,e0,h1,by simpa using c0,?_,?_⟩
  .rw [fk]at c1;exact c1
  .rw [fk,fk]at c2;exact c2
theorem rep_of{base:Nat}{w:World}{F:Nat->Prop}{a:Option Addr}{c:Nat}{l:List (Int×Int×Int)}(h:Out base w a c l)(hF:∀b,F b->b<base)(hne:l≠[]∨a≠none):RepT w F (Sl.t ety.row ⟨true,3,l⟩) (.slice a l.length c):=by
 obtain⟨h1,h2,h3,h4⟩:=h
 obtain⟨b0,rfl⟩:∃b0,a=some b0:=by
  cases a with
  |some b=>exact⟨b,rfl⟩
  |none=>exact absurd (List.eq_nil_of_length_eq_zero (h2 rfl).2) (hne.resolve_right (by simp))
 have key:=RepT.s (w:=w) (F:=F) true 3 (l.map ety.row) (some b0) c (λi j=>match j with
  |0=> .int .i64 (el l i).1
  |1=> .int .i64 (el l i).2.1
  |_=> .int .i64 (el l i).2.2) rfl (by simpa using h3) (by simp) (λi e hi=>by
   rw [List.getElem?_map,Option.map_eq_some_iff]at hi;obtain⟨x,_,rfl⟩:=hi
   rfl) ?_ ?_
 .rw [List.length_map]at key;exact key
 .intro i e j t hi hj;rw [List.getElem?_map,Option.map_eq_some_iff]at hi;obtain⟨x,hx,rfl⟩:=hi;have hil:i<l.length:=(List.getElem?_eq_some_iff.1 hx).1;obtain⟨b,e0,g1,c0,c1,c2⟩:=h1 i hil;cases e0;refine⟨b0,rfl,g1,λhf=>by have:=h4 b0 rfl;have:=hF _ hf;omega,?_⟩;have hj3:j<3:=(List.getElem?_eq_some_iff.1 hj).1;rcases(show j=0∨j=1∨j=2 by omega)with rfl|rfl|rfl
  .simpa using c0
  .rw [fk];exact c1
  .rw [fk,fk];exact c2
 .intro i e j t hi hj;rw [List.getElem?_map,Option.map_eq_some_iff]at hi;obtain⟨x,hx,rfl⟩:=hi;have hx2:el l i=x:=by simp [el,List.getD_eq_getElem?_getD,hx]
  have hj3:j<3:=(List.getElem?_eq_some_iff.1 hj).1;rcases(show j=0∨j=1∨j=2 by omega)with rfl|rfl|rfl
  .cases hj;simp only [hx2];exact .v _ rfl
  .cases hj;simp only [hx2];exact .v _ rfl
  .cases hj;simp only [hx2];exact .v _ rfl
theorem OF(R:Rg)(e:Ed):∀S,ins R S e≠[]
 | []=>by simp [ins]
 |p::S=>by
  unfold ins;split
  .simp
  .split<;>simp
theorem OG{R:Rg}{l:List Ed}(h:l≠[]):fG R l≠[]:=by
 obtain⟨m,e,rfl⟩:∃m e,l=m++ [e]:=⟨l.dropLast,l.getLast h,(List.dropLast_concat_getLast h).symm⟩;rw [wD];exact OF R e _
theorem OH{R:Rg}{l:List Ed}(h:l≠[])(h0:(dQ R l).2=0):(dQ R l).1≠[]:=by
 unfold dQ at h0 ⊢;split at h0
 .rename_i hc;rw [if_pos hc];simpa using OG h
 .simp at h0
theorem Qr{R:Rg}{l:List Ed}(h0:(dQ R l).2≠0):dQ R l=([],12):=by
 unfold dQ at h0 ⊢;split at h0
 .exact absurd rfl h0
 .rename_i hc;rw [if_neg hc]
set_option maxRecDepth 100000 in
theorem Hu(x:Int)(hx:pK x)(W:World)(hL:LD W.heap.size W):Calls Tryz.prog 111 #[.int .i64 x] W λe w'=>e= .returned (WV (ofW x))/\Below W.heap.size W w':=by
 have h:=K.jZ 0 x (ofW x) (pR hx);exact ik (RunsP.pure K.bF h) rfl rfl W hL
set_option maxRecDepth 100000 in
theorem FE(r:Int)(x y:V)(W:World)(hL:LD W.heap.size W):Calls Tryz.prog 110 #[.int .i64 r,WV x,WV y] W λe w'=>e= .returned (WV (fS r x y))/\Below W.heap.size W w':=by
 have h:=K.yl 0 (r,x,y) (fS r x y) (Co r x y);exact ik (RunsP.pure K.bF h) rfl rfl W hL
set_option maxRecDepth 100000 in
theorem FF(r:Int)(x:V)(W:World)(hL:LD W.heap.size W):Calls Tryz.prog 112 #[.int .i64 r,WV x] W λe w'=>e= .returned (.tuple #[.int .i64 (cS x).1,.bool (cS x).2])/\Below W.heap.size W w':=by
 have h:=K.rC 0 (r,x) (cS x) (vB r x);exact ik (RunsP.pure K.bF h) rfl rfl W hL
theorem LD.below{w W:World}(hL:LD w.heap.size w)(hb:Below w.heap.size w W):LD W.heap.size W:=(hL.keep (λ_ hs=>hb.block 0 hs) hb.size).up hb.size
theorem RepT.below{w W:World}{F F':Nat->Prop}{t:T}{y:Value}(h:RepT w F t y)(hb:Below w.heap.size w W)(hF:∀b,F' b->F b):RepT W F' t y:=h.mono hb.size λb hlt _ hn=>⟨hb.block b hlt,λhf=>hn (hF b hf)⟩
theorem FG{w:World}{F:Nat->Prop}{x:Sl (Int×Int×Int)}{y:Value}(hr:RepT w F (Sl.t ety.row x) y)(hL:LD w.heap.size w){b:Bool}(hb:dS x=some b)(W:World)(hW:Below w.heap.size w W):Calls Tryz.prog 26 #[y] W λe w'=>e= .returned (.bool b)/\Below W.heap.size W w':=by
 have h:=RunsP.pure K.bF (K.rE 0 x b hb);refine(h W (λ_=>False) [y] (LD.below hL hW) (λ_ h=>h.elim) ⟨rfl,λi t hi=> ?_⟩).mono λe w' ⟨y',e1,e2,_,e3⟩=>⟨?_,e3⟩
 .have h0:i=0:=by
   have h1:i<1:=(List.getElem?_eq_some_iff.1 hi).1;omega
  subst h0;cases hi;exact⟨y,rfl,.one _ _ (RepT.below hr hW λ_ h=>h.elim)⟩
 .rw [e1,Hh (x:= .bool b) rfl w' _ e2]
theorem KA(w:World):(binOp .eql 22 (.slice none 0 0) (.slice none 0 0)).run Tryz.prog w= .ok (.bool true) w:=by kernel_rfl
theorem KH(w:World)(b:Addr)(n c:Nat):(binOp .eql 22 (.slice (some b) n c) (.slice none 0 0)).run Tryz.prog w= .ok (.bool false) w:=by kernel_rfl
set_option maxRecDepth 100000 in
set_option maxHeartbeats 1000000 in
theorem Cr(a:Option Addr)(l:List Ed)(c:Nat)(w:World)(hr:RdE w a l)(hz:a=none->c=0/\l.length=0)(hl:l.length<=90000):Calls Tryz.prog 109 #[.slice a l.length c] w λe w'=>∃v,e= .returned v/\w'.ownsRow w.heap.size 52 3 v l.length (cellsE l)/\Below w.heap.size w w'/\(a=none->v= .slice none 0 0)/\(a≠none->∃k,v.ownBlock=some k):=by
 by_cases ha:a=none
 .obtain⟨rfl,h0⟩:=hz ha;subst ha;obtain rfl:l= []:=List.eq_nil_of_length_eq_zero h0;have hq:=KA w
  go_enter Tryz.func109,Tryz.ntmps109
  go_wp2
  go_ret
  refine⟨_,rfl,World.ownsRow_nil _ _ _ _,(by repeat (first|with_reducible refine blg ?_ _ _|with_reducible refine bla ?_ _|with_reducible exact Below.refl _ _)),?_⟩
  first|exact⟨λ_=>rfl,λh=>absurd rfl h⟩|rfl|simp
 .obtain⟨b,rfl⟩:=Option.ne_none_iff_exists'.1 ha;obtain⟨n,hn⟩:∃n,n=l.length:=⟨_,rfl⟩;rw [<-hn]at hl hz ⊢;have HN:=Lib.hid hn;clear hn ha;have hq:=KH w b n c
  go_enter Tryz.func109,Tryz.ntmps109
  have h0:(w.alloc (.cells #[] 52)).ownsRow w.heap.size 52 3 (.slice (some ⟨w.heap.size,0,none⟩) 0 0) 0 (cellsE []):=by
   exact World.ownsRow_lit w #[] 0 (Nat.le_refl _) (by unfold maxLen;omega) rfl
  go_wp2_with (refine il rfl _ _ rfl w.heap.size _ 0 [] rfl h0 (some b) n c l rfl HN.out (hr.below (bl1 _ _)) (by simp) (by omega) (by simp) ?_;intro v' w' hown hg hat)
  go_ret
  refine⟨_,rfl,by simpa using hown,(bl1 w _).trans (wE (v:= .slice (some ⟨w.heap.size,0,none⟩) 0 0) hg (λk hk=>by cases hk;exact Nat.le_refl _) (by simp)),?_⟩;have hk:=hat.elim (λh=>(⟨_,h⟩:∃k,v'.ownBlock=some k)) λh=>⟨_,h⟩
  first|exact⟨λh=>(by cases h),λ_=>hk⟩|exact hk|simpa using hk
set_option maxRecDepth 100000 in
theorem bad(r:Int)(a:Option Addr)(n c:Nat)(w:World)(hI:∀W,Below w.heap.size w W->Calls Tryz.prog 108 #[.int .i64 r] W λe w'=>e= .returned (.bool false)/\Below W.heap.size W w'):
  Calls Tryz.prog 96 #[.int .i64 r,.slice a n c] w λe w'=>e= .returned (.tuple #[.slice none 0 0,.int .i64 8])/\Below w.heap.size w w':=by
 have HI:=Lib.hid hI;clear hI
 go_enter Tryz.func96,Tryz.ntmps96
 go_wp2_with fail
 refine(HI.out w (Below.refl _ _)).mono ?_;rintro x w1 ⟨rfl,hb1⟩
 go_wp2
 go_ret2
 exact⟨rfl,hb1⟩
set_option maxRecDepth 100000 in
set_option maxHeartbeats 1000000 in
theorem OI(r:Int)(a:Option Addr)(l:List Ed)(c:Nat)(w:World)(hIs:∀W,Below w.heap.size w W->Calls Tryz.prog 108 #[.int .i64 r] W λe w'=>e= .returned (.bool true)/\Below W.heap.size W w')
  (hO:∀W,Below w.heap.size w W->Calls Tryz.prog 26 #[.slice a l.length c] W λe w'=>e= .returned (.bool true)/\Below W.heap.size W w') (hr:RdE w a l) (hz:a=none->c=0/\l.length=0) (hl:l.length<=90000):
  Calls Tryz.prog 96 #[.int .i64 r,.slice a l.length c] w λe w'=>∃v,e= .returned (.tuple #[v,.int .i64 0])/\w'.ownsRow w.heap.size 52 3 v l.length (cellsE l)/\Below w.heap.size w w'/\(a=none->v= .slice none 0 0)/\(a≠none->∃k,v.ownBlock=some k):=by
 have HI:=Lib.hid hIs;have HO:=Lib.hid hO;clear hIs hO
 go_enter Tryz.func96,Tryz.ntmps96
 go_wp2_with fail
 refine(HI.out w (Below.refl _ _)).mono ?_;rintro x w1 ⟨rfl,hb1⟩
 go_wp2_with fail
 refine(HO.out w1 hb1).mono ?_;rintro x w2 ⟨rfl,hb2⟩;have hbw:=hb1.trans (hb2.mono hb1.size)
 go_wp2_with fail
 refine(Cr a l c w2 (hr.below hbw) hz hl).mono ?_;rintro x w3 ⟨v,rfl,hown,hb3,hv1,hv2⟩
 go_wp2
 go_ret2
 exact⟨v,rfl,zP hown hbw.size,hbw.trans (hb3.mono hbw.size),hv1,hv2⟩
theorem Aa(r:Int)(W:World)(hL:LD W.heap.size W):Calls Tryz.prog 108 #[.int .i64 r] W λe w'=>e= .returned (.bool (iy r))/\Below W.heap.size W w':=by
 have h:=K.zZ 0 r (iy r) (Fx r);exact ik (RunsP.pure K.bF h) rfl rfl W hL
theorem nil_rep(w:World)(F:Nat->Prop):RepT w F (Sl.t ety.row ⟨false,0,[]⟩) (.slice none 0 0):=RepT.s (w:=w) (F:=F) false 0 [] none 0 (λ_ _=> .nilFunc) rfl (Nat.le_refl _) (λ_=>rfl) (λi e h=>by simp at h) (λi e j t h=>by simp at h) (λi e j t h=>by simp at h)
theorem two{w:World}{F:Nat->Prop}{t:T}{y:Value}{e:Int}(h:RepT w F t y):jT w F [.one t,.one (iT .i64 e)] (.tuple #[y,.int .i64 e]):=by
 refine⟨[y,.int .i64 e],rfl,rfl,λi t' hi=> ?_⟩
 match i,hi with
 |0,hi=>cases hi;exact⟨y,rfl,.one _ _ h⟩
 |1,hi=>cases hi;exact⟨_,rfl,.one _ _ (.v _ rfl)⟩
 |i+2,hi=>simp at hi
abbrev ins:List K.TyD:= [(false,.I .i64),(false,.S ety)]
abbrev outs:List K.TyD:= [(false,.S ety),(false,.I .i64)]
theorem nil_rep0(w:World)(F:Nat->Prop):RepT w F (Sl.t ety.row ⟨false,3,[]⟩) (.slice none 0 0):=RepT.s (w:=w) (F:=F) false 3 [] none 0 (λ_ _=> .nilFunc) rfl (Nat.le_refl _) (λ_=>rfl) (λi e h=>by simp at h) (λi e j t h=>by simp at h) (λi e j t h=>by simp at h)
theorem pure_ok(a:K.ba ins)(o:K.ba outs)(h:fn a=some o):dP Tryz.prog 96 (K.bW ins a) .fresh (K.bW outs o):=by
 obtain⟨r,x⟩:=a;change Int at r;change Sl (Int×Int×Int)at x;unfold fn at h;split at h
 rotate_left
 .rename_i hring;simp only at hring;cases h;intro w F ys hL hF hr;obtain⟨hlen,hi⟩:=hr
  match ys,hlen with
  | [y0,y1],_=>
   obtain⟨y,e1,e2⟩:=hi 0 _ rfl;simp only [List.getElem?_cons_zero,zsI]at e1;subst e1
   have ey:y0= .int .i64 r:=by
    cases e2 with
    |one t y h=>cases h with|v x hx=>rfl
   subst ey;obtain⟨y,e1,e2⟩:=hi 1 _ rfl;simp only [List.getElem?_cons_succ,List.getElem?_cons_zero,zsI]at e1;subst e1
   have e3:RepT w F (Sl.t ety.row x) y1:=by cases e2 with|one t y h=>exact h
   obtain⟨ad,n,c,rfl⟩:∃a n c,y1= .slice a n c:=by
    unfold Sl.t at e3
    cases e3 with
    |s _ _ _ a c ys hn=>exact⟨_,_,_,rfl⟩
   have hf:iy r=false:=by simpa using hring
   refine(bad r ad n c w (λW hW=>by have:=Aa r W (LD.below hL hW);rw [hf]at this;exact this)).mono λe w' ⟨he,hbl⟩=>⟨_,he,two (nil_rep _ _),λhk=>(by cases hk),hbl⟩
 rename_i hring;simp only at hring;split at h
 .rename_i hx;simp only at hx;simp only at h;obtain⟨b,hb0⟩:∃b,b=iU x.l:=⟨_,rfl⟩;rw [<-hb0]at h
  have hb:dS x=some b:=by
   have hx2:=hx;simp only [okB,Bool.and_eq_true,Bool.or_eq_true,decide_eq_true_eq,List.isEmpty_iff,List.all_eq_true]at hx2;rw [hb0];exact vD hx2.1.2.symm (by omega)
  intro w F ys hL hF hr;obtain⟨hlen,hi⟩:=hr
  match ys,hlen with
  | [y0,y1],_=>
   obtain⟨y,e1,e2⟩:=hi 0 _ rfl;simp only [List.getElem?_cons_zero,zsI]at e1;subst e1
   have ey:y0= .int .i64 r:=by
    cases e2 with
    |one t y h=>cases h with|v x hx=>rfl
   subst ey;obtain⟨y,e1,e2⟩:=hi 1 _ rfl;simp only [List.getElem?_cons_succ,List.getElem?_cons_zero,zsI]at e1;subst e1
   have e3:RepT w F (Sl.t ety.row x) y1:=by cases e2 with|one t y h=>exact h
   clear e2 hi;obtain⟨ad,c,rfl,h1,h2,h3,hnn⟩:=Qq hx e3;have hx2:=hx;simp only [okB,Bool.and_eq_true,Bool.or_eq_true,decide_eq_true_eq,List.isEmpty_iff,List.all_eq_true]at hx2;have hO:=FG e3 hL hb;have hI:∀W,Below w.heap.size w W->Calls Tryz.prog 108 #[.int .i64 r] W λe w'=>e= .returned (.bool true)/\Below W.heap.size W w':=λW hW=>by have:=Aa r W (LD.below hL hW);rw [hring]at this;exact this
   cases b with
   |true=>
    rw [if_pos rfl]at h;cases h;refine(OI r ad x.l c w hI hO h1 h2 hx2.1.1.1).mono λe w' ⟨v,he,hown,hbl,hv1,hv2⟩=>⟨_,he,?_,λhk=>(by cases hk),hbl⟩
    cases ad with
    |none=>
     rw [hv1 rfl];have hl0:x.l= []:=List.eq_nil_of_length_eq_zero (h2 rfl).2;rw [hnn,hl0];exact two (nil_rep0 _ _)
    |some b=>
     obtain⟨k,hk⟩:=hv2 (by simp);obtain⟨_,a',c',rfl,hle,hrd,hz'⟩:=row_rdE hown;rw [hnn];exact two (rep_of (base:=w.heap.size) ⟨hrd,hz',hle,λb hb=>(hown.lt b.block (by rw [hb];rfl)).1⟩ (λb hb=>hb.1) (.inr (by intro hn;rw [hn]at hk;cases hk)))
   |false=>
    rw [if_neg (by simp)]at h;have hw:=Oo r (RG r) ad x.l c w hI hO (λz hz W hW=>Hu z hz W (LD.below hL hW)) (λp q W hW=>FE r p q W (LD.below hL hW)) (λp W hW=>FF r p W (LD.below hL hW)) h1 (λe he=>by have:=hx2.1.1.2 e he;exact⟨Cq this.1,Cq this.2.1,Cq this.2.2⟩) hx2.1.1.1;refine hw.mono λe w' ⟨a',c',he,ho,hbl,hnil⟩=>⟨_,he,?_,λhk=>(by cases hk),hbl⟩
    have hne:x.l≠[]:=by
     intro hn;rw [hn]at hb0;cases hb0
    by_cases h0:(dQ (RG r) x.l).2=0
    .simp only [if_pos h0]at h;cases h;rw [h0];exact two (rep_of ho (λb hb=>hb.1) (.inl (OH hne h0)))
    .simp only [if_neg h0]at h;cases h;have he:=Qr h0;rw [he]at ho ⊢;obtain⟨g1,g2,g3⟩:=ho;obtain rfl:=hnil h0;obtain⟨rfl,_⟩:=g2 rfl;exact two (nil_rep _ _)
 .simp at h
theorem enters:Ev.Enters Tryz.prog 96:=⟨_,_,Tryz.func96,by kernel_rfl,by unfold Tryz.f96;rfl⟩
end Eg
end Sm
end
noncomputable section
open Go.RowKit Go.Sort
abbrev rdr(v:Value)(p e fa:Int):Array Value:=#[v,.int .i64 p,.int .i64 e,.int .i64 fa]
abbrev jq(e fa:Int):PanicEntry:={v:= .iface 138 (.agg #[.int .i64 e,.int .i64 fa]),recovered:=false}
theorem jr(R:Nat)(a:Option Addr)(n c p:Nat)(e fa:Int)(k:Int)(w:World)(hR:CellsAt w R 127 (rdr (.slice a n c) p e fa))(hk:0<=k)(hp:p<=n)(hn:n<=9223372036854775807)(hs:(n:Int) - p<k):
  Calls Tryz.prog 105 #[.pointer (some ⟨R,0,none⟩),.int .i64 k] w λx w'=>x= .panicked [jq 2 n]/\Below w.heap.size w w':=by
 have c0:w.cell? ⟨R,0,none⟩=some (.slice a n c):=hR.cell 0;have c1:w.cell? ⟨R,1,none⟩=some (.int .i64 p):=hR.cell 1;have kR:Has w R:=hR.lt
 go_enter Tryz.func105,Tryz.ntmps105
 go_wp2_with fail
 refine wp_region_quiet_below (by kernel_rfl) (by kernel_rfl) ?_
 repeat (go_big_quiet_step (fail))
 refine wpQuiet_nil ?_;rintro _ ⟨⟨d2,o2⟩,rfl⟩
 go_wp2_with fail
 exact⟨rfl,rfl,below_regrown _ _ _⟩
theorem sb(R:Nat)(a:Option Addr)(n c p k:Nat)(e fa:Int)(f:Nat->Int)(w:World)(hR:CellsAt w R 127 (rdr (.slice a n c) p e fa))(hb:Rd8 w a n f)(hne:∀b,a=some b->b.block≠R)(hc:n<=c)(hn:n<=9223372036854775807)(hp:p+k<=n):
  Calls Tryz.prog 105 #[.pointer (some ⟨R,0,none⟩),.int .i64 k] w λx w'=>∃a' c',x= .returned (.slice a' k c')/\k<=c'/\CellsAt w' R 127 (rdr (.slice a n c) (p+k:Nat) e fa)/\Rd8 w' a' k (λi=>f (p+i))/\w.grownBy w' (some R):=by
 have c0:w.cell? ⟨R,0,none⟩=some (.slice a n c):=hR.cell 0;have c1:w.cell? ⟨R,1,none⟩=some (.int .i64 p):=hR.cell 1;have f1:=hR.frozen 1;have kR:Has w R:=hR.lt
 go_enter Tryz.func105,Tryz.ntmps105
 go_wp2_with fail
 refine wp_region_quiet_below (by kernel_rfl) (by kernel_rfl) ?_
 repeat (go_big_quiet_step (fail))
 refine wpQuiet_nil ?_;rintro _ ⟨⟨d2,o2⟩,rfl⟩;have hU:Below w.heap.size w (grow (redrawn w d2) o2):=below_regrown w d2 o2;generalize grow (redrawn w d2) o2=U at hU ⊢;have hR1:=hR.below hU;have hb1:=hb.grown (ab hU none) (λ_ _=>by simp);have g1:w.grownBy U none:=ab hU none;have c0:U.cell? ⟨R,0,none⟩=some (.slice a n c):=hR1.cell 0;have c1:U.cell? ⟨R,1,none⟩=some (.int .i64 p):=hR1.cell 1;have f1:=hR1.frozen 1
 go_wp2_with fail
 have hR2:=hR1.set 1 (.int .i64 (p+k));have hV:=af U R 1 (.int .i64 (p+k));have hb2:=hb1.grown hV (λb hb=>by simpa using hne b hb);generalize U.setCell ⟨R,1,none⟩ (.int .i64 (p+k))=V at hR2 hV hb2 ⊢;have c0:V.cell? ⟨R,0,none⟩=some (.slice a n c):=hR2.cell 0;have c1:V.cell? ⟨R,1,none⟩=some (.int .i64 (p+k)):=hR2.cell 1;have kR:Has V R:=hR2.lt;have gV:w.grownBy V (some R):=ae (jm g1) hV;clear hU hR1 hb1 g1 f1;have q1:((p:Int)+k) - k=p:=by omega
 have q2:(0:Int)<=p:=by omega
 have q3:(p:Int)<=p+k:=by omega
 have q4:(p:Int)+k<=c:=by omega
 refine wp_region_quiet_below (by kernel_rfl) (by kernel_rfl) ?_
 repeat (go_big_quiet_step (fail))
 refine wpQuiet_nil ?_;rintro _ ⟨⟨d3,o3⟩,rfl⟩
 go_wp2_with fail
 .obtain rfl:c=p:=by omega
  go_ret
  exact⟨_,_,rfl,by omega,by simpa using hR2.below (below_regrown V d3 o3),λi hi=>by omega,ae gV (ab (below_regrown V d3 o3) _)⟩
 .go_ret
  exact⟨_,_,rfl,by omega,by simpa using hR2.below (below_regrown V d3 o3),(hb2.cut hp).grown (ab (below_regrown V d3 o3) none) (λ_ _=>by simp),ae gV (ab (below_regrown V d3 o3) _)⟩
end
noncomputable section
open Go.RowKit Go.Sort
@[go_sem] theorem UN (v:Value) (xT:TypeId) (w:World):(Instr.typeAssert (.iface 138 v) xT 138 true).run Tryz.prog w= .ok (.tuple #[v,.bool true]) w:=by kernel_rfl
theorem vM(B R:Nat)(v:Value)(p e fa e2 fa2:Int)(older:List PanicEntry)(w:World)(hB:CellsAt w B 95 #[.pointer (some ⟨R,0,none⟩)])(hR:CellsAt w R 127 (rdr v p e fa)):
  CallsD Tryz.prog 104 #[.pointer (some ⟨B,0,none⟩)] (.panicking (jq e2 fa2::older)) w λx u' w'=>
   x= .returned (.tuple #[])/\u'= .panicking ({jq e2 fa2 with recovered:=true}::older)/\CellsAt w' R 127 (rdr v p e2 fa2)/\w.grownBy w' (some R):=by
 have c0:w.cell? ⟨B,0,none⟩=some (.pointer (some ⟨R,0,none⟩)):=hB.cell 0;have c2:w.cell? ⟨R,2,none⟩=some (.int .i64 e):=hR.cell 2;have c3:w.cell? ⟨R,3,none⟩=some (.int .i64 fa):=hR.cell 3;have f2:=hR.frozen 2;have f3:=hR.frozen 3;have kB:Has w B:=hB.lt;have kR:Has w R:=hR.lt;refine callsD_of_wpS Tryz.func104 rfl λc₀ cs hu=> ?_;apply wpS_seq;apply wpS_region;simp [wpOpsS,go_sem,recoverD,hu,Tryz.ntmps104,Exit.thenS];refine wpS_of_wp ?_;generalize hQ:(λ(e:Exit) (a':Act) (w':World)=>bodyPostS _ _ _ _ _ e a' _ w')=Q;simp only [Array.replicate_succ,Array.replicate_zero,List.push_toArray,List.append_toArray,List.nil_append,List.cons_append,List.setIfInBounds_toArray,List.set_cons_zero,List.set_cons_succ]
 go_wp2_with fail
 subst hQ;have h1:=(hR.set 2 (.int .i64 e2)).set 3 (.int .i64 fa2);have h2:=ae (af w R 2 (.int .i64 e2)) (af _ R 3 (.int .i64 fa2));refine⟨rfl,_,rfl,_,by simp [results,Tryz.results104,go_sem],rfl,rfl,h1.below (bl1 _ _),ae h2 (ab (bl1 _ _) _)⟩
theorem Ab(B:Nat)(w:World):
  CallsD Tryz.prog 104 #[.pointer (some ⟨B,0,none⟩)] .returning w λx u' w'=>x= .returned (.tuple #[])/\u'= .returning/\w'=w:=by
 refine callsD_of_wpS Tryz.func104 rfl λc₀ cs hu=> ?_;apply wpS_seq;apply wpS_region;simp [wpOpsS,go_sem,recoverD,hu,Tryz.ntmps104,Exit.thenS];refine wpS_of_wp ?_;generalize hQ:(λ(e:Exit) (a':Act) (w':World)=>bodyPostS _ _ _ _ _ e a' _ w')=Q;simp only [Array.replicate_succ,Array.replicate_zero,List.push_toArray,List.append_toArray,List.nil_append,List.cons_append,List.setIfInBounds_toArray,List.set_cons_zero,List.set_cons_succ]
 go_wp2_with fail
 subst hQ;cases c₀;simp only at hu;subst hu;exact⟨rfl,_,rfl,_,by simp [results,Tryz.results104,go_sem],rfl,rfl,rfl⟩
theorem sW(B R:Nat)(v:Value)(p e fa e2 fa2:Int)(older:List PanicEntry)(w:World)(hB:CellsAt w B 95 #[.pointer (some ⟨R,0,none⟩)])(hR:CellsAt w R 127 (rdr v p e fa)):
  CallsD Tryz.prog 116 #[.pointer (some ⟨B,0,none⟩)] (.panicking (jq e2 fa2::older)) w λx u' w'=>
   x= .returned (.tuple #[])/\u'= .panicking ({jq e2 fa2 with recovered:=true}::older)/\CellsAt w' R 127 (rdr v p e2 fa2)/\w.grownBy w' (some R):=by
 have c0:w.cell? ⟨B,0,none⟩=some (.pointer (some ⟨R,0,none⟩)):=hB.cell 0;have c2:w.cell? ⟨R,2,none⟩=some (.int .i64 e):=hR.cell 2;have c3:w.cell? ⟨R,3,none⟩=some (.int .i64 fa):=hR.cell 3;have f2:=hR.frozen 2;have f3:=hR.frozen 3;have kB:Has w B:=hB.lt;have kR:Has w R:=hR.lt;refine callsD_of_wpS Tryz.func116 rfl λc₀ cs hu=> ?_;apply wpS_seq;apply wpS_region;simp [wpOpsS,go_sem,recoverD,hu,Tryz.ntmps116,Exit.thenS];refine wpS_of_wp ?_;generalize hQ:(λ(e:Exit) (a':Act) (w':World)=>bodyPostS _ _ _ _ _ e a' _ w')=Q;simp only [Array.replicate_succ,Array.replicate_zero,List.push_toArray,List.append_toArray,List.nil_append,List.cons_append,List.setIfInBounds_toArray,List.set_cons_zero,List.set_cons_succ]
 go_wp2_with fail
 subst hQ;have h1:=(hR.set 2 (.int .i64 e2)).set 3 (.int .i64 fa2);have h2:=ae (af w R 2 (.int .i64 e2)) (af _ R 3 (.int .i64 fa2));refine⟨rfl,_,rfl,_,by simp [results,Tryz.results116,go_sem],rfl,rfl,h1.below (bl1 _ _),ae h2 (ab (bl1 _ _) _)⟩
theorem yp(B:Nat)(w:World):
  CallsD Tryz.prog 116 #[.pointer (some ⟨B,0,none⟩)] .returning w λx u' w'=>x= .returned (.tuple #[])/\u'= .returning/\w'=w:=by
 refine callsD_of_wpS Tryz.func116 rfl λc₀ cs hu=> ?_;apply wpS_seq;apply wpS_region;simp [wpOpsS,go_sem,recoverD,hu,Tryz.ntmps116,Exit.thenS];refine wpS_of_wp ?_;generalize hQ:(λ(e:Exit) (a':Act) (w':World)=>bodyPostS _ _ _ _ _ e a' _ w')=Q;simp only [Array.replicate_succ,Array.replicate_zero,List.push_toArray,List.append_toArray,List.nil_append,List.cons_append,List.setIfInBounds_toArray,List.set_cons_zero,List.set_cons_succ]
 go_wp2_with fail
 subst hQ;cases c₀;simp only at hu;subst hu;exact⟨rfl,_,rfl,_,by simp [results,Tryz.results116,go_sem],rfl,rfl,rfl⟩
theorem sY(B R:Nat)(v:Value)(p e fa e2 fa2:Int)(older:List PanicEntry)(w:World)(hB:CellsAt w B 95 #[.pointer (some ⟨R,0,none⟩)])(hR:CellsAt w R 127 (rdr v p e fa)):
  CallsD Tryz.prog 114 #[.pointer (some ⟨B,0,none⟩)] (.panicking (jq e2 fa2::older)) w λx u' w'=>
   x= .returned (.tuple #[])/\u'= .panicking ({jq e2 fa2 with recovered:=true}::older)/\CellsAt w' R 127 (rdr v p e2 fa2)/\w.grownBy w' (some R):=by
 have c0:w.cell? ⟨B,0,none⟩=some (.pointer (some ⟨R,0,none⟩)):=hB.cell 0;have c2:w.cell? ⟨R,2,none⟩=some (.int .i64 e):=hR.cell 2;have c3:w.cell? ⟨R,3,none⟩=some (.int .i64 fa):=hR.cell 3;have f2:=hR.frozen 2;have f3:=hR.frozen 3;have kB:Has w B:=hB.lt;have kR:Has w R:=hR.lt;refine callsD_of_wpS Tryz.func114 rfl λc₀ cs hu=> ?_;apply wpS_seq;apply wpS_region;simp [wpOpsS,go_sem,recoverD,hu,Tryz.ntmps114,Exit.thenS];refine wpS_of_wp ?_;generalize hQ:(λ(e:Exit) (a':Act) (w':World)=>bodyPostS _ _ _ _ _ e a' _ w')=Q;simp only [Array.replicate_succ,Array.replicate_zero,List.push_toArray,List.append_toArray,List.nil_append,List.cons_append,List.setIfInBounds_toArray,List.set_cons_zero,List.set_cons_succ]
 go_wp2_with fail
 subst hQ;have h1:=(hR.set 2 (.int .i64 e2)).set 3 (.int .i64 fa2);have h2:=ae (af w R 2 (.int .i64 e2)) (af _ R 3 (.int .i64 fa2));refine⟨rfl,_,rfl,_,by simp [results,Tryz.results114,go_sem],rfl,rfl,h1.below (bl1 _ _),ae h2 (ab (bl1 _ _) _)⟩
theorem yq(B:Nat)(w:World):
  CallsD Tryz.prog 114 #[.pointer (some ⟨B,0,none⟩)] .returning w λx u' w'=>x= .returned (.tuple #[])/\u'= .returning/\w'=w:=by
 refine callsD_of_wpS Tryz.func114 rfl λc₀ cs hu=> ?_;apply wpS_seq;apply wpS_region;simp [wpOpsS,go_sem,recoverD,hu,Tryz.ntmps114,Exit.thenS];refine wpS_of_wp ?_;generalize hQ:(λ(e:Exit) (a':Act) (w':World)=>bodyPostS _ _ _ _ _ e a' _ w')=Q;simp only [Array.replicate_succ,Array.replicate_zero,List.push_toArray,List.append_toArray,List.nil_append,List.cons_append,List.setIfInBounds_toArray,List.set_cons_zero,List.set_cons_succ]
 go_wp2_with fail
 subst hQ;cases c₀;simp only at hu;subst hu;exact⟨rfl,_,rfl,_,by simp [results,Tryz.results114,go_sem],rfl,rfl,rfl⟩
theorem vN(B R:Nat)(v:Value)(p e fa e2 fa2:Int)(older:List PanicEntry)(w:World)(hB:CellsAt w B 95 #[.pointer (some ⟨R,0,none⟩)])(hR:CellsAt w R 127 (rdr v p e fa)):
  CallsD Tryz.prog 115 #[.pointer (some ⟨B,0,none⟩)] (.panicking (jq e2 fa2::older)) w λx u' w'=>
   x= .returned (.tuple #[])/\u'= .panicking ({jq e2 fa2 with recovered:=true}::older)/\CellsAt w' R 127 (rdr v p e2 fa2)/\w.grownBy w' (some R):=by
 have c0:w.cell? ⟨B,0,none⟩=some (.pointer (some ⟨R,0,none⟩)):=hB.cell 0;have c2:w.cell? ⟨R,2,none⟩=some (.int .i64 e):=hR.cell 2;have c3:w.cell? ⟨R,3,none⟩=some (.int .i64 fa):=hR.cell 3;have f2:=hR.frozen 2;have f3:=hR.frozen 3;have kB:Has w B:=hB.lt;have kR:Has w R:=hR.lt;refine callsD_of_wpS Tryz.func115 rfl λc₀ cs hu=> ?_;apply wpS_seq;apply wpS_region;simp [wpOpsS,go_sem,recoverD,hu,Tryz.ntmps115,Exit.thenS];refine wpS_of_wp ?_;generalize hQ:(λ(e:Exit) (a':Act) (w':World)=>bodyPostS _ _ _ _ _ e a' _ w')=Q;simp only [Array.replicate_succ,Array.replicate_zero,List.push_toArray,List.append_toArray,List.nil_append,List.cons_append,List.setIfInBounds_toArray,List.set_cons_zero,List.set_cons_succ]
 go_wp2_with fail
 subst hQ;have h1:=(hR.set 2 (.int .i64 e2)).set 3 (.int .i64 fa2);have h2:=ae (af w R 2 (.int .i64 e2)) (af _ R 3 (.int .i64 fa2));refine⟨rfl,_,rfl,_,by simp [results,Tryz.results115,go_sem],rfl,rfl,h1.below (bl1 _ _),ae h2 (ab (bl1 _ _) _)⟩
theorem Ac(B:Nat)(w:World):
  CallsD Tryz.prog 115 #[.pointer (some ⟨B,0,none⟩)] .returning w λx u' w'=>x= .returned (.tuple #[])/\u'= .returning/\w'=w:=by
 refine callsD_of_wpS Tryz.func115 rfl λc₀ cs hu=> ?_;apply wpS_seq;apply wpS_region;simp [wpOpsS,go_sem,recoverD,hu,Tryz.ntmps115,Exit.thenS];refine wpS_of_wp ?_;generalize hQ:(λ(e:Exit) (a':Act) (w':World)=>bodyPostS _ _ _ _ _ e a' _ w')=Q;simp only [Array.replicate_succ,Array.replicate_zero,List.push_toArray,List.append_toArray,List.nil_append,List.cons_append,List.setIfInBounds_toArray,List.set_cons_zero,List.set_cons_succ]
 go_wp2_with fail
 subst hQ;cases c₀;simp only at hu;subst hu;exact⟨rfl,_,rfl,_,by simp [results,Tryz.results115,go_sem],rfl,rfl,rfl⟩
end
noncomputable section
open Go.RowKit Go.Sort
theorem sZ:(Tryz.prog.info? 5).map (λi=>(i.zero,i.size,i.bytes))=some (some (.int .u8 0),1,1):=by kernel_rfl
theorem Hv:(Tryz.prog.info? 5).map (·.size)=some 1:=by kernel_rfl
def bZ(f:Nat->Int)(k:Nat):List Value:=(List.range k).map λi=> .int .u8 (f i)
theorem dp(f:Nat->Int)(k:Nat):(bZ f k).length=k:=by simp [bZ]
theorem gF(f:Nat->Int)(k j:Nat)(h:j<k):(bZ f k)[j]? =some (.int .u8 (f j)):=by simp [bZ,h]
theorem nd(f:Nat->Int)(k:Nat):∀v∈bZ f k,v.oneCell'=true:=by
 intro v hv;obtain⟨i,_,rfl⟩:=List.mem_map.1 hv;rfl
theorem tc{W:World}{g k:Nat}{t:TypeId}{f:Nat->Int}(h:CellsAt W g t (bZ f k).toArray)(hf:∀i,i<k->0<=f i/\f i<=255):Rd8 W (some ⟨g,0,none⟩) k f:=by
 intro i hi;refine⟨_,rfl,h.lt,?_,hf i hi⟩
 have:((⟨g,0,none⟩:Addr).add i)=⟨g,i,none⟩:=by unfold Addr.add;split<;>simp_all
 rw [this,h.cell i];simpa using gF f k i hi
set_option maxRecDepth 100000 in
set_option maxHeartbeats 1000000 in
theorem qc(a:Option Addr)(k c:Nat)(f:Nat->Int)(w:World)(hr:Rd8 w a k f)(hk:k<=100000)(hc:k<=c):
  Calls Tryz.prog 89 #[.slice a k c] w λe w'=>∃g,e= .returned (.slice (some ⟨g,0,none⟩) k k)/\w.heap.size<=g/\CellsAt w' g 5 (bZ f k).toArray/\Below w.heap.size w w':=by
 obtain⟨i0,hi0,hz0,hz1,hz2⟩:=info_parts sZ;have hmk:=run_makeSlice (P:=Tryz.prog) w 26 5 i0 (.int .u8 0) Tryz.underlying26 hi0 hz0 .i64 .i64 (k:Int) (k:Int) (by omega) (by omega) (by rw [hz1];simp;omega) (by rw [hz2];omega) (by omega);simp only [Int.toNat_natCast,hz1,Nat.mul_one]at hmk;have hsz:(madeCells (Value.int .u8 0).cells k).size=k:=size_madeCells _ _;generalize madeCells (Value.int .u8 0).cells k=cur at hmk hsz;have hcur:CellsAt (w.alloc (.cells cur 5)) w.heap.size 5 cur:=World.alloc_heap_new w _;have hb1:Below w.heap.size w (w.alloc (.cells cur 5)):=bl1 _ _;have hr1:Rd8 (w.alloc (.cells cur 5)) a k f:=hr.grown (ab hb1 none) (λ_ _=>by simp);obtain⟨cs,hcs⟩:∃cs,cs=bZ f k:=⟨_,rfl⟩;have hl:cs.length=k:=by rw [hcs];exact dp f k
 have h1:∀v∈cs,v.oneCell'=true:=by rw [hcs];exact nd f k
 have hsp:splice cur.toList 0 cs=cs:=by
  unfold splice;simp [hl,hsz]
 have hat:0<cs.length->∃ad,a=some ad/\∀j v,cs[j]? =some v->(w.alloc (.cells cur 5)).cell? (ad.add j)=some v:=by
  intro h0;obtain⟨b,hb,_⟩:=hr1 0 (by omega);refine⟨b,hb,λj v hj=> ?_⟩;have hj':j<k:=by have:=(List.getElem?_eq_some_iff.1 hj).1;omega
  obtain⟨b',hb',_,h2,_⟩:=hr1 j hj';rw [hb]at hb';cases hb';rw [hcs,gF f k j hj']at hj;cases hj;exact h2
 have hg0:(w.alloc (.cells cur 5)).heap[w.heap.size]? =some (.cells cur.toList.toArray 5 (0,0)):=by unfold CellsAt at hcur;simpa using hcur
 have hn0:cs.length=Nat.min k k:=by rw [hl];exact(Nat.min_self k).symm
 have hf0:0+cs.length<=cur.toList.length:=by simp [hl,hsz]
 have HCS:=Lib.hid hcs;clear hcs hr hr1
 go_enter Tryz.func89,Tryz.ntmps89
 go_wp2_with (refine wpList_copy_splice rfl (.tmp 7) (.tmp 8) 26 26 rfl 5 Tryz.underlying26 Hv _ _ _ _ _ _ rfl rfl w.heap.size 0 cur.toList 5 hg0 cs hn0 (λh0=>⟨rfl,hat h0⟩) hf0 h1 w.heap.size w hb1 (Nat.le_refl _) ?_;intro w2 HG2 hB2)
 go_ret
 exact⟨_,rfl,Nat.le_refl _,by have:=HG2.out;rw [hsp,HCS.out]at this;exact this,hB2⟩
end
noncomputable section
open Go.RowKit Go.Sort
def le(f:Nat->Int):Nat->Int
 |0=>0
 |n+1=>le f n+f n*2 ^(8*n)
theorem p8(n:Nat):(2:Int)^(8*(n+1))=2 ^(8*n)*256:=by
 rw [show 8*(n+1)=8*n+8 from rfl,Int.pow_add];rfl
theorem yr(n:Nat):(0:Int)<2 ^(8*n):=Int.pow_pos (by decide)
theorem iV(f:Nat->Int):∀(n:Nat),(∀i,i<n->0<=f i/\f i<=255)->0<=le f n/\le f n<2 ^(8*n):=by
 intro n
 induction n with
 |zero=>intro _;simp [le]
 |succ n ih=>
  intro h;have h1:=ih (λi hi=>h i (by omega));have h2:=h n (by omega);have h3:=yr n;have h4:0<=f n*2 ^(8*n):=Int.mul_nonneg h2.1 (by omega);have h5:f n*2 ^(8*n)<=255*2 ^(8*n):=Int.mul_le_mul_of_nonneg_right h2.2 (by omega);rw [p8];unfold le;omega
theorem Hw(n m:Nat)(h:n<=m):(2:Int)^(8*n)<=2 ^(8*m):=by
 induction m with
 |zero=>
  obtain rfl:n=0:=by omega
  exact Int.le_refl _
 |succ m ih=>
  by_cases e:n=m+1
  .rw [e];exact Int.le_refl _
  .have:=ih (by omega)
   have:=yr m
   rw [p8];omega
theorem Hx(f:Nat->Int)(n J:Nat)(hj:n+1<=J)(h:∀i,i<n+1->0<=f i/\f i<=255)(k:IntKind)(hk:∀m:Int,0<=m->m<2 ^(8*J)->k.wrap m=m)(hb:8*J<=k.bits):
  bits .or k (le f n) (f n*2 ^(8*n))=le f (n+1):=by
 have h1:=iV f n (λi hi=>h i (by omega));have h2:=h n (by omega);have h3:=yr n;have h4:0<=f n*2 ^(8*n):=Int.mul_nonneg h2.1 (by omega);have h6:=iV f (n+1) h;have h7:=Hw (n+1) J hj;have h8:le f (n+1)=le f n+f n*2 ^(8*n):=rfl;rw [h8];exact bits_join_low k (8*J) hb hk (8*n) _ _ h1.1 h1.2 (by omega) h4 (Int.mul_emod_left _ _) (by omega)
def lw(f:Nat->Int)(n:Nat):Int:=wrap64 (le f n)
theorem Hy(f:Nat->Int)(n:Nat)(hn:n<1)(h:∀i,i<n+1->0<=f i/\f i<=255):bits .or .u8 (le f n) (f n*2 ^(8*n)% 256)=le f (n+1):=by
 obtain rfl:n=0:=by omega
 have h0:=h 0 (by omega);rw [show f 0*2 ^(8*0)% 256=f 0*2 ^(8*0)by simp;omega];exact Hx f 0 1 (by omega) h .u8 (λm h0 h1=>by simp [IntKind.wrap,IntKind.bits,IntKind.signed];omega) (by decide)
theorem FH(f:Nat->Int)(n:Nat)(hn:n<4)(h:∀i,i<n+1->0<=f i/\f i<=255):bits .or .u32 (le f n) (f n*2 ^(8*n)% 4294967296)=le f (n+1):=by
 have h6:=iV f (n+1) h;have h1:=iV f n (λi hi=>h i (by omega));have h2:=h n (by omega);have h4:0<=f n*2 ^(8*n):=Int.mul_nonneg h2.1 (by have:=yr n;omega);have h7:(2:Int)^(8*(n+1))<=4294967296:=Hw (n+1) 4 (by omega);have h8:le f (n+1)=le f n+f n*2 ^(8*n):=rfl;rw [Int.emod_eq_of_lt h4 (by omega)];exact Hx f n 4 (by omega) h .u32 wraps_u32 (by decide)
theorem ou(x:Int):BitVec.ofInt 64 (wrap64 x)=BitVec.ofInt 64 x:=by
 apply BitVec.eq_of_toInt_eq;simp only [BitVec.toInt_ofInt,wrap64];simp [Int.bmod]
theorem FJ(f:Nat->Int)(n:Nat)(hn:n<8)(h:∀i,i<n+1->0<=f i/\f i<=255):bits .or .i64 (lw f n) (wrap64 (f n*2 ^(8*n)))=lw f (n+1):=by
 have e:IntKind.u64.wrap ((BitVec.ofInt 64 (le f n)|||BitVec.ofInt 64 (f n*2 ^(8*n))).toNat:Int)=le f (n+1):=Hx f n 8 (by omega) h .u64 wraps_u64 (by decide);show IntKind.i64.wrap ((BitVec.ofInt 64 (wrap64 (le f n))|||BitVec.ofInt 64 (wrap64 (f n*2 ^(8*n)))).toNat:Int)=wrap64 (le f (n+1));rw [ou,ou];generalize (BitVec.ofInt 64 (le f n)|||BitVec.ofInt 64 (f n*2 ^(8*n)))=b at e ⊢;have hb:=b.isLt;rw [IntKind.wrap_u64]at e;have e2:(b.toNat:Int)=le f (n+1):=by omega
 rw [e2];simp [IntKind.wrap,IntKind.bits,IntKind.signed,wrap64];split<;>omega
set_option maxRecDepth 100000 in
set_option maxHeartbeats 1000000 in
theorem Ad(a:Option Addr)(c:Nat)(f:Nat->Int)(w:World)(hr:Rd8 w a 1 f):
  Calls Tryz.prog 94 #[.slice a 1 c] w λe w'=>e= .returned (.int .u8 (le f 1))/\Below w.heap.size w w':=by
 go_enter Tryz.func94,Tryz.ntmps94
 go_wp2_with fail
 go_loopw [3,8] (λv z wr=>∃i:Nat,z= .int .i64 i/\i<=1/\v= .int .u8 (le f i)/\wr=w) (λ_ z _=>1 - (intOf z).toNat)
 case atStart=>
  exact⟨0,rfl,by omega,by simp [le],rfl⟩
 case round=>
  obtain⟨i,rfl,hi,rfl,rfl⟩:=hrel;by_cases hlt:i<1
  .have e1:=Hy f i hlt (λj hj=>by obtain⟨_,_,_,_,h⟩:=hr j (by omega);exact h);obtain⟨b,rfl,hb,cb,b0,b1⟩:=hr i hlt;have i0:(0:Int)<=(i:Int):=by omega
   have i4:(i:Int)<1:=by omega
   have E1:=Lib.hid e1;clear e1
   go_wp2_with fail
   refine⟨?_,by simp [intOf];omega⟩;exact⟨i+1,by simp,by omega,by rw [<-E1.out],trivial⟩
  .obtain rfl:i=1:=by omega
   go_wp2
   go_ret
   exact⟨rfl,Below.refl _ _⟩
set_option maxRecDepth 100000 in
set_option maxHeartbeats 1000000 in
theorem yu(a:Option Addr)(c:Nat)(f:Nat->Int)(w:World)(hr:Rd8 w a 4 f):
  Calls Tryz.prog 107 #[.slice a 4 c] w λe w'=>e= .returned (.int .u32 (le f 4))/\Below w.heap.size w w':=by
 go_enter Tryz.func107,Tryz.ntmps107
 go_wp2_with fail
 go_loopw [3,8] (λv z wr=>∃i:Nat,z= .int .i64 i/\i<=4/\v= .int .u32 (le f i)/\wr=w) (λ_ z _=>4 - (intOf z).toNat)
 case atStart=>
  exact⟨0,rfl,by omega,by simp [le],rfl⟩
 case round=>
  obtain⟨i,rfl,hi,rfl,rfl⟩:=hrel;by_cases hlt:i<4
  .have e1:=FH f i hlt (λj hj=>by obtain⟨_,_,_,_,h⟩:=hr j (by omega);exact h);obtain⟨b,rfl,hb,cb,b0,b1⟩:=hr i hlt;have i0:(0:Int)<=(i:Int):=by omega
   have i4:(i:Int)<4:=by omega
   have E1:=Lib.hid e1;clear e1
   go_wp2_with fail
   refine⟨?_,by simp [intOf];omega⟩;exact⟨i+1,by simp,by omega,by rw [<-E1.out],trivial⟩
  .obtain rfl:i=4:=by omega
   go_wp2
   go_ret
   exact⟨rfl,Below.refl _ _⟩
set_option maxRecDepth 100000 in
set_option maxHeartbeats 1000000 in
theorem yv(a:Option Addr)(c:Nat)(f:Nat->Int)(w:World)(hr:Rd8 w a 8 f):
  Calls Tryz.prog 98 #[.slice a 8 c] w λe w'=>e= .returned (.int .i64 (lw f 8))/\Below w.heap.size w w':=by
 go_enter Tryz.func98,Tryz.ntmps98
 go_wp2_with fail
 go_loopw [3,8] (λv z wr=>∃i:Nat,z= .int .i64 i/\i<=8/\v= .int .i64 (lw f i)/\wr=w) (λ_ z _=>8 - (intOf z).toNat)
 case atStart=>
  exact⟨0,rfl,by omega,by simp [le,lw,wrap64],rfl⟩
 case round=>
  obtain⟨i,rfl,hi,rfl,rfl⟩:=hrel;by_cases hlt:i<8
  .have e1:=FJ f i hlt (λj hj=>by obtain⟨_,_,_,_,h⟩:=hr j (by omega);exact h);obtain⟨b,rfl,hb,cb,b0,b1⟩:=hr i hlt;have i0:(0:Int)<=(i:Int):=by omega
   have i4:(i:Int)<8:=by omega
   have E1:=Lib.hid e1;clear e1
   go_wp2_with fail
   refine⟨?_,by simp [intOf];omega⟩;exact⟨i+1,by simp,by omega,by rw [<-E1.out],trivial⟩
  .obtain rfl:i=8:=by omega
   go_wp2
   go_ret
   exact⟨rfl,Below.refl _ _⟩
end
noncomputable section
open Go.RowKit Go.Sort
theorem FK(R:Nat)(v:Value)(p e fa n:Int)(w:World)(hR:CellsAt w R 127 (rdr v p e fa))(he:¬e=0):
  Calls Tryz.prog 93 #[.pointer (some ⟨R,0,none⟩),.int .i64 n,.func (.func 94) #[] #[]] w λx w'=>x= .returned (.int .u8 0)/\Below w.heap.size w w':=by
 have c2:w.cell? ⟨R,2,none⟩=some (.int .i64 e):=hR.cell 2;have kR:Has w R:=hR.lt;have hmf:∀(fn:Fn) (first cap:Array Value) (w:World),(Instr.makeFunc fn first cap).run Tryz.prog w= .ok (.func fn first cap) w:=λ_ _ _ _=>rfl
 go_enter_defers Tryz.func93,Tryz.ntmps93
 go_wp2_with fail
 exact⟨_,results_tmp rfl _ _ _,rfl,bl1 _ _⟩
theorem Ae(R:Nat)(a:Option Addr)(m c p:Nat)(fa n:Int)(w:World)(hR:CellsAt w R 127 (rdr (.slice a m c) p 0 fa))(hn:0<=n)(hp:p<=m)(hm:m<=9223372036854775807)(hs:(m:Int) - p<n):
  Calls Tryz.prog 93 #[.pointer (some ⟨R,0,none⟩),.int .i64 n,.func (.func 94) #[] #[]] w λx w'=>x= .returned (.int .u8 0)/\CellsAt w' R 127 (rdr (.slice a m c) p 2 m)/\w.grownBy w' (some R):=by
 have c2:w.cell? ⟨R,2,none⟩=some (.int .i64 0):=hR.cell 2;have kR:Has w R:=hR.lt;have hmf:∀(fn:Fn) (first cap:Array Value) (w:World),(Instr.makeFunc fn first cap).run Tryz.prog w= .ok (.func fn first cap) w:=λ_ _ _ _=>rfl
 go_enter_defers Tryz.func93,Tryz.ntmps93
 go_wp2_with fail
 have hR1:=hR.below (bl1 w (.cells #[.pointer (some ⟨R,0,none⟩)] 95));refine(jr R a m c p 0 fa n _ hR1 hn hp hm hs).mono ?_;rintro x w2 ⟨rfl,hb2⟩;have hB:=CellsAt.below (show CellsAt (w.alloc (.cells #[.pointer (some ⟨R,0,none⟩)] 95)) w.heap.size 95 #[.pointer (some ⟨R,0,none⟩)]from World.alloc_heap_new w _) hb2;have hR2:=hR1.below hb2;have hb3:Below w.heap.size w w2:=(bl1 w _).trans (hb2.mono (by simp));refine leaves_cons (f:=104) (args:=#[.pointer (some ⟨w.heap.size,0,none⟩)]) (by simp) (by simp [go_sem]) ?_;refine(vM w.heap.size R _ _ _ _ 2 m [] w2 hB hR2).mono ?_;rintro x u' w3 ⟨rfl,rfl,hR3,hg3⟩;exact⟨_,results_tmp rfl _ _ _,rfl,hR3,ae (ab hb3 _) hg3⟩
theorem Hz(R:Nat)(a:Option Addr)(m c p:Nat)(fa:Int)(f:Nat->Int)(w:World)(hR:CellsAt w R 127 (rdr (.slice a m c) p 0 fa))(hb:Rd8 w a m f)(hne:∀b,a=some b->b.block≠R)(hc:m<=c)(hm:m<=9223372036854775807)(hp:p+1<=m):
  Calls Tryz.prog 93 #[.pointer (some ⟨R,0,none⟩),.int .i64 1,.func (.func 94) #[] #[]] w λx w'=>x= .returned (.int .u8 (le (λi=>f (p+i)) 1))/\CellsAt w' R 127 (rdr (.slice a m c) (p+1:Nat) 0 fa)/\w.grownBy w' (some R):=by
 have c2:w.cell? ⟨R,2,none⟩=some (.int .i64 0):=hR.cell 2;have kR:Has w R:=hR.lt;have hmf:∀(fn:Fn) (first cap:Array Value) (w:World),(Instr.makeFunc fn first cap).run Tryz.prog w= .ok (.func fn first cap) w:=λ_ _ _ _=>rfl
 go_enter_defers Tryz.func93,Tryz.ntmps93
 go_wp2_with fail
 have hR1:=hR.below (bl1 w (.cells #[.pointer (some ⟨R,0,none⟩)] 95));have hb1:=hb.grown (ab (bl1 w (.cells #[.pointer (some ⟨R,0,none⟩)] 95)) none) (λ_ _=>by simp);refine(sb R a m c p 1 0 fa f _ hR1 hb1 hne hc hm hp).mono ?_;rintro x w2 ⟨a',c',rfl,hkc,hR3,hq,hg2⟩;have hg:=ae (ab (bl1 w (.cells #[.pointer (some ⟨R,0,none⟩)] 95)) (some R)) hg2
 go_wp2_with fail
 refine(Ad a' c' _ w2 hq).mono ?_;rintro x w4 ⟨rfl,hb4⟩
 go_wp2_with fail
 refine leaves_cons (f:=104) (args:=#[.pointer (some ⟨w.heap.size,0,none⟩)]) (by simp) (by simp [go_sem]) ?_;refine(Ab w.heap.size w4).mono ?_;rintro x u' w3 ⟨rfl,rfl,rfl⟩;exact⟨_,results_tmp rfl _ _ _,rfl,(hR3.below hb4),ae hg (ab hb4 _)⟩
theorem Cs(R:Nat)(v:Value)(p e fa n:Int)(w:World)(hR:CellsAt w R 127 (rdr v p e fa))(he:¬e=0):
  Calls Tryz.prog 106 #[.pointer (some ⟨R,0,none⟩),.int .i64 n,.func (.func 107) #[] #[]] w λx w'=>x= .returned (.int .u32 0)/\Below w.heap.size w w':=by
 have c2:w.cell? ⟨R,2,none⟩=some (.int .i64 e):=hR.cell 2;have kR:Has w R:=hR.lt;have hmf:∀(fn:Fn) (first cap:Array Value) (w:World),(Instr.makeFunc fn first cap).run Tryz.prog w= .ok (.func fn first cap) w:=λ_ _ _ _=>rfl
 go_enter_defers Tryz.func106,Tryz.ntmps106
 go_wp2_with fail
 exact⟨_,results_tmp rfl _ _ _,rfl,bl1 _ _⟩
theorem yw(R:Nat)(a:Option Addr)(m c p:Nat)(fa n:Int)(w:World)(hR:CellsAt w R 127 (rdr (.slice a m c) p 0 fa))(hn:0<=n)(hp:p<=m)(hm:m<=9223372036854775807)(hs:(m:Int) - p<n):
  Calls Tryz.prog 106 #[.pointer (some ⟨R,0,none⟩),.int .i64 n,.func (.func 107) #[] #[]] w λx w'=>x= .returned (.int .u32 0)/\CellsAt w' R 127 (rdr (.slice a m c) p 2 m)/\w.grownBy w' (some R):=by
 have c2:w.cell? ⟨R,2,none⟩=some (.int .i64 0):=hR.cell 2;have kR:Has w R:=hR.lt;have hmf:∀(fn:Fn) (first cap:Array Value) (w:World),(Instr.makeFunc fn first cap).run Tryz.prog w= .ok (.func fn first cap) w:=λ_ _ _ _=>rfl
 go_enter_defers Tryz.func106,Tryz.ntmps106
 go_wp2_with fail
 have hR1:=hR.below (bl1 w (.cells #[.pointer (some ⟨R,0,none⟩)] 95));refine(jr R a m c p 0 fa n _ hR1 hn hp hm hs).mono ?_;rintro x w2 ⟨rfl,hb2⟩;have hB:=CellsAt.below (show CellsAt (w.alloc (.cells #[.pointer (some ⟨R,0,none⟩)] 95)) w.heap.size 95 #[.pointer (some ⟨R,0,none⟩)]from World.alloc_heap_new w _) hb2;have hR2:=hR1.below hb2;have hb3:Below w.heap.size w w2:=(bl1 w _).trans (hb2.mono (by simp));refine leaves_cons (f:=116) (args:=#[.pointer (some ⟨w.heap.size,0,none⟩)]) (by simp) (by simp [go_sem]) ?_;refine(sW w.heap.size R _ _ _ _ 2 m [] w2 hB hR2).mono ?_;rintro x u' w3 ⟨rfl,rfl,hR3,hg3⟩;exact⟨_,results_tmp rfl _ _ _,rfl,hR3,ae (ab hb3 _) hg3⟩
theorem FM(R:Nat)(a:Option Addr)(m c p:Nat)(fa:Int)(f:Nat->Int)(w:World)(hR:CellsAt w R 127 (rdr (.slice a m c) p 0 fa))(hb:Rd8 w a m f)(hne:∀b,a=some b->b.block≠R)(hc:m<=c)(hm:m<=9223372036854775807)(hp:p+4<=m):
  Calls Tryz.prog 106 #[.pointer (some ⟨R,0,none⟩),.int .i64 4,.func (.func 107) #[] #[]] w λx w'=>x= .returned (.int .u32 (le (λi=>f (p+i)) 4))/\CellsAt w' R 127 (rdr (.slice a m c) (p+4:Nat) 0 fa)/\w.grownBy w' (some R):=by
 have c2:w.cell? ⟨R,2,none⟩=some (.int .i64 0):=hR.cell 2;have kR:Has w R:=hR.lt;have hmf:∀(fn:Fn) (first cap:Array Value) (w:World),(Instr.makeFunc fn first cap).run Tryz.prog w= .ok (.func fn first cap) w:=λ_ _ _ _=>rfl
 go_enter_defers Tryz.func106,Tryz.ntmps106
 go_wp2_with fail
 have hR1:=hR.below (bl1 w (.cells #[.pointer (some ⟨R,0,none⟩)] 95));have hb1:=hb.grown (ab (bl1 w (.cells #[.pointer (some ⟨R,0,none⟩)] 95)) none) (λ_ _=>by simp);refine(sb R a m c p 4 0 fa f _ hR1 hb1 hne hc hm hp).mono ?_;rintro x w2 ⟨a',c',rfl,hkc,hR3,hq,hg2⟩;have hg:=ae (ab (bl1 w (.cells #[.pointer (some ⟨R,0,none⟩)] 95)) (some R)) hg2
 go_wp2_with fail
 refine(yu a' c' _ w2 hq).mono ?_;rintro x w4 ⟨rfl,hb4⟩
 go_wp2_with fail
 refine leaves_cons (f:=116) (args:=#[.pointer (some ⟨w.heap.size,0,none⟩)]) (by simp) (by simp [go_sem]) ?_;refine(yp w.heap.size w4).mono ?_;rintro x u' w3 ⟨rfl,rfl,rfl⟩;exact⟨_,results_tmp rfl _ _ _,rfl,(hR3.below hb4),ae hg (ab hb4 _)⟩
theorem Ct(R:Nat)(v:Value)(p e fa n:Int)(w:World)(hR:CellsAt w R 127 (rdr v p e fa))(he:¬e=0):
  Calls Tryz.prog 97 #[.pointer (some ⟨R,0,none⟩),.int .i64 n,.func (.func 98) #[] #[]] w λx w'=>x= .returned (.int .i64 0)/\Below w.heap.size w w':=by
 have c2:w.cell? ⟨R,2,none⟩=some (.int .i64 e):=hR.cell 2;have kR:Has w R:=hR.lt;have hmf:∀(fn:Fn) (first cap:Array Value) (w:World),(Instr.makeFunc fn first cap).run Tryz.prog w= .ok (.func fn first cap) w:=λ_ _ _ _=>rfl
 go_enter_defers Tryz.func97,Tryz.ntmps97
 go_wp2_with fail
 exact⟨_,results_tmp rfl _ _ _,rfl,bl1 _ _⟩
theorem yx(R:Nat)(a:Option Addr)(m c p:Nat)(fa n:Int)(w:World)(hR:CellsAt w R 127 (rdr (.slice a m c) p 0 fa))(hn:0<=n)(hp:p<=m)(hm:m<=9223372036854775807)(hs:(m:Int) - p<n):
  Calls Tryz.prog 97 #[.pointer (some ⟨R,0,none⟩),.int .i64 n,.func (.func 98) #[] #[]] w λx w'=>x= .returned (.int .i64 0)/\CellsAt w' R 127 (rdr (.slice a m c) p 2 m)/\w.grownBy w' (some R):=by
 have c2:w.cell? ⟨R,2,none⟩=some (.int .i64 0):=hR.cell 2;have kR:Has w R:=hR.lt;have hmf:∀(fn:Fn) (first cap:Array Value) (w:World),(Instr.makeFunc fn first cap).run Tryz.prog w= .ok (.func fn first cap) w:=λ_ _ _ _=>rfl
 go_enter_defers Tryz.func97,Tryz.ntmps97
 go_wp2_with fail
 have hR1:=hR.below (bl1 w (.cells #[.pointer (some ⟨R,0,none⟩)] 95));refine(jr R a m c p 0 fa n _ hR1 hn hp hm hs).mono ?_;rintro x w2 ⟨rfl,hb2⟩;have hB:=CellsAt.below (show CellsAt (w.alloc (.cells #[.pointer (some ⟨R,0,none⟩)] 95)) w.heap.size 95 #[.pointer (some ⟨R,0,none⟩)]from World.alloc_heap_new w _) hb2;have hR2:=hR1.below hb2;have hb3:Below w.heap.size w w2:=(bl1 w _).trans (hb2.mono (by simp));refine leaves_cons (f:=114) (args:=#[.pointer (some ⟨w.heap.size,0,none⟩)]) (by simp) (by simp [go_sem]) ?_;refine(sY w.heap.size R _ _ _ _ 2 m [] w2 hB hR2).mono ?_;rintro x u' w3 ⟨rfl,rfl,hR3,hg3⟩;exact⟨_,results_tmp rfl _ _ _,rfl,hR3,ae (ab hb3 _) hg3⟩
theorem FN(R:Nat)(a:Option Addr)(m c p:Nat)(fa:Int)(f:Nat->Int)(w:World)(hR:CellsAt w R 127 (rdr (.slice a m c) p 0 fa))(hb:Rd8 w a m f)(hne:∀b,a=some b->b.block≠R)(hc:m<=c)(hm:m<=9223372036854775807)(hp:p+8<=m):
  Calls Tryz.prog 97 #[.pointer (some ⟨R,0,none⟩),.int .i64 8,.func (.func 98) #[] #[]] w λx w'=>x= .returned (.int .i64 (lw (λi=>f (p+i)) 8))/\CellsAt w' R 127 (rdr (.slice a m c) (p+8:Nat) 0 fa)/\w.grownBy w' (some R):=by
 have c2:w.cell? ⟨R,2,none⟩=some (.int .i64 0):=hR.cell 2;have kR:Has w R:=hR.lt;have hmf:∀(fn:Fn) (first cap:Array Value) (w:World),(Instr.makeFunc fn first cap).run Tryz.prog w= .ok (.func fn first cap) w:=λ_ _ _ _=>rfl
 go_enter_defers Tryz.func97,Tryz.ntmps97
 go_wp2_with fail
 have hR1:=hR.below (bl1 w (.cells #[.pointer (some ⟨R,0,none⟩)] 95));have hb1:=hb.grown (ab (bl1 w (.cells #[.pointer (some ⟨R,0,none⟩)] 95)) none) (λ_ _=>by simp);refine(sb R a m c p 8 0 fa f _ hR1 hb1 hne hc hm hp).mono ?_;rintro x w2 ⟨a',c',rfl,hkc,hR3,hq,hg2⟩;have hg:=ae (ab (bl1 w (.cells #[.pointer (some ⟨R,0,none⟩)] 95)) (some R)) hg2
 go_wp2_with fail
 refine(yv a' c' _ w2 hq).mono ?_;rintro x w4 ⟨rfl,hb4⟩
 go_wp2_with fail
 refine leaves_cons (f:=114) (args:=#[.pointer (some ⟨w.heap.size,0,none⟩)]) (by simp) (by simp [go_sem]) ?_;refine(yq w.heap.size w4).mono ?_;rintro x u' w3 ⟨rfl,rfl,rfl⟩;exact⟨_,results_tmp rfl _ _ _,rfl,(hR3.below hb4),ae hg (ab hb4 _)⟩
theorem Af(R:Nat)(a:Option Addr)(m c p:Nat)(fa n:Int)(w:World)(hR:CellsAt w R 127 (rdr (.slice a m c) p 0 fa))(hn:0<=n)(hp:p<=m)(hm:m<=9223372036854775807)(hs:(m:Int) - p<n):
  Calls Tryz.prog 103 #[.pointer (some ⟨R,0,none⟩),.int .i64 n,.func (.func 89) #[] #[]] w λx w'=>x= .returned (.slice none 0 0)/\CellsAt w' R 127 (rdr (.slice a m c) p 2 m)/\w.grownBy w' (some R):=by
 have c2:w.cell? ⟨R,2,none⟩=some (.int .i64 0):=hR.cell 2;have kR:Has w R:=hR.lt;have hmf:∀(fn:Fn) (first cap:Array Value) (w:World),(Instr.makeFunc fn first cap).run Tryz.prog w= .ok (.func fn first cap) w:=λ_ _ _ _=>rfl
 go_enter_defers Tryz.func103,Tryz.ntmps103
 go_wp2_with fail
 have hR1:=hR.below (bl1 w (.cells #[.pointer (some ⟨R,0,none⟩)] 95));refine(jr R a m c p 0 fa n _ hR1 hn hp hm hs).mono ?_;rintro x w2 ⟨rfl,hb2⟩;have hB:=CellsAt.below (show CellsAt (w.alloc (.cells #[.pointer (some ⟨R,0,none⟩)] 95)) w.heap.size 95 #[.pointer (some ⟨R,0,none⟩)]from World.alloc_heap_new w _) hb2;have hR2:=hR1.below hb2;have hb3:Below w.heap.size w w2:=(bl1 w _).trans (hb2.mono (by simp));refine leaves_cons (f:=115) (args:=#[.pointer (some ⟨w.heap.size,0,none⟩)]) (by simp) (by simp [go_sem]) ?_;refine(vN w.heap.size R _ _ _ _ 2 m [] w2 hB hR2).mono ?_;rintro x u' w3 ⟨rfl,rfl,hR3,hg3⟩;exact⟨_,results_tmp rfl _ _ _,rfl,hR3,ae (ab hb3 _) hg3⟩
theorem HD(R:Nat)(a:Option Addr)(m c p k:Nat)(fa:Int)(f:Nat->Int)(w:World)(hR:CellsAt w R 127 (rdr (.slice a m c) p 0 fa))(hb:Rd8 w a m f)(hne:∀b,a=some b->b.block≠R)(hc:m<=c)(hm:m<=9223372036854775807)(hp:p+k<=m)(hk:k<=100000):
  Calls Tryz.prog 103 #[.pointer (some ⟨R,0,none⟩),.int .i64 (k:Nat),.func (.func 89) #[] #[]] w λx w'=>∃g,x= .returned (.slice (some ⟨g,0,none⟩) k k)/\w.heap.size<=g/\CellsAt w' g 5 (bZ (λi=>f (p+i)) k).toArray/\CellsAt w' R 127 (rdr (.slice a m c) (p+k:Nat) 0 fa)/\w.grownBy w' (some R):=by
 have c2:w.cell? ⟨R,2,none⟩=some (.int .i64 0):=hR.cell 2;have kR:Has w R:=hR.lt;have hmf:∀(fn:Fn) (first cap:Array Value) (w:World),(Instr.makeFunc fn first cap).run Tryz.prog w= .ok (.func fn first cap) w:=λ_ _ _ _=>rfl
 go_enter_defers Tryz.func103,Tryz.ntmps103
 go_wp2_with fail
 have hR1:=hR.below (bl1 w (.cells #[.pointer (some ⟨R,0,none⟩)] 95));have hb1:=hb.grown (ab (bl1 w (.cells #[.pointer (some ⟨R,0,none⟩)] 95)) none) (λ_ _=>by simp);refine(sb R a m c p k 0 fa f _ hR1 hb1 hne hc hm hp).mono ?_;rintro x w2 ⟨a',c',rfl,hkc,hR3,hq,hg2⟩;have hg:=ae (ab (bl1 w (.cells #[.pointer (some ⟨R,0,none⟩)] 95)) (some R)) hg2
 go_wp2_with fail
 refine(qc a' k c' _ w2 hq (by omega) hkc).mono ?_;rintro x w4 ⟨g,rfl,hg0,hgc,hb4⟩
 go_wp2_with fail
 refine leaves_cons (f:=115) (args:=#[.pointer (some ⟨w.heap.size,0,none⟩)]) (by simp) (by simp [go_sem]) ?_;refine(Ac w.heap.size w4).mono ?_;rintro x u' w3 ⟨rfl,rfl,rfl⟩;exact⟨_,results_tmp rfl _ _ _,g,rfl,Nat.le_trans hg.size hg0,hgc,(hR3.below hb4),ae hg (ab hb4 _)⟩
end
noncomputable section
open Go.RowKit Go.Sort
def cP(e:Int)(m p:Nat)(n:Int):Bool:=decide (e=0/\0<=n/\n<=(m:Int) - p)
def nE(e:Int)(m p:Nat)(n:Int):Int:=if e=0 then(if n<0 then 3 else if(m:Int) - p<n then 2 else 0)else e
def nF(fa e:Int)(m p:Nat)(n:Int):Int:=if e=0 then(if n<0 then p else if(m:Int) - p<n then m else fa)else fa
def nP(e:Int)(m p:Nat)(n:Int):Nat:=if cP e m p n=true then p+n.toNat else p
theorem OJ{e:Int}{m p:Nat}{n:Int}(h:e=0)(h0:0<=n)(h1:n<=(m:Int) - p):cP e m p n=true:=decide_eq_true ⟨h,h0,h1⟩
theorem Cu{e:Int}{m p:Nat}{n:Int}(h:¬(e=0/\0<=n/\n<=(m:Int) - p)):cP e m p n=false:=decide_eq_false h
theorem kf{e:Int}(fa:Int)(m p:Nat)(n:Int)(h:¬e=0):cP e m p n=false/\nE e m p n=e/\nF fa e m p n=fa/\nP e m p n=p:=by
 have g:=Cu (e:=e) (m:=m) (p:=p) (n:=n) (λhh=>h hh.1);exact⟨g,by unfold nE;rw [if_neg h],by unfold nF;rw [if_neg h],by unfold nP;rw [g];simp⟩
theorem OK(fa:Int)(m p:Nat)(n:Int)(h:n<0):cP 0 m p n=false/\nE 0 m p n=3/\nF fa 0 m p n=p/\nP 0 m p n=p:=by
 have g:=Cu (e:=0) (m:=m) (p:=p) (n:=n) (λhh=>by omega);exact⟨g,by unfold nE;rw [if_pos rfl,if_pos h],by unfold nF;rw [if_pos rfl,if_pos h],by unfold nP;rw [g];simp⟩
theorem dA(fa:Int)(m p:Nat)(n:Int)(h0:0<=n)(h:(m:Int) - p<n):cP 0 m p n=false/\nE 0 m p n=2/\nF fa 0 m p n=m/\nP 0 m p n=p:=by
 have g:=Cu (e:=0) (m:=m) (p:=p) (n:=n) (λhh=>by omega);exact⟨g,by unfold nE;rw [if_pos rfl,if_neg (by omega),if_pos h],by unfold nF;rw [if_pos rfl,if_neg (by omega),if_pos h],by unfold nP;rw [g];simp⟩
theorem iW(fa:Int)(m p:Nat)(n:Int)(h0:0<=n)(h:n<=(m:Int) - p):cP 0 m p n=true/\nE 0 m p n=0/\nF fa 0 m p n=fa/\nP 0 m p n=p+n.toNat:=by
 have g:=OJ (e:=0) (m:=m) (p:=p) (n:=n) rfl h0 h;exact⟨g,by unfold nE;rw [if_pos rfl,if_neg (by omega),if_neg (by omega)],by unfold nF;rw [if_pos rfl,if_neg (by omega),if_neg (by omega)],by unfold nP;rw [g];simp⟩
theorem FO(R:Nat)(a:Option Addr)(m c p:Nat)(e fa:Int)(f:Nat->Int)(w:World)(hR:CellsAt w R 127 (rdr (.slice a m c) p e fa))(hb:Rd8 w a m f)(hne:∀b,a=some b->b.block≠R)(hc:m<=c)(hm:m<=100000)(hp:p<=m):
  Calls Tryz.prog 93 #[.pointer (some ⟨R,0,none⟩),.int .i64 1,.func (.func 94) #[] #[]] w λx w'=>x= .returned (.int .u8 (if cP e m p 1=true then le (λi=>f (p+i)) 1 else 0))/\CellsAt w' R 127 (rdr (.slice a m c) (nP e m p 1) (nE e m p 1) (nF fa e m p 1))/\w.grownBy w' (some R):=by
 by_cases he:e=0
 .subst he;by_cases hs:(m:Int) - p<1
  .obtain⟨s1,s2,s3,s4⟩:=dA fa m p 1 (by decide) hs;rw [s1,s2,s3,s4];exact Ae R a m c p fa 1 w hR (by decide) hp (by omega) hs
  .obtain⟨s1,s2,s3,s4⟩:=iW fa m p 1 (by decide) (by omega);rw [s1,s2,s3,s4];exact Hz R a m c p fa f w hR hb hne hc (by omega) (by omega)
 .obtain⟨s1,s2,s3,s4⟩:=kf fa m p 1 he;rw [s1,s2,s3,s4];exact(FK R _ _ e fa 1 w hR he).mono λx w' ⟨h1,h2⟩=>⟨h1,hR.below h2,ab h2 _⟩
theorem Eb(R:Nat)(a:Option Addr)(m c p:Nat)(e fa:Int)(f:Nat->Int)(w:World)(hR:CellsAt w R 127 (rdr (.slice a m c) p e fa))(hb:Rd8 w a m f)(hne:∀b,a=some b->b.block≠R)(hc:m<=c)(hm:m<=100000)(hp:p<=m):
  Calls Tryz.prog 66 #[.pointer (some ⟨R,0,none⟩)] w λx w'=>x= .returned (.int .u8 (if cP e m p 1=true then le (λi=>f (p+i)) 1 else 0))/\CellsAt w' R 127 (rdr (.slice a m c) (nP e m p 1) (nE e m p 1) (nF fa e m p 1))/\w.grownBy w' (some R):=by
 have H:=Lib.hid (FO R a m c p e fa f w hR hb hne hc hm hp);clear hR hb hne;obtain⟨V,hV⟩:∃V,V=(if cP e m p 1=true then le (λi=>f (p+i)) 1 else 0):=⟨_,rfl⟩;rw [<-hV]at H ⊢;clear hV
 go_enter Tryz.func66,Tryz.ntmps66
 go_wp2_with fail
 refine H.out.mono ?_;rintro x w' ⟨rfl,h1,h2⟩
 go_wp2
 go_ret
 exact⟨rfl,h1,h2⟩
theorem Cv(R:Nat)(a:Option Addr)(m c p:Nat)(e fa:Int)(f:Nat->Int)(w:World)(hR:CellsAt w R 127 (rdr (.slice a m c) p e fa))(hb:Rd8 w a m f)(hne:∀b,a=some b->b.block≠R)(hc:m<=c)(hm:m<=100000)(hp:p<=m):
  Calls Tryz.prog 106 #[.pointer (some ⟨R,0,none⟩),.int .i64 4,.func (.func 107) #[] #[]] w λx w'=>x= .returned (.int .u32 (if cP e m p 4=true then le (λi=>f (p+i)) 4 else 0))/\CellsAt w' R 127 (rdr (.slice a m c) (nP e m p 4) (nE e m p 4) (nF fa e m p 4))/\w.grownBy w' (some R):=by
 by_cases he:e=0
 .subst he;by_cases hs:(m:Int) - p<4
  .obtain⟨s1,s2,s3,s4⟩:=dA fa m p 4 (by decide) hs;rw [s1,s2,s3,s4];exact yw R a m c p fa 4 w hR (by decide) hp (by omega) hs
  .obtain⟨s1,s2,s3,s4⟩:=iW fa m p 4 (by decide) (by omega);rw [s1,s2,s3,s4];exact FM R a m c p fa f w hR hb hne hc (by omega) (by omega)
 .obtain⟨s1,s2,s3,s4⟩:=kf fa m p 4 he;rw [s1,s2,s3,s4];exact(Cs R _ _ e fa 4 w hR he).mono λx w' ⟨h1,h2⟩=>⟨h1,hR.below h2,ab h2 _⟩
theorem tf(R:Nat)(a:Option Addr)(m c p:Nat)(e fa:Int)(f:Nat->Int)(w:World)(hR:CellsAt w R 127 (rdr (.slice a m c) p e fa))(hb:Rd8 w a m f)(hne:∀b,a=some b->b.block≠R)(hc:m<=c)(hm:m<=100000)(hp:p<=m):
  Calls Tryz.prog 95 #[.pointer (some ⟨R,0,none⟩)] w λx w'=>x= .returned (.int .u32 (if cP e m p 4=true then le (λi=>f (p+i)) 4 else 0))/\CellsAt w' R 127 (rdr (.slice a m c) (nP e m p 4) (nE e m p 4) (nF fa e m p 4))/\w.grownBy w' (some R):=by
 have H:=Lib.hid (Cv R a m c p e fa f w hR hb hne hc hm hp);clear hR hb hne;obtain⟨V,hV⟩:∃V,V=(if cP e m p 4=true then le (λi=>f (p+i)) 4 else 0):=⟨_,rfl⟩;rw [<-hV]at H ⊢;clear hV
 go_enter Tryz.func95,Tryz.ntmps95
 go_wp2_with fail
 refine H.out.mono ?_;rintro x w' ⟨rfl,h1,h2⟩
 go_wp2
 go_ret
 exact⟨rfl,h1,h2⟩
theorem Cw(R:Nat)(a:Option Addr)(m c p:Nat)(e fa:Int)(f:Nat->Int)(w:World)(hR:CellsAt w R 127 (rdr (.slice a m c) p e fa))(hb:Rd8 w a m f)(hne:∀b,a=some b->b.block≠R)(hc:m<=c)(hm:m<=100000)(hp:p<=m):
  Calls Tryz.prog 97 #[.pointer (some ⟨R,0,none⟩),.int .i64 8,.func (.func 98) #[] #[]] w λx w'=>x= .returned (.int .i64 (if cP e m p 8=true then lw (λi=>f (p+i)) 8 else 0))/\CellsAt w' R 127 (rdr (.slice a m c) (nP e m p 8) (nE e m p 8) (nF fa e m p 8))/\w.grownBy w' (some R):=by
 by_cases he:e=0
 .subst he;by_cases hs:(m:Int) - p<8
  .obtain⟨s1,s2,s3,s4⟩:=dA fa m p 8 (by decide) hs;rw [s1,s2,s3,s4];exact yx R a m c p fa 8 w hR (by decide) hp (by omega) hs
  .obtain⟨s1,s2,s3,s4⟩:=iW fa m p 8 (by decide) (by omega);rw [s1,s2,s3,s4];exact FN R a m c p fa f w hR hb hne hc (by omega) (by omega)
 .obtain⟨s1,s2,s3,s4⟩:=kf fa m p 8 he;rw [s1,s2,s3,s4];exact(Ct R _ _ e fa 8 w hR he).mono λx w' ⟨h1,h2⟩=>⟨h1,hR.below h2,ab h2 _⟩
theorem HF(R:Nat)(a:Option Addr)(m c p:Nat)(e fa:Int)(f:Nat->Int)(w:World)(hR:CellsAt w R 127 (rdr (.slice a m c) p e fa))(hb:Rd8 w a m f)(hne:∀b,a=some b->b.block≠R)(hc:m<=c)(hm:m<=100000)(hp:p<=m):
  Calls Tryz.prog 80 #[.pointer (some ⟨R,0,none⟩)] w λx w'=>x= .returned (.int .i64 (if cP e m p 8=true then lw (λi=>f (p+i)) 8 else 0))/\CellsAt w' R 127 (rdr (.slice a m c) (nP e m p 8) (nE e m p 8) (nF fa e m p 8))/\w.grownBy w' (some R):=by
 have H:=Lib.hid (Cw R a m c p e fa f w hR hb hne hc hm hp);clear hR hb hne;obtain⟨V,hV⟩:∃V,V=(if cP e m p 8=true then lw (λi=>f (p+i)) 8 else 0):=⟨_,rfl⟩;rw [<-hV]at H ⊢;clear hV
 go_enter Tryz.func80,Tryz.ntmps80
 go_wp2_with fail
 refine H.out.mono ?_;rintro x w' ⟨rfl,h1,h2⟩
 go_wp2
 go_ret
 exact⟨rfl,h1,h2⟩
theorem fY(w:World)(a:Option Addr)(f:Nat->Int):Rd8 w a 0 f:=λi hi=>absurd hi (Nat.not_lt_zero _)
end
noncomputable section
open Go.RowKit Go.Sort
theorem lC(R:Nat)(v:Value)(p:Nat)(e fa:Int)(w:World)(hR:CellsAt w R 127 (rdr v p e fa)):
  Calls Tryz.prog 64 #[.pointer (some ⟨R,0,none⟩)] w λx w'=>x= .returned (.int .i64 p)/\Below w.heap.size w w':=by
 have c1:w.cell? ⟨R,1,none⟩=some (.int .i64 p):=hR.cell 1
 go_enter Tryz.func64,Tryz.ntmps64
 go_wp2
 go_ret
 exact⟨rfl,Below.refl _ _⟩
theorem sd(R:Nat)(a:Option Addr)(m c p:Nat)(fa:Int)(w:World)(hR:CellsAt w R 127 (rdr (.slice a m c) p 0 fa))(b:Bool)(hbp:b=decide (p=m)):
  Calls Tryz.prog 63 #[.pointer (some ⟨R,0,none⟩)] w λx w'=>x= .returned (.bool b)/\Below w.heap.size w w':=by
 have c0:w.cell? ⟨R,0,none⟩=some (.slice a m c):=hR.cell 0;have c1:w.cell? ⟨R,1,none⟩=some (.int .i64 p):=hR.cell 1;have c2:w.cell? ⟨R,2,none⟩=some (.int .i64 0):=hR.cell 2;have kR:Has w R:=hR.lt;have b1:((p:Int)==(m:Int))=b:=by rw [hbp];by_cases h:p=m<;>simp [h]<;>omega
 clear hbp;have HB:=Lib.hid b1;clear b1
 go_enter Tryz.func63,Tryz.ntmps63
 go_wp2_with fail
 refine wp_region_quiet_below (by kernel_rfl) (by kernel_rfl) ?_
 repeat (go_big_quiet_step (fail))
 refine wpQuiet_nil ?_;rintro _ ⟨⟨d2,o2⟩,rfl⟩
 go_wp2_with fail
 go_ret
 exact⟨by rw [<-HB.out];rfl,(by repeat (first|with_reducible refine blg ?_ _ _|with_reducible refine bla ?_ _|with_reducible exact Below.refl _ _))⟩
theorem nf(R:Nat)(v:Value)(p:Nat)(e fa:Int)(w:World)(hR:CellsAt w R 127 (rdr v p e fa)):
  Calls Tryz.prog 91 #[.pointer (some ⟨R,0,none⟩)] w λx w'=>x= .returned (.agg #[.int .i64 e,.int .i64 fa])/\Below w.heap.size w w':=by
 have c2:w.cell? ⟨R,2,none⟩=some (.int .i64 e):=hR.cell 2;have c3:w.cell? ⟨R,3,none⟩=some (.int .i64 fa):=hR.cell 3;have kR:Has w R:=hR.lt
 go_enter Tryz.func91,Tryz.ntmps91
 go_wp2
 refine bodyPost_ret (v:= .agg #[.int .i64 e,.int .i64 fa]) ?_ rfl ⟨rfl,(by repeat (first|with_reducible refine blg ?_ _ _|with_reducible refine bla ?_ _|with_reducible exact Below.refl _ _))⟩;simp [results,Tryz.results91,go_sem]
theorem FP(R:Nat)(v:Value)(p:Nat)(e fa e2 f2:Int)(w:World)(hR:CellsAt w R 127 (rdr v p e fa))(he:¬(e=0/\¬e2=0)):
  Calls Tryz.prog 90 #[.pointer (some ⟨R,0,none⟩),.int .i64 e2,.int .i64 f2] w λx w'=>x= .returned (.tuple #[])/\Below w.heap.size w w':=by
 by_cases h:e=0
 .obtain rfl:e2=0:=Classical.byContradiction λhh=>he ⟨h,hh⟩;subst h;clear he;have c2:w.cell? ⟨R,2,none⟩=some (.int .i64 0):=hR.cell 2
  go_enter Tryz.func90,Tryz.ntmps90
  go_wp2_with fail
  go_end0
  exact⟨rfl,(by repeat (first|with_reducible refine blg ?_ _ _|with_reducible refine bla ?_ _|with_reducible exact Below.refl _ _))⟩
 .have he:=h;clear h;have b1:(e==0)=false:=by simpa using he
  have c2:w.cell? ⟨R,2,none⟩=some (.int .i64 e):=hR.cell 2
  go_enter Tryz.func90,Tryz.ntmps90
  go_wp2_with fail
  go_end0
  exact⟨rfl,(by repeat (first|with_reducible refine blg ?_ _ _|with_reducible refine bla ?_ _|with_reducible exact Below.refl _ _))⟩
theorem HH(R:Nat)(v:Value)(p:Nat)(fa e2 f2:Int)(w:World)(hR:CellsAt w R 127 (rdr v p 0 fa))(he:¬e2=0):
  Calls Tryz.prog 90 #[.pointer (some ⟨R,0,none⟩),.int .i64 e2,.int .i64 f2] w λx w'=>x= .returned (.tuple #[])/\CellsAt w' R 127 (rdr v p e2 f2)/\w.grownBy w' (some R):=by
 have c2:w.cell? ⟨R,2,none⟩=some (.int .i64 0):=hR.cell 2;have b1:(e2 !=0)=true:=by simpa using he
 have c3:w.cell? ⟨R,3,none⟩=some (.int .i64 fa):=hR.cell 3;have f2':=hR.frozen 2;have f3':=hR.frozen 3;have kR:Has w R:=hR.lt
 go_enter Tryz.func90,Tryz.ntmps90
 go_wp2_with fail
 have h1:=(hR.set 2 (.int .i64 e2)).set 3 (.int .i64 f2);have h2:=ae (af w R 2 (.int .i64 e2)) (af _ R 3 (.int .i64 f2))
 go_end0
 exact⟨rfl,h1,h2⟩
end
noncomputable section
open Go.RowKit Go.Sort
abbrev ldr(R:Nat):Value:= .agg #[.pointer (some ⟨R,0,none⟩)]
abbrev fZ(e fa:Int):PanicEntry:={v:= .iface 93 (.agg #[.int .i64 e,.int .i64 fa]),recovered:=false}
theorem eU{w w1:World}{a:Obj}(h:Below (w.alloc a).heap.size (w.alloc a) w1):Below w.heap.size w w1:=
 (bl1 w a).trans (h.mono (by simp))
theorem fJ(R:Nat)(v:Value)(p:Nat)(fa e2 f2:Int)(w:World)(hR:CellsAt w R 127 (rdr v p 0 fa)):
  Calls Tryz.prog 62 #[ldr R,.bool false,.int .i64 e2,.int .i64 f2] w λx w'=>x= .returned (.tuple #[])/\Below w.heap.size w w':=by
 have H:=Lib.hid (λw (h:CellsAt w R 127 (rdr v p 0 fa))=>nf R v p 0 fa w h)
 go_enter Tryz.func62,Tryz.ntmps62
 go_wp2_with fail
 refine(H.out _ (hR.below (by repeat (first|with_reducible refine blg ?_ _ _|with_reducible refine bla ?_ _|with_reducible exact Below.refl _ _)))).mono ?_;rintro x w1 ⟨rfl,h1⟩
 go_wp2_with fail
 go_end0
 exact⟨rfl,(eU h1).alloc (eU h1).size _⟩
theorem gO(R:Nat)(v:Value)(p:Nat)(e fa e2 f2:Int)(b:Bool)(w:World)(hR:CellsAt w R 127 (rdr v p e fa))(he:¬e=0):
  Calls Tryz.prog 62 #[ldr R,.bool b,.int .i64 e2,.int .i64 f2] w λx w'=>x= .panicked [fZ e fa]/\Below w.heap.size w w':=by
 have H:=Lib.hid (λw (h:CellsAt w R 127 (rdr v p e fa))=>nf R v p e fa w h);have G:=Lib.hid (λw (h:CellsAt w R 127 (rdr v p e fa))=>FP R v p e fa e2 f2 w h (λh=>he h.1));have b1:(e !=0)=true:=by simpa using he
 go_enter Tryz.func62,Tryz.ntmps62
 cases b
 .go_wp2_with fail
  refine(H.out _ (hR.below (by repeat (first|with_reducible refine blg ?_ _ _|with_reducible refine bla ?_ _|with_reducible exact Below.refl _ _)))).mono ?_;rintro x w1 ⟨rfl,h1⟩
  go_wp2_with fail
  exact⟨rfl,rfl,(eU h1).alloc (eU h1).size _⟩
 .go_wp2_with fail
  have hR0:=hR.below (bl1 w (Obj.cells #[Value.pointer (some {block:=R,off:=0})] 98));refine(G.out _ hR0).mono ?_;rintro x w1 ⟨rfl,h0⟩;have c0:w1.cell? ⟨w.heap.size,0,none⟩=some (.pointer (some ⟨R,0,none⟩)):=(h0.cell (by simp)).trans (by simp [go_sem])
  go_wp2_with fail
  refine(H.out _ (hR0.below h0)).mono ?_;rintro x w2 ⟨rfl,h1⟩
  go_wp2_with fail
  exact⟨rfl,rfl,((eU h0).trans (h1.mono (eU h0).size)).alloc ((eU h0).trans (h1.mono (eU h0).size)).size _⟩
theorem gG(R:Nat)(v:Value)(p:Nat)(fa e2 f2:Int)(w:World)(hR:CellsAt w R 127 (rdr v p 0 fa))(he:¬e2=0):
  Calls Tryz.prog 62 #[ldr R,.bool true,.int .i64 e2,.int .i64 f2] w λx w'=>x= .panicked [fZ e2 f2]/\w.grownBy w' (some R):=by
 have H:=Lib.hid (λw (h:CellsAt w R 127 (rdr v p e2 f2))=>nf R v p e2 f2 w h);have G:=Lib.hid (λw (h:CellsAt w R 127 (rdr v p 0 fa))=>HH R v p fa e2 f2 w h he);have b1:(e2 !=0)=true:=by simpa using he
 have kR:R<w.heap.size:=hR.lt
 go_enter Tryz.func62,Tryz.ntmps62
 go_wp2_with fail
 have hR0:=hR.below (bl1 w (Obj.cells #[Value.pointer (some {block:=R,off:=0})] 98));refine(G.out _ hR0).mono ?_;rintro x w1 ⟨rfl,h2,h0⟩;have h00:w.grownBy w1 (some R):=ae (ab (bl1 w (Obj.cells #[Value.pointer (some {block:=R,off:=0})] 98)) _) h0;have c0:w1.cell? ⟨w.heap.size,0,none⟩=some (.pointer (some ⟨R,0,none⟩)):=(World.cell?_of_block (h0.block w.heap.size (by simp) (by simp;omega))).trans (by simp [go_sem])
 go_wp2_with fail
 refine(H.out _ h2).mono ?_;rintro x w2 ⟨rfl,h1⟩
 go_wp2_with fail
 exact⟨rfl,rfl,ae h00 (ab (h1.alloc h1.size _) _)⟩
end
end Go.Proofs.YtoamaaicfjkmhaaGreat
