/- Texts of a claim, joined. -/
import Derived.Test.YtjjbpdldbdmoeaaGreatDoorZP18
set_option linter.unusedVariables false
set_option linter.unusedSimpArgs false
namespace Go.Proofs.YtjjbpdldbdmoeaaGreatDoor
noncomputable section
namespace Ev
open Go
set_option maxRecDepth 100000
set_option maxHeartbeats 1000000
attribute [local irreducible] eO StL TnL WpL ew
def ji(a0:Int×(Int×Int)×(Sl (Int×Int×Int))×(Sl (Int×Int))×(Sl (Int×Int))×Sl (Int)×Bool):Option (Bool):=
 match a0 with
 |(n1,(n2,n3),s4,s5,s6,s7,b8)=>((cO n1).bind λn11=>((cQ (n1,(n2,n3),s4,s5,s6,s7,b8)).bind λ(n26,n27,s28,s29,s30)=>((cR (n1,(n2,n3),s4,s5,s6,s7,b8) s5).bind λ(n32,s33)=>((dS (n1,(n2,n3),s4,s5,s6,s7,b8)).bind λs35=>((vR (n26,n27,s28,s29,s30)).bind λ(n38,n39,s40,s41,s42,s43)=>((pd n11 (n38,n39,s40,s41,s42,s43) (n32,s33) s35 b8).bind λ(s45,n46)=>((pf (n32,s33)).bind λ(n48,s49,s50)=>((pg n11 (n26,n27,s28,s29,s30) (n48,s49,s50) s35 b8).bind λ(s52,n53)=>((FL).bind λb55=>(if b55=true then(if n46=0 then(if n53=0 then((eC s45 s52).bind λb59=>some b59)else some false)else some false)else some false))))))))))
theorem vS(m:Nat){a0:Int×(Int×Int)×(Sl (Int×Int×Int))×(Sl (Int×Int))×(Sl (Int×Int))×Sl (Int)×Bool}{out:Bool}(h:ji a0=some out):RunsP E1 (m+7) 3 [.agg (r27 a0)] (.fresh,[.one (bT out)]):=by
 obtain⟨n1,⟨n2,n3⟩,s4,s5,s6,s7,b8⟩:=a0;refine pA rfl (by rw [cS];exact show bB Tryz.prog 3=_ by unfold bB;rw [Tryz.func3];unfold Tryz.f3;rfl) rfl ?_;dsimp only;unfold ji at h;refine lS (lO ?_);refine aA rfl rfl rfl (fq Yr rfl (cs:= [iI n1,iC .u8 n2,iC .u8 n3,sF r92 s4,sF r57 s5,sF r57 s6,sF r67 s7,bC b8]) rfl rfl) (λk9=> ?_);refine pq (qa bf) ?_;refine oN ?_;refine pq (ai rfl MI rfl) ?_;refine pq (ql (iO n1) 0 xq) ?_;obtain⟨n11,h10,h⟩:=av h;refine pq (qc (iO n11) [iO n1] (oo (m+5) h10) (af (ar aG) aw)) ?_;refine pq (qa (iO n11)) ?_;refine oE (eS (lS ?_));refine gF (L2:=([[(k9,8,[[iI n1,iC .u8 n2,iC .u8 n3,sF r92 s4,sF r57 s5,sF r57 s6,sF r67 s7,bC b8]])]]:BL)) [0] (by decide) rfl ?_;refine gE 13 rfl [[],[],[],[],[],[],[],[],[],[],[],[],[]] [(false,[]),(false,[]),(false,[]),(false,[]),(false,[]),(false,[]),(false,[]),(false,[]),(true,[]),(true,[]),(false,[8]),(false,[9]),(false,[])] [[2,3,4,6,8,9],[2,3,4,6,8,9],[0,1,3,4,6,8,9],[0,1,2,6,8,9],[0,1,2,6,8,9],[6,8,9],[0,1,2,3,4,5,8,9],[8,9],[0,1,2,3,4,5,6,7,9],[0,1,2,3,4,5,6,7,8],[],[],[]] (by kernel_rfl) (by kernel_rfl) (by kernel_rfl) ?_ (λbb12 hlt hnd=> ?_);intro bb12 hlt hnd;exact⟨⟨djE,⟨djE,⟨djE,⟨djE,⟨djE,⟨djE,⟨djE,⟨djE,⟨djE,⟨djE,⟨djE,⟨djE,⟨djE,trivial⟩⟩⟩⟩⟩⟩⟩⟩⟩⟩⟩⟩⟩,(ah al (ah al (ah al (ah al (ah al (ah al (ah al (ah al (ah al (ah al (ah al (ah al (ah al gI)))))))))))))⟩;refine tq [0] rfl (hmc (dA (ay (an hlt 0 rfl)) (dA (ay (an hlt 0 rfl)) fY)) hmn) (ql (.agg [iI n1,iC .u8 n2,iC .u8 n3,sF r92 s4,sF r57 s5,sF r57 s6,sF r67 s7,bC b8]) 0 abM) ?_;obtain⟨⟨n26,n27,s28,s29,s30⟩,h25,h⟩:=av h;refine tq [] rfl hmn (qc (.agg [iI n26,iI n27,sC r3 s28,sC r3 s29,sC r2 s30]) [.agg [iI n1,iC .u8 n2,iC .u8 n3,sF r92 s4,sF r57 s5,sF r57 s6,sF r67 s7,bC b8]] (sV (m+3) h25) (af (bg (ae aG (ae aG (ae aG (ae aX (ae aX (ae aX (ae aX (ae aG be))))))))) aw)) ?_;refine tq [0] rfl (hmc (dA (ay (an hlt 0 rfl)) (dA (ay (an hlt 0 rfl)) fY)) hmn) (ql (.agg [iI n1,iC .u8 n2,iC .u8 n3,sF r92 s4,sF r57 s5,sF r57 s6,sF r67 s7,bC b8]) 0 abM) ?_;refine tq [] rfl hmn (ai rfl abO rfl) ?_;refine tq [0] rfl (hmc (dA (ay (an hlt 0 rfl)) (dA (ay (an hlt 0 rfl)) fY)) hmn) (ql (.one (sF r57 s5)) 0 uj) ?_;obtain⟨⟨n32,s33⟩,h31,h⟩:=av h;refine tq [] rfl hmn (qc (.agg [iI n32,sC r57 s33]) [.agg [iI n1,iC .u8 n2,iC .u8 n3,sF r92 s4,sF r57 s5,sF r57 s6,sF r67 s7,bC b8],.one (sF r57 s5)] (sW (m+2) h31) (af (bg (ae aG (ae aG (ae aG (ae aX (ae aX (ae aX (ae aX (ae aG be))))))))) (af (ar aX) aw))) ?_;refine tq [0] rfl (hmc (dA (ay (an hlt 0 rfl)) (dA (ay (an hlt 0 rfl)) fY)) hmn) (ql (.agg [iI n1,iC .u8 n2,iC .u8 n3,sF r92 s4,sF r57 s5,sF r57 s6,sF r67 s7,bC b8]) 0 abM) ?_;obtain⟨s35,h34,h⟩:=av h;refine YQ rfl rfl rfl [] (by decide) rfl hmn rfl (zK (v:=λfr36=> .one (.p fr36 (Sl.t r67 s35))) (args:= [.agg [iI n1,iC .u8 n2,iC .u8 n3,sF r92 s4,sF r57 s5,sF r57 s6,sF r67 s7,bC b8]]) (vQ (m+5) h34) rfl rfl (af (bg (ae aG (ae aG (ae aG (ae aX (ae aX (ae aX (ae aX (ae aG be))))))))) aw) rfl rfl (λfr=>rfl)) (λfr36=> ?_);refine fT rfl rfl rfl [] (by decide) rfl hmn rfl rfl (hkc (ay (an hlt 0 rfl)) hkn) (aQ Hk (row:= [iI 0,iI 0,nC,nC,nC]) rfl rfl) ?_;refine fT rfl rfl rfl [] (by decide) rfl hmn rfl rfl (hkc (qk rfl) (hkc (ay (an hlt 0 rfl)) hkn)) (aQ lV (row:= [iI 0,nC]) rfl rfl) ?_;refine nb rfl rfl [1] (by decide) rfl (hm0 rfl) rfl (dO (es':= [[iI n26,iI n27,sC r3 s28,sC r3 s29,sC r2 s30]]) 0 rfl rfl rfl ry rfl rfl rfl rfl rfl) (q:=1) rfl rfl ?_;refine nb rfl rfl [0] (by decide) rfl (hm0 rfl) rfl (dO (es':= [[iI n32,sC r57 s33]]) 0 rfl rfl rfl fG rfl rfl rfl rfl rfl) (q:=0) rfl rfl ?_;refine tq [] rfl (hm0 rfl) (qa (.one (.p fr36 (Sl.t r67 s35)))) ?_;refine ig (eS (lS ?_));refine sy (by kernel_rfl) ?_;refine sq (qm (iO n11)) ?_;refine sq (ql (.agg [iI n26,iI n27,sC r3 s28,sC r3 s29,sC r2 s30]) 1 ry) ?_;obtain⟨⟨n38,n39,s40,s41,s42,s43⟩,h37,h⟩:=av h;refine sq (qc (.agg [iI n38,iI n39,sC r3 s40,sC r3 s41,sC r3 s42,sC r2 s43]) [.agg [iI n26,iI n27,sC r3 s28,sC r3 s29,sC r2 s30]] (QN (m+4) h37) (af (bg (ae aG (ae aG (ae aX (ae aX (ae aX be)))))) aw)) ?_;refine sq (ql (.agg [iI n32,sC r57 s33]) 0 fG) ?_;refine sq (qm (.one (.p fr36 (Sl.t r67 s35)))) ?_;refine sq (ai rfl Ux rfl) ?_;refine sq (ql (bO b8) 2 sz4) ?_;obtain⟨⟨s45,n46⟩,h44,h⟩:=av h;refine sq (qc (.tup [.one (sC r75 s45),iO n46]) [iO n11,.agg [iI n38,iI n39,sC r3 s40,sC r3 s41,sC r3 s42,sC r2 s43],.agg [iI n32,sC r57 s33],.one (.p fr36 (Sl.t r67 s35)),bO b8] (Km (m+2) h44) (af (ar aG) (af (bg (ae aG (ae aG (ae aX (ae aX (ae aX (ae aX be))))))) (af (bg (ae aG (ae aX be))) (af (ar aX) (af (ar aG) aw)))))) ?_;refine sq (qm (.tup [.one (sC r75 s45),iO n46])) ?_;refine sq (lz (v:= .one (sC r75 s45)) rfl rfl) ?_;refine sq (lz (v:=iO n46) rfl rfl) ?_;refine sq (qa (.one (sC r75 s45))) ?_;refine sq (qa (iO n46)) ?_;refine mZ (eS (lS ?_));refine sy (by kernel_rfl) ?_;refine sq (qm (iO n11)) ?_;refine sq (ql (.agg [iI n26,iI n27,sC r3 s28,sC r3 s29,sC r2 s30]) 1 ry) ?_;refine sq (ql (.agg [iI n32,sC r57 s33]) 0 fG) ?_;obtain⟨⟨n48,s49,s50⟩,h47,h⟩:=av h;refine sq (qc (.agg [iI n48,sC r67 s49,sC r2 s50]) [.agg [iI n32,sC r57 s33]] (MU (m+1) h47) (af (bg (ae aG (ae aX be))) aw)) ?_;refine sq (qm (.one (.p fr36 (Sl.t r67 s35)))) ?_;refine sq (ai rfl Ux rfl) ?_;refine sq (ql (bO b8) 2 sz4) ?_;obtain⟨⟨s52,n53⟩,h51,h⟩:=av h;refine sq (qc (.tup [.one (sC r75 s52),iO n53]) [iO n11,.agg [iI n26,iI n27,sC r3 s28,sC r3 s29,sC r2 s30],.agg [iI n48,sC r67 s49,sC r2 s50],.one (.p fr36 (Sl.t r67 s35)),bO b8] (Ko (m+0) h51) (af (ar aG) (af (bg (ae aG (ae aG (ae aX (ae aX (ae aX be)))))) (af (bg (ae aG (ae aX (ae aX be)))) (af (ar aX) (af (ar aG) aw)))))) ?_;refine sq (qm (.tup [.one (sC r75 s52),iO n53])) ?_;refine sq (lz (v:= .one (sC r75 s52)) rfl rfl) ?_;refine sq (lz (v:=iO n53) rfl rfl) ?_;refine sq (qa (.one (sC r75 s52))) ?_;refine sq (qa (iO n53)) ?_;refine mZ (eS (lS (lO ?_)));obtain⟨b55,h54,h⟩:=av h;refine pq (qc (bO b55) [] (agu (m+5) h54) aw) ?_;refine pq (qm (bO b55)) ?_;rcases b55 with _|_;replace h:=wF h
 iterate 2 refine os ?_
 refine pq (qpf bf) ?_;refine pq (qm bf) ?_
 iterate 2 refine os ?_
 refine pq (qpf bf) ?_;refine pq (qm bf) ?_
 iterate 3 refine os ?_
 refine pq (qpf bf) ?_;refine pq (qa bf) ?_;refine oE (eS (lR ?_));obtain rfl:=sj h;exact eF1;replace h:=wT h;refine pq (qm (iO n46)) ?_;by_cases c56:n46=0;replace h:=ifT c56 h;refine pq (qb (vJ c56)) ?_;refine pq (qpt bt) ?_;refine pq (qm bt) ?_;refine pq (qm (iO n53)) ?_;by_cases c57:n53=0;replace h:=ifT c57 h;refine pq (qb (vJ c57)) ?_;refine pq (qpt bt) ?_;refine pq (qm bt) ?_;refine pq (qm (.one (sC r75 s45))) ?_;refine pq (qm (.one (sC r75 s52))) ?_;obtain⟨b59,h58,h⟩:=av h;refine pq (qc (bO b59) [.one (sC r75 s45),.one (sC r75 s52)] (xu (m+5) h58) (af (ar aX) (af (ar aX) aw))) ?_;refine pq (qpt (bO b59)) ?_;refine pq (qa (bO b59)) ?_;refine oE (eS (lR ?_));obtain rfl:=sj h;exact eF1;replace h:=ifF c57 h;refine pq (qb (vK c57)) ?_;refine pq (qpt bf) ?_;refine pq (qm bf) ?_
 iterate 3 refine os ?_
 refine pq (qpf bf) ?_;refine pq (qa bf) ?_;refine oE (eS (lR ?_));obtain rfl:=sj h;exact eF1;replace h:=ifF c56 h;refine pq (qb (vK c56)) ?_;refine pq (qpt bf) ?_;refine pq (qm bf) ?_
 iterate 2 refine os ?_
 refine pq (qpf bf) ?_;refine pq (qm bf) ?_
 iterate 3 refine os ?_
 refine pq (qpf bf) ?_;refine pq (qa bf) ?_;refine oE (eS (lR ?_));obtain rfl:=sj h;exact eF1
end Ev
end
noncomputable section
namespace Ev
open Go
set_option maxRecDepth 100000
set_option maxHeartbeats 1000000
attribute [local irreducible] eO StL TnL WpL ew
theorem agv{ts:List T}(h:Typ Tryz.prog 22 ts):∃x:Int,ts= [iT .i64 x]/\inK .i64 x:=wo (by kernel_rfl) h
def W22(x:Int):Prop:=inK .i64 x
theorem op5{ts:List T}(h:Typ Tryz.prog 5 ts):∃x:Int,ts= [iT .u8 x]/\inK .u8 x:=wo (by kernel_rfl) h
def W5(x:Int):Prop:=inK .u8 x
def W23(x:Int×Int):Prop:=W5 x.1/\W5 x.2
theorem agw{ts:List T}(h:Typ Tryz.prog 23 ts):∃x:Int×Int,ts=r23 x/\W23 x:=by
 obtain⟨tss,rfl,hl,hf⟩:=Rv (n:=2) (e:=5) (by kernel_rfl) h
 match tss,hl with
 | [t0,t1],_=>
  obtain⟨x0,rfl,w0⟩:=op5 (hf t0 (by simp));obtain⟨x1,rfl,w1⟩:=op5 (hf t1 (by simp));exact⟨(x0,x1),rfl,⟨w0,w1⟩⟩
theorem op3{ts:List T}(h:Typ Tryz.prog 3 ts):∃x:Int,ts= [iT .i64 x]/\inK .i64 x:=wo (by kernel_rfl) h
def W3(x:Int):Prop:=inK .i64 x
theorem op2{ts:List T}(h:Typ Tryz.prog 2 ts):∃x:Int,ts= [iT .i64 x]/\inK .i64 x:=wo (by kernel_rfl) h
def W2(x:Int):Prop:=inK .i64 x
def W93(x:Int×Int×Int):Prop:=W3 x.1/\W3 x.2.1/\W2 x.2.2
theorem agx{ts:List T}(h:Typ Tryz.prog 93 ts):∃x:Int×Int×Int,ts=r92 x/\W93 x:=by
 obtain⟨tss,rfl,hl,hf⟩:=uD (fs:=bq Tryz.prog 92) (by kernel_rfl) h;rw [show(bq Tryz.prog 92).toList= [fld Tryz.prog 92 0,fld Tryz.prog 92 1,fld Tryz.prog 92 2]by kernel_rfl]at hl hf
 match tss,hl with
 | [t0,t1,t2],_=>
  have g0:Typ Tryz.prog 3 t0:=by have:=hf 0 _ _ rfl rfl;rwa [show(fld Tryz.prog 92 0).type=3 by kernel_rfl]at this
  obtain⟨x0,rfl,w0⟩:=op3 g0;have g1:Typ Tryz.prog 3 t1:=by have:=hf 1 _ _ rfl rfl;rwa [show(fld Tryz.prog 92 1).type=3 by kernel_rfl]at this
  obtain⟨x1,rfl,w1⟩:=op3 g1;have g2:Typ Tryz.prog 2 t2:=by have:=hf 2 _ _ rfl rfl;rwa [show(fld Tryz.prog 92 2).type=2 by kernel_rfl]at this
  obtain⟨x2,rfl,w2⟩:=op2 g2;exact⟨(x0,x1,x2),rfl,⟨w0,w1,w2⟩⟩
def W24(x:Sl (Int×Int×Int)):Prop:=SlW 3 W93 x
theorem agy{ts:List T}(h:Typ Tryz.prog 24 ts):∃x:Sl (Int×Int×Int),ts= [Sl.t r92 x]/\W24 x:=xE (r:=r92) (Q:=W93) (w:=3) (by kernel_rfl) (by kernel_rfl) (λts h=>agx h) h
def W58(x:Int×Int):Prop:=W3 x.1/\W2 x.2
theorem agz{ts:List T}(h:Typ Tryz.prog 58 ts):∃x:Int×Int,ts=r57 x/\W58 x:=by
 obtain⟨tss,rfl,hl,hf⟩:=uD (fs:=bq Tryz.prog 57) (by kernel_rfl) h;rw [show(bq Tryz.prog 57).toList= [fld Tryz.prog 57 0,fld Tryz.prog 57 1]by kernel_rfl]at hl hf
 match tss,hl with
 | [t0,t1],_=>
  have g0:Typ Tryz.prog 3 t0:=by have:=hf 0 _ _ rfl rfl;rwa [show(fld Tryz.prog 57 0).type=3 by kernel_rfl]at this
  obtain⟨x0,rfl,w0⟩:=op3 g0;have g1:Typ Tryz.prog 2 t1:=by have:=hf 1 _ _ rfl rfl;rwa [show(fld Tryz.prog 57 1).type=2 by kernel_rfl]at this
  obtain⟨x1,rfl,w1⟩:=op2 g1;exact⟨(x0,x1),rfl,⟨w0,w1⟩⟩
def W25(x:Sl (Int×Int)):Prop:=SlW 2 W58 x
theorem aeT{ts:List T}(h:Typ Tryz.prog 25 ts):∃x:Sl (Int×Int),ts= [Sl.t r57 x]/\W25 x:=xE (r:=r57) (Q:=W58) (w:=2) (by kernel_rfl) (by kernel_rfl) (λts h=>agz h) h
theorem agA{ts:List T}(h:Typ Tryz.prog 67 ts):∃x:Int,ts= [iT .u64 x]/\inK .u64 x:=wo (by kernel_rfl) h
def W67(x:Int):Prop:=inK .u64 x
def W26(x:Sl (Int)):Prop:=SlW 1 W67 x
theorem agB{ts:List T}(h:Typ Tryz.prog 26 ts):∃x:Sl (Int),ts= [Sl.t r67 x]/\W26 x:=xE (r:=r67) (Q:=W67) (w:=1) (by kernel_rfl) (by kernel_rfl) (λts h=>agA h) h
theorem op4{ts:List T}(h:Typ Tryz.prog 4 ts):∃x:Bool,ts= [bT x]/\True:=Wb (by kernel_rfl) h
def W4(x:Bool):Prop:=True
def W28(x:Int×(Int×Int)×(Sl (Int×Int×Int))×(Sl (Int×Int))×(Sl (Int×Int))×Sl (Int)×Bool):Prop:=W22 x.1/\W23 x.2.1/\W24 x.2.2.1/\W25 x.2.2.2.1/\W25 x.2.2.2.2.1/\W26 x.2.2.2.2.2.1/\W4 x.2.2.2.2.2.2
theorem agC{ts:List T}(h:Typ Tryz.prog 28 ts):∃x:Int×(Int×Int)×(Sl (Int×Int×Int))×(Sl (Int×Int))×(Sl (Int×Int))×Sl (Int)×Bool,ts=r27 x/\W28 x:=by
 obtain⟨tss,rfl,hl,hf⟩:=uD (fs:=bq Tryz.prog 27) (by kernel_rfl) h;rw [show(bq Tryz.prog 27).toList= [fld Tryz.prog 27 0,fld Tryz.prog 27 1,fld Tryz.prog 27 2,fld Tryz.prog 27 3,fld Tryz.prog 27 4,fld Tryz.prog 27 5,fld Tryz.prog 27 6]by kernel_rfl]at hl hf
 match tss,hl with
 | [t0,t1,t2,t3,t4,t5,t6],_=>
  have g0:Typ Tryz.prog 22 t0:=by have:=hf 0 _ _ rfl rfl;rwa [show(fld Tryz.prog 27 0).type=22 by kernel_rfl]at this
  obtain⟨x0,rfl,w0⟩:=agv g0;have g1:Typ Tryz.prog 23 t1:=by have:=hf 1 _ _ rfl rfl;rwa [show(fld Tryz.prog 27 1).type=23 by kernel_rfl]at this
  obtain⟨x1,rfl,w1⟩:=agw g1;have g2:Typ Tryz.prog 24 t2:=by have:=hf 2 _ _ rfl rfl;rwa [show(fld Tryz.prog 27 2).type=24 by kernel_rfl]at this
  obtain⟨x2,rfl,w2⟩:=agy g2;have g3:Typ Tryz.prog 25 t3:=by have:=hf 3 _ _ rfl rfl;rwa [show(fld Tryz.prog 27 3).type=25 by kernel_rfl]at this
  obtain⟨x3,rfl,w3⟩:=aeT g3;have g4:Typ Tryz.prog 25 t4:=by have:=hf 4 _ _ rfl rfl;rwa [show(fld Tryz.prog 27 4).type=25 by kernel_rfl]at this
  obtain⟨x4,rfl,w4⟩:=aeT g4;have g5:Typ Tryz.prog 26 t5:=by have:=hf 5 _ _ rfl rfl;rwa [show(fld Tryz.prog 27 5).type=26 by kernel_rfl]at this
  obtain⟨x5,rfl,w5⟩:=agB g5;have g6:Typ Tryz.prog 4 t6:=by have:=hf 6 _ _ rfl rfl;rwa [show(fld Tryz.prog 27 6).type=4 by kernel_rfl]at this
  obtain⟨x6,rfl,w6⟩:=op4 g6;exact⟨(x0,x1,x2,x3,x4,x5,x6),rfl,⟨w0,w1,w2,w3,w4,w5,w6⟩⟩
end Ev
end
noncomputable section
namespace Ev
open Go
abbrev It:=Int×Int
def WIt(x:It):Prop:=inK .i64 x.1/\inK .i64 x.2
def WV(v:Int×Sl It):Prop:=inK .i64 v.1/\SlW 2 WIt v.2
def okS{α:Type}(w:Nat)(s:Sl α):Prop:=s.l= []∨s.sz=w
theorem SlW.ok{α:Type}{w:Nat}{Q:α->Prop}{s:Sl α}(h:SlW w Q s):okS w s:= .inr h.1
def iE{α:Type}:Sl α:=⟨false,0,[]⟩
theorem jp{α:Type}{w:Nat}:okS w (iE:Sl α):= .inl rfl
theorem mS{α:Type}{w:Nat}(l:List α):okS w (mo w l):=by cases l with|nil=>exact .inl rfl|cons x l=>exact .inr rfl
def asc:Int->Int->List It->Bool
 |_,_,[]=>true
 |a,n,x::l=>decide (a<x.1)&& decide (x.1<n)&& asc x.1 n l
def yF(n:Int):Bool:=decide (0<=n)&& decide (n<=4096)
def fk(v:Int×Sl It):Bool:=yF v.1 && asc (-1) v.1 v.2.l
def mc(v:Int×Sl It):Int×Sl It:=if fk v=true then v else(0,iE)
theorem UE{v:Int×Sl It}(h:okS 2 v.2):okS 2 (mc v).2:=by unfold mc;split;exact h;exact jp
theorem Kq(v:Int×Sl It):fk (mc v)=true:=by unfold mc;split;assumption;rfl
theorem MV{n:Int}:∀{a:Int} {l:List It},asc a n l=true->∀x∈l,a<x.1/\x.1<n
 |a,y::l,h,x,hx=>by
  simp only [asc,Bool.and_eq_true,decide_eq_true_eq]at h;rcases List.mem_cons.1 hx with rfl|hx
  .exact⟨h.1.1,h.1.2⟩
  .have:=MV h.2 x hx;omega
theorem OR{n:Int}:∀{a:Int} {l:List It},asc a n l=true->(l.length:Int)<=max (n - a - 1) 0
 |a,[],h=>by simp;omega
 |a,y::l,h=>by
  simp only [asc,Bool.and_eq_true,decide_eq_true_eq]at h
  have:=OR h.2
  simp only [List.length_cons];omega
theorem mD{v:Int×Sl It}(h:fk v=true):v.2.l.length<=4096:=by
 simp only [fk,yF,Bool.and_eq_true,decide_eq_true_eq]at h
 have:=OR h.2;omega
theorem UF(v:Int×Sl It):(mc v).2.l.length<=4096:=mD (Kq v)
theorem tj(n:Int):fc n=some (yF n):=by
 unfold fc yF;by_cases h1:n >= 0
 .rw [if_pos h1];by_cases h2:n<=4096
  .rw [if_pos h2,decide_eq_true (show 0<=n from h1),decide_eq_true h2];rfl
  .rw [if_neg h2,decide_eq_false h2];simp
 .rw [if_neg h1,decide_eq_false (show¬0<=n from h1)];rfl
theorem jS(v:Int×Sl It)(hok:okS 2 v.2)(hl:v.2.l.length<=9223372036854775807):du v=some (fk v):=by
 obtain⟨n,s⟩:=v;unfold du fk;simp only [tj,zbS]
 cases hs:yF n with
 |false=>simp
 |true=>
  simp only [if_true,Bool.true_and]
  obtain⟨r,h1,h2⟩:=cr (b:=eA n s) s.l.length (λj a=>∃la,a=(la,(j:Int))/\asc (-1) n s.l=asc la n (s.l.drop j)) (λr=>(asc (-1) n s.l=true/\r= .inl ())∨(asc (-1) n s.l=false/\r= .inr false))
   (by
    rintro j _ hj ⟨la,rfl,ha⟩;rw [List.drop_eq_getElem_cons hj]at ha;simp only [asc]at ha;simp only [eA,cg hok hj,zbS,ci hj (by simp only at hl;omega)];rw [if_pos (by omega)];by_cases c1:s.l[j].1<=la
    .refine .inr ⟨_,if_pos c1,.inr ⟨?_,rfl⟩⟩;rw [ha,decide_eq_false (by omega)];rfl
    .rw [if_neg c1];by_cases c2:s.l[j].1 >= n
     .refine .inr ⟨_,if_pos c2,.inr ⟨?_,rfl⟩⟩;rw [ha,decide_eq_false (p:=s.l[j].1<n) (by omega)];simp
     .refine .inl ⟨_,if_neg c2,_,rfl,?_⟩
      rw [ha,decide_eq_true (by omega),decide_eq_true (by omega)];rfl)
   (by
    rintro _ ⟨la,rfl,ha⟩;refine⟨_,if_neg (by omega),.inl ⟨?_,rfl⟩⟩
    rw [ha];simp [asc]) 0 (Nat.zero_le _) (-1,0) ⟨-1,rfl,rfl⟩
  rw [h1];rcases h2 with⟨h3,rfl⟩|⟨h3,rfl⟩<;>simp [h3]
theorem asc_iff{n:Int}{l:List It}:∀{a:Int},asc a n l=true↔∀j (h:j<l.length),(if h0:j=0 then a<l[j].1 else l[j - 1].1<l[j].1)/\l[j].1<n:=by
 induction l with
 |nil=>intro a;simp [asc]
 |cons x l ih=>
  intro a;simp only [asc,Bool.and_eq_true,decide_eq_true_eq,ih];constructor
  .rintro⟨⟨h1,h2⟩,h3⟩ j hj
   cases j with
   |zero=>exact⟨by simpa using h1,by simpa using h2⟩
   |succ j=>
    have:=h3 j (by simpa using hj)
    refine⟨?_,by simpa using this.2⟩;rw [dif_neg (by omega)]
    cases j with
    |zero=>simpa using this.1
    |succ j=>have:=this.1;rw [dif_neg (by omega)]at this;simpa using this
  .intro h;have h0:=h 0 (by simp);refine⟨⟨by simpa using h0.1,by simpa using h0.2⟩,λj hj=> ?_⟩
   have:=h (j+1) (by simpa using hj)
   rw [dif_neg (by omega)]at this;refine⟨?_,by simpa using this.2⟩
   cases j with
   |zero=>simpa using this.1
   |succ j=>rw [dif_neg (by omega)];simpa using this.1
theorem asc_iff'{n:Int}{l:List It}:asc (-1) n l=true↔∀j (h:j<l.length),0<=l[j].1/\l[j].1<n/\(j≠0->l[j - 1].1<l[j].1):=by
 constructor
 .intro h j hj;have h1:=MV h l[j] (List.getElem_mem hj);have h2:=(asc_iff.1 h j hj).1;exact⟨by omega,h1.2,λh0=>by rw [dif_neg h0]at h2;exact h2⟩
 .intro h;refine asc_iff.2 λj hj=>⟨?_,(h j hj).2.1⟩;split
  .have:=(h j hj).1;omega
  .rename_i h0;exact(h j hj).2.2 h0
end Ev
end
noncomputable section
namespace Ev
open Go
def cC(n:Int):Prop:= -9223372036854775808<=n/\n<=9223372036854775807
def eJ(n:Int):Prop:=0<=n/\n<=18446744073709551615
theorem sb{n:Int}(h:inK .i64 n):cC n:=by simpa [inK,cC,Lit.wf,IntKind.min,IntKind.max,IntKind.signed,IntKind.bits]using h
theorem wrap_u64(n:Int):IntKind.u64.wrap n=n % 18446744073709551616:=by
 simp [IntKind.wrap,IntKind.signed,IntKind.bits]
theorem mL(n:Int):eJ (IntKind.u64.wrap n):=by rw [wrap_u64];unfold eJ;omega
theorem TB{n:Int}(h:eJ n):IntKind.u64.wrap (IntKind.i64.wrap n)=n:=by rw [wrap_u64,IntKind.wrap_i64];unfold eJ at h;omega
def ofW(n:Int):Int×Int:=(if n<0 then -1 else 0,IntKind.u64.wrap n)
theorem dJ{n:Int}(h:cC n):bY n=some (ofW n):=by
 unfold bY rL ofW Rt;rw [if_pos (by omega)];have e:(2:Int)^(min (63:Int).toNat IntKind.i64.bits)=9223372036854775808:=by decide
 rw [e];unfold cC at h
 have:n.fdiv 9223372036854775808=if n<0 then -1 else 0:=by
  rw [Int.fdiv_eq_ediv_of_nonneg _ (by omega)];split<;>omega
 rw [this];rfl
theorem Ai(n:Int):eJ (ofW n).2:=mL n
def vi(a b:Int×Int):Bool:=decide (a.1<b.1)||(decide (a.1=b.1)&& decide (a.2<b.2))
theorem lL(a b:Int×Int):∃c,eu a b=some c/\(c<0↔vi a b=true):=by
 obtain⟨a1,a2⟩:=a;obtain⟨b1,b2⟩:=b;unfold eu vi;simp only;by_cases h1:a1=b1/\a2=b2
 .rw [if_pos h1];exact⟨0,rfl,by simp;omega⟩
 rw [if_neg h1];by_cases h2:a1<b1
 .rw [if_pos h2];exact⟨-1,rfl,by simp [h2]⟩
 rw [if_neg h2];by_cases h3:a1=b1
 .rw [if_pos h3];by_cases h4:a2<b2
  .rw [if_pos h4];exact⟨-1,rfl,by simp [h3,h4]⟩
  .rw [if_neg h4];exact⟨1,rfl,by simp [h3];omega⟩
 .rw [if_neg h3];exact⟨1,rfl,by simp [h3];omega⟩
def kv(a b:Int×Int):Int×Int:=if vi b a=true then b else a
def lJ(b:Bool):Int×Int:=if b=true then(0,1)else(0,0)
def vj(a b:Int×Int):Int×Int:=if IntKind.u64.wrap (a.2+b.2)<a.2 then(IntKind.i64.wrap (IntKind.i64.wrap (a.1+b.1)+1),IntKind.u64.wrap (a.2+b.2))else(IntKind.i64.wrap (a.1+b.1),IntKind.u64.wrap (a.2+b.2))
def eQ(r:Int)(a b:Int×Int):Int×Int:=
 if r=1∨r=3∨r=4 then kv a b else if r=2 then lJ (!(decide (a.1=0/\a.2=0)&& decide (b.1=0/\b.2=0)))else if r=5 then vj a b else(0,0)
theorem mK(a b:Int×Int):dr a b=some (kv a b):=by
 obtain⟨a1,a2⟩:=a;obtain⟨b1,b2⟩:=b;unfold dr kv;obtain⟨c,h1,h2⟩:=lL (b1,b2) (a1,a2);simp only [h1,zbS];by_cases hc:c<0
 .rw [if_pos hc,if_pos (h2.1 hc)]
 .rw [if_neg hc,if_neg (λh=>hc (h2.2 h))]
theorem iW(b:Bool):cL b=some (lJ b):=by
 unfold cL lJ;cases b
 .rfl
 .simp only [if_true,dJ (show cC 1 by unfold cC;omega),zbS];rfl
theorem qS(a b:Int×Int):dt a b=some (vj a b):=by
 obtain⟨a1,a2⟩:=a;obtain⟨b1,b2⟩:=b;unfold dt vj;simp only;split<;>rfl
theorem lf(r:Int)(a b:Int×Int):gM r a b=some (eQ r a b):=KM.Ak r a b
theorem Aj{r:Int}{a b:Int×Int}(ha:eJ a.2)(hb:eJ b.2):eJ (eQ r a b).2:=by
 have h0:eJ 0:=by unfold eJ;omega
 have h1:eJ 1:=by unfold eJ;omega
 unfold eQ kv lJ vj;split
 .split<;>assumption
 .split
  .split<;>assumption
  .split
   .split<;>exact mL _
   .exact h0
def gu(a:Int×Int):Int×Bool:=if a=ofW (IntKind.i64.wrap a.2)then(IntKind.i64.wrap a.2,true)else(0,false)
theorem Ah(n:Int):cC (IntKind.i64.wrap n):=by rw [IntKind.wrap_i64];unfold cC;omega
theorem pH(r:Int):jh r=some (decide (1<=r)&& decide (r<=5)):=by
 unfold jh;by_cases h1:r >= 1
 .rw [if_pos h1,decide_eq_true (show 1<=r from h1)];by_cases h2:r<=5
  .rw [if_pos h2,decide_eq_true h2];rfl
  .rw [if_neg h2,decide_eq_false h2];rfl
 .rw [if_neg h1,decide_eq_false (show¬1<=r from h1)];rfl
theorem ra(r:Int):fZ r=some (decide (1<=r)&& decide (r<=5)):=by
 unfold fZ;by_cases h1:r >= 1
 .rw [if_pos h1,decide_eq_true (show 1<=r from h1)];by_cases h2:r<=5
  .rw [if_pos h2,decide_eq_true h2];rfl
  .rw [if_neg h2,decide_eq_false h2];rfl
 .rw [if_neg h1,decide_eq_false (show¬1<=r from h1)];rfl
end Ev
end
noncomputable section
namespace Ev
open Go
def okR(r:Int):Bool:=decide (1<=r)&& decide (r<=5)
end Ev
end
noncomputable section
namespace Ev
open Go
def dp(p:Int):List It->Option Int
 | []=>none
 |x::l=>if x.1=p then some x.2 else dp p l
theorem kD{p:Int}:∀{l:List It},(∀x∈l,x.1≠p)->dp p l=none
 | [],_=>rfl
 |x::l,h=>by
  unfold dp;rw [if_neg (h x List.mem_cons_self)];exact kD λy hy=>h y (List.mem_cons_of_mem _ hy)
end Ev
end
noncomputable section
namespace Ev
open Go
theorem vT{n:Int}{s:Sl It}(h:fk (n,s)=true){j:Nat}(hj:j<s.l.length):0<=s.l[j].1/\s.l[j].1<n:=by
 simp only [fk,Bool.and_eq_true]at h
 have:=MV h.2 _ (List.getElem_mem hj);omega
theorem BB{n:Int}{s:Sl It}(h:fk (n,s)=true):0<=n/\n<=4096:=by
 simp only [fk,yF,Bool.and_eq_true,decide_eq_true_eq]at h;omega
theorem nQ(p:Int):∀(l m:List It),dp p (l++m)=match dp p l with|some x=>some x|none=>dp p m
 | [],m=>rfl
 |x::l,m=>by
  simp only [List.cons_append,dp];by_cases h:x.1=p
  .rw [if_pos h,if_pos h]
  .rw [if_neg h,if_neg h];exact nQ p l m
theorem QO{n:Int}{s:Sl It}(h:fk (n,s)=true){j:Nat}(hj:j<s.l.length):dp (s.l[j].1) (s.l.take j)=none:=by
 simp only [fk,Bool.and_eq_true]at h;refine kD λx hx=> ?_;obtain⟨i,hi,rfl⟩:=List.getElem_of_mem hx;have hij:i<j:=by simp at hi;omega
 rw [List.getElem_take]
 have key:∀d i (hi:i+d+1<s.l.length),s.l[i].1<s.l[i+d+1].1:=by
  intro d
  induction d with
  |zero=>intro i hi;exact((asc_iff'.1 h.2) (i+1) hi).2.2 (by omega)
  |succ d ih=>intro i hi;have h1:=ih i (by omega);have h2:=((asc_iff'.1 h.2) (i+(d+1)+1) hi).2.2 (by omega);simp only [Nat.add_sub_cancel]at h2;exact Int.lt_trans h1 h2
 have:=key (j - i - 1) i (by omega)
 simp only [show i+(j - i - 1)+1=j by omega]at this;omega
theorem OS{v:Int×Sl It}(h:fk v=true):mc v=v:=by unfold mc;rw [if_pos h]
end Ev
end
noncomputable section
namespace Ev
open Go
theorem Kr{n:Int}{l:List It}(h:asc (-1) n l=true){i k:Nat}(hik:i<k)(hk:k<l.length):l[i].1<l[k].1:=by
 have key:∀d i (hi:i+d+1<l.length),l[i].1<l[i+d+1].1:=by
  intro d
  induction d with
  |zero=>intro i hi;exact((asc_iff'.1 h) (i+1) hi).2.2 (by omega)
  |succ d ih=>intro i hi;have h1:=ih i (by omega);have h2:=((asc_iff'.1 h) (i+(d+1)+1) hi).2.2 (by omega);simp only [Nat.add_sub_cancel]at h2;exact Int.lt_trans h1 h2
 have:=key (k - i - 1) i (by omega)
 simp only [show i+(k - i - 1)+1=k by omega]at this;exact this
end Ev
end
noncomputable section
namespace Ev
open Go
abbrev Ed:=Int×Int×Int
def MW(a b:Ed):Bool:=decide (a.1<b.1)||(decide (a.1=b.1)&& decide (a.2.1<b.2.1))
def aeU(l:List Ed):Prop:=∀i j (hi:i<l.length) (hj:j<l.length),i<j->MW l[i] l[j]=true
theorem aeV{α:Type}{w:Nat}{l:List α}{j:Nat}(hj:j<l.length):atS w (mo w l) (j:Int)=some l[j]:=by
 have:=cg (s:=mo w l) (w:=w) (mS l) (j:=j) (by rw [iU];exact hj)
 rw [this];congr 1;simp only [iU]
structure UG(r:Int)(K:Ed->Prop)(P:Int×Int->Prop):Prop where
 lo:∀a,P a->eJ a.2
 one:∀y,K y->P (ofW y.2.2)
 add:∀a b,P a->P b->P (eQ r a b)
end Ev
end
noncomputable section
namespace Ev
open Go
structure CE(K:Ed->Prop)(c:Nat)(E:List Ed):Prop where
 few:E.length<=c
 rise:aeU E
 ends:∀x∈E,∃y,K y/\x.1=y.1/\x.2.1=y.2.1
 vals:∀x∈E,cC x.2.2
theorem ZS{r:Int}{K:Ed->Prop}{P:Int×Int->Prop}(hP:UG r K P){e:Ed}(he:P (ofW e.2.2)):∀S:List (Sm.Ky×Sm.V),(∀p∈S,P p.2)->∀p∈Sm.ins (KM.RG r) S e,P p.2
 | [],_,p,hp=>by
  simp only [Sm.ins,List.mem_singleton]at hp;subst hp;exact he
 |q::S,h,p,hp=>by
  have hq:=h q List.mem_cons_self;have hS:∀p∈S,P p.2:=λp hp=>h p (List.mem_cons_of_mem _ hp);unfold Sm.ins at hp;split at hp
  .rcases List.mem_cons.1 hp with rfl|hp
   .exact hq
   .exact ZS hP he S hS p hp
  .split at hp
   .rcases List.mem_cons.1 hp with rfl|hp
    .exact he
    .exact h p hp
   .rcases List.mem_cons.1 hp with rfl|hp
    .exact hP.add _ _ hq he
    .exact hS p hp
theorem ZT{r:Int}{K:Ed->Prop}{P:Int×Int->Prop}(hP:UG r K P):∀{l:List Ed} (S:List (Sm.Ky×Sm.V)),(∀p∈S,P p.2)->(∀x∈l,K x)->∀p∈l.foldl (Sm.ins (KM.RG r)) S,P p.2
 | [],S,h,_=>h
 |e::l,S,h,hK=>by
  show∀p∈l.foldl (Sm.ins (KM.RG r)) (Sm.ins (KM.RG r) S e),P p.2;exact ZT hP (l:=l) _ (ZS hP (hP.one _ (hK e List.mem_cons_self)) S h) λx hx=>hK x (List.mem_cons_of_mem _ hx)
theorem kA(r:Int)(s:Sl Ed)(hr:okR r=true)(hok:okS 3 s)(hl:s.l.length<=5000)(K:Ed->Prop)(P:Int×Int->Prop)(hP:UG r K P)(hK:∀x∈s.l,K x):∃o,cG r s=some o/\((o=(⟨false,0,[]⟩,12)/\∃x,P x/\(gu x).2=false)∨∃E,o=(mo 3 E,0)/\CE K s.l.length E):=by
 have e:cG r s=some (mo 3 (Sm.sumR (KM.RG r) s.l).1,(Sm.sumR (KM.RG r) s.l).2):=KM.qE hok (by omega) hr;refine⟨_,e,?_⟩;obtain⟨g1,g2,g3,g4⟩:=KM.vF (r:=r) (l:=s.l);by_cases c:(Sm.canS (KM.RG r) s.l).all (λp=>((KM.RG r).na p.2).2)=true
 .right
  have h0:(Sm.sumR (KM.RG r) s.l).2=0:=by unfold Sm.sumR;rw [if_pos c]
  refine⟨(Sm.sumR (KM.RG r) s.l).1,by rw [h0],g2,λi j hi hj hij=> ?_,λx hx=> ?_,λx hx=>(g3 x hx).1⟩
  .have:=KM.bel_iff.1 (List.pairwise_iff_getElem.1 g1 i j hi hj hij)
   unfold MW;simp only [Bool.or_eq_true,Bool.and_eq_true,decide_eq_true_eq];exact this
  .obtain⟨y,h1,h2,h3⟩:=(g3 x hx).2;exact⟨y,hK y h1,h2.symm,h3.symm⟩
 .left
  have e2:Sm.sumR (KM.RG r) s.l=([],12):=by unfold Sm.sumR;rw [if_neg c]
  rw [e2];refine⟨rfl,?_⟩;rw [List.all_eq_true]at c
  obtain⟨p,hp,hn⟩:∃p∈Sm.canS (KM.RG r) s.l,((KM.RG r).na p.2).2=false:=by
   apply Classical.byContradiction;intro hno;refine c λp hp=> ?_
   cases hq:((KM.RG r).na p.2).2 with
   |true=>rfl
   |false=>exact absurd ⟨p,hp,hq⟩ hno
  exact⟨p.2,ZT hP [] (λp hp=>by simp at hp) hK p hp,hn⟩
def rC(v:Int×Sl It):Prop:=fk v=true/\okS 2 v.2/\∀x∈v.2.l,cC x.2
theorem UH:rC (0,iE):=⟨rfl,jp,λx hx=>by simp [iE]at hx⟩
def KOf(n:Int)(Q:Int->Prop)(y:Ed):Prop:=y.1=0/\0<=y.2.1/\y.2.1<n/\Q y.2.2
theorem Hu(r n:Int)(s:Sl It)(hr:okR r=true)(hok:okS 2 s)(h0:0<=n)(hn:n<=4096)(hl:s.l.length<=5000)(Q:Int->Prop)(hs:∀x∈s.l,0<=x.1/\x.1<n/\Q x.2)(P:Int×Int->Prop)(hP:UG r (KOf n Q) P):∃v e,iX r n s=some (v,e)/\rC v/\(v.1=n∨∃x,P x/\(gu x).2=false):=by
 have hr':=hr;unfold okR at hr';unfold iX;simp only [ra,hr',zbS,if_true];rw [if_neg (by omega),if_neg (by omega)]
 obtain⟨q,h1,h2⟩:=cr (b:=ia n s) s.l.length (λj a=>a=((s.l.take j).map (λx=>((0,x.1,x.2):Ed)),(j:Int))) (λq=>q= .inl (s.l.map λx=>((0,x.1,x.2):Ed)))
  (by
   rintro j _ hj rfl;have hx:=hs _ (List.getElem_mem hj);have ha:app ((s.l.take j).map (λx=>((0,x.1,x.2):Ed))) [(0,s.l[j].1,s.l[j].2)]=some ((s.l.take j).map (λx=>((0,x.1,x.2):Ed))++ [(0,s.l[j].1,s.l[j].2)]):=ik (by simp;unfold cu;omega);simp only [ia,cg hok hj,zbS,ci hj (by omega),ha];rw [if_pos (by omega),if_neg (by omega),if_neg (by omega)];refine .inl ⟨_,rfl,?_⟩
   rw [List.take_succ_eq_append_getElem hj,List.map_append];rfl)
  (by
   rintro _ rfl
   exact⟨_,if_neg (by omega),by rw [List.take_length]⟩) 0 (Nat.zero_le _) ([],0) rfl
 subst h2;rw [h1];simp only [zbS,Sum.elim_inl]
 obtain⟨o,h3,h4⟩:=kA r (mo 3 (s.l.map λx=>((0,x.1,x.2):Ed))) hr (mS _) (by rw [iU];simpa using hl) (KOf n Q) P hP (λx hx=>by
  rw [iU]at hx;obtain⟨y,hy,rfl⟩:=List.mem_map.1 hx
  exact⟨rfl,hs y hy⟩)
 rw [h3];rcases h4 with⟨rfl,hbad⟩|⟨E,rfl,hE⟩
 .exact⟨_,_,rfl,UH,.inr hbad⟩
 have hfew:E.length<=5000:=by have:=hE.few;rw [iU]at this;simp at this;omega
 simp only [zbS,ne_eq,not_true,if_false]
 obtain⟨q,h5,h6⟩:=cr (b:=gq (mo 3 E)) E.length (λj a=>a=((j:Int),(E.take j).map (λx=>((x.2.1,x.2.2):It)))) (λq=>q= .inl (E.map λx=>((x.2.1,x.2.2):It)))
  (by
   rintro j _ hj rfl;have ha:app ((E.take j).map (λx=>((x.2.1,x.2.2):It))) [(E[j].2.1,E[j].2.2)]=some ((E.take j).map (λx=>((x.2.1,x.2.2):It))++ [(E[j].2.1,E[j].2.2)]):=ik (by simp;unfold cu;omega);simp only [gq,aeV hj,iU,zbS,ci hj (by omega),ha];rw [if_pos (by omega)];refine .inl ⟨_,rfl,?_⟩
   rw [List.take_succ_eq_append_getElem hj,List.map_append];rfl)
  (by
   rintro _ rfl;simp only [gq,iU]
   exact⟨_,if_neg (by omega),by rw [List.take_length]⟩) 0 (Nat.zero_le _) (0,[]) rfl
 subst h6;rw [h5];refine⟨_,_,rfl,⟨?_,mS _,λx hx=> ?_⟩,.inl rfl⟩
 .simp only [fk,yF,iU,decide_eq_true h0,decide_eq_true hn,Bool.true_and];refine asc_iff'.2 λj hj=> ?_;have hjE:j<E.length:=by simpa using hj
  obtain⟨y,⟨y1,y2,y3,_⟩,y4,y5⟩:=hE.ends _ (List.getElem_mem hjE);simp only [List.getElem_map];refine⟨by omega,by omega,λhj0=> ?_⟩;obtain⟨z,⟨z1,z2,z3,_⟩,z4,z5⟩:=hE.ends _ (List.getElem_mem (show j - 1<E.length by omega))
  have:=hE.rise (j - 1) j (by omega) hjE (by omega)
  simp only [MW,Bool.or_eq_true,Bool.and_eq_true,decide_eq_true_eq]at this;omega
 .rw [iU]at hx;obtain⟨y,hy,rfl⟩:=List.mem_map.1 hx;exact hE.vals y hy
def OfN(a:Int×Int):Prop:=∃n,cC n/\a=ofW n
theorem abT(n:Int):UG 1 (KOf n cC) OfN:=⟨λa h=>by obtain⟨m,_,rfl⟩:=h;exact Ai _,λy hy=>⟨_,hy.2.2.2,rfl⟩,λa b ha hb=>by
 unfold eQ kv;rw [if_pos (.inl rfl)];split
 .exact hb
 .exact ha⟩
theorem MX{a:Int×Int}(h:OfN a):(gu a).2=true:=by
 obtain⟨m,hm,rfl⟩:=h;unfold gu;have e:IntKind.i64.wrap (ofW m).2=m:=by show IntKind.i64.wrap (IntKind.u64.wrap m)=m;rw [wrap_u64,IntKind.wrap_i64];unfold cC at hm;omega
 rw [e,if_pos rfl]
theorem Hv(n:Int)(s:Sl It)(hok:okS 2 s)(h0:0<=n)(hn:n<=4096)(hl:s.l.length<=5000)(hs:∀x∈s.l,0<=x.1/\x.1<n/\cC x.2):∃v e,iX 1 n s=some (v,e)/\rC v/\v.1=n:=by
 obtain⟨v,e,h1,h2,h3⟩:=Hu 1 n s (by decide) hok h0 hn hl cC hs _ (abT n);refine⟨v,e,h1,h2,h3.resolve_right ?_⟩;rintro⟨x,hx,hb⟩;rw [MX hx]at hb;simp at hb
end Ev
end
noncomputable section
namespace Ev
open Go
theorem ZU{n:Int}(h:inK .u8 n):0<=n/\n<=255:=by simpa [inK,Lit.wf,IntKind.min,IntKind.max,IntKind.signed,IntKind.bits]using h
end Ev
end
noncomputable section
namespace Ev
open Go
end Ev
end
noncomputable section
namespace Ev
open Go
end Ev
end
noncomputable section
namespace Ev
open Go
theorem Ys{a b:Int×Int}(ha:eJ a.2)(hb:eJ b.2):vj a b=((a.1+b.1+(a.2+b.2)/ 18446744073709551616+9223372036854775808)% 18446744073709551616 - 9223372036854775808,(a.2+b.2)% 18446744073709551616):=by
 unfold eJ at ha hb;unfold vj;simp only [wrap_u64,IntKind.wrap_i64];split
 .refine Prod.ext ?_ rfl;simp only;omega
 .refine Prod.ext ?_ rfl;simp only;omega
end Ev
end
noncomputable section
namespace Ev
open Go
def toW(z:Int):Int×Int:=((z / 18446744073709551616+9223372036854775808)% 18446744073709551616 - 9223372036854775808,z % 18446744073709551616)
theorem UI(z:Int):eJ (toW z).2:=by unfold toW eJ;simp only;omega
theorem OU{n:Int}(h:cC n):ofW n=toW n:=by
 unfold ofW toW cC at*;rw [wrap_u64];refine Prod.ext ?_ rfl;simp only;split<;>omega
theorem Yt(a b:Int):vj (toW a) (toW b)=toW (a+b):=by
 rw [Ys (UI a) (UI b)];unfold toW;refine Prod.ext ?_ ?_<;>simp only<;>omega
theorem MY(z k:Int):toW (z+k*340282366920938463463374607431768211456)=toW z:=by
 unfold toW;refine Prod.ext ?_ ?_<;>simp only<;>omega
theorem pU(a b:Int):dt (toW a) (toW b)=some (toW (a+b)):=by rw [qS,Yt]
theorem OV{n:Int}(h:eJ n):kr .u64 n 4294967295=n % 4294967296:=by
 obtain⟨h0,h1⟩:=h;obtain⟨m,rfl⟩:=Int.eq_ofNat_of_zero_le h0;unfold kr;have hb:IntKind.u64.bits=64:=rfl;rw [hb,wrap_u64];have e1:(BitVec.ofInt 64 (m:Int)).toNat=m:=by rw [BitVec.toNat_ofInt];omega
 have e2:(BitVec.ofInt 64 4294967295).toNat=2 ^ 32 - 1:=by decide
 rw [BitVec.toNat_and,e1,e2,Nat.and_two_pow_sub_one_eq_mod];omega
theorem MZ{n:Int}(h:eJ n):rL .u64 n 32=some (n / 4294967296):=by
 unfold rL Rt;rw [if_pos (by decide)];have e:(2:Int)^(min (32:Int).toNat IntKind.u64.bits)=4294967296:=by decide
 rw [e,Int.fdiv_eq_ediv_of_nonneg _ (by decide)]
theorem vU{a b:Int}(ha:0<=a)(ha':a<=4294967295)(hb:0<=b)(hb':b<=4294967295):0<=a*b/\a*b<=18446744065119617025:=
 ⟨Int.mul_nonneg ha hb,by have:=Int.mul_le_mul ha' hb' hb (by decide);omega⟩
theorem oL{a b:Int}(ha:eJ a)(hb:eJ b):cX a b=some ((a % 4294967296)*(b % 4294967296),(a % 4294967296)*(b / 4294967296),(a / 4294967296)*(b % 4294967296),(a / 4294967296)*(b / 4294967296)):=by
 unfold cX;rw [MZ ha,MZ hb];simp only [zbS,OV ha,OV hb];unfold eJ at ha hb
 have w:∀{x y:Int},0<=x->x<=4294967295->0<=y->y<=4294967295->IntKind.u64.wrap (x*y)=x*y:=λh1 h2 h3 h4=>by
  have:=vU h1 h2 h3 h4
  rw [wrap_u64];exact Int.emod_eq_of_lt this.1 (by omega)
 rw [w (by omega) (by omega) (by omega) (by omega),w (by omega) (by omega) (by omega) (by omega),w (by omega) (by omega) (by omega) (by omega),w (by omega) (by omega) (by omega) (by omega)]
theorem vV{n:Int}(h:eJ n):fC (0,n) 32=some (toW (n*4294967296)):=by
 unfold fC;simp only;rw [if_neg (by decide),if_neg (by decide),if_neg (by decide)];have e1:IntKind.u64.wrap 0=0:=by decide
 have e2:IntKind.u64.wrap 32=32:=by decide
 have e3:IntKind.u64.wrap (IntKind.i64.wrap (64 - 32))=32:=by decide
 rw [e1,e2,e3,MZ h];unfold zB VW;have e:(2:Int)^(min (32:Int).toNat IntKind.u64.bits)=4294967296:=by decide
 simp only [e,zbS,if_pos (show(0:Int)<=32 by decide),Int.zero_mul,e1]
 have hor:orI .u64 0 (n / 4294967296)=n / 4294967296:=by
  unfold eJ at h;obtain⟨m,hm⟩:=Int.eq_ofNat_of_zero_le (show 0<=n / 4294967296 by omega);rw [hm];unfold orI;have hb:IntKind.u64.bits=64:=rfl;have e0:BitVec.ofInt 64 0=0#64:=by decide
  rw [hb,wrap_u64,e0,BitVec.zero_or,BitVec.toNat_ofInt];omega
 rw [hor,IntKind.wrap_i64,wrap_u64];unfold toW;unfold eJ at h;congr 1;refine Prod.ext ?_ ?_<;>simp only<;>omega
theorem rb{x y:Int}(hx:cC x)(hy:cC y):fh x y=some (toW (x*y)):=by
 unfold fh;have hux:=mL x;have huy:=mL y;have gx:IntKind.u64.wrap x=x+(if x<0 then 18446744073709551616 else 0):=by rw [wrap_u64];unfold cC at hx;split<;>omega
 have gy:IntKind.u64.wrap y=y+(if y<0 then 18446744073709551616 else 0):=by rw [wrap_u64];unfold cC at hy;split<;>omega
 generalize hX:IntKind.u64.wrap x=X at hux gx;generalize hY:IntKind.u64.wrap y=Y at huy gy;rw [oL hux huy];simp only [zbS];unfold eJ at hux huy;generalize ha:X % 4294967296=a;generalize hA:X / 4294967296=A;generalize hb:Y % 4294967296=b;generalize hB:Y / 4294967296=B;have hXe:X=A*4294967296+a:=by omega
 have hYe:Y=B*4294967296+b:=by omega
 have p0:=vU (a:=a) (b:=b) (by omega) (by omega) (by omega) (by omega);have p1:=vU (a:=a) (b:=B) (by omega) (by omega) (by omega) (by omega);have p2:=vU (a:=A) (b:=b) (by omega) (by omega) (by omega) (by omega);have p3:=vU (a:=A) (b:=B) (by omega) (by omega) (by omega) (by omega)
 have hXY:X*Y=(A*B)*18446744073709551616+(a*B+A*b)*4294967296+a*b:=by
  rw [hXe,hYe,Int.add_mul,Int.mul_add,Int.mul_add]
  have q1:A*4294967296*(B*4294967296)=A*B*18446744073709551616:=by
   rw [Int.mul_assoc,Int.mul_left_comm 4294967296 B,<-Int.mul_assoc];rfl
  have q2:A*4294967296*b=A*b*4294967296:=by rw [Int.mul_assoc,Int.mul_comm 4294967296 b,<-Int.mul_assoc]
  have q3:a*(B*4294967296)=a*B*4294967296:=by rw [Int.mul_assoc]
  rw [q1,q2,q3];omega
 generalize hab:a*b=ab at*;generalize haB:a*B=aB at*;generalize hAb:A*b=Ab at*;generalize hAB:A*B=AB at*;rw [vV (n:=aB) ⟨by omega,by omega⟩];simp only [zbS]
 have e0:((IntKind.i64.wrap AB,ab):Int×Int)=toW (AB*18446744073709551616+ab):=by
  rw [IntKind.wrap_i64];unfold toW;refine Prod.ext ?_ ?_<;>simp only<;>omega
 rw [e0,show((toW (aB*4294967296)).1,(toW (aB*4294967296)).2)=toW (aB*4294967296)from rfl,pU];simp only [zbS];rw [vV (n:=Ab) ⟨by omega,by omega⟩];simp only [zbS];rw [show∀z,((toW z).1,(toW z).2)=toW z from λ_=>rfl,show∀z,((toW z).1,(toW z).2)=toW z from λ_=>rfl,pU];simp only [zbS];have e1:AB*18446744073709551616+ab+aB*4294967296+Ab*4294967296=X*Y:=by omega
 rw [e1]
 have hsub:∀z w:Int,(IntKind.i64.wrap ((toW z).1 - w),(toW z).2)=toW (z - w*18446744073709551616):=λz w=>by
  rw [IntKind.wrap_i64];unfold toW;refine Prod.ext ?_ ?_<;>simp only<;>omega
 have hsub2:∀z w v:Int,(IntKind.i64.wrap (IntKind.i64.wrap ((toW z).1 - w) - v),(toW z).2)=toW (z - w*18446744073709551616 - v*18446744073709551616):=λz w v=>by
  rw [IntKind.wrap_i64,IntKind.wrap_i64];unfold toW;refine Prod.ext ?_ ?_<;>simp only<;>omega
 by_cases hx0:x<0
 .rw [if_pos hx0];rw [if_pos hx0]at gx;by_cases hy0:y<0
  .rw [if_pos hy0,hsub2];rw [if_pos hy0]at gy
   have:X*Y - y*18446744073709551616 - x*18446744073709551616=x*y+1*340282366920938463463374607431768211456:=by
    rw [gx,gy,Int.add_mul,Int.mul_add,Int.mul_add];rw [Int.mul_comm x 18446744073709551616];omega
   rw [this,MY]
  .rw [if_neg hy0,hsub];rw [if_neg hy0]at gy
   have:X*Y - y*18446744073709551616=x*y:=by
    rw [gx,gy,Int.add_zero,Int.add_mul,Int.mul_comm 18446744073709551616 y];omega
   rw [this]
 .rw [if_neg hx0];rw [if_neg hx0]at gx;by_cases hy0:y<0
  .rw [if_pos hy0,hsub];rw [if_pos hy0]at gy
   have:X*Y - x*18446744073709551616=x*y:=by
    rw [gx,gy,Int.add_zero,Int.mul_add];omega
   rw [this]
  .rw [if_neg hy0];rw [if_neg hy0]at gy;rw [gx,gy,Int.add_zero,Int.add_zero]
def pV:Int:=4611686018427387904
def pW(r x y:Int):Int×Int:=
 if r=1 then(if pV<=x∨pV<=y then ofW pV else kv (toW (x+y)) (ofW pV))
 else if r=2 then lJ (!decide (x=0)&& !decide (y=0))
 else if r=4 then(if pV<=x∨pV<=y then ofW pV else ofW y)
 else if r=3 then(if pV<=x∨pV<=y then ofW pV else ofW x)
 else if r=5 then toW (x*y)else(0,0)
theorem aeW:cC pV:=by unfold cC pV;omega
theorem nH(r:Int){x y:Int}(hx:cC x)(hy:cC y):eM r x y=some (pW r x y):=by
 have hi:=aeW;unfold eM pW;have hI:(4611686018427387904:Int)=pV:=rfl;rw [hI];by_cases h1:r=1
 .rw [if_pos h1,if_pos h1];by_cases c1:x >= pV
  .rw [if_pos c1,if_pos (.inl c1),dJ hi];rfl
  .rw [if_neg c1];by_cases c2:y >= pV
   .rw [if_pos c2,if_pos (.inr c2),dJ hi];rfl
   .rw [if_neg c2,if_neg (by omega),dJ hx,dJ hy];simp only [zbS];rw [show∀z,((ofW z).1,(ofW z).2)=ofW z from λ_=>rfl,show∀z,((ofW z).1,(ofW z).2)=ofW z from λ_=>rfl,OU hx,OU hy,pU];simp only [zbS];rw [dJ hi];simp only [zbS];rw [show∀z,((ofW z).1,(ofW z).2)=ofW z from λ_=>rfl,show∀z,((toW z).1,(toW z).2)=toW z from λ_=>rfl,mK];rfl
 .rw [if_neg h1,if_neg h1];by_cases h2:r=2
  .rw [if_pos h2,if_pos h2];by_cases c1:x=0
   .rw [if_neg (by simpa using c1),iW];simp [c1]
   .rw [if_pos c1];by_cases c2:y=0
    .rw [if_neg (by simpa using c2),iW];simp [c2]
    .rw [if_pos c2,iW];simp [c1,c2]
  .rw [if_neg h2,if_neg h2];by_cases h4:r=4
   .rw [if_pos h4,if_pos h4];by_cases c2:y >= pV
    .rw [if_pos c2,if_pos (.inr c2),dJ hi];rfl
    .rw [if_neg c2];by_cases c1:x >= pV
     .rw [if_pos c1,if_pos (.inl c1),dJ hi];rfl
     .rw [if_neg c1,if_neg (by omega),dJ hy];rfl
   .rw [if_neg h4,if_neg h4];by_cases h3:r=3
    .rw [if_pos h3,if_pos h3];by_cases c1:x >= pV
     .rw [if_pos c1,if_pos (.inl c1),dJ hi];rfl
     .rw [if_neg c1];by_cases c2:y >= pV
      .rw [if_pos c2,if_pos (.inr c2),dJ hi];rfl
      .rw [if_neg c2,if_neg (by omega),dJ hx];rfl
    .rw [if_neg h3,if_neg h3];by_cases h5:r=5
     .rw [if_pos h5,if_pos h5,rb hx hy];rfl
     .rw [if_neg h5,if_neg h5]
end Ev
end
noncomputable section
namespace Ev
open Go
def hd:List It->List It->Int×Option Int×Option Int×List It×List It
 | [],[]=>(0,none,none,[],[])
 |x::l,[]=>(x.1,some x.2,none,l,[])
 | [],y::m=>(y.1,none,some y.2,[],m)
 |x::l,y::m=>if x.1<=y.1 then(if y.1<=x.1 then(y.1,some x.2,some y.2,l,m)else(x.1,some x.2,none,l,y::m))else(y.1,none,some y.2,x::l,m)
abbrev MR:=List It ⊕(List It ⊕ Empty)
end Ev
end
noncomputable section
namespace Ev
open Go
def XF(q:Option (Option Int))(p:Int)(s t:Sl It)(o:List It):Option ((Sl It×Sl It×List It)⊕ MR):=
 match q with
 |none=>some (.inr (.inl o))
 |some none=>some (.inl (s,t,o))
 |some (some v)=>some (.inl (s,t,o++ [(p,v)]))
end Ev
end
noncomputable section
namespace Ev
open Go
theorem DU(n:Int)(s:Sl It)(hn:0<=n/\n<=255)(hok:okS 2 s)(hl:s.l.length<=9223372036854775807)(hv:∀x∈s.l,cC x.2):∃v,gw n s=some v/\rC v/\v.1=n.tmod 60:=by
 unfold gw;have hw:IntKind.i64.wrap n=n:=cY (by omega) (by omega)
 obtain⟨k,hk,k0,k1,k2⟩:∃k,jw n 60=some k/\0<=k/\k<60/\k=n.tmod 60:=by
  refine⟨n.tmod 60,by unfold jw;rw [if_pos (by omega)],?_,?_,rfl⟩
  .exact Int.tmod_nonneg _ hn.1
  .exact Int.tmod_lt_of_pos _ (by omega)
 rw [hw,hk];simp only [zbS]
 obtain⟨q,h1,l,rfl,h2,h3⟩:=cr (b:=eW s k) (if 0<k then min s.l.length 60 else 0) (λj a=>∃l,a=(l,(j:Int))/\l.length<=j/\∀x∈l,0<=x.1/\x.1<k/\cC x.2) (λq=>∃l,q= .inl l/\l.length<=60/\∀x∈l,0<=x.1/\x.1<k/\cC x.2)
  (by
   rintro j _ hj ⟨l,rfl,hlj,hlk⟩
   have hk0:0<k:=by
    by_cases c:0<k
    .exact c
    .rw [if_neg c]at hj;omega
   rw [if_pos hk0]at hj;have hj1:j<s.l.length:=by omega
   have hj2:j<60:=by omega
   simp only [eW,cg hok hj1,zbS,ci hj1 (by omega)];rw [if_pos (by omega),if_pos (by omega),if_pos (by omega)];by_cases c:s.l[j].1 >= 0
   .rw [if_pos c];have hm:jw s.l[j].1 k=some (s.l[j].1.tmod k):=by unfold jw;rw [if_pos (by omega)]
    have ha:app l [(s.l[j].1.tmod k,s.l[j].2)]=some (l++ [(s.l[j].1.tmod k,s.l[j].2)]):=ik (by simp;unfold cu;omega);simp only [hm,ha,zbS];refine .inl ⟨_,rfl,_,rfl,by simp;omega,λx hx=> ?_⟩;rcases List.mem_append.1 hx with hx|hx
    .exact hlk x hx
    .simp only [List.mem_singleton]at hx;subst hx;exact⟨Int.tmod_nonneg _ c,Int.tmod_lt_of_pos _ hk0,by have:=hv s.l[j] (List.getElem_mem hj1);exact this⟩
   .rw [if_neg c]
    exact .inl ⟨_,rfl,l,rfl,by omega,hlk⟩)
  (by
   rintro _ ⟨l,rfl,hlj,hlk⟩
   have hb:l.length<=60:=by
    by_cases c:0<k
    .rw [if_pos c]at hlj;omega
    .rw [if_neg c]at hlj;omega
   refine⟨.inl l,?_,l,rfl,hb,hlk⟩;simp only [eW];by_cases c:0<k
   .rw [if_pos c];by_cases c1:((min s.l.length 60:Nat):Int)<(s.l.length:Int)
    .rw [if_pos c1,if_neg (by omega)]
    .rw [if_neg c1]
   .rw [if_neg c];by_cases c1:((0:Nat):Int)<(s.l.length:Int)
    .rw [if_pos c1,if_pos (by omega),if_neg (by omega)]
    .rw [if_neg c1]) 0 (Nat.zero_le _) ([],0) ⟨[],rfl,Nat.le_refl _,λx hx=>by simp at hx⟩
 rw [h1];simp only [zbS,Sum.elim_inl];obtain⟨v,e,g1,g2,g3⟩:=Hv k (mo 2 l) (mS _) k0 (by omega) (by rw [iU];omega) (λx hx=>h3 x (by rw [iU]at hx;exact hx));rw [g1];exact⟨_,rfl,g2,by rw [g3,k2]⟩
theorem OW{n:Int}{r:List It}(h0:0<=n)(h1:n<=4096)(ha:asc (-1) n r=true)(hr:∀x∈r,cC x.2):rC (n,mo 2 r):=by
 refine⟨?_,mS _,by simpa only [iU]using hr⟩;unfold fk yF;simp only [iU,ha,decide_eq_true h0,decide_eq_true h1,Bool.and_self]
end Ev
end
noncomputable section
namespace Ev
open Go
theorem sr{v:Int×Sl It}(h:fk v=true):asc (-1) v.1 v.2.l=true:=by unfold fk at h;simp only [Bool.and_eq_true]at h;exact h.2
abbrev RR:=List It ⊕((Int×Sl It)×Int)
end Ev
end
noncomputable section
namespace Ev
open Go
theorem Na{j:Nat}(hj:j<1000000):wm .i64 (j:Int) 64=some ((j / 64:Nat):Int):=by
 unfold wm;rw [if_pos (by decide),Int.tdiv_eq_ediv_of_nonneg (by omega),cY (by omega) (by omega)];rfl
theorem Nb{j:Nat}:jw (j:Int) 64=some ((j % 64:Nat):Int):=by
 unfold jw;rw [if_pos (by decide),Int.tmod_eq_emod_of_nonneg (by omega)];rfl
theorem Yu{a b:Nat}(ha:a<18446744073709551616)(hb:b<18446744073709551616):kr .u64 (a:Int) (b:Int)=((a &&& b:Nat):Int):=by
 unfold kr;have hb':IntKind.u64.bits=64:=rfl;rw [hb',BitVec.toNat_and,BitVec.toNat_ofInt,BitVec.toNat_ofInt,wrap_u64];have e1:((a:Int)%((2 ^ 64:Nat):Int)).toNat=a:=by omega
 have e2:((b:Int)%((2 ^ 64:Nat):Int)).toNat=b:=by omega
 rw [e1,e2]
 have:a &&& b<2 ^ 64:=Nat.and_lt_two_pow a (by omega)
 omega
def gB(ws:List Int)(p:Nat):Bool:=match ws[p / 64]? with|some w=>w.toNat.testBit (p % 64)|none=>false
def qN(ws:List Int):Prop:=∀w∈ws,eJ w
theorem Yv(a k:Nat):a &&& 2 ^ k≠0↔a.testBit k=true:=by
 constructor
 .intro h
  cases hc:a.testBit k with
  |true=>rfl
  |false=>
   refine absurd (Nat.eq_of_testBit_eq λi=> ?_) h;rw [Nat.testBit_and,Nat.testBit_two_pow,Nat.zero_testBit];by_cases e:k=i
   .subst e;rw [hc];rfl
   .rw [decide_eq_false e,Bool.and_false]
 .intro h e
  have:(a &&& 2 ^ k).testBit k=false:=by rw [e];exact Nat.zero_testBit _
  rw [Nat.testBit_and,Nat.testBit_two_pow,h]at this;simp at this
theorem Nc{k:Nat}(hk:k<64):2 ^ k<18446744073709551616:=Nat.pow_lt_pow_right (by decide) hk
theorem iB(s:Sl Int)(p:Nat)(hok:okS 1 s)(hu:qN s.l)(hp:p<1000000):dv s (p:Int)=some (gB s.l p):=by
 unfold dv dL gB;simp only [Na hp,zbS];rw [if_pos (by omega)];by_cases h:p / 64<s.l.length
 .rw [if_pos (by omega)];simp only [zbS,if_true,cg hok h];have hw:=hu _ (List.getElem_mem h);have hg:s.l[p / 64]? =some s.l[p / 64]:=List.getElem?_eq_getElem h;rw [hg];obtain⟨w,hw2⟩:=Int.eq_ofNat_of_zero_le hw.1;rw [hw2]at hw ⊢;have hk:p % 64<64:=Nat.mod_lt _ (by decide);have hpow:=Nc hk
  have hb:dQ (p:Int)=some ((2 ^(p % 64):Nat):Int):=by
   unfold dQ;simp only [Nb,zbS];have e:IntKind.u64.wrap ((p % 64:Nat):Int)=((p % 64:Nat):Int):=by rw [wrap_u64];omega
   rw [e];unfold zB VW;rw [if_pos (by omega)]
   have hmin:min (((p % 64:Nat):Int)).toNat IntKind.u64.bits=p % 64:=by
    have:IntKind.u64.bits=64:=rfl
    omega
   rw [hmin,Int.one_mul,wrap_u64];simp only [zbS];congr 1
   have:(2:Int)^(p % 64)=((2 ^(p % 64):Nat):Int):=by simp
   rw [this];clear this;generalize 2 ^(p % 64)=z at hpow ⊢;omega
  rw [hb];simp only [zbS];rw [Yu (by have:=hw.2;omega) hpow];simp only [Int.toNat_natCast];have ht:=Yv w (p % 64)
  cases hc:w.testBit (p % 64)with
  |false=>rw [hc]at ht;rw [if_neg (λh=>by have:=ht.1 (λe=>h (by rw [e];rfl));simp at this)]
  |true=>rw [hc]at ht;rw [if_pos (by have:=ht.2 rfl;omega)]
 .rw [if_neg (by omega)];simp only [zbS,Bool.false_eq_true,if_false];rw [List.getElem?_eq_none (by omega)]
theorem Yw{s:Sl Int}(h:SlW 1 (λx=>inK .u64 x) s):qN s.l:=λx hx=>by
 have:=h.2.2.2 x hx
 simpa [inK,eJ,Lit.wf,IntKind.min,IntKind.max,IntKind.signed,IntKind.bits]using this
end Ev
end
noncomputable section
namespace Ev
open Go
theorem mE{ws:List Int}{p i k:Nat}{w:Int}(hp:p / 64=i)(hk:p % 64=k)(hw:ws[i]? =some w):gB ws p=w.toNat.testBit k:=by unfold gB;rw [hp,hk,hw]
theorem BC{ws:List Int}{p:Nat}(h:ws.length<=p / 64):gB ws p=false:=by unfold gB;rw [List.getElem?_eq_none h]
theorem abU{a b:Nat}(ha:a<18446744073709551616)(hb:b<18446744073709551616):orI .u64 (a:Int) (b:Int)=((a|||b:Nat):Int):=by
 unfold orI;have hb':IntKind.u64.bits=64:=rfl;rw [hb',BitVec.toNat_or,BitVec.toNat_ofInt,BitVec.toNat_ofInt,wrap_u64];have e1:((a:Int)%((2 ^ 64:Nat):Int)).toNat=a:=by omega
 have e2:((b:Int)%((2 ^ 64:Nat):Int)).toNat=b:=by omega
 rw [e1,e2]
 have:a|||b<2 ^ 64:=Nat.or_lt_two_pow (by omega) (by omega)
 omega
theorem Yx{p:Nat}:zB .u64 1 (IntKind.u64.wrap ((p % 64:Nat):Int))=some ((2 ^(p % 64):Nat):Int):=by
 have hk:p % 64<64:=Nat.mod_lt _ (by decide);have hpow:=Nc hk;have e:IntKind.u64.wrap ((p % 64:Nat):Int)=((p % 64:Nat):Int):=by rw [wrap_u64];omega
 rw [e];unfold zB VW;rw [if_pos (by omega)]
 have hmin:min (((p % 64:Nat):Int)).toNat IntKind.u64.bits=p % 64:=by
  have:IntKind.u64.bits=64:=rfl
  omega
 rw [hmin,Int.one_mul,wrap_u64];congr 1
 have:(2:Int)^(p % 64)=((2 ^(p % 64):Nat):Int):=by simp
 rw [this];clear this;generalize 2 ^(p % 64)=z at hpow ⊢;omega
theorem UJ(k i:Nat):gB (List.replicate k 0) i=false:=by
 unfold gB;rw [List.getElem?_replicate];split
 .rename_i h;split at h
  .simp only [zsI]at h;rw [<-h];simp
  .simp at h
 .rfl
end Ev
end
noncomputable section
namespace Ev
open Go
abbrev E3:=Int×Int×Int
def bel(a b:E3):Bool:=decide (a.1<b.1)||(decide (a.1=b.1)&& decide (a.2.1<b.2.1))
theorem bel_iff{a b:E3}:bel a b=true↔a.1<b.1∨a.1=b.1/\a.2.1<b.2.1:=by unfold bel;simp
def dm{α:Type}(l:List α)(k:Nat)(y:α):List α:=l.take k++y::l.drop k
theorem JI{α:Type}{l:List α}{k:Nat}(y:α):(dm l k y).length=l.length+1:=by unfold dm;simp;omega
theorem pP{α:Type}{l:List α}{k:Nat}(hk:k<=l.length)(y:α):(dm l k y)[k]? =some y:=by
 unfold dm;rw [List.getElem?_append_right (by rw [List.length_take];omega),List.length_take,Nat.min_eq_left hk,Nat.sub_self];rfl
theorem mT{α:Type}{l:List α}{k:Nat}(hk:k<=l.length)(y x:α):(dm l k y).set k x=dm l k x:=by
 unfold dm;rw [List.set_append_right _ _ (by rw [List.length_take];omega),List.length_take,Nat.min_eq_left hk,Nat.sub_self];rfl
theorem oU{α:Type}(l:List α)(y:α):dm l l.length y=l++ [y]:=by unfold dm;simp
theorem oV{α:Type}{l:List α}{k:Nat}(hk:k+1<=l.length)(y:α):(dm l (k+1) y)[k]? =some l[k]/\dm l (k+1) l[k]=dm l k l[k]:=by
 unfold dm;constructor
 .rw [List.getElem?_append_left (by simp;omega),List.getElem?_take,if_pos (by omega),List.getElem?_eq_getElem]
 .rw [List.take_succ_eq_append_getElem (by omega),List.append_assoc,List.drop_eq_getElem_cons (i:=k) (by omega)];rfl
theorem JJ{α:Type}{l:List α}{k:Nat}{y x:α}(h:x∈dm l k y):x=y∨x∈l:=by
 unfold dm at h;rcases List.mem_append.1 h with h|h
 .exact .inr (List.mem_of_mem_take h)
 .rcases List.mem_cons.1 h with h|h
  .exact .inl h
  .exact .inr (List.mem_of_mem_drop h)
abbrev RC:=(List E3×List (Int×Int)×Int)⊕((List E3×List (Int×Int))⊕(Sl E3×Int))
abbrev dF(l:List E3):Prop:=l.Pairwise λa b=>bel a b=true
end Ev
end
noncomputable section
namespace Ev
open Go
theorem ED{x:Nat}(h:x≠0):∃i,x.testBit i=true:=by
 by_cases hh:∃i,x.testBit i=true
 .exact hh
 .refine absurd (Nat.eq_of_testBit_eq (y:=0) λi=> ?_) h;rw [Nat.zero_testBit]
  cases hb:x.testBit i with
  |false=>rfl
  |true=>exact absurd ⟨i,hb⟩ hh
theorem Yy{w k:Nat}(hw:w<18446744073709551616)(hk:k<64):rL .u64 (w:Int) (IntKind.u64.wrap ((k:Nat):Int))=some ((w / 2 ^ k:Nat):Int):=by
 have e:IntKind.u64.wrap ((k:Nat):Int)=((k:Nat):Int):=by rw [wrap_u64];omega
 rw [e];unfold rL Rt;rw [if_pos (by omega)]
 have hmin:min (((k:Nat):Int)).toNat IntKind.u64.bits=k:=by
  have:IntKind.u64.bits=64:=rfl
  omega
 rw [hmin]
 have:(2:Int)^ k=((2 ^ k:Nat):Int):=by simp
 rw [this,Int.fdiv_eq_ediv_of_nonneg _ (Int.natCast_nonneg _)];rfl
theorem UK{w k:Nat}(hw:w<18446744073709551616)(h:w.testBit k=true):k<64:=by
 by_cases hk:k<64
 .exact hk
 .have:w<2 ^ k:=Nat.lt_of_lt_of_le (show w<2 ^ 64 by omega) (Nat.pow_le_pow_right (by decide) (by omega))
  rw [Nat.testBit_lt_two_pow this]at h;simp at h
theorem ZV{x:Nat}(h0:x≠0)(h:x<18446744073709551616):∃k:Nat,TZ (x:Int)=some (k:Int)/\k<64:=by
 unfold TZ;rw [if_pos (by omega)];exact⟨_,rfl,by simpa using (Lib.lowest_bit 64 x h0 h).2⟩
theorem Yz{n6 j:Int}{w:Nat}(hw:w<18446744073709551616)(h0:0<=n6/\n6<=100)(h1:0<=j/\j<=100):(w=0->aK (eX n6 j w) ()=some (.inr (.inl ())))/\(w≠0->∃z,0<=z/\aK (eX n6 j w) ()=some (.inl z)):=by
 constructor
 .intro h;exact jv (by unfold eX;rw [if_neg (by omega)])
 .intro h;obtain⟨k,hk,hlt⟩:=ZV h hw;refine⟨_,?_,jv (by unfold eX;rw [if_pos (by omega),hk];rfl)⟩;rw [cY (n:=n6+1) (by omega) (by omega),cY (n:=(n6+1)*64) (by omega) (by omega),cY (n:=j*64) (by omega) (by omega),cY (n:=j*64+(k:Int)) (by omega) (by omega),cY (by omega) (by omega)];omega
theorem BD(s:Sl Int)(n:Nat)(hok:okS 1 s)(hu:qN s.l)(hl:s.l.length<=64)(hn:n<=4096):∃z,mV s (n:Int)=some z/\(z<0↔∀p,n<=p->gB s.l p=false):=by
 unfold mV dL;have hm:ou (n:Int) 0=n:=by unfold ou;rw [if_neg (by omega)]
 rw [hm];simp only [Na (show n<1000000 by omega),zbS,Nb];rw [if_pos (by omega)];by_cases h:n / 64<s.l.length
 .rw [if_pos (by omega)];simp only [zbS,if_true,cg hok h];have hw:=hu _ (List.getElem_mem h);have hg:s.l[n / 64]? =some s.l[n / 64]:=List.getElem?_eq_getElem h;obtain⟨w,hw2⟩:=Int.eq_ofNat_of_zero_le hw.1;rw [hw2]at hw hg ⊢;have hwlt:w<18446744073709551616:=by have:=hw.2;omega
  rw [Yy hwlt (Nat.mod_lt _ (by decide))];simp only [zbS];have hle:w / 2 ^(n % 64)<=w:=Nat.div_le_self _ _;have hdv:∀i,(w / 2 ^(n % 64)).testBit i=w.testBit (i+n % 64):=λi=>by rw [Nat.testBit_div_two_pow]
  by_cases h0:w / 2 ^(n % 64)=0
  .rw [if_neg (by omega)]
   have hsame:∀p,p / 64=n / 64->n<=p->gB s.l p=false:=λp hp hnp=>by
    rw [mE hp rfl hg]
    have:=hdv (p % 64 - n % 64)
    rw [h0,Nat.zero_testBit,show p % 64 - n % 64+n % 64=p % 64 by omega]at this;simpa using this.symm
   have hcut:lA 1 s (IntKind.i64.wrap ((n / 64:Nat)+1)) ((s.l.length:Nat):Int)=some ⟨s.nn,s.sz,s.l.drop (n / 64+1)⟩:=by
    rw [ci h (by omega)];unfold lA;rw [if_pos ⟨by omega,by omega,by omega,.inl (hok.resolve_left (by intro e;rw [e]at h;simp at h))⟩];simp only [Int.toNat_natCast];rw [List.take_of_length_le (by simp)]
   rw [hcut];simp only [zbS];have hdm:∀x∈s.l.drop (n / 64+1),eJ x:=λx hx=>hu x (List.mem_of_mem_drop hx);have hdl:(s.l.drop (n / 64+1)).length+(n / 64+1)=s.l.length:=by simp;omega
   have hdg:∀i,(s.l.drop (n / 64+1))[i]? =s.l[n / 64+1+i]? :=λi=>List.getElem?_drop;generalize s.l.drop (n / 64+1)=d at hdm hdl hdg
   have hget:∀i (hi:i<d.length) (h2:n / 64+1+i<s.l.length),d[i]=s.l[n / 64+1+i]:=λi hi h2=>by
    have:=hdg i
    rw [List.getElem?_eq_getElem hi,List.getElem?_eq_getElem h2]at this;exact Option.some.inj this
   obtain⟨q,q1,q2⟩:=cr (b:=gR ((n / 64:Nat):Int) ⟨s.nn,s.sz,d⟩) d.length (λj a=>a=(j:Int)/\∀i (h:i<d.length),i<j->d[i]=0) (λq=>(∃z,q= .inl z/\0<=z/\∃i,∃h:i<d.length,d[i]≠0)∨(q= .inr (.inl ())/\∀i (h:i<d.length),d[i]=0))
    (by
     rintro j _ hj ⟨rfl,ha⟩;have hok':okS 1 (⟨s.nn,s.sz,d⟩:Sl Int):= .inr (hok.resolve_left (by intro e;rw [e]at h;simp at h));have hjl:j<64:=by omega
     have hv:=hdm _ (List.getElem_mem hj);simp only [gR,cg hok' hj,zbS];rw [if_pos (show(j:Int)<((d.length:Nat):Int)by omega)];obtain⟨v,hv2⟩:=Int.eq_ofNat_of_zero_le hv.1;have hvlt:v<18446744073709551616:=by have:=hv.2;omega
     have hin:=Yz (n6:=((n / 64:Nat):Int)) (j:=(j:Int)) hvlt ⟨by omega,by omega⟩ ⟨by omega,by omega⟩;rw [hv2];by_cases v0:v=0
     .rw [hin.1 v0];refine .inl ⟨_,rfl,by rw [ci hj (by omega)],λi hi hij=> ?_⟩;by_cases e:i=j
      .subst e;omega
      .exact ha i hi (by omega)
     .obtain⟨z,z0,hz⟩:=hin.2 v0;rw [hz]
      exact .inr ⟨_,rfl,.inl ⟨z,rfl,z0,j,hj,by omega⟩⟩)
    (by
     rintro _ ⟨rfl,ha⟩
     refine⟨_,if_neg (show¬((d.length:Nat):Int)<((d.length:Nat):Int)by omega),.inr ⟨rfl,λi hi=>ha i hi hi⟩⟩) 0 (Nat.zero_le _) 0 ⟨rfl,λi hi h0=>absurd h0 (by omega)⟩
   rw [q1];rcases q2 with⟨z,rfl,z0,i,hi,hne⟩|⟨rfl,hz⟩
   .refine⟨z,rfl,?_⟩;constructor
    .intro hh;omega
    .intro hh;exfalso;have hi':n / 64+1+i<s.l.length:=by omega
     rw [hget i hi hi']at hne;have hv:=hu _ (List.getElem_mem hi');obtain⟨v,hv2⟩:=Int.eq_ofNat_of_zero_le hv.1;rw [hv2]at hne hv;obtain⟨k,hk⟩:=ED (x:=v) (by omega);have hk2:=UK (by have:=hv.2;omega) hk
     have:=hh (64*(n / 64+1+i)+k) (by omega)
     rw [mE (i:=n / 64+1+i) (k:=k) (w:=(v:Int)) (by omega) (by omega) (by rw [List.getElem?_eq_getElem hi',hv2])]at this;simp only [Int.toNat_natCast]at this;rw [hk]at this;simp at this
   .refine⟨-1,rfl,?_⟩;refine⟨λ_ p hp=> ?_,λ_=>by decide⟩;by_cases e:p / 64=n / 64
    .exact hsame p e hp
    .by_cases hlen:p / 64<s.l.length
     .have hd:p / 64 - (n / 64+1)<d.length:=by omega
      have:=hz _ hd
      rw [hget _ hd (by omega)]at this;rw [mE (w:=0) rfl rfl (by rw [List.getElem?_eq_getElem hlen,<-this];congr 2;omega)];simp
     .exact BC (by omega)
  .rw [if_pos (by omega)];obtain⟨k,hk,hk2⟩:=ZV h0 (by omega);rw [hk];refine⟨_,rfl,?_⟩;rw [cY (by omega) (by omega)];constructor
   .intro hh;omega
   .intro hh;exfalso;obtain⟨i,hi⟩:=ED h0;rw [hdv]at hi
    have:=UK hwlt hi
    have h2:=hh (64*(n / 64)+(i+n % 64)) (by omega);rw [mE (i:=n / 64) (k:=i+n % 64) (by omega) (by omega) hg]at h2;simp only [Int.toNat_natCast]at h2;rw [hi]at h2;simp at h2
 .rw [if_neg (by omega)];simp only [zbS,Bool.false_eq_true,if_false];refine⟨-1,rfl,?_⟩;exact⟨λ_ p hp=>BC (by omega),λ_=>by decide⟩
theorem mR{n:Int}(h:0<=n/\n<=4096):dU n=some ((n+63)/ 64):=by
 unfold dU;have e1:ou n 0=n:=by unfold ou;rw [if_neg (by omega)]
 have e2:Ru n 4096=n:=by unfold Ru;rw [if_neg (by omega)]
 rw [e1,e2,cY (by omega) (by omega)];unfold wm;rw [if_pos (by decide),Int.tdiv_eq_ediv_of_nonneg (by omega),cY (by omega) (by omega)];rfl
def vW(ws:List Int):List Int:=((List.range (64*ws.length)).filter (gB ws)).map λp:Nat=>(p:Int)
def eo(n:Int):Bool:=decide (0<=n)&& decide (n<=4096)
def ur(ws:List Int)(n:Int):Bool:=eo n &&(decide ((ws.length:Int)=(n+63)/ 64)&&(vW ws).all λp=>decide (p<n))
theorem places_mem{ws:List Int}{p:Int}:p∈vW ws↔0<=p/\gB ws p.toNat=true:=by
 unfold vW;simp only [List.mem_map,List.mem_filter,List.mem_range];constructor
 .rintro⟨q,⟨h1,h2⟩,rfl⟩;exact⟨by omega,by simpa using h2⟩
 .rintro⟨h1,h2⟩;refine⟨p.toNat,⟨?_,h2⟩,by omega⟩;by_cases hh:p.toNat<64*ws.length
  .exact hh
  .rw [BC (by omega)]at h2;simp at h2
theorem BE(s:Sl Int)(n:Int)(hok:okS 1 s)(hu:qN s.l)(hl:s.l.length<=9223372036854775807):lq s n=some (ur s.l n):=by
 unfold lq ur eo;by_cases h1:0<=n
 .rw [if_pos (show n >= 0 from h1),decide_eq_true h1];by_cases h2:n<=4096
  .rw [if_pos h2,decide_eq_true h2,mR ⟨h1,h2⟩];simp only [zbS,Bool.and_self,Bool.true_and];by_cases h3:((s.l.length:Nat):Int)=(n+63)/ 64
   .rw [if_pos h3,decide_eq_true h3];obtain⟨k,rfl⟩:=Int.eq_ofNat_of_zero_le h1;obtain⟨z,z1,z2⟩:=BD s k hok hu (by omega) (by omega);rw [z1];simp only [zbS,Bool.true_and]
    have key:(vW s.l).all (λp=>decide (p<(k:Int)))=true↔z<0:=by
     rw [z2,List.all_eq_true];constructor
     .intro h p hp
      cases hb:gB s.l p with
      |false=>rfl
      |true=>have:=h (p:Int) (places_mem.2 ⟨by omega,by simpa using hb⟩);simp at this;omega
     .intro h p hp;obtain⟨p0,p1⟩:=places_mem.1 hp;rw [decide_eq_true_eq];by_cases hh:p<(k:Int)
      .exact hh
      .rw [h p.toNat (by omega)]at p1;simp at p1
    by_cases hz:z<0
    .rw [if_pos hz,key.2 hz]
    .rw [if_neg hz,Bool.eq_false_iff.2 λe=>hz (key.1 e)]
   .rw [if_neg h3,decide_eq_false h3];simp
  .rw [if_neg h2,decide_eq_false h2];simp
 .rw [if_neg (show¬n >= 0 from h1),decide_eq_false h1];simp
end Ev
end
noncomputable section
namespace Ev
open Go
def mW(d:Int×Sl Int×Sl Int):Bool:=ur d.2.1.l d.1 &&(decide ((d.2.2.l.length:Int)=d.1)&&(List.range d.2.2.l.length).all λi=>decide (d.2.2.l.getD i 0=0)||gB d.2.1.l i)
theorem kW{l:List Int}{i:Nat}(h:i<l.length):l.getD i 0=l[i]:=by rw [List.getD_eq_getElem?_getD,List.getElem?_eq_getElem h];rfl
theorem all_range{n:Nat}{f:Nat->Bool}:(List.range n).all f=true↔∀i,i<n->f i=true:=by
 rw [List.all_eq_true];exact⟨λh i hi=>h i (by simpa using hi),λh i hi=>h i (by simpa using hi)⟩
theorem oM{n:Nat}{f:Nat->Bool}{i:Nat}(hi:i<n)(h:f i=false):(List.range n).all f=false:=by
 rw [Bool.eq_false_iff];intro e;have:=all_range.1 e i hi;rw [h]at this;simp at this
structure OkD(d:Int×Sl Int×Sl Int):Prop where
 has:okS 1 d.2.1
 bits:qN d.2.1.l
 vals:okS 1 d.2.2
 v64:∀x∈d.2.2.l,cC x
 hl:d.2.1.l.length<=9223372036854775807
 vl:d.2.2.l.length<=9223372036854775807
theorem BF{d:Int×Sl Int×Sl Int}(h:OkD d):lu d=some (mW d):=by
 obtain⟨n,s,t⟩:=d;obtain⟨h1,h2,h3,h4,h5,h6⟩:=h;simp only at h1 h2 h3 h4 h5 h6;unfold lu mW;simp only [BE s n h1 h2 h5,zbS]
 cases hr:ur s.l n with
 |false=>simp
 |true=>
  simp only [if_true,Bool.true_and];by_cases hn:((t.l.length:Nat):Int)=n
  .rw [if_neg (λh=>h hn),decide_eq_true hn];simp only [Bool.true_and];have hb:n<=4096:=by unfold ur eo at hr;simp only [Bool.and_eq_true,decide_eq_true_eq]at hr;exact hr.1.2
   obtain⟨q,q1,q2⟩:=cr (b:=gl s t) t.l.length (λj a=>a=(j:Int)/\∀i,i<j->(decide (t.l.getD i 0=0)||gB s.l i)=true) (λq=>((List.range t.l.length).all (λi=>decide (t.l.getD i 0=0)||gB s.l i)=true/\q= .inl ())∨((List.range t.l.length).all (λi=>decide (t.l.getD i 0=0)||gB s.l i)=false/\q= .inr false))
    (by
     rintro j _ hj ⟨rfl,ha⟩;have hh:=iB s j h1 h2 (by omega);have hd:=kW hj;simp only [gl,cg h3 hj,zbS,hh,ci hj (by omega)];rw [if_pos (by omega)]
     have next:(decide (t.l.getD j 0=0)||gB s.l j)=true->∀i,i<j+1->(decide (t.l.getD i 0=0)||gB s.l i)=true:=λh i hi=>by
      by_cases e:i=j
      .rw [e];exact h
      .exact ha i (by omega)
     by_cases h0:t.l[j]=0
     .rw [if_neg (λh=>h h0)];exact .inl ⟨_,rfl,rfl,next (by rw [hd,decide_eq_true h0];rfl)⟩
     .rw [if_pos h0]
      cases hb:gB s.l j with
      |true=>exact .inl ⟨_,rfl,rfl,next (by rw [hb];simp)⟩
      |false=>exact .inr ⟨_,rfl,.inr ⟨oM hj (by rw [hd,hb,decide_eq_false h0];rfl),rfl⟩⟩)
    (by
     rintro _ ⟨rfl,ha⟩
     exact⟨_,if_neg (by omega),.inl ⟨all_range.2 ha,rfl⟩⟩) 0 (Nat.zero_le _) 0 ⟨rfl,λi hi=>absurd hi (by omega)⟩
   rw [q1];rcases q2 with⟨e,rfl⟩|⟨e,rfl⟩<;>rw [e]<;>rfl
  .rw [if_pos hn,decide_eq_false hn];simp
theorem Ks{d:Int×Sl Int×Sl Int}(h:mW d=true):0<=d.1/\d.1<=4096/\(d.2.1.l.length:Int)=(d.1+63)/ 64/\(∀p∈vW d.2.1.l,0<=p/\p<d.1)/\(d.2.2.l.length:Int)=d.1:=by
 unfold mW ur eo at h;simp only [Bool.and_eq_true,decide_eq_true_eq,List.all_eq_true]at h;obtain⟨⟨⟨a,b⟩,c,e⟩,f,g⟩:=h;exact⟨a,b,c,λp hp=>⟨(places_mem.1 hp).1,e p hp⟩,f⟩
theorem OX{n:Int}(f:Int->Int):∀{l:List Int} {a:Int},l.Pairwise (·<·)->(∀p∈l,a<p/\p<n)->asc a n (l.map λp=>(p,f p))=true
 | [],a,_,_=>rfl
 |x::l,a,h1,h2=>by
  rw [List.pairwise_cons]at h1;have hx:=h2 x List.mem_cons_self;simp only [List.map_cons,asc,Bool.and_eq_true,decide_eq_true_eq];exact⟨hx,OX f h1.2 λp hp=>⟨h1.1 p hp,(h2 p (List.mem_cons_of_mem _ hp)).2⟩⟩
def mq(d:Int×Sl Int×Sl Int)(k:Int):Option Int:=if 0<=k/\gB d.2.1.l k.toNat=true then some (d.2.2.l.getD k.toNat 0)else none
end Ev
end
noncomputable section
namespace Ev
open Go
abbrev Mx:=Int×Int×Sl Int×Sl Int×Sl Int
def jN(a n:Int)(l:List Int):Bool:=asc a n (l.map λk=>(k,0))
theorem oO(a n x:Int)(l:List Int):jN a n (x::l)=(decide (a<x)&& decide (x<n)&& jN x n l):=rfl
theorem ascI_iff{n:Int}{l:List Int}:jN (-1) n l=true↔∀j (h:j<l.length),0<=l[j]/\l[j]<n/\(j≠0->l[j - 1]'(by omega)<l[j]):=by
 unfold jN;rw [asc_iff'];constructor
 .intro h j hj
  have:=h j (by simpa using hj)
  simpa using this
 .intro h j hj
  have:=h j (by simpa using hj)
  simpa using this
def gg{α:Type}(l:List α)(f t:Int):List α:=(l.drop f.toNat).take (t.toNat - f.toNat)
theorem lk{α:Type}{l:List α}{f t:Int}(h:0<=f/\f<=t/\t<=l.length):(gg l f t).length=t.toNat - f.toNat:=by
 unfold gg;simp;omega
theorem Kt{α:Type}{l:List α}{f t:Int}(h:0<=f/\f<=t/\t<=l.length){j:Nat}(hj:j<t.toNat - f.toNat):(gg l f t)[j]'(by rw [lk h];exact hj)=l[f.toNat+j]'(by omega):=by
 unfold gg;simp
def iM(c:Int)(st co:List Int)(i:Nat):Bool:=decide (0<=st.getD i 0)&&(decide (st.getD i 0<=st.getD (i+1) 0)&&(decide (st.getD (i+1) 0<=co.length)&& jN (-1) c (gg co (st.getD i 0) (st.getD (i+1) 0))))
def eK(m:Mx):Bool:=eo m.1 &&(eo m.2.1 &&(decide ((m.2.2.1.l.length:Int)=m.1+1)&&(decide (m.2.2.1.l.getD 0 0=0)&&(decide (m.2.2.2.1.l.length=m.2.2.2.2.l.length)&&(decide (m.2.2.2.1.l.length<=65536)&&(decide (m.2.2.1.l.getD m.1.toNat 0=m.2.2.2.1.l.length)&&(List.range m.1.toNat).all (iM m.2.1 m.2.2.1.l m.2.2.2.1.l)))))))
structure OkM(m:Mx):Prop where
 st:okS 1 m.2.2.1
 co:okS 1 m.2.2.2.1
 va:okS 1 m.2.2.2.2
 v64:∀x∈m.2.2.2.2.l,cC x
 sl:m.2.2.1.l.length<=9223372036854775807
 cl:m.2.2.2.1.l.length<=9223372036854775807
 vl:m.2.2.2.2.l.length<=9223372036854775807
theorem nI{n:Nat}{c:Int}{st co:List Int}{i:Nat}(hi:i<n)(h:iM c st co i=false):(List.range n).all (iM c st co)=false:=oM hi h
theorem sizeF_iff{n:Int}:eo n=true↔0<=n/\n<=4096:=by unfold eo;simp
theorem Ku:∀(l:List Int) (a n:Int),KM.jN a n l=jN a n l
 | [],_,_=>rfl
 |x::l,a,n=>by rw [KM.oO,oO,Ku l]
theorem QP(c:Int)(st co:List Int):KM.iM c st co=iM c st co:=by
 funext i;unfold KM.iM iM;rw [Ku];rfl
theorem Nd(m:Mx):KM.eK m=eK m:=by
 unfold KM.eK eK;rw [QP];rfl
theorem pM{m:Mx}(h:OkM m):eZ m=some (eK m):=(KM.yA ⟨h.st,h.co,h.va,h.v64,h.sl,h.cl,h.vl⟩).trans (congrArg some (Nd m))
def nR(m:Mx):Mx:=if eK m=true then m else(0,0,⟨true,1,[0]⟩,iE,iE)
theorem vE{m:Mx}(h:OkM m):iy m=some (nR m):=by
 have hR:=pM h;obtain⟨n,c,s,t,v⟩:=m;unfold iy nR;simp only [hR,zbS];split<;>rfl
theorem UL{m:Mx}(h:OkM m):OkM (nR m):=by
 unfold nR;split
 .exact h
 .exact⟨.inr rfl,jp,jp,λx hx=>by simp [iE]at hx,by simp,by simp [iE],by simp [iE]⟩
theorem yG(m:Mx):eK (nR m)=true:=by unfold nR;split;assumption;rfl
theorem lw{m:Mx}(h:eK m=true):(0<=m.1/\m.1<=4096)/\(0<=m.2.1/\m.2.1<=4096)/\(m.2.2.1.l.length:Int)=m.1+1/\m.2.2.2.1.l.length=m.2.2.2.2.l.length/\m.2.2.2.1.l.length<=65536/\∀i:Nat,(i:Int)<m.1->0<=m.2.2.1.l.getD i 0/\m.2.2.1.l.getD i 0<=m.2.2.1.l.getD (i+1) 0/\m.2.2.1.l.getD (i+1) 0<=m.2.2.2.1.l.length/\jN (-1) m.2.1 (gg m.2.2.2.1.l (m.2.2.1.l.getD i 0) (m.2.2.1.l.getD (i+1) 0))=true:=by
 unfold eK at h;simp only [Bool.and_eq_true,decide_eq_true_eq,sizeF_iff]at h;obtain⟨h1,h2,h3,h4,h5,h6,h7,h8⟩:=h;refine⟨h1,h2,h3,h5,h6,λi hi=> ?_⟩
 have:=all_range.1 h8 i (by omega)
 unfold iM at this;simpa only [Bool.and_eq_true,decide_eq_true_eq]using this
end Ev
end
end Go.Proofs.YtjjbpdldbdmoeaaGreatDoor
