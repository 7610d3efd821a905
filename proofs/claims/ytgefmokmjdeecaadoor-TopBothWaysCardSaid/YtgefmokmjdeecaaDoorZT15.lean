/- Texts of a claim, joined. -/
import Derived.Test.YtgefmokmjdeecaaDoorZT14
import Derived.Test.YtgefmokmjdeecaaDoorZT6
import Derived.Test.YtgefmokmjdeecaaDoorZT11
import Derived.Test.YtgefmokmjdeecaaDoorZT12
import Derived.Test.YtgefmokmjdeecaaDoorZT13
import Derived.Test.YtgefmokmjdeecaaDoorZT10
import Derived.KernelRfl
set_option linter.unusedVariables false
set_option linter.unusedSimpArgs false
namespace Go.Proofs.YtgefmokmjdeecaaDoor
noncomputable section
namespace Ev
open Go
set_option maxRecDepth 100000
set_option maxHeartbeats 1000000
attribute [local irreducible] el StL TnL WpL dz
def jp(a0:Int×(Int×Int)×(Sl (Int×Int×Int))×(Sl (Int×Int))×(Sl (Int×Int))×Sl (Int)×Bool):Option (Bool):=
 match a0 with
 |(n1,(n2,n3),s4,s5,s6,s7,b8)=>((ia n1).bind fun n11=>((fj (n1,(n2,n3),s4,s5,s6,s7,b8)).bind fun(n26,n27,s28,s29,s30)=>((fk (n1,(n2,n3),s4,s5,s6,s7,b8) s5).bind fun(n32,s33)=>((gE (n1,(n2,n3),s4,s5,s6,s7,b8)).bind fun s35=>((uw (n26,n27,s28,s29,s30)).bind fun(n38,n39,s40,s41,s42,s43)=>((mG n11 (n38,n39,s40,s41,s42,s43) (n32,s33) s35 b8).bind fun((n46,s47),n48)=>((oC (n32,s33)).bind fun(n60,s61,s62)=>((mJ n11 (n26,n27,s28,s29,s30) (n60,s61,s62) s35 b8).bind fun((n64,s65),n66)=>((jH 5 1 (⟨true,3,([(0,(0,4))]:List (Int×(Int×Int)))⟩:Sl (Int×(Int×Int)))).bind fun((n69,s70),n71)=>(if((s70.l.length:Nat):Int)=1 then(if n48=n66 then((mK (n46,s47) (n64,s65)).bind fun b76=>(if b76=true then((mL n27 1).bind fun(n78,s79)=>((my (n38,n39,s40,s41,s42,s43) (n78,s79)).bind fun n81=>((gK (n26,n27,s28,s29,s30)).bind fun n83=>(if n81=n83 then some true else some false))))else some false))else some false)else some false))))))))))
theorem uy(m:Nat){a0:Int×(Int×Int)×(Sl (Int×Int×Int))×(Sl (Int×Int))×(Sl (Int×Int))×Sl (Int)×Bool}{out:Bool}(h:jp a0=some out):RunsP E1 (m+8) 3 [.agg (r27 a0)] (.fresh,[.one (bT out)]):=by
 obtain⟨n1,⟨n2,n3⟩,s4,s5,s6,s7,b8⟩:=a0;refine eI rfl (by rw [bp];exact show aU Tryd.prog 3=_ by unfold aU;rw [Tryd.func3];unfold Tryd.f3;rfl) rfl ?_;dsimp only;unfold jp at h;refine lS (lO ?_);refine av rfl rfl rfl (ci QR rfl (cs:= [iI n1,iC .u8 n2,iC .u8 n3,sF r86 s4,sF r65 s5,sF r65 s6,sF r50 s7,bC b8]) rfl rfl) (fun k9=> ?_);refine pq (qa bf) ?_;refine oN ?_;refine pq (ah rfl IR rfl) ?_;refine pq (ql (iO n1) 0 vO) ?_;obtain⟨n11,h10,h⟩:=aq h;refine pq (qc (iO n11) [iO n1] (nU (m+6) h10) (af (am an) ak)) ?_;refine pq (qa (iO n11)) ?_;refine oE (eS (lS ?_));refine eA (L2:=([[(k9,8,[[iI n1,iC .u8 n2,iC .u8 n3,sF r86 s4,sF r65 s5,sF r65 s6,sF r50 s7,bC b8]])]]:BL)) [0] (by decide) rfl ?_;refine ez 13 rfl [[],[],[],[],[],[],[],[],[],[],[],[],[]] [(false,[]),(false,[]),(false,[]),(false,[]),(false,[]),(false,[]),(false,[]),(false,[]),(true,[]),(true,[]),(false,[8]),(false,[9]),(false,[])] [[2,3,4,6,8,9],[2,3,4,6,8,9],[0,1,3,4,6,8,9],[0,1,2,6,8,9],[0,1,2,6,8,9],[6,8,9],[0,1,2,3,4,5,8,9],[8,9],[0,1,2,3,4,5,6,7,9],[0,1,2,3,4,5,6,7,8],[],[],[]] (by kernel_rfl) (by kernel_rfl) (by kernel_rfl) ?_ (fun bb12 hlt hnd=> ?_);intro bb12 hlt hnd;exact⟨⟨djE,⟨djE,⟨djE,⟨djE,⟨djE,⟨djE,⟨djE,⟨djE,⟨djE,⟨djE,⟨djE,⟨djE,⟨djE,trivial⟩⟩⟩⟩⟩⟩⟩⟩⟩⟩⟩⟩⟩,(ai aj (ai aj (ai aj (ai aj (ai aj (ai aj (ai aj (ai aj (ai aj (ai aj (ai aj (ai aj (ai aj ea)))))))))))))⟩;refine tq [0] rfl (hmc (cq (aD (aw hlt 0 rfl)) (cq (aD (aw hlt 0 rfl)) dZ)) hmn) (ql (.agg [iI n1,iC .u8 n2,iC .u8 n3,sF r86 s4,sF r65 s5,sF r65 s6,sF r50 s7,bC b8]) 0 UF) ?_;obtain⟨⟨n26,n27,s28,s29,s30⟩,h25,h⟩:=aq h;refine tq [] rfl hmn (qc (.agg [iI n26,iI n27,sC r3 s28,sC r3 s29,sC r2 s30]) [.agg [iI n1,iC .u8 n2,iC .u8 n3,sF r86 s4,sF r65 s5,sF r65 s6,sF r50 s7,bC b8]] (rX (m+4) h25) (af (au (ae an (ae an (ae an (ae aM (ae aM (ae aM (ae aM (ae an ar))))))))) ak)) ?_;refine tq [0] rfl (hmc (cq (aD (aw hlt 0 rfl)) (cq (aD (aw hlt 0 rfl)) dZ)) hmn) (ql (.agg [iI n1,iC .u8 n2,iC .u8 n3,sF r86 s4,sF r65 s5,sF r65 s6,sF r50 s7,bC b8]) 0 UF) ?_;refine tq [] rfl hmn (ah rfl UH rfl) ?_;refine tq [0] rfl (hmc (cq (aD (aw hlt 0 rfl)) (cq (aD (aw hlt 0 rfl)) dZ)) hmn) (ql (.one (sF r65 s5)) 0 ni) ?_;obtain⟨⟨n32,s33⟩,h31,h⟩:=aq h;refine tq [] rfl hmn (qc (.agg [iI n32,sC r65 s33]) [.agg [iI n1,iC .u8 n2,iC .u8 n3,sF r86 s4,sF r65 s5,sF r65 s6,sF r50 s7,bC b8],.one (sF r65 s5)] (rY (m+3) h31) (af (au (ae an (ae an (ae an (ae aM (ae aM (ae aM (ae aM (ae an ar))))))))) (af (am aM) ak))) ?_;refine tq [0] rfl (hmc (cq (aD (aw hlt 0 rfl)) (cq (aD (aw hlt 0 rfl)) dZ)) hmn) (ql (.agg [iI n1,iC .u8 n2,iC .u8 n3,sF r86 s4,sF r65 s5,sF r65 s6,sF r50 s7,bC b8]) 0 UF) ?_;obtain⟨s35,h34,h⟩:=aq h;refine Rz rfl rfl rfl [] (by decide) rfl hmn rfl (rK (v:=fun fr36=> .one (.p fr36 (Sl.t r50 s35))) (args:= [.agg [iI n1,iC .u8 n2,iC .u8 n3,sF r86 s4,sF r65 s5,sF r65 s6,sF r50 s7,bC b8]]) (uv (m+6) h34) rfl rfl (af (au (ae an (ae an (ae an (ae aM (ae aM (ae aM (ae aM (ae an ar))))))))) ak) rfl rfl (fun fr=>rfl)) (fun fr36=> ?_);refine eL rfl rfl rfl [] (by decide) rfl hmn rfl rfl (hkc (aD (aw hlt 0 rfl)) hkn) (aF yY (row:= [iI 0,iI 0,nC,nC,nC]) rfl rfl) ?_;refine eL rfl rfl rfl [] (by decide) rfl hmn rfl rfl (hkc (pZ rfl) (hkc (aD (aw hlt 0 rfl)) hkn)) (aF eT (row:= [iI 0,nC]) rfl rfl) ?_;refine kw rfl rfl [1] (by decide) rfl (hm0 rfl) rfl (cO (es':= [[iI n26,iI n27,sC r3 s28,sC r3 s29,sC r2 s30]]) 0 rfl rfl rfl oq rfl rfl rfl rfl rfl) (q:=1) rfl rfl ?_;refine kw rfl rfl [0] (by decide) rfl (hm0 rfl) rfl (cO (es':= [[iI n32,sC r65 s33]]) 0 rfl rfl rfl cj rfl rfl rfl rfl rfl) (q:=0) rfl rfl ?_;refine tq [] rfl (hm0 rfl) (qa (.one (.p fr36 (Sl.t r50 s35)))) ?_;refine fc (eS (lS (lO ?_)));refine pq (ql (.agg [iI n26,iI n27,sC r3 s28,sC r3 s29,sC r2 s30]) 1 oq) ?_;obtain⟨⟨n38,n39,s40,s41,s42,s43⟩,h37,h⟩:=aq h;refine pq (qc (.agg [iI n38,iI n39,sC r3 s40,sC r3 s41,sC r3 s42,sC r2 s43]) [.agg [iI n26,iI n27,sC r3 s28,sC r3 s29,sC r2 s30]] (Mp (m+5) h37) (af (au (ae an (ae an (ae aM (ae aM (ae aM ar)))))) ak)) ?_;refine av rfl rfl rfl (aF xR (row:= [iI 0,iI 0,nC,nC,nC,nC]) rfl rfl) (fun k44=> ?_);refine ow [[iI n38,iI n39,sC r3 s40,sC r3 s41,sC r3 s42,sC r2 s43]] 0 nQ ?_;refine oN ?_;refine pq (qm (iO n11)) ?_;refine pq (ql (.agg [iI n38,iI n39,sC r3 s40,sC r3 s41,sC r3 s42,sC r2 s43]) 0 nQ) ?_;refine pq (ql (.agg [iI n32,sC r65 s33]) 1 cj) ?_;refine pq (qm (.one (.p fr36 (Sl.t r50 s35)))) ?_;refine pq (ah rfl NJ rfl) ?_;refine pq (ql (bO b8) 3 sz4) ?_;obtain⟨⟨⟨n46,s47⟩,n48⟩,h45,h⟩:=aq h;refine pq (qc (.tup [.agg [iI n46,sC r65 s47],iO n48]) [iO n11,.agg [iI n38,iI n39,sC r3 s40,sC r3 s41,sC r3 s42,sC r2 s43],.agg [iI n32,sC r65 s33],.one (.p fr36 (Sl.t r50 s35)),bO b8] (EA (m+2) h45) (af (am an) (af (au (ae an (ae an (ae aM (ae aM (ae aM (ae aM ar))))))) (af (au (ae an (ae aM ar))) (af (am aM) (af (am an) ak)))))) ?_;refine pq (qm (.tup [.agg [iI n46,sC r65 s47],iO n48])) ?_;refine pq (eM (v:= .agg [iI n46,sC r65 s47]) rfl rfl) ?_;refine pq (eM (v:=iO n48) rfl rfl) ?_;refine av rfl rfl rfl (aF eT (row:= [iI 0,nC]) rfl rfl) (fun k49=> ?_);refine ow [[iI n46,sC r65 s47]] 0 cj ?_;refine pq (qa (iO n48)) ?_;refine oE (eS (lS ?_));refine eA (L2:=([[(k49,2,[[iI n46,sC r65 s47]])],[(k44,6,[[iI n38,iI n39,sC r3 s40,sC r3 s41,sC r3 s42,sC r2 s43]])],[((bb12+9),2,[[iI n32,sC r65 s33]])],[((bb12+8),5,[[iI n26,iI n27,sC r3 s28,sC r3 s29,sC r2 s30]])],[(k9,8,[[iI n1,iC .u8 n2,iC .u8 n3,sF r86 s4,sF r65 s5,sF r65 s6,sF r50 s7,bC b8]])]]:BL)) [0,1,2,3,4] (by decide) rfl ?_;refine ez 14 rfl [[],[],[],[],[],[],[],[],[],[],[],[],[],[]] [(false,[]),(false,[]),(false,[]),(false,[]),(false,[]),(false,[]),(false,[]),(false,[]),(false,[]),(false,[]),(false,[]),(true,[]),(false,[11]),(false,[])] [[1,2,3,4,5,6,11],[0,2,3,4,5,6,11],[0,1,4,5,6,11],[0,1,4,5,6,11],[0,1,2,3,5,6,11],[0,1,2,3,4,11],[0,1,2,3,4,11],[11],[11],[10,11],[9,11,12],[0,1,2,3,4,5,6,7,8,9,10],[10],[]] (by kernel_rfl) (by kernel_rfl) (by kernel_rfl) ?_ (fun bb50 hlt hnd=> ?_);intro bb50 hlt hnd;exact⟨⟨djE,⟨djE,⟨djE,⟨djE,⟨djE,⟨djE,⟨djE,⟨djE,⟨djE,⟨djE,⟨djE,⟨djE,⟨djE,⟨djE,trivial⟩⟩⟩⟩⟩⟩⟩⟩⟩⟩⟩⟩⟩⟩,(ai aj (ai aj (ai aj (ai aj (ai aj (ai aj (ai aj (ai aj (ai aj (ai aj (ai aj (ai aj (ai aj (ai aj ea))))))))))))))⟩;refine tq [] rfl hmn (qm (iO n11)) ?_;refine tq [3] rfl (hmc (cq (aD (aw hlt 3 rfl)) dZ) hmn) (ql (.agg [iI n26,iI n27,sC r3 s28,sC r3 s29,sC r2 s30]) 0 oq) ?_;refine tq [2] rfl (hmc (cq (aD (aw hlt 2 rfl)) dZ) hmn) (ql (.agg [iI n32,sC r65 s33]) 0 cj) ?_;obtain⟨⟨n60,s61,s62⟩,h59,h⟩:=aq h;refine tq [] rfl hmn (qc (.agg [iI n60,sC r50 s61,sC r2 s62]) [.agg [iI n32,sC r65 s33]] (Jg (m+2) h59) (af (au (ae an (ae aM ar))) ak)) ?_;refine tq [] rfl hmn (qm (.one (.p fr36 (Sl.t r50 s35)))) ?_;refine tq [] rfl hmn (ah rfl NJ rfl) ?_;refine tq [4] rfl (hmc (cq (aD (aw hlt 4 rfl)) dZ) hmn) (ql (bO b8) 0 sz4) ?_;obtain⟨⟨⟨n64,s65⟩,n66⟩,h63,h⟩:=aq h;refine tq [] rfl hmn (qc (.tup [.agg [iI n64,sC r65 s65],iO n66]) [iO n11,.agg [iI n26,iI n27,sC r3 s28,sC r3 s29,sC r2 s30],.agg [iI n60,sC r50 s61,sC r2 s62],.one (.p fr36 (Sl.t r50 s35)),bO b8] (ED (m+0) h63) (af (am an) (af (au (ae an (ae an (ae aM (ae aM (ae aM ar)))))) (af (au (ae an (ae aM (ae aM ar)))) (af (am aM) (af (am an) ak)))))) ?_;refine tq [] rfl hmn (qm (.tup [.agg [iI n64,sC r65 s65],iO n66])) ?_;refine tq [] rfl hmn (eM (v:= .agg [iI n64,sC r65 s65]) rfl rfl) ?_;refine tq [] rfl hmn (eM (v:=iO n66) rfl rfl) ?_;refine eL rfl rfl rfl [] (by decide) rfl (hm0 rfl) rfl rfl (hkc (aD (aw hlt 0 rfl)) (hkc (aD (aw hlt 1 rfl)) (hkc (aD (aw hlt 2 rfl)) (hkc (aD (aw hlt 3 rfl)) (hkc (aD (aw hlt 4 rfl)) hkn))))) (aF eT (row:= [iI 0,nC]) rfl rfl) ?_;refine kw rfl rfl [0] (by decide) rfl (hm0 rfl) rfl (cO (es':= [[iI n64,sC r65 s65]]) 0 rfl rfl rfl cj rfl rfl rfl rfl rfl) (q:=0) rfl rfl ?_;refine tq [] rfl (hm0 rfl) (qa (iO n66)) ?_;refine fc (eS (lS (lO ?_)));refine pq (aW (cs:= [iI 0,uI 4]) eU rfl us rfl) ?_;refine pq (aW (cs:= [iI 0,iI 0,uI 4]) rW rfl IQ rfl) ?_;refine av rfl rfl rfl (cU (cs:= [iI 0,iI 0,uI 4]) (es:=(([(0,(0,4))]:List (Int×(Int×Int)))).map (be r53)) qA rfl rW rfl rfl rfl rfl rfl) (fun k67=> ?_);obtain⟨⟨⟨n69,s70⟩,n71⟩,h68,h⟩:=aq h;refine pq (qc (.tup [.agg [iI n69,sC r65 s70],iO n71]) [iO 5,iO 1,.one (.own k67 0 (([(0,(0,4))]:List (Int×(Int×Int)))).length)] (qM (m+3) h68) (af (am an) (af (am an) (af (am (fN (r:=r53) 0 rfl (fun x h m=>rfl))) ak)))) ?_;refine pq (qm (.tup [.agg [iI n69,sC r65 s70],iO n71])) ?_;refine pq (eM (v:= .agg [iI n69,sC r65 s70]) rfl rfl) ?_;refine pq (eM (v:=iO n71) rfl rfl) ?_;refine av rfl rfl rfl (aF eT (row:= [iI 0,nC]) rfl rfl) (fun k72=> ?_);refine ow [[iI n69,sC r65 s70]] 0 cj ?_;refine pq (qa (iO n71)) ?_;refine oE (eS (lS ?_));refine mf (by kernel_rfl) ?_;refine sq (ah rfl eV rfl) ?_;refine sq (ql (.one (sC r65 s70)) 0 ni) ?_;refine sq (cn rfl kA rfl rfl rfl rfl) ?_;by_cases c73:((s70.l.length:Nat):Int)=1;replace h:=ifT c73 h;refine sq (qb (cr c73)) ?_;refine sq (qm bt) ?_;refine sq (qm (iO n48)) ?_;refine sq (qm (iO n66)) ?_;by_cases c74:n48=n66;replace h:=ifT c74 h;refine sq (qb (cr c74)) ?_;refine sq (qpt bt) ?_;refine sq (qm bt) ?_;refine sq (ql (.agg [iI n46,sC r65 s47]) 3 cj) ?_;refine sq (ql (.agg [iI n64,sC r65 s65]) 2 cj) ?_;obtain⟨b76,h75,h⟩:=aq h;refine sq (qc (bO b76) [.agg [iI n46,sC r65 s47],.agg [iI n64,sC r65 s65]] (EE (m+5) h75) (af (au (ae an (ae aM ar))) (af (au (ae an (ae aM ar))) ak))) ?_;refine sq (qpt (bO b76)) ?_;refine sq (qm (bO b76)) ?_;rcases b76 with _|_;replace h:=wF h
 iterate 8 refine ss ?_
 refine sq (qpf bf) ?_;refine sq (qa bf) ?_;refine eK (eS (lR ?_));obtain rfl:=sj h;exact eF1;replace h:=wT h;refine sq (ql (.agg [iI n38,iI n39,sC r3 s40,sC r3 s41,sC r3 s42,sC r2 s43]) 4 nQ) ?_;refine sq (ah rfl vP rfl) ?_;refine sq (ql (iO n27) 6 sz3) ?_;obtain⟨⟨n78,s79⟩,h77,h⟩:=aq h;refine sq (qc (.agg [iI n78,sC r65 s79]) [iO n27,iO 1] (EF (m+6) h77) (af (am an) (af (am an) ak))) ?_;obtain⟨n81,h80,h⟩:=aq h;refine sq (qc (iO n81) [.agg [iI n38,iI n39,sC r3 s40,sC r3 s41,sC r3 s42,sC r2 s43],.agg [iI n78,sC r65 s79]] (GM (m+2) h80) (af (au (ae an (ae an (ae aM (ae aM (ae aM (ae aM ar))))))) (af (au (ae an (ae aM ar))) ak))) ?_;refine sq (ql (.agg [iI n26,iI n27,sC r3 s28,sC r3 s29,sC r2 s30]) 6 oq) ?_;obtain⟨n83,h82,h⟩:=aq h;refine sq (qc (iO n83) [.agg [iI n26,iI n27,sC r3 s28,sC r3 s29,sC r2 s30]] (GD (m+6) h82) (af (au (ae an (ae an (ae aM (ae aM (ae aM ar)))))) ak)) ?_;by_cases c84:n81=n83;replace h:=ifT c84 h;refine sq (qb (cr c84)) ?_;refine sq (qpt bt) ?_;refine sq (qa bt) ?_;refine eK (eS (lR ?_));obtain rfl:=sj h;exact eF1;replace h:=ifF c84 h;refine sq (qb (ct c84)) ?_;refine sq (qpt bf) ?_;refine sq (qa bf) ?_;refine eK (eS (lR ?_));obtain rfl:=sj h;exact eF1;replace h:=ifF c74 h;refine sq (qb (ct c74)) ?_;refine sq (qpt bf) ?_;refine sq (qm bf) ?_
 iterate 3 refine ss ?_
 refine sq (qpf bf) ?_;refine sq (qm bf) ?_
 iterate 8 refine ss ?_
 refine sq (qpf bf) ?_;refine sq (qa bf) ?_;refine eK (eS (lR ?_));obtain rfl:=sj h;exact eF1;replace h:=ifF c73 h;refine sq (qb (ct c73)) ?_;refine sq (qm bf) ?_
 iterate 3 refine ss ?_
 refine sq (qpf bf) ?_;refine sq (qm bf) ?_
 iterate 3 refine ss ?_
 refine sq (qpf bf) ?_;refine sq (qm bf) ?_
 iterate 8 refine ss ?_
 refine sq (qpf bf) ?_;refine sq (qa bf) ?_;refine eK (eS (lR ?_));obtain rfl:=sj h;exact eF1
end Ev
end
noncomputable section
namespace Ev
open Go
set_option maxRecDepth 100000
set_option maxHeartbeats 1000000
attribute [local irreducible] el StL TnL WpL dz
theorem ZU{ts:List T}(h:Typ Tryd.prog 22 ts):∃x:Int,ts= [iT .i64 x]∧inK .i64 x:=vi (by kernel_rfl) h
def W22(x:Int):Prop:=inK .i64 x
theorem op5{ts:List T}(h:Typ Tryd.prog 5 ts):∃x:Int,ts= [iT .u8 x]∧inK .u8 x:=vi (by kernel_rfl) h
def W5(x:Int):Prop:=inK .u8 x
def W23(x:Int×Int):Prop:=W5 x.1∧W5 x.2
theorem ZV{ts:List T}(h:Typ Tryd.prog 23 ts):∃x:Int×Int,ts=r23 x∧W23 x:=by
 obtain⟨tss,rfl,hl,hf⟩:=Nc (n:=2) (e:=5) (by kernel_rfl) h
 match tss,hl with
 | [t0,t1],_=>
  obtain⟨x0,rfl,w0⟩:=op5 (hf t0 (by simp));obtain⟨x1,rfl,w1⟩:=op5 (hf t1 (by simp));exact⟨(x0,x1),rfl,⟨w0,w1⟩⟩
theorem op3{ts:List T}(h:Typ Tryd.prog 3 ts):∃x:Int,ts= [iT .i64 x]∧inK .i64 x:=vi (by kernel_rfl) h
def W3(x:Int):Prop:=inK .i64 x
theorem op2{ts:List T}(h:Typ Tryd.prog 2 ts):∃x:Int,ts= [iT .i64 x]∧inK .i64 x:=vi (by kernel_rfl) h
def W2(x:Int):Prop:=inK .i64 x
def W87(x:Int×Int×Int):Prop:=W3 x.1∧W3 x.2.1∧W2 x.2.2
theorem ZW{ts:List T}(h:Typ Tryd.prog 87 ts):∃x:Int×Int×Int,ts=r86 x∧W87 x:=by
 obtain⟨tss,rfl,hl,hf⟩:=tF (fs:=bE Tryd.prog 86) (by kernel_rfl) h;rw [show(bE Tryd.prog 86).toList= [fld Tryd.prog 86 0,fld Tryd.prog 86 1,fld Tryd.prog 86 2]by kernel_rfl]at hl hf
 match tss,hl with
 | [t0,t1,t2],_=>
  have g0:Typ Tryd.prog 3 t0:=by have:=hf 0 _ _ rfl rfl;rwa [show(fld Tryd.prog 86 0).type=3 by kernel_rfl]at this
  obtain⟨x0,rfl,w0⟩:=op3 g0;have g1:Typ Tryd.prog 3 t1:=by have:=hf 1 _ _ rfl rfl;rwa [show(fld Tryd.prog 86 1).type=3 by kernel_rfl]at this
  obtain⟨x1,rfl,w1⟩:=op3 g1;have g2:Typ Tryd.prog 2 t2:=by have:=hf 2 _ _ rfl rfl;rwa [show(fld Tryd.prog 86 2).type=2 by kernel_rfl]at this
  obtain⟨x2,rfl,w2⟩:=op2 g2;exact⟨(x0,x1,x2),rfl,⟨w0,w1,w2⟩⟩
def W24(x:Sl (Int×Int×Int)):Prop:=SlW 3 W87 x
theorem ZX{ts:List T}(h:Typ Tryd.prog 24 ts):∃x:Sl (Int×Int×Int),ts= [Sl.t r86 x]∧W24 x:=wi (r:=r86) (Q:=W87) (w:=3) (by kernel_rfl) (by kernel_rfl) (fun ts h=>ZW h) h
def W66(x:Int×Int):Prop:=W3 x.1∧W2 x.2
theorem ZY{ts:List T}(h:Typ Tryd.prog 66 ts):∃x:Int×Int,ts=r65 x∧W66 x:=by
 obtain⟨tss,rfl,hl,hf⟩:=tF (fs:=bE Tryd.prog 65) (by kernel_rfl) h;rw [show(bE Tryd.prog 65).toList= [fld Tryd.prog 65 0,fld Tryd.prog 65 1]by kernel_rfl]at hl hf
 match tss,hl with
 | [t0,t1],_=>
  have g0:Typ Tryd.prog 3 t0:=by have:=hf 0 _ _ rfl rfl;rwa [show(fld Tryd.prog 65 0).type=3 by kernel_rfl]at this
  obtain⟨x0,rfl,w0⟩:=op3 g0;have g1:Typ Tryd.prog 2 t1:=by have:=hf 1 _ _ rfl rfl;rwa [show(fld Tryd.prog 65 1).type=2 by kernel_rfl]at this
  obtain⟨x1,rfl,w1⟩:=op2 g1;exact⟨(x0,x1),rfl,⟨w0,w1⟩⟩
def W25(x:Sl (Int×Int)):Prop:=SlW 2 W66 x
theorem Xi{ts:List T}(h:Typ Tryd.prog 25 ts):∃x:Sl (Int×Int),ts= [Sl.t r65 x]∧W25 x:=wi (r:=r65) (Q:=W66) (w:=2) (by kernel_rfl) (by kernel_rfl) (fun ts h=>ZY h) h
theorem ZZ{ts:List T}(h:Typ Tryd.prog 50 ts):∃x:Int,ts= [iT .u64 x]∧inK .u64 x:=vi (by kernel_rfl) h
def W50(x:Int):Prop:=inK .u64 x
def W26(x:Sl (Int)):Prop:=SlW 1 W50 x
theorem aa0{ts:List T}(h:Typ Tryd.prog 26 ts):∃x:Sl (Int),ts= [Sl.t r50 x]∧W26 x:=wi (r:=r50) (Q:=W50) (w:=1) (by kernel_rfl) (by kernel_rfl) (fun ts h=>ZZ h) h
theorem op4{ts:List T}(h:Typ Tryd.prog 4 ts):∃x:Bool,ts= [bT x]∧True:=PI (by kernel_rfl) h
def W4(x:Bool):Prop:=True
def W28(x:Int×(Int×Int)×(Sl (Int×Int×Int))×(Sl (Int×Int))×(Sl (Int×Int))×Sl (Int)×Bool):Prop:=W22 x.1∧W23 x.2.1∧W24 x.2.2.1∧W25 x.2.2.2.1∧W25 x.2.2.2.2.1∧W26 x.2.2.2.2.2.1∧W4 x.2.2.2.2.2.2
theorem aa1{ts:List T}(h:Typ Tryd.prog 28 ts):∃x:Int×(Int×Int)×(Sl (Int×Int×Int))×(Sl (Int×Int))×(Sl (Int×Int))×Sl (Int)×Bool,ts=r27 x∧W28 x:=by
 obtain⟨tss,rfl,hl,hf⟩:=tF (fs:=bE Tryd.prog 27) (by kernel_rfl) h;rw [show(bE Tryd.prog 27).toList= [fld Tryd.prog 27 0,fld Tryd.prog 27 1,fld Tryd.prog 27 2,fld Tryd.prog 27 3,fld Tryd.prog 27 4,fld Tryd.prog 27 5,fld Tryd.prog 27 6]by kernel_rfl]at hl hf
 match tss,hl with
 | [t0,t1,t2,t3,t4,t5,t6],_=>
  have g0:Typ Tryd.prog 22 t0:=by have:=hf 0 _ _ rfl rfl;rwa [show(fld Tryd.prog 27 0).type=22 by kernel_rfl]at this
  obtain⟨x0,rfl,w0⟩:=ZU g0;have g1:Typ Tryd.prog 23 t1:=by have:=hf 1 _ _ rfl rfl;rwa [show(fld Tryd.prog 27 1).type=23 by kernel_rfl]at this
  obtain⟨x1,rfl,w1⟩:=ZV g1;have g2:Typ Tryd.prog 24 t2:=by have:=hf 2 _ _ rfl rfl;rwa [show(fld Tryd.prog 27 2).type=24 by kernel_rfl]at this
  obtain⟨x2,rfl,w2⟩:=ZX g2;have g3:Typ Tryd.prog 25 t3:=by have:=hf 3 _ _ rfl rfl;rwa [show(fld Tryd.prog 27 3).type=25 by kernel_rfl]at this
  obtain⟨x3,rfl,w3⟩:=Xi g3;have g4:Typ Tryd.prog 25 t4:=by have:=hf 4 _ _ rfl rfl;rwa [show(fld Tryd.prog 27 4).type=25 by kernel_rfl]at this
  obtain⟨x4,rfl,w4⟩:=Xi g4;have g5:Typ Tryd.prog 26 t5:=by have:=hf 5 _ _ rfl rfl;rwa [show(fld Tryd.prog 27 5).type=26 by kernel_rfl]at this
  obtain⟨x5,rfl,w5⟩:=aa0 g5;have g6:Typ Tryd.prog 4 t6:=by have:=hf 6 _ _ rfl rfl;rwa [show(fld Tryd.prog 27 6).type=4 by kernel_rfl]at this
  obtain⟨x6,rfl,w6⟩:=op4 g6;exact⟨(x0,x1,x2,x3,x4,x5,x6),rfl,⟨w0,w1,w2,w3,w4,w5,w6⟩⟩
end Ev
end
noncomputable section
namespace Ev
namespace KM
open Go Go.RowKit
def dI(x:Int):Option (Int):=K.dI x
def mn(x:Sl (Int×Int×Int)):Option (Sl (Int×Int×Int)):=K.mn x
def fU(x:Int):Option (Bool):=K.fU x
def gY(x:Int×Int×Int)(y:Int×Int×Int):Option (Bool):=K.gY (x,y)
def ol(x:Int):Option (Int×Int):=K.ol x
def fI(x:Int×Int)(y:Int×Int):Option (Int):=K.fI (x,y)
def gZ(x:Bool):Option (Int×Int):=K.gZ x
def mq(x:Int×Int)(y:Int×Int):Option (Int×Int):=K.mq (x,y)
def mr(x:Int)(y:Int×Int)(z:Int×Int):Option (Int×Int):=K.mr (x,y,z)
def gm(x:Int×Int):Option (Int×Bool):=K.gm x
def cE(x:Int)(y:Sl (Int×Int×Int)):Option ((Sl (Int×Int×Int))×Int):=K.cE (x,y)
def jA(x:Int)(y:Int)(z:Sl (Int×Int×Int)):Option (Int×Int×Sl (Int)×Sl (Int)×Sl (Int)):=K.jA (x,y,z)
def om(x:Int)(y:Int)(z:Int)(u:Sl (Int×Int×Int)):Option ((Int×Int×Sl (Int)×Sl (Int)×Sl (Int))×Int):=K.om (x,y,z,u)
def fJ(x:Int×Int)(y:Sl (Int×Int×Int)):Option (Int×Int×Sl (Int)×Sl (Int)×Sl (Int)):=K.fJ (x,y)
def fh(x:Int):Option (Bool):=K.fh x
def fe(x:Sl (Int))(y:Int):Option (Bool):=K.fe (x,y)
def eE(x:Int×Int×Sl (Int)×Sl (Int)×Sl (Int)):Option (Bool):=K.eE x
def rA(x:Int)(y:Int)(z:Sl (Int×Int×Int)):Option (Int×Int×Sl (Int)×Sl (Int)×Sl (Int)):=K.rA (x,y,z)
def mC(x:Int×Int×Sl (Int)×Sl (Int)×Sl (Int)):Option (Int×Int×Sl (Int)×Sl (Int)×Sl (Int)):=K.mC x
def rB(x:Int×Int×Sl (Int)×Sl (Int)×Sl (Int))(y:Int):Option (Sl (Int)×Sl (Int)):=K.rB (x,y)
def jb(x:Int×Int×Sl (Int)×Sl (Int)×Sl (Int)):Option (Int×Int×Sl (Int)×Sl (Int)×Sl (Int)):=K.jb x
def ky(x:Int):Option (Bool):=K.ky x
def js(x:Sl (Int))(y:Int):Option (Bool):=K.js (x,y)
def dJ(x:Int×Int×Sl (Int)×Sl (Int)×Sl (Int)×Sl (Int)):Option (Bool):=K.dJ x
def mt(x:Int×Int×Sl (Int)×Sl (Int)×Sl (Int)×Sl (Int)):Option (Int×Int×Sl (Int)×Sl (Int)×Sl (Int)×Sl (Int)):=K.mt x
def jB(x:Int×Int×Sl (Int)×Sl (Int)×Sl (Int)×Sl (Int))(y:Int):Option (Int×Int):=K.jB (x,y)
def fV(x:Int×Int×Sl (Int)×Sl (Int)×Sl (Int)×Sl (Int))(y:Sl (Int)):Option (Int):=K.fV (x,y)
def gK(x:Int×Int×Sl (Int)×Sl (Int)×Sl (Int)):Option (Int):=K.gK x
end KM
end Ev
end
noncomputable section
namespace Ev
namespace KM
open Go Go.RowKit
set_option maxRecDepth 100000
set_option maxHeartbeats 1000000
abbrev yC:=Int×Int×Sl Int×Sl Int×Sl Int×Sl Int
abbrev yM:=Int×Int×Sl Int×Sl Int×Sl Int
abbrev yT:=Int×Int×Int
theorem nW(x:Int):dI x=(kJ (IntKind.i64.wrap x) 40).bind fun(z:Int)=>some z:=by kernel_rfl
theorem EG(x:Sl yT):mn x=if(↑x.l.length:Int)>60 then(kq 3 x 0 60).bind fun(s':Sl yT)=>some s'
else some x:=by kernel_rfl
theorem qN(x:Int):fU x=if x ≥ 1 then some (decide (x≤5))else some false:=by kernel_rfl
theorem zd(x:Int×Int×Int)(y:Int×Int×Int):gY x y=if x.fst<y.fst then some true
else if x.fst=y.fst then some (decide (x.snd.fst<y.snd.fst))else some false:=by kernel_rfl
theorem GN(x:Int):ol x=if x<0 then some (-1,IntKind.u64.wrap x)else some (0,IntKind.u64.wrap x):=by kernel_rfl
theorem vT(x:Int×Int)(y:Int×Int):fI x y=if x.fst<y.fst then some (-1)
else if x.fst=y.fst then if x.snd<y.snd then some (-1)else if x.fst=y.fst∧x.snd=y.snd then some 0 else some 1 else if x.fst=y.fst∧x.snd=y.snd then some 0 else some 1:=by kernel_rfl
theorem ze(x:Bool):gZ x=if x=true then some (0,1)else some (0,0):=by kernel_rfl
def pF:Int→Int→Option (Int ⊕ Empty):=fun(d d_1:Int)=>some (Sum.inl (IntKind.i64.wrap (d+d_1)))
theorem EH(x:Int×Int)(y:Int×Int):mq x y=(if IntKind.u64.wrap (x.snd+y.snd)<x.snd then pF (IntKind.i64.wrap (x.fst+y.fst)) 1 else pF x.fst y.fst).bind fun(y_1:Int ⊕ Empty)=>Sum.elim (fun(val:Int)=>some (val,IntKind.u64.wrap (x.snd+y.snd))) (fun(val:Empty)=>nE val) y_1:=by kernel_rfl
theorem EI(x:Int)(y:Int×Int)(z:Int×Int):mr x y z=(if x=1 then some (Sum.inl true)else if x=3 then some (Sum.inl true)else some (Sum.inl (decide (x=4)))).bind fun(y_1:Bool ⊕ Empty)=>Sum.elim (fun(val:Bool)=>if val=true then(fI z y).bind fun(out:Int)=>if out<0 then some z else some y else if x=2 then if¬(y.fst=0∧y.snd=0)then(gZ true).bind fun(out:Int×Int)=>some out else(gZ (decide ¬(z.fst=0∧z.snd=0))).bind fun(out:Int×Int)=>some out else if x=5 then(mq y z).bind fun(out:Int×Int)=>some out else some (0,0)) (fun(val:Empty)=>nE val) y_1:=by kernel_rfl
theorem xU(x:Int×Int):gm x=if x.fst=0 then if IntKind.i64.wrap x.snd ≥ 0 then some (IntKind.i64.wrap x.snd,true)else if x.fst= -1 then if IntKind.i64.wrap x.snd<0 then some (IntKind.i64.wrap x.snd,true)else some (0,false)else some (0,false)
else if x.fst= -1 then if IntKind.i64.wrap x.snd<0 then some (IntKind.i64.wrap x.snd,true)else some (0,false)else some (0,false):=by kernel_rfl
def fY(y:Sl yT)(x:List yT×List (Int×Int)×Int):Int→Option (Int ⊕ Int ⊕ Empty):=fun(x_1:Int)=>if x_1<(↑(List.length x.fst):Int)then(atL x.fst x_1).bind fun(x_2:Int×Int×Int)=>(atL x.fst x_1).bind fun(y_1:Int×Int×Int)=>(atS 3 y x.snd.snd).bind fun(y:Int×Int×Int)=>(gY y_1 y).bind fun(out:Bool)=>if out=true then some (Sum.inl (IntKind.i64.wrap (x_1+1)))else some (Sum.inr (Sum.inl x_1))else some (Sum.inr (Sum.inl x_1))
def fZ(val:Int):Int×List yT×List (Int×Int)→Option (Int×List yT×List (Int×Int)⊕ List yT×List (Int×Int)⊕ Empty):=fun(x:Int×List yT×List (Int×Int))=>if x.fst>val then(atL x.snd.fst (IntKind.i64.wrap (x.fst - 1))).bind fun(x_1:Int×Int×Int)=>(atL x.snd.fst (IntKind.i64.wrap (x.fst - 1))).bind fun(y:Int×Int×Int)=>(atL x.snd.fst x.fst).bind fun(x_2:Int×Int×Int)=>(atL x.snd.fst x.fst).bind fun(y_1:Int×Int×Int)=>(atL x.snd.snd (IntKind.i64.wrap (x.fst - 1))).bind fun(x_3:Int×Int)=>(atL x.snd.snd (IntKind.i64.wrap (x.fst - 1))).bind fun(y_2:Int×Int)=>(atL x.snd.snd x.fst).bind fun(x_4:Int×Int)=>(atL x.snd.snd x.fst).bind fun(y_3:Int×Int)=>some (Sum.inl (IntKind.i64.wrap (x.fst - 1),List.set x.snd.fst (Int.toNat x.fst) y,List.set x.snd.snd (Int.toNat x.fst) y_2))else some (Sum.inr (Sum.inl x.snd))
def ga(val:Int):Int×List yT×List (Int×Int)→Option (Int×List yT×List (Int×Int)⊕ List yT×List (Int×Int)⊕ Empty):=fun(x:Int×List yT×List (Int×Int))=>if x.fst>val then(atL x.snd.fst (IntKind.i64.wrap (x.fst - 1))).bind fun(x_1:Int×Int×Int)=>(atL x.snd.fst (IntKind.i64.wrap (x.fst - 1))).bind fun(y:Int×Int×Int)=>(atL x.snd.fst x.fst).bind fun(x_2:Int×Int×Int)=>(atL x.snd.fst x.fst).bind fun(y_1:Int×Int×Int)=>(atL x.snd.snd (IntKind.i64.wrap (x.fst - 1))).bind fun(x_3:Int×Int)=>(atL x.snd.snd (IntKind.i64.wrap (x.fst - 1))).bind fun(y_2:Int×Int)=>(atL x.snd.snd x.fst).bind fun(x_4:Int×Int)=>(atL x.snd.snd x.fst).bind fun(y_3:Int×Int)=>some (Sum.inl (IntKind.i64.wrap (x.fst - 1),List.set x.snd.fst (Int.toNat x.fst) y,List.set x.snd.snd (Int.toNat x.fst) y_2))else some (Sum.inr (Sum.inl x.snd))
def iK(x:Int)(y:Sl yT):List yT×List (Int×Int)×Int→Option (List yT×List (Int×Int)×Int ⊕ List yT×List (Int×Int)⊕ Empty):=fun(x_1:List yT×List (Int×Int)×Int)=>if x_1.snd.snd<(↑y.l.length:Int)then(aL (fY y x_1) 0).bind fun(y_1:Int ⊕ Empty)=>Sum.elim (fun(val:Int)=>(atS 3 y x_1.snd.snd).bind fun(y_2:Int×Int×Int)=>(ol y_2.snd.snd).bind fun(out:Int×Int)=>if val<(↑(List.length x_1.fst):Int)then(atS 3 y x_1.snd.snd).bind fun(y_3:Int×Int×Int)=>(atL x_1.fst val).bind fun(x_2:Int×Int×Int)=>(atL x_1.fst val).bind fun(y_4:Int×Int×Int)=>(gY y_3 y_4).bind fun(out_1:Bool)=>if¬out_1=true then(atL x_1.snd.fst val).bind fun(x_3:Int×Int)=>(atL x_1.snd.fst val).bind fun(y:Int×Int)=>(mr x y out).bind fun(out:Int×Int)=>(atL x_1.snd.fst val).bind fun(x:Int×Int)=>(atL x_1.snd.fst val).bind fun(y:Int×Int)=>some (Sum.inl (x_1.fst,List.set x_1.snd.fst val.toNat out,IntKind.i64.wrap (x_1.snd.snd+1)))else(app x_1.fst [(0,0,0)]).bind fun(lm:List yT)=>(app x_1.snd.fst [(0,0)]).bind fun(lm_1:List (Int×Int))=>(aL (fZ val) (IntKind.i64.wrap ((↑lm.length:Int) - 1),lm,lm_1)).bind fun(y_5:List yT×List (Int×Int)⊕ Empty)=>Sum.elim (fun(val_1:List yT×List (Int×Int))=>(atS 3 y x_1.snd.snd).bind fun(y_6:Int×Int×Int)=>(atS 3 y x_1.snd.snd).bind fun(y:Int×Int×Int)=>(atL val_1.fst val).bind fun(x:Int×Int×Int)=>(atL val_1.fst val).bind fun(y_7:Int×Int×Int)=>(atL val_1.snd val).bind fun(x:Int×Int)=>(atL val_1.snd val).bind fun(y_8:Int×Int)=>(neL (List.set val_1.fst val.toNat (y_6.fst,y.snd.fst,0))).bind fun(x:PUnit)=>(neL (List.set val_1.snd val.toNat out)).bind fun(x:PUnit)=>some (Sum.inl (List.set val_1.fst val.toNat (y_6.fst,y.snd.fst,0),List.set val_1.snd val.toNat out,IntKind.i64.wrap (x_1.snd.snd+1)))) (fun(val:Empty)=>nE val) y_5 else(app x_1.fst [(0,0,0)]).bind fun(lm:List yT)=>(app x_1.snd.fst [(0,0)]).bind fun(lm_1:List (Int×Int))=>(aL (ga val) (IntKind.i64.wrap ((↑lm.length:Int) - 1),lm,lm_1)).bind fun(y_3:List yT×List (Int×Int)⊕ Empty)=>Sum.elim (fun(val_1:List yT×List (Int×Int))=>(atS 3 y x_1.snd.snd).bind fun(y_4:Int×Int×Int)=>(atS 3 y x_1.snd.snd).bind fun(y:Int×Int×Int)=>(atL val_1.fst val).bind fun(x:Int×Int×Int)=>(atL val_1.fst val).bind fun(y_5:Int×Int×Int)=>(atL val_1.snd val).bind fun(x:Int×Int)=>(atL val_1.snd val).bind fun(y_6:Int×Int)=>(neL (List.set val_1.fst val.toNat (y_4.fst,y.snd.fst,0))).bind fun(x:PUnit)=>(neL (List.set val_1.snd val.toNat out)).bind fun(x:PUnit)=>some (Sum.inl (List.set val_1.fst val.toNat (y_4.fst,y.snd.fst,0),List.set val_1.snd val.toNat out,IntKind.i64.wrap (x_1.snd.snd+1)))) (fun(val:Empty)=>nE val) y_3) (fun(val:Empty)=>nE val) y_1 else some (Sum.inr (Sum.inl (x_1.fst,x_1.snd.fst)))
def iL(val:List yT×List (Int×Int)):List yT×Int→Option (List yT×Int ⊕ List yT ⊕ List yT×Int ⊕ Empty):=fun(x:List yT×Int)=>if x.snd<(↑(List.length x.fst):Int)then(atL val.snd x.snd).bind fun(x_1:Int×Int)=>(atL val.snd x.snd).bind fun(y:Int×Int)=>(gm y).bind fun(out:Int×Bool)=>if¬out.snd=true then some (Sum.inr (Sum.inr (Sum.inl ([],12))))else(atL x.fst x.snd).bind fun(x_2:Int×Int×Int)=>(atL x.fst x.snd).bind fun(y:Int×Int×Int)=>some (Sum.inl (List.set x.fst (Int.toNat x.snd) (y.fst,y.snd.fst,out.fst),IntKind.i64.wrap (x.snd+1)))else some (Sum.inr (Sum.inl x.fst))
theorem kD(x:Int)(y:Sl yT):cE x y=(fU x).bind fun(out:Bool)=>if¬out=true then some ({nn:=false,sz:=0,l:= []},8)else(aL (iK x y) ([],[],0)).bind fun(y:List yT×List (Int×Int)⊕ Empty)=>Sum.elim (fun(val:List yT×List (Int×Int))=>(aL (iL val) (val.fst,0)).bind fun(y:List yT ⊕ List yT×Int ⊕ Empty)=>Sum.elim (fun(val:List yT)=>some (mo 3 val,0)) (fun(val:List yT×Int ⊕ Empty)=>Sum.elim (fun(val:List yT×Int)=>some (mo 3 val.fst,val.snd)) (fun(val:Empty)=>nE val) val) y) (fun(val:Empty)=>nE val) y:=by kernel_rfl
def ij(x:Int):Int×List Int→Option (Int×List Int ⊕ List Int ⊕ Empty):=fun(x_1:Int×List Int)=>if x_1.fst≤x then(atL x_1.snd x_1.fst).bind fun(x:Int)=>(atL x_1.snd x_1.fst).bind fun(y:Int)=>(atL x_1.snd x_1.fst).bind fun(x:Int)=>(atL x_1.snd x_1.fst).bind fun(y_1:Int)=>some (Sum.inl (IntKind.i64.wrap (x_1.fst+1),List.set x_1.snd (Int.toNat x_1.fst) (IntKind.i64.wrap (y+1))))else some (Sum.inr (Sum.inl x_1.snd))
def kd(x:Int)(z:Sl yT):Int×Int×Int×List Int×List Int×List Int→Option (Int×Int×Int×List Int×List Int×List Int ⊕ Int×Int×List Int×List Int×List Int ⊕ Empty):=fun(x_1:Int×Int×Int×List Int×List Int×List Int)=>if x_1.fst<(↑z.l.length:Int)then(atS 3 z x_1.fst).bind fun(y:Int×Int×Int)=>(app x_1.snd.snd.snd.snd.fst [y.snd.fst]).bind fun(lm:List Int)=>(atS 3 z x_1.fst).bind fun(y:Int×Int×Int)=>(app x_1.snd.snd.snd.snd.snd [y.snd.snd]).bind fun(lm_1:List Int)=>(atS 3 z x_1.fst).bind fun(y:Int×Int×Int)=>(aL (ij x) (IntKind.i64.wrap (y.fst+1),x_1.snd.snd.snd.fst)).bind fun(y:List Int ⊕ Empty)=>Sum.elim (fun(val:List Int)=>some (Sum.inl (IntKind.i64.wrap (x_1.fst+1),x_1.snd.fst,x_1.snd.snd.fst,val,lm,lm_1))) (fun(val:Empty)=>nE val) y else some (Sum.inr (Sum.inl x_1.snd))
theorem zf(x:Int)(y:Int)(z:Sl yT):jA x y z=(vd (IntKind.i64.wrap (x+1)) (IntKind.i64.wrap (x+1))).bind fun(x_1:PUnit)=>(gU (IntKind.i64.wrap (x+1))).bind fun(x_2:PUnit)=>(aL (kd x z) (0,x,y,List.replicate (IntKind.i64.wrap (x+1)).toNat 0,[],[])).bind fun(y:Int×Int×List Int×List Int×List Int ⊕ Empty)=>Sum.elim (fun(val:Int×Int×List Int×List Int×List Int)=>some (val.fst,val.snd.fst,{nn:=true,sz:=1,l:=val.snd.snd.fst},mo 1 val.snd.snd.snd.fst,mo 1 val.snd.snd.snd.snd)) (fun(val:Empty)=>nE val) y:=by kernel_rfl
def lq(y:Int)(z:Int)(u:Sl yT):List yT×Int×Int×Int×List Int×List Int×List Int→Option (List yT×Int×Int×Int×List Int×List Int×List Int ⊕ List yT×Int×Int×List Int×List Int×List Int ⊕ Int×Int×Int×List Int×List Int×List Int ⊕ Empty):=fun(x:List yT×Int×Int×Int×List Int×List Int×List Int)=>if x.snd.fst<(↑u.l.length:Int)then(atS 3 u x.snd.fst).bind fun(y_1:Int×Int×Int)=>if y_1.fst<0 then some (Sum.inr (Sum.inr (Sum.inl (3,0,0,[],[],[]))))else(atS 3 u x.snd.fst).bind fun(y_2:Int×Int×Int)=>if y_2.fst ≥ y then some (Sum.inr (Sum.inr (Sum.inl (3,0,0,[],[],[]))))else(atS 3 u x.snd.fst).bind fun(y:Int×Int×Int)=>if y.snd.fst<0 then some (Sum.inr (Sum.inr (Sum.inl (3,0,0,[],[],[]))))else(atS 3 u x.snd.fst).bind fun(y:Int×Int×Int)=>if y.snd.fst ≥ z then some (Sum.inr (Sum.inr (Sum.inl (3,0,0,[],[],[]))))else(atS 3 u x.snd.fst).bind fun(y:Int×Int×Int)=>(atS 3 u x.snd.fst).bind fun(y_3:Int×Int×Int)=>(atS 3 u x.snd.fst).bind fun(y_4:Int×Int×Int)=>(app x.fst [(y.fst,y_3.snd.fst,y_4.snd.snd)]).bind fun(lm:List yT)=>some (Sum.inl (lm,IntKind.i64.wrap (x.snd.fst+1),x.snd.snd))else some (Sum.inr (Sum.inl (x.fst,x.snd.snd)))
def nz(out:Sl yT×Int):List yT×Int→Option (List yT×Int ⊕ List yT ⊕ Empty):=fun(x:List yT×Int)=>if x.snd<(↑out.fst.l.length:Int)then(atS 3 out.fst x.snd).bind fun(y:Int×Int×Int)=>(atS 3 out.fst x.snd).bind fun(y_1:Int×Int×Int)=>(atS 3 out.fst x.snd).bind fun(y_2:Int×Int×Int)=>(app x.fst [(y.fst,y_1.snd.fst,y_2.snd.snd)]).bind fun(lm:List yT)=>some (Sum.inl (lm,IntKind.i64.wrap (x.snd+1)))else some (Sum.inr (Sum.inl x.fst))
theorem GO(x:Int)(y:Int)(z:Int)(u:Sl yT):om x y z u=(fU x).bind fun(out:Bool)=>if¬out=true then some ((0,0,{nn:=false,sz:=0,l:= []},{nn:=false,sz:=0,l:= []},{nn:=false,sz:=0,l:= []}),8)else if y<0 then some ((0,0,{nn:=false,sz:=0,l:= []},{nn:=false,sz:=0,l:= []},{nn:=false,sz:=0,l:= []}),3)else if y>4096 then some ((0,0,{nn:=false,sz:=0,l:= []},{nn:=false,sz:=0,l:= []},{nn:=false,sz:=0,l:= []}),3)else if z<0 then some ((0,0,{nn:=false,sz:=0,l:= []},{nn:=false,sz:=0,l:= []},{nn:=false,sz:=0,l:= []}),3)else if z>4096 then some ((0,0,{nn:=false,sz:=0,l:= []},{nn:=false,sz:=0,l:= []},{nn:=false,sz:=0,l:= []}),3)else if(↑u.l.length:Int)>65536 then some ((0,0,{nn:=false,sz:=0,l:= []},{nn:=false,sz:=0,l:= []},{nn:=false,sz:=0,l:= []}),5)else(aL (lq y z u) ([],0,0,0,[],[],[])).bind fun(y_1:List yT×Int×Int×List Int×List Int×List Int ⊕ Int×Int×Int×List Int×List Int×List Int ⊕ Empty)=>Sum.elim (fun(val:List yT×Int×Int×List Int×List Int×List Int)=>(cE x (mo 3 val.fst)).bind fun(out:Sl yT×Int)=>if out.snd≠0 then some ((0,0,{nn:=false,sz:=0,l:= []},{nn:=false,sz:=0,l:= []},{nn:=false,sz:=0,l:= []}),out.snd)else(aL (nz out) ([],0)).bind fun(y_2:List yT ⊕ Empty)=>Sum.elim (fun(val:List yT)=>(jA y z (mo 3 val)).bind fun(out:yM)=>some (out,0)) (fun(val:Empty)=>nE val) y_2) (fun(val:Int×Int×Int×List Int×List Int×List Int ⊕ Empty)=>Sum.elim (fun(val:Int×Int×Int×List Int×List Int×List Int)=>some ((val.snd.fst,val.snd.snd.fst,mo 1 val.snd.snd.snd.fst,mo 1 val.snd.snd.snd.snd.fst,mo 1 val.snd.snd.snd.snd.snd),val.fst)) (fun(val:Empty)=>nE val) val) y_1:=by kernel_rfl
def kT(out:Int)(out'2:Int)(out'4:Sl yT):List yT×Int→Option (List yT×Int ⊕ List yT ⊕ Empty):=fun(x:List yT×Int)=>if x.snd<(↑out'4.l.length:Int)then(atS 3 out'4 x.snd).bind fun(y:Int×Int×Int)=>if y.fst<0 then some (Sum.inl (x.fst,IntKind.i64.wrap (x.snd+1)))else if y.snd.fst<0 then some (Sum.inl (x.fst,IntKind.i64.wrap (x.snd+1)))else if out=0 then some (Sum.inl (x.fst,IntKind.i64.wrap (x.snd+1)))else if out'2=0 then some (Sum.inl (x.fst,IntKind.i64.wrap (x.snd+1)))else(kJ y.fst out).bind fun(z:Int)=>(kJ y.snd.fst out'2).bind fun(z_1:Int)=>(app x.fst [(z,z_1,y.snd.snd)]).bind fun(lm:List yT)=>some (Sum.inl (lm,IntKind.i64.wrap (x.snd+1)))else some (Sum.inr (Sum.inl x.fst))
theorem BB(x:Int×Int)(y:Sl yT):fJ x y=(dI x.fst).bind fun(out:Int)=>(dI x.snd).bind fun(out_1:Int)=>(mn y).bind fun(out_2:Sl yT)=>(aL (kT out out_1 out_2) ([],0)).bind fun(y:List yT ⊕ Empty)=>Sum.elim (fun(val:List yT)=>(om 1 out out_1 (mo 3 val)).bind fun(out_3:(yM)×Int)=>if out_3.snd≠0 then(vd (IntKind.i64.wrap (out+1)) (IntKind.i64.wrap (out+1))).bind fun(x:PUnit)=>(gU (IntKind.i64.wrap (out+1))).bind fun(x:PUnit)=>some (out,out_1,{nn:=true,sz:=1,l:=List.replicate (IntKind.i64.wrap (out+1)).toNat 0},{nn:=false,sz:=0,l:= []},{nn:=false,sz:=0,l:= []})else some out_3.fst) (fun(val:Empty)=>nE val) y:=by kernel_rfl
theorem nA(x:Int):fh x=if x ≥ 0 then some (decide (x≤4096))else some false:=by kernel_rfl
def dU(x:Sl Int)(y:Int):Int×Int→Option (Int×Int ⊕ PUnit ⊕ Bool ⊕ Empty):=fun(x_1:Int×Int)=>if x_1.snd<(↑x.l.length:Int)then(atS 1 x x_1.snd).bind fun(y_1:Int)=>if y_1≤x_1.fst then some (Sum.inr (Sum.inr (Sum.inl false)))else if y_1 ≥ y then some (Sum.inr (Sum.inr (Sum.inl false)))else some (Sum.inl (y_1,IntKind.i64.wrap (x_1.snd+1)))else some (Sum.inr (Sum.inl ()))
theorem ma(x:Sl Int)(y:Int):fe x y=(aL (dU x y) (-1,0)).bind fun(y:PUnit ⊕ Bool ⊕ Empty)=>Sum.elim (fun(val:PUnit)=>some true) (fun(val:Bool ⊕ Empty)=>Sum.elim (fun(val:Bool)=>some val) (fun(val:Empty)=>nE val) val) y:=by kernel_rfl
def cX(x:yM):Int→Option (Int ⊕ PUnit ⊕ Bool ⊕ Empty):=fun(x_1:Int)=>if x_1<x.fst then(atS 1 x.snd.snd.fst x_1).bind fun(y:Int)=>(atS 1 x.snd.snd.fst (IntKind.i64.wrap (x_1+1))).bind fun(y_1:Int)=>if y_1<y then some (Sum.inr (Sum.inr (Sum.inl false)))else if y_1>(↑x.snd.snd.snd.fst.l.length:Int)then some (Sum.inr (Sum.inr (Sum.inl false)))else(kq 1 x.snd.snd.snd.fst y y_1).bind fun(s':Sl Int)=>(fe s' x.snd.fst).bind fun(out:Bool)=>if¬out=true then some (Sum.inr (Sum.inr (Sum.inl false)))else some (Sum.inl (IntKind.i64.wrap (x_1+1)))else some (Sum.inr (Sum.inl ()))
theorem pG(x:yM):eE x=(fh x.fst).bind fun(out:Bool)=>if¬out=true then some false else(fh x.snd.fst).bind fun(out:Bool)=>if¬out=true then some false else if(↑x.snd.snd.fst.l.length:Int)≠IntKind.i64.wrap (x.fst+1)then some false else(atS 1 x.snd.snd.fst 0).bind fun(y:Int)=>if y≠0 then some false else if(↑x.snd.snd.snd.snd.l.length:Int)≠(↑x.snd.snd.snd.fst.l.length:Int)then some false else if(↑x.snd.snd.snd.fst.l.length:Int)>65536 then some false else(atS 1 x.snd.snd.fst x.fst).bind fun(y:Int)=>if y≠(↑x.snd.snd.snd.fst.l.length:Int)then some false else(aL (cX x) 0).bind fun(y:PUnit ⊕ Bool ⊕ Empty)=>Sum.elim (fun(val:PUnit)=>some true) (fun(val:Bool ⊕ Empty)=>Sum.elim (fun(val:Bool)=>some val) (fun(val:Empty)=>nE val) val) y:=by kernel_rfl
theorem GP(x:yM):mC x=(eE x).bind fun(out:Bool)=>if out=true then some x else(rA 0 0 {nn:=false,sz:=0,l:= []}).bind fun(out:yM)=>some out:=by kernel_rfl
theorem Jh(x:yM)(y:Int):rB x y=if y<0 then some ({nn:=false,sz:=0,l:= []},{nn:=false,sz:=0,l:= []})
else if y ≥ x.fst then some ({nn:=false,sz:=0,l:= []},{nn:=false,sz:=0,l:= []})else(atS 1 x.snd.snd.fst y).bind fun(y_1:Int)=>(atS 1 x.snd.snd.fst (IntKind.i64.wrap (y+1))).bind fun(y:Int)=>if y≤y∧y≤(↑x.snd.snd.snd.fst.l.length:Int)then(kq 1 x.snd.snd.snd.fst y_1 y).bind fun(s':Sl Int)=>if y≤y∧y≤(↑x.snd.snd.snd.snd.l.length:Int)then(kq 1 x.snd.snd.snd.snd y_1 y).bind fun(s'_1:Sl Int)=>some (s',s'_1)else none else none:=by kernel_rfl
def nB(out:yM):Int×List Int→Option (Int×List Int ⊕ List Int ⊕ Empty):=fun(x:Int×List Int)=>if x.fst<(↑out.snd.snd.snd.fst.l.length:Int)then(atS 1 out.snd.snd.snd.fst x.fst).bind fun(y:Int)=>(atL x.snd (IntKind.i64.wrap (y+1))).bind fun(x_1:Int)=>(atL x.snd (IntKind.i64.wrap (y+1))).bind fun(y_1:Int)=>(atL x.snd (IntKind.i64.wrap (y+1))).bind fun(x_2:Int)=>(atL x.snd (IntKind.i64.wrap (y+1))).bind fun(y_2:Int)=>some (Sum.inl (IntKind.i64.wrap (x.fst+1),List.set x.snd (IntKind.i64.wrap (y+1)).toNat (IntKind.i64.wrap (y_1+1))))else some (Sum.inr (Sum.inl x.snd))
def nD:Int×List Int→Option (Int×List Int ⊕ List Int ⊕ Empty):=fun(x:Int×List Int)=>if x.fst<(↑(List.length x.snd):Int)then(atL x.snd x.fst).bind fun(x_1:Int)=>(atL x.snd x.fst).bind fun(y:Int)=>(atL x.snd (IntKind.i64.wrap (x.fst - 1))).bind fun(x_2:Int)=>(atL x.snd (IntKind.i64.wrap (x.fst - 1))).bind fun(y_1:Int)=>(atL x.snd x.fst).bind fun(x_3:Int)=>(atL x.snd x.fst).bind fun(y_2:Int)=>some (Sum.inl (IntKind.i64.wrap (x.fst+1),List.set x.snd (Int.toNat x.fst) (IntKind.i64.wrap (y+y_1))))else some (Sum.inr (Sum.inl x.snd))
def nF(x:Int×List Int×List Int×List Int)(out:Sl Int×Sl Int):Int×List Int×List Int×List Int→Option (Int×List Int×List Int×List Int ⊕ List Int×List Int×List Int ⊕ Empty):=fun(x_1:Int×List Int×List Int×List Int)=>if x_1.fst<(↑out.fst.l.length:Int)then(atS 1 out.fst x_1.fst).bind fun(y:Int)=>(atL x_1.snd.snd.snd y).bind fun(x_2:Int)=>(atL x_1.snd.snd.snd y).bind fun(y_1:Int)=>(atL x_1.snd.snd.snd y).bind fun(x_3:Int)=>(atL x_1.snd.snd.snd y).bind fun(y_2:Int)=>(atS 1 out.snd x_1.fst).bind fun(y_3:Int)=>(atL x_1.snd.fst y_1).bind fun(x_4:Int)=>(atL x_1.snd.fst y_1).bind fun(y_4:Int)=>(atL x_1.snd.snd.fst y_2).bind fun(x_5:Int)=>(atL x_1.snd.snd.fst y_2).bind fun(y_5:Int)=>(atL x_1.snd.snd.snd y).bind fun(x_6:Int)=>(atL x_1.snd.snd.snd y).bind fun(y_6:Int)=>(atL x_1.snd.snd.snd y).bind fun(x_7:Int)=>(atL x_1.snd.snd.snd y).bind fun(y_7:Int)=>some (Sum.inl (IntKind.i64.wrap (x_1.fst+1),List.set x_1.snd.fst y_1.toNat x.fst,List.set x_1.snd.snd.fst y_2.toNat y_3,List.set x_1.snd.snd.snd y.toNat (IntKind.i64.wrap (y_6+1))))else some (Sum.inr (Sum.inl x_1.snd))
def nG(out:yM):Int×List Int×List Int×List Int→Option (Int×List Int×List Int×List Int ⊕ List Int×List Int ⊕ Empty):=fun(x:Int×List Int×List Int×List Int)=>if x.fst<out.fst then(rB out x.fst).bind fun(out:Sl Int×Sl Int)=>(aL (nF x out) (0,x.snd)).bind fun(y:List Int×List Int×List Int ⊕ Empty)=>Sum.elim (fun(val:List Int×List Int×List Int)=>some (Sum.inl (IntKind.i64.wrap (x.fst+1),val))) (fun(val:Empty)=>nE val) y else some (Sum.inr (Sum.inl (x.snd.fst,x.snd.snd.fst)))
theorem GQ(x:yM):jb x=(mC x).bind fun(out:yM)=>(vd (IntKind.i64.wrap (out.snd.fst+1)) (IntKind.i64.wrap (out.snd.fst+1))).bind fun(x:PUnit)=>(gU (IntKind.i64.wrap (out.snd.fst+1))).bind fun(x:PUnit)=>(vd (↑out.snd.snd.snd.fst.l.length:Int) (↑out.snd.snd.snd.fst.l.length:Int)).bind fun(x:PUnit)=>(gU (↑out.snd.snd.snd.fst.l.length:Int)).bind fun(x:PUnit)=>(vd (↑out.snd.snd.snd.snd.l.length:Int) (↑out.snd.snd.snd.snd.l.length:Int)).bind fun(x:PUnit)=>(gU (↑out.snd.snd.snd.snd.l.length:Int)).bind fun(x:PUnit)=>(aL (nB out) (0,List.replicate (IntKind.i64.wrap (out.snd.fst+1)).toNat 0)).bind fun(y:List Int ⊕ Empty)=>Sum.elim (fun(val:List Int)=>(aL nD (1,val)).bind fun(y:List Int ⊕ Empty)=>Sum.elim (fun(val:List Int)=>(app [] val).bind fun(lm:List Int)=>(aL (nG out) (0,List.replicate (↑out.snd.snd.snd.fst.l.length:Int).toNat 0,List.replicate (↑out.snd.snd.snd.snd.l.length:Int).toNat 0,lm)).bind fun(y:List Int×List Int ⊕ Empty)=>Sum.elim (fun(val_1:List Int×List Int)=>some (out.snd.fst,out.fst,{nn:=true,sz:=1,l:=val},{nn:=true,sz:=1,l:=val_1.fst},{nn:=true,sz:=1,l:=val_1.snd})) (fun(val:Empty)=>nE val) y) (fun(val:Empty)=>nE val) y) (fun(val:Empty)=>nE val) y:=by kernel_rfl
theorem EJ(x:Int):ky x=if x ≥ 0 then some (decide (x≤4096))else some false:=by kernel_rfl
def BC(x:Sl Int)(y:Int):Int×Int→Option (Int×Int ⊕ PUnit ⊕ Bool ⊕ Empty):=fun(x_1:Int×Int)=>if x_1.snd<(↑x.l.length:Int)then(atS 1 x x_1.snd).bind fun(y_1:Int)=>if y_1≤x_1.fst then some (Sum.inr (Sum.inr (Sum.inl false)))else if y_1 ≥ y then some (Sum.inr (Sum.inr (Sum.inl false)))else some (Sum.inl (y_1,IntKind.i64.wrap (x_1.snd+1)))else some (Sum.inr (Sum.inl ()))
theorem BD(x:Sl Int)(y:Int):js x y=(aL (BC x y) (-1,0)).bind fun(y:PUnit ⊕ Bool ⊕ Empty)=>Sum.elim (fun(val:PUnit)=>some true) (fun(val:Bool ⊕ Empty)=>Sum.elim (fun(val:Bool)=>some val) (fun(val:Empty)=>nE val) val) y:=by kernel_rfl
def kU(x:yC):Int→Option (Int ⊕ PUnit ⊕ Bool ⊕ Empty):=fun(x_1:Int)=>if x_1<(↑x.snd.snd.fst.l.length:Int)then(atS 1 x.snd.snd.snd.fst x_1).bind fun(y:Int)=>(atS 1 x.snd.snd.snd.fst (IntKind.i64.wrap (x_1+1))).bind fun(y_1:Int)=>if y_1≤y then some (Sum.inr (Sum.inr (Sum.inl false)))else if y_1>(↑x.snd.snd.snd.snd.fst.l.length:Int)then some (Sum.inr (Sum.inr (Sum.inl false)))else(kq 1 x.snd.snd.snd.snd.fst y y_1).bind fun(s':Sl Int)=>(js s' x.fst).bind fun(out:Bool)=>if¬out=true then some (Sum.inr (Sum.inr (Sum.inl false)))else some (Sum.inl (IntKind.i64.wrap (x_1+1)))else some (Sum.inr (Sum.inl ()))
theorem BE(x:yC):dJ x=(ky x.fst).bind fun(out:Bool)=>if¬out=true then some false else(ky x.snd.fst).bind fun(out:Bool)=>if¬out=true then some false else if(↑x.snd.snd.snd.fst.l.length:Int)≠IntKind.i64.wrap ((↑x.snd.snd.fst.l.length:Int)+1)then some false else(atS 1 x.snd.snd.snd.fst 0).bind fun(y:Int)=>if y≠0 then some false else(js x.snd.snd.fst x.snd.fst).bind fun(out:Bool)=>if¬out=true then some false else if(↑x.snd.snd.snd.snd.snd.l.length:Int)≠(↑x.snd.snd.snd.snd.fst.l.length:Int)then some false else if(↑x.snd.snd.snd.snd.fst.l.length:Int)>65536 then some false else(atS 1 x.snd.snd.snd.fst (↑x.snd.snd.fst.l.length:Int)).bind fun(y:Int)=>if y≠(↑x.snd.snd.snd.snd.fst.l.length:Int)then some false else(aL (kU x) 0).bind fun(y:PUnit ⊕ Bool ⊕ Empty)=>Sum.elim (fun(val:PUnit)=>some true) (fun(val:Bool ⊕ Empty)=>Sum.elim (fun(val:Bool)=>some val) (fun(val:Empty)=>nE val) val) y:=by kernel_rfl
theorem EK(x:yC):mt x=(dJ x).bind fun(out:Bool)=>if out=true then some x else some (0,0,{nn:=false,sz:=0,l:= []},{nn:=true,sz:=1,l:= [0]},{nn:=false,sz:=0,l:= []},{nn:=false,sz:=0,l:= []}):=by kernel_rfl
def dq(x:yC)(y:Int):Int×Int×Int×Int→Option (Int×Int×Int×Int ⊕ Int×Int ⊕ Empty):=fun(x_1:Int×Int×Int×Int)=>if x_1.snd.snd.fst<x_1.snd.snd.snd then(vc IntKind.i64 (IntKind.i64.wrap (x_1.snd.snd.fst+x_1.snd.snd.snd)) 2).bind fun(z:Int)=>(atS 1 x.snd.snd.fst z).bind fun(y_1:Int)=>if y_1=y then(atS 1 x.snd.snd.snd.fst z).bind fun(y:Int)=>(atS 1 x.snd.snd.snd.fst (IntKind.i64.wrap (z+1))).bind fun(y_2:Int)=>some (Sum.inr (Sum.inl (y,y_2)))else if y_1<y then some (Sum.inl (x_1.fst,x_1.snd.fst,IntKind.i64.wrap (z+1),x_1.snd.snd.snd))else some (Sum.inl (x_1.fst,x_1.snd.fst,x_1.snd.snd.fst,z))else some (Sum.inr (Sum.inl (x_1.fst,x_1.snd.fst)))
theorem EL(x:yC)(y:Int):jB x y=(aL (dq x y) (0,0,0,(↑x.snd.snd.fst.l.length:Int))).bind fun(y:Int×Int ⊕ Empty)=>Sum.elim (fun(val:Int×Int)=>some val) (fun(val:Empty)=>nE val) y:=by kernel_rfl
def mb(y:Sl Int)(out:yC):Int×Int→Option (Int×Int ⊕ Int ⊕ Empty):=fun(x:Int×Int)=>if x.snd<(↑y.l.length:Int)then(atS 1 y x.snd).bind fun(y:Int)=>(jB out y).bind fun(out:Int×Int)=>some (Sum.inl (IntKind.i64.wrap (x.fst+IntKind.i64.wrap (out.snd - out.fst)),IntKind.i64.wrap (x.snd+1)))else some (Sum.inr (Sum.inl x.fst))
theorem EM(x:yC)(y:Sl Int):fV x y=(mt x).bind fun(out:yC)=>(aL (mb y out) (0,0)).bind fun(y:Int ⊕ Empty)=>Sum.elim (fun(val:Int)=>some val) (fun(val:Empty)=>nE val) y:=by kernel_rfl
theorem EN(x:yM):gK x=(mC x).bind fun(out:yM)=>some (↑out.snd.snd.snd.snd.l.length:Int):=by kernel_rfl
end KM
end Ev
end
noncomputable section
namespace Sm
abbrev V:=Int×Int
structure Rg where
 o:Int→V
 ad:V→V→V
 na:V→Int×Bool
abbrev Ky:=Int×Int
def key(e:Int×Int×Int):Ky:=(e.1,e.2.1)
def klt(a b:Ky):Bool:=decide (a.1<b.1∨a.1=b.1∧a.2<b.2)
theorem yb(a:Ky):klt a a=false:=by simp [klt]
theorem Ch{a b c:Ky}(h1:klt a b=true)(h2:klt b c=true):klt a c=true:=by simp [klt]at*;omega
theorem La{a b:Ky}(h1:klt a b=false)(h2:klt b a=false):a=b:=by
 simp [klt]at*;refine Prod.ext ?_ ?_<;>omega
theorem UM{a b:Ky}(h:klt a b=true):a≠b:=by rintro rfl;rw [yb]at h;cases h
def toE(R:Rg)(p:Ky×V):Int×Int×Int:=(p.1.1,p.1.2,(R.na p.2).1)
def upd(R:Rg)(f:Ky→Option V)(e:Int×Int×Int):Ky→Option V:=fun k=>if k=key e then some (match f (key e)with|some s=>R.ad s (R.o e.2.2)|none=>R.o e.2.2)else f k
def fm(R:Rg)(l:List (Int×Int×Int)):Ky→Option V:=l.foldl (upd R) (fun _=>none)
def ins(R:Rg):List (Ky×V)→(Int×Int×Int)→List (Ky×V)
 | [],e=> [(key e,R.o e.2.2)]
 |p::S,e=>if klt p.1 (key e)=true then p::ins R S e else if klt (key e) p.1=true then(key e,R.o e.2.2)::p::S else(p.1,R.ad p.2 (R.o e.2.2))::S
def canS(R:Rg)(l:List (Int×Int×Int)):List (Ky×V):=l.foldl (ins R) []
theorem Mq(R:Rg)(l:List (Int×Int×Int))(e:Int×Int×Int):canS R (l++ [e])=ins R (canS R l) e:=by simp [canS]
def Rep(S:List (Ky×V))(f:Ky→Option V):Prop:=S.Pairwise (fun p q=>klt p.1 q.1=true)∧∀k z,(k,z)∈S↔f k=some z
theorem Rep.nil:Rep [] (fun _=>none):=⟨List.Pairwise.nil,by simp⟩
theorem Lb(R:Rg)(e:Int×Int×Int):∀(S:List (Ky×V)) (q:Ky×V),q∈ins R S e→q.1=key e∨q∈S
 | [],q,h=>by simp [ins]at h;subst h;exact .inl rfl
 |p::S,q,h=>by
  unfold ins at h;split at h
  ·rcases List.mem_cons.1 h with rfl|h
   ·exact .inr (by simp)
   ·rcases Lb R e S q h with h|h
    ·exact .inl h
    ·exact .inr (by simp [h])
  ·split at h
   ·rcases List.mem_cons.1 h with rfl|h
    ·exact .inl rfl
    ·exact .inr h
   ·rename_i h1 h2;rcases List.mem_cons.1 h with rfl|h
    ·exact .inl (La (by simpa using h1) (by simpa using h2))
    ·exact .inr (by simp [h])
theorem zg(R:Rg)(e:Int×Int×Int):∀(S:List (Ky×V)),S.Pairwise (fun p q=>klt p.1 q.1=true)→(ins R S e).Pairwise (fun p q=>klt p.1 q.1=true)
 | [],_=>by simp [ins]
 |p::S,h=>by
  obtain⟨h1,h2⟩:=List.pairwise_cons.1 h;unfold ins;split
  ·rename_i hp;refine List.pairwise_cons.2 ⟨fun q hq=> ?_,zg R e S h2⟩;rcases Lb R e S q hq with h|h
   ·rw [h];exact hp
   ·exact h1 q h
  ·split
   ·rename_i hp;refine List.pairwise_cons.2 ⟨fun q hq=> ?_,h⟩;rcases List.mem_cons.1 hq with rfl|hq
    ·exact hp
    ·exact Ch hp (h1 q hq)
   ·exact List.pairwise_cons.2 ⟨h1,h2⟩
theorem UN(R:Rg)(e:Int×Int×Int):∀(S:List (Ky×V)) (f:Ky→Option V),Rep S f→Rep (ins R S e) (upd R f e)
 |S,f,h=>⟨zg R e S h.1,by
  intro k z
  have hmem:∀(S:List (Ky×V)),S.Pairwise (fun p q=>klt p.1 q.1=true)→((k,z)∈ins R S e↔if k=key e then(∃s,(k,s)∈S∧z=R.ad s (R.o e.2.2))∨((∀s,(k,s)∉ S)∧z=R.o e.2.2)else(k,z)∈S):=by
   intro S
   induction S with
   |nil=>intro _;simp [ins,key]
   |cons p S ih=>
    intro hs;obtain⟨h1,h2⟩:=List.pairwise_cons.1 hs;unfold ins;split
    ·rename_i hp;rw [List.mem_cons,ih h2];by_cases hk:k=key e
     ·have hne:∀s,(k,s)≠p:=fun s hs=>UM hp (by rw [←hs];exact hk);simp [hk];rw [←hk];simp [hne]
     ·simp [hk]
    ·split
     ·rename_i hp0 hp
      have hno:∀s,(key e,s)∉ p::S:=by
       intro s hs;rcases List.mem_cons.1 hs with rfl|hs
       ·rw [yb]at hp;cases hp
       ·have:=Ch hp (h1 _ hs)
        rw [yb]at this;cases this
      by_cases hk:k=key e
      ·subst hk;rw [List.mem_cons];simp only [if_true];constructor
       ·rintro(h|h)
        ·exact .inr ⟨hno,by cases h;rfl⟩
        ·exact absurd h (hno _)
       ·rintro(⟨s,h,_⟩|⟨_,rfl⟩)
        ·exact absurd h (hno _)
        ·exact .inl rfl
      ·rw [List.mem_cons,if_neg hk];constructor
       ·rintro(h|h)
        ·cases h;exact absurd rfl hk
        ·exact h
       ·exact .inr
     ·rename_i hp0 hp;have he:p.1=key e:=La (by simpa using hp0) (by simpa using hp)
      have hno:∀s,(key e,s)∉ S:=by
       intro s hs
       have:=h1 _ hs
       rw [he,yb]at this;cases this
      by_cases hk:k=key e
      ·subst hk;simp only [if_true];rw [List.mem_cons];constructor
       ·rintro(h|h)
        ·exact .inl ⟨p.2,by rw [←he];simp,by have:=congrArg Prod.snd h;exact this⟩
        ·exact absurd h (hno _)
       ·rintro(⟨s,h,rfl⟩|⟨h,_⟩)
        ·rcases List.mem_cons.1 h with h|h
         ·left
          rw [←h]
         ·exact absurd h (hno _)
        ·exact absurd (show(key e,p.2)∈p::S by rw [←he];simp) (h _)
      ·rw [List.mem_cons,if_neg hk,List.mem_cons];constructor
       ·rintro(h|h)
        ·exact absurd (by rw [←he];exact congrArg Prod.fst h) hk
        ·exact .inr h
       ·rintro(h|h)
        ·exact absurd (by rw [←he,←h]) hk
        ·exact .inr h
  rw [hmem S h.1];unfold upd;by_cases hk:k=key e
  ·subst hk;simp only [if_true]
   cases hf:f (key e)with
   |none=>
    have hno:∀s,(key e,s)∉ S:=fun s hs=>by rw [h.2,hf]at hs;cases hs
    simp [hno,eq_comm]
   |some s=>
    have hs:=(h.2 (key e) s).2 hf;simp only [zsI];constructor
    ·rintro(⟨s',h',rfl⟩|⟨h',_⟩)
     ·rw [h.2,hf]at h';cases h';rfl
     ·exact absurd hs (h' _)
    ·rintro rfl;exact .inl ⟨s,hs,rfl⟩
  ·simp [hk,h.2]⟩
theorem Lc(R:Rg)(l:List (Int×Int×Int)):Rep (canS R l) (fm R l):=by
 have:∀(l:List (Int×Int×Int)) (S:List (Ky×V)) (f:Ky→Option V),Rep S f→Rep (l.foldl (ins R) S) (l.foldl (upd R) f):=by
  intro l
  induction l with
  |nil=>intro S f h;exact h
  |cons e l ih=>intro S f h;exact ih _ _ (UN R e S f h)
 exact this l [] _ Rep.nil
theorem QS{R:Rg}:∀{l:List (Int×Int×Int)} {k:Ky} {z:V},fm R l k=some z→∃e∈l,key e=k:=by
 intro l
 have:∀(l:List (Int×Int×Int)) (f:Ky→Option V) (k:Ky) (z:V),l.foldl (upd R) f k=some z→(∃e∈l,key e=k)∨∃z,f k=some z:=by
  intro l
  induction l with
  |nil=>intro f k z h;exact .inr ⟨z,h⟩
  |cons e l ih=>
   intro f k z h;rcases ih _ _ _ h with⟨e',h1,h2⟩|⟨z',h2⟩
   ·exact .inl ⟨e',by simp [h1],h2⟩
   ·unfold upd at h2;split at h2
    ·rename_i hk;exact .inl ⟨e,by simp,hk.symm⟩
    ·exact .inr ⟨z',h2⟩
 intro k z h;rcases this l _ k z h with h|⟨z,h⟩
 ·exact h
 ·cases h
def sumR(R:Rg)(l:List (Int×Int×Int)):List (Int×Int×Int)×Int:=if(canS R l).all (fun p=>(R.na p.2).2)=true then((canS R l).map (toE R),0)else([],12)
end Sm
end
end Go.Proofs.YtgefmokmjdeecaaDoor
