/- Texts of a claim, joined. -/
import Derived.Test.YtjjbpdldbdmoeaaZR17
import Derived.Test.YtjjbpdldbdmoeaaZR15
import Derived.Test.YtjjbpdldbdmoeaaZR16
import Derived.Test.YtjjbpdldbdmoeaaZR5
import Derived.Test.YtjjbpdldbdmoeaaZR14
set_option linter.unusedVariables false
set_option linter.unusedSimpArgs false
namespace Go.Proofs.Ytjjbpdldbdmoeaa
noncomputable section
namespace Ev
open Go
set_option maxRecDepth 100000
set_option maxHeartbeats 1000000
attribute [local irreducible] eJ StL TnL WpL dV
def fG(n1:Int)(n2:Int)(n3:Int):Option ((Int×Int)):=
 (if n2 ≥ 4611686018427387904 then(if n1=1 then((aO n2).bind fun(n8,n9)=>((aO n3).bind fun(n11,n12)=>((bG (n8,n9) (n11,n12)).bind fun(n14,n15)=>((aO 4611686018427387904).bind fun(n18,n19)=>some (n18,n19)))))else(if n1=3 then((aO 4611686018427387904).bind fun(n22,n23)=>some (n22,n23))else(if n1=4 then((aO 4611686018427387904).bind fun(n26,n27)=>some (n26,n27))else(if n1=2 then(if n2≠0 then(if n3≠0 then((aS true).bind fun(n32,n33)=>some (n32,n33))else((aS false).bind fun(n35,n36)=>some (n35,n36)))else((aS false).bind fun(n38,n39)=>some (n38,n39)))else(if n1=5 then((dR n2 n3).bind fun(n42,n43)=>some (n42,n43))else some (0,0))))))else(if n3 ≥ 4611686018427387904 then(if n1=1 then((aO n2).bind fun(n47,n48)=>((aO n3).bind fun(n50,n51)=>((bG (n47,n48) (n50,n51)).bind fun(n53,n54)=>((aO 4611686018427387904).bind fun(n57,n58)=>some (n57,n58)))))else(if n1=3 then((aO 4611686018427387904).bind fun(n61,n62)=>some (n61,n62))else(if n1=4 then((aO 4611686018427387904).bind fun(n65,n66)=>some (n65,n66))else(if n1=2 then(if n2≠0 then(if n3≠0 then((aS true).bind fun(n71,n72)=>some (n71,n72))else((aS false).bind fun(n74,n75)=>some (n74,n75)))else((aS false).bind fun(n77,n78)=>some (n77,n78)))else(if n1=5 then((dR n2 n3).bind fun(n81,n82)=>some (n81,n82))else some (0,0))))))else(if n1=1 then((aO n2).bind fun(n85,n86)=>((aO n3).bind fun(n88,n89)=>((bG (n85,n86) (n88,n89)).bind fun(n91,n92)=>((aO 4611686018427387904).bind fun(n95,n96)=>((bB (n91,n92) (n95,n96)).bind fun n98=>(if n98>0 then some (n95,n96)else some (n91,n92)))))))else(if n1=3 then((aO n2).bind fun(n102,n103)=>some (n102,n103))else(if n1=4 then((aO n3).bind fun(n106,n107)=>some (n106,n107))else(if n1=2 then(if n2≠0 then(if n3≠0 then((aS true).bind fun(n112,n113)=>some (n112,n113))else((aS false).bind fun(n115,n116)=>some (n115,n116)))else((aS false).bind fun(n118,n119)=>some (n118,n119)))else(if n1=5 then((dR n2 n3).bind fun(n122,n123)=>some (n122,n123))else some (0,0))))))))
theorem yk(m:Nat){n1:Int}{n2:Int}{n3:Int}{out:(Int×Int)}(h:fG n1 n2 n3=some out):RunsP E1 (m+4) 67 [.one (iT .i64 n1),.one (iT .i64 n2),.one (iT .i64 n3)] (.fresh,[.agg (r66 out)]):=by
 refine ml rfl (by rw [dv];exact show bU Try.prog 67=_ by unfold bU;rw [Try.func67];unfold Try.f67;rfl) rfl ?_;dsimp only;unfold fG at h;refine lS (lO ?_);refine aF rfl rfl rfl (bA jk (row:= [iI 0,uI 0]) rfl rfl) (fun k4=> ?_);refine oN ?_;refine pq (qm (iO n2)) ?_;by_cases c5:n2 ≥ 4611686018427387904;replace h:=ifT c5 h;refine pq (qb (eG c5)) ?_;refine pq (qm bt) ?_
 iterate 2 refine os ?_
 refine pq (qpt bt) ?_;refine pq (qa bt) ?_;refine oN ?_;refine pq (qm (iO n1)) ?_;refine oE (eS (lB (lS (lO ?_))));by_cases c6:n1=1;replace h:=ifT c6 h;refine pq (qb (bZ c6)) ?_;refine pq (qa bt) ?_;refine oE (eS (cT rfl (lS (lO ?_))));refine pq (qm (iO n2)) ?_;obtain⟨⟨n8,n9⟩,h7,h⟩:=an h;refine pq (qc (.agg [iI n8,uI n9]) [iO n2] (cA (m+2) h7) (af (au ak) ai)) ?_;refine pq (qm (iO n3)) ?_;obtain⟨⟨n11,n12⟩,h10,h⟩:=an h;refine pq (qc (.agg [iI n11,uI n12]) [iO n3] (cA (m+2) h10) (af (au ak) ai)) ?_;obtain⟨⟨n14,n15⟩,h13,h⟩:=an h;refine pq (qc (.agg [iI n14,uI n15]) [.agg [iI n8,uI n9],.agg [iI n11,uI n12]] (fB (m+2) h13) (af (aA (ae ak (ae ak az))) (af (aA (ae ak (ae ak az))) ai))) ?_;refine aF rfl rfl rfl (bA jk (row:= [iI 0,uI 0]) rfl rfl) (fun k16=> ?_);refine ow [[iI n14,uI n15]] 0 aI ?_;refine oE (eS (lS (lS ?_)));refine kw (by kernel_rfl) ?_;refine sq (qm bt) ?_;refine sq (qm bt) ?_
 iterate 4 refine ss ?_
 refine sq (qpt bt) ?_;refine gn (eS (cT rfl (lS (lO ?_))));obtain⟨⟨n18,n19⟩,h17,h⟩:=an h;refine pq (qc (.agg [iI n18,uI n19]) [iO 4611686018427387904] (cA (m+2) h17) (af (au ak) ai)) ?_;refine ow [[iI n18,uI n19]] 1 aI ?_;refine oE (eS (lR (eR (bR ?_))));obtain rfl:=sj h;exact aR (.inr rfl) (aD (d:= .agg [iI n18,uI n19]) 1 rfl aI rfl rfl rfl rfl aC) (af (aA (ae ak (ae ak az))) ai) oG rfl rfl;replace h:=ifF c6 h;refine pq (qb (cd c6)) ?_;refine pq (qa bf) ?_;refine oE (eS (cF rfl (lS (lO ?_))));by_cases c20:n1=3;replace h:=ifT c20 h;refine pq (qb (bZ c20)) ?_;refine pq (qa bt) ?_;refine oE (eS (cT rfl (lS (lS (lO ?_)))));refine pq (qm bt) ?_;refine oE (eS (cT rfl (lS (lO ?_))));obtain⟨⟨n22,n23⟩,h21,h⟩:=an h;refine pq (qc (.agg [iI n22,uI n23]) [iO 4611686018427387904] (cA (m+2) h21) (af (au ak) ai)) ?_;refine ow [[iI n22,uI n23]] 0 aI ?_;refine oE (eS (lR (eR (bR ?_))));obtain rfl:=sj h;exact aR (.inr rfl) (aD (d:= .agg [iI n22,uI n23]) 0 rfl aI rfl rfl rfl rfl aC) (af (aA (ae ak (ae ak az))) ai) oG rfl rfl;replace h:=ifF c20 h;refine pq (qb (cd c20)) ?_;refine pq (qa bf) ?_;refine oE (eS (cF rfl (lS (lO ?_))));by_cases c24:n1=4;replace h:=ifT c24 h;refine pq (qb (bZ c24)) ?_;refine pq (qa bt) ?_;refine oE (eS (cT rfl (lS (lS (lO ?_)))));refine pq (qm bt) ?_;refine oE (eS (cT rfl (lS (lO ?_))));obtain⟨⟨n26,n27⟩,h25,h⟩:=an h;refine pq (qc (.agg [iI n26,uI n27]) [iO 4611686018427387904] (cA (m+2) h25) (af (au ak) ai)) ?_;refine ow [[iI n26,uI n27]] 0 aI ?_;refine oE (eS (lR (eR (bR ?_))));obtain rfl:=sj h;exact aR (.inr rfl) (aD (d:= .agg [iI n26,uI n27]) 0 rfl aI rfl rfl rfl rfl aC) (af (aA (ae ak (ae ak az))) ai) oG rfl rfl;replace h:=ifF c24 h;refine pq (qb (cd c24)) ?_;refine pq (qa bf) ?_;refine oE (eS (cF rfl (lS (lO ?_))));by_cases c28:n1=2;replace h:=ifT c28 h;refine pq (qb (bZ c28)) ?_;refine pq (qa bt) ?_;refine oE (eS (cT rfl (lS (lO ?_))));refine pq (qm (iO n2)) ?_;by_cases c29:n2≠0;replace h:=ifT c29 h;refine pq (qb (eZ c29)) ?_;refine pq (qm bt) ?_;refine pq (qm (iO n3)) ?_;by_cases c30:n3≠0;replace h:=ifT c30 h;refine pq (qb (eZ c30)) ?_;refine pq (qpt bt) ?_;obtain⟨⟨n32,n33⟩,h31,h⟩:=an h;refine pq (qc (.agg [iI n32,uI n33]) [bt] (eo (m+2) h31) (af (au ak) ai)) ?_;refine ow [[iI n32,uI n33]] 0 aI ?_;refine oE (eS (lR (bR ?_)));obtain rfl:=sj h;exact aR (.inr rfl) (aD (d:= .agg [iI n32,uI n33]) 0 rfl aI rfl rfl rfl rfl aC) (af (aA (ae ak (ae ak az))) ai) oG rfl rfl;replace h:=ifF c30 h;refine pq (qb (fc c30)) ?_;refine pq (qpt bf) ?_;obtain⟨⟨n35,n36⟩,h34,h⟩:=an h;refine pq (qc (.agg [iI n35,uI n36]) [bf] (eo (m+2) h34) (af (au ak) ai)) ?_;refine ow [[iI n35,uI n36]] 0 aI ?_;refine oE (eS (lR (bR ?_)));obtain rfl:=sj h;exact aR (.inr rfl) (aD (d:= .agg [iI n35,uI n36]) 0 rfl aI rfl rfl rfl rfl aC) (af (aA (ae ak (ae ak az))) ai) oG rfl rfl;replace h:=ifF c29 h;refine pq (qb (fc c29)) ?_;refine pq (qm bf) ?_
 iterate 2 refine os ?_
 refine pq (qpf bf) ?_;obtain⟨⟨n38,n39⟩,h37,h⟩:=an h;refine pq (qc (.agg [iI n38,uI n39]) [bf] (eo (m+2) h37) (af (au ak) ai)) ?_;refine ow [[iI n38,uI n39]] 0 aI ?_;refine oE (eS (lR (bR ?_)));obtain rfl:=sj h;exact aR (.inr rfl) (aD (d:= .agg [iI n38,uI n39]) 0 rfl aI rfl rfl rfl rfl aC) (af (aA (ae ak (ae ak az))) ai) oG rfl rfl;replace h:=ifF c28 h;refine pq (qb (cd c28)) ?_;refine pq (qa bf) ?_;refine oE (eS (cF rfl (lS (lO ?_))));by_cases c40:n1=5;replace h:=ifT c40 h;refine pq (qb (bZ c40)) ?_;refine pq (qa bt) ?_;refine oE (eS (cT rfl (lS (lO ?_))));refine pq (qm (iO n2)) ?_;refine pq (qm (iO n3)) ?_;obtain⟨⟨n42,n43⟩,h41,h⟩:=an h;refine pq (qc (.agg [iI n42,uI n43]) [iO n2,iO n3] (qQ (m+0) h41) (af (au ak) (af (au ak) ai))) ?_;refine ow [[iI n42,uI n43]] 0 aI ?_;refine oE (eS (lR (bR ?_)));obtain rfl:=sj h;exact aR (.inr rfl) (aD (d:= .agg [iI n42,uI n43]) 0 rfl aI rfl rfl rfl rfl aC) (af (aA (ae ak (ae ak az))) ai) oG rfl rfl;replace h:=ifF c40 h;refine pq (qb (cd c40)) ?_;refine pq (qa bf) ?_;refine oE (eS (cF rfl (lS (lO ?_))));refine pq (cn (cs:= [iI 0,uI 0]) jk rfl AX rfl) ?_;refine ow [[iI 0,uI 0]] 0 aI ?_;refine oE (eS (lR (bR ?_)));obtain rfl:=sj h;exact aR (.inr rfl) (aD (d:= .agg [iI 0,uI 0]) 0 rfl aI rfl rfl rfl rfl aC) (af (aA (ae ak (ae ak az))) ai) oG rfl rfl;replace h:=ifF c5 h;refine pq (qb (eH c5)) ?_;refine pq (qm bf) ?_;refine pq (qm (iO n3)) ?_;by_cases c44:n3 ≥ 4611686018427387904;replace h:=ifT c44 h;refine pq (qb (eG c44)) ?_;refine pq (qpf bt) ?_;refine pq (qa bt) ?_;refine oN ?_;refine pq (qm (iO n1)) ?_;refine oE (eS (lB (lS (lO ?_))));by_cases c45:n1=1;replace h:=ifT c45 h;refine pq (qb (bZ c45)) ?_;refine pq (qa bt) ?_;refine oE (eS (cT rfl (lS (lO ?_))));refine pq (qm (iO n2)) ?_;obtain⟨⟨n47,n48⟩,h46,h⟩:=an h;refine pq (qc (.agg [iI n47,uI n48]) [iO n2] (cA (m+2) h46) (af (au ak) ai)) ?_;refine pq (qm (iO n3)) ?_;obtain⟨⟨n50,n51⟩,h49,h⟩:=an h;refine pq (qc (.agg [iI n50,uI n51]) [iO n3] (cA (m+2) h49) (af (au ak) ai)) ?_;obtain⟨⟨n53,n54⟩,h52,h⟩:=an h;refine pq (qc (.agg [iI n53,uI n54]) [.agg [iI n47,uI n48],.agg [iI n50,uI n51]] (fB (m+2) h52) (af (aA (ae ak (ae ak az))) (af (aA (ae ak (ae ak az))) ai))) ?_;refine aF rfl rfl rfl (bA jk (row:= [iI 0,uI 0]) rfl rfl) (fun k55=> ?_);refine ow [[iI n53,uI n54]] 0 aI ?_;refine oE (eS (lS (lS ?_)));refine kw (by kernel_rfl) ?_;refine sq (qm bt) ?_;refine sq (qm bt) ?_
 iterate 4 refine ss ?_
 refine sq (qpt bt) ?_;refine gn (eS (cT rfl (lS (lO ?_))));obtain⟨⟨n57,n58⟩,h56,h⟩:=an h;refine pq (qc (.agg [iI n57,uI n58]) [iO 4611686018427387904] (cA (m+2) h56) (af (au ak) ai)) ?_;refine ow [[iI n57,uI n58]] 1 aI ?_;refine oE (eS (lR (eR (bR ?_))));obtain rfl:=sj h;exact aR (.inr rfl) (aD (d:= .agg [iI n57,uI n58]) 1 rfl aI rfl rfl rfl rfl aC) (af (aA (ae ak (ae ak az))) ai) oG rfl rfl;replace h:=ifF c45 h;refine pq (qb (cd c45)) ?_;refine pq (qa bf) ?_;refine oE (eS (cF rfl (lS (lO ?_))));by_cases c59:n1=3;replace h:=ifT c59 h;refine pq (qb (bZ c59)) ?_;refine pq (qa bt) ?_;refine oE (eS (cT rfl (lS (lS (lO ?_)))));refine pq (qm bt) ?_;refine oE (eS (cT rfl (lS (lO ?_))));obtain⟨⟨n61,n62⟩,h60,h⟩:=an h;refine pq (qc (.agg [iI n61,uI n62]) [iO 4611686018427387904] (cA (m+2) h60) (af (au ak) ai)) ?_;refine ow [[iI n61,uI n62]] 0 aI ?_;refine oE (eS (lR (eR (bR ?_))));obtain rfl:=sj h;exact aR (.inr rfl) (aD (d:= .agg [iI n61,uI n62]) 0 rfl aI rfl rfl rfl rfl aC) (af (aA (ae ak (ae ak az))) ai) oG rfl rfl;replace h:=ifF c59 h;refine pq (qb (cd c59)) ?_;refine pq (qa bf) ?_;refine oE (eS (cF rfl (lS (lO ?_))));by_cases c63:n1=4;replace h:=ifT c63 h;refine pq (qb (bZ c63)) ?_;refine pq (qa bt) ?_;refine oE (eS (cT rfl (lS (lS (lO ?_)))));refine pq (qm bt) ?_;refine oE (eS (cT rfl (lS (lO ?_))));obtain⟨⟨n65,n66⟩,h64,h⟩:=an h;refine pq (qc (.agg [iI n65,uI n66]) [iO 4611686018427387904] (cA (m+2) h64) (af (au ak) ai)) ?_;refine ow [[iI n65,uI n66]] 0 aI ?_;refine oE (eS (lR (eR (bR ?_))));obtain rfl:=sj h;exact aR (.inr rfl) (aD (d:= .agg [iI n65,uI n66]) 0 rfl aI rfl rfl rfl rfl aC) (af (aA (ae ak (ae ak az))) ai) oG rfl rfl;replace h:=ifF c63 h;refine pq (qb (cd c63)) ?_;refine pq (qa bf) ?_;refine oE (eS (cF rfl (lS (lO ?_))));by_cases c67:n1=2;replace h:=ifT c67 h;refine pq (qb (bZ c67)) ?_;refine pq (qa bt) ?_;refine oE (eS (cT rfl (lS (lO ?_))));refine pq (qm (iO n2)) ?_;by_cases c68:n2≠0;replace h:=ifT c68 h;refine pq (qb (eZ c68)) ?_;refine pq (qm bt) ?_;refine pq (qm (iO n3)) ?_;by_cases c69:n3≠0;replace h:=ifT c69 h;refine pq (qb (eZ c69)) ?_;refine pq (qpt bt) ?_;obtain⟨⟨n71,n72⟩,h70,h⟩:=an h;refine pq (qc (.agg [iI n71,uI n72]) [bt] (eo (m+2) h70) (af (au ak) ai)) ?_;refine ow [[iI n71,uI n72]] 0 aI ?_;refine oE (eS (lR (bR ?_)));obtain rfl:=sj h;exact aR (.inr rfl) (aD (d:= .agg [iI n71,uI n72]) 0 rfl aI rfl rfl rfl rfl aC) (af (aA (ae ak (ae ak az))) ai) oG rfl rfl;replace h:=ifF c69 h;refine pq (qb (fc c69)) ?_;refine pq (qpt bf) ?_;obtain⟨⟨n74,n75⟩,h73,h⟩:=an h;refine pq (qc (.agg [iI n74,uI n75]) [bf] (eo (m+2) h73) (af (au ak) ai)) ?_;refine ow [[iI n74,uI n75]] 0 aI ?_;refine oE (eS (lR (bR ?_)));obtain rfl:=sj h;exact aR (.inr rfl) (aD (d:= .agg [iI n74,uI n75]) 0 rfl aI rfl rfl rfl rfl aC) (af (aA (ae ak (ae ak az))) ai) oG rfl rfl;replace h:=ifF c68 h;refine pq (qb (fc c68)) ?_;refine pq (qm bf) ?_
 iterate 2 refine os ?_
 refine pq (qpf bf) ?_;obtain⟨⟨n77,n78⟩,h76,h⟩:=an h;refine pq (qc (.agg [iI n77,uI n78]) [bf] (eo (m+2) h76) (af (au ak) ai)) ?_;refine ow [[iI n77,uI n78]] 0 aI ?_;refine oE (eS (lR (bR ?_)));obtain rfl:=sj h;exact aR (.inr rfl) (aD (d:= .agg [iI n77,uI n78]) 0 rfl aI rfl rfl rfl rfl aC) (af (aA (ae ak (ae ak az))) ai) oG rfl rfl;replace h:=ifF c67 h;refine pq (qb (cd c67)) ?_;refine pq (qa bf) ?_;refine oE (eS (cF rfl (lS (lO ?_))));by_cases c79:n1=5;replace h:=ifT c79 h;refine pq (qb (bZ c79)) ?_;refine pq (qa bt) ?_;refine oE (eS (cT rfl (lS (lO ?_))));refine pq (qm (iO n2)) ?_;refine pq (qm (iO n3)) ?_;obtain⟨⟨n81,n82⟩,h80,h⟩:=an h;refine pq (qc (.agg [iI n81,uI n82]) [iO n2,iO n3] (qQ (m+0) h80) (af (au ak) (af (au ak) ai))) ?_;refine ow [[iI n81,uI n82]] 0 aI ?_;refine oE (eS (lR (bR ?_)));obtain rfl:=sj h;exact aR (.inr rfl) (aD (d:= .agg [iI n81,uI n82]) 0 rfl aI rfl rfl rfl rfl aC) (af (aA (ae ak (ae ak az))) ai) oG rfl rfl;replace h:=ifF c79 h;refine pq (qb (cd c79)) ?_;refine pq (qa bf) ?_;refine oE (eS (cF rfl (lS (lO ?_))));refine pq (cn (cs:= [iI 0,uI 0]) jk rfl AX rfl) ?_;refine ow [[iI 0,uI 0]] 0 aI ?_;refine oE (eS (lR (bR ?_)));obtain rfl:=sj h;exact aR (.inr rfl) (aD (d:= .agg [iI 0,uI 0]) 0 rfl aI rfl rfl rfl rfl aC) (af (aA (ae ak (ae ak az))) ai) oG rfl rfl;replace h:=ifF c44 h;refine pq (qb (eH c44)) ?_;refine pq (qpf bf) ?_;refine pq (qa bf) ?_;refine oN ?_;refine pq (qm (iO n1)) ?_;refine oE (eS (lB (lS (lO ?_))));by_cases c83:n1=1;replace h:=ifT c83 h;refine pq (qb (bZ c83)) ?_;refine pq (qa bt) ?_;refine oE (eS (cT rfl (lS (lO ?_))));refine pq (qm (iO n2)) ?_;obtain⟨⟨n85,n86⟩,h84,h⟩:=an h;refine pq (qc (.agg [iI n85,uI n86]) [iO n2] (cA (m+2) h84) (af (au ak) ai)) ?_;refine pq (qm (iO n3)) ?_;obtain⟨⟨n88,n89⟩,h87,h⟩:=an h;refine pq (qc (.agg [iI n88,uI n89]) [iO n3] (cA (m+2) h87) (af (au ak) ai)) ?_;obtain⟨⟨n91,n92⟩,h90,h⟩:=an h;refine pq (qc (.agg [iI n91,uI n92]) [.agg [iI n85,uI n86],.agg [iI n88,uI n89]] (fB (m+2) h90) (af (aA (ae ak (ae ak az))) (af (aA (ae ak (ae ak az))) ai))) ?_;refine aF rfl rfl rfl (bA jk (row:= [iI 0,uI 0]) rfl rfl) (fun k93=> ?_);refine ow [[iI n91,uI n92]] 0 aI ?_;refine oE (eS (lS (lS ?_)));refine kw (by kernel_rfl) ?_;refine sq (qm bf) ?_;refine sq (qm bf) ?_;refine sq (ql (.agg [iI n91,uI n92]) 0 aI) ?_;obtain⟨⟨n95,n96⟩,h94,h⟩:=an h;refine sq (qc (.agg [iI n95,uI n96]) [iO 4611686018427387904] (cA (m+2) h94) (af (au ak) ai)) ?_;obtain⟨n98,h97,h⟩:=an h;refine sq (qc (iO n98) [.agg [iI n91,uI n92],.agg [iI n95,uI n96]] (zi (m+2) h97) (af (aA (ae ak (ae ak az))) (af (aA (ae ak (ae ak az))) ai))) ?_;by_cases c99:n98>0;replace h:=ifT c99 h;refine sq (qb (gC c99)) ?_;refine sq (qpf bt) ?_;refine gn (eS (cT rfl (lS (lO ?_))));refine pq (qc (.agg [iI n95,uI n96]) [iO 4611686018427387904] (cA (m+2) h94) (af (au ak) ai)) ?_;refine ow [[iI n95,uI n96]] 1 aI ?_;refine oE (eS (lR (eR (bR ?_))));obtain rfl:=sj h;exact aR (.inr rfl) (aD (d:= .agg [iI n95,uI n96]) 1 rfl aI rfl rfl rfl rfl aC) (af (aA (ae ak (ae ak az))) ai) oG rfl rfl;replace h:=ifF c99 h;refine sq (qb (gD c99)) ?_;refine sq (qpf bf) ?_;refine gn (eS (cF rfl (lK (eS (lS (lO ?_))))));refine pq (ql (.agg [iI n91,uI n92]) 0 aI) ?_;refine ow [[iI n91,uI n92]] 1 aI ?_;refine oE (eS (lR (bR ?_)));obtain rfl:=sj h;exact aR (.inr rfl) (aD (d:= .agg [iI n91,uI n92]) 1 rfl aI rfl rfl rfl rfl aC) (af (aA (ae ak (ae ak az))) ai) oG rfl rfl;replace h:=ifF c83 h;refine pq (qb (cd c83)) ?_;refine pq (qa bf) ?_;refine oE (eS (cF rfl (lS (lO ?_))));by_cases c100:n1=3;replace h:=ifT c100 h;refine pq (qb (bZ c100)) ?_;refine pq (qa bt) ?_;refine oE (eS (cT rfl (lS (lS (lO ?_)))));refine pq (qm bf) ?_;refine oE (eS (cF rfl (lK (eS (lS (lO ?_))))));refine pq (qm (iO n2)) ?_;obtain⟨⟨n102,n103⟩,h101,h⟩:=an h;refine pq (qc (.agg [iI n102,uI n103]) [iO n2] (cA (m+2) h101) (af (au ak) ai)) ?_;refine ow [[iI n102,uI n103]] 0 aI ?_;refine oE (eS (lR (bR ?_)));obtain rfl:=sj h;exact aR (.inr rfl) (aD (d:= .agg [iI n102,uI n103]) 0 rfl aI rfl rfl rfl rfl aC) (af (aA (ae ak (ae ak az))) ai) oG rfl rfl;replace h:=ifF c100 h;refine pq (qb (cd c100)) ?_;refine pq (qa bf) ?_;refine oE (eS (cF rfl (lS (lO ?_))));by_cases c104:n1=4;replace h:=ifT c104 h;refine pq (qb (bZ c104)) ?_;refine pq (qa bt) ?_;refine oE (eS (cT rfl (lS (lS (lO ?_)))));refine pq (qm bf) ?_;refine oE (eS (cF rfl (lK (eS (lS (lO ?_))))));refine pq (qm (iO n3)) ?_;obtain⟨⟨n106,n107⟩,h105,h⟩:=an h;refine pq (qc (.agg [iI n106,uI n107]) [iO n3] (cA (m+2) h105) (af (au ak) ai)) ?_;refine ow [[iI n106,uI n107]] 0 aI ?_;refine oE (eS (lR (bR ?_)));obtain rfl:=sj h;exact aR (.inr rfl) (aD (d:= .agg [iI n106,uI n107]) 0 rfl aI rfl rfl rfl rfl aC) (af (aA (ae ak (ae ak az))) ai) oG rfl rfl;replace h:=ifF c104 h;refine pq (qb (cd c104)) ?_;refine pq (qa bf) ?_;refine oE (eS (cF rfl (lS (lO ?_))));by_cases c108:n1=2;replace h:=ifT c108 h;refine pq (qb (bZ c108)) ?_;refine pq (qa bt) ?_;refine oE (eS (cT rfl (lS (lO ?_))));refine pq (qm (iO n2)) ?_;by_cases c109:n2≠0;replace h:=ifT c109 h;refine pq (qb (eZ c109)) ?_;refine pq (qm bt) ?_;refine pq (qm (iO n3)) ?_;by_cases c110:n3≠0;replace h:=ifT c110 h;refine pq (qb (eZ c110)) ?_;refine pq (qpt bt) ?_;obtain⟨⟨n112,n113⟩,h111,h⟩:=an h;refine pq (qc (.agg [iI n112,uI n113]) [bt] (eo (m+2) h111) (af (au ak) ai)) ?_;refine ow [[iI n112,uI n113]] 0 aI ?_;refine oE (eS (lR (bR ?_)));obtain rfl:=sj h;exact aR (.inr rfl) (aD (d:= .agg [iI n112,uI n113]) 0 rfl aI rfl rfl rfl rfl aC) (af (aA (ae ak (ae ak az))) ai) oG rfl rfl;replace h:=ifF c110 h;refine pq (qb (fc c110)) ?_;refine pq (qpt bf) ?_;obtain⟨⟨n115,n116⟩,h114,h⟩:=an h;refine pq (qc (.agg [iI n115,uI n116]) [bf] (eo (m+2) h114) (af (au ak) ai)) ?_;refine ow [[iI n115,uI n116]] 0 aI ?_;refine oE (eS (lR (bR ?_)));obtain rfl:=sj h;exact aR (.inr rfl) (aD (d:= .agg [iI n115,uI n116]) 0 rfl aI rfl rfl rfl rfl aC) (af (aA (ae ak (ae ak az))) ai) oG rfl rfl;replace h:=ifF c109 h;refine pq (qb (fc c109)) ?_;refine pq (qm bf) ?_
 iterate 2 refine os ?_
 refine pq (qpf bf) ?_;obtain⟨⟨n118,n119⟩,h117,h⟩:=an h;refine pq (qc (.agg [iI n118,uI n119]) [bf] (eo (m+2) h117) (af (au ak) ai)) ?_;refine ow [[iI n118,uI n119]] 0 aI ?_;refine oE (eS (lR (bR ?_)));obtain rfl:=sj h;exact aR (.inr rfl) (aD (d:= .agg [iI n118,uI n119]) 0 rfl aI rfl rfl rfl rfl aC) (af (aA (ae ak (ae ak az))) ai) oG rfl rfl;replace h:=ifF c108 h;refine pq (qb (cd c108)) ?_;refine pq (qa bf) ?_;refine oE (eS (cF rfl (lS (lO ?_))));by_cases c120:n1=5;replace h:=ifT c120 h;refine pq (qb (bZ c120)) ?_;refine pq (qa bt) ?_;refine oE (eS (cT rfl (lS (lO ?_))));refine pq (qm (iO n2)) ?_;refine pq (qm (iO n3)) ?_;obtain⟨⟨n122,n123⟩,h121,h⟩:=an h;refine pq (qc (.agg [iI n122,uI n123]) [iO n2,iO n3] (qQ (m+0) h121) (af (au ak) (af (au ak) ai))) ?_;refine ow [[iI n122,uI n123]] 0 aI ?_;refine oE (eS (lR (bR ?_)));obtain rfl:=sj h;exact aR (.inr rfl) (aD (d:= .agg [iI n122,uI n123]) 0 rfl aI rfl rfl rfl rfl aC) (af (aA (ae ak (ae ak az))) ai) oG rfl rfl;replace h:=ifF c120 h;refine pq (qb (cd c120)) ?_;refine pq (qa bf) ?_;refine oE (eS (cF rfl (lS (lO ?_))));refine pq (cn (cs:= [iI 0,uI 0]) jk rfl AX rfl) ?_;refine ow [[iI 0,uI 0]] 0 aI ?_;refine oE (eS (lR (bR ?_)));obtain rfl:=sj h;exact aR (.inr rfl) (aD (d:= .agg [iI 0,uI 0]) 0 rfl aI rfl rfl rfl rfl aC) (af (aA (ae ak (ae ak az))) ai) oG rfl rfl
def dB(n1:Int)(s17:Sl (Int))(s18:Sl (Int))(s19:Sl (Int))(n22:Int)(s23:Sl (Int×Int))(n608:Int)(a:Bool×Int×Int×Int):Option ((Bool×Int×Int×Int)⊕((Bool×Int×Int)⊕((Bool×(List (Int×(Int×Int)))×Int)⊕((List (Int×(Int×Int)))⊕((Sl (Int×(Int×Int)))×Int))))):=
 match a with
 |(b676,n677,n678,n679)=>((atS 1 s17 (IntKind.i64.wrap (n608+1))).bind fun n682=>(if n677<n682 then((atS 1 s18 n677).bind fun n686=>((fT (n22,s23) n686).bind fun(n688,b689)=>(if b689=true then((atS 1 s19 n677).bind fun n692=>((fG n1 n692 n688).bind fun(n694,n695)=>(if b676=true then((fE n1 (n678,n679) (n694,n695)).bind fun(n698,n699)=>some (.inl (true,(IntKind.i64.wrap (n677+1)),n698,n699)))else some (.inl (true,(IntKind.i64.wrap (n677+1)),n694,n695)))))else some (.inl (b676,(IntKind.i64.wrap (n677+1)),n678,n679)))))else some (.inr (.inl (b676,n678,n679)))))
def fC(n1:Int)(s17:Sl (Int))(s18:Sl (Int))(s19:Sl (Int))(n22:Int)(s23:Sl (Int×Int))(n608:Int)(a:Bool×Int×Int×Int):Option ((Bool×Int×Int×Int)⊕((Bool×Int×Int)⊕((Bool×(List (Int×(Int×Int)))×Int)⊕((List (Int×(Int×Int)))⊕((Sl (Int×(Int×Int)))×Int))))):=
 match a with
 |(b769,n770,n771,n772)=>((atS 1 s17 (IntKind.i64.wrap (n608+1))).bind fun n775=>(if n770<n775 then((atS 1 s18 n770).bind fun n779=>((fT (n22,s23) n779).bind fun(n781,b782)=>(if b782=true then((atS 1 s19 n770).bind fun n785=>((fG n1 n785 n781).bind fun(n787,n788)=>(if b769=true then((fE n1 (n771,n772) (n787,n788)).bind fun(n791,n792)=>some (.inl (true,(IntKind.i64.wrap (n770+1)),n791,n792)))else some (.inl (true,(IntKind.i64.wrap (n770+1)),n787,n788)))))else some (.inl (b769,(IntKind.i64.wrap (n770+1)),n771,n772)))))else some (.inr (.inl (b769,n771,n772)))))
def eh(n1:Int)(s10:Sl (Int))(n15:Int)(s17:Sl (Int))(s18:Sl (Int))(s19:Sl (Int))(n22:Int)(s23:Sl (Int×Int))(a:Bool×(List (Int×(Int×Int)))×Int):Option ((Bool×(List (Int×(Int×Int)))×Int)⊕((List (Int×(Int×Int)))⊕((Sl (Int×(Int×Int)))×Int))):=
 match a with
 |(b606,l607,n608)=>(if n608<n15 then((dP s10 n608).bind fun b612=>(if b612=true then(if b606=true then some (.inl (true,l607,(IntKind.i64.wrap (n608+1))))else((atS 1 s17 n608).bind fun n709=>((aM (fC n1 s17 s18 s19 n22 s23 n608) (false,n709,0,0)).bind (Sum.elim (fun⟨b793,n794,n795⟩=>(if b793=true then((app l607 ([(n608,(n794,n795))]:List (Int×(Int×Int)))).bind fun _=>some (.inl (false,(l607++([(n608,(n794,n795))]:List (Int×(Int×Int)))),(IntKind.i64.wrap (n608+1)))))else some (.inl (false,l607,(IntKind.i64.wrap (n608+1)))))) (fun u=>some u)))))else(if b606=true then((atS 1 s17 n608).bind fun n616=>((aM (dB n1 s17 s18 s19 n22 s23 n608) (false,n616,0,0)).bind (Sum.elim (fun⟨b700,n701,n702⟩=>(if b700=true then((app l607 ([(n608,(n701,n702))]:List (Int×(Int×Int)))).bind fun _=>some (.inl (true,(l607++([(n608,(n701,n702))]:List (Int×(Int×Int)))),(IntKind.i64.wrap (n608+1)))))else some (.inl (true,l607,(IntKind.i64.wrap (n608+1)))))) (fun u=>some u))))else some (.inl (false,l607,(IntKind.i64.wrap (n608+1)))))))else some (.inr (.inl l607)))
def gl(n1:Int)(a1:Int×Int×Sl (Int)×Sl (Int)×Sl (Int))(a2:Int×Sl (Int)×Sl (Int))(s10:Sl (Int))(b11:Bool):Option ((Sl (Int×(Int×Int)))×Int):=
 match a1,a2 with
 |(n2,n3,s4,s5,s6),(n7,s8,s9)=>((fI (n2,n3,s4,s5,s6)).bind fun(n15,n16,s17,s18,s19)=>((fJ (n7,s8,s9)).bind fun(n22,s23)=>((fV n1).bind fun b26=>(if b26=true then(if n22≠n16 then some ((⟨false,0,[]⟩:Sl (Int×(Int×Int))),4)else((aM (eh n1 s10 n15 s17 s18 s19 n22 s23) (b11,([]:List (Int×(Int×Int))),0)).bind (Sum.elim (fun l799=>some ((mo 3 l799),0)) (fun u=>some u))))else some ((⟨false,0,[]⟩:Sl (Int×(Int×Int))),8)))))
theorem GT(m:Nat){n1:Int}{a1:Int×Int×Sl (Int)×Sl (Int)×Sl (Int)}{a2:Int×Sl (Int)×Sl (Int)}{s10:Sl (Int)}{b11:Bool}{out:(Sl (Int×(Int×Int)))×Int}(h:gl n1 a1 a2 s10 b11=some out):RunsP E1 (m+6) 29 [.one (iT .i64 n1),.agg (r48 a1),.agg (r86 a2),.one (Sl.t r65 s10),.one (bT b11)] (.fresh,[.one (Sl.t r68 out.1),.one (iT .i64 out.2)]):=by
 obtain⟨n2,n3,s4,s5,s6⟩:=a1;obtain⟨n7,s8,s9⟩:=a2;refine ml rfl (by rw [dv];exact show bU Try.prog 29=_ by unfold bU;rw [Try.func29];unfold Try.f29;rfl) rfl ?_;dsimp only;unfold gl at h;refine lS (lO ?_);refine aF rfl rfl rfl (gH TE rfl (cs:= [iI n2,iI n3,sF r3 s4,sF r3 s5,sF r2 s6]) rfl rfl) (fun k12=> ?_);refine aF rfl rfl rfl (gH Bd rfl (cs:= [iI n7,sF r65 s8,sF r2 s9]) rfl rfl) (fun k13=> ?_);refine pq (qa (.one nC)) ?_;refine pq (qa (iO 0)) ?_;refine oN ?_;refine pq (ql (.agg [iI n2,iI n3,sF r3 s4,sF r3 s5,sF r2 s6]) 1 Dv) ?_;obtain⟨⟨n15,n16,s17,s18,s19⟩,h14,h⟩:=an h;refine vJ rfl rfl rfl (vL (v:=fun fr20=> .agg [iI n15,iI n16,.p fr20 (Sl.t r3 s17),.p fr20 (Sl.t r3 s18),.p fr20 (Sl.t r2 s19)]) (args:= [.agg [iI n2,iI n3,sF r3 s4,sF r3 s5,sF r2 s6]]) (GR (m+3) h14) rfl rfl (af (aA (ae ak (ae ak (ae bV (ae bV (ae bV az)))))) ai) rfl rfl (fun fr=>rfl)) (fun fr20=> ?_);refine ow [[iI n15,iI n16,.p fr20 (Sl.t r3 s17),.p fr20 (Sl.t r3 s18),.p fr20 (Sl.t r2 s19)]] 1 Dv ?_;refine oN ?_;refine pq (ql (.agg [iI n7,sF r65 s8,sF r2 s9]) 0 oD) ?_;obtain⟨⟨n22,s23⟩,h21,h⟩:=an h;refine pq (qc (.agg [iI n22,sC r61 s23]) [.agg [iI n7,sF r65 s8,sF r2 s9]] (GS (m+0) h21) (af (aA (ae ak (ae bV (ae bV az)))) ai)) ?_;refine aF rfl rfl rfl (bA oF (row:= [iI 0,nC]) rfl rfl) (fun k24=> ?_);refine ow [[iI n22,sC r61 s23]] 0 iJ ?_;refine oE (eS (lS (lS (lO ?_))));refine pq (qm (iO n1)) ?_;obtain⟨b26,h25,h⟩:=an h;refine pq (qc (bO b26) [iO n1] (Mv (m+4) h25) (af (au ak) ai)) ?_;rcases b26 with _|_;replace h:=wF h;refine pq (iW rfl) ?_;refine oE (eS (cT rfl (lS (lO ?_))));refine pq (qa (.one nC)) ?_;refine pq (qa (iO 8)) ?_;refine oE (eS (lR (eR ?_)));obtain rfl:=sj h;exact aR (.inr rfl) (bW rfl (bW rfl aC)) (af (au bV) (af (au ak) ai)) oW rfl rfl;replace h:=wT h;refine pq (iW rfl) ?_;refine oE (eS (cF rfl (lK (eS (lS (lS (lO ?_)))))));refine pq (aj rfl mg rfl) ?_;refine pq (ql (iO n22) 0 sz3) ?_;refine pq (aj rfl aaI rfl) ?_;refine pq (ql (iO n16) 2 sz3) ?_;by_cases c27:n22≠n16;replace h:=ifT c27 h;refine pq (qb (eZ c27)) ?_;refine oE (eS (cT rfl (lS (lO ?_))));refine pq (qa (.one nC)) ?_;refine pq (qa (iO 4)) ?_;refine oE (eS (lR (eR ?_)));obtain rfl:=sj h;exact aR (.inr rfl) (bW rfl (bW rfl aC)) (af (au bV) (af (au ak) ai)) oW rfl rfl;replace h:=ifF c27 h;refine pq (qb (fc c27)) ?_;refine oE (eS (cF rfl (lK (eS (lS (lO ?_))))));refine pq (qa (.one nC)) ?_;refine oE (eS (lS (lS (lO ?_))));refine pq (qa (iO 0)) ?_;refine oE (eS (lB ?_));refine rj (α:=Int×(Int×Int)) r68 3 ?_
 let S1:(Bool×(List (Int×(Int×Int)))×Int)→Nat→(Nat→D)→Nat→D:=fun a kt g=>ups g [(0,iO n1),(3,.one (sF r65 s10)),(4,.one (bC a.1)),(6,.one (.ptr k12 0 0)),(12,.one (.ptr k24 0 0)),(13,.one (moC a.2.1 kt)),(14,.one (iI a.2.2))]
 let SL1:(Bool×(List (Int×(Int×Int)))×Int)→Nat→BL:=fun a kt=>([[(k12,5,[[iI n15,iI n16,.p fr20 (Sl.t r3 s17),.p fr20 (Sl.t r3 s18),.p fr20 (Sl.t r2 s19)]])],[(k24,2,[[iI n22,sC r61 s23]])],moL r68 3 a.2.1 kt]:BL)
 let G1:((Sl (Int×(Int×Int)))×Int)→Ex→St→Prop:=fun u=>jA E1 [.tmp 10,.tmp 11] (.fresh,[.one (Sl.t r68 u.1),.one (iT .i64 u.2)])
 let Sx1:(List (Int×(Int×Int)))→Nat→(Nat→D)→Nat→D:=fun a kt g=>ups g [(13,.one (moC a kt))]
 let SLx1:(List (Int×(Int×Int)))→Nat→BL:=fun a kt=>([moL r68 3 a kt]:BL)
 let J1:((List (Int×(Int×Int)))⊕((Sl (Int×(Int×Int)))×Int))→Ex→St→Prop:=JX 93 0 Sx1 SLx1 G1
 refine dL (eh n1 s10 n15 s17 s18 s19 n22 s23) S1 SL1 J1 mh (b11,([]:List (Int×(Int×Int))),0) h 1604 (ar ⟨rfl,rfl,rfl,rfl,rfl,rfl,rfl,trivial⟩) [3,1,0] (by decide) rfl ?_ ?_;rintro⟨b606,l607,n608⟩ k609 g out h;change eh n1 s10 n15 s17 s18 s19 n22 s23 (b606,l607,n608)=some out at h;unfold eh at h;refine lS (lS (lO ?_));refine pq (qm (iO n608)) ?_;refine pq (aj rfl aaH rfl) ?_;refine pq (ql (iO n15) 0 sz3) ?_;by_cases c610:n608<n15;replace h:=ifT c610 h;refine pq (qb (aW c610)) ?_;refine oE (eS (cT rfl (lK (eS (lS (lB (lS (lS (lO ?_)))))))));refine pq (qm (.one (sF r65 s10))) ?_;refine pq (qm (iO n608)) ?_;obtain⟨b612,h611,h⟩:=an h;refine pq (qc (bO b612) [.one (sF r65 s10),iO n608] (qP (m+4) h611) (af (au bV) (af (au ak) ai))) ?_;refine pq (qm (bO b606)) ?_;rcases b612 with _|_;replace h:=wF h;rcases b606 with _|_;replace h:=wF h;refine pq (ky rfl rfl (zt _ _ _ _) rfl) ?_;refine oE (eS (cT rfl (cO ?_)));refine bk ?_;refine bH (eS (lO ?_));refine pq (qm (iO n608)) ?_;refine pq (qb be) ?_;refine pq (qa (iO (IntKind.i64.wrap (n608+1)))) ?_;refine oE ?_;obtain rfl:=sj h;exact bw k609 (ar ⟨rfl,rfl,rfl,rfl,rfl,rfl,rfl,trivial⟩) [0,1,2] (by decide) rfl;replace h:=wT h;refine pq (ky rfl rfl (zt _ _ _ _) rfl) ?_;refine oE (eS (cF rfl (lK (eS (lS (lO ?_))))));refine aF rfl rfl rfl (bA jk (row:= [iI 0,uI 0]) rfl rfl) (fun k613=> ?_);refine oN ?_;refine pq (qa bf) ?_;refine oE (eS (lS (lS (lO ?_))));refine pq (aj rfl GM rfl) ?_;refine pq (ql (.one (.p fr20 (Sl.t r3 s17))) 1 se) ?_;refine pq (qm (iO n608)) ?_;obtain⟨n616,h615,h⟩:=an h;obtain⟨h615a,h615b,h615⟩:=bF h615;refine pq (cZ rfl rfl h615a h615 (el23.trans (congrArg some h615b.symm))) ?_;refine pq (bj (v:=iO n616) rfl sz3 (aK h615) rfl rfl) ?_;refine pq (qa (iO n616)) ?_;refine oE (eS (lB ?_))
 let S2:(Bool×Int×Int×Int)→Unit→(Nat→D)→Nat→D:=fun a kt g=>ups g [(0,iO n1),(3,.one (sF r65 s10)),(4,bt),(6,.one (.ptr k12 0 0)),(12,.one (.ptr k24 0 0)),(13,.one (moC l607 k609)),(14,iO n608),(15,.one (.ptr k613 0 0)),(16,.one (bC a.1)),(17,.one (iI a.2.1))]
 let SL2:(Bool×Int×Int×Int)→Unit→BL:=fun a kt=>([[(k12,5,[[iI n15,iI n16,.p fr20 (Sl.t r3 s17),.p fr20 (Sl.t r3 s18),.p fr20 (Sl.t r2 s19)]])],[(k24,2,[[iI n22,sC r61 s23]])],moL r68 3 l607 k609,[(k613,2,[[iI a.2.2.1,uI a.2.2.2]])]]:BL)
 let G2:((Bool×(List (Int×(Int×Int)))×Int)⊕((List (Int×(Int×Int)))⊕((Sl (Int×(Int×Int)))×Int)))→Ex→St→Prop:=LQ 93 S1 SL1 J1
 let Sx2:(Bool×Int×Int)→Unit→(Nat→D)→Nat→D:=fun a kt g=>ups g [(0,iO n1),(3,.one (sF r65 s10)),(4,bt),(6,.one (.ptr k12 0 0)),(12,.one (.ptr k24 0 0)),(13,.one (moC l607 k609)),(14,iO n608),(15,.one (.ptr k613 0 0)),(16,.one (bC a.1))]
 let SLx2:(Bool×Int×Int)→Unit→BL:=fun a kt=>([[(k12,5,[[iI n15,iI n16,.p fr20 (Sl.t r3 s17),.p fr20 (Sl.t r3 s18),.p fr20 (Sl.t r2 s19)]])],[(k24,2,[[iI n22,sC r61 s23]])],moL r68 3 l607 k609,[(k613,2,[[iI a.2.1,uI a.2.2]])]]:BL)
 let J2:((Bool×Int×Int)⊕((Bool×(List (Int×(Int×Int)))×Int)⊕((List (Int×(Int×Int)))⊕((Sl (Int×(Int×Int)))×Int))))→Ex→St→Prop:=JX 93 2 Sx2 SLx2 G2
 refine dL (dB n1 s17 s18 s19 n22 s23 n608) S2 SL2 J2 mh (false,n616,0,0) h () (ar ⟨rfl,rfl,rfl,rfl,rfl,rfl,rfl,rfl,rfl,rfl,trivial⟩) [1,2,3,0] (by decide) rfl ?_ ?_;rintro⟨b676,n677,n678,n679⟩ _ g out h;change dB n1 s17 s18 s19 n22 s23 n608 (b676,n677,n678,n679)=some out at h;unfold dB at h;refine lS (lS (lO ?_));refine pq (qm (iO n677)) ?_;refine pq (aj rfl GM rfl) ?_;refine pq (ql (.one (.p fr20 (Sl.t r3 s17))) 0 se) ?_;refine pq (qm (iO n608)) ?_;refine pq (qb be) ?_;obtain⟨n682,h681,h⟩:=an h;obtain⟨h681a,h681b,h681⟩:=bF h681;refine pq (cZ rfl rfl h681a h681 (el23.trans (congrArg some h681b.symm))) ?_;refine pq (bj (v:=iO n682) rfl sz3 (aK h681) rfl rfl) ?_;by_cases c683:n677<n682;replace h:=ifT c683 h;refine pq (qb (aW c683)) ?_;refine oE (eS (cT rfl (lK (eS (lS (lB (lS ?_)))))));refine kw (by kernel_rfl) ?_;refine sq (ql (.agg [iI n22,sC r61 s23]) 1 iJ) ?_;refine sq (aj rfl TA rfl) ?_;refine sq (ql (.one (.p fr20 (Sl.t r3 s18))) 0 se) ?_;refine sq (qm (iO n677)) ?_;obtain⟨n686,h685,h⟩:=an h;obtain⟨h685a,h685b,h685⟩:=bF h685;refine sq (cZ rfl rfl h685a h685 (el23.trans (congrArg some h685b.symm))) ?_;refine sq (bj (v:=iO n686) rfl sz3 (aK h685) rfl rfl) ?_;obtain⟨⟨n688,b689⟩,h687,h⟩:=an h;refine sq (qc (.tup [iO n688,bO b689]) [.agg [iI n22,sC r61 s23],iO n686] (yj (m+2) h687) (af (aA (ae ak (ae bV az))) (af (au ak) ai))) ?_;refine sq (qm (.tup [iO n688,bO b689])) ?_;refine sq (re (v:=iO n688) rfl rfl) ?_;refine sq (re (v:=bO b689) rfl rfl) ?_;refine sq (qa (iO n688)) ?_;refine sq (qa (bO b689)) ?_;refine gn (eS (lS (lS (lO ?_))));refine pq (qm (bO b689)) ?_;rcases b689 with _|_;replace h:=wF h;refine pq (iW rfl) ?_;refine oE (eS (cT rfl (cO ?_)));refine bk ?_;refine bH (eS (lO ?_));refine pq (qm (iO n677)) ?_;refine pq (qb be) ?_;refine pq (qa (iO (IntKind.i64.wrap (n677+1)))) ?_;refine oE ?_;obtain rfl:=sj h;exact bw () (ar ⟨rfl,rfl,rfl,rfl,rfl,rfl,rfl,rfl,rfl,rfl,trivial⟩) [0,1,2,3] (by decide) rfl;replace h:=wT h;refine pq (iW rfl) ?_;refine oE (eS (cF rfl (lK (eS (lS (lO ?_))))));refine pq (qm (iO n1)) ?_;refine pq (aj rfl TB rfl) ?_;refine pq (ql (.one (.p fr20 (Sl.t r2 s19))) 0 GL) ?_;refine pq (qm (iO n677)) ?_;obtain⟨n692,h691,h⟩:=an h;obtain⟨h691a,h691b,h691⟩:=bF h691;refine pq (cZ rfl rfl h691a h691 (el24.trans (congrArg some h691b.symm))) ?_;refine pq (bj (v:=iO n692) rfl sz2 (aK h691) rfl rfl) ?_;refine pq (qm (iO n688)) ?_;obtain⟨⟨n694,n695⟩,h693,h⟩:=an h;refine pq (qc (.agg [iI n694,uI n695]) [iO n1,iO n692,iO n688] (yk (m+1) h693) (af (au ak) (af (au ak) (af (au ak) ai)))) ?_;refine aF rfl rfl rfl (bA jk (row:= [iI 0,uI 0]) rfl rfl) (fun k696=> ?_);refine ow [[iI n694,uI n695]] 0 aI ?_;refine oE (eS (lS (lS (lO ?_))));refine pq (qm (bO b676)) ?_;refine oE (eS ?_);rcases b676 with _|_;replace h:=wF h;refine cF rfl (lO ?_);refine pq (ql (.agg [iI n694,uI n695]) 0 aI) ?_;refine ow [[iI n694,uI n695]] 4 aI ?_;refine oR ?_;refine pq (qa bt) ?_;refine oE (bN (eS (lO ?_)));refine pq (qm (iO n677)) ?_;refine pq (qb be) ?_;refine pq (qa (iO (IntKind.i64.wrap (n677+1)))) ?_;refine oE ?_;obtain rfl:=sj h;exact bw () (ar ⟨rfl,rfl,rfl,rfl,rfl,rfl,rfl,rfl,rfl,rfl,trivial⟩) [1,2,3,4] (by decide) rfl;replace h:=wT h;refine cT rfl (lO ?_);refine pq (qm (iO n1)) ?_;refine pq (ql (.agg [iI n678,uI n679]) 4 aI) ?_;refine pq (ql (.agg [iI n694,uI n695]) 0 aI) ?_;obtain⟨⟨n698,n699⟩,h697,h⟩:=an h;refine pq (qc (.agg [iI n698,uI n699]) [iO n1,.agg [iI n678,uI n679],.agg [iI n694,uI n695]] (yg (m+4) h697) (af (au ak) (af (aA (ae ak (ae ak az))) (af (aA (ae ak (ae ak az))) ai)))) ?_;refine ow [[iI n698,uI n699]] 4 aI ?_;refine oR ?_;refine pq (qa bt) ?_;refine oE (bN (eS (lO ?_)));refine pq (qm (iO n677)) ?_;refine pq (qb be) ?_;refine pq (qa (iO (IntKind.i64.wrap (n677+1)))) ?_;refine oE ?_;obtain rfl:=sj h;exact bw () (ar ⟨rfl,rfl,rfl,rfl,rfl,rfl,rfl,rfl,rfl,rfl,trivial⟩) [1,2,3,4] (by decide) rfl;replace h:=ifF c683 h;refine pq (qb (aX c683)) ?_;refine oE (eS (cF rfl (cO ?_)));refine bk ?_;obtain rfl:=sj h;refine fN ?_;exact(fO () (ar ⟨rfl,rfl,rfl,rfl,rfl,rfl,rfl,rfl,rfl,trivial⟩) [0,1,2,3] (by decide) rfl);rintro(⟨b700,n701,n702⟩|u) h;refine J_x (fun kt g=> ?_);replace h:=iV h;refine bH (eS (lS (lO ?_)));refine pq (qm (bO b700)) ?_;refine oE (eS ?_);rcases b700 with _|_;replace h:=wF h;refine cF rfl (lK (bN (eS (lO ?_))));refine pq (qm (iO n608)) ?_;refine pq (qb be) ?_;refine pq (qa (iO (IntKind.i64.wrap (n608+1)))) ?_;refine oE ?_;obtain rfl:=sj h;exact bw k609 (ar ⟨rfl,rfl,rfl,rfl,rfl,rfl,rfl,trivial⟩) [0,1,2] (by decide) rfl;replace h:=wT h;refine cT rfl (lO ?_);refine pq (qm (.one (moC l607 k609))) ?_;refine pq (qm (iO n608)) ?_;refine pq (ql (.agg [iI n701,uI n702]) 3 aI) ?_;refine pq (cn (cs:= [iI n608,iI n701,uI n702]) zg rfl PU rfl) ?_;refine aF rfl rfl rfl (gI (cs:= [iI n608,iI n701,uI n702]) (es:=(([(n608,(n701,n702))]:List (Int×(Int×Int)))).map (aT r68)) tK rfl zg rfl rfl rfl rfl rfl) (fun k703=> ?_);obtain⟨_,h704,h⟩:=an h;obtain⟨h704b,rfl⟩:=cV h704;refine kD (r:=r68) (l:=l607) (ys:=([(n608,(n701,n702))]:List (Int×(Int×Int)))) 3 rfl rfl rfl rfl rfl rfl (iR (l:=([(n608,(n701,n702))]:List (Int×(Int×Int)))) 0 rfl) rfl h704 (fun y=>rfl) el32 tK rfl rfl rfl rfl rfl (fun k705=> ?_);refine pq (qa (.one (moC (l607++([(n608,(n701,n702))]:List (Int×(Int×Int)))) k705))) ?_;refine oE (bN (eS (lO ?_)));refine pq (qm (iO n608)) ?_;refine pq (qb be) ?_;refine pq (qa (iO (IntKind.i64.wrap (n608+1)))) ?_;refine oE ?_;obtain rfl:=sj h;exact bw k705 (ar ⟨rfl,rfl,rfl,rfl,rfl,rfl,rfl,trivial⟩) [2,3,0] (by decide) rfl;obtain rfl:=Option.some.inj (kK h);exact qo (fun s hs=>hs);replace h:=wT h;rcases b606 with _|_;replace h:=wF h;refine pq (ky rfl rfl (zt _ _ _ _) rfl) ?_;refine oE (eS (cF rfl (lK (eS (lS (lO ?_))))));refine aF rfl rfl rfl (bA jk (row:= [iI 0,uI 0]) rfl rfl) (fun k706=> ?_);refine oN ?_;refine pq (qa bf) ?_;refine oE (eS (lS (lS (lO ?_))));refine pq (aj rfl GM rfl) ?_;refine pq (ql (.one (.p fr20 (Sl.t r3 s17))) 1 se) ?_;refine pq (qm (iO n608)) ?_;obtain⟨n709,h708,h⟩:=an h;obtain⟨h708a,h708b,h708⟩:=bF h708;refine pq (cZ rfl rfl h708a h708 (el23.trans (congrArg some h708b.symm))) ?_;refine pq (bj (v:=iO n709) rfl sz3 (aK h708) rfl rfl) ?_;refine pq (qa (iO n709)) ?_;refine oE (eS (lB ?_))
 let S3:(Bool×Int×Int×Int)→Unit→(Nat→D)→Nat→D:=fun a kt g=>ups g [(0,iO n1),(3,.one (sF r65 s10)),(4,bf),(6,.one (.ptr k12 0 0)),(12,.one (.ptr k24 0 0)),(13,.one (moC l607 k609)),(14,iO n608),(15,.one (.ptr k706 0 0)),(16,.one (bC a.1)),(17,.one (iI a.2.1))]
 let SL3:(Bool×Int×Int×Int)→Unit→BL:=fun a kt=>([[(k12,5,[[iI n15,iI n16,.p fr20 (Sl.t r3 s17),.p fr20 (Sl.t r3 s18),.p fr20 (Sl.t r2 s19)]])],[(k24,2,[[iI n22,sC r61 s23]])],moL r68 3 l607 k609,[(k706,2,[[iI a.2.2.1,uI a.2.2.2]])]]:BL)
 let G3:((Bool×(List (Int×(Int×Int)))×Int)⊕((List (Int×(Int×Int)))⊕((Sl (Int×(Int×Int)))×Int)))→Ex→St→Prop:=LQ 93 S1 SL1 J1
 let Sx3:(Bool×Int×Int)→Unit→(Nat→D)→Nat→D:=fun a kt g=>ups g [(0,iO n1),(3,.one (sF r65 s10)),(4,bf),(6,.one (.ptr k12 0 0)),(12,.one (.ptr k24 0 0)),(13,.one (moC l607 k609)),(14,iO n608),(15,.one (.ptr k706 0 0)),(16,.one (bC a.1))]
 let SLx3:(Bool×Int×Int)→Unit→BL:=fun a kt=>([[(k12,5,[[iI n15,iI n16,.p fr20 (Sl.t r3 s17),.p fr20 (Sl.t r3 s18),.p fr20 (Sl.t r2 s19)]])],[(k24,2,[[iI n22,sC r61 s23]])],moL r68 3 l607 k609,[(k706,2,[[iI a.2.1,uI a.2.2]])]]:BL)
 let J3:((Bool×Int×Int)⊕((Bool×(List (Int×(Int×Int)))×Int)⊕((List (Int×(Int×Int)))⊕((Sl (Int×(Int×Int)))×Int))))→Ex→St→Prop:=JX 93 2 Sx3 SLx3 G3
 refine dL (fC n1 s17 s18 s19 n22 s23 n608) S3 SL3 J3 mh (false,n709,0,0) h () (ar ⟨rfl,rfl,rfl,rfl,rfl,rfl,rfl,rfl,rfl,rfl,trivial⟩) [1,2,3,0] (by decide) rfl ?_ ?_;rintro⟨b769,n770,n771,n772⟩ _ g out h;change fC n1 s17 s18 s19 n22 s23 n608 (b769,n770,n771,n772)=some out at h;unfold fC at h;refine lS (lS (lO ?_));refine pq (qm (iO n770)) ?_;refine pq (aj rfl GM rfl) ?_;refine pq (ql (.one (.p fr20 (Sl.t r3 s17))) 0 se) ?_;refine pq (qm (iO n608)) ?_;refine pq (qb be) ?_;obtain⟨n775,h774,h⟩:=an h;obtain⟨h774a,h774b,h774⟩:=bF h774;refine pq (cZ rfl rfl h774a h774 (el23.trans (congrArg some h774b.symm))) ?_;refine pq (bj (v:=iO n775) rfl sz3 (aK h774) rfl rfl) ?_;by_cases c776:n770<n775;replace h:=ifT c776 h;refine pq (qb (aW c776)) ?_;refine oE (eS (cT rfl (lK (eS (lS (lB (lS ?_)))))));refine kw (by kernel_rfl) ?_;refine sq (ql (.agg [iI n22,sC r61 s23]) 1 iJ) ?_;refine sq (aj rfl TA rfl) ?_;refine sq (ql (.one (.p fr20 (Sl.t r3 s18))) 0 se) ?_;refine sq (qm (iO n770)) ?_;obtain⟨n779,h778,h⟩:=an h;obtain⟨h778a,h778b,h778⟩:=bF h778;refine sq (cZ rfl rfl h778a h778 (el23.trans (congrArg some h778b.symm))) ?_;refine sq (bj (v:=iO n779) rfl sz3 (aK h778) rfl rfl) ?_;obtain⟨⟨n781,b782⟩,h780,h⟩:=an h;refine sq (qc (.tup [iO n781,bO b782]) [.agg [iI n22,sC r61 s23],iO n779] (yj (m+2) h780) (af (aA (ae ak (ae bV az))) (af (au ak) ai))) ?_;refine sq (qm (.tup [iO n781,bO b782])) ?_;refine sq (re (v:=iO n781) rfl rfl) ?_;refine sq (re (v:=bO b782) rfl rfl) ?_;refine sq (qa (iO n781)) ?_;refine sq (qa (bO b782)) ?_;refine gn (eS (lS (lS (lO ?_))));refine pq (qm (bO b782)) ?_;rcases b782 with _|_;replace h:=wF h;refine pq (iW rfl) ?_;refine oE (eS (cT rfl (cO ?_)));refine bk ?_;refine bH (eS (lO ?_));refine pq (qm (iO n770)) ?_;refine pq (qb be) ?_;refine pq (qa (iO (IntKind.i64.wrap (n770+1)))) ?_;refine oE ?_;obtain rfl:=sj h;exact bw () (ar ⟨rfl,rfl,rfl,rfl,rfl,rfl,rfl,rfl,rfl,rfl,trivial⟩) [0,1,2,3] (by decide) rfl;replace h:=wT h;refine pq (iW rfl) ?_;refine oE (eS (cF rfl (lK (eS (lS (lO ?_))))));refine pq (qm (iO n1)) ?_;refine pq (aj rfl TB rfl) ?_;refine pq (ql (.one (.p fr20 (Sl.t r2 s19))) 0 GL) ?_;refine pq (qm (iO n770)) ?_;obtain⟨n785,h784,h⟩:=an h;obtain⟨h784a,h784b,h784⟩:=bF h784;refine pq (cZ rfl rfl h784a h784 (el24.trans (congrArg some h784b.symm))) ?_;refine pq (bj (v:=iO n785) rfl sz2 (aK h784) rfl rfl) ?_;refine pq (qm (iO n781)) ?_;obtain⟨⟨n787,n788⟩,h786,h⟩:=an h;refine pq (qc (.agg [iI n787,uI n788]) [iO n1,iO n785,iO n781] (yk (m+1) h786) (af (au ak) (af (au ak) (af (au ak) ai)))) ?_;refine aF rfl rfl rfl (bA jk (row:= [iI 0,uI 0]) rfl rfl) (fun k789=> ?_);refine ow [[iI n787,uI n788]] 0 aI ?_;refine oE (eS (lS (lS (lO ?_))));refine pq (qm (bO b769)) ?_;refine oE (eS ?_);rcases b769 with _|_;replace h:=wF h;refine cF rfl (lO ?_);refine pq (ql (.agg [iI n787,uI n788]) 0 aI) ?_;refine ow [[iI n787,uI n788]] 4 aI ?_;refine oR ?_;refine pq (qa bt) ?_;refine oE (bN (eS (lO ?_)));refine pq (qm (iO n770)) ?_;refine pq (qb be) ?_;refine pq (qa (iO (IntKind.i64.wrap (n770+1)))) ?_;refine oE ?_;obtain rfl:=sj h;exact bw () (ar ⟨rfl,rfl,rfl,rfl,rfl,rfl,rfl,rfl,rfl,rfl,trivial⟩) [1,2,3,4] (by decide) rfl;replace h:=wT h;refine cT rfl (lO ?_);refine pq (qm (iO n1)) ?_;refine pq (ql (.agg [iI n771,uI n772]) 4 aI) ?_;refine pq (ql (.agg [iI n787,uI n788]) 0 aI) ?_;obtain⟨⟨n791,n792⟩,h790,h⟩:=an h;refine pq (qc (.agg [iI n791,uI n792]) [iO n1,.agg [iI n771,uI n772],.agg [iI n787,uI n788]] (yg (m+4) h790) (af (au ak) (af (aA (ae ak (ae ak az))) (af (aA (ae ak (ae ak az))) ai)))) ?_;refine ow [[iI n791,uI n792]] 4 aI ?_;refine oR ?_;refine pq (qa bt) ?_;refine oE (bN (eS (lO ?_)));refine pq (qm (iO n770)) ?_;refine pq (qb be) ?_;refine pq (qa (iO (IntKind.i64.wrap (n770+1)))) ?_;refine oE ?_;obtain rfl:=sj h;exact bw () (ar ⟨rfl,rfl,rfl,rfl,rfl,rfl,rfl,rfl,rfl,rfl,trivial⟩) [1,2,3,4] (by decide) rfl;replace h:=ifF c776 h;refine pq (qb (aX c776)) ?_;refine oE (eS (cF rfl (cO ?_)));refine bk ?_;obtain rfl:=sj h;refine fN ?_;exact(fO () (ar ⟨rfl,rfl,rfl,rfl,rfl,rfl,rfl,rfl,rfl,trivial⟩) [0,1,2,3] (by decide) rfl);rintro(⟨b793,n794,n795⟩|u) h;refine J_x (fun kt g=> ?_);replace h:=iV h;refine bH (eS (lS (lO ?_)));refine pq (qm (bO b793)) ?_;refine oE (eS ?_);rcases b793 with _|_;replace h:=wF h;refine cF rfl (lK (bN (eS (lO ?_))));refine pq (qm (iO n608)) ?_;refine pq (qb be) ?_;refine pq (qa (iO (IntKind.i64.wrap (n608+1)))) ?_;refine oE ?_;obtain rfl:=sj h;exact bw k609 (ar ⟨rfl,rfl,rfl,rfl,rfl,rfl,rfl,trivial⟩) [0,1,2] (by decide) rfl;replace h:=wT h;refine cT rfl (lO ?_);refine pq (qm (.one (moC l607 k609))) ?_;refine pq (qm (iO n608)) ?_;refine pq (ql (.agg [iI n794,uI n795]) 3 aI) ?_;refine pq (cn (cs:= [iI n608,iI n794,uI n795]) zg rfl PU rfl) ?_;refine aF rfl rfl rfl (gI (cs:= [iI n608,iI n794,uI n795]) (es:=(([(n608,(n794,n795))]:List (Int×(Int×Int)))).map (aT r68)) tK rfl zg rfl rfl rfl rfl rfl) (fun k796=> ?_);obtain⟨_,h797,h⟩:=an h;obtain⟨h797b,rfl⟩:=cV h797;refine kD (r:=r68) (l:=l607) (ys:=([(n608,(n794,n795))]:List (Int×(Int×Int)))) 3 rfl rfl rfl rfl rfl rfl (iR (l:=([(n608,(n794,n795))]:List (Int×(Int×Int)))) 0 rfl) rfl h797 (fun y=>rfl) el32 tK rfl rfl rfl rfl rfl (fun k798=> ?_);refine pq (qa (.one (moC (l607++([(n608,(n794,n795))]:List (Int×(Int×Int)))) k798))) ?_;refine oE (bN (eS (lO ?_)));refine pq (qm (iO n608)) ?_;refine pq (qb be) ?_;refine pq (qa (iO (IntKind.i64.wrap (n608+1)))) ?_;refine oE ?_;obtain rfl:=sj h;exact bw k798 (ar ⟨rfl,rfl,rfl,rfl,rfl,rfl,rfl,trivial⟩) [2,3,0] (by decide) rfl;obtain rfl:=Option.some.inj (kK h);exact qo (fun s hs=>hs);replace h:=wT h;refine pq (ky rfl rfl (zt _ _ _ _) rfl) ?_;refine oE (eS (cT rfl (cO ?_)));refine bk ?_;refine bH (eS (lO ?_));refine pq (qm (iO n608)) ?_;refine pq (qb be) ?_;refine pq (qa (iO (IntKind.i64.wrap (n608+1)))) ?_;refine oE ?_;obtain rfl:=sj h;exact bw k609 (ar ⟨rfl,rfl,rfl,rfl,rfl,rfl,rfl,trivial⟩) [0,1,2] (by decide) rfl;replace h:=ifF c610 h;refine pq (qb (aX c610)) ?_;refine oE (eS (cF rfl (cO ?_)));refine bk ?_;obtain rfl:=sj h;refine fN ?_;exact(fO k609 (ar ⟨rfl,trivial⟩) [2] (by decide) rfl);rintro(l799|u) h;refine J_x (fun k800 g=> ?_);replace h:=iV h;refine bH (eS (lS (lO ?_)));refine pq (qm (.one (moC l799 k800))) ?_;refine pq (qa (.one (moC l799 k800))) ?_;refine pq (qa (iO 0)) ?_;refine oE (eS (lR ?_));obtain rfl:=sj h;exact aR (.inr rfl) (bW rfl (bW rfl aC)) (af (au (Nq (r:=r68) 0 rfl (fun x h m=>rfl))) (af (au ak) ai)) oW rfl rfl;obtain rfl:=Option.some.inj (kK h);exact qo (fun s hs=>hs)
def kU(n1:Int)(a1:Int×Int×Sl (Int)×Sl (Int)×Sl (Int)×Sl (Int))(a2:Int×(Sl (Int×Int)))(s10:Sl (Int))(b11:Bool):Option ((Sl (Int×(Int×Int)))×Int):=
 match a1,a2 with
 |(n2,n3,s4,s5,s6,s7),(n8,s9)=>((eT (n2,n3,s4,s5,s6,s7)).bind fun(n15,n16,s17,s18,s19)=>((jm (n8,s9)).bind fun(n21,s22,s23)=>((gl n1 (n15,n16,s17,s18,s19) (n21,s22,s23) s10 b11).bind fun(s25,n26)=>some (s25,n26))))
theorem GU(m:Nat){n1:Int}{a1:Int×Int×Sl (Int)×Sl (Int)×Sl (Int)×Sl (Int)}{a2:Int×(Sl (Int×Int))}{s10:Sl (Int)}{b11:Bool}{out:(Sl (Int×(Int×Int)))×Int}(h:kU n1 a1 a2 s10 b11=some out):RunsP E1 (m+7) 9 [.one (iT .i64 n1),.agg (r25 a1),.agg (r28 a2),.one (Sl.t r65 s10),.one (bT b11)] (.fresh,[.one (Sl.t r68 out.1),.one (iT .i64 out.2)]):=by
 obtain⟨n2,n3,s4,s5,s6,s7⟩:=a1;obtain⟨n8,s9⟩:=a2;refine ml rfl (by rw [dv];exact show bU Try.prog 9=_ by unfold bU;rw [Try.func9];unfold Try.f9;rfl) rfl ?_;dsimp only;unfold kU at h;refine lS (lO ?_);refine aF rfl rfl rfl (gH JO rfl (cs:= [iI n2,iI n3,sF r3 s4,sF r3 s5,sF r3 s6,sF r2 s7]) rfl rfl) (fun k12=> ?_);refine aF rfl rfl rfl (gH oF rfl (cs:= [iI n8,sF r61 s9]) rfl rfl) (fun k13=> ?_);refine pq (qa (.one nC)) ?_;refine pq (qa (iO 0)) ?_;refine oE (eS (lS ?_));refine kw (by kernel_rfl) ?_;refine sq (qm (iO n1)) ?_;refine sq (ql (.agg [iI n2,iI n3,sF r3 s4,sF r3 s5,sF r3 s6,sF r2 s7]) 1 wU) ?_;obtain⟨⟨n15,n16,s17,s18,s19⟩,h14,h⟩:=an h;refine sq (qc (.agg [iI n15,iI n16,sC r3 s17,sC r3 s18,sC r2 s19]) [.agg [iI n2,iI n3,sF r3 s4,sF r3 s5,sF r3 s6,sF r2 s7]] (GP (m+5) h14) (af (aA (ae ak (ae ak (ae bV (ae bV (ae bV (ae bV az))))))) ai)) ?_;refine sq (ql (.agg [iI n8,sF r61 s9]) 0 iJ) ?_;obtain⟨⟨n21,s22,s23⟩,h20,h⟩:=an h;refine sq (qc (.agg [iI n21,sC r65 s22,sC r2 s23]) [.agg [iI n8,sF r61 s9]] (Mu (m+2) h20) (af (aA (ae ak (ae bV az))) ai)) ?_;refine sq (qm (.one (sF r65 s10))) ?_;refine sq (qm (bO b11)) ?_;obtain⟨⟨s25,n26⟩,h24,h⟩:=an h;refine sq (qc (.tup [.one (sC r68 s25),iO n26]) [iO n1,.agg [iI n15,iI n16,sC r3 s17,sC r3 s18,sC r2 s19],.agg [iI n21,sC r65 s22,sC r2 s23],.one (sF r65 s10),bO b11] (GT (m+0) h24) (af (au ak) (af (aA (ae ak (ae ak (ae bV (ae bV (ae bV az)))))) (af (aA (ae ak (ae bV (ae bV az)))) (af (au bV) (af (au ak) ai)))))) ?_;refine sq (re (v:= .one (sC r68 s25)) rfl rfl) ?_;refine sq (re (v:=iO n26) rfl rfl) ?_;refine sq (qa (.one (sC r68 s25))) ?_;refine sq (qa (iO n26)) ?_;refine gn (eS (lR ?_));obtain rfl:=sj h;exact aR (.inr rfl) (bW rfl (bW rfl aC)) (af (au bV) (af (au ak) ai)) oW rfl rfl
def dG(s1:Sl (Int×(Int×Int)))(s2:Sl (Int×(Int×Int)))(n29:Int):Option (Int ⊕(Unit ⊕ Bool)):=
 (if n29<((s1.l.length:Nat):Int)then((atS 3 s1 n29).bind fun(n33,(n34,n35))=>((atS 3 s2 n29).bind fun(n38,(n39,n40))=>(if n33=n38∧n34=n39∧n35=n40 then some (.inl (IntKind.i64.wrap (n29+1)))else some (.inr (.inr false)))))else some (.inr (.inl ())))
def dE(s1:Sl (Int×(Int×Int)))(s2:Sl (Int×(Int×Int))):Option (Bool):=
 (if((s1.l.length:Nat):Int)≠((s2.l.length:Nat):Int)then some false else((aM (dG s1 s2) 0).bind (Sum.elim (fun _=>some true) (fun u=>some u))))
theorem wY(m:Nat){s1:Sl (Int×(Int×Int))}{s2:Sl (Int×(Int×Int))}{out:Bool}(h:dE s1 s2=some out):RunsP E1 (m+1) 10 [.one (Sl.t r68 s1),.one (Sl.t r68 s2)] (.fresh,[.one (bT out)]):=by
 refine ml rfl (by rw [dv];exact show bU Try.prog 10=_ by unfold bU;rw [Try.func10];unfold Try.f10;rfl) rfl ?_;dsimp only;unfold dE at h;refine lS (lO ?_);refine pq (qa bf) ?_;refine oE (eS (lS (lS (lO ?_))));refine pq (qm (.one (sF r68 s1))) ?_;refine pq (fw rfl tK rfl rfl rfl rfl) ?_;refine pq (qm (.one (sF r68 s2))) ?_;refine pq (fw rfl tK rfl rfl rfl rfl) ?_;by_cases c3:((s1.l.length:Nat):Int)≠((s2.l.length:Nat):Int);replace h:=ifT c3 h;refine pq (qb (eZ c3)) ?_;refine oE (eS (cT rfl (lS (lO ?_))));refine pq (qa bf) ?_;refine oE (eS (lR (eR ?_)));obtain rfl:=sj h;exact eF1;replace h:=ifF c3 h;refine pq (qb (fc c3)) ?_;refine oE (eS (cF rfl (lK (eS (lS (lS (lO ?_)))))));refine pq (qa (iO 0)) ?_;refine oE (eS (lB ?_))
 let S1:Int→Unit→(Nat→D)→Nat→D:=fun a kt g=>ups g [(0,.one (sF r68 s1)),(1,.one (sF r68 s2)),(5,iO a)]
 let SL1:Int→Unit→BL:=fun a kt=>([]:BL)
 let G1:Bool→Ex→St→Prop:=fun u=>jA E1 [.tmp 4] (.fresh,[.one (bT u)])
 let Sx1:Unit→Unit→(Nat→D)→Nat→D:=fun a kt g=>ups g []
 let SLx1:Unit→Unit→BL:=fun a kt=>([]:BL)
 let J1:(Unit ⊕ Bool)→Ex→St→Prop:=JX 26 0 Sx1 SLx1 G1
 refine dL (dG s1 s2) S1 SL1 J1 mh 0 h () (ar ⟨rfl,rfl,rfl,trivial⟩) [] (by decide) rfl ?_ ?_;rintro n29 _ g out h;change dG s1 s2 n29=some out at h;unfold dG at h;refine lS (lS (lO ?_));refine pq (qm (iO n29)) ?_;refine pq (qm (.one (sF r68 s1))) ?_;refine pq (fw rfl tK rfl rfl rfl rfl) ?_;by_cases c30:n29<((s1.l.length:Nat):Int);replace h:=ifT c30 h;refine pq (qb (aW c30)) ?_;refine oE (eS (cT rfl (lK (eS (lS (lB (lS ?_)))))));refine kw (by kernel_rfl) ?_;refine sq (qm (.one (sF r68 s1))) ?_;refine sq (qm (iO n29)) ?_;obtain⟨⟨n33,⟨n34,n35⟩⟩,h32,h⟩:=an h;obtain⟨h32a,h32b,h32⟩:=bF h32;refine sq (cZ rfl rfl h32a h32 (el32.trans (congrArg some h32b.symm))) ?_;refine sq (bj (v:= .agg [iI n33,iI n34,uI n35]) rfl adC (aK h32) rfl rfl) ?_;refine sq (qm (.one (sF r68 s2))) ?_;refine sq (qm (iO n29)) ?_;obtain⟨⟨n38,⟨n39,n40⟩⟩,h37,h⟩:=an h;obtain⟨h37a,h37b,h37⟩:=bF h37;refine sq (cZ rfl rfl h37a h37 (el32.trans (congrArg some h37b.symm))) ?_;refine sq (bj (v:= .agg [iI n38,iI n39,uI n40]) rfl adC (aK h37) rfl rfl) ?_;by_cases c41:n33=n38∧n34=n39∧n35=n40;replace h:=ifT c41 h;refine sq (Hn rfl rfl (by rfl) (by rfl) (Mq _ _ c41) rfl) ?_;refine gn (eS (cF rfl (lK (bN (eS (lO ?_))))));refine pq (qm (iO n29)) ?_;refine pq (qb be) ?_;refine pq (qa (iO (IntKind.i64.wrap (n29+1)))) ?_;refine oE ?_;obtain rfl:=sj h;exact bw () (ar ⟨rfl,rfl,rfl,trivial⟩) [] (by decide) rfl;replace h:=ifF c41 h;refine sq (Hn rfl rfl (by rfl) (by rfl) (Mr _ _ c41) rfl) ?_;refine gn (eS (cT rfl (lS (lO ?_))));refine pq (qa bf) ?_;refine oE (eS (lR (bR (eR ?_))));obtain rfl:=sj h;exact fN (KL (eF1));replace h:=ifF c30 h;refine pq (qb (aX c30)) ?_;refine oE (eS (cF rfl (cO ?_)));refine bk ?_;obtain rfl:=sj h;refine fN ?_;exact(fO () (ar trivial) [] (by decide) rfl);rintro(_|u) h;refine J_x (fun kt g=> ?_);replace h:=iV h;refine bH (eS (lS (lO ?_)));refine pq (qa bt) ?_;refine oE (eS (lR ?_));obtain rfl:=sj h;exact eF1;obtain rfl:=Option.some.inj (kK h);exact qo (fun s hs=>hs)
end Ev
end
noncomputable section
namespace Ev
open Go
set_option maxRecDepth 100000
set_option maxHeartbeats 1000000
attribute [local irreducible] eJ StL TnL WpL dV
def lu(n1:Int)(a1:Int×Int×Sl (Int)×Sl (Int)×Sl (Int)×Sl (Int))(a2:Int×(Sl (Int×Int))):Option (Bool):=
 match a1,a2 with
 |(n2,n3,s4,s5,s6,s7),(n8,s9)=>(if((s4.l.length:Nat):Int)>40 then((FL).bind fun b14=>some b14)else(if((s5.l.length:Nat):Int)>41 then((FL).bind fun b17=>some b17)else(if((s6.l.length:Nat):Int)>60 then((FL).bind fun b20=>some b20)else((iE (n8,s9)).bind fun(n22,s23)=>((mD n1 (n2,n3,s4,s5,s6,s7) (n22,s23) (⟨false,0,[]⟩:Sl (Int)) true).bind fun(s26,n27)=>((kU n1 (n2,n3,s4,s5,s6,s7) (n22,s23) (⟨false,0,[]⟩:Sl (Int)) true).bind fun(s29,n30)=>((FL).bind fun b32=>(if b32=true then((dE s26 s29).bind fun b34=>(if b34=true then(if n27=n30 then some true else some false)else some false))else some false))))))))
theorem zj(m:Nat){n1:Int}{a1:Int×Int×Sl (Int)×Sl (Int)×Sl (Int)×Sl (Int)}{a2:Int×(Sl (Int×Int))}{out:Bool}(h:lu n1 a1 a2=some out):RunsP E1 (m+8) 3 [.one (iT .i64 n1),.agg (r25 a1),.agg (r28 a2)] (.fresh,[.one (bT out)]):=by
 obtain⟨n2,n3,s4,s5,s6,s7⟩:=a1;obtain⟨n8,s9⟩:=a2;refine ml rfl (by rw [dv];exact show bU Try.prog 3=_ by unfold bU;rw [Try.func3];unfold Try.f3;rfl) rfl ?_;dsimp only;unfold lu at h;refine lS (lO ?_);refine aF rfl rfl rfl (gH JO rfl (cs:= [iI n2,iI n3,sF r3 s4,sF r3 s5,sF r3 s6,sF r2 s7]) rfl rfl) (fun k10=> ?_);refine aF rfl rfl rfl (gH oF rfl (cs:= [iI n8,sF r61 s9]) rfl rfl) (fun k11=> ?_);refine pq (qa bf) ?_;refine oE (eS (lS (lS (lO ?_))));refine pq (aj rfl AY rfl) ?_;refine pq (ql (.one (sF r3 s4)) 1 se) ?_;refine pq (fw rfl py rfl rfl rfl rfl) ?_;by_cases c12:((s4.l.length:Nat):Int)>40;replace h:=ifT c12 h;refine pq (qb (gC c12)) ?_;refine pq (qm bt) ?_
 iterate 4 refine os ?_
 refine pq (qpt bt) ?_;refine pq (qm bt) ?_
 iterate 4 refine os ?_
 refine pq (qpt bt) ?_;refine oE (eS (cT rfl (lS (lO ?_))));obtain⟨b14,h13,h⟩:=an h;refine pq (qc (bO b14) [] (Xi (m+6) h13) ai) ?_;refine pq (qa (bO b14)) ?_;refine oE (eS (lR (eR ?_)));obtain rfl:=sj h;exact eF1;replace h:=ifF c12 h;refine pq (qb (gD c12)) ?_;refine pq (qm bf) ?_;refine pq (aj rfl Ml rfl) ?_;refine pq (ql (.one (sF r3 s5)) 1 se) ?_;refine pq (fw rfl py rfl rfl rfl rfl) ?_;by_cases c15:((s5.l.length:Nat):Int)>41;replace h:=ifT c15 h;refine pq (qb (gC c15)) ?_;refine pq (qpf bt) ?_;refine pq (qm bt) ?_
 iterate 4 refine os ?_
 refine pq (qpt bt) ?_;refine oE (eS (cT rfl (lS (lO ?_))));obtain⟨b17,h16,h⟩:=an h;refine pq (qc (bO b17) [] (Xi (m+6) h16) ai) ?_;refine pq (qa (bO b17)) ?_;refine oE (eS (lR (eR ?_)));obtain rfl:=sj h;exact eF1;replace h:=ifF c15 h;refine pq (qb (gD c15)) ?_;refine pq (qpf bf) ?_;refine pq (qm bf) ?_;refine pq (aj rfl Tz rfl) ?_;refine pq (ql (.one (sF r3 s6)) 1 se) ?_;refine pq (fw rfl py rfl rfl rfl rfl) ?_;by_cases c18:((s6.l.length:Nat):Int)>60;replace h:=ifT c18 h;refine pq (qb (gC c18)) ?_;refine pq (qpf bt) ?_;refine oE (eS (cT rfl (lS (lO ?_))));obtain⟨b20,h19,h⟩:=an h;refine pq (qc (bO b20) [] (Xi (m+6) h19) ai) ?_;refine pq (qa (bO b20)) ?_;refine oE (eS (lR (eR ?_)));obtain rfl:=sj h;exact eF1;replace h:=ifF c18 h;refine pq (qb (gD c18)) ?_;refine pq (qpf bf) ?_;refine oE (eS (cF rfl (lK (eS (lS (lO ?_))))));refine pq (ql (.agg [iI n8,sF r61 s9]) 0 iJ) ?_;obtain⟨⟨n22,s23⟩,h21,h⟩:=an h;refine vJ rfl rfl rfl (vL (v:=fun fr24=> .agg [iI n22,.p fr24 (Sl.t r61 s23)]) (args:= [.agg [iI n8,sF r61 s9]]) (JR (m+6) h21) rfl rfl (af (aA (ae ak (ae bV az))) ai) rfl rfl (fun fr=>rfl)) (fun fr24=> ?_);refine ow [[iI n22,.p fr24 (Sl.t r61 s23)]] 0 iJ ?_;refine oN ?_;refine pq (qm (iO n1)) ?_;refine pq (ql (.agg [iI n2,iI n3,sF r3 s4,sF r3 s5,sF r3 s6,sF r2 s7]) 1 wU) ?_;refine pq (ql (.agg [iI n22,.p fr24 (Sl.t r61 s23)]) 0 iJ) ?_;obtain⟨⟨s26,n27⟩,h25,h⟩:=an h;refine pq (qc (.tup [.one (sC r68 s26),iO n27]) [iO n1,.agg [iI n2,iI n3,sF r3 s4,sF r3 s5,sF r3 s6,sF r2 s7],.agg [iI n22,.p fr24 (Sl.t r61 s23)],.one nC,bt] (JU (m+3) h25) (af (au ak) (af (aA (ae ak (ae ak (ae bV (ae bV (ae bV (ae bV az))))))) (af (aA (ae ak (ae bV az))) (af (au bV) (af (au ak) ai)))))) ?_;refine pq (qm (.tup [.one (sC r68 s26),iO n27])) ?_;refine pq (re (v:= .one (sC r68 s26)) rfl rfl) ?_;refine pq (re (v:=iO n27) rfl rfl) ?_;refine pq (qa (.one (sC r68 s26))) ?_;refine pq (qa (iO n27)) ?_;refine oN ?_;refine pq (qm (iO n1)) ?_;refine pq (ql (.agg [iI n2,iI n3,sF r3 s4,sF r3 s5,sF r3 s6,sF r2 s7]) 1 wU) ?_;refine pq (ql (.agg [iI n22,.p fr24 (Sl.t r61 s23)]) 0 iJ) ?_;obtain⟨⟨s29,n30⟩,h28,h⟩:=an h;refine pq (qc (.tup [.one (sC r68 s29),iO n30]) [iO n1,.agg [iI n2,iI n3,sF r3 s4,sF r3 s5,sF r3 s6,sF r2 s7],.agg [iI n22,.p fr24 (Sl.t r61 s23)],.one nC,bt] (GU (m+0) h28) (af (au ak) (af (aA (ae ak (ae ak (ae bV (ae bV (ae bV (ae bV az))))))) (af (aA (ae ak (ae bV az))) (af (au bV) (af (au ak) ai)))))) ?_;refine pq (qm (.tup [.one (sC r68 s29),iO n30])) ?_;refine pq (re (v:= .one (sC r68 s29)) rfl rfl) ?_;refine pq (re (v:=iO n30) rfl rfl) ?_;refine pq (qa (.one (sC r68 s29))) ?_;refine pq (qa (iO n30)) ?_;refine oN ?_;obtain⟨b32,h31,h⟩:=an h;refine pq (qc (bO b32) [] (Xi (m+6) h31) ai) ?_;refine pq (qm (bO b32)) ?_;rcases b32 with _|_;replace h:=wF h
 iterate 3 refine os ?_
 refine pq (qpf bf) ?_;refine pq (qm bf) ?_
 iterate 3 refine os ?_
 refine pq (qpf bf) ?_;refine pq (qa bf) ?_;refine oE (eS (lR ?_));obtain rfl:=sj h;exact eF1;replace h:=wT h;refine pq (qm (.one (sC r68 s26))) ?_;refine pq (qm (.one (sC r68 s29))) ?_;obtain⟨b34,h33,h⟩:=an h;refine pq (qc (bO b34) [.one (sC r68 s26),.one (sC r68 s29)] (wY (m+6) h33) (af (au bV) (af (au bV) ai))) ?_;refine pq (qpt (bO b34)) ?_;refine pq (qm (bO b34)) ?_;rcases b34 with _|_;replace h:=wF h
 iterate 3 refine os ?_
 refine pq (qpf bf) ?_;refine pq (qa bf) ?_;refine oE (eS (lR ?_));obtain rfl:=sj h;exact eF1;replace h:=wT h;refine pq (qm (iO n27)) ?_;refine pq (qm (iO n30)) ?_;by_cases c35:n27=n30;replace h:=ifT c35 h;refine pq (qb (bZ c35)) ?_;refine pq (qpt bt) ?_;refine pq (qa bt) ?_;refine oE (eS (lR ?_));obtain rfl:=sj h;exact eF1;replace h:=ifF c35 h;refine pq (qb (cd c35)) ?_;refine pq (qpt bf) ?_;refine pq (qa bf) ?_;refine oE (eS (lR ?_));obtain rfl:=sj h;exact eF1
end Ev
end
noncomputable section
namespace Ev
open Go
set_option maxRecDepth 100000
set_option maxHeartbeats 1000000
attribute [local irreducible] eJ StL TnL WpL dV
theorem aff{ts:List T}(h:Typ Try.prog 22 ts):∃x:Int,ts= [iT .i64 x]∧inK .i64 x:=Hs (by kernel_rfl) h
theorem op3{ts:List T}(h:Typ Try.prog 3 ts):∃x:Int,ts= [iT .i64 x]∧inK .i64 x:=Hs (by kernel_rfl) h
def W3(x:Int):Prop:=inK .i64 x
def W23(x:Sl (Int)):Prop:=SlW 1 W3 x
theorem aaK{ts:List T}(h:Typ Try.prog 23 ts):∃x:Sl (Int),ts= [Sl.t r3 x]∧W23 x:=xo (r:=r3) (Q:=W3) (w:=1) (by kernel_rfl) (by kernel_rfl) (fun ts h=>op3 h) h
theorem op2{ts:List T}(h:Typ Try.prog 2 ts):∃x:Int,ts= [iT .i64 x]∧inK .i64 x:=Hs (by kernel_rfl) h
def W2(x:Int):Prop:=inK .i64 x
def W24(x:Sl (Int)):Prop:=SlW 1 W2 x
theorem afg{ts:List T}(h:Typ Try.prog 24 ts):∃x:Sl (Int),ts= [Sl.t r2 x]∧W24 x:=xo (r:=r2) (Q:=W2) (w:=1) (by kernel_rfl) (by kernel_rfl) (fun ts h=>op2 h) h
def W26(x:Int×Int×Sl (Int)×Sl (Int)×Sl (Int)×Sl (Int)):Prop:=W3 x.1∧W3 x.2.1∧W23 x.2.2.1∧W23 x.2.2.2.1∧W23 x.2.2.2.2.1∧W24 x.2.2.2.2.2
theorem afh{ts:List T}(h:Typ Try.prog 26 ts):∃x:Int×Int×Sl (Int)×Sl (Int)×Sl (Int)×Sl (Int),ts=r25 x∧W26 x:=by
 obtain⟨tss,rfl,hl,hf⟩:=tW (fs:=bq Try.prog 25) (by kernel_rfl) h;rw [show(bq Try.prog 25).toList= [fld Try.prog 25 0,fld Try.prog 25 1,fld Try.prog 25 2,fld Try.prog 25 3,fld Try.prog 25 4,fld Try.prog 25 5]by kernel_rfl]at hl hf
 match tss,hl with
 | [t0,t1,t2,t3,t4,t5],_=>
  have g0:Typ Try.prog 3 t0:=by have:=hf 0 _ _ rfl rfl;rwa [show(fld Try.prog 25 0).type=3 by kernel_rfl]at this
  obtain⟨x0,rfl,w0⟩:=op3 g0;have g1:Typ Try.prog 3 t1:=by have:=hf 1 _ _ rfl rfl;rwa [show(fld Try.prog 25 1).type=3 by kernel_rfl]at this
  obtain⟨x1,rfl,w1⟩:=op3 g1;have g2:Typ Try.prog 23 t2:=by have:=hf 2 _ _ rfl rfl;rwa [show(fld Try.prog 25 2).type=23 by kernel_rfl]at this
  obtain⟨x2,rfl,w2⟩:=aaK g2;have g3:Typ Try.prog 23 t3:=by have:=hf 3 _ _ rfl rfl;rwa [show(fld Try.prog 25 3).type=23 by kernel_rfl]at this
  obtain⟨x3,rfl,w3⟩:=aaK g3;have g4:Typ Try.prog 23 t4:=by have:=hf 4 _ _ rfl rfl;rwa [show(fld Try.prog 25 4).type=23 by kernel_rfl]at this
  obtain⟨x4,rfl,w4⟩:=aaK g4;have g5:Typ Try.prog 24 t5:=by have:=hf 5 _ _ rfl rfl;rwa [show(fld Try.prog 25 5).type=24 by kernel_rfl]at this
  obtain⟨x5,rfl,w5⟩:=afg g5;exact⟨(x0,x1,x2,x3,x4,x5),rfl,⟨w0,w1,w2,w3,w4,w5⟩⟩
def W62(x:Int×Int):Prop:=W3 x.1∧W2 x.2
theorem afi{ts:List T}(h:Typ Try.prog 62 ts):∃x:Int×Int,ts=r61 x∧W62 x:=by
 obtain⟨tss,rfl,hl,hf⟩:=tW (fs:=bq Try.prog 61) (by kernel_rfl) h;rw [show(bq Try.prog 61).toList= [fld Try.prog 61 0,fld Try.prog 61 1]by kernel_rfl]at hl hf
 match tss,hl with
 | [t0,t1],_=>
  have g0:Typ Try.prog 3 t0:=by have:=hf 0 _ _ rfl rfl;rwa [show(fld Try.prog 61 0).type=3 by kernel_rfl]at this
  obtain⟨x0,rfl,w0⟩:=op3 g0;have g1:Typ Try.prog 2 t1:=by have:=hf 1 _ _ rfl rfl;rwa [show(fld Try.prog 61 1).type=2 by kernel_rfl]at this
  obtain⟨x1,rfl,w1⟩:=op2 g1;exact⟨(x0,x1),rfl,⟨w0,w1⟩⟩
def W27(x:Sl (Int×Int)):Prop:=SlW 2 W62 x
theorem afj{ts:List T}(h:Typ Try.prog 27 ts):∃x:Sl (Int×Int),ts= [Sl.t r61 x]∧W27 x:=xo (r:=r61) (Q:=W62) (w:=2) (by kernel_rfl) (by kernel_rfl) (fun ts h=>afi h) h
def W29(x:Int×(Sl (Int×Int))):Prop:=W3 x.1∧W27 x.2
theorem afk{ts:List T}(h:Typ Try.prog 29 ts):∃x:Int×(Sl (Int×Int)),ts=r28 x∧W29 x:=by
 obtain⟨tss,rfl,hl,hf⟩:=tW (fs:=bq Try.prog 28) (by kernel_rfl) h;rw [show(bq Try.prog 28).toList= [fld Try.prog 28 0,fld Try.prog 28 1]by kernel_rfl]at hl hf
 match tss,hl with
 | [t0,t1],_=>
  have g0:Typ Try.prog 3 t0:=by have:=hf 0 _ _ rfl rfl;rwa [show(fld Try.prog 28 0).type=3 by kernel_rfl]at this
  obtain⟨x0,rfl,w0⟩:=op3 g0;have g1:Typ Try.prog 27 t1:=by have:=hf 1 _ _ rfl rfl;rwa [show(fld Try.prog 28 1).type=27 by kernel_rfl]at this
  obtain⟨x1,rfl,w1⟩:=afj g1;exact⟨(x0,x1),rfl,⟨w0,w1⟩⟩
end Ev
end
noncomputable section
namespace Ev
open Go
abbrev It:=Int×Int
def WIt(x:It):Prop:=inK .i64 x.1∧inK .i64 x.2
def WV(v:Int×Sl It):Prop:=inK .i64 v.1∧SlW 2 WIt v.2
def okS{α:Type}(w:Nat)(s:Sl α):Prop:=s.l= []∨s.sz=w
theorem SlW.ok{α:Type}{w:Nat}{Q:α→Prop}{s:Sl α}(h:SlW w Q s):okS w s:= .inr h.1
def gU{α:Type}:Sl α:=⟨false,0,[]⟩
theorem kR{α:Type}{w:Nat}:okS w (gU:Sl α):= .inl rfl
theorem oo{α:Type}{w:Nat}(l:List α):okS w (mo w l):=by cases l with|nil=>exact .inl rfl|cons x l=>exact .inr rfl
def asc:Int→Int→List It→Bool
 |_,_,[]=>true
 |a,n,x::l=>decide (a<x.1)&& decide (x.1<n)&& asc x.1 n l
def vt(n:Int):Bool:=decide (0≤n)&& decide (n≤4096)
def fu(v:Int×Sl It):Bool:=vt v.1 && asc (-1) v.1 v.2.l
def fe(v:Int×Sl It):Int×Sl It:=if fu v=true then v else(0,gU)
theorem JY{v:Int×Sl It}(h:okS 2 v.2):okS 2 (fe v).2:=by unfold fe;split;exact h;exact kR
theorem lL(v:Int×Sl It):fu (fe v)=true:=by unfold fe;split;assumption;rfl
theorem GV{n:Int}:∀{a:Int} {l:List It},asc a n l=true→∀x∈l,a<x.1∧x.1<n
 |a,y::l,h,x,hx=>by
  simp only [asc,Bool.and_eq_true,decide_eq_true_eq]at h;rcases List.mem_cons.1 hx with rfl|hx
  ·exact⟨h.1.1,h.1.2⟩
  ·have:=GV h.2 x hx;omega
theorem vj{n:Int}:∀{a:Int} {l:List It},asc a n l=true→(l.length:Int)≤max (n - a - 1) 0
 |a,[],h=>by simp;omega
 |a,y::l,h=>by
  simp only [asc,Bool.and_eq_true,decide_eq_true_eq]at h
  have:=vj h.2
  simp only [List.length_cons];omega
theorem rJ{v:Int×Sl It}(h:fu v=true):v.2.l.length≤4096:=by
 simp only [fu,vt,Bool.and_eq_true,decide_eq_true_eq]at h
 have:=vj h.2;omega
theorem TH(v:Int×Sl It):(fe v).2.l.length≤4096:=rJ (lL v)
theorem sm(n:Int):fH n=some (vt n):=by
 unfold fH vt;by_cases h1:n ≥ 0
 ·rw [if_pos h1];by_cases h2:n≤4096
  ·rw [if_pos h2,decide_eq_true (show 0≤n from h1),decide_eq_true h2];rfl
  ·rw [if_neg h2,decide_eq_false h2];simp
 ·rw [if_neg h1,decide_eq_false (show¬0≤n from h1)];rfl
theorem qv(v:Int×Sl It)(hok:okS 2 v.2)(hl:v.2.l.length≤9223372036854775807):fU v=some (fu v):=by
 obtain⟨n,s⟩:=v;unfold fU fu;simp only [sm,zbS]
 cases hs:vt n with
 |false=>simp
 |true=>
  simp only [if_true,Bool.true_and]
  obtain⟨r,h1,h2⟩:=cu (b:=ew n s) s.l.length (fun j a=>∃la,a=(la,(j:Int))∧asc (-1) n s.l=asc la n (s.l.drop j)) (fun r=>(asc (-1) n s.l=true∧r= .inl ())∨(asc (-1) n s.l=false∧r= .inr false))
   (by
    rintro j _ hj ⟨la,rfl,ha⟩;rw [List.drop_eq_getElem_cons hj]at ha;simp only [asc]at ha;simp only [ew,bI hok hj,zbS,cX hj (by simp only at hl;omega)];rw [if_pos (by omega)];by_cases c1:s.l[j].1≤la
    ·refine .inr ⟨_,if_pos c1,.inr ⟨?_,rfl⟩⟩;rw [ha,decide_eq_false (by omega)];rfl
    ·rw [if_neg c1];by_cases c2:s.l[j].1 ≥ n
     ·refine .inr ⟨_,if_pos c2,.inr ⟨?_,rfl⟩⟩;rw [ha,decide_eq_false (p:=s.l[j].1<n) (by omega)];simp
     ·refine .inl ⟨_,if_neg c2,_,rfl,?_⟩
      rw [ha,decide_eq_true (by omega),decide_eq_true (by omega)];rfl)
   (by
    rintro _ ⟨la,rfl,ha⟩;refine⟨_,if_neg (by omega),.inl ⟨?_,rfl⟩⟩
    rw [ha];simp [asc]) 0 (Nat.zero_le _) (-1,0) ⟨-1,rfl,rfl⟩
  rw [h1];rcases h2 with⟨h3,rfl⟩|⟨h3,rfl⟩<;>simp [h3]
theorem asc_iff{n:Int}{l:List It}:∀{a:Int},asc a n l=true↔∀j (h:j<l.length),(if h0:j=0 then a<l[j].1 else l[j - 1].1<l[j].1)∧l[j].1<n:=by
 induction l with
 |nil=>intro a;simp [asc]
 |cons x l ih=>
  intro a;simp only [asc,Bool.and_eq_true,decide_eq_true_eq,ih];constructor
  ·rintro⟨⟨h1,h2⟩,h3⟩ j hj
   cases j with
   |zero=>exact⟨by simpa using h1,by simpa using h2⟩
   |succ j=>
    have:=h3 j (by simpa using hj)
    refine⟨?_,by simpa using this.2⟩;rw [dif_neg (by omega)]
    cases j with
    |zero=>simpa using this.1
    |succ j=>have:=this.1;rw [dif_neg (by omega)]at this;simpa using this
  ·intro h;have h0:=h 0 (by simp);refine⟨⟨by simpa using h0.1,by simpa using h0.2⟩,fun j hj=> ?_⟩
   have:=h (j+1) (by simpa using hj)
   rw [dif_neg (by omega)]at this;refine⟨?_,by simpa using this.2⟩
   cases j with
   |zero=>simpa using this.1
   |succ j=>rw [dif_neg (by omega)];simpa using this.1
theorem asc_iff'{n:Int}{l:List It}:asc (-1) n l=true↔∀j (h:j<l.length),0≤l[j].1∧l[j].1<n∧(j≠0→l[j - 1].1<l[j].1):=by
 constructor
 ·intro h j hj;have h1:=GV h l[j] (List.getElem_mem hj);have h2:=(asc_iff.1 h j hj).1;exact⟨by omega,h1.2,fun h0=>by rw [dif_neg h0]at h2;exact h2⟩
 ·intro h;refine asc_iff.2 fun j hj=>⟨?_,(h j hj).2.1⟩;split
  ·have:=(h j hj).1;omega
  ·rename_i h0;exact(h j hj).2.2 h0
theorem qC(v:Int×Sl It)(hok:okS 2 v.2)(hl:v.2.l.length≤9223372036854775807):eB v=some (fu v):=by
 obtain⟨n,s⟩:=v;simp only at hl;unfold eB fu vt;by_cases h1:n<0
 ·simp only [if_pos h1,decide_eq_false (show¬0≤n by omega)];rfl
 by_cases h2:n>4096
 ·simp only [if_neg h1,if_pos h2,decide_eq_false (show¬n≤4096 by omega)];simp
 simp only [if_neg h1,if_neg h2,decide_eq_true (show 0≤n by omega),decide_eq_true (show n≤4096 by omega),Bool.true_and]
 have hF:∀j (hj:j<s.l.length),¬(0≤s.l[j].1∧s.l[j].1<n∧(j≠0→s.l[j - 1].1<s.l[j].1))→asc (-1) n s.l=false:=fun j hj hh=>by
  rw [Bool.eq_false_iff];intro hc;exact hh (asc_iff'.1 hc j hj)
 obtain⟨r,h3,h4⟩:=cu (b:=eE n s) s.l.length (fun j a=>a=(j:Int)∧∀i (h:i<s.l.length),i<j→0≤s.l[i].1∧s.l[i].1<n∧(i≠0→s.l[i - 1].1<s.l[i].1)) (fun r=>(asc (-1) n s.l=true∧r= .inl ())∨(asc (-1) n s.l=false∧r= .inr false))
  (by
   rintro j _ hj ⟨rfl,ha⟩;simp only [eE,bI hok hj,zbS,cX hj (by omega)];rw [if_pos (by omega)];by_cases c1:s.l[j].1<0
   ·exact .inr ⟨_,if_pos c1,.inr ⟨hF j hj (by omega),rfl⟩⟩
   rw [if_neg c1];by_cases c2:s.l[j].1 ≥ n
   ·exact .inr ⟨_,if_pos c2,.inr ⟨hF j hj (by omega),rfl⟩⟩
   rw [if_neg c2];by_cases c3:(j:Int)>0
   ·rw [if_pos c3];have e:IntKind.i64.wrap ((j:Int) - 1)=((j - 1:Nat):Int):=by rw [fM (by omega) (by omega)];omega
    rw [e,bI hok (show j - 1<s.l.length by omega)];simp only [zbS];by_cases c4:s.l[j].1≤s.l[j - 1].1
    ·exact .inr ⟨_,if_pos c4,.inr ⟨hF j hj (fun hh=>by have:=hh.2.2 (by omega);omega),rfl⟩⟩
    ·refine .inl ⟨_,if_neg c4,rfl,fun i hi hij=> ?_⟩;by_cases hh:i=j
     ·subst hh;exact⟨by omega,by omega,fun _=>by omega⟩
     ·exact ha i hi (by omega)
   ·refine .inl ⟨_,if_neg c3,rfl,fun i hi hij=> ?_⟩;by_cases hh:i=j
    ·subst hh;exact⟨by omega,by omega,fun _=>by omega⟩
    ·exact ha i hi (by omega))
  (by
   rintro _ ⟨rfl,ha⟩
   exact⟨_,if_neg (by omega),.inl ⟨asc_iff'.2 fun j hj=>ha j hj hj,rfl⟩⟩) 0 (Nat.zero_le _) 0 ⟨rfl,fun i _ h=>absurd h (by omega)⟩
 rw [h3];rcases h4 with⟨h5,rfl⟩|⟨h5,rfl⟩<;>simp [h5]
theorem jf(v:Int×Sl It)(hok:okS 2 v.2)(hl:v.2.l.length≤9223372036854775807):eU v=some (fe v):=by
 obtain⟨n,s⟩:=v;unfold eU fe;simp only [qC (n,s) hok hl,zbS];split<;>rfl
def DD(v:Int×Sl It):Int×Sl It:=(v.1,if(v.2.l.length:Int)>60 then⟨v.2.nn,v.2.sz,v.2.l.take 60⟩else v.2)
theorem uR(v:Int×Sl It):iE v=some (DD v):=by
 obtain⟨n,s⟩:=v;unfold iE DD;by_cases h:(s.l.length:Int)>60
 ·simp only [if_pos h]
  have:zn 2 s 0 60=some ⟨s.nn,s.sz,s.l.take 60⟩:=by
   unfold zn;rw [if_pos ⟨by omega,by omega,by omega,.inr rfl⟩];rfl
  rw [this];rfl
 ·simp only [if_neg h]
theorem aaL{v:Int×Sl It}(h:okS 2 v.2):okS 2 (DD v).2:=by
 unfold DD;by_cases hc:(v.2.l.length:Int)>60
 ·simp only [if_pos hc];rcases h with h|h;exact .inl (by simp [h]);exact .inr h
 ·simp only [if_neg hc];exact h
end Ev
end
noncomputable section
namespace Ev
open Go
def cH(n:Int):Prop:= -9223372036854775808≤n∧n≤9223372036854775807
def eY(n:Int):Prop:=0≤n∧n≤18446744073709551615
theorem FJ{n:Int}(h:inK .i64 n):cH n:=by simpa [inK,cH,Lit.wf,IntKind.min,IntKind.max,IntKind.signed,IntKind.bits]using h
theorem bY(n:Int):IntKind.u64.wrap n=n % 18446744073709551616:=by
 simp [IntKind.wrap,IntKind.signed,IntKind.bits]
theorem mK(n:Int):eY (IntKind.u64.wrap n):=by rw [bY];unfold eY;omega
theorem SG{n:Int}(h:eY n):IntKind.u64.wrap (IntKind.i64.wrap n)=n:=by rw [bY,IntKind.wrap_i64];unfold eY at h;omega
def ofW(n:Int):Int×Int:=(if n<0 then -1 else 0,IntKind.u64.wrap n)
theorem dD{n:Int}(h:cH n):ci n=some (ofW n):=by
 unfold ci rh ofW QD;rw [if_pos (by omega)];have e:(2:Int)^(min (63:Int).toNat IntKind.i64.bits)=9223372036854775808:=by decide
 rw [e];unfold cH at h
 have:n.fdiv 9223372036854775808=if n<0 then -1 else 0:=by
  rw [Int.fdiv_eq_ediv_of_nonneg _ (by omega)];split<;>omega
 rw [this];rfl
theorem ns(n:Int):aO n=some (ofW n):=by
 unfold aO ofW;by_cases h:n<0
 ·simp only [if_pos h]
 ·simp only [if_neg h]
theorem FK(n:Int):eY (ofW n).2:=mK n
def kJ(a b:Int×Int):Bool:=decide (a.1<b.1)||(decide (a.1=b.1)&& decide (a.2<b.2))
theorem lZ(a b:Int×Int):∃c,ee a b=some c∧(c<0↔kJ a b=true):=by
 obtain⟨a1,a2⟩:=a;obtain⟨b1,b2⟩:=b;unfold ee kJ;simp only;by_cases h1:a1=b1∧a2=b2
 ·rw [if_pos h1];exact⟨0,rfl,by simp;omega⟩
 rw [if_neg h1];by_cases h2:a1<b1
 ·rw [if_pos h2];exact⟨-1,rfl,by simp [h2]⟩
 rw [if_neg h2];by_cases h3:a1=b1
 ·rw [if_pos h3];by_cases h4:a2<b2
  ·rw [if_pos h4];exact⟨-1,rfl,by simp [h3,h4]⟩
  ·rw [if_neg h4];exact⟨1,rfl,by simp [h3];omega⟩
 ·rw [if_neg h3];exact⟨1,rfl,by simp [h3];omega⟩
theorem oy(a b:Int×Int):∃c,bB a b=some c∧(c<0↔kJ a b=true):=by
 obtain⟨a1,a2⟩:=a;obtain⟨b1,b2⟩:=b;unfold bB kJ;simp only;by_cases h2:a1<b1
 ·rw [if_pos h2];exact⟨-1,rfl,by simp [h2]⟩
 rw [if_neg h2];by_cases h3:a1=b1
 ·rw [if_pos h3];by_cases h4:a2<b2
  ·rw [if_pos h4];exact⟨-1,rfl,by simp [h3,h4]⟩
  ·rw [if_neg h4];by_cases h5:a1=b1∧a2=b2
   ·rw [if_pos h5];exact⟨0,rfl,by simp [h3];omega⟩
   ·rw [if_neg h5];exact⟨1,rfl,by simp [h3];omega⟩
 ·rw [if_neg h3];by_cases h5:a1=b1∧a2=b2
  ·exact absurd h5.1 h3
  ·rw [if_neg h5];exact⟨1,rfl,by simp [h3];omega⟩
def kM(a b:Int×Int):Int×Int:=if kJ b a=true then b else a
def jx(b:Bool):Int×Int:=if b=true then(0,1)else(0,0)
def sb(a b:Int×Int):Int×Int:=if IntKind.u64.wrap (a.2+b.2)<a.2 then(IntKind.i64.wrap (IntKind.i64.wrap (a.1+b.1)+1),IntKind.u64.wrap (a.2+b.2))else(IntKind.i64.wrap (a.1+b.1),IntKind.u64.wrap (a.2+b.2))
def fj(r:Int)(a b:Int×Int):Int×Int:=
 if r=1∨r=3∨r=4 then kM a b else if r=2 then jx (!(decide (a.1=0∧a.2=0)&& decide (b.1=0∧b.2=0)))else if r=5 then sb a b else(0,0)
theorem mJ(a b:Int×Int):cR a b=some (kM a b):=by
 obtain⟨a1,a2⟩:=a;obtain⟨b1,b2⟩:=b;unfold cR kM;obtain⟨c,h1,h2⟩:=lZ (b1,b2) (a1,a2);simp only [h1,zbS];by_cases hc:c<0
 ·rw [if_pos hc,if_pos (h2.1 hc)]
 ·rw [if_neg hc,if_neg (fun h=>hc (h2.2 h))]
theorem je(b:Bool):cz b=some (jx b):=by
 unfold cz jx;cases b
 ·rfl
 ·simp only [if_true,dD (show cH 1 by unfold cH;omega),zbS];rfl
theorem qt(a b:Int×Int):dC a b=some (sb a b):=by
 obtain⟨a1,a2⟩:=a;obtain⟨b1,b2⟩:=b;unfold dC sb;simp only;split<;>rfl
theorem pm(a b:Int×Int):bG a b=some (sb a b):=by
 obtain⟨a1,a2⟩:=a;obtain⟨b1,b2⟩:=b;unfold bG sb;simp only;split<;>rfl
theorem qu(r:Int)(a b:Int×Int):jd r a b=some (fj r a b):=KM.zU r a b
theorem mN(b:Bool):aS b=some (jx b):=by unfold aS jx;cases b<;>rfl
theorem my(r:Int)(a b:Int×Int):fE r a b=some (fj r a b):=KM.yb r a b
theorem zT{r:Int}{a b:Int×Int}(ha:eY a.2)(hb:eY b.2):eY (fj r a b).2:=by
 have h0:eY 0:=by unfold eY;omega
 have h1:eY 1:=by unfold eY;omega
 unfold fj kM jx sb;split
 ·split<;>assumption
 ·split
  ·split<;>assumption
  ·split
   ·split<;>exact mK _
   ·exact h0
def fQ(a:Int×Int):Int×Bool:=if a=ofW (IntKind.i64.wrap a.2)then(IntKind.i64.wrap a.2,true)else(0,false)
theorem Ix(n:Int):cH (IntKind.i64.wrap n):=by rw [IntKind.wrap_i64];unfold cH;omega
theorem tD(r:Int):jV r=some (decide (1≤r)&& decide (r≤5)):=by
 unfold jV;by_cases h1:r ≥ 1
 ·rw [if_pos h1,decide_eq_true (show 1≤r from h1)];by_cases h2:r≤5
  ·rw [if_pos h2,decide_eq_true h2];rfl
  ·rw [if_neg h2,decide_eq_false h2];rfl
 ·rw [if_neg h1,decide_eq_false (show¬1≤r from h1)];rfl
theorem qB(r:Int):fV r=some (decide (1≤r)&& decide (r≤5)):=by
 unfold fV;by_cases h1:r ≥ 1
 ·rw [if_pos h1,decide_eq_true (show 1≤r from h1)];by_cases h2:r≤5
  ·rw [if_pos h2,decide_eq_true h2];rfl
  ·rw [if_neg h2,decide_eq_false h2];rfl
 ·rw [if_neg h1,decide_eq_false (show¬1≤r from h1)];rfl
end Ev
end
noncomputable section
namespace Ev
open Go
def okR(r:Int):Bool:=decide (1≤r)&& decide (r≤5)
end Ev
end
noncomputable section
namespace Ev
open Go
def bS(p:Int):List It→Option Int
 | []=>none
 |x::l=>if x.1=p then some x.2 else bS p l
def TJ:Option Int→Int×Bool
 |some x=>(x,true)
 |none=>(0,false)
def YC(p:Nat):Option Int→Option It
 |some x=>some ((p:Int),x)
 |none=>none
def oH(a k:Nat)(g:Nat→Option Int):List It:=(List.range' a k).filterMap fun p=>YC p (g p)
theorem pB(a k:Nat)(g:Nat→Option Int):oH a (k+1) g=(match g a with|some x=> [((a:Int),x)]|none=> [])++oH (a+1) k g:=by
 unfold oH;rw [List.range'_succ,List.filterMap_cons];cases h:g a<;>simp [YC,h]
theorem Qc(a k m:Nat)(g:Nat→Option Int):oH a (k+m) g=oH a k g++oH (a+k) m g:=by
 unfold oH;rw [←List.range'_append_1,List.filterMap_append]
theorem yl{a k:Nat}{g g':Nat→Option Int}(h:∀p,a≤p→p<a+k→g p=g' p):oH a k g=oH a k g':=by
 induction k generalizing a with
 |zero=>rfl
 |succ k ih=>rw [pB,pB,h a (Nat.le_refl _) (by omega),ih fun p h1 h2=>h p (by omega) (by omega)]
theorem Bg{a k:Nat}{g:Nat→Option Int}(h:∀p,a≤p→p<a+k→g p=none):oH a k g= []:=by
 induction k generalizing a with
 |zero=>rfl
 |succ k ih=>rw [pB,h a (Nat.le_refl _) (by omega),ih fun p h1 h2=>h p (by omega) (by omega)];rfl
theorem iM{p:Int}:∀{l:List It},(∀x∈l,x.1≠p)→bS p l=none
 | [],_=>rfl
 |x::l,h=>by
  unfold bS;rw [if_neg (h x List.mem_cons_self)];exact iM fun y hy=>h y (List.mem_cons_of_mem _ hy)
theorem Bh{n:Int}:∀{l:List It} {a k:Nat},asc ((a:Int) - 1) n l=true→((a+k:Nat):Int)=n→l=oH a k fun p=>bS (p:Int) l
 | [],a,k,h,hn=>(Bg fun p _ _=>rfl).symm
 |x::l,a,k,h,hn=>by
  simp only [asc,Bool.and_eq_true,decide_eq_true_eq]at h;obtain⟨⟨h1,h2⟩,h3⟩:=h;obtain⟨q,hq⟩:∃q:Nat,x.1=(q:Int):=⟨x.1.toNat,by omega⟩;have hk:k=(q - a)+((k - (q - a) - 1)+1):=by omega
  rw [hk,Qc,pB]
  have e1:oH a (q - a) (fun p=>bS (p:Int) (x::l))= []:=Bg fun p p1 p2=>by
   refine iM fun y hy=> ?_;rcases List.mem_cons.1 hy with rfl|hy
   ·omega
   ·have:=GV h3 y hy;omega
  have ea:a+(q - a)=q:=by omega
  have e2:bS ((a+(q - a):Nat):Int) (x::l)=some x.2:=by unfold bS;rw [if_pos (by omega)]
  have h3':asc (((q+1:Nat):Int) - 1) n l=true:=by rw [hq]at h3;simpa using h3
  have ih:=Bh (k:=k - (q - a) - 1) h3' (by omega);rw [e1,e2,ea]
  have e3:oH (q+1) (k - (q - a) - 1) (fun p=>bS (p:Int) (x::l))=l:=by
   rw [yl (g':=fun p=>bS (p:Int) l) fun p p1 p2=>by
    show bS (p:Int) (x::l)=_
    rw [bS,if_neg (by omega)]]
   exact ih.symm
  rw [e3,List.nil_append,←hq];rfl
end Ev
end
noncomputable section
namespace Ev
open Go
theorem oI{n:Int}{s:Sl It}(h:fu (n,s)=true){j:Nat}(hj:j<s.l.length):0≤s.l[j].1∧s.l[j].1<n:=by
 simp only [fu,Bool.and_eq_true]at h
 have:=GV h.2 _ (List.getElem_mem hj);omega
theorem Mw{n:Int}{s:Sl It}(h:fu (n,s)=true):0≤n∧n≤4096:=by
 simp only [fu,vt,Bool.and_eq_true,decide_eq_true_eq]at h;omega
theorem nF(p:Int):∀(l m:List It),bS p (l++m)=match bS p l with|some x=>some x|none=>bS p m
 | [],m=>rfl
 |x::l,m=>by
  simp only [List.cons_append,bS];by_cases h:x.1=p
  ·rw [if_pos h,if_pos h]
  ·rw [if_neg h,if_neg h];exact nF p l m
theorem Qd{n:Int}{s:Sl It}(h:fu (n,s)=true){j:Nat}(hj:j<s.l.length):bS (s.l[j].1) (s.l.take j)=none:=by
 simp only [fu,Bool.and_eq_true]at h;refine iM fun x hx=> ?_;obtain⟨i,hi,rfl⟩:=List.getElem_of_mem hx;have hij:i<j:=by simp at hi;omega
 rw [List.getElem_take]
 have key:∀d i (hi:i+d+1<s.l.length),s.l[i].1<s.l[i+d+1].1:=by
  intro d
  induction d with
  |zero=>intro i hi;exact((asc_iff'.1 h.2) (i+1) hi).2.2 (by omega)
  |succ d ih=>intro i hi;have h1:=ih i (by omega);have h2:=((asc_iff'.1 h.2) (i+(d+1)+1) hi).2.2 (by omega);simp only [Nat.add_sub_cancel]at h2;exact Int.lt_trans h1 h2
 have:=key (j - i - 1) i (by omega)
 simp only [show i+(j - i - 1)+1=j by omega]at this;omega
theorem GW{v:Int×Sl It}(h:fu v=true):fe v=v:=by unfold fe;rw [if_pos h]
theorem uT(n:Int)(s:Sl It)(p:Int)(hok:okS 2 s)(h:fu (n,s)=true):fT (n,s) p=some (TJ (bS p s.l)):=by
 have hlen:s.l.length≤4096:=rJ h;unfold fT;simp only [jf (n,s) hok (show s.l.length≤_ by omega),GW h,zbS]
 obtain⟨q,h1,h2⟩:=cu (b:=fX p s) s.l.length (fun j a=>a=(j:Int)∧bS p s.l=bS p (s.l.drop j)) (fun q=>(bS p s.l=none∧q= .inl ())∨∃v,bS p s.l=some v∧q= .inr (v,true))
  (by
   rintro j _ hj ⟨rfl,ha⟩;rw [List.drop_eq_getElem_cons hj]at ha;simp only [fX,bI hok hj,zbS,cX hj (by omega)];rw [if_pos (by omega)];simp only [bS]at ha;by_cases c:s.l[j].1=p
   ·rw [if_pos c]at ha;exact .inr ⟨_,if_pos c,.inr ⟨_,ha,rfl⟩⟩
   ·rw [if_neg c]at ha
    exact .inl ⟨_,if_neg c,rfl,ha⟩)
  (by
   rintro _ ⟨rfl,ha⟩
   exact⟨_,if_neg (by omega),.inl ⟨by rw [ha];simp [bS],rfl⟩⟩) 0 (Nat.zero_le _) 0 ⟨rfl,rfl⟩
 rw [h1];rcases h2 with⟨h3,rfl⟩|⟨v,h3,rfl⟩<;>rw [h3]<;>rfl
end Ev
end
noncomputable section
namespace Ev
open Go
theorem JZ{n:Int}{l:List It}(h:asc (-1) n l=true){i k:Nat}(hik:i<k)(hk:k<l.length):l[i].1<l[k].1:=by
 have key:∀d i (hi:i+d+1<l.length),l[i].1<l[i+d+1].1:=by
  intro d
  induction d with
  |zero=>intro i hi;exact((asc_iff'.1 h) (i+1) hi).2.2 (by omega)
  |succ d ih=>intro i hi;have h1:=ih i (by omega);have h2:=((asc_iff'.1 h) (i+(d+1)+1) hi).2.2 (by omega);simp only [Nat.add_sub_cancel]at h2;exact Int.lt_trans h1 h2
 have:=key (k - i - 1) i (by omega)
 simp only [show i+(k - i - 1)+1=k by omega]at this;exact this
end Ev
end
end Go.Proofs.Ytjjbpdldbdmoeaa
