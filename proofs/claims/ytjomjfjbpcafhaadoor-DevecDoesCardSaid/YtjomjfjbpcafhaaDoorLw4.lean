/- Functions of the program as functions on data, and that they are. -/
import Derived.Test.YtjomjfjbpcafhaaDoorEvZ
import Derived.Test.YtjomjfjbpcafhaaDoorLf1
import Derived.Test.YtjomjfjbpcafhaaDoorLf2
import Derived.Test.YtjomjfjbpcafhaaDoorLf5
import Derived.Test.YtjomjfjbpcafhaaDoorLf6
import Derived.Test.YtjomjfjbpcafhaaDoorLf7
import Derived.Test.YtjomjfjbpcafhaaDoorLy1
import Derived.Test.YtjomjfjbpcafhaaDoorLy2
namespace Go.Proofs.YtjomjfjbpcafhaaDoor
namespace Ev
open Go
set_option linter.unusedVariables false
set_option linter.unusedSimpArgs false
set_option maxRecDepth 100000
set_option maxHeartbeats 1000000
attribute [local irreducible] OpsL StL TnL WpL EndL
noncomputable def law10_DevecDoes (a0 : Int × Sl (Int) × Sl (Int)) (a1 : (Int × Int) × (Int × Int)) (s8 : Sl (Int)) : Option (Bool) :=
  match a0, a1 with
  | (n1, s2, s3), ((n4, n5), (n6, n7)) => ((law10_small (n1, s2, s3)).bind fun b12 => (if b12 = true then (if ((s8.l.length : Nat) : Int) > 5 then ((FL).bind fun b17 => some b17) else ((devec_Get (n1, s2, s3) n4).bind fun (n19, b20) => ((ref10_Get (n1, s2, s3) n4).bind fun (n22, b23) => ((FL).bind fun b25 => (if b25 = true then (if n19 = n22 then (if b20 = true then (if b23 = true then ((devec_Set (n1, s2, s3) n4 n5).bind fun (n73, s74, s75) => ((ref10_Set (n1, s2, s3) n4 n5).bind fun (n77, s78, s79) => ((ref10_Same (n73, s74, s75) (n77, s78, s79)).bind fun b81 => (if b81 = true then ((devec_Drop (n1, s2, s3) n4).bind fun (n83, s84, s85) => ((ref10_Drop (n1, s2, s3) n4).bind fun (n87, s88, s89) => ((ref10_Same (n83, s84, s85) (n87, s88, s89)).bind fun b91 => (if b91 = true then ((devec_Count (n1, s2, s3)).bind fun n93 => ((ref10_Count (n1, s2, s3)).bind fun n95 => (if n93 = n95 then ((devec_Only (n1, s2, s3) s8).bind fun (n98, s99, s100) => ((ref10_Only (n1, s2, s3) s8).bind fun (n102, s103, s104) => ((ref10_Same (n98, s99, s100) (n102, s103, s104)).bind fun b106 => (if b106 = true then ((devec_Part (n1, s2, s3) n4 n6).bind fun (n108, s109, s110) => ((ref10_Part (n1, s2, s3) n4 n6).bind fun (n112, s113, s114) => ((ref10_Same (n108, s109, s110) (n112, s113, s114)).bind fun b116 => some b116))) else some false)))) else some false))) else some false)))) else some false)))) else some false) else (if b23 = true then some false else ((devec_Set (n1, s2, s3) n4 n5).bind fun (n28, s29, s30) => ((ref10_Set (n1, s2, s3) n4 n5).bind fun (n32, s33, s34) => ((ref10_Same (n28, s29, s30) (n32, s33, s34)).bind fun b36 => (if b36 = true then ((devec_Drop (n1, s2, s3) n4).bind fun (n38, s39, s40) => ((ref10_Drop (n1, s2, s3) n4).bind fun (n42, s43, s44) => ((ref10_Same (n38, s39, s40) (n42, s43, s44)).bind fun b46 => (if b46 = true then ((devec_Count (n1, s2, s3)).bind fun n48 => ((ref10_Count (n1, s2, s3)).bind fun n50 => (if n48 = n50 then ((devec_Only (n1, s2, s3) s8).bind fun (n53, s54, s55) => ((ref10_Only (n1, s2, s3) s8).bind fun (n57, s58, s59) => ((ref10_Same (n53, s54, s55) (n57, s58, s59)).bind fun b61 => (if b61 = true then ((devec_Part (n1, s2, s3) n4 n6).bind fun (n63, s64, s65) => ((ref10_Part (n1, s2, s3) n4 n6).bind fun (n67, s68, s69) => ((ref10_Same (n63, s64, s65) (n67, s68, s69)).bind fun b71 => some b71))) else some false)))) else some false))) else some false)))) else some false)))))) else some false) else some false))))) else ((FL).bind fun b14 => some b14)))
theorem law10_DevecDoes_r (m : Nat) {a0 : Int × Sl (Int) × Sl (Int)} {a1 : (Int × Int) × (Int × Int)} {s8 : Sl (Int)} {out : Bool} (h : law10_DevecDoes a0 a1 s8 = some out) : RunsP E1 (m + 8) 4 [.agg (r24 a0), .agg (r40 a1), .one (Sl.t r85 s8)] (.fresh, [.one (bT out)]) := by
 obtain ⟨n1, s2, s3⟩ := a0
 obtain ⟨⟨n4, n5⟩, ⟨n6, n7⟩⟩ := a1
 refine fn_F rfl (by rw [E1_fn]; exact show fiOf Tryd.prog 4 = _ by unfold fiOf; rw [Tryd.func4]; unfold Tryd.f4; rfl) rfl ?_
 dsimp only
 unfold law10_DevecDoes at h
 refine lS (lO ?_)
 refine ol_new rfl rfl rfl (q_box ty25 rfl (cs := [iI n1, sF r85 s2, sF r2 s3]) rfl rfl) (fun k9 => ?_)
 refine ol_new rfl rfl rfl (q_box ty40 rfl (cs := [iI n4, iI n5, iI n6, iI n7]) rfl rfl) (fun k10 => ?_)
 refine pq (qa bf) ?_
 refine oE (eS (lS (lS (lO ?_))))
 refine pq (ql (.agg [iI n1, sF r85 s2, sF r2 s3]) 1 sz25) ?_
 obtain ⟨b12, h11, h⟩ := bindS h
 refine pq (qc (bO b12) [.agg [iI n1, sF r85 s2, sF r2 s3]] (law10_small_r (m + 6) h11) (vw_cons (vd_agg (vc_cons vc_v (vc_cons vc_s (vc_cons vc_s vc_nil)))) vw_nil)) ?_
 rcases b12 with _ | _
 replace h := wF h
 refine pq (q_not rfl) ?_
 refine pq (qm bt) ?_
 iterate 3 refine os ?_
 refine pq (qpt bt) ?_
 refine oE (eS (cT rfl (lS (lO ?_))))
 obtain ⟨b14, h13, h⟩ := bindS h
 refine pq (qc (bO b14) [] (FL_r (m + 6) h13) vw_nil) ?_
 refine pq (qa (bO b14)) ?_
 refine oE (eS (lR (eR ?_)))
 obtain rfl := sj h
 exact eF1
 replace h := wT h
 refine pq (q_not rfl) ?_
 refine pq (qm bf) ?_
 refine pq (qm (.one (sF r85 s8))) ?_
 refine pq (q_lenS rfl ty22 rfl rfl rfl rfl) ?_
 by_cases c15 : ((s8.l.length : Nat) : Int) > 5
 replace h := ifT c15 h
 refine pq (qb (p_gtr_tZ c15)) ?_
 refine pq (qpf bt) ?_
 refine oE (eS (cT rfl (lS (lO ?_))))
 obtain ⟨b17, h16, h⟩ := bindS h
 refine pq (qc (bO b17) [] (FL_r (m + 6) h16) vw_nil) ?_
 refine pq (qa (bO b17)) ?_
 refine oE (eS (lR (eR ?_)))
 obtain rfl := sj h
 exact eF1
 replace h := ifF c15 h
 refine pq (qb (p_gtr_fZ c15)) ?_
 refine pq (qpf bf) ?_
 refine oE (eS (cF rfl (lK (eS (lS (lO ?_))))))
 refine pq (ql (.agg [iI n1, sF r85 s2, sF r2 s3]) 1 sz25) ?_
 refine pq (q_ixA (a := 0) ty40 rfl ty39 rfl rfl rfl rfl) ?_
 refine pq (q_fieldP rfl fa39_0 rfl) ?_
 refine pq (ql (iO n4) 0 sz3) ?_
 obtain ⟨⟨n19, b20⟩, h18, h⟩ := bindS h
 refine pq (qc (.tup [iO n19, bO b20]) [.agg [iI n1, sF r85 s2, sF r2 s3], iO n4] (devec_Get_r (m + 0) h18) (vw_cons (vd_agg (vc_cons vc_v (vc_cons vc_s (vc_cons vc_s vc_nil)))) (vw_cons (vd_one vc_v) vw_nil))) ?_
 refine pq (qm (.tup [iO n19, bO b20])) ?_
 refine pq (q_ext (v := iO n19) rfl rfl) ?_
 refine pq (q_ext (v := bO b20) rfl rfl) ?_
 refine pq (qa (iO n19)) ?_
 refine pq (qa (bO b20)) ?_
 refine oN ?_
 refine pq (ql (.agg [iI n1, sF r85 s2, sF r2 s3]) 1 sz25) ?_
 refine pq (q_ixA (a := 0) ty40 rfl ty39 rfl rfl rfl rfl) ?_
 refine pq (q_fieldP rfl fa39_0 rfl) ?_
 refine pq (ql (iO n4) 0 sz3) ?_
 obtain ⟨⟨n22, b23⟩, h21, h⟩ := bindS h
 refine pq (qc (.tup [iO n22, bO b23]) [.agg [iI n1, sF r85 s2, sF r2 s3], iO n4] (ref10_Get_r (m + 1) h21) (vw_cons (vd_agg (vc_cons vc_v (vc_cons vc_s (vc_cons vc_s vc_nil)))) (vw_cons (vd_one vc_v) vw_nil))) ?_
 refine pq (qm (.tup [iO n22, bO b23])) ?_
 refine pq (q_ext (v := iO n22) rfl rfl) ?_
 refine pq (q_ext (v := bO b23) rfl rfl) ?_
 refine pq (qa (iO n22)) ?_
 refine pq (qa (bO b23)) ?_
 refine oE (eS (lS ?_))
 refine L_still (by kernel_rfl) ?_
 obtain ⟨b25, h24, h⟩ := bindS h
 refine sq (qc (bO b25) [] (FL_r (m + 6) h24) vw_nil) ?_
 refine sq (qm (bO b25)) ?_
 rcases b25 with _ | _
 replace h := wF h
 iterate 3 refine ss ?_
 refine sq (qpf bf) ?_
 refine sq (qm bf) ?_
 iterate 3 refine ss ?_
 refine sq (qpf bf) ?_
 refine sq (qm bf) ?_
 iterate 17 refine ss ?_
 refine sq (qpf bf) ?_
 refine sq (qm bf) ?_
 iterate 11 refine ss ?_
 refine sq (qpf bf) ?_
 refine sq (qm bf) ?_
 iterate 5 refine ss ?_
 refine sq (qpf bf) ?_
 refine sq (qm bf) ?_
 iterate 7 refine ss ?_
 refine sq (qpf bf) ?_
 refine sq (qm bf) ?_
 iterate 17 refine ss ?_
 refine sq (qpf bf) ?_
 refine sq (qa bf) ?_
 refine st_end (eS (lR ?_))
 obtain rfl := sj h
 exact eF1
 replace h := wT h
 refine sq (qm (iO n19)) ?_
 refine sq (qm (iO n22)) ?_
 by_cases c26 : n19 = n22
 replace h := ifT c26 h
 refine sq (qb (p_eql_tZ c26)) ?_
 refine sq (qpt bt) ?_
 refine sq (qm bt) ?_
 refine sq (qm (bO b20)) ?_
 refine sq (qm (bO b23)) ?_
 rcases b20 with _ | _
 replace h := wF h
 rcases b23 with _ | _
 replace h := wF h
 refine sq (q_binB rfl rfl (eqeqlB4 _ _ _ _) rfl) ?_
 refine sq (qpt bt) ?_
 refine sq (qm bt) ?_
 refine sq (ql (.agg [iI n1, sF r85 s2, sF r2 s3]) 1 sz25) ?_
 refine sq (q_ixA (a := 0) ty40 rfl ty39 rfl rfl rfl rfl) ?_
 refine sq (q_fieldP rfl fa39_0 rfl) ?_
 refine sq (ql (iO n4) 0 sz3) ?_
 refine sq (q_ixA (a := 0) ty40 rfl ty39 rfl rfl rfl rfl) ?_
 refine sq (q_fieldP rfl fa39_1 rfl) ?_
 refine sq (ql (iO n5) 0 sz2) ?_
 obtain ⟨⟨n28, s29, s30⟩, h27, h⟩ := bindS h
 refine sq (qc (.agg [iI n28, sC r85 s29, sC r2 s30]) [.agg [iI n1, sF r85 s2, sF r2 s3], iO n4, iO n5] (devec_Set_r (m + 0) h27) (vw_cons (vd_agg (vc_cons vc_v (vc_cons vc_s (vc_cons vc_s vc_nil)))) (vw_cons (vd_one vc_v) (vw_cons (vd_one vc_v) vw_nil)))) ?_
 refine sq (ql (.agg [iI n1, sF r85 s2, sF r2 s3]) 1 sz25) ?_
 refine sq (q_ixA (a := 0) ty40 rfl ty39 rfl rfl rfl rfl) ?_
 refine sq (q_fieldP rfl fa39_0 rfl) ?_
 refine sq (ql (iO n4) 0 sz3) ?_
 refine sq (q_ixA (a := 0) ty40 rfl ty39 rfl rfl rfl rfl) ?_
 refine sq (q_fieldP rfl fa39_1 rfl) ?_
 refine sq (ql (iO n5) 0 sz2) ?_
 obtain ⟨⟨n32, s33, s34⟩, h31, h⟩ := bindS h
 refine sq (qc (.agg [iI n32, sC r85 s33, sC r2 s34]) [.agg [iI n1, sF r85 s2, sF r2 s3], iO n4, iO n5] (ref10_Set_r (m + 1) h31) (vw_cons (vd_agg (vc_cons vc_v (vc_cons vc_s (vc_cons vc_s vc_nil)))) (vw_cons (vd_one vc_v) (vw_cons (vd_one vc_v) vw_nil)))) ?_
 obtain ⟨b36, h35, h⟩ := bindS h
 refine sq (qc (bO b36) [.agg [iI n28, sC r85 s29, sC r2 s30], .agg [iI n32, sC r85 s33, sC r2 s34]] (ref10_Same_r (m + 5) h35) (vw_cons (vd_agg (vc_cons vc_v (vc_cons vc_s (vc_cons vc_s vc_nil)))) (vw_cons (vd_agg (vc_cons vc_v (vc_cons vc_s (vc_cons vc_s vc_nil)))) vw_nil))) ?_
 refine sq (qpt (bO b36)) ?_
 refine sq (qm (bO b36)) ?_
 rcases b36 with _ | _
 replace h := wF h
 iterate 11 refine ss ?_
 refine sq (qpf bf) ?_
 refine sq (qm bf) ?_
 iterate 5 refine ss ?_
 refine sq (qpf bf) ?_
 refine sq (qm bf) ?_
 iterate 7 refine ss ?_
 refine sq (qpf bf) ?_
 refine sq (qm bf) ?_
 iterate 17 refine ss ?_
 refine sq (qpf bf) ?_
 refine sq (qa bf) ?_
 refine st_end (eS (lR ?_))
 obtain rfl := sj h
 exact eF1
 replace h := wT h
 refine sq (ql (.agg [iI n1, sF r85 s2, sF r2 s3]) 1 sz25) ?_
 refine sq (q_ixA (a := 0) ty40 rfl ty39 rfl rfl rfl rfl) ?_
 refine sq (q_fieldP rfl fa39_0 rfl) ?_
 refine sq (ql (iO n4) 0 sz3) ?_
 obtain ⟨⟨n38, s39, s40⟩, h37, h⟩ := bindS h
 refine sq (qc (.agg [iI n38, sC r85 s39, sC r2 s40]) [.agg [iI n1, sF r85 s2, sF r2 s3], iO n4] (devec_Drop_r (m + 0) h37) (vw_cons (vd_agg (vc_cons vc_v (vc_cons vc_s (vc_cons vc_s vc_nil)))) (vw_cons (vd_one vc_v) vw_nil))) ?_
 refine sq (ql (.agg [iI n1, sF r85 s2, sF r2 s3]) 1 sz25) ?_
 refine sq (q_ixA (a := 0) ty40 rfl ty39 rfl rfl rfl rfl) ?_
 refine sq (q_fieldP rfl fa39_0 rfl) ?_
 refine sq (ql (iO n4) 0 sz3) ?_
 obtain ⟨⟨n42, s43, s44⟩, h41, h⟩ := bindS h
 refine sq (qc (.agg [iI n42, sC r85 s43, sC r2 s44]) [.agg [iI n1, sF r85 s2, sF r2 s3], iO n4] (ref10_Drop_r (m + 1) h41) (vw_cons (vd_agg (vc_cons vc_v (vc_cons vc_s (vc_cons vc_s vc_nil)))) (vw_cons (vd_one vc_v) vw_nil))) ?_
 obtain ⟨b46, h45, h⟩ := bindS h
 refine sq (qc (bO b46) [.agg [iI n38, sC r85 s39, sC r2 s40], .agg [iI n42, sC r85 s43, sC r2 s44]] (ref10_Same_r (m + 5) h45) (vw_cons (vd_agg (vc_cons vc_v (vc_cons vc_s (vc_cons vc_s vc_nil)))) (vw_cons (vd_agg (vc_cons vc_v (vc_cons vc_s (vc_cons vc_s vc_nil)))) vw_nil))) ?_
 refine sq (qpt (bO b46)) ?_
 refine sq (qm (bO b46)) ?_
 rcases b46 with _ | _
 replace h := wF h
 iterate 5 refine ss ?_
 refine sq (qpf bf) ?_
 refine sq (qm bf) ?_
 iterate 7 refine ss ?_
 refine sq (qpf bf) ?_
 refine sq (qm bf) ?_
 iterate 17 refine ss ?_
 refine sq (qpf bf) ?_
 refine sq (qa bf) ?_
 refine st_end (eS (lR ?_))
 obtain rfl := sj h
 exact eF1
 replace h := wT h
 refine sq (ql (.agg [iI n1, sF r85 s2, sF r2 s3]) 1 sz25) ?_
 obtain ⟨n48, h47, h⟩ := bindS h
 refine sq (qc (iO n48) [.agg [iI n1, sF r85 s2, sF r2 s3]] (devec_Count_r (m + 0) h47) (vw_cons (vd_agg (vc_cons vc_v (vc_cons vc_s (vc_cons vc_s vc_nil)))) vw_nil)) ?_
 refine sq (ql (.agg [iI n1, sF r85 s2, sF r2 s3]) 1 sz25) ?_
 obtain ⟨n50, h49, h⟩ := bindS h
 refine sq (qc (iO n50) [.agg [iI n1, sF r85 s2, sF r2 s3]] (ref10_Count_r (m + 1) h49) (vw_cons (vd_agg (vc_cons vc_v (vc_cons vc_s (vc_cons vc_s vc_nil)))) vw_nil)) ?_
 by_cases c51 : n48 = n50
 replace h := ifT c51 h
 refine sq (qb (p_eql_tZ c51)) ?_
 refine sq (qpt bt) ?_
 refine sq (qm bt) ?_
 refine sq (ql (.agg [iI n1, sF r85 s2, sF r2 s3]) 1 sz25) ?_
 refine sq (qm (.one (sF r85 s8))) ?_
 obtain ⟨⟨n53, s54, s55⟩, h52, h⟩ := bindS h
 refine sq (qc (.agg [iI n53, sC r85 s54, sC r2 s55]) [.agg [iI n1, sF r85 s2, sF r2 s3], .one (sF r85 s8)] (devec_Only_r (m + 0) h52) (vw_cons (vd_agg (vc_cons vc_v (vc_cons vc_s (vc_cons vc_s vc_nil)))) (vw_cons (vd_one vc_s) vw_nil))) ?_
 refine sq (ql (.agg [iI n1, sF r85 s2, sF r2 s3]) 1 sz25) ?_
 refine sq (qm (.one (sF r85 s8))) ?_
 obtain ⟨⟨n57, s58, s59⟩, h56, h⟩ := bindS h
 refine sq (qc (.agg [iI n57, sC r85 s58, sC r2 s59]) [.agg [iI n1, sF r85 s2, sF r2 s3], .one (sF r85 s8)] (ref10_Only_r (m + 1) h56) (vw_cons (vd_agg (vc_cons vc_v (vc_cons vc_s (vc_cons vc_s vc_nil)))) (vw_cons (vd_one vc_s) vw_nil))) ?_
 obtain ⟨b61, h60, h⟩ := bindS h
 refine sq (qc (bO b61) [.agg [iI n53, sC r85 s54, sC r2 s55], .agg [iI n57, sC r85 s58, sC r2 s59]] (ref10_Same_r (m + 5) h60) (vw_cons (vd_agg (vc_cons vc_v (vc_cons vc_s (vc_cons vc_s vc_nil)))) (vw_cons (vd_agg (vc_cons vc_v (vc_cons vc_s (vc_cons vc_s vc_nil)))) vw_nil))) ?_
 refine sq (qpt (bO b61)) ?_
 refine sq (qm (bO b61)) ?_
 rcases b61 with _ | _
 replace h := wF h
 iterate 17 refine ss ?_
 refine sq (qpf bf) ?_
 refine sq (qa bf) ?_
 refine st_end (eS (lR ?_))
 obtain rfl := sj h
 exact eF1
 replace h := wT h
 refine sq (ql (.agg [iI n1, sF r85 s2, sF r2 s3]) 1 sz25) ?_
 refine sq (q_ixA (a := 0) ty40 rfl ty39 rfl rfl rfl rfl) ?_
 refine sq (q_fieldP rfl fa39_0 rfl) ?_
 refine sq (ql (iO n4) 0 sz3) ?_
 refine sq (q_ixA (a := 1) ty40 rfl ty39 rfl rfl rfl rfl) ?_
 refine sq (q_fieldP rfl fa39_0 rfl) ?_
 refine sq (ql (iO n6) 0 sz3) ?_
 obtain ⟨⟨n63, s64, s65⟩, h62, h⟩ := bindS h
 refine sq (qc (.agg [iI n63, sC r85 s64, sC r2 s65]) [.agg [iI n1, sF r85 s2, sF r2 s3], iO n4, iO n6] (devec_Part_r (m + 0) h62) (vw_cons (vd_agg (vc_cons vc_v (vc_cons vc_s (vc_cons vc_s vc_nil)))) (vw_cons (vd_one vc_v) (vw_cons (vd_one vc_v) vw_nil)))) ?_
 refine sq (ql (.agg [iI n1, sF r85 s2, sF r2 s3]) 1 sz25) ?_
 refine sq (q_ixA (a := 0) ty40 rfl ty39 rfl rfl rfl rfl) ?_
 refine sq (q_fieldP rfl fa39_0 rfl) ?_
 refine sq (ql (iO n4) 0 sz3) ?_
 refine sq (q_ixA (a := 1) ty40 rfl ty39 rfl rfl rfl rfl) ?_
 refine sq (q_fieldP rfl fa39_0 rfl) ?_
 refine sq (ql (iO n6) 0 sz3) ?_
 obtain ⟨⟨n67, s68, s69⟩, h66, h⟩ := bindS h
 refine sq (qc (.agg [iI n67, sC r85 s68, sC r2 s69]) [.agg [iI n1, sF r85 s2, sF r2 s3], iO n4, iO n6] (ref10_Part_r (m + 1) h66) (vw_cons (vd_agg (vc_cons vc_v (vc_cons vc_s (vc_cons vc_s vc_nil)))) (vw_cons (vd_one vc_v) (vw_cons (vd_one vc_v) vw_nil)))) ?_
 obtain ⟨b71, h70, h⟩ := bindS h
 refine sq (qc (bO b71) [.agg [iI n63, sC r85 s64, sC r2 s65], .agg [iI n67, sC r85 s68, sC r2 s69]] (ref10_Same_r (m + 5) h70) (vw_cons (vd_agg (vc_cons vc_v (vc_cons vc_s (vc_cons vc_s vc_nil)))) (vw_cons (vd_agg (vc_cons vc_v (vc_cons vc_s (vc_cons vc_s vc_nil)))) vw_nil))) ?_
 refine sq (qpt (bO b71)) ?_
 refine sq (qa (bO b71)) ?_
 refine st_end (eS (lR ?_))
 obtain rfl := sj h
 exact eF1
 replace h := ifF c51 h
 refine sq (qb (p_eql_fZ c51)) ?_
 refine sq (qpt bf) ?_
 refine sq (qm bf) ?_
 iterate 7 refine ss ?_
 refine sq (qpf bf) ?_
 refine sq (qm bf) ?_
 iterate 17 refine ss ?_
 refine sq (qpf bf) ?_
 refine sq (qa bf) ?_
 refine st_end (eS (lR ?_))
 obtain rfl := sj h
 exact eF1
 replace h := wT h
 refine sq (q_binB rfl rfl (eqeqlB4 _ _ _ _) rfl) ?_
 refine sq (qpt bf) ?_
 refine sq (qm bf) ?_
 iterate 17 refine ss ?_
 refine sq (qpf bf) ?_
 refine sq (qm bf) ?_
 iterate 11 refine ss ?_
 refine sq (qpf bf) ?_
 refine sq (qm bf) ?_
 iterate 5 refine ss ?_
 refine sq (qpf bf) ?_
 refine sq (qm bf) ?_
 iterate 7 refine ss ?_
 refine sq (qpf bf) ?_
 refine sq (qm bf) ?_
 iterate 17 refine ss ?_
 refine sq (qpf bf) ?_
 refine sq (qa bf) ?_
 refine st_end (eS (lR ?_))
 obtain rfl := sj h
 exact eF1
 replace h := wT h
 rcases b23 with _ | _
 replace h := wF h
 refine sq (q_binB rfl rfl (eqeqlB4 _ _ _ _) rfl) ?_
 refine sq (qpt bf) ?_
 refine sq (qm bf) ?_
 iterate 17 refine ss ?_
 refine sq (qpf bf) ?_
 refine sq (qm bf) ?_
 iterate 11 refine ss ?_
 refine sq (qpf bf) ?_
 refine sq (qm bf) ?_
 iterate 5 refine ss ?_
 refine sq (qpf bf) ?_
 refine sq (qm bf) ?_
 iterate 7 refine ss ?_
 refine sq (qpf bf) ?_
 refine sq (qm bf) ?_
 iterate 17 refine ss ?_
 refine sq (qpf bf) ?_
 refine sq (qa bf) ?_
 refine st_end (eS (lR ?_))
 obtain rfl := sj h
 exact eF1
 replace h := wT h
 refine sq (q_binB rfl rfl (eqeqlB4 _ _ _ _) rfl) ?_
 refine sq (qpt bt) ?_
 refine sq (qm bt) ?_
 refine sq (ql (.agg [iI n1, sF r85 s2, sF r2 s3]) 1 sz25) ?_
 refine sq (q_ixA (a := 0) ty40 rfl ty39 rfl rfl rfl rfl) ?_
 refine sq (q_fieldP rfl fa39_0 rfl) ?_
 refine sq (ql (iO n4) 0 sz3) ?_
 refine sq (q_ixA (a := 0) ty40 rfl ty39 rfl rfl rfl rfl) ?_
 refine sq (q_fieldP rfl fa39_1 rfl) ?_
 refine sq (ql (iO n5) 0 sz2) ?_
 obtain ⟨⟨n73, s74, s75⟩, h72, h⟩ := bindS h
 refine sq (qc (.agg [iI n73, sC r85 s74, sC r2 s75]) [.agg [iI n1, sF r85 s2, sF r2 s3], iO n4, iO n5] (devec_Set_r (m + 0) h72) (vw_cons (vd_agg (vc_cons vc_v (vc_cons vc_s (vc_cons vc_s vc_nil)))) (vw_cons (vd_one vc_v) (vw_cons (vd_one vc_v) vw_nil)))) ?_
 refine sq (ql (.agg [iI n1, sF r85 s2, sF r2 s3]) 1 sz25) ?_
 refine sq (q_ixA (a := 0) ty40 rfl ty39 rfl rfl rfl rfl) ?_
 refine sq (q_fieldP rfl fa39_0 rfl) ?_
 refine sq (ql (iO n4) 0 sz3) ?_
 refine sq (q_ixA (a := 0) ty40 rfl ty39 rfl rfl rfl rfl) ?_
 refine sq (q_fieldP rfl fa39_1 rfl) ?_
 refine sq (ql (iO n5) 0 sz2) ?_
 obtain ⟨⟨n77, s78, s79⟩, h76, h⟩ := bindS h
 refine sq (qc (.agg [iI n77, sC r85 s78, sC r2 s79]) [.agg [iI n1, sF r85 s2, sF r2 s3], iO n4, iO n5] (ref10_Set_r (m + 1) h76) (vw_cons (vd_agg (vc_cons vc_v (vc_cons vc_s (vc_cons vc_s vc_nil)))) (vw_cons (vd_one vc_v) (vw_cons (vd_one vc_v) vw_nil)))) ?_
 obtain ⟨b81, h80, h⟩ := bindS h
 refine sq (qc (bO b81) [.agg [iI n73, sC r85 s74, sC r2 s75], .agg [iI n77, sC r85 s78, sC r2 s79]] (ref10_Same_r (m + 5) h80) (vw_cons (vd_agg (vc_cons vc_v (vc_cons vc_s (vc_cons vc_s vc_nil)))) (vw_cons (vd_agg (vc_cons vc_v (vc_cons vc_s (vc_cons vc_s vc_nil)))) vw_nil))) ?_
 refine sq (qpt (bO b81)) ?_
 refine sq (qm (bO b81)) ?_
 rcases b81 with _ | _
 replace h := wF h
 iterate 11 refine ss ?_
 refine sq (qpf bf) ?_
 refine sq (qm bf) ?_
 iterate 5 refine ss ?_
 refine sq (qpf bf) ?_
 refine sq (qm bf) ?_
 iterate 7 refine ss ?_
 refine sq (qpf bf) ?_
 refine sq (qm bf) ?_
 iterate 17 refine ss ?_
 refine sq (qpf bf) ?_
 refine sq (qa bf) ?_
 refine st_end (eS (lR ?_))
 obtain rfl := sj h
 exact eF1
 replace h := wT h
 refine sq (ql (.agg [iI n1, sF r85 s2, sF r2 s3]) 1 sz25) ?_
 refine sq (q_ixA (a := 0) ty40 rfl ty39 rfl rfl rfl rfl) ?_
 refine sq (q_fieldP rfl fa39_0 rfl) ?_
 refine sq (ql (iO n4) 0 sz3) ?_
 obtain ⟨⟨n83, s84, s85⟩, h82, h⟩ := bindS h
 refine sq (qc (.agg [iI n83, sC r85 s84, sC r2 s85]) [.agg [iI n1, sF r85 s2, sF r2 s3], iO n4] (devec_Drop_r (m + 0) h82) (vw_cons (vd_agg (vc_cons vc_v (vc_cons vc_s (vc_cons vc_s vc_nil)))) (vw_cons (vd_one vc_v) vw_nil))) ?_
 refine sq (ql (.agg [iI n1, sF r85 s2, sF r2 s3]) 1 sz25) ?_
 refine sq (q_ixA (a := 0) ty40 rfl ty39 rfl rfl rfl rfl) ?_
 refine sq (q_fieldP rfl fa39_0 rfl) ?_
 refine sq (ql (iO n4) 0 sz3) ?_
 obtain ⟨⟨n87, s88, s89⟩, h86, h⟩ := bindS h
 refine sq (qc (.agg [iI n87, sC r85 s88, sC r2 s89]) [.agg [iI n1, sF r85 s2, sF r2 s3], iO n4] (ref10_Drop_r (m + 1) h86) (vw_cons (vd_agg (vc_cons vc_v (vc_cons vc_s (vc_cons vc_s vc_nil)))) (vw_cons (vd_one vc_v) vw_nil))) ?_
 obtain ⟨b91, h90, h⟩ := bindS h
 refine sq (qc (bO b91) [.agg [iI n83, sC r85 s84, sC r2 s85], .agg [iI n87, sC r85 s88, sC r2 s89]] (ref10_Same_r (m + 5) h90) (vw_cons (vd_agg (vc_cons vc_v (vc_cons vc_s (vc_cons vc_s vc_nil)))) (vw_cons (vd_agg (vc_cons vc_v (vc_cons vc_s (vc_cons vc_s vc_nil)))) vw_nil))) ?_
 refine sq (qpt (bO b91)) ?_
 refine sq (qm (bO b91)) ?_
 rcases b91 with _ | _
 replace h := wF h
 iterate 5 refine ss ?_
 refine sq (qpf bf) ?_
 refine sq (qm bf) ?_
 iterate 7 refine ss ?_
 refine sq (qpf bf) ?_
 refine sq (qm bf) ?_
 iterate 17 refine ss ?_
 refine sq (qpf bf) ?_
 refine sq (qa bf) ?_
 refine st_end (eS (lR ?_))
 obtain rfl := sj h
 exact eF1
 replace h := wT h
 refine sq (ql (.agg [iI n1, sF r85 s2, sF r2 s3]) 1 sz25) ?_
 obtain ⟨n93, h92, h⟩ := bindS h
 refine sq (qc (iO n93) [.agg [iI n1, sF r85 s2, sF r2 s3]] (devec_Count_r (m + 0) h92) (vw_cons (vd_agg (vc_cons vc_v (vc_cons vc_s (vc_cons vc_s vc_nil)))) vw_nil)) ?_
 refine sq (ql (.agg [iI n1, sF r85 s2, sF r2 s3]) 1 sz25) ?_
 obtain ⟨n95, h94, h⟩ := bindS h
 refine sq (qc (iO n95) [.agg [iI n1, sF r85 s2, sF r2 s3]] (ref10_Count_r (m + 1) h94) (vw_cons (vd_agg (vc_cons vc_v (vc_cons vc_s (vc_cons vc_s vc_nil)))) vw_nil)) ?_
 by_cases c96 : n93 = n95
 replace h := ifT c96 h
 refine sq (qb (p_eql_tZ c96)) ?_
 refine sq (qpt bt) ?_
 refine sq (qm bt) ?_
 refine sq (ql (.agg [iI n1, sF r85 s2, sF r2 s3]) 1 sz25) ?_
 refine sq (qm (.one (sF r85 s8))) ?_
 obtain ⟨⟨n98, s99, s100⟩, h97, h⟩ := bindS h
 refine sq (qc (.agg [iI n98, sC r85 s99, sC r2 s100]) [.agg [iI n1, sF r85 s2, sF r2 s3], .one (sF r85 s8)] (devec_Only_r (m + 0) h97) (vw_cons (vd_agg (vc_cons vc_v (vc_cons vc_s (vc_cons vc_s vc_nil)))) (vw_cons (vd_one vc_s) vw_nil))) ?_
 refine sq (ql (.agg [iI n1, sF r85 s2, sF r2 s3]) 1 sz25) ?_
 refine sq (qm (.one (sF r85 s8))) ?_
 obtain ⟨⟨n102, s103, s104⟩, h101, h⟩ := bindS h
 refine sq (qc (.agg [iI n102, sC r85 s103, sC r2 s104]) [.agg [iI n1, sF r85 s2, sF r2 s3], .one (sF r85 s8)] (ref10_Only_r (m + 1) h101) (vw_cons (vd_agg (vc_cons vc_v (vc_cons vc_s (vc_cons vc_s vc_nil)))) (vw_cons (vd_one vc_s) vw_nil))) ?_
 obtain ⟨b106, h105, h⟩ := bindS h
 refine sq (qc (bO b106) [.agg [iI n98, sC r85 s99, sC r2 s100], .agg [iI n102, sC r85 s103, sC r2 s104]] (ref10_Same_r (m + 5) h105) (vw_cons (vd_agg (vc_cons vc_v (vc_cons vc_s (vc_cons vc_s vc_nil)))) (vw_cons (vd_agg (vc_cons vc_v (vc_cons vc_s (vc_cons vc_s vc_nil)))) vw_nil))) ?_
 refine sq (qpt (bO b106)) ?_
 refine sq (qm (bO b106)) ?_
 rcases b106 with _ | _
 replace h := wF h
 iterate 17 refine ss ?_
 refine sq (qpf bf) ?_
 refine sq (qa bf) ?_
 refine st_end (eS (lR ?_))
 obtain rfl := sj h
 exact eF1
 replace h := wT h
 refine sq (ql (.agg [iI n1, sF r85 s2, sF r2 s3]) 1 sz25) ?_
 refine sq (q_ixA (a := 0) ty40 rfl ty39 rfl rfl rfl rfl) ?_
 refine sq (q_fieldP rfl fa39_0 rfl) ?_
 refine sq (ql (iO n4) 0 sz3) ?_
 refine sq (q_ixA (a := 1) ty40 rfl ty39 rfl rfl rfl rfl) ?_
 refine sq (q_fieldP rfl fa39_0 rfl) ?_
 refine sq (ql (iO n6) 0 sz3) ?_
 obtain ⟨⟨n108, s109, s110⟩, h107, h⟩ := bindS h
 refine sq (qc (.agg [iI n108, sC r85 s109, sC r2 s110]) [.agg [iI n1, sF r85 s2, sF r2 s3], iO n4, iO n6] (devec_Part_r (m + 0) h107) (vw_cons (vd_agg (vc_cons vc_v (vc_cons vc_s (vc_cons vc_s vc_nil)))) (vw_cons (vd_one vc_v) (vw_cons (vd_one vc_v) vw_nil)))) ?_
 refine sq (ql (.agg [iI n1, sF r85 s2, sF r2 s3]) 1 sz25) ?_
 refine sq (q_ixA (a := 0) ty40 rfl ty39 rfl rfl rfl rfl) ?_
 refine sq (q_fieldP rfl fa39_0 rfl) ?_
 refine sq (ql (iO n4) 0 sz3) ?_
 refine sq (q_ixA (a := 1) ty40 rfl ty39 rfl rfl rfl rfl) ?_
 refine sq (q_fieldP rfl fa39_0 rfl) ?_
 refine sq (ql (iO n6) 0 sz3) ?_
 obtain ⟨⟨n112, s113, s114⟩, h111, h⟩ := bindS h
 refine sq (qc (.agg [iI n112, sC r85 s113, sC r2 s114]) [.agg [iI n1, sF r85 s2, sF r2 s3], iO n4, iO n6] (ref10_Part_r (m + 1) h111) (vw_cons (vd_agg (vc_cons vc_v (vc_cons vc_s (vc_cons vc_s vc_nil)))) (vw_cons (vd_one vc_v) (vw_cons (vd_one vc_v) vw_nil)))) ?_
 obtain ⟨b116, h115, h⟩ := bindS h
 refine sq (qc (bO b116) [.agg [iI n108, sC r85 s109, sC r2 s110], .agg [iI n112, sC r85 s113, sC r2 s114]] (ref10_Same_r (m + 5) h115) (vw_cons (vd_agg (vc_cons vc_v (vc_cons vc_s (vc_cons vc_s vc_nil)))) (vw_cons (vd_agg (vc_cons vc_v (vc_cons vc_s (vc_cons vc_s vc_nil)))) vw_nil))) ?_
 refine sq (qpt (bO b116)) ?_
 refine sq (qa (bO b116)) ?_
 refine st_end (eS (lR ?_))
 obtain rfl := sj h
 exact eF1
 replace h := ifF c96 h
 refine sq (qb (p_eql_fZ c96)) ?_
 refine sq (qpt bf) ?_
 refine sq (qm bf) ?_
 iterate 7 refine ss ?_
 refine sq (qpf bf) ?_
 refine sq (qm bf) ?_
 iterate 17 refine ss ?_
 refine sq (qpf bf) ?_
 refine sq (qa bf) ?_
 refine st_end (eS (lR ?_))
 obtain rfl := sj h
 exact eF1
 replace h := ifF c26 h
 refine sq (qb (p_eql_fZ c26)) ?_
 refine sq (qpt bf) ?_
 refine sq (qm bf) ?_
 iterate 3 refine ss ?_
 refine sq (qpf bf) ?_
 refine sq (qm bf) ?_
 iterate 17 refine ss ?_
 refine sq (qpf bf) ?_
 refine sq (qm bf) ?_
 iterate 11 refine ss ?_
 refine sq (qpf bf) ?_
 refine sq (qm bf) ?_
 iterate 5 refine ss ?_
 refine sq (qpf bf) ?_
 refine sq (qm bf) ?_
 iterate 7 refine ss ?_
 refine sq (qpf bf) ?_
 refine sq (qm bf) ?_
 iterate 17 refine ss ?_
 refine sq (qpf bf) ?_
 refine sq (qa bf) ?_
 refine st_end (eS (lR ?_))
 obtain rfl := sj h
 exact eF1
end Ev
end Go.Proofs.YtjomjfjbpcafhaaDoor
