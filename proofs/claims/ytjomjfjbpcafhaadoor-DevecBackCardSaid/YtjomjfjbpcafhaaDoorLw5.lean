/- Functions of the program as functions on data, and that they are. -/
import Derived.Test.YtjomjfjbpcafhaaDoorEvZ
import Derived.Test.YtjomjfjbpcafhaaDoorLf1
import Derived.Test.YtjomjfjbpcafhaaDoorLf3
import Derived.Test.YtjomjfjbpcafhaaDoorLf4
import Derived.Test.YtjomjfjbpcafhaaDoorLf8
import Derived.Test.YtjomjfjbpcafhaaDoorLy1
namespace Go.Proofs.YtjomjfjbpcafhaaDoor
namespace Ev
open Go
set_option linter.unusedVariables false
set_option linter.unusedSimpArgs false
set_option maxRecDepth 100000
set_option maxHeartbeats 1000000
attribute [local irreducible] OpsL StL TnL WpL EndL
noncomputable def law10_DevecBack (n1 : Int) (s2 : Sl (Int × Int)) : Option (Bool) :=
 ((law09_Some n1 s2).bind fun (n4, s5) => ((devec_Of (n4, s5)).bind fun (n8, s9, s10) => ((FL).bind fun b13 => (if b13 = true then ((devec_Right (n8, s9, s10)).bind fun b15 => (if b15 = true then ((devec_Back (n8, s9, s10)).bind fun (n17, s18) => ((ref09_Same (n17, s18) (n4, s5)).bind fun b20 => (if b20 = true then ((devec_Of (n17, s18)).bind fun (n22, s23, s24) => ((devec_Same (n22, s23, s24) (n8, s9, s10)).bind fun b26 => (if b26 = true then ((devec_Count (n8, s9, s10)).bind fun n28 => (if n28 = ((s5.l.length : Nat) : Int) then some true else some false)) else some false))) else some false))) else some false)) else some false))))
theorem law10_DevecBack_r (m : Nat) {n1 : Int} {s2 : Sl (Int × Int)} {out : Bool} (h : law10_DevecBack n1 s2 = some out) : RunsP E1 (m + 8) 5 [.one (iT .u8 n1), .one (Sl.t r38 s2)] (.fresh, [.one (bT out)]) := by
 refine fn_F rfl (by rw [E1_fn]; exact show fiOf Tryd.prog 5 = _ by unfold fiOf; rw [Tryd.func5]; unfold Tryd.f5; rfl) rfl ?_
 dsimp only
 unfold law10_DevecBack at h
 refine lS (lO ?_)
 refine pq (qa bf) ?_
 refine oN ?_
 refine pq (qm (.one (iC .u8 n1))) ?_
 refine pq (qm (.one (sF r38 s2))) ?_
 obtain ⟨⟨n4, s5⟩, h3, h⟩ := bindS h
 refine pq (qc (.agg [iI n4, sC r38 s5]) [.one (iC .u8 n1), .one (sF r38 s2)] (law09_Some_r (m + 2) h3) (vw_cons (vd_one vc_v) (vw_cons (vd_one vc_s) vw_nil))) ?_
 refine ol_new rfl rfl rfl (q_alloc ty28 (row := [iI 0, nC]) rfl rfl) (fun k6 => ?_)
 refine ow [[iI n4, sC r38 s5]] 0 sz28 ?_
 refine oN ?_
 refine pq (ql (.agg [iI n4, sC r38 s5]) 0 sz28) ?_
 obtain ⟨⟨n8, s9, s10⟩, h7, h⟩ := bindS h
 refine pq (qc (.agg [iI n8, sC r85 s9, sC r2 s10]) [.agg [iI n4, sC r38 s5]] (devec_Of_r (m + 2) h7) (vw_cons (vd_agg (vc_cons vc_v (vc_cons vc_s vc_nil))) vw_nil)) ?_
 refine ol_new rfl rfl rfl (q_alloc ty25 (row := [iI 0, nC, nC]) rfl rfl) (fun k11 => ?_)
 refine ow [[iI n8, sC r85 s9, sC r2 s10]] 0 sz25 ?_
 refine oE (eS (lS ?_))
 refine L_still (by kernel_rfl) ?_
 obtain ⟨b13, h12, h⟩ := bindS h
 refine sq (qc (bO b13) [] (FL_r (m + 6) h12) vw_nil) ?_
 refine sq (qm (bO b13)) ?_
 rcases b13 with _ | _
 replace h := wF h
 iterate 2 refine ss ?_
 refine sq (qpf bf) ?_
 refine sq (qm bf) ?_
 iterate 4 refine ss ?_
 refine sq (qpf bf) ?_
 refine sq (qm bf) ?_
 iterate 5 refine ss ?_
 refine sq (qpf bf) ?_
 refine sq (qm bf) ?_
 iterate 6 refine ss ?_
 refine sq (qpf bf) ?_
 refine sq (qa bf) ?_
 refine st_end (eS (lR ?_))
 obtain rfl := sj h
 exact eF1
 replace h := wT h
 refine sq (ql (.agg [iI n8, sC r85 s9, sC r2 s10]) 0 sz25) ?_
 obtain ⟨b15, h14, h⟩ := bindS h
 refine sq (qc (bO b15) [.agg [iI n8, sC r85 s9, sC r2 s10]] (devec_Right_r (m + 2) h14) (vw_cons (vd_agg (vc_cons vc_v (vc_cons vc_s (vc_cons vc_s vc_nil)))) vw_nil)) ?_
 refine sq (qpt (bO b15)) ?_
 refine sq (qm (bO b15)) ?_
 rcases b15 with _ | _
 replace h := wF h
 iterate 4 refine ss ?_
 refine sq (qpf bf) ?_
 refine sq (qm bf) ?_
 iterate 5 refine ss ?_
 refine sq (qpf bf) ?_
 refine sq (qm bf) ?_
 iterate 6 refine ss ?_
 refine sq (qpf bf) ?_
 refine sq (qa bf) ?_
 refine st_end (eS (lR ?_))
 obtain rfl := sj h
 exact eF1
 replace h := wT h
 refine sq (ql (.agg [iI n8, sC r85 s9, sC r2 s10]) 0 sz25) ?_
 obtain ⟨⟨n17, s18⟩, h16, h⟩ := bindS h
 refine sq (qc (.agg [iI n17, sC r38 s18]) [.agg [iI n8, sC r85 s9, sC r2 s10]] (devec_Back_r (m + 0) h16) (vw_cons (vd_agg (vc_cons vc_v (vc_cons vc_s (vc_cons vc_s vc_nil)))) vw_nil)) ?_
 refine sq (ql (.agg [iI n4, sC r38 s5]) 1 sz28) ?_
 obtain ⟨b20, h19, h⟩ := bindS h
 refine sq (qc (bO b20) [.agg [iI n17, sC r38 s18], .agg [iI n4, sC r38 s5]] (ref09_Same_r (m + 5) h19) (vw_cons (vd_agg (vc_cons vc_v (vc_cons vc_s vc_nil))) (vw_cons (vd_agg (vc_cons vc_v (vc_cons vc_s vc_nil))) vw_nil))) ?_
 refine sq (qpt (bO b20)) ?_
 refine sq (qm (bO b20)) ?_
 rcases b20 with _ | _
 replace h := wF h
 iterate 5 refine ss ?_
 refine sq (qpf bf) ?_
 refine sq (qm bf) ?_
 iterate 6 refine ss ?_
 refine sq (qpf bf) ?_
 refine sq (qa bf) ?_
 refine st_end (eS (lR ?_))
 obtain rfl := sj h
 exact eF1
 replace h := wT h
 refine sq (ql (.agg [iI n8, sC r85 s9, sC r2 s10]) 0 sz25) ?_
 refine sq (qc (.agg [iI n17, sC r38 s18]) [.agg [iI n8, sC r85 s9, sC r2 s10]] (devec_Back_r (m + 0) h16) (vw_cons (vd_agg (vc_cons vc_v (vc_cons vc_s (vc_cons vc_s vc_nil)))) vw_nil)) ?_
 obtain ⟨⟨n22, s23, s24⟩, h21, h⟩ := bindS h
 refine sq (qc (.agg [iI n22, sC r85 s23, sC r2 s24]) [.agg [iI n17, sC r38 s18]] (devec_Of_r (m + 2) h21) (vw_cons (vd_agg (vc_cons vc_v (vc_cons vc_s vc_nil))) vw_nil)) ?_
 refine sq (ql (.agg [iI n8, sC r85 s9, sC r2 s10]) 0 sz25) ?_
 obtain ⟨b26, h25, h⟩ := bindS h
 refine sq (qc (bO b26) [.agg [iI n22, sC r85 s23, sC r2 s24], .agg [iI n8, sC r85 s9, sC r2 s10]] (devec_Same_r (m + 0) h25) (vw_cons (vd_agg (vc_cons vc_v (vc_cons vc_s (vc_cons vc_s vc_nil)))) (vw_cons (vd_agg (vc_cons vc_v (vc_cons vc_s (vc_cons vc_s vc_nil)))) vw_nil))) ?_
 refine sq (qpt (bO b26)) ?_
 refine sq (qm (bO b26)) ?_
 rcases b26 with _ | _
 replace h := wF h
 iterate 6 refine ss ?_
 refine sq (qpf bf) ?_
 refine sq (qa bf) ?_
 refine st_end (eS (lR ?_))
 obtain rfl := sj h
 exact eF1
 replace h := wT h
 refine sq (ql (.agg [iI n8, sC r85 s9, sC r2 s10]) 0 sz25) ?_
 obtain ⟨n28, h27, h⟩ := bindS h
 refine sq (qc (iO n28) [.agg [iI n8, sC r85 s9, sC r2 s10]] (devec_Count_r (m + 0) h27) (vw_cons (vd_agg (vc_cons vc_v (vc_cons vc_s (vc_cons vc_s vc_nil)))) vw_nil)) ?_
 refine sq (q_fieldP rfl fa28_1 rfl) ?_
 refine sq (ql (.one (sC r38 s5)) 1 sz26) ?_
 refine sq (q_lenS rfl ty26 rfl rfl rfl rfl) ?_
 by_cases c29 : n28 = ((s5.l.length : Nat) : Int)
 replace h := ifT c29 h
 refine sq (qb (p_eql_tZ c29)) ?_
 refine sq (qpt bt) ?_
 refine sq (qa bt) ?_
 refine st_end (eS (lR ?_))
 obtain rfl := sj h
 exact eF1
 replace h := ifF c29 h
 refine sq (qb (p_eql_fZ c29)) ?_
 refine sq (qpt bf) ?_
 refine sq (qa bf) ?_
 refine st_end (eS (lR ?_))
 obtain rfl := sj h
 exact eF1
end Ev
end Go.Proofs.YtjomjfjbpcafhaaDoor
