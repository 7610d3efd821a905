/- Functions of the program as functions on data, and that they are. -/
import Derived.Test.YtjomjfjbpcafhaaDoorEvZ
import Derived.Test.YtjomjfjbpcafhaaDoorLy1
namespace Go.Proofs.YtjomjfjbpcafhaaDoor
namespace Ev
open Go
set_option linter.unusedVariables false
set_option linter.unusedSimpArgs false
set_option maxRecDepth 100000
set_option maxHeartbeats 1000000
attribute [local irreducible] OpsL StL TnL WpL EndL
noncomputable def law09_Few (a0 : Int × (Sl (Int × Int))) : Option ((Int × (Sl (Int × Int)))) :=
 match a0 with
 | (n1, s2) => (if ((s2.l.length : Nat) : Int) > 60 then ((cutS 2 s2 0 60).bind fun s6 => some (n1, s6)) else some (n1, s2))
theorem law09_Few_r (m : Nat) {a0 : Int × (Sl (Int × Int))} {out : (Int × (Sl (Int × Int)))} (h : law09_Few a0 = some out) : RunsX E1 (m + 1) 9 [.agg (r27 a0)] [.agg (r27 out)] := by
 obtain ⟨n1, s2⟩ := a0
 refine fn_X rfl (by rw [E1_fn]; exact show fiOf Tryd.prog 9 = _ by unfold fiOf; rw [Tryd.func9]; unfold Tryd.f9; rfl) rfl ?_
 dsimp only
 unfold law09_Few at h
 refine lS (lO ?_)
 refine ol_new rfl rfl rfl (q_box ty28 rfl (cs := [iI n1, sF r38 s2]) rfl rfl) (fun k3 => ?_)
 refine ol_new rfl rfl rfl (q_alloc ty28 (row := [iI 0, nC]) rfl rfl) (fun k4 => ?_)
 refine oE (eS (lS (lS (lO ?_))))
 refine pq (q_fieldP rfl fa28_1 rfl) ?_
 refine pq (ql (.one (sF r38 s2)) 1 sz26) ?_
 refine pq (q_lenS rfl ty26 rfl rfl rfl rfl) ?_
 by_cases c5 : ((s2.l.length : Nat) : Int) > 60
 replace h := ifT c5 h
 refine pq (qb (p_gtr_tZ c5)) ?_
 refine oE (eS (cT rfl (lO ?_)))
 refine pq (q_fieldP rfl fa28_1 rfl) ?_
 refine pq (ql (.one (sF r38 s2)) 1 sz26) ?_
 obtain ⟨s6, h7, h⟩ := bindS h
 refine pq (q_sliceS (r := r38) h7 rfl ty26 rfl ty39 no_zero (no_some rfl (Int.le_trans (cutS_some h7).1.1 (cutS_some h7).1.2.1) _)) ?_
 refine pq (q_fieldP rfl fa28_1 rfl) ?_
 refine ow [[iI n1, sF r38 s6]] 1 sz26 ?_
 refine oN ?_
 refine pq (ql (.agg [iI n1, sF r38 s6]) 1 sz28) ?_
 refine ow [[iI n1, sF r38 s6]] 0 sz28 ?_
 refine oE (eS (lR ?_))
 obtain rfl := sj h
 exact E_endX (.inr rfl) (res_cell (d := .agg [iI n1, sF r38 s6]) 0 rfl sz28 rfl rfl rfl rfl res_nil) (vw_cons (vd_agg (vc_cons vc_v (vc_cons vc_s vc_nil))) vw_nil) oG rfl
 replace h := ifF c5 h
 refine pq (qb (p_gtr_fZ c5)) ?_
 refine oE (eS (cF rfl (lK (eS (lS (lO ?_))))))
 refine pq (ql (.agg [iI n1, sF r38 s2]) 1 sz28) ?_
 refine ow [[iI n1, sF r38 s2]] 0 sz28 ?_
 refine oE (eS (lR ?_))
 obtain rfl := sj h
 exact E_endX (.inr rfl) (res_cell (d := .agg [iI n1, sF r38 s2]) 0 rfl sz28 rfl rfl rfl rfl res_nil) (vw_cons (vd_agg (vc_cons vc_v (vc_cons vc_s vc_nil))) vw_nil) oG rfl
end Ev
end Go.Proofs.YtjomjfjbpcafhaaDoor
