/- Functions of the program as functions on data, and that they are. -/
import Derived.Test.YtlcfdmjkbaegpaaDoorEvZ
import Derived.Test.YtlcfdmjkbaegpaaDoorLf1
import Derived.Test.YtlcfdmjkbaegpaaDoorLf3
import Derived.Test.YtlcfdmjkbaegpaaDoorLf5
import Derived.Test.YtlcfdmjkbaegpaaDoorLf6
import Derived.Test.YtlcfdmjkbaegpaaDoorLf7
import Derived.Test.YtlcfdmjkbaegpaaDoorLy1
namespace Go.Proofs.YtlcfdmjkbaegpaaDoor
namespace Ev
open Go
set_option linter.unusedVariables false
set_option linter.unusedSimpArgs false
set_option maxRecDepth 100000
set_option maxHeartbeats 1000000
attribute [local irreducible] OpsL StL TnL WpL EndL
noncomputable def law13_Task_Rows (a0 : Int × (Int × Int) × (Sl (Int × Int × Int)) × (Sl (Int × Int)) × (Sl (Int × Int)) × Sl (Int) × Bool) : Option (Sl (Int)) :=
 match a0 with
 | (n1, (n2, n3), s4, s5, s6, s7, b8) => (if ((s7.l.length : Nat) : Int) > 2 then ((cutS 1 s7 0 2).bind fun s11 => some s11) else some s7)
theorem law13_Task_Rows_r (m : Nat) {a0 : Int × (Int × Int) × (Sl (Int × Int × Int)) × (Sl (Int × Int)) × (Sl (Int × Int)) × Sl (Int) × Bool} {out : Sl (Int)} (h : law13_Task_Rows a0 = some out) : RunsX E1 (m + 1) 11 [.agg (r27 a0)] [.one (Sl.t r60 out)] := by
 obtain ⟨n1, ⟨n2, n3⟩, s4, s5, s6, s7, b8⟩ := a0
 refine fn_X rfl (by rw [E1_fn]; exact show fiOf Tryd.prog 11 = _ by unfold fiOf; rw [Tryd.func11]; unfold Tryd.f11; rfl) rfl ?_
 dsimp only
 unfold law13_Task_Rows at h
 refine lS (lO ?_)
 refine ol_new rfl rfl rfl (q_box ty28 rfl (cs := [iI n1, iC .u8 n2, iC .u8 n3, sF r92 s4, sF r70 s5, sF r70 s6, sF r60 s7, bC b8]) rfl rfl) (fun k9 => ?_)
 refine pq (qa (.one nC)) ?_
 refine oE (eS (lS (lS (lO ?_))))
 refine pq (q_fieldP rfl fa28_5 rfl) ?_
 refine pq (ql (.one (sF r60 s7)) 0 sz26) ?_
 refine pq (q_lenS rfl ty26 rfl rfl rfl rfl) ?_
 by_cases c10 : ((s7.l.length : Nat) : Int) > 2
 replace h := ifT c10 h
 refine pq (qb (p_gtr_tZ c10)) ?_
 refine oE (eS (cT rfl (lS (lO ?_))))
 refine pq (q_fieldP rfl fa28_5 rfl) ?_
 refine pq (ql (.one (sF r60 s7)) 0 sz26) ?_
 obtain ⟨s11, h12, h⟩ := bindS h
 refine pq (q_sliceS (r := r60) h12 rfl ty26 rfl ty60 no_zero (no_some rfl (Int.le_trans (cutS_some h12).1.1 (cutS_some h12).1.2.1) _)) ?_
 refine pq (qa (.one (sF r60 s11))) ?_
 refine oE (eS (lR (eR ?_)))
 obtain rfl := sj h
 exact E_endX (.inr rfl) (res_tmp rfl res_nil) (vw_cons (vd_one vc_s) vw_nil) oP rfl
 replace h := ifF c10 h
 refine pq (qb (p_gtr_fZ c10)) ?_
 refine oE (eS (cF rfl (lK (eS (lS (lO ?_))))))
 refine pq (q_fieldP rfl fa28_5 rfl) ?_
 refine pq (ql (.one (sF r60 s7)) 0 sz26) ?_
 refine pq (qa (.one (sF r60 s7))) ?_
 refine oE (eS (lR ?_))
 obtain rfl := sj h
 exact E_endX (.inr rfl) (res_tmp rfl res_nil) (vw_cons (vd_one vc_s) vw_nil) oP rfl
end Ev
end Go.Proofs.YtlcfdmjkbaegpaaDoor
