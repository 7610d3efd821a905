/- Functions of the program as functions on data, and that they are. -/
import Derived.Test.YtlcfdmjkbaegpaaDoorEvZ
import Derived.Test.YtlcfdmjkbaegpaaDoorLf2
import Derived.Test.YtlcfdmjkbaegpaaDoorLf4
import Derived.Test.YtlcfdmjkbaegpaaDoorLf5
import Derived.Test.YtlcfdmjkbaegpaaDoorLf7
import Derived.Test.YtlcfdmjkbaegpaaDoorLf8
import Derived.Test.YtlcfdmjkbaegpaaDoorLy1
namespace Go.Proofs.YtlcfdmjkbaegpaaDoor
namespace Ev
open Go
set_option linter.unusedVariables false
set_option linter.unusedSimpArgs false
set_option maxRecDepth 100000
set_option maxHeartbeats 1000000
attribute [local irreducible] OpsL StL TnL WpL EndL
noncomputable def law13_PullTells (a0 : Int × (Int × Int) × (Sl (Int × Int × Int)) × (Sl (Int × Int)) × (Sl (Int × Int)) × Sl (Int) × Bool) (n9 : Int) (s10 : Sl (Int × (Int × Int))) : Option (Bool) :=
 match a0 with
 | (n1, (n2, n3), s4, s5, s6, s7, b8) => (if ((s10.l.length : Nat) : Int) > 60 then ((cutS 3 s10 0 60).bind fun s13 => ((law13_Task_Matrix (n1, (n2, n3), s4, s5, s6, s7, b8)).bind fun (n33, n34, s35, s36, s37) => ((law13_Task_Vector (n1, (n2, n3), s4, s5, s6, s7, b8) s5).bind fun (n39, s40) => ((ref10_Of (n39, s40)).bind fun (n42, s43, s44) => ((law13_Task_Rows (n1, (n2, n3), s4, s5, s6, s7, b8)).bind fun s46 => ((pull_Sums n1 (n33, n34, s35, s36, s37) (n42, s43, s44) s46 b8).bind fun (s49, n50) => ((ref13_Sums n1 (n33, n34, s35, s36, s37) (n42, s43, s44) s46 b8).bind fun (s52, n53) => ((pull_Times n1 (n33, n34, s35, s36, s37) (n42, s43, s44) s46 b8).bind fun ((n55, s56), n57) => ((ref13_Times n1 (n33, n34, s35, s36, s37) (n42, s43, s44) s46 b8).bind fun ((n60, s61), n62) => ((pull_Done n1 n9 s13).bind fun ((n65, s66), n67) => ((ref13_Done n1 n9 s13).bind fun ((n70, s71), n72) => ((FL).bind fun b75 => (if b75 = true then ((ref13_SameSums s49 s52).bind fun b77 => (if b77 = true then (if n50 = n53 then ((ref09_Same (n55, s56) (n60, s61)).bind fun b80 => (if b80 = true then (if n57 = n62 then ((ref09_Same (n65, s66) (n70, s71)).bind fun b83 => (if b83 = true then (if n67 = n72 then some true else some false) else some false)) else some false) else some false)) else some false) else some false)) else some false))))))))))))) else ((law13_Task_Matrix (n1, (n2, n3), s4, s5, s6, s7, b8)).bind fun (n103, n104, s105, s106, s107) => ((law13_Task_Vector (n1, (n2, n3), s4, s5, s6, s7, b8) s5).bind fun (n109, s110) => ((ref10_Of (n109, s110)).bind fun (n112, s113, s114) => ((law13_Task_Rows (n1, (n2, n3), s4, s5, s6, s7, b8)).bind fun s116 => ((pull_Sums n1 (n103, n104, s105, s106, s107) (n112, s113, s114) s116 b8).bind fun (s119, n120) => ((ref13_Sums n1 (n103, n104, s105, s106, s107) (n112, s113, s114) s116 b8).bind fun (s122, n123) => ((pull_Times n1 (n103, n104, s105, s106, s107) (n112, s113, s114) s116 b8).bind fun ((n125, s126), n127) => ((ref13_Times n1 (n103, n104, s105, s106, s107) (n112, s113, s114) s116 b8).bind fun ((n130, s131), n132) => ((pull_Done n1 n9 s10).bind fun ((n135, s136), n137) => ((ref13_Done n1 n9 s10).bind fun ((n140, s141), n142) => ((FL).bind fun b145 => (if b145 = true then ((ref13_SameSums s119 s122).bind fun b147 => (if b147 = true then (if n120 = n123 then ((ref09_Same (n125, s126) (n130, s131)).bind fun b150 => (if b150 = true then (if n127 = n132 then ((ref09_Same (n135, s136) (n140, s141)).bind fun b153 => (if b153 = true then (if n137 = n142 then some true else some false) else some false)) else some false) else some false)) else some false) else some false)) else some false)))))))))))))
theorem law13_PullTells_r (m : Nat) {a0 : Int × (Int × Int) × (Sl (Int × Int × Int)) × (Sl (Int × Int)) × (Sl (Int × Int)) × Sl (Int) × Bool} {n9 : Int} {s10 : Sl (Int × (Int × Int))} {out : Bool} (h : law13_PullTells a0 n9 s10 = some out) : RunsP E1 (m + 8) 3 [.agg (r27 a0), .one (iT .i64 n9), .one (Sl.t r63 s10)] (.fresh, [.one (bT out)]) := by
 obtain ⟨n1, ⟨n2, n3⟩, s4, s5, s6, s7, b8⟩ := a0
 refine fn_F rfl (by rw [E1_fn]; exact show fiOf Tryd.prog 3 = _ by unfold fiOf; rw [Tryd.func3]; unfold Tryd.f3; rfl) rfl ?_
 dsimp only
 unfold law13_PullTells at h
 refine lS (lO ?_)
 refine ol_new rfl rfl rfl (q_box ty28 rfl (cs := [iI n1, iC .u8 n2, iC .u8 n3, sF r92 s4, sF r70 s5, sF r70 s6, sF r60 s7, bC b8]) rfl rfl) (fun k11 => ?_)
 refine pq (qa bf) ?_
 refine oE (eS (lS (lS (lO ?_))))
 refine pq (qm (.one (sF r63 s10))) ?_
 refine pq (q_lenS rfl ty29 rfl rfl rfl rfl) ?_
 by_cases c12 : ((s10.l.length : Nat) : Int) > 60
 replace h := ifT c12 h
 refine pq (qb (p_gtr_tZ c12)) ?_
 refine oE (eS (cT rfl (lO ?_)))
 refine pq (qm (.one (sF r63 s10))) ?_
 obtain ⟨s13, h14, h⟩ := bindS h
 refine pq (q_sliceS (r := r63) h14 rfl ty29 rfl ty64 no_zero (no_some rfl (Int.le_trans (cutS_some h14).1.1 (cutS_some h14).1.2.1) _)) ?_
 refine pq (qa (.one (sF r63 s13))) ?_
 refine oE (eS (lS ?_))
 refine L_norm (L2 := ([[(k11, 8, [[iI n1, iC .u8 n2, iC .u8 n3, sF r92 s4, sF r70 s5, sF r70 s6, sF r60 s7, bC b8]])]] : BL)) [0] (by decide) rfl ?_
 refine L_turn 14 rfl [[], [], [], [], [], [], [], [], [], [], [], [], [], []] [(false, []), (false, []), (false, []), (false, []), (false, []), (false, []), (false, []), (false, []), (false, []), (true, []), (true, []), (false, [9]), (false, [10]), (false, [])] [[2, 3, 4, 7, 9, 10], [2, 3, 4, 7, 9, 10], [0, 1, 3, 4, 7, 9, 10], [0, 1, 2, 7, 9, 10], [0, 1, 2, 7, 9, 10], [7, 9, 10], [7, 9, 10], [0, 1, 2, 3, 4, 5, 6, 9, 10], [9, 10], [0, 1, 2, 3, 4, 5, 6, 7, 8, 10], [0, 1, 2, 3, 4, 5, 6, 7, 8, 9], [], [], []] (by kernel_rfl) (by kernel_rfl) (by kernel_rfl) ?_ (fun bb15 hlt hnd => ?_)
 intro bb15 hlt hnd
 exact ⟨⟨djE, ⟨djE, ⟨djE, ⟨djE, ⟨djE, ⟨djE, ⟨djE, ⟨djE, ⟨djE, ⟨djE, ⟨djE, ⟨djE, ⟨djE, ⟨djE, trivial⟩⟩⟩⟩⟩⟩⟩⟩⟩⟩⟩⟩⟩⟩, (ltO_cons ltK_nil (ltO_cons ltK_nil (ltO_cons ltK_nil (ltO_cons ltK_nil (ltO_cons ltK_nil (ltO_cons ltK_nil (ltO_cons ltK_nil (ltO_cons ltK_nil (ltO_cons ltK_nil (ltO_cons ltK_nil (ltO_cons ltK_nil (ltO_cons ltK_nil (ltO_cons ltK_nil (ltO_cons ltK_nil ltO_nil))))))))))))))⟩
 refine tq [0] rfl (hmc (nin_cons (ne_new (key_lt hlt 0 rfl)) (nin_cons (ne_new (key_lt hlt 0 rfl)) nin_nil)) hmn) (ql (.agg [iI n1, iC .u8 n2, iC .u8 n3, sF r92 s4, sF r70 s5, sF r70 s6, sF r60 s7, bC b8]) 0 sz28) ?_
 obtain ⟨⟨n33, n34, s35, s36, s37⟩, h32, h⟩ := bindS h
 refine tq [] rfl hmn (qc (.agg [iI n33, iI n34, sC r3 s35, sC r3 s36, sC r2 s37]) [.agg [iI n1, iC .u8 n2, iC .u8 n3, sF r92 s4, sF r70 s5, sF r70 s6, sF r60 s7, bC b8]] (law13_Task_Matrix_r (m + 1) h32) (vw_cons (vd_agg (vc_cons vc_v (vc_cons vc_v (vc_cons vc_v (vc_cons vc_s (vc_cons vc_s (vc_cons vc_s (vc_cons vc_s (vc_cons vc_v vc_nil))))))))) vw_nil)) ?_
 refine tq [0] rfl (hmc (nin_cons (ne_new (key_lt hlt 0 rfl)) (nin_cons (ne_new (key_lt hlt 0 rfl)) nin_nil)) hmn) (ql (.agg [iI n1, iC .u8 n2, iC .u8 n3, sF r92 s4, sF r70 s5, sF r70 s6, sF r60 s7, bC b8]) 0 sz28) ?_
 refine tq [] rfl hmn (q_fieldP rfl fa28_3 rfl) ?_
 refine tq [0] rfl (hmc (nin_cons (ne_new (key_lt hlt 0 rfl)) (nin_cons (ne_new (key_lt hlt 0 rfl)) nin_nil)) hmn) (ql (.one (sF r70 s5)) 0 sz25) ?_
 obtain ⟨⟨n39, s40⟩, h38, h⟩ := bindS h
 refine tq [] rfl hmn (qc (.agg [iI n39, sC r70 s40]) [.agg [iI n1, iC .u8 n2, iC .u8 n3, sF r92 s4, sF r70 s5, sF r70 s6, sF r60 s7, bC b8], .one (sF r70 s5)] (law13_Task_Vector_r (m + 1) h38) (vw_cons (vd_agg (vc_cons vc_v (vc_cons vc_v (vc_cons vc_v (vc_cons vc_s (vc_cons vc_s (vc_cons vc_s (vc_cons vc_s (vc_cons vc_v vc_nil))))))))) (vw_cons (vd_one vc_s) vw_nil))) ?_
 obtain ⟨⟨n42, s43, s44⟩, h41, h⟩ := bindS h
 refine tq [] rfl hmn (qc (.agg [iI n42, sC r60 s43, sC r2 s44]) [.agg [iI n39, sC r70 s40]] (ref10_Of_r (m + 3) h41) (vw_cons (vd_agg (vc_cons vc_v (vc_cons vc_s vc_nil))) vw_nil)) ?_
 refine tq [0] rfl (hmc (nin_cons (ne_new (key_lt hlt 0 rfl)) (nin_cons (ne_new (key_lt hlt 0 rfl)) nin_nil)) hmn) (ql (.agg [iI n1, iC .u8 n2, iC .u8 n3, sF r92 s4, sF r70 s5, sF r70 s6, sF r60 s7, bC b8]) 0 sz28) ?_
 obtain ⟨s46, h45, h⟩ := bindS h
 refine tn_putX rfl rfl rfl [] (by decide) rfl hmn rfl (q_callX (v := fun fr47 => .one (.p fr47 (Sl.t r60 s46))) (args := [.agg [iI n1, iC .u8 n2, iC .u8 n3, sF r92 s4, sF r70 s5, sF r70 s6, sF r60 s7, bC b8]]) (law13_Task_Rows_r (m + 6) h45) rfl rfl (vw_cons (vd_agg (vc_cons vc_v (vc_cons vc_v (vc_cons vc_v (vc_cons vc_s (vc_cons vc_s (vc_cons vc_s (vc_cons vc_s (vc_cons vc_v vc_nil))))))))) vw_nil) rfl rfl (fun fr => rfl)) (fun fr47 => ?_)
 refine tn_new rfl rfl rfl [] (by decide) rfl hmn rfl rfl (hkc (ne_new (key_lt hlt 0 rfl)) hkn) (q_alloc ty33 (row := [iI 0, iI 0, nC, nC, nC]) rfl rfl) ?_
 refine tn_new rfl rfl rfl [] (by decide) rfl hmn rfl rfl (hkc (ne_add rfl) (hkc (ne_new (key_lt hlt 0 rfl)) hkn)) (q_alloc ty36 (row := [iI 0, nC, nC]) rfl rfl) ?_
 refine tn_wr rfl rfl [1] (by decide) rfl (hm0 rfl) rfl (q_store (es' := [[iI n33, iI n34, sC r3 s35, sC r3 s36, sC r2 s37]]) 0 rfl rfl rfl sz33 rfl rfl rfl rfl rfl) (q := 1) rfl rfl ?_
 refine tn_wr rfl rfl [0] (by decide) rfl (hm0 rfl) rfl (q_store (es' := [[iI n42, sC r60 s43, sC r2 s44]]) 0 rfl rfl rfl sz36 rfl rfl rfl rfl rfl) (q := 0) rfl rfl ?_
 refine tq [] rfl (hm0 rfl) (qa (.one (.p fr47 (Sl.t r60 s46)))) ?_
 refine tn_end (eS (lS (lO ?_)))
 refine pq (q_fieldP rfl fa28_0 rfl) ?_
 refine pq (ql (iO n1) 2 sz22) ?_
 refine pq (ql (.agg [iI n33, iI n34, sC r3 s35, sC r3 s36, sC r2 s37]) 1 sz33) ?_
 refine pq (ql (.agg [iI n42, sC r60 s43, sC r2 s44]) 0 sz36) ?_
 refine pq (qm (.one (.p fr47 (Sl.t r60 s46)))) ?_
 refine pq (q_fieldP rfl fa28_6 rfl) ?_
 refine pq (ql (bO b8) 2 sz4) ?_
 obtain ⟨⟨s49, n50⟩, h48, h⟩ := bindS h
 refine pq (qc (.tup [.one (sC r63 s49), iO n50]) [iO n1, .agg [iI n33, iI n34, sC r3 s35, sC r3 s36, sC r2 s37], .agg [iI n42, sC r60 s43, sC r2 s44], .one (.p fr47 (Sl.t r60 s46)), bO b8] (pull_Sums_r (m + 1) h48) (vw_cons (vd_one vc_v) (vw_cons (vd_agg (vc_cons vc_v (vc_cons vc_v (vc_cons vc_s (vc_cons vc_s (vc_cons vc_s vc_nil)))))) (vw_cons (vd_agg (vc_cons vc_v (vc_cons vc_s (vc_cons vc_s vc_nil)))) (vw_cons (vd_one vc_s) (vw_cons (vd_one vc_v) vw_nil)))))) ?_
 refine pq (qm (.tup [.one (sC r63 s49), iO n50])) ?_
 refine pq (q_ext (v := .one (sC r63 s49)) rfl rfl) ?_
 refine pq (q_ext (v := iO n50) rfl rfl) ?_
 refine pq (qa (.one (sC r63 s49))) ?_
 refine pq (qa (iO n50)) ?_
 refine oN ?_
 refine pq (q_fieldP rfl fa28_0 rfl) ?_
 refine pq (ql (iO n1) 2 sz22) ?_
 refine pq (ql (.agg [iI n33, iI n34, sC r3 s35, sC r3 s36, sC r2 s37]) 1 sz33) ?_
 refine pq (ql (.agg [iI n42, sC r60 s43, sC r2 s44]) 0 sz36) ?_
 refine pq (qm (.one (.p fr47 (Sl.t r60 s46)))) ?_
 refine pq (q_fieldP rfl fa28_6 rfl) ?_
 refine pq (ql (bO b8) 2 sz4) ?_
 obtain ⟨⟨s52, n53⟩, h51, h⟩ := bindS h
 refine pq (qc (.tup [.one (sC r63 s52), iO n53]) [iO n1, .agg [iI n33, iI n34, sC r3 s35, sC r3 s36, sC r2 s37], .agg [iI n42, sC r60 s43, sC r2 s44], .one (.p fr47 (Sl.t r60 s46)), bO b8] (ref13_Sums_r (m + 1) h51) (vw_cons (vd_one vc_v) (vw_cons (vd_agg (vc_cons vc_v (vc_cons vc_v (vc_cons vc_s (vc_cons vc_s (vc_cons vc_s vc_nil)))))) (vw_cons (vd_agg (vc_cons vc_v (vc_cons vc_s (vc_cons vc_s vc_nil)))) (vw_cons (vd_one vc_s) (vw_cons (vd_one vc_v) vw_nil)))))) ?_
 refine pq (qm (.tup [.one (sC r63 s52), iO n53])) ?_
 refine pq (q_ext (v := .one (sC r63 s52)) rfl rfl) ?_
 refine pq (q_ext (v := iO n53) rfl rfl) ?_
 refine pq (qa (.one (sC r63 s52))) ?_
 refine pq (qa (iO n53)) ?_
 refine oN ?_
 refine pq (q_fieldP rfl fa28_0 rfl) ?_
 refine pq (ql (iO n1) 2 sz22) ?_
 refine pq (ql (.agg [iI n33, iI n34, sC r3 s35, sC r3 s36, sC r2 s37]) 1 sz33) ?_
 refine pq (ql (.agg [iI n42, sC r60 s43, sC r2 s44]) 0 sz36) ?_
 refine pq (qm (.one (.p fr47 (Sl.t r60 s46)))) ?_
 refine pq (q_fieldP rfl fa28_6 rfl) ?_
 refine pq (ql (bO b8) 2 sz4) ?_
 obtain ⟨⟨⟨n55, s56⟩, n57⟩, h54, h⟩ := bindS h
 refine pq (qc (.tup [.agg [iI n55, sC r70 s56], iO n57]) [iO n1, .agg [iI n33, iI n34, sC r3 s35, sC r3 s36, sC r2 s37], .agg [iI n42, sC r60 s43, sC r2 s44], .one (.p fr47 (Sl.t r60 s46)), bO b8] (pull_Times_r (m + 0) h54) (vw_cons (vd_one vc_v) (vw_cons (vd_agg (vc_cons vc_v (vc_cons vc_v (vc_cons vc_s (vc_cons vc_s (vc_cons vc_s vc_nil)))))) (vw_cons (vd_agg (vc_cons vc_v (vc_cons vc_s (vc_cons vc_s vc_nil)))) (vw_cons (vd_one vc_s) (vw_cons (vd_one vc_v) vw_nil)))))) ?_
 refine pq (qm (.tup [.agg [iI n55, sC r70 s56], iO n57])) ?_
 refine pq (q_ext (v := .agg [iI n55, sC r70 s56]) rfl rfl) ?_
 refine pq (q_ext (v := iO n57) rfl rfl) ?_
 refine ol_new rfl rfl rfl (q_alloc ty39 (row := [iI 0, nC]) rfl rfl) (fun k58 => ?_)
 refine ow [[iI n55, sC r70 s56]] 0 sz39 ?_
 refine pq (qa (iO n57)) ?_
 refine oN ?_
 refine pq (q_fieldP rfl fa28_0 rfl) ?_
 refine pq (ql (iO n1) 3 sz22) ?_
 refine pq (ql (.agg [iI n33, iI n34, sC r3 s35, sC r3 s36, sC r2 s37]) 2 sz33) ?_
 refine pq (ql (.agg [iI n42, sC r60 s43, sC r2 s44]) 1 sz36) ?_
 refine pq (qm (.one (.p fr47 (Sl.t r60 s46)))) ?_
 refine pq (q_fieldP rfl fa28_6 rfl) ?_
 refine pq (ql (bO b8) 3 sz4) ?_
 obtain ⟨⟨⟨n60, s61⟩, n62⟩, h59, h⟩ := bindS h
 refine pq (qc (.tup [.agg [iI n60, sC r70 s61], iO n62]) [iO n1, .agg [iI n33, iI n34, sC r3 s35, sC r3 s36, sC r2 s37], .agg [iI n42, sC r60 s43, sC r2 s44], .one (.p fr47 (Sl.t r60 s46)), bO b8] (ref13_Times_r (m + 0) h59) (vw_cons (vd_one vc_v) (vw_cons (vd_agg (vc_cons vc_v (vc_cons vc_v (vc_cons vc_s (vc_cons vc_s (vc_cons vc_s vc_nil)))))) (vw_cons (vd_agg (vc_cons vc_v (vc_cons vc_s (vc_cons vc_s vc_nil)))) (vw_cons (vd_one vc_s) (vw_cons (vd_one vc_v) vw_nil)))))) ?_
 refine pq (qm (.tup [.agg [iI n60, sC r70 s61], iO n62])) ?_
 refine pq (q_ext (v := .agg [iI n60, sC r70 s61]) rfl rfl) ?_
 refine pq (q_ext (v := iO n62) rfl rfl) ?_
 refine ol_new rfl rfl rfl (q_alloc ty39 (row := [iI 0, nC]) rfl rfl) (fun k63 => ?_)
 refine ow [[iI n60, sC r70 s61]] 0 sz39 ?_
 refine pq (qa (iO n62)) ?_
 refine oN ?_
 refine pq (q_fieldP rfl fa28_0 rfl) ?_
 refine pq (ql (iO n1) 4 sz22) ?_
 refine pq (qm (iO n9)) ?_
 refine pq (qm (.one (sF r63 s13))) ?_
 obtain ⟨⟨⟨n65, s66⟩, n67⟩, h64, h⟩ := bindS h
 refine pq (qc (.tup [.agg [iI n65, sC r70 s66], iO n67]) [iO n1, iO n9, .one (sF r63 s13)] (pull_Done_r (m + 3) h64) (vw_cons (vd_one vc_v) (vw_cons (vd_one vc_v) (vw_cons (vd_one vc_s) vw_nil)))) ?_
 refine pq (qm (.tup [.agg [iI n65, sC r70 s66], iO n67])) ?_
 refine pq (q_ext (v := .agg [iI n65, sC r70 s66]) rfl rfl) ?_
 refine pq (q_ext (v := iO n67) rfl rfl) ?_
 refine ol_new rfl rfl rfl (q_alloc ty39 (row := [iI 0, nC]) rfl rfl) (fun k68 => ?_)
 refine ow [[iI n65, sC r70 s66]] 0 sz39 ?_
 refine pq (qa (iO n67)) ?_
 refine oN ?_
 refine pq (q_fieldP rfl fa28_0 rfl) ?_
 refine pq (ql (iO n1) 5 sz22) ?_
 refine pq (qm (iO n9)) ?_
 refine pq (qm (.one (sF r63 s13))) ?_
 obtain ⟨⟨⟨n70, s71⟩, n72⟩, h69, h⟩ := bindS h
 refine pq (qc (.tup [.agg [iI n70, sC r70 s71], iO n72]) [iO n1, iO n9, .one (sF r63 s13)] (ref13_Done_r (m + 4) h69) (vw_cons (vd_one vc_v) (vw_cons (vd_one vc_v) (vw_cons (vd_one vc_s) vw_nil)))) ?_
 refine pq (qm (.tup [.agg [iI n70, sC r70 s71], iO n72])) ?_
 refine pq (q_ext (v := .agg [iI n70, sC r70 s71]) rfl rfl) ?_
 refine pq (q_ext (v := iO n72) rfl rfl) ?_
 refine ol_new rfl rfl rfl (q_alloc ty39 (row := [iI 0, nC]) rfl rfl) (fun k73 => ?_)
 refine ow [[iI n70, sC r70 s71]] 0 sz39 ?_
 refine pq (qa (iO n72)) ?_
 refine oN ?_
 obtain ⟨b75, h74, h⟩ := bindS h
 refine pq (qc (bO b75) [] (FL_r (m + 6) h74) vw_nil) ?_
 refine pq (qm (bO b75)) ?_
 rcases b75 with _ | _
 replace h := wF h
 iterate 3 refine os ?_
 refine pq (qpf bf) ?_
 refine pq (qm bf) ?_
 iterate 3 refine os ?_
 refine pq (qpf bf) ?_
 refine pq (qm bf) ?_
 iterate 3 refine os ?_
 refine pq (qpf bf) ?_
 refine pq (qm bf) ?_
 iterate 3 refine os ?_
 refine pq (qpf bf) ?_
 refine pq (qm bf) ?_
 iterate 3 refine os ?_
 refine pq (qpf bf) ?_
 refine pq (qm bf) ?_
 iterate 3 refine os ?_
 refine pq (qpf bf) ?_
 refine pq (qa bf) ?_
 refine oE (eS (lR ?_))
 obtain rfl := sj h
 exact eF1
 replace h := wT h
 refine pq (qm (.one (sC r63 s49))) ?_
 refine pq (qm (.one (sC r63 s52))) ?_
 obtain ⟨b77, h76, h⟩ := bindS h
 refine pq (qc (bO b77) [.one (sC r63 s49), .one (sC r63 s52)] (ref13_SameSums_r (m + 6) h76) (vw_cons (vd_one vc_s) (vw_cons (vd_one vc_s) vw_nil))) ?_
 refine pq (qpt (bO b77)) ?_
 refine pq (qm (bO b77)) ?_
 rcases b77 with _ | _
 replace h := wF h
 iterate 3 refine os ?_
 refine pq (qpf bf) ?_
 refine pq (qm bf) ?_
 iterate 3 refine os ?_
 refine pq (qpf bf) ?_
 refine pq (qm bf) ?_
 iterate 3 refine os ?_
 refine pq (qpf bf) ?_
 refine pq (qm bf) ?_
 iterate 3 refine os ?_
 refine pq (qpf bf) ?_
 refine pq (qm bf) ?_
 iterate 3 refine os ?_
 refine pq (qpf bf) ?_
 refine pq (qa bf) ?_
 refine oE (eS (lR ?_))
 obtain rfl := sj h
 exact eF1
 replace h := wT h
 refine pq (qm (iO n50)) ?_
 refine pq (qm (iO n53)) ?_
 by_cases c78 : n50 = n53
 replace h := ifT c78 h
 refine pq (qb (p_eql_tZ c78)) ?_
 refine pq (qpt bt) ?_
 refine pq (qm bt) ?_
 refine pq (ql (.agg [iI n55, sC r70 s56]) 3 sz39) ?_
 refine pq (ql (.agg [iI n60, sC r70 s61]) 2 sz39) ?_
 obtain ⟨b80, h79, h⟩ := bindS h
 refine pq (qc (bO b80) [.agg [iI n55, sC r70 s56], .agg [iI n60, sC r70 s61]] (ref09_Same_r (m + 5) h79) (vw_cons (vd_agg (vc_cons vc_v (vc_cons vc_s vc_nil))) (vw_cons (vd_agg (vc_cons vc_v (vc_cons vc_s vc_nil))) vw_nil))) ?_
 refine pq (qpt (bO b80)) ?_
 refine pq (qm (bO b80)) ?_
 rcases b80 with _ | _
 replace h := wF h
 iterate 3 refine os ?_
 refine pq (qpf bf) ?_
 refine pq (qm bf) ?_
 iterate 3 refine os ?_
 refine pq (qpf bf) ?_
 refine pq (qm bf) ?_
 iterate 3 refine os ?_
 refine pq (qpf bf) ?_
 refine pq (qa bf) ?_
 refine oE (eS (lR ?_))
 obtain rfl := sj h
 exact eF1
 replace h := wT h
 refine pq (qm (iO n57)) ?_
 refine pq (qm (iO n62)) ?_
 by_cases c81 : n57 = n62
 replace h := ifT c81 h
 refine pq (qb (p_eql_tZ c81)) ?_
 refine pq (qpt bt) ?_
 refine pq (qm bt) ?_
 refine pq (ql (.agg [iI n65, sC r70 s66]) 1 sz39) ?_
 refine pq (ql (.agg [iI n70, sC r70 s71]) 0 sz39) ?_
 obtain ⟨b83, h82, h⟩ := bindS h
 refine pq (qc (bO b83) [.agg [iI n65, sC r70 s66], .agg [iI n70, sC r70 s71]] (ref09_Same_r (m + 5) h82) (vw_cons (vd_agg (vc_cons vc_v (vc_cons vc_s vc_nil))) (vw_cons (vd_agg (vc_cons vc_v (vc_cons vc_s vc_nil))) vw_nil))) ?_
 refine pq (qpt (bO b83)) ?_
 refine pq (qm (bO b83)) ?_
 rcases b83 with _ | _
 replace h := wF h
 iterate 3 refine os ?_
 refine pq (qpf bf) ?_
 refine pq (qa bf) ?_
 refine oE (eS (lR ?_))
 obtain rfl := sj h
 exact eF1
 replace h := wT h
 refine pq (qm (iO n67)) ?_
 refine pq (qm (iO n72)) ?_
 by_cases c84 : n67 = n72
 replace h := ifT c84 h
 refine pq (qb (p_eql_tZ c84)) ?_
 refine pq (qpt bt) ?_
 refine pq (qa bt) ?_
 refine oE (eS (lR ?_))
 obtain rfl := sj h
 exact eF1
 replace h := ifF c84 h
 refine pq (qb (p_eql_fZ c84)) ?_
 refine pq (qpt bf) ?_
 refine pq (qa bf) ?_
 refine oE (eS (lR ?_))
 obtain rfl := sj h
 exact eF1
 replace h := ifF c81 h
 refine pq (qb (p_eql_fZ c81)) ?_
 refine pq (qpt bf) ?_
 refine pq (qm bf) ?_
 iterate 3 refine os ?_
 refine pq (qpf bf) ?_
 refine pq (qm bf) ?_
 iterate 3 refine os ?_
 refine pq (qpf bf) ?_
 refine pq (qa bf) ?_
 refine oE (eS (lR ?_))
 obtain rfl := sj h
 exact eF1
 replace h := ifF c78 h
 refine pq (qb (p_eql_fZ c78)) ?_
 refine pq (qpt bf) ?_
 refine pq (qm bf) ?_
 iterate 3 refine os ?_
 refine pq (qpf bf) ?_
 refine pq (qm bf) ?_
 iterate 3 refine os ?_
 refine pq (qpf bf) ?_
 refine pq (qm bf) ?_
 iterate 3 refine os ?_
 refine pq (qpf bf) ?_
 refine pq (qm bf) ?_
 iterate 3 refine os ?_
 refine pq (qpf bf) ?_
 refine pq (qa bf) ?_
 refine oE (eS (lR ?_))
 obtain rfl := sj h
 exact eF1
 replace h := ifF c12 h
 refine pq (qb (p_gtr_fZ c12)) ?_
 refine oE (eS (cF rfl (lK (eS (lS ?_)))))
 refine L_norm (L2 := ([[(k11, 8, [[iI n1, iC .u8 n2, iC .u8 n3, sF r92 s4, sF r70 s5, sF r70 s6, sF r60 s7, bC b8]])]] : BL)) [0] (by decide) rfl ?_
 refine L_turn 14 rfl [[], [], [], [], [], [], [], [], [], [], [], [], [], []] [(false, []), (false, []), (false, []), (false, []), (false, []), (false, []), (false, []), (false, []), (false, []), (true, []), (true, []), (false, [9]), (false, [10]), (false, [])] [[2, 3, 4, 7, 9, 10], [2, 3, 4, 7, 9, 10], [0, 1, 3, 4, 7, 9, 10], [0, 1, 2, 7, 9, 10], [0, 1, 2, 7, 9, 10], [7, 9, 10], [7, 9, 10], [0, 1, 2, 3, 4, 5, 6, 9, 10], [9, 10], [0, 1, 2, 3, 4, 5, 6, 7, 8, 10], [0, 1, 2, 3, 4, 5, 6, 7, 8, 9], [], [], []] (by kernel_rfl) (by kernel_rfl) (by kernel_rfl) ?_ (fun bb85 hlt hnd => ?_)
 intro bb85 hlt hnd
 exact ⟨⟨djE, ⟨djE, ⟨djE, ⟨djE, ⟨djE, ⟨djE, ⟨djE, ⟨djE, ⟨djE, ⟨djE, ⟨djE, ⟨djE, ⟨djE, ⟨djE, trivial⟩⟩⟩⟩⟩⟩⟩⟩⟩⟩⟩⟩⟩⟩, (ltO_cons ltK_nil (ltO_cons ltK_nil (ltO_cons ltK_nil (ltO_cons ltK_nil (ltO_cons ltK_nil (ltO_cons ltK_nil (ltO_cons ltK_nil (ltO_cons ltK_nil (ltO_cons ltK_nil (ltO_cons ltK_nil (ltO_cons ltK_nil (ltO_cons ltK_nil (ltO_cons ltK_nil (ltO_cons ltK_nil ltO_nil))))))))))))))⟩
 refine tq [0] rfl (hmc (nin_cons (ne_new (key_lt hlt 0 rfl)) (nin_cons (ne_new (key_lt hlt 0 rfl)) nin_nil)) hmn) (ql (.agg [iI n1, iC .u8 n2, iC .u8 n3, sF r92 s4, sF r70 s5, sF r70 s6, sF r60 s7, bC b8]) 0 sz28) ?_
 obtain ⟨⟨n103, n104, s105, s106, s107⟩, h102, h⟩ := bindS h
 refine tq [] rfl hmn (qc (.agg [iI n103, iI n104, sC r3 s105, sC r3 s106, sC r2 s107]) [.agg [iI n1, iC .u8 n2, iC .u8 n3, sF r92 s4, sF r70 s5, sF r70 s6, sF r60 s7, bC b8]] (law13_Task_Matrix_r (m + 1) h102) (vw_cons (vd_agg (vc_cons vc_v (vc_cons vc_v (vc_cons vc_v (vc_cons vc_s (vc_cons vc_s (vc_cons vc_s (vc_cons vc_s (vc_cons vc_v vc_nil))))))))) vw_nil)) ?_
 refine tq [0] rfl (hmc (nin_cons (ne_new (key_lt hlt 0 rfl)) (nin_cons (ne_new (key_lt hlt 0 rfl)) nin_nil)) hmn) (ql (.agg [iI n1, iC .u8 n2, iC .u8 n3, sF r92 s4, sF r70 s5, sF r70 s6, sF r60 s7, bC b8]) 0 sz28) ?_
 refine tq [] rfl hmn (q_fieldP rfl fa28_3 rfl) ?_
 refine tq [0] rfl (hmc (nin_cons (ne_new (key_lt hlt 0 rfl)) (nin_cons (ne_new (key_lt hlt 0 rfl)) nin_nil)) hmn) (ql (.one (sF r70 s5)) 0 sz25) ?_
 obtain ⟨⟨n109, s110⟩, h108, h⟩ := bindS h
 refine tq [] rfl hmn (qc (.agg [iI n109, sC r70 s110]) [.agg [iI n1, iC .u8 n2, iC .u8 n3, sF r92 s4, sF r70 s5, sF r70 s6, sF r60 s7, bC b8], .one (sF r70 s5)] (law13_Task_Vector_r (m + 1) h108) (vw_cons (vd_agg (vc_cons vc_v (vc_cons vc_v (vc_cons vc_v (vc_cons vc_s (vc_cons vc_s (vc_cons vc_s (vc_cons vc_s (vc_cons vc_v vc_nil))))))))) (vw_cons (vd_one vc_s) vw_nil))) ?_
 obtain ⟨⟨n112, s113, s114⟩, h111, h⟩ := bindS h
 refine tq [] rfl hmn (qc (.agg [iI n112, sC r60 s113, sC r2 s114]) [.agg [iI n109, sC r70 s110]] (ref10_Of_r (m + 3) h111) (vw_cons (vd_agg (vc_cons vc_v (vc_cons vc_s vc_nil))) vw_nil)) ?_
 refine tq [0] rfl (hmc (nin_cons (ne_new (key_lt hlt 0 rfl)) (nin_cons (ne_new (key_lt hlt 0 rfl)) nin_nil)) hmn) (ql (.agg [iI n1, iC .u8 n2, iC .u8 n3, sF r92 s4, sF r70 s5, sF r70 s6, sF r60 s7, bC b8]) 0 sz28) ?_
 obtain ⟨s116, h115, h⟩ := bindS h
 refine tn_putX rfl rfl rfl [] (by decide) rfl hmn rfl (q_callX (v := fun fr117 => .one (.p fr117 (Sl.t r60 s116))) (args := [.agg [iI n1, iC .u8 n2, iC .u8 n3, sF r92 s4, sF r70 s5, sF r70 s6, sF r60 s7, bC b8]]) (law13_Task_Rows_r (m + 6) h115) rfl rfl (vw_cons (vd_agg (vc_cons vc_v (vc_cons vc_v (vc_cons vc_v (vc_cons vc_s (vc_cons vc_s (vc_cons vc_s (vc_cons vc_s (vc_cons vc_v vc_nil))))))))) vw_nil) rfl rfl (fun fr => rfl)) (fun fr117 => ?_)
 refine tn_new rfl rfl rfl [] (by decide) rfl hmn rfl rfl (hkc (ne_new (key_lt hlt 0 rfl)) hkn) (q_alloc ty33 (row := [iI 0, iI 0, nC, nC, nC]) rfl rfl) ?_
 refine tn_new rfl rfl rfl [] (by decide) rfl hmn rfl rfl (hkc (ne_add rfl) (hkc (ne_new (key_lt hlt 0 rfl)) hkn)) (q_alloc ty36 (row := [iI 0, nC, nC]) rfl rfl) ?_
 refine tn_wr rfl rfl [1] (by decide) rfl (hm0 rfl) rfl (q_store (es' := [[iI n103, iI n104, sC r3 s105, sC r3 s106, sC r2 s107]]) 0 rfl rfl rfl sz33 rfl rfl rfl rfl rfl) (q := 1) rfl rfl ?_
 refine tn_wr rfl rfl [0] (by decide) rfl (hm0 rfl) rfl (q_store (es' := [[iI n112, sC r60 s113, sC r2 s114]]) 0 rfl rfl rfl sz36 rfl rfl rfl rfl rfl) (q := 0) rfl rfl ?_
 refine tq [] rfl (hm0 rfl) (qa (.one (.p fr117 (Sl.t r60 s116)))) ?_
 refine tn_end (eS (lS (lO ?_)))
 refine pq (q_fieldP rfl fa28_0 rfl) ?_
 refine pq (ql (iO n1) 2 sz22) ?_
 refine pq (ql (.agg [iI n103, iI n104, sC r3 s105, sC r3 s106, sC r2 s107]) 1 sz33) ?_
 refine pq (ql (.agg [iI n112, sC r60 s113, sC r2 s114]) 0 sz36) ?_
 refine pq (qm (.one (.p fr117 (Sl.t r60 s116)))) ?_
 refine pq (q_fieldP rfl fa28_6 rfl) ?_
 refine pq (ql (bO b8) 2 sz4) ?_
 obtain ⟨⟨s119, n120⟩, h118, h⟩ := bindS h
 refine pq (qc (.tup [.one (sC r63 s119), iO n120]) [iO n1, .agg [iI n103, iI n104, sC r3 s105, sC r3 s106, sC r2 s107], .agg [iI n112, sC r60 s113, sC r2 s114], .one (.p fr117 (Sl.t r60 s116)), bO b8] (pull_Sums_r (m + 1) h118) (vw_cons (vd_one vc_v) (vw_cons (vd_agg (vc_cons vc_v (vc_cons vc_v (vc_cons vc_s (vc_cons vc_s (vc_cons vc_s vc_nil)))))) (vw_cons (vd_agg (vc_cons vc_v (vc_cons vc_s (vc_cons vc_s vc_nil)))) (vw_cons (vd_one vc_s) (vw_cons (vd_one vc_v) vw_nil)))))) ?_
 refine pq (qm (.tup [.one (sC r63 s119), iO n120])) ?_
 refine pq (q_ext (v := .one (sC r63 s119)) rfl rfl) ?_
 refine pq (q_ext (v := iO n120) rfl rfl) ?_
 refine pq (qa (.one (sC r63 s119))) ?_
 refine pq (qa (iO n120)) ?_
 refine oN ?_
 refine pq (q_fieldP rfl fa28_0 rfl) ?_
 refine pq (ql (iO n1) 2 sz22) ?_
 refine pq (ql (.agg [iI n103, iI n104, sC r3 s105, sC r3 s106, sC r2 s107]) 1 sz33) ?_
 refine pq (ql (.agg [iI n112, sC r60 s113, sC r2 s114]) 0 sz36) ?_
 refine pq (qm (.one (.p fr117 (Sl.t r60 s116)))) ?_
 refine pq (q_fieldP rfl fa28_6 rfl) ?_
 refine pq (ql (bO b8) 2 sz4) ?_
 obtain ⟨⟨s122, n123⟩, h121, h⟩ := bindS h
 refine pq (qc (.tup [.one (sC r63 s122), iO n123]) [iO n1, .agg [iI n103, iI n104, sC r3 s105, sC r3 s106, sC r2 s107], .agg [iI n112, sC r60 s113, sC r2 s114], .one (.p fr117 (Sl.t r60 s116)), bO b8] (ref13_Sums_r (m + 1) h121) (vw_cons (vd_one vc_v) (vw_cons (vd_agg (vc_cons vc_v (vc_cons vc_v (vc_cons vc_s (vc_cons vc_s (vc_cons vc_s vc_nil)))))) (vw_cons (vd_agg (vc_cons vc_v (vc_cons vc_s (vc_cons vc_s vc_nil)))) (vw_cons (vd_one vc_s) (vw_cons (vd_one vc_v) vw_nil)))))) ?_
 refine pq (qm (.tup [.one (sC r63 s122), iO n123])) ?_
 refine pq (q_ext (v := .one (sC r63 s122)) rfl rfl) ?_
 refine pq (q_ext (v := iO n123) rfl rfl) ?_
 refine pq (qa (.one (sC r63 s122))) ?_
 refine pq (qa (iO n123)) ?_
 refine oN ?_
 refine pq (q_fieldP rfl fa28_0 rfl) ?_
 refine pq (ql (iO n1) 2 sz22) ?_
 refine pq (ql (.agg [iI n103, iI n104, sC r3 s105, sC r3 s106, sC r2 s107]) 1 sz33) ?_
 refine pq (ql (.agg [iI n112, sC r60 s113, sC r2 s114]) 0 sz36) ?_
 refine pq (qm (.one (.p fr117 (Sl.t r60 s116)))) ?_
 refine pq (q_fieldP rfl fa28_6 rfl) ?_
 refine pq (ql (bO b8) 2 sz4) ?_
 obtain ⟨⟨⟨n125, s126⟩, n127⟩, h124, h⟩ := bindS h
 refine pq (qc (.tup [.agg [iI n125, sC r70 s126], iO n127]) [iO n1, .agg [iI n103, iI n104, sC r3 s105, sC r3 s106, sC r2 s107], .agg [iI n112, sC r60 s113, sC r2 s114], .one (.p fr117 (Sl.t r60 s116)), bO b8] (pull_Times_r (m + 0) h124) (vw_cons (vd_one vc_v) (vw_cons (vd_agg (vc_cons vc_v (vc_cons vc_v (vc_cons vc_s (vc_cons vc_s (vc_cons vc_s vc_nil)))))) (vw_cons (vd_agg (vc_cons vc_v (vc_cons vc_s (vc_cons vc_s vc_nil)))) (vw_cons (vd_one vc_s) (vw_cons (vd_one vc_v) vw_nil)))))) ?_
 refine pq (qm (.tup [.agg [iI n125, sC r70 s126], iO n127])) ?_
 refine pq (q_ext (v := .agg [iI n125, sC r70 s126]) rfl rfl) ?_
 refine pq (q_ext (v := iO n127) rfl rfl) ?_
 refine ol_new rfl rfl rfl (q_alloc ty39 (row := [iI 0, nC]) rfl rfl) (fun k128 => ?_)
 refine ow [[iI n125, sC r70 s126]] 0 sz39 ?_
 refine pq (qa (iO n127)) ?_
 refine oN ?_
 refine pq (q_fieldP rfl fa28_0 rfl) ?_
 refine pq (ql (iO n1) 3 sz22) ?_
 refine pq (ql (.agg [iI n103, iI n104, sC r3 s105, sC r3 s106, sC r2 s107]) 2 sz33) ?_
 refine pq (ql (.agg [iI n112, sC r60 s113, sC r2 s114]) 1 sz36) ?_
 refine pq (qm (.one (.p fr117 (Sl.t r60 s116)))) ?_
 refine pq (q_fieldP rfl fa28_6 rfl) ?_
 refine pq (ql (bO b8) 3 sz4) ?_
 obtain ⟨⟨⟨n130, s131⟩, n132⟩, h129, h⟩ := bindS h
 refine pq (qc (.tup [.agg [iI n130, sC r70 s131], iO n132]) [iO n1, .agg [iI n103, iI n104, sC r3 s105, sC r3 s106, sC r2 s107], .agg [iI n112, sC r60 s113, sC r2 s114], .one (.p fr117 (Sl.t r60 s116)), bO b8] (ref13_Times_r (m + 0) h129) (vw_cons (vd_one vc_v) (vw_cons (vd_agg (vc_cons vc_v (vc_cons vc_v (vc_cons vc_s (vc_cons vc_s (vc_cons vc_s vc_nil)))))) (vw_cons (vd_agg (vc_cons vc_v (vc_cons vc_s (vc_cons vc_s vc_nil)))) (vw_cons (vd_one vc_s) (vw_cons (vd_one vc_v) vw_nil)))))) ?_
 refine pq (qm (.tup [.agg [iI n130, sC r70 s131], iO n132])) ?_
 refine pq (q_ext (v := .agg [iI n130, sC r70 s131]) rfl rfl) ?_
 refine pq (q_ext (v := iO n132) rfl rfl) ?_
 refine ol_new rfl rfl rfl (q_alloc ty39 (row := [iI 0, nC]) rfl rfl) (fun k133 => ?_)
 refine ow [[iI n130, sC r70 s131]] 0 sz39 ?_
 refine pq (qa (iO n132)) ?_
 refine oN ?_
 refine pq (q_fieldP rfl fa28_0 rfl) ?_
 refine pq (ql (iO n1) 4 sz22) ?_
 refine pq (qm (iO n9)) ?_
 refine pq (qm (.one (sF r63 s10))) ?_
 obtain ⟨⟨⟨n135, s136⟩, n137⟩, h134, h⟩ := bindS h
 refine pq (qc (.tup [.agg [iI n135, sC r70 s136], iO n137]) [iO n1, iO n9, .one (sF r63 s10)] (pull_Done_r (m + 3) h134) (vw_cons (vd_one vc_v) (vw_cons (vd_one vc_v) (vw_cons (vd_one vc_s) vw_nil)))) ?_
 refine pq (qm (.tup [.agg [iI n135, sC r70 s136], iO n137])) ?_
 refine pq (q_ext (v := .agg [iI n135, sC r70 s136]) rfl rfl) ?_
 refine pq (q_ext (v := iO n137) rfl rfl) ?_
 refine ol_new rfl rfl rfl (q_alloc ty39 (row := [iI 0, nC]) rfl rfl) (fun k138 => ?_)
 refine ow [[iI n135, sC r70 s136]] 0 sz39 ?_
 refine pq (qa (iO n137)) ?_
 refine oN ?_
 refine pq (q_fieldP rfl fa28_0 rfl) ?_
 refine pq (ql (iO n1) 5 sz22) ?_
 refine pq (qm (iO n9)) ?_
 refine pq (qm (.one (sF r63 s10))) ?_
 obtain ⟨⟨⟨n140, s141⟩, n142⟩, h139, h⟩ := bindS h
 refine pq (qc (.tup [.agg [iI n140, sC r70 s141], iO n142]) [iO n1, iO n9, .one (sF r63 s10)] (ref13_Done_r (m + 4) h139) (vw_cons (vd_one vc_v) (vw_cons (vd_one vc_v) (vw_cons (vd_one vc_s) vw_nil)))) ?_
 refine pq (qm (.tup [.agg [iI n140, sC r70 s141], iO n142])) ?_
 refine pq (q_ext (v := .agg [iI n140, sC r70 s141]) rfl rfl) ?_
 refine pq (q_ext (v := iO n142) rfl rfl) ?_
 refine ol_new rfl rfl rfl (q_alloc ty39 (row := [iI 0, nC]) rfl rfl) (fun k143 => ?_)
 refine ow [[iI n140, sC r70 s141]] 0 sz39 ?_
 refine pq (qa (iO n142)) ?_
 refine oN ?_
 obtain ⟨b145, h144, h⟩ := bindS h
 refine pq (qc (bO b145) [] (FL_r (m + 6) h144) vw_nil) ?_
 refine pq (qm (bO b145)) ?_
 rcases b145 with _ | _
 replace h := wF h
 iterate 3 refine os ?_
 refine pq (qpf bf) ?_
 refine pq (qm bf) ?_
 iterate 3 refine os ?_
 refine pq (qpf bf) ?_
 refine pq (qm bf) ?_
 iterate 3 refine os ?_
 refine pq (qpf bf) ?_
 refine pq (qm bf) ?_
 iterate 3 refine os ?_
 refine pq (qpf bf) ?_
 refine pq (qm bf) ?_
 iterate 3 refine os ?_
 refine pq (qpf bf) ?_
 refine pq (qm bf) ?_
 iterate 3 refine os ?_
 refine pq (qpf bf) ?_
 refine pq (qa bf) ?_
 refine oE (eS (lR ?_))
 obtain rfl := sj h
 exact eF1
 replace h := wT h
 refine pq (qm (.one (sC r63 s119))) ?_
 refine pq (qm (.one (sC r63 s122))) ?_
 obtain ⟨b147, h146, h⟩ := bindS h
 refine pq (qc (bO b147) [.one (sC r63 s119), .one (sC r63 s122)] (ref13_SameSums_r (m + 6) h146) (vw_cons (vd_one vc_s) (vw_cons (vd_one vc_s) vw_nil))) ?_
 refine pq (qpt (bO b147)) ?_
 refine pq (qm (bO b147)) ?_
 rcases b147 with _ | _
 replace h := wF h
 iterate 3 refine os ?_
 refine pq (qpf bf) ?_
 refine pq (qm bf) ?_
 iterate 3 refine os ?_
 refine pq (qpf bf) ?_
 refine pq (qm bf) ?_
 iterate 3 refine os ?_
 refine pq (qpf bf) ?_
 refine pq (qm bf) ?_
 iterate 3 refine os ?_
 refine pq (qpf bf) ?_
 refine pq (qm bf) ?_
 iterate 3 refine os ?_
 refine pq (qpf bf) ?_
 refine pq (qa bf) ?_
 refine oE (eS (lR ?_))
 obtain rfl := sj h
 exact eF1
 replace h := wT h
 refine pq (qm (iO n120)) ?_
 refine pq (qm (iO n123)) ?_
 by_cases c148 : n120 = n123
 replace h := ifT c148 h
 refine pq (qb (p_eql_tZ c148)) ?_
 refine pq (qpt bt) ?_
 refine pq (qm bt) ?_
 refine pq (ql (.agg [iI n125, sC r70 s126]) 3 sz39) ?_
 refine pq (ql (.agg [iI n130, sC r70 s131]) 2 sz39) ?_
 obtain ⟨b150, h149, h⟩ := bindS h
 refine pq (qc (bO b150) [.agg [iI n125, sC r70 s126], .agg [iI n130, sC r70 s131]] (ref09_Same_r (m + 5) h149) (vw_cons (vd_agg (vc_cons vc_v (vc_cons vc_s vc_nil))) (vw_cons (vd_agg (vc_cons vc_v (vc_cons vc_s vc_nil))) vw_nil))) ?_
 refine pq (qpt (bO b150)) ?_
 refine pq (qm (bO b150)) ?_
 rcases b150 with _ | _
 replace h := wF h
 iterate 3 refine os ?_
 refine pq (qpf bf) ?_
 refine pq (qm bf) ?_
 iterate 3 refine os ?_
 refine pq (qpf bf) ?_
 refine pq (qm bf) ?_
 iterate 3 refine os ?_
 refine pq (qpf bf) ?_
 refine pq (qa bf) ?_
 refine oE (eS (lR ?_))
 obtain rfl := sj h
 exact eF1
 replace h := wT h
 refine pq (qm (iO n127)) ?_
 refine pq (qm (iO n132)) ?_
 by_cases c151 : n127 = n132
 replace h := ifT c151 h
 refine pq (qb (p_eql_tZ c151)) ?_
 refine pq (qpt bt) ?_
 refine pq (qm bt) ?_
 refine pq (ql (.agg [iI n135, sC r70 s136]) 1 sz39) ?_
 refine pq (ql (.agg [iI n140, sC r70 s141]) 0 sz39) ?_
 obtain ⟨b153, h152, h⟩ := bindS h
 refine pq (qc (bO b153) [.agg [iI n135, sC r70 s136], .agg [iI n140, sC r70 s141]] (ref09_Same_r (m + 5) h152) (vw_cons (vd_agg (vc_cons vc_v (vc_cons vc_s vc_nil))) (vw_cons (vd_agg (vc_cons vc_v (vc_cons vc_s vc_nil))) vw_nil))) ?_
 refine pq (qpt (bO b153)) ?_
 refine pq (qm (bO b153)) ?_
 rcases b153 with _ | _
 replace h := wF h
 iterate 3 refine os ?_
 refine pq (qpf bf) ?_
 refine pq (qa bf) ?_
 refine oE (eS (lR ?_))
 obtain rfl := sj h
 exact eF1
 replace h := wT h
 refine pq (qm (iO n137)) ?_
 refine pq (qm (iO n142)) ?_
 by_cases c154 : n137 = n142
 replace h := ifT c154 h
 refine pq (qb (p_eql_tZ c154)) ?_
 refine pq (qpt bt) ?_
 refine pq (qa bt) ?_
 refine oE (eS (lR ?_))
 obtain rfl := sj h
 exact eF1
 replace h := ifF c154 h
 refine pq (qb (p_eql_fZ c154)) ?_
 refine pq (qpt bf) ?_
 refine pq (qa bf) ?_
 refine oE (eS (lR ?_))
 obtain rfl := sj h
 exact eF1
 replace h := ifF c151 h
 refine pq (qb (p_eql_fZ c151)) ?_
 refine pq (qpt bf) ?_
 refine pq (qm bf) ?_
 iterate 3 refine os ?_
 refine pq (qpf bf) ?_
 refine pq (qm bf) ?_
 iterate 3 refine os ?_
 refine pq (qpf bf) ?_
 refine pq (qa bf) ?_
 refine oE (eS (lR ?_))
 obtain rfl := sj h
 exact eF1
 replace h := ifF c148 h
 refine pq (qb (p_eql_fZ c148)) ?_
 refine pq (qpt bf) ?_
 refine pq (qm bf) ?_
 iterate 3 refine os ?_
 refine pq (qpf bf) ?_
 refine pq (qm bf) ?_
 iterate 3 refine os ?_
 refine pq (qpf bf) ?_
 refine pq (qm bf) ?_
 iterate 3 refine os ?_
 refine pq (qpf bf) ?_
 refine pq (qm bf) ?_
 iterate 3 refine os ?_
 refine pq (qpf bf) ?_
 refine pq (qa bf) ?_
 refine oE (eS (lR ?_))
 obtain rfl := sj h
 exact eF1
end Ev
end Go.Proofs.YtlcfdmjkbaegpaaDoor
