/- Texts of a claim, joined. -/
import Derived.Test.YtmiaonncbefmmaaDoorZT8
import Derived.Test.YtmiaonncbefmmaaDoorZT6
import Derived.Test.YtmiaonncbefmmaaDoorZT7
set_option linter.unusedVariables false
set_option linter.unusedSimpArgs false
section
namespace Go.Proofs.YtmiaonncbefmmaaDoor
namespace Ev
open Go
set_option linter.unusedVariables false
set_option linter.unusedSimpArgs false
set_option maxRecDepth 100000
set_option maxHeartbeats 1000000
attribute [local irreducible] OpsL StL TnL WpL EndL
noncomputable def devec_Part (a0 : Int × Sl (Int) × Sl (Int)) (n4 : Int) (n5 : Int) : Option ((Int × Sl (Int) × Sl (Int))) :=
 match a0 with
 | (n1, s2, s3) => ((devec_sure (n1, s2, s3)).bind fun (n9, s10, s11) => (if (minI n5 n9) ≤ (maxI n4 0) then some (0, (⟨false, 0, []⟩ : Sl (Int)), (⟨false, 0, []⟩ : Sl (Int))) else (if (IntKind.i64.wrap ((minI n5 n9) - (maxI n4 0))) < 0 then ((flags_Part s10 (maxI n4 0) (minI n5 n9)).bind fun s18 => ((cutS 1 s11 (maxI n4 0) (minI n5 n9)).bind fun s23 => some (0, (⟨true, 1, s18⟩ : Sl (Int)), (⟨false, 0, []⟩ : Sl (Int))))) else (if (IntKind.i64.wrap ((minI n5 n9) - (maxI n4 0))) > 4096 then ((flags_Part s10 (maxI n4 0) (minI n5 n9)).bind fun s28 => ((cutS 1 s11 (maxI n4 0) (minI n5 n9)).bind fun s33 => some (0, (⟨true, 1, s28⟩ : Sl (Int)), (⟨false, 0, []⟩ : Sl (Int))))) else ((flags_New (IntKind.i64.wrap ((minI n5 n9) - (maxI n4 0)))).bind fun s41 => ((lenOk (IntKind.i64.wrap ((minI n5 n9) - (maxI n4 0)))).bind fun _ => ((flags_Part s10 (maxI n4 0) (minI n5 n9)).bind fun s46 => ((cutS 1 s11 (maxI n4 0) (minI n5 n9)).bind fun s53 => ((cpL (List.replicate (IntKind.i64.wrap ((minI n5 n9) - (maxI n4 0))).toNat (0 : Int)) s53.l).bind fun l56 => some ((IntKind.i64.wrap ((minI n5 n9) - (maxI n4 0))), (⟨true, 1, s46⟩ : Sl (Int)), (⟨true, 1, l56⟩ : Sl (Int))))))))))))
theorem devec_Part_r (m : Nat) {a0 : Int × Sl (Int) × Sl (Int)} {n4 : Int} {n5 : Int} {out : (Int × Sl (Int) × Sl (Int))} (h : devec_Part a0 n4 n5 = some out) : RunsP E1 (m + 7) 9 [.agg (r29 a0), .one (iT .i64 n4), .one (iT .i64 n5)] (.fresh, [.agg (r29 out)]) := by
 obtain ⟨n1, s2, s3⟩ := a0
 refine fn_F rfl (by rw [E1_fn]; exact show fiOf Tryd.prog 9 = _ by unfold fiOf; rw [Tryd.func9]; unfold Tryd.f9; rfl) rfl ?_
 dsimp only
 unfold devec_Part at h
 refine lS (lO ?_)
 refine ol_new rfl rfl rfl (q_box ty30 rfl (cs := [iI n1, sF r66 s2, sF r2 s3]) rfl rfl) (fun k6 => ?_)
 refine ol_new rfl rfl rfl (q_alloc ty30 (row := [iI 0, nC, nC]) rfl rfl) (fun k7 => ?_)
 refine oN ?_
 refine pq (ql (.agg [iI n1, sF r66 s2, sF r2 s3]) 1 sz30) ?_
 obtain ⟨⟨n9, s10, s11⟩, h8, h⟩ := bindS h
 refine ol_putX rfl rfl rfl (q_callX (v := fun fr12 => .agg [iI n9, .p fr12 (Sl.t r66 s10), .p fr12 (Sl.t r2 s11)]) (args := [.agg [iI n1, sF r66 s2, sF r2 s3]]) (devec_sure_r (m + 0) h8) rfl rfl (vw_cons (vd_agg (vc_cons vc_v (vc_cons vc_s (vc_cons vc_s vc_nil)))) vw_nil) rfl rfl (fun fr => rfl)) (fun fr12 => ?_)
 refine ow [[iI n9, .p fr12 (Sl.t r66 s10), .p fr12 (Sl.t r2 s11)]] 1 sz30 ?_
 refine oE (eS (lS ?_))
 refine L_still (by kernel_rfl) ?_
 refine sq (qm (iO n4)) ?_
 refine sq ((q_minmax rfl rfl ty3 rfl rfl).2 rfl) ?_
 refine sq (qm (iO n5)) ?_
 refine sq (q_fieldP rfl fa30_0 rfl) ?_
 refine sq (ql (iO n9) 1 sz3) ?_
 refine sq ((q_minmax rfl rfl ty3 rfl rfl).1 rfl) ?_
 refine sq (qa (iO (maxI n4 0))) ?_
 refine sq (qa (iO (minI n5 n9))) ?_
 refine st_end (eS (lS (lS (lO ?_))))
 refine pq (qm (iO (minI n5 n9))) ?_
 refine pq (qm (iO (maxI n4 0))) ?_
 by_cases c13 : (minI n5 n9) ≤ (maxI n4 0)
 replace h := ifT c13 h
 refine pq (qb (p_leq_tZ c13)) ?_
 refine oE (eS (cT rfl (lS (lO ?_))))
 refine pq (q_build (cs := [iI 0, nC, nC]) ty30 rfl pl30 rfl) ?_
 refine ow [[iI 0, nC, nC]] 0 sz30 ?_
 refine oE (eS (lR (eR ?_)))
 obtain rfl := sj h
 exact E_endF (.inr rfl) (res_cell (d := .agg [iI 0, nC, nC]) 0 rfl sz30 rfl rfl rfl rfl res_nil) (vw_cons (vd_agg (vc_cons vc_v (vc_cons vc_s (vc_cons vc_s vc_nil)))) vw_nil) oG rfl rfl
 replace h := ifF c13 h
 refine pq (qb (p_leq_fZ c13)) ?_
 refine oE (eS (cF rfl (lK (eS (lS (lO ?_))))))
 refine pq (qm (iO (minI n5 n9))) ?_
 refine pq (qm (iO (maxI n4 0))) ?_
 refine pq (qb p_subY) ?_
 refine ol_scallN (args := [.one (iI (IntKind.i64.wrap ((minI n5 n9) - (maxI n4 0))))]) rfl rfl rfl ax16 (by rw [E1_fn]; exact show fiOf Tryd.prog 16 = _ by unfold fiOf; rw [Tryd.func16]; unfold Tryd.f16; rfl) rfl rfl rfl ?_
 dsimp only
 refine lS (lO ?_)
 refine ol_new rfl rfl rfl (q_alloc ty30 (row := [iI 0, nC, nC]) rfl rfl) (fun k14 => ?_)
 refine oE (eS (lS (lS (lO ?_))))
 refine pq (qm (.one (iI (IntKind.i64.wrap ((minI n5 n9) - (maxI n4 0)))))) ?_
 by_cases c15 : (IntKind.i64.wrap ((minI n5 n9) - (maxI n4 0))) < 0
 replace h := ifT c15 h
 refine pq (qb (p_lss_tZ c15)) ?_
 refine pq (qm bt) ?_
 iterate 2 refine os ?_
 refine pq (qpt bt) ?_
 refine oE (eS (cT rfl (lS (lO ?_))))
 refine pq (q_build (cs := [iI 0, nC, nC]) ty30 rfl pl30 rfl) ?_
 refine ow [[iI 0, nC, nC]] 0 sz30 ?_
 refine oE (eS (lR (eR ?_)))
 refine E_call (v := .agg [iI 0, nC, nC]) (.inr rfl) (res_cell (d := .agg [iI 0, nC, nC]) 0 rfl sz30 rfl rfl rfl rfl res_nil) rfl ?_
 refine ol_new rfl rfl rfl (q_alloc ty30 (row := [iI 0, nC, nC]) rfl rfl) (fun k16 => ?_)
 refine ow [[iI 0, nC, nC]] 0 sz30 ?_
 refine oN ?_
 refine pq (q_fieldP rfl fa30_1 rfl) ?_
 refine pq (ql (.one (.p fr12 (Sl.t r66 s10))) 3 sz27) ?_
 refine pq (qm (iO (maxI n4 0))) ?_
 refine pq (qm (iO (minI n5 n9))) ?_
 obtain ⟨s18, h17, h⟩ := bindS h
 refine ol_new rfl rfl rfl (q_callO (args := [.one (.p fr12 (Sl.t r66 s10)), .one (iI (maxI n4 0)), .one (iI (minI n5 n9))]) (flags_Part_r (m + 3) h17) rfl rfl (vw_cons (vd_one vc_s) (vw_cons (vd_one vc_v) (vw_cons (vd_one vc_v) vw_nil))) rfl) (fun k19 => ?_)
 refine pq (q_fieldP rfl fa30_1 rfl) ?_
 refine ow [[iI 0, .own k19 0 (s18).length, nC]] 1 sz27 ?_
 refine oE (eS (lS ?_))
 refine L_norm (L2 := ([[(k19, 1, (s18).map (rowC r66))], [(k16, 3, [[iI 0, .own k19 0 (s18).length, nC]])], [(k7, 3, [[iI 0, nC, nC]])], [(k6, 3, [[iI n9, .p fr12 (Sl.t r66 s10), .p fr12 (Sl.t r2 s11)]])]] : BL)) [0, 1, 3, 4] (by decide) rfl ?_
 refine L_turn 8 rfl [[], [], [], [], [], [], [], []] [(false, []), (false, []), (false, []), (false, []), (false, []), (false, []), (false, []), (false, [])] [[2, 3, 4, 5, 6], [2, 3, 4, 5, 6], [0, 1, 4, 5], [0, 1, 4, 5], [0, 1, 2, 3, 5], [0, 1, 2, 3, 4], [0, 1], []] (by kernel_rfl) (by kernel_rfl) (by kernel_rfl) ?_ (fun bb20 hlt hnd => ?_)
 intro bb20 hlt hnd
 exact ⟨⟨djE, ⟨djE, ⟨djE, ⟨djE, ⟨djE, ⟨djE, ⟨djE, ⟨djE, trivial⟩⟩⟩⟩⟩⟩⟩⟩, (ltO_cons ltK_nil (ltO_cons ltK_nil (ltO_cons ltK_nil (ltO_cons ltK_nil (ltO_cons ltK_nil (ltO_cons ltK_nil (ltO_cons ltK_nil (ltO_cons ltK_nil ltO_nil))))))))⟩
 refine tq [] rfl (hm0 rfl) (q_fieldP rfl fa30_2 rfl) ?_
 refine tq [1] rfl (hm0 rfl) (ql (.one nC) 0 sz28) ?_
 refine tq [] rfl (hm0 rfl) (q_fieldP rfl fa30_2 rfl) ?_
 refine tq [3] rfl (hm0 rfl) (ql (.one (.p fr12 (Sl.t r2 s11))) 0 sz28) ?_
 refine tq [] rfl (hm0 rfl) (qm (iO (maxI n4 0))) ?_
 refine tq [] rfl (hm0 rfl) (qm (iO (minI n5 n9))) ?_
 obtain ⟨s23, h24, h⟩ := bindS h
 refine tq [] rfl (hm0 rfl) (q_sliceS (r := r2) h24 rfl ty28 rfl ty2 (no_some rfl (cutS_some h24).1.1 _) (no_some rfl (Int.le_trans (cutS_some h24).1.1 (cutS_some h24).1.2.1) _)) ?_
 refine tq [] rfl (hm0 rfl) (q_copy0 rfl rfl (el_dat (fr := fr12) (r := r2) (fun x => rfl)) el28 ty28 rfl rfl rfl rfl rfl) ?_
 refine tn_end (eS (lS (lO ?_)))
 refine pq (ql (.agg [iI 0, .own k19 0 (s18).length, nC]) 1 sz30) ?_
 refine ow [[iI 0, .own k19 0 (s18).length, nC]] 2 sz30 ?_
 refine oE (eS (lR ?_))
 obtain rfl := sj h
 exact E_endF (.inr rfl) (res_cell (d := .agg [iI 0, .own k19 0 (s18).length, nC]) 2 rfl sz30 rfl rfl rfl rfl res_nil) (vw_cons (vd_agg (vc_cons vc_v (vc_cons (vc_own (r := r66) 0 rfl (fun x h m => rfl)) (vc_cons vc_s vc_nil)))) vw_nil) oG rfl rfl
 replace h := ifF c15 h
 refine pq (qb (p_lss_fZ c15)) ?_
 refine pq (qm bf) ?_
 refine pq (qm (.one (iI (IntKind.i64.wrap ((minI n5 n9) - (maxI n4 0)))))) ?_
 by_cases c25 : (IntKind.i64.wrap ((minI n5 n9) - (maxI n4 0))) > 4096
 replace h := ifT c25 h
 refine pq (qb (p_gtr_tZ c25)) ?_
 refine pq (qpf bt) ?_
 refine oE (eS (cT rfl (lS (lO ?_))))
 refine pq (q_build (cs := [iI 0, nC, nC]) ty30 rfl pl30 rfl) ?_
 refine ow [[iI 0, nC, nC]] 0 sz30 ?_
 refine oE (eS (lR (eR ?_)))
 refine E_call (v := .agg [iI 0, nC, nC]) (.inr rfl) (res_cell (d := .agg [iI 0, nC, nC]) 0 rfl sz30 rfl rfl rfl rfl res_nil) rfl ?_
 refine ol_new rfl rfl rfl (q_alloc ty30 (row := [iI 0, nC, nC]) rfl rfl) (fun k26 => ?_)
 refine ow [[iI 0, nC, nC]] 0 sz30 ?_
 refine oN ?_
 refine pq (q_fieldP rfl fa30_1 rfl) ?_
 refine pq (ql (.one (.p fr12 (Sl.t r66 s10))) 3 sz27) ?_
 refine pq (qm (iO (maxI n4 0))) ?_
 refine pq (qm (iO (minI n5 n9))) ?_
 obtain ⟨s28, h27, h⟩ := bindS h
 refine ol_new rfl rfl rfl (q_callO (args := [.one (.p fr12 (Sl.t r66 s10)), .one (iI (maxI n4 0)), .one (iI (minI n5 n9))]) (flags_Part_r (m + 3) h27) rfl rfl (vw_cons (vd_one vc_s) (vw_cons (vd_one vc_v) (vw_cons (vd_one vc_v) vw_nil))) rfl) (fun k29 => ?_)
 refine pq (q_fieldP rfl fa30_1 rfl) ?_
 refine ow [[iI 0, .own k29 0 (s28).length, nC]] 1 sz27 ?_
 refine oE (eS (lS ?_))
 refine L_norm (L2 := ([[(k29, 1, (s28).map (rowC r66))], [(k26, 3, [[iI 0, .own k29 0 (s28).length, nC]])], [(k7, 3, [[iI 0, nC, nC]])], [(k6, 3, [[iI n9, .p fr12 (Sl.t r66 s10), .p fr12 (Sl.t r2 s11)]])]] : BL)) [0, 1, 3, 4] (by decide) rfl ?_
 refine L_turn 8 rfl [[], [], [], [], [], [], [], []] [(false, []), (false, []), (false, []), (false, []), (false, []), (false, []), (false, []), (false, [])] [[2, 3, 4, 5, 6], [2, 3, 4, 5, 6], [0, 1, 4, 5], [0, 1, 4, 5], [0, 1, 2, 3, 5], [0, 1, 2, 3, 4], [0, 1], []] (by kernel_rfl) (by kernel_rfl) (by kernel_rfl) ?_ (fun bb30 hlt hnd => ?_)
 intro bb30 hlt hnd
 exact ⟨⟨djE, ⟨djE, ⟨djE, ⟨djE, ⟨djE, ⟨djE, ⟨djE, ⟨djE, trivial⟩⟩⟩⟩⟩⟩⟩⟩, (ltO_cons ltK_nil (ltO_cons ltK_nil (ltO_cons ltK_nil (ltO_cons ltK_nil (ltO_cons ltK_nil (ltO_cons ltK_nil (ltO_cons ltK_nil (ltO_cons ltK_nil ltO_nil))))))))⟩
 refine tq [] rfl (hm0 rfl) (q_fieldP rfl fa30_2 rfl) ?_
 refine tq [1] rfl (hm0 rfl) (ql (.one nC) 0 sz28) ?_
 refine tq [] rfl (hm0 rfl) (q_fieldP rfl fa30_2 rfl) ?_
 refine tq [3] rfl (hm0 rfl) (ql (.one (.p fr12 (Sl.t r2 s11))) 0 sz28) ?_
 refine tq [] rfl (hm0 rfl) (qm (iO (maxI n4 0))) ?_
 refine tq [] rfl (hm0 rfl) (qm (iO (minI n5 n9))) ?_
 obtain ⟨s33, h34, h⟩ := bindS h
 refine tq [] rfl (hm0 rfl) (q_sliceS (r := r2) h34 rfl ty28 rfl ty2 (no_some rfl (cutS_some h34).1.1 _) (no_some rfl (Int.le_trans (cutS_some h34).1.1 (cutS_some h34).1.2.1) _)) ?_
 refine tq [] rfl (hm0 rfl) (q_copy0 rfl rfl (el_dat (fr := fr12) (r := r2) (fun x => rfl)) el28 ty28 rfl rfl rfl rfl rfl) ?_
 refine tn_end (eS (lS (lO ?_)))
 refine pq (ql (.agg [iI 0, .own k29 0 (s28).length, nC]) 1 sz30) ?_
 refine ow [[iI 0, .own k29 0 (s28).length, nC]] 2 sz30 ?_
 refine oE (eS (lR ?_))
 obtain rfl := sj h
 exact E_endF (.inr rfl) (res_cell (d := .agg [iI 0, .own k29 0 (s28).length, nC]) 2 rfl sz30 rfl rfl rfl rfl res_nil) (vw_cons (vd_agg (vc_cons vc_v (vc_cons (vc_own (r := r66) 0 rfl (fun x h m => rfl)) (vc_cons vc_s vc_nil)))) vw_nil) oG rfl rfl
 replace h := ifF c25 h
 refine pq (qb (p_gtr_fZ c25)) ?_
 refine pq (qpf bf) ?_
 refine oE (eS (cF rfl (lK (eS (lS ?_)))))
 refine L_norm (L2 := ([[(k14, 3, [[iI 0, nC, nC]])], [(k7, 3, [[iI 0, nC, nC]])], [(k6, 3, [[iI n9, .p fr12 (Sl.t r66 s10), .p fr12 (Sl.t r2 s11)]])]] : BL)) [0, 1, 2] (by decide) rfl ?_
 refine L_turn 7 rfl [[], [], [], [], [], [], [k14]] [(false, []), (false, []), (true, []), (false, []), (true, []), (false, []), (false, [])] [[1, 2, 3, 4], [0, 3, 4], [0, 3, 4], [0, 1, 2], [0, 1, 2], [], []] (by kernel_rfl) (by kernel_rfl) (by kernel_rfl) ?_ (fun bb35 hlt hnd => ?_)
 intro bb35 hlt hnd
 exact ⟨⟨djE, ⟨djE, ⟨djE, ⟨djE, ⟨djE, ⟨djE, ⟨djN, trivial⟩⟩⟩⟩⟩⟩⟩, (ltO_cons ltK_nil (ltO_cons ltK_nil (ltO_cons ltK_nil (ltO_cons ltK_nil (ltO_cons ltK_nil (ltO_cons ltK_nil (ltO_cons (ltK_cons (key_lt hlt 0 rfl) ltK_nil) ltO_nil)))))))⟩
 refine tq [] rfl hmn (qm (.one (iI (IntKind.i64.wrap ((minI n5 n9) - (maxI n4 0)))))) ?_
 refine tq [] rfl hmn (qm (.one (iI (IntKind.i64.wrap ((minI n5 n9) - (maxI n4 0)))))) ?_
 obtain ⟨s41, h40, h⟩ := bindS h
 refine tn_new rfl rfl rfl [] (by decide) rfl hmn rfl rfl (hkc (ne_new (key_lt hlt 0 rfl)) (hkc (ne_new (key_lt hlt 1 rfl)) (hkc (ne_new (key_lt hlt 2 rfl)) hkn))) (q_callO (args := [.one (iI (IntKind.i64.wrap ((minI n5 n9) - (maxI n4 0))))]) (flags_New_r (m + 3) h40) rfl rfl (vw_cons (vd_one vc_v) vw_nil) rfl) ?_
 refine tq [] rfl hmn (qm (.one (iI (IntKind.i64.wrap ((minI n5 n9) - (maxI n4 0)))))) ?_
 obtain ⟨u42, h43, h⟩ := bindS h
 refine tn_new rfl rfl rfl [] (by decide) rfl hmn rfl rfl (hkc (ne_add rfl) (hkc (ne_new (key_lt hlt 0 rfl)) (hkc (ne_new (key_lt hlt 1 rfl)) (hkc (ne_new (key_lt hlt 2 rfl)) hkn)))) (q_mkslice (r := rowC r2) (a := (0 : Int)) ty28 rfl ty2 rfl rfl (lenOk_some h43).1 (lenOk_some h43).2 rfl rfl) ?_
 refine tq [] rfl (hm0 rfl) (q_build (cs := [iI (IntKind.i64.wrap ((minI n5 n9) - (maxI n4 0))), .own (bb35 + 2) 0 (s41).length, .own (bb35 + 4) 0 ((List.replicate (IntKind.i64.wrap ((minI n5 n9) - (maxI n4 0))).toNat (0 : Int))).length]) ty30 rfl pl30 rfl) ?_
 refine tn_wr rfl rfl [2] (by decide) rfl (hm0 rfl) rfl (q_store (es' := [[iI (IntKind.i64.wrap ((minI n5 n9) - (maxI n4 0))), .own (bb35 + 2) 0 (s41).length, .own (bb35 + 4) 0 ((List.replicate (IntKind.i64.wrap ((minI n5 n9) - (maxI n4 0))).toNat (0 : Int))).length]]) 0 rfl rfl rfl sz30 rfl rfl rfl rfl rfl) (q := 2) rfl rfl ?_
 refine tn_end (eS (lR ?_))
 refine E_call (v := .agg [iI (IntKind.i64.wrap ((minI n5 n9) - (maxI n4 0))), .own (bb35 + 2) 0 (s41).length, .own (bb35 + 4) 0 ((List.replicate (IntKind.i64.wrap ((minI n5 n9) - (maxI n4 0))).toNat (0 : Int))).length]) (.inr rfl) (res_cell (d := .agg [iI (IntKind.i64.wrap ((minI n5 n9) - (maxI n4 0))), .own (bb35 + 2) 0 (s41).length, .own (bb35 + 4) 0 ((List.replicate (IntKind.i64.wrap ((minI n5 n9) - (maxI n4 0))).toNat (0 : Int))).length]) 2 rfl sz30 rfl rfl rfl rfl res_nil) rfl ?_
 refine ol_new rfl rfl rfl (q_alloc ty30 (row := [iI 0, nC, nC]) rfl rfl) (fun k44 => ?_)
 refine ow [[iI (IntKind.i64.wrap ((minI n5 n9) - (maxI n4 0))), .own (bb35 + 2) 0 (s41).length, .own (bb35 + 4) 0 ((List.replicate (IntKind.i64.wrap ((minI n5 n9) - (maxI n4 0))).toNat (0 : Int))).length]] 0 sz30 ?_
 refine oN ?_
 refine pq (q_fieldP rfl fa30_1 rfl) ?_
 refine pq (ql (.one (.p fr12 (Sl.t r66 s10))) 5 sz27) ?_
 refine pq (qm (iO (maxI n4 0))) ?_
 refine pq (qm (iO (minI n5 n9))) ?_
 obtain ⟨s46, h45, h⟩ := bindS h
 refine ol_new rfl rfl rfl (q_callO (args := [.one (.p fr12 (Sl.t r66 s10)), .one (iI (maxI n4 0)), .one (iI (minI n5 n9))]) (flags_Part_r (m + 3) h45) rfl rfl (vw_cons (vd_one vc_s) (vw_cons (vd_one vc_v) (vw_cons (vd_one vc_v) vw_nil))) rfl) (fun k47 => ?_)
 refine pq (q_fieldP rfl fa30_1 rfl) ?_
 refine ow [[iI (IntKind.i64.wrap ((minI n5 n9) - (maxI n4 0))), .own k47 0 (s46).length, .own (bb35 + 4) 0 ((List.replicate (IntKind.i64.wrap ((minI n5 n9) - (maxI n4 0))).toNat (0 : Int))).length]] 1 sz27 ?_
 refine oE (eS (lS ?_))
 refine L_norm (L2 := ([[(k47, 1, (s46).map (rowC r66))], [(k44, 3, [[iI (IntKind.i64.wrap ((minI n5 n9) - (maxI n4 0))), .own k47 0 (s46).length, .own (bb35 + 4) 0 ((List.replicate (IntKind.i64.wrap ((minI n5 n9) - (maxI n4 0))).toNat (0 : Int))).length]])], [((bb35 + 4), 1, ((List.replicate (IntKind.i64.wrap ((minI n5 n9) - (maxI n4 0))).toNat (0 : Int))).map (rowC r2))], [(k7, 3, [[iI 0, nC, nC]])], [(k6, 3, [[iI n9, .p fr12 (Sl.t r66 s10), .p fr12 (Sl.t r2 s11)]])]] : BL)) [0, 1, 2, 5, 6] (by decide) rfl ?_
 refine L_turn 8 rfl [[], [], [], [], [], [], [], [(bb35 + 4)]] [(false, []), (false, []), (false, []), (false, []), (false, []), (false, []), (false, []), (false, [])] [[2, 3, 4, 5, 6], [2, 3, 4, 5, 6], [0, 1, 4, 5], [0, 1, 4, 5], [0, 1, 2, 3, 5], [0, 1, 2, 3, 4], [0, 1], []] (by kernel_rfl) (by kernel_rfl) (by kernel_rfl) ?_ (fun bb48 hlt hnd => ?_)
 intro bb48 hlt hnd
 exact ⟨⟨djE, ⟨djE, ⟨djE, ⟨djE, ⟨djE, ⟨djE, ⟨djE, ⟨djN, trivial⟩⟩⟩⟩⟩⟩⟩⟩, (ltO_cons ltK_nil (ltO_cons ltK_nil (ltO_cons ltK_nil (ltO_cons ltK_nil (ltO_cons ltK_nil (ltO_cons ltK_nil (ltO_cons ltK_nil (ltO_cons (ltK_cons (key_lt hlt 2 rfl) ltK_nil) ltO_nil))))))))⟩
 refine tq [] rfl (hm0 rfl) (q_fieldP rfl fa30_2 rfl) ?_
 refine tq [1] rfl (hm0 rfl) (ql (.one (.own (bb35 + 4) 0 ((List.replicate (IntKind.i64.wrap ((minI n5 n9) - (maxI n4 0))).toNat (0 : Int))).length)) 0 sz28) ?_
 refine tq [] rfl (hm0 rfl) (q_fieldP rfl fa30_2 rfl) ?_
 refine tq [4] rfl (hm0 rfl) (ql (.one (.p fr12 (Sl.t r2 s11))) 0 sz28) ?_
 refine tq [] rfl (hm0 rfl) (qm (iO (maxI n4 0))) ?_
 refine tq [] rfl (hm0 rfl) (qm (iO (minI n5 n9))) ?_
 obtain ⟨s53, h54, h⟩ := bindS h
 refine tq [] rfl (hm0 rfl) (q_sliceS (r := r2) h54 rfl ty28 rfl ty2 (no_some rfl (cutS_some h54).1.1 _) (no_some rfl (Int.le_trans (cutS_some h54).1.1 (cutS_some h54).1.2.1) _)) ?_
 obtain ⟨l56, h55, h⟩ := bindS h
 refine tn_wrD rfl rfl rfl [2] (by decide) rfl (hm0 rfl) rfl (q_copy (r := rowC r2) (l := (List.replicate (IntKind.i64.wrap ((minI n5 n9) - (maxI n4 0))).toNat (0 : Int))) (m := s53.l) 0 rfl rfl (el_dat (fr := fr12) (r := r2) (fun x => rfl)) rfl rfl h55 (fun y => rfl) el28 ty28 rfl rfl rfl rfl rfl) (q := 2) rfl rfl ?_
 refine tn_re 31 (v := .one (.own (bb35 + 4) 0 (l56).length)) (Eq.trans (b := .one (.own (bb35 + 4) 0 ((List.replicate (IntKind.i64.wrap ((minI n5 n9) - (maxI n4 0))).toNat (0 : Int))).length)) rfl (congrArg D.one (own_cpC h55))) ?_
 refine tn_reS 1 (s' := [(k44, 3, [[iI (IntKind.i64.wrap ((minI n5 n9) - (maxI n4 0))), .own k47 0 (s46).length, .own (bb35 + 4) 0 (l56).length]])]) rfl (congrArg (fun z => ([(k44, 3, [[iI (IntKind.i64.wrap ((minI n5 n9) - (maxI n4 0))), .own k47 0 (s46).length, z]])] : List B1)) (own_cpC h55)) ?_
 refine tn_end (eS (lS (lO ?_)))
 refine pq (ql (.agg [iI (IntKind.i64.wrap ((minI n5 n9) - (maxI n4 0))), .own k47 0 (s46).length, .own (bb35 + 4) 0 (l56).length]) 1 sz30) ?_
 refine ow [[iI (IntKind.i64.wrap ((minI n5 n9) - (maxI n4 0))), .own k47 0 (s46).length, .own (bb35 + 4) 0 (l56).length]] 3 sz30 ?_
 refine oE (eS (lR ?_))
 obtain rfl := sj h
 exact E_endF (.inr rfl) (res_cell (d := .agg [iI (IntKind.i64.wrap ((minI n5 n9) - (maxI n4 0))), .own k47 0 (s46).length, .own (bb35 + 4) 0 (l56).length]) 3 rfl sz30 rfl rfl rfl rfl res_nil) (vw_cons (vd_agg (vc_cons vc_v (vc_cons (vc_own (r := r66) 0 rfl (fun x h m => rfl)) (vc_cons (vc_own (r := r2) 2 rfl (fun x h m => rfl)) vc_nil)))) vw_nil) oG rfl rfl
noncomputable def devec_Back_b1 (s8 : Sl (Int)) (s9 : Sl (Int)) (a : Int × (List (Int × Int))) : Option ((Int × (List (Int × Int))) ⊕ ((List (Int × Int)) ⊕ Empty)) :=
 match a with
 | (n48, l49) => (if n48 < ((s9.l.length : Nat) : Int) then ((atS 1 s9 n48).bind fun n54 => ((flags_Has s8 n48).bind fun b56 => (if b56 = true then ((app l49 ([(n48, n54)] : List (Int × Int))).bind fun _ => some (.inl ((IntKind.i64.wrap (n48 + 1)), (l49 ++ ([(n48, n54)] : List (Int × Int)))))) else some (.inl ((IntKind.i64.wrap (n48 + 1)), l49))))) else some (.inr (.inl l49)))
noncomputable def devec_Back (a0 : Int × Sl (Int) × Sl (Int)) : Option ((Int × (Sl (Int × Int)))) :=
 match a0 with
 | (n1, s2, s3) => ((devec_sure (n1, s2, s3)).bind fun (n7, s8, s9) => ((loopO (devec_Back_b1 s8 s9) (0, ([] : List (Int × Int)))).bind (Sum.elim (fun l60 => some (n7, (mo 2 l60))) (fun u => u.elim))))
theorem devec_Back_r (m : Nat) {a0 : Int × Sl (Int) × Sl (Int)} {out : (Int × (Sl (Int × Int)))} (h : devec_Back a0 = some out) : RunsP E1 (m + 7) 8 [.agg (r29 a0)] (.fresh, [.agg (r24 out)]) := by
 obtain ⟨n1, s2, s3⟩ := a0
 refine fn_F rfl (by rw [E1_fn]; exact show fiOf Tryd.prog 8 = _ by unfold fiOf; rw [Tryd.func8]; unfold Tryd.f8; rfl) rfl ?_
 dsimp only
 unfold devec_Back at h
 refine lS (lO ?_)
 refine ol_new rfl rfl rfl (q_box ty30 rfl (cs := [iI n1, sF r66 s2, sF r2 s3]) rfl rfl) (fun k4 => ?_)
 refine ol_new rfl rfl rfl (q_alloc ty25 (row := [iI 0, nC]) rfl rfl) (fun k5 => ?_)
 refine oN ?_
 refine pq (ql (.agg [iI n1, sF r66 s2, sF r2 s3]) 1 sz30) ?_
 obtain ⟨⟨n7, s8, s9⟩, h6, h⟩ := bindS h
 refine ol_putX rfl rfl rfl (q_callX (v := fun fr10 => .agg [iI n7, .p fr10 (Sl.t r66 s8), .p fr10 (Sl.t r2 s9)]) (args := [.agg [iI n1, sF r66 s2, sF r2 s3]]) (devec_sure_r (m + 0) h6) rfl rfl (vw_cons (vd_agg (vc_cons vc_v (vc_cons vc_s (vc_cons vc_s vc_nil)))) vw_nil) rfl rfl (fun fr => rfl)) (fun fr10 => ?_)
 refine ow [[iI n7, .p fr10 (Sl.t r66 s8), .p fr10 (Sl.t r2 s9)]] 1 sz30 ?_
 refine oN ?_
 refine pq (q_fieldP rfl fa30_0 rfl) ?_
 refine pq (ql (iO n7) 1 sz3) ?_
 refine pq (q_build (cs := [iI n7, nC]) ty25 rfl pl25 rfl) ?_
 refine ol_new rfl rfl rfl (q_alloc ty25 (row := [iI 0, nC]) rfl rfl) (fun k11 => ?_)
 refine ow [[iI n7, nC]] 0 sz25 ?_
 refine oE (eS (lS (lS (lO ?_))))
 refine pq (ql (.agg [iI n7, .p fr10 (Sl.t r66 s8), .p fr10 (Sl.t r2 s9)]) 2 sz30) ?_
 refine ol_scallN (args := [.agg [iI n7, .p fr10 (Sl.t r66 s8), .p fr10 (Sl.t r2 s9)]]) rfl rfl rfl ax23 (by rw [E1_fn]; exact show fiOf Tryd.prog 23 = _ by unfold fiOf; rw [Tryd.func23]; unfold Tryd.f23; rfl) rfl rfl rfl ?_
 dsimp only
 refine lS (lO ?_)
 refine ol_new rfl rfl rfl (q_box ty30 rfl (cs := [iI n7, .p fr10 (Sl.t r66 s8), .p fr10 (Sl.t r2 s9)]) rfl rfl) (fun k12 => ?_)
 refine pq (qa (.one (.p true (.v .nilFunc)))) ?_
 refine oN ?_
 refine pq (q_mkfun rfl rfl) ?_
 refine pq (qa (.one (.clo (.func 36) [] [.ptr k12 0 0]))) ?_
 refine oE (eS (lR ?_))
 refine E_call (v := .one (.clo (.func 36) [] [.ptr k12 0 0])) (.inr rfl) (res_tmp (d := .one (.clo (.func 36) [] [.ptr k12 0 0])) rfl res_nil) rfl ?_
 refine oE (eS (lB ?_))
 refine L_range rfl (by rw [E1_fn]; exact show fiOf Tryd.prog 36 = _ by unfold fiOf; rw [Tryd.func36]; unfold Tryd.f36; rfl) rfl rfl (fun k13 => ?_)
 dsimp only
 refine lS (lO ?_)
 refine pq (q_fieldP rfl fa30_2 rfl) ?_
 refine pq (ql (.one (.p fr10 (Sl.t r2 s9))) 1 sz28) ?_
 refine pq (q_lenS rfl ty28 rfl rfl rfl rfl) ?_
 refine pq (qm (iO 0)) ?_
 refine oE (eS (lB ?_))
 refine L_addM (α := Int × Int) r44 2 ?_
 let S1 : (Int × (List (Int × Int))) → Nat → (Nat → D) → Nat → D := fun a kt g => ups g [(0, .one (.yld k13)), (1, .one (.ptr k12 0 0)), (6, .one (.p fr10 (Sl.t r2 s9))), (7, .one (iI ((s9.l.length : Nat) : Int))), (8, .one (iI a.1))]
 let SL1 : (Int × (List (Int × Int))) → Nat → BL := fun a kt => ([[(k13, 0, [])], [(k12, 3, [[iI n7, .p fr10 (Sl.t r66 s8), .p fr10 (Sl.t r2 s9)]])], [(k5, 2, [[iI 0, nC]])], [(k11, 2, [[iI n7, moC a.2 kt]])], moL r44 2 a.2 kt] : BL)
 let G1 : Empty → Ex → St → Prop := fun u => u.elim
 let Sx1 : (List (Int × Int)) → Nat → (Nat → D) → Nat → D := fun a kt g => ups g []
 let SLx1 : (List (Int × Int)) → Nat → BL := fun a kt => ([[(k5, 2, [[iI 0, nC]])], [(k11, 2, [[iI n7, moC a kt]])], [(k13, 0, [])], moL r44 2 a kt] : BL)
 let J1 : ((List (Int × Int)) ⊕ Empty) → Ex → St → Prop := JX 25 0 Sx1 SLx1 G1
 refine L_loopS (devec_Back_b1 s8 s9) S1 SL1 J1 JX_n (0, ([] : List (Int × Int))) h 1046 (ups_self ⟨rfl, rfl, rfl, rfl, rfl, trivial⟩) [1, 2, 4, 3, 0] (by decide) rfl ?_ ?_
 rintro ⟨n48, l49⟩ k50 g out h
 change devec_Back_b1 s8 s9 (n48, l49) = some out at h
 unfold devec_Back_b1 at h
 refine lS (lO ?_)
 by_cases c51 : n48 < ((s9.l.length : Nat) : Int)
 replace h := ifT c51 h
 refine pq (qb (p_lss_tZ c51)) ?_
 refine oE (eS (lS (cT rfl (lK (eS (lS (lB (lS (lO ?_)))))))))
 refine pq (qm (iO n48)) ?_
 obtain ⟨n54, h53, h⟩ := bindS h
 obtain ⟨h53a, h53b, h53⟩ := atS_some h53
 refine pq (q_ixS rfl rfl h53a h53 (el28.trans (congrArg some h53b.symm))) ?_
 refine pq (q_loadI (v := iO n54) rfl sz2 (map_get h53) rfl rfl) ?_
 refine pq (qa (iO n48)) ?_
 refine pq (qa (iO n54)) ?_
 refine oN ?_
 refine pq (q_fieldP rfl fa30_1 rfl) ?_
 refine pq (ql (.one (.p fr10 (Sl.t r66 s8))) 1 sz27) ?_
 refine pq (qm (iO n48)) ?_
 obtain ⟨b56, h55, h⟩ := bindS h
 refine pq (qc (bO b56) [.one (.p fr10 (Sl.t r66 s8)), iO n48] (flags_Has_r (m + 3) h55) (vw_cons (vd_one vc_s) (vw_cons (vd_one vc_v) vw_nil))) ?_
 refine pq (qm (bO b56)) ?_
 rcases b56 with _ | _
 replace h := wF h
 iterate 5 refine os ?_
 refine pq (qpf bf) ?_
 refine oE (eS (cF rfl (lK (bN (eS (lO ?_))))))
 refine pq (qb p_addY) ?_
 refine pq (qm (iO (IntKind.i64.wrap (n48 + 1)))) ?_
 refine oE ?_
 obtain rfl := sj h
 exact E_next k50 (ups_self ⟨rfl, rfl, rfl, rfl, rfl, trivial⟩) [0, 1, 2, 3, 4] (by decide) rfl
 replace h := wT h
 refine pq (qm (.one (.yld k13))) ?_
 refine pq (qm (iO n48)) ?_
 refine pq (qm (iO n54)) ?_
 refine ol_yield (args := [iO n48, iO n54]) (p := 0) rfl rfl rfl rfl rfl rfl rfl rfl rfl ?_
 refine lS (lO ?_)
 refine pq (qa (iO n48)) ?_
 refine oR ?_
 refine pq (qa (iO n54)) ?_
 refine oE ?_
 refine E_asg ?_
 refine lB (lO ?_)
 refine pq (q_fieldP rfl fa25_1 rfl) ?_
 refine pq (ql (.one (moC l49 k50)) 3 sz22) ?_
 refine pq (qm (iO n48)) ?_
 refine pq (qm (iO n54)) ?_
 refine pq (q_build (cs := [iI n48, iI n54]) ty45 rfl pl45 rfl) ?_
 refine ol_new rfl rfl rfl (q_bslice (cs := [iI n48, iI n54]) (es := (([(n48, n54)] : List (Int × Int))).map (rowC r44)) ty22 rfl ty45 rfl rfl rfl rfl rfl) (fun k57 => ?_)
 obtain ⟨_, h58, h⟩ := bindS h
 obtain ⟨h58b, rfl⟩ := app_some h58
 refine ol_appM (r := r44) (l := l49) (ys := ([(n48, n54)] : List (Int × Int))) 5 rfl rfl rfl rfl rfl rfl (el_ownM (l := ([(n48, n54)] : List (Int × Int))) 0 rfl) rfl h58 (fun y => rfl) el22 ty22 rfl rfl rfl rfl rfl (fun k59 => ?_)
 refine pq (q_fieldP rfl fa25_1 rfl) ?_
 refine ow [[iI n7, moC (l49 ++ ([(n48, n54)] : List (Int × Int))) k59]] 5 sz22 ?_
 refine oE (bN ?_)
 refine E_roundN (p := 2) rfl ?_
 refine pq (q_not rfl) ?_
 refine pq (qpt bf) ?_
 refine oE (eS (cF rfl (lK (bN (eS (lO ?_))))))
 refine pq (qb p_addY) ?_
 refine pq (qm (iO (IntKind.i64.wrap (n48 + 1)))) ?_
 refine oE ?_
 obtain rfl := sj h
 exact E_next k59 (ups_self ⟨rfl, rfl, rfl, rfl, rfl, trivial⟩) [2, 3, 4, 5, 0] (by decide) rfl
 replace h := ifF c51 h
 refine pq (qb (p_lss_fZ c51)) ?_
 refine oE (eS (lS (cF rfl (L_exit ?_))))
 refine E_seqX ?_
 obtain rfl := sj h
 refine E_out ?_
 exact (E_exit k50 (ups_self trivial) [2, 3, 0, 4] (by decide) rfl)
 rintro (l60 | u) h
 refine J_x (fun k61 g => ?_)
 replace h := elimL h
 refine bH ?_
 refine E_range (p := 2) (.inl rfl) rfl ?_
 refine bN (eS (lS (lO ?_)))
 refine pq (ql (.agg [iI n7, moC l60 k61]) 1 sz25) ?_
 refine ow [[iI n7, moC l60 k61]] 0 sz25 ?_
 refine oE (eS (lR ?_))
 obtain rfl := sj h
 exact E_endF (.inr rfl) (res_cell (d := .agg [iI n7, moC l60 k61]) 0 rfl sz25 rfl rfl rfl rfl res_nil) (vw_cons (vd_agg (vc_cons vc_v (vc_cons (vc_M (r := r44) 3 rfl (fun x h m => rfl)) vc_nil))) vw_nil) oG rfl rfl
 exact u.elim
noncomputable def spvec_Glue_b1 (s1 : Sl (Int × (Sl (Int × Int)))) (a : Int × Int × (List (Int × Int))) : Option ((Int × Int × (List (Int × Int))) ⊕ ((Int × (List (Int × Int))) ⊕ ((Int × (Sl (Int × Int))) × Int))) :=
 match a with
 | (n76, n77, l78) => (if n76 < ((s1.l.length : Nat) : Int) then ((atS 2 s1 n76).bind fun (n83, s84) => ((spvec_sure (n83, s84)).bind fun (n87, s88) => ((spvec_moved s88 n77).bind fun s96 => (match s96 with | [] => (match l78 with | [] => (if (IntKind.i64.wrap (n77 + n87)) > 4096 then some (.inr (.inr ((0, (⟨false, 0, []⟩ : Sl (Int × Int))), 5))) else some (.inl ((IntKind.i64.wrap (n76 + 1)), (IntKind.i64.wrap (n77 + n87)), ([] : List (Int × Int))))) | y101 :: t102 => ((app (y101 :: t102) ([] : List (Int × Int))).bind fun _ => (if (IntKind.i64.wrap (n77 + n87)) > 4096 then some (.inr (.inr ((0, (⟨false, 0, []⟩ : Sl (Int × Int))), 5))) else some (.inl ((IntKind.i64.wrap (n76 + 1)), (IntKind.i64.wrap (n77 + n87)), ((y101 :: t102) ++ ([] : List (Int × Int)))))))) | y97 :: t98 => ((app l78 (y97 :: t98)).bind fun _ => (if (IntKind.i64.wrap (n77 + n87)) > 4096 then some (.inr (.inr ((0, (⟨false, 0, []⟩ : Sl (Int × Int))), 5))) else some (.inl ((IntKind.i64.wrap (n76 + 1)), (IntKind.i64.wrap (n77 + n87)), (l78 ++ (y97 :: t98)))))))))) else some (.inr (.inl (n77, l78))))
noncomputable def spvec_Glue (s1 : Sl (Int × (Sl (Int × Int)))) : Option ((Int × (Sl (Int × Int))) × Int) :=
 ((loopO (spvec_Glue_b1 s1) (0, 0, ([] : List (Int × Int)))).bind (Sum.elim (fun ⟨n115, l116⟩ => some ((n115, (mo 2 l116)), 0)) (fun u => some u)))
theorem spvec_Glue_r (m : Nat) {s1 : Sl (Int × (Sl (Int × Int)))} {out : (Int × (Sl (Int × Int))) × Int} (h : spvec_Glue s1 = some out) : RunsP E1 (m + 4) 7 [.one (Sl.t r24 s1)] (.fresh, [.agg (r24 out.1), .one (iT .i64 out.2)]) := by
 refine fn_F rfl (by rw [E1_fn]; exact show fiOf Tryd.prog 7 = _ by unfold fiOf; rw [Tryd.func7]; unfold Tryd.f7; rfl) rfl ?_
 dsimp only
 unfold spvec_Glue at h
 refine lS (lO ?_)
 refine ol_new rfl rfl rfl (q_alloc ty25 (row := [iI 0, nC]) rfl rfl) (fun k2 => ?_)
 refine pq (qa (iO 0)) ?_
 refine oN ?_
 refine ol_new rfl rfl rfl (q_alloc ty25 (row := [iI 0, nC]) rfl rfl) (fun k3 => ?_)
 refine oE (eS (lS (lS (lO ?_))))
 refine pq (qm (.one (sF r24 s1))) ?_
 refine pq (q_lenS rfl ty57 rfl rfl rfl rfl) ?_
 refine pq (qm (iO 0)) ?_
 refine oE (eS (lB ?_))
 refine L_addM (α := Int × Int) r44 2 ?_
 let S1 : (Int × Int × (List (Int × Int))) → Nat → (Nat → D) → Nat → D := fun a kt g => ups g [(2, .one (.ptr k2 0 0)), (4, .one (.ptr k3 0 0)), (7, .one (sF r24 s1)), (8, .one (iI ((s1.l.length : Nat) : Int))), (9, .one (iI a.1))]
 let SL1 : (Int × Int × (List (Int × Int))) → Nat → BL := fun a kt => ([[(k2, 2, [[iI 0, nC]])], [(k3, 2, [[iI a.2.1, moC a.2.2 kt]])], moL r44 2 a.2.2 kt] : BL)
 let G1 : ((Int × (Sl (Int × Int))) × Int) → Ex → St → Prop := fun u => endQ E1 [.cell 2 25, .tmp 3] (.fresh, [.agg (r24 u.1), .one (iT .i64 u.2)])
 let Sx1 : (Int × (List (Int × Int))) → Nat → (Nat → D) → Nat → D := fun a kt g => ups g [(2, .one (.ptr k2 0 0)), (4, .one (.ptr k3 0 0))]
 let SLx1 : (Int × (List (Int × Int))) → Nat → BL := fun a kt => ([[(k2, 2, [[iI 0, nC]])], [(k3, 2, [[iI a.1, moC a.2 kt]])], moL r44 2 a.2 kt] : BL)
 let J1 : ((Int × (List (Int × Int))) ⊕ ((Int × (Sl (Int × Int))) × Int)) → Ex → St → Prop := JX 36 0 Sx1 SLx1 G1
 refine L_loopS (spvec_Glue_b1 s1) S1 SL1 J1 JX_n (0, 0, ([] : List (Int × Int))) h 1074 (ups_self ⟨rfl, rfl, rfl, rfl, rfl, trivial⟩) [2, 1, 0] (by decide) rfl ?_ ?_
 rintro ⟨n76, n77, l78⟩ k79 g out h
 change spvec_Glue_b1 s1 (n76, n77, l78) = some out at h
 unfold spvec_Glue_b1 at h
 refine lS (lO ?_)
 by_cases c80 : n76 < ((s1.l.length : Nat) : Int)
 replace h := ifT c80 h
 refine pq (qb (p_lss_tZ c80)) ?_
 refine oE (eS (lS (cT rfl (lK (eS (lS (lB (lS (lO ?_)))))))))
 obtain ⟨⟨n83, s84⟩, h82, h⟩ := bindS h
 obtain ⟨h82a, h82b, h82⟩ := atS_some h82
 refine pq (q_ixS rfl rfl h82a h82 (el57.trans (congrArg some h82b.symm))) ?_
 refine pq (q_loadI (v := .agg [iI n83, sF r44 s84]) rfl sz25 (map_get h82) rfl rfl) ?_
 refine ol_new rfl rfl rfl (q_alloc ty25 (row := [iI 0, nC]) rfl rfl) (fun k85 => ?_)
 refine ow [[iI n83, sF r44 s84]] 0 sz25 ?_
 refine oN ?_
 refine pq (ql (.agg [iI n83, sF r44 s84]) 0 sz25) ?_
 obtain ⟨⟨n87, s88⟩, h86, h⟩ := bindS h
 refine ol_putX rfl rfl rfl (q_callX (v := fun fr89 => .agg [iI n87, .p fr89 (Sl.t r44 s88)]) (args := [.agg [iI n83, sF r44 s84]]) (spvec_sure_r (m + 0) h86) rfl rfl (vw_cons (vd_agg (vc_cons vc_v (vc_cons vc_s vc_nil))) vw_nil) rfl rfl (fun fr => rfl)) (fun fr89 => ?_)
 refine ow [[iI n87, .p fr89 (Sl.t r44 s88)]] 0 sz25 ?_
 refine oE (eS (lS ?_))
 obtain ⟨s96, h95, h⟩ := bindS h
 rcases s96 with _ | ⟨y97, t98⟩
 dsimp only at h
 rcases l78 with _ | ⟨y101, t102⟩
 dsimp only at h
 refine L_norm (L2 := ([[(k85, 2, [[iI n87, .p fr89 (Sl.t r44 s88)]])], [(k2, 2, [[iI 0, nC]])], [(k3, 2, [[iI n77, moC ([] : List (Int × Int)) k79]])], moL r44 2 ([] : List (Int × Int)) k79] : BL)) [0, 1, 2, 3] (by decide) rfl ?_
 refine L_turn 10 rfl [[], [], [], [], [], [], [], [], [], [k3]] [(false, []), (false, []), (false, []), (false, []), (false, []), (false, []), (true, []), (false, []), (false, []), (false, [])] [[2, 3, 4, 5, 6], [2, 3, 4, 5, 6], [0, 1, 4, 5], [0, 1, 4, 5], [0, 1, 2, 3], [0, 1, 2, 3], [0, 1], [], [], []] (by kernel_rfl) (by kernel_rfl) (by kernel_rfl) ?_ (fun bb103 hlt hnd => ?_)
 intro bb103 hlt hnd
 exact ⟨⟨djE, ⟨djE, ⟨djE, ⟨djE, ⟨djE, ⟨djE, ⟨djE, ⟨djE, ⟨djE, ⟨djN, trivial⟩⟩⟩⟩⟩⟩⟩⟩⟩⟩, (ltO_cons ltK_nil (ltO_cons ltK_nil (ltO_cons ltK_nil (ltO_cons ltK_nil (ltO_cons ltK_nil (ltO_cons ltK_nil (ltO_cons ltK_nil (ltO_cons ltK_nil (ltO_cons ltK_nil (ltO_cons (ltK_cons (key_lt hlt 2 rfl) ltK_nil) ltO_nil))))))))))⟩
 refine tq [] rfl hmn (q_fieldP rfl fa25_1 rfl) ?_
 refine tq [2] rfl (hmc (nin_cons (ne_new (key_lt hlt 2 rfl)) nin_nil) hmn) (ql (.one (moC ([] : List (Int × Int)) k79)) 0 sz22) ?_
 refine tq [] rfl (hm0 rfl) (q_fieldP rfl fa25_1 rfl) ?_
 refine tq [0] rfl (hm0 rfl) (ql (.one (.p fr89 (Sl.t r44 s88))) 0 sz22) ?_
 refine tq [] rfl (hm0 rfl) (q_fieldP rfl fa25_0 rfl) ?_
 refine tq [2] rfl (hm0 rfl) (ql (iO n77) 0 sz3) ?_
 refine tn_new rfl rfl rfl [] (by decide) rfl (hm0 rfl) rfl rfl (hkc (ne_new (key_lt hlt 0 rfl)) (hkc (ne_new (key_lt hlt 1 rfl)) (hkc (ne_new (key_lt hlt 2 rfl)) (hkM (.inl rfl) hkn)))) (q_callO (args := [.one (.p fr89 (Sl.t r44 s88)), iO n77]) (spvec_moved_r (m + 2) h95) rfl rfl (vw_cons (vd_one vc_s) (vw_cons (vd_one vc_v) vw_nil)) rfl) ?_
 refine tq [4, 0] rfl (hm0 rfl) (q_appN rfl rfl (el_ownM (l := ([] : List (Int × Int))) 1 rfl) el22 ty22 rfl rfl rfl rfl rfl) ?_
 refine tq [] rfl (hm0 rfl) (q_fieldP rfl fa25_1 rfl) ?_
 refine tn_wr rfl rfl [3] (by decide) rfl (hm0 rfl) rfl (q_store (es' := [[iI n77, moC ([] : List (Int × Int)) k79]]) 0 rfl rfl rfl sz22 rfl rfl rfl rfl rfl) (q := 3) rfl rfl ?_
 refine tn_end (eS (lS (lO ?_)))
 refine pq (q_fieldP rfl fa25_0 rfl) ?_
 refine pq (ql (iO n77) 3 sz3) ?_
 refine pq (q_fieldP rfl fa25_0 rfl) ?_
 refine pq (ql (iO n87) 1 sz3) ?_
 refine pq (qb p_addY) ?_
 refine pq (q_fieldP rfl fa25_0 rfl) ?_
 refine ow [[iI (IntKind.i64.wrap (n77 + n87)), moC ([] : List (Int × Int)) k79]] 3 sz3 ?_
 refine oN ?_
 refine pq (q_fieldP rfl fa25_0 rfl) ?_
 refine pq (ql (iO (IntKind.i64.wrap (n77 + n87))) 3 sz3) ?_
 by_cases c106 : (IntKind.i64.wrap (n77 + n87)) > 4096
 replace h := ifT c106 h
 refine pq (qb (p_gtr_tZ c106)) ?_
 refine oE (eS (cT rfl (lS (lO ?_))))
 refine pq (q_build (cs := [iI 0, nC]) ty25 rfl pl25 rfl) ?_
 refine ow [[iI 0, nC]] 2 sz25 ?_
 refine pq (qa (iO 5)) ?_
 refine oE (eS (lR (bR (eR ?_))))
 obtain rfl := sj h
 exact E_out (E_up (E_endF (.inr rfl) (res_cell (d := .agg [iI 0, nC]) 2 rfl sz25 rfl rfl rfl rfl (res_tmp rfl res_nil)) (vw_cons (vd_agg (vc_cons vc_v (vc_cons vc_s vc_nil))) (vw_cons (vd_one vc_v) vw_nil)) oW rfl rfl))
 replace h := ifF c106 h
 refine pq (qb (p_gtr_fZ c106)) ?_
 refine oE (eS (cF rfl (lK (bN (eS (lO ?_))))))
 refine pq (qb p_addY) ?_
 refine pq (qm (iO (IntKind.i64.wrap (n76 + 1)))) ?_
 refine oE ?_
 obtain rfl := sj h
 exact E_next k79 (ups_self ⟨rfl, rfl, rfl, rfl, rfl, trivial⟩) [2, 3, 4] (by decide) rfl
 dsimp only at h
 refine L_norm (L2 := ([[(k85, 2, [[iI n87, .p fr89 (Sl.t r44 s88)]])], [(k2, 2, [[iI 0, nC]])], [(k3, 2, [[iI n77, .own k79 0 ((y101 :: t102)).length]])], [(k79, 2, ((y101 :: t102)).map (rowC r44))]] : BL)) [0, 1, 2, 3] (by decide) rfl ?_
 refine L_turn 10 rfl [[], [], [], [], [], [], [], [k79], [], [k3]] [(false, []), (false, []), (false, []), (false, []), (false, []), (false, []), (true, []), (true, []), (false, []), (false, [])] [[2, 3, 4, 5, 6], [2, 3, 4, 5, 6], [0, 1, 4, 5], [0, 1, 4, 5], [0, 1, 2, 3], [0, 1, 2, 3], [0, 1], [], [], []] (by kernel_rfl) (by kernel_rfl) (by kernel_rfl) ?_ (fun bb107 hlt hnd => ?_)
 intro bb107 hlt hnd
 exact ⟨⟨djE, ⟨djE, ⟨djE, ⟨djE, ⟨djE, ⟨djE, ⟨djE, ⟨djN, ⟨djE, ⟨djN, trivial⟩⟩⟩⟩⟩⟩⟩⟩⟩⟩, (ltO_cons ltK_nil (ltO_cons ltK_nil (ltO_cons ltK_nil (ltO_cons ltK_nil (ltO_cons ltK_nil (ltO_cons ltK_nil (ltO_cons ltK_nil (ltO_cons (ltK_cons (key_lt hlt 3 rfl) ltK_nil) (ltO_cons ltK_nil (ltO_cons (ltK_cons (key_lt hlt 2 rfl) ltK_nil) ltO_nil))))))))))⟩
 refine tq [] rfl hmn (q_fieldP rfl fa25_1 rfl) ?_
 refine tq [2] rfl (hmc (nin_cons (ne_new (key_lt hlt 2 rfl)) nin_nil) hmn) (ql (.one (.own k79 0 ((y101 :: t102)).length)) 0 sz22) ?_
 refine tq [] rfl (hm0 rfl) (q_fieldP rfl fa25_1 rfl) ?_
 refine tq [0] rfl (hm0 rfl) (ql (.one (.p fr89 (Sl.t r44 s88))) 0 sz22) ?_
 refine tq [] rfl (hm0 rfl) (q_fieldP rfl fa25_0 rfl) ?_
 refine tq [2] rfl (hm0 rfl) (ql (iO n77) 0 sz3) ?_
 refine tn_new rfl rfl rfl [] (by decide) rfl (hm0 rfl) rfl rfl (hkc (ne_new (key_lt hlt 0 rfl)) (hkc (ne_new (key_lt hlt 1 rfl)) (hkc (ne_new (key_lt hlt 2 rfl)) (hkc (ne_new (key_lt hlt 3 rfl)) hkn)))) (q_callO (args := [.one (.p fr89 (Sl.t r44 s88)), iO n77]) (spvec_moved_r (m + 2) h95) rfl rfl (vw_cons (vd_one vc_s) (vw_cons (vd_one vc_v) vw_nil)) rfl) ?_
 obtain ⟨_, h109, h⟩ := bindS h
 obtain ⟨h109b, rfl⟩ := app_some h109
 refine tn_app rfl rfl rfl [0, 4] (by decide) rfl (hm0 rfl) rfl rfl (hkc (ne_add rfl) (hkc (ne_new (key_lt hlt 0 rfl)) (hkc (ne_new (key_lt hlt 1 rfl)) (hkc (ne_new (key_lt hlt 2 rfl)) (hkc (ne_new (key_lt hlt 3 rfl)) hkn))))) (q_app 1 rfl rfl (el_ownM (l := ([] : List (Int × Int))) 0 rfl) rfl rfl h109 (fun y => rfl) el22 ty22 rfl rfl rfl rfl rfl) (q := 4) rfl rfl ?_
 refine tq [] rfl (hm0 rfl) (q_fieldP rfl fa25_1 rfl) ?_
 refine tn_wr rfl rfl [4] (by decide) rfl (hm0 rfl) rfl (q_store (es' := [[iI n77, .own (bb107 + 7) 0 (((y101 :: t102) ++ ([] : List (Int × Int)))).length]]) 0 rfl rfl rfl sz22 rfl rfl rfl rfl rfl) (q := 4) rfl rfl ?_
 refine tn_reS 0 (s' := moL r44 2 ((y101 :: t102) ++ ([] : List (Int × Int))) (bb107 + 7)) rfl rfl ?_
 refine tn_reS 4 (s' := [(k3, 2, [[iI n77, moC ((y101 :: t102) ++ ([] : List (Int × Int))) (bb107 + 7)]])]) rfl rfl ?_
 refine tn_end (eS (lS (lO ?_)))
 refine pq (q_fieldP rfl fa25_0 rfl) ?_
 refine pq (ql (iO n77) 4 sz3) ?_
 refine pq (q_fieldP rfl fa25_0 rfl) ?_
 refine pq (ql (iO n87) 2 sz3) ?_
 refine pq (qb p_addY) ?_
 refine pq (q_fieldP rfl fa25_0 rfl) ?_
 refine ow [[iI (IntKind.i64.wrap (n77 + n87)), moC ((y101 :: t102) ++ ([] : List (Int × Int))) (bb107 + 7)]] 4 sz3 ?_
 refine oN ?_
 refine pq (q_fieldP rfl fa25_0 rfl) ?_
 refine pq (ql (iO (IntKind.i64.wrap (n77 + n87))) 4 sz3) ?_
 by_cases c110 : (IntKind.i64.wrap (n77 + n87)) > 4096
 replace h := ifT c110 h
 refine pq (qb (p_gtr_tZ c110)) ?_
 refine oE (eS (cT rfl (lS (lO ?_))))
 refine pq (q_build (cs := [iI 0, nC]) ty25 rfl pl25 rfl) ?_
 refine ow [[iI 0, nC]] 3 sz25 ?_
 refine pq (qa (iO 5)) ?_
 refine oE (eS (lR (bR (eR ?_))))
 obtain rfl := sj h
 exact E_out (E_up (E_endF (.inr rfl) (res_cell (d := .agg [iI 0, nC]) 3 rfl sz25 rfl rfl rfl rfl (res_tmp rfl res_nil)) (vw_cons (vd_agg (vc_cons vc_v (vc_cons vc_s vc_nil))) (vw_cons (vd_one vc_v) vw_nil)) oW rfl rfl))
 replace h := ifF c110 h
 refine pq (qb (p_gtr_fZ c110)) ?_
 refine oE (eS (cF rfl (lK (bN (eS (lO ?_))))))
 refine pq (qb p_addY) ?_
 refine pq (qm (iO (IntKind.i64.wrap (n76 + 1)))) ?_
 refine oE ?_
 obtain rfl := sj h
 exact E_next (bb107 + 7) (ups_self ⟨rfl, rfl, rfl, rfl, rfl, trivial⟩) [3, 4, 0] (by decide) rfl
 dsimp only at h
 refine L_norm (L2 := ([[(k85, 2, [[iI n87, .p fr89 (Sl.t r44 s88)]])], [(k2, 2, [[iI 0, nC]])], [(k3, 2, [[iI n77, moC l78 k79]])], moL r44 2 l78 k79] : BL)) [0, 1, 2, 3] (by decide) rfl ?_
 refine L_turn 10 rfl [[], [], [], [], [], [], [], moK l78 k79, [], [k3]] [(false, []), (false, []), (false, []), (false, []), (false, []), (false, []), (true, []), (true, []), (false, []), (false, [])] [[2, 3, 4, 5, 6], [2, 3, 4, 5, 6], [0, 1, 4, 5], [0, 1, 4, 5], [0, 1, 2, 3], [0, 1, 2, 3], [0, 1], [], [], []] (by kernel_rfl) (by kernel_rfl) (by kernel_rfl) ?_ (fun bb111 hlt hnd => ?_)
 intro bb111 hlt hnd
 have e_k85 : k85 < bb111 := key_lt hlt 0 rfl
 have e_k2 : k2 < bb111 := key_lt hlt 1 rfl
 have e_k3 : k3 < bb111 := key_lt hlt 2 rfl
 have e_k79 : l78 = [] ∨ k79 < bb111 := key_ltM (r := r44) (w := 2) hlt 3 rfl
 have f_k79 := moK_lt e_k79
 have d_k3_k85 : k3 ≠ k85 := key_ne hnd 2 0 rfl rfl rfl
 have d_k3_k2 : k3 ≠ k2 := key_ne hnd 2 1 rfl rfl rfl
 have d_k79_k85 : k85 ∉ moK l78 k79 := key_neM (r := r44) (w := 2) hnd 3 0 rfl rfl rfl
 have g_k79_k85 := moK_ne d_k79_k85
 have d_k79_k2 : k2 ∉ moK l78 k79 := key_neM (r := r44) (w := 2) hnd 3 1 rfl rfl rfl
 have g_k79_k2 := moK_ne d_k79_k2
 have d_k79_k3 : k3 ∉ moK l78 k79 := key_neM (r := r44) (w := 2) hnd 3 2 rfl rfl rfl
 have g_k79_k3 := moK_ne d_k79_k3
 exact ⟨(by first | (simp [DJ]; done) | (simp [DJ]; omega) | (simp [DJ]; assumption) | (simp_all [DJ]; done) | (simp_all [DJ]; omega)), (by first | (simp [DJ]; done) | (simp [DJ]; omega) | (simp [DJ]; assumption) | (simp_all [DJ]; done) | (simp_all [DJ]; omega))⟩
 have e_k85 : k85 < bb111 := key_lt hlt 0 rfl
 have e_k2 : k2 < bb111 := key_lt hlt 1 rfl
 have e_k3 : k3 < bb111 := key_lt hlt 2 rfl
 have e_k79 : l78 = [] ∨ k79 < bb111 := key_ltM (r := r44) (w := 2) hlt 3 rfl
 have f_k79 := moK_lt e_k79
 have d_k3_k85 : k3 ≠ k85 := key_ne hnd 2 0 rfl rfl rfl
 have d_k3_k2 : k3 ≠ k2 := key_ne hnd 2 1 rfl rfl rfl
 have d_k79_k85 : k85 ∉ moK l78 k79 := key_neM (r := r44) (w := 2) hnd 3 0 rfl rfl rfl
 have g_k79_k85 := moK_ne d_k79_k85
 have d_k79_k2 : k2 ∉ moK l78 k79 := key_neM (r := r44) (w := 2) hnd 3 1 rfl rfl rfl
 have g_k79_k2 := moK_ne d_k79_k2
 have d_k79_k3 : k3 ∉ moK l78 k79 := key_neM (r := r44) (w := 2) hnd 3 2 rfl rfl rfl
 have g_k79_k3 := moK_ne d_k79_k3
 refine tq [] rfl hmn (q_fieldP rfl fa25_1 rfl) ?_
 refine tq [2] rfl (hmc (nin_cons (ne_new (key_lt hlt 2 rfl)) nin_nil) hmn) (ql (.one (moC l78 k79)) 0 sz22) ?_
 refine tq [] rfl (hm0 rfl) (q_fieldP rfl fa25_1 rfl) ?_
 refine tq [0] rfl (hm0 rfl) (ql (.one (.p fr89 (Sl.t r44 s88))) 0 sz22) ?_
 refine tq [] rfl (hm0 rfl) (q_fieldP rfl fa25_0 rfl) ?_
 refine tq [2] rfl (hm0 rfl) (ql (iO n77) 0 sz3) ?_
 refine tn_new rfl rfl rfl [] (by decide) rfl (hm0 rfl) rfl rfl (hkc (ne_new (key_lt hlt 0 rfl)) (hkc (ne_new (key_lt hlt 1 rfl)) (hkc (ne_new (key_lt hlt 2 rfl)) (hkM (e_k79.imp id fun h => by omega) hkn)))) (q_callO (args := [.one (.p fr89 (Sl.t r44 s88)), iO n77]) (spvec_moved_r (m + 2) h95) rfl rfl (vw_cons (vd_one vc_s) (vw_cons (vd_one vc_v) vw_nil)) rfl) ?_
 obtain ⟨_, h113, h⟩ := bindS h
 obtain ⟨h113b, rfl⟩ := app_some h113
 refine tn_appM (r := r44) (l := l78) 0 4 rfl rfl rfl rfl [4, 0] (by decide) rfl (hm0 rfl) rfl rfl (hkc (ne_add rfl) (hkc (ne_new (key_lt hlt 0 rfl)) (hkc (ne_new (key_lt hlt 1 rfl)) (hkc (ne_new (key_lt hlt 2 rfl)) (hkM (e_k79.imp id fun h => by omega) hkn))))) rfl rfl (el_ownM (l := (y97 :: t98)) 1 rfl) rfl rfl h113 (fun y => rfl) el22 ty22 rfl rfl rfl rfl rfl ?_
 refine tq [] rfl (hm0 rfl) (q_fieldP rfl fa25_1 rfl) ?_
 refine tn_wr rfl rfl [4] (by decide) rfl (hm0 rfl) rfl (q_store (es' := [[iI n77, moC (l78 ++ (y97 :: t98)) (bb111 + 7)]]) 0 rfl rfl rfl sz22 rfl rfl rfl rfl rfl) (q := 4) rfl rfl ?_
 refine tn_end (eS (lS (lO ?_)))
 refine pq (q_fieldP rfl fa25_0 rfl) ?_
 refine pq (ql (iO n77) 4 sz3) ?_
 refine pq (q_fieldP rfl fa25_0 rfl) ?_
 refine pq (ql (iO n87) 2 sz3) ?_
 refine pq (qb p_addY) ?_
 refine pq (q_fieldP rfl fa25_0 rfl) ?_
 refine ow [[iI (IntKind.i64.wrap (n77 + n87)), moC (l78 ++ (y97 :: t98)) (bb111 + 7)]] 4 sz3 ?_
 refine oN ?_
 refine pq (q_fieldP rfl fa25_0 rfl) ?_
 refine pq (ql (iO (IntKind.i64.wrap (n77 + n87))) 4 sz3) ?_
 by_cases c114 : (IntKind.i64.wrap (n77 + n87)) > 4096
 replace h := ifT c114 h
 refine pq (qb (p_gtr_tZ c114)) ?_
 refine oE (eS (cT rfl (lS (lO ?_))))
 refine pq (q_build (cs := [iI 0, nC]) ty25 rfl pl25 rfl) ?_
 refine ow [[iI 0, nC]] 3 sz25 ?_
 refine pq (qa (iO 5)) ?_
 refine oE (eS (lR (bR (eR ?_))))
 obtain rfl := sj h
 exact E_out (E_up (E_endF (.inr rfl) (res_cell (d := .agg [iI 0, nC]) 3 rfl sz25 rfl rfl rfl rfl (res_tmp rfl res_nil)) (vw_cons (vd_agg (vc_cons vc_v (vc_cons vc_s vc_nil))) (vw_cons (vd_one vc_v) vw_nil)) oW rfl rfl))
 replace h := ifF c114 h
 refine pq (qb (p_gtr_fZ c114)) ?_
 refine oE (eS (cF rfl (lK (bN (eS (lO ?_))))))
 refine pq (qb p_addY) ?_
 refine pq (qm (iO (IntKind.i64.wrap (n76 + 1)))) ?_
 refine oE ?_
 obtain rfl := sj h
 exact E_next (bb111 + 7) (ups_self ⟨rfl, rfl, rfl, rfl, rfl, trivial⟩) [3, 4, 0] (by decide) rfl
 replace h := ifF c80 h
 refine pq (qb (p_lss_fZ c80)) ?_
 refine oE (eS (lS (cF rfl (L_exit ?_))))
 refine E_seqX ?_
 obtain rfl := sj h
 refine E_out ?_
 exact (E_exit k79 (ups_self ⟨rfl, rfl, trivial⟩) [0, 1, 2] (by decide) rfl)
 rintro (⟨n115, l116⟩ | u) h
 refine J_x (fun k117 g => ?_)
 replace h := elimL h
 refine bH (eS (lS (lO ?_)))
 refine pq (ql (.agg [iI n115, moC l116 k117]) 1 sz25) ?_
 refine ow [[iI n115, moC l116 k117]] 0 sz25 ?_
 refine pq (qa (iO 0)) ?_
 refine oE (eS (lR ?_))
 obtain rfl := sj h
 exact E_endF (.inr rfl) (res_cell (d := .agg [iI n115, moC l116 k117]) 0 rfl sz25 rfl rfl rfl rfl (res_tmp rfl res_nil)) (vw_cons (vd_agg (vc_cons vc_v (vc_cons (vc_M (r := r44) 2 rfl (fun x h m => rfl)) vc_nil))) (vw_cons (vd_one vc_v) vw_nil)) oW rfl rfl
 obtain rfl := Option.some.inj (elimR h)
 exact J_up (fun s hs => hs)
noncomputable def spvec_Fill_b1 (n1 : Int) (n2 : Int) (a : Int × (List (Int × Int))) : Option ((Int × (List (Int × Int))) ⊕ ((List (Int × Int)) ⊕ (Int × (Sl (Int × Int))))) :=
 match a with
 | (n23, l24) => (if n23 < n1 then ((atL l24 n23).bind fun (n29, n30) => some (.inl ((IntKind.i64.wrap (n23 + 1)), (l24.set n23.toNat (n23, n2))))) else some (.inr (.inl l24)))
noncomputable def spvec_Fill (n1 : Int) (n2 : Int) : Option ((Int × (Sl (Int × Int)))) :=
 ((spvec_size n1).bind fun b5 => (if b5 = true then ((lenOk n1).bind fun _ => ((loopO (spvec_Fill_b1 n1 n2) (0, (List.replicate n1.toNat ((0, 0) : Int × Int)))).bind (Sum.elim (fun l31 => some (n1, (⟨true, 2, l31⟩ : Sl (Int × Int)))) (fun u => some u)))) else some (0, (⟨false, 0, []⟩ : Sl (Int × Int)))))
theorem spvec_Fill_r (m : Nat) {n1 : Int} {n2 : Int} {out : (Int × (Sl (Int × Int)))} (h : spvec_Fill n1 n2 = some out) : RunsP E1 (m + 2) 11 [.one (iT .i64 n1), .one (iT .i64 n2)] (.fresh, [.agg (r24 out)]) := by
 refine fn_F rfl (by rw [E1_fn]; exact show fiOf Tryd.prog 11 = _ by unfold fiOf; rw [Tryd.func11]; unfold Tryd.f11; rfl) rfl ?_
 dsimp only
 unfold spvec_Fill at h
 refine lS (lO ?_)
 refine ol_new rfl rfl rfl (q_alloc ty25 (row := [iI 0, nC]) rfl rfl) (fun k3 => ?_)
 refine oE (eS (lS (lS (lO ?_))))
 refine pq (qm (iO n1)) ?_
 obtain ⟨b5, h4, h⟩ := bindS h
 refine pq (qc (bO b5) [iO n1] (spvec_size_r (m + 0) h4) (vw_cons (vd_one vc_v) vw_nil)) ?_
 rcases b5 with _ | _
 replace h := wF h
 refine pq (q_not rfl) ?_
 refine oE (eS (cT rfl (lS (lO ?_))))
 refine pq (q_build (cs := [iI 0, nC]) ty25 rfl pl25 rfl) ?_
 refine ow [[iI 0, nC]] 0 sz25 ?_
 refine oE (eS (lR (eR ?_)))
 obtain rfl := sj h
 exact E_endF (.inr rfl) (res_cell (d := .agg [iI 0, nC]) 0 rfl sz25 rfl rfl rfl rfl res_nil) (vw_cons (vd_agg (vc_cons vc_v (vc_cons vc_s vc_nil))) vw_nil) oG rfl rfl
 replace h := wT h
 refine pq (q_not rfl) ?_
 refine oE (eS (cF rfl (lK (eS (lS (lO ?_))))))
 refine pq (qm (iO n1)) ?_
 refine pq (qm (iO n1)) ?_
 obtain ⟨u6, h7, h⟩ := bindS h
 refine ol_new rfl rfl rfl (q_mkslice (r := rowC r44) (a := ((0, 0) : Int × Int)) ty22 rfl ty45 rfl rfl (lenOk_some h7).1 (lenOk_some h7).2 rfl rfl) (fun k8 => ?_)
 refine pq (q_build (cs := [iI n1, .own k8 0 ((List.replicate n1.toNat ((0, 0) : Int × Int))).length]) ty25 rfl pl25 rfl) ?_
 refine ol_new rfl rfl rfl (q_alloc ty25 (row := [iI 0, nC]) rfl rfl) (fun k9 => ?_)
 refine ow [[iI n1, .own k8 0 ((List.replicate n1.toNat ((0, 0) : Int × Int))).length]] 0 sz25 ?_
 refine oE (eS (lS (lS (lO ?_))))
 refine pq (qm (iO n1)) ?_
 refine pq (qm (iO 0)) ?_
 refine oE (eS (lB ?_))
 let S1 : (Int × (List (Int × Int))) → Nat → (Nat → D) → Nat → D := fun a kt g => ups g [(1, iO n2), (4, .one (.ptr k3 0 0)), (5, .one (.ptr k9 0 0)), (15, iO n1), (16, .one (iI a.1))]
 let SL1 : (Int × (List (Int × Int))) → Nat → BL := fun a kt => ([[(k3, 2, [[iI 0, nC]])], [(k9, 2, [[iI n1, .own kt 0 (a.2).length]])], [(kt, 2, (a.2).map (rowC r44))]] : BL)
 let G1 : (Int × (Sl (Int × Int))) → Ex → St → Prop := fun u => endQ E1 [.cell 4 25] (.fresh, [.agg (r24 u)])
 let Sx1 : (List (Int × Int)) → Nat → (Nat → D) → Nat → D := fun a kt g => ups g [(4, .one (.ptr k3 0 0)), (5, .one (.ptr k9 0 0))]
 let SLx1 : (List (Int × Int)) → Nat → BL := fun a kt => ([[(k3, 2, [[iI 0, nC]])], [(k9, 2, [[iI n1, .own kt 0 (a).length]])], [(kt, 2, (a).map (rowC r44))]] : BL)
 let J1 : ((List (Int × Int)) ⊕ (Int × (Sl (Int × Int)))) → Ex → St → Prop := JX 28 0 Sx1 SLx1 G1
 refine L_loopS (spvec_Fill_b1 n1 n2) S1 SL1 J1 JX_n (0, (List.replicate n1.toNat ((0, 0) : Int × Int))) h k8 (ups_self ⟨rfl, rfl, rfl, rfl, rfl, trivial⟩) [2, 0, 1] (by decide) rfl ?_ ?_
 rintro ⟨n23, l24⟩ k25 g out h
 change spvec_Fill_b1 n1 n2 (n23, l24) = some out at h
 unfold spvec_Fill_b1 at h
 refine lS (lO ?_)
 by_cases c26 : n23 < n1
 replace h := ifT c26 h
 refine pq (qb (p_lss_tZ c26)) ?_
 refine oE (eS (lS (cT rfl (lK (eS (lS (lB (lS (lO ?_)))))))))
 refine pq (qm (iO n23)) ?_
 refine pq (qa (iO n23)) ?_
 refine oR ?_
 refine pq (q_fieldP rfl fa25_1 rfl) ?_
 refine pq (ql (.one (.own k25 0 (l24).length)) 1 sz22) ?_
 refine pq (qm (iO n23)) ?_
 refine pq (qm (iO n23)) ?_
 refine pq (qm (iO n2)) ?_
 refine pq (q_build (cs := [iI n23, iI n2]) ty45 rfl pl45 rfl) ?_
 obtain ⟨⟨n29, n30⟩, h28, h⟩ := bindS h
 obtain ⟨h28a, h28⟩ := atL_some h28
 refine pq (q_ixO 2 rfl rfl h28a h28 rfl el22) ?_
 refine ol_wr rfl rfl (q_store (e' := rowC r44 (n23, n2)) (es' := ((l24.set n23.toNat (n23, n2))).map (rowC r44)) 2 rfl rfl rfl sz45 rfl rfl (map_get h28) rfl map_set) rfl ?_
 refine ol_re 20 (v := .one (.own k25 0 ((l24.set n23.toNat (n23, n2))).length)) (Eq.trans (b := .one (.own k25 0 (l24).length)) rfl (congrArg D.one own_setC)) ?_
 refine ol_reS 1 (s' := [(k9, 2, [[iI n1, .own k25 0 ((l24.set n23.toNat (n23, n2))).length]])]) rfl (congrArg (fun z => ([(k9, 2, [[iI n1, z]])] : List B1)) own_setC) ?_
 refine oE (bN (eS (lO ?_)))
 refine pq (qb p_addY) ?_
 refine pq (qm (iO (IntKind.i64.wrap (n23 + 1)))) ?_
 refine oE ?_
 obtain rfl := sj h
 exact E_next k25 (ups_self ⟨rfl, rfl, rfl, rfl, rfl, trivial⟩) [0, 1, 2] (by decide) rfl
 replace h := ifF c26 h
 refine pq (qb (p_lss_fZ c26)) ?_
 refine oE (eS (lS (cF rfl (L_exit ?_))))
 refine E_seqX ?_
 obtain rfl := sj h
 refine E_out ?_
 exact (E_exit k25 (ups_self ⟨rfl, rfl, trivial⟩) [0, 1, 2] (by decide) rfl)
 rintro (l31 | u) h
 refine J_x (fun k32 g => ?_)
 replace h := elimL h
 refine bH (eS (lS (lO ?_)))
 refine pq (ql (.agg [iI n1, .own k32 0 (l31).length]) 1 sz25) ?_
 refine ow [[iI n1, .own k32 0 (l31).length]] 0 sz25 ?_
 refine oE (eS (lR ?_))
 obtain rfl := sj h
 exact E_endF (.inr rfl) (res_cell (d := .agg [iI n1, .own k32 0 (l31).length]) 0 rfl sz25 rfl rfl rfl rfl res_nil) (vw_cons (vd_agg (vc_cons vc_v (vc_cons (vc_own (r := r44) 2 rfl (fun x h m => rfl)) vc_nil))) vw_nil) oG rfl rfl
 obtain rfl := Option.some.inj (elimR h)
 exact J_up (fun s hs => hs)
noncomputable def spvec_Get (a0 : Int × (Sl (Int × Int))) (n3 : Int) : Option (Int × Bool) :=
 match a0 with
 | (n1, s2) => ((spvec_sure (n1, s2)).bind fun (n6, s7) => ((spvec_find (n6, s7) n3).bind fun (n10, b11) => (if b11 = true then ((atS 2 s7 n10).bind fun (n14, n15) => some (n15, true)) else some (0, false))))
theorem spvec_Get_r (m : Nat) {a0 : Int × (Sl (Int × Int))} {n3 : Int} {out : Int × Bool} (h : spvec_Get a0 n3 = some out) : RunsP E1 (m + 4) 10 [.agg (r24 a0), .one (iT .i64 n3)] (.fresh, [.one (iT .i64 out.1), .one (bT out.2)]) := by
 obtain ⟨n1, s2⟩ := a0
 refine fn_F rfl (by rw [E1_fn]; exact show fiOf Tryd.prog 10 = _ by unfold fiOf; rw [Tryd.func10]; unfold Tryd.f10; rfl) rfl ?_
 dsimp only
 unfold spvec_Get at h
 refine lS (lO ?_)
 refine ol_new rfl rfl rfl (q_box ty25 rfl (cs := [iI n1, sF r44 s2]) rfl rfl) (fun k4 => ?_)
 refine pq (qa (iO 0)) ?_
 refine pq (qa bf) ?_
 refine oN ?_
 refine pq (ql (.agg [iI n1, sF r44 s2]) 0 sz25) ?_
 obtain ⟨⟨n6, s7⟩, h5, h⟩ := bindS h
 refine ol_putX rfl rfl rfl (q_callX (v := fun fr8 => .agg [iI n6, .p fr8 (Sl.t r44 s7)]) (args := [.agg [iI n1, sF r44 s2]]) (spvec_sure_r (m + 0) h5) rfl rfl (vw_cons (vd_agg (vc_cons vc_v (vc_cons vc_s vc_nil))) vw_nil) rfl rfl (fun fr => rfl)) (fun fr8 => ?_)
 refine ow [[iI n6, .p fr8 (Sl.t r44 s7)]] 0 sz25 ?_
 refine oN ?_
 refine pq (ql (.agg [iI n6, .p fr8 (Sl.t r44 s7)]) 0 sz25) ?_
 refine pq (qm (iO n3)) ?_
 obtain ⟨⟨n10, b11⟩, h9, h⟩ := bindS h
 refine pq (qc (.tup [iO n10, bO b11]) [.agg [iI n6, .p fr8 (Sl.t r44 s7)], iO n3] (spvec_find_r (m + 0) h9) (vw_cons (vd_agg (vc_cons vc_v (vc_cons vc_s vc_nil))) (vw_cons (vd_one vc_v) vw_nil))) ?_
 refine pq (qm (.tup [iO n10, bO b11])) ?_
 refine pq (q_ext (v := iO n10) rfl rfl) ?_
 refine pq (q_ext (v := bO b11) rfl rfl) ?_
 refine pq (qa (iO n10)) ?_
 refine pq (qa (bO b11)) ?_
 refine oE (eS (lS (lS (lO ?_))))
 refine pq (qm (bO b11)) ?_
 rcases b11 with _ | _
 replace h := wF h
 refine pq (q_not rfl) ?_
 refine oE (eS (cT rfl (lS (lO ?_))))
 refine pq (qa (iO 0)) ?_
 refine pq (qa bf) ?_
 refine oE (eS (lR (eR ?_)))
 obtain rfl := sj h
 exact E_endF (.inr rfl) (res_tmp rfl (res_tmp rfl res_nil)) (vw_cons (vd_one vc_v) (vw_cons (vd_one vc_v) vw_nil)) oW rfl rfl
 replace h := wT h
 refine pq (q_not rfl) ?_
 refine oE (eS (cF rfl (lK (eS (lS (lO ?_))))))
 refine pq (q_fieldP rfl fa25_1 rfl) ?_
 refine pq (ql (.one (.p fr8 (Sl.t r44 s7))) 0 sz22) ?_
 refine pq (qm (iO n10)) ?_
 obtain ⟨⟨n14, n15⟩, h13, h⟩ := bindS h
 obtain ⟨h13a, h13b, h13⟩ := atS_some h13
 refine pq (q_ixS rfl rfl h13a h13 (el22.trans (congrArg some h13b.symm))) ?_
 refine pq (q_fieldI rfl fa45_1 rfl) ?_
 refine pq (q_loadI (v := iO n15) rfl sz2 (map_get h13) rfl rfl) ?_
 refine pq (qa (iO n15)) ?_
 refine pq (qa bt) ?_
 refine oE (eS (lR ?_))
 obtain rfl := sj h
 exact E_endF (.inr rfl) (res_tmp rfl (res_tmp rfl res_nil)) (vw_cons (vd_one vc_v) (vw_cons (vd_one vc_v) vw_nil)) oW rfl rfl
noncomputable def slices_Equal_api_Item_api_Item_b1 (s1 : Sl (Int × Int)) (s2 : Sl (Int × Int)) (n25 : Int) : Option (Int ⊕ (Unit ⊕ Bool)) :=
 (if n25 < ((s1.l.length : Nat) : Int) then ((atS 2 s1 n25).bind fun (n29, n30) => ((atS 2 s2 n25).bind fun (n33, n34) => (if n29 = n33 ∧ n30 = n34 then some (.inl (IntKind.i64.wrap (n25 + 1))) else some (.inr (.inr false))))) else some (.inr (.inl ())))
noncomputable def slices_Equal_api_Item_api_Item (s1 : Sl (Int × Int)) (s2 : Sl (Int × Int)) : Option (Bool) :=
 (if ((s1.l.length : Nat) : Int) ≠ ((s2.l.length : Nat) : Int) then some false else ((loopO (slices_Equal_api_Item_api_Item_b1 s1 s2) 0).bind (Sum.elim (fun _ => some true) (fun u => some u))))
theorem slices_Equal_api_Item_api_Item_r (m : Nat) {s1 : Sl (Int × Int)} {s2 : Sl (Int × Int)} {out : Bool} (h : slices_Equal_api_Item_api_Item s1 s2 = some out) : RunsP E1 (m + 1) 26 [.one (Sl.t r44 s1), .one (Sl.t r44 s2)] (.fresh, [.one (bT out)]) := by
 refine fn_F rfl (by rw [E1_fn]; exact show fiOf Tryd.prog 26 = _ by unfold fiOf; rw [Tryd.func26]; unfold Tryd.f26; rfl) rfl ?_
 dsimp only
 unfold slices_Equal_api_Item_api_Item at h
 refine lS (lO ?_)
 refine pq (qa bf) ?_
 refine oE (eS (lS (lS (lO ?_))))
 refine pq (qm (.one (sF r44 s1))) ?_
 refine pq (q_lenS rfl ty22 rfl rfl rfl rfl) ?_
 refine pq (qm (.one (sF r44 s2))) ?_
 refine pq (q_lenS rfl ty22 rfl rfl rfl rfl) ?_
 by_cases c3 : ((s1.l.length : Nat) : Int) ≠ ((s2.l.length : Nat) : Int)
 replace h := ifT c3 h
 refine pq (qb (p_neq_tZ c3)) ?_
 refine oE (eS (cT rfl (lS (lO ?_))))
 refine pq (qa bf) ?_
 refine oE (eS (lR (eR ?_)))
 obtain rfl := sj h
 exact eF1
 replace h := ifF c3 h
 refine pq (qb (p_neq_fZ c3)) ?_
 refine oE (eS (cF rfl (lK (eS (lS (lS (lO ?_)))))))
 refine pq (qm (.one (sF r44 s1))) ?_
 refine pq (q_lenS rfl ty22 rfl rfl rfl rfl) ?_
 refine pq (qm (iO 0)) ?_
 refine oE (eS (lB ?_))
 let S1 : Int → Unit → (Nat → D) → Nat → D := fun a kt g => ups g [(0, .one (sF r44 s1)), (1, .one (sF r44 s2)), (12, .one (iI ((s1.l.length : Nat) : Int))), (13, iO a)]
 let SL1 : Int → Unit → BL := fun a kt => ([] : BL)
 let G1 : Bool → Ex → St → Prop := fun u => endQ E1 [.tmp 4] (.fresh, [.one (bT u)])
 let Sx1 : Unit → Unit → (Nat → D) → Nat → D := fun a kt g => ups g []
 let SLx1 : Unit → Unit → BL := fun a kt => ([] : BL)
 let J1 : (Unit ⊕ Bool) → Ex → St → Prop := JX 26 0 Sx1 SLx1 G1
 refine L_loopS (slices_Equal_api_Item_api_Item_b1 s1 s2) S1 SL1 J1 JX_n 0 h () (ups_self ⟨rfl, rfl, rfl, rfl, trivial⟩) [] (by decide) rfl ?_ ?_
 rintro n25 _ g out h
 change slices_Equal_api_Item_api_Item_b1 s1 s2 n25 = some out at h
 unfold slices_Equal_api_Item_api_Item_b1 at h
 refine lS (lO ?_)
 by_cases c26 : n25 < ((s1.l.length : Nat) : Int)
 replace h := ifT c26 h
 refine pq (qb (p_lss_tZ c26)) ?_
 refine oE (eS (lS (cT rfl (lK (eS (lS (lB (lS (lO ?_)))))))))
 refine pq (qm (iO n25)) ?_
 refine pq (qa (iO n25)) ?_
 refine oE (eS (lS ?_))
 refine L_still (by kernel_rfl) ?_
 refine sq (qm (.one (sF r44 s1))) ?_
 refine sq (qm (iO n25)) ?_
 obtain ⟨⟨n29, n30⟩, h28, h⟩ := bindS h
 obtain ⟨h28a, h28b, h28⟩ := atS_some h28
 refine sq (q_ixS rfl rfl h28a h28 (el22.trans (congrArg some h28b.symm))) ?_
 refine sq (q_loadI (v := .agg [iI n29, iI n30]) rfl sz45 (map_get h28) rfl rfl) ?_
 refine sq (qm (.one (sF r44 s2))) ?_
 refine sq (qm (iO n25)) ?_
 obtain ⟨⟨n33, n34⟩, h32, h⟩ := bindS h
 obtain ⟨h32a, h32b, h32⟩ := atS_some h32
 refine sq (q_ixS rfl rfl h32a h32 (el22.trans (congrArg some h32b.symm))) ?_
 refine sq (q_loadI (v := .agg [iI n33, iI n34]) rfl sz45 (map_get h32) rfl rfl) ?_
 by_cases c35 : n29 = n33 ∧ n30 = n34
 replace h := ifT c35 h
 refine sq (q_binA rfl rfl (by rfl) (by rfl) (eqneqA45_t _ _ c35) rfl) ?_
 refine st_end (eS (cF rfl (lK (bN (eS (lO ?_))))))
 refine pq (qb p_addY) ?_
 refine pq (qm (iO (IntKind.i64.wrap (n25 + 1)))) ?_
 refine oE ?_
 obtain rfl := sj h
 exact E_next () (ups_self ⟨rfl, rfl, rfl, rfl, trivial⟩) [] (by decide) rfl
 replace h := ifF c35 h
 refine sq (q_binA rfl rfl (by rfl) (by rfl) (eqneqA45_f _ _ c35) rfl) ?_
 refine st_end (eS (cT rfl (lS (lO ?_))))
 refine pq (qa bf) ?_
 refine oE (eS (lR (bR (eR ?_))))
 obtain rfl := sj h
 exact E_out (E_up (eF1))
 replace h := ifF c26 h
 refine pq (qb (p_lss_fZ c26)) ?_
 refine oE (eS (lS (cF rfl (L_exit ?_))))
 refine E_seqX ?_
 obtain rfl := sj h
 refine E_out ?_
 exact (E_exit () (ups_self trivial) [] (by decide) rfl)
 rintro (_ | u) h
 refine J_x (fun kt g => ?_)
 replace h := elimL h
 refine bH (eS (lS (lO ?_)))
 refine pq (qa bt) ?_
 refine oE (eS (lR ?_))
 obtain rfl := sj h
 exact eF1
 obtain rfl := Option.some.inj (elimR h)
 exact J_up (fun s hs => hs)
noncomputable def spvec_Same (a0 : Int × (Sl (Int × Int))) (a1 : Int × (Sl (Int × Int))) : Option (Bool) :=
 match a0, a1 with
 | (n1, s2), (n3, s4) => ((spvec_sure (n1, s2)).bind fun (n17, s18) => ((spvec_sure (n3, s4)).bind fun (n21, s22) => (if n17 = n21 then ((slices_Equal_api_Item_api_Item s18 s22).bind fun b26 => some b26) else some false)))
theorem spvec_Same_r (m : Nat) {a0 : Int × (Sl (Int × Int))} {a1 : Int × (Sl (Int × Int))} {out : Bool} (h : spvec_Same a0 a1 = some out) : RunsP E1 (m + 4) 12 [.agg (r24 a0), .agg (r24 a1)] (.fresh, [.one (bT out)]) := by
 obtain ⟨n1, s2⟩ := a0
 obtain ⟨n3, s4⟩ := a1
 refine fn_F rfl (by rw [E1_fn]; exact show fiOf Tryd.prog 12 = _ by unfold fiOf; rw [Tryd.func12]; unfold Tryd.f12; rfl) rfl ?_
 dsimp only
 unfold spvec_Same at h
 refine lS (lO ?_)
 refine ol_new rfl rfl rfl (q_box ty25 rfl (cs := [iI n1, sF r44 s2]) rfl rfl) (fun k5 => ?_)
 refine ol_new rfl rfl rfl (q_box ty25 rfl (cs := [iI n3, sF r44 s4]) rfl rfl) (fun k6 => ?_)
 refine pq (qa bf) ?_
 refine oE (eS (lS ?_))
 refine L_norm (L2 := ([[(k6, 2, [[iI n3, sF r44 s4]])], [(k5, 2, [[iI n1, sF r44 s2]])]] : BL)) [0, 1] (by decide) rfl ?_
 refine L_turn 6 rfl [[], [], [], [], [k5], [k6]] [(false, []), (false, []), (false, []), (false, []), (false, []), (false, [])] [[2], [2], [0, 1], [], [], []] (by kernel_rfl) (by kernel_rfl) (by kernel_rfl) ?_ (fun bb7 hlt hnd => ?_)
 intro bb7 hlt hnd
 exact ⟨⟨djE, ⟨djE, ⟨djE, ⟨djE, ⟨djN, ⟨djN, trivial⟩⟩⟩⟩⟩⟩, (ltO_cons ltK_nil (ltO_cons ltK_nil (ltO_cons ltK_nil (ltO_cons ltK_nil (ltO_cons (ltK_cons (key_lt hlt 1 rfl) ltK_nil) (ltO_cons (ltK_cons (key_lt hlt 0 rfl) ltK_nil) ltO_nil))))))⟩
 refine tq [1] rfl (hm0 rfl) (ql (.agg [iI n1, sF r44 s2]) 0 sz25) ?_
 obtain ⟨⟨n17, s18⟩, h16, h⟩ := bindS h
 refine tn_putX rfl rfl rfl [] (by decide) rfl (hm0 rfl) rfl (q_callX (v := fun fr19 => .agg [iI n17, .p fr19 (Sl.t r44 s18)]) (args := [.agg [iI n1, sF r44 s2]]) (spvec_sure_r (m + 0) h16) rfl rfl (vw_cons (vd_agg (vc_cons vc_v (vc_cons vc_s vc_nil))) vw_nil) rfl rfl (fun fr => rfl)) (fun fr19 => ?_)
 refine tq [0] rfl (hm0 rfl) (ql (.agg [iI n3, sF r44 s4]) 0 sz25) ?_
 obtain ⟨⟨n21, s22⟩, h20, h⟩ := bindS h
 refine tn_putX rfl rfl rfl [] (by decide) rfl (hm0 rfl) rfl (q_callX (v := fun fr23 => .agg [iI n21, .p fr23 (Sl.t r44 s22)]) (args := [.agg [iI n3, sF r44 s4]]) (spvec_sure_r (m + 0) h20) rfl rfl (vw_cons (vd_agg (vc_cons vc_v (vc_cons vc_s vc_nil))) vw_nil) rfl rfl (fun fr => rfl)) (fun fr23 => ?_)
 refine tn_wr rfl rfl [1] (by decide) rfl (hm0 rfl) rfl (q_store (es' := [[iI n17, .p fr19 (Sl.t r44 s18)]]) 0 rfl rfl rfl sz25 rfl rfl rfl rfl rfl) (q := 1) rfl rfl ?_
 refine tn_wr rfl rfl [0] (by decide) rfl (hm0 rfl) rfl (q_store (es' := [[iI n21, .p fr23 (Sl.t r44 s22)]]) 0 rfl rfl rfl sz25 rfl rfl rfl rfl rfl) (q := 0) rfl rfl ?_
 refine tn_end (eS (lS (lO ?_)))
 refine pq (q_fieldP rfl fa25_0 rfl) ?_
 refine pq (ql (iO n17) 1 sz3) ?_
 refine pq (q_fieldP rfl fa25_0 rfl) ?_
 refine pq (ql (iO n21) 0 sz3) ?_
 by_cases c24 : n17 = n21
 replace h := ifT c24 h
 refine pq (qb (p_eql_tZ c24)) ?_
 refine pq (qm bt) ?_
 refine pq (q_fieldP rfl fa25_1 rfl) ?_
 refine pq (ql (.one (.p fr19 (Sl.t r44 s18))) 1 sz22) ?_
 refine pq (q_fieldP rfl fa25_1 rfl) ?_
 refine pq (ql (.one (.p fr23 (Sl.t r44 s22))) 0 sz22) ?_
 obtain ⟨b26, h25, h⟩ := bindS h
 refine pq (qc (bO b26) [.one (.p fr19 (Sl.t r44 s18)), .one (.p fr23 (Sl.t r44 s22))] (slices_Equal_api_Item_api_Item_r (m + 2) h25) (vw_cons (vd_one vc_s) (vw_cons (vd_one vc_s) vw_nil))) ?_
 refine pq (qpt (bO b26)) ?_
 refine pq (qa (bO b26)) ?_
 refine oE (eS (lR ?_))
 obtain rfl := sj h
 exact eF1
 replace h := ifF c24 h
 refine pq (qb (p_eql_fZ c24)) ?_
 refine pq (qm bf) ?_
 iterate 5 refine os ?_
 refine pq (qpf bf) ?_
 refine pq (qa bf) ?_
 refine oE (eS (lR ?_))
 obtain rfl := sj h
 exact eF1
noncomputable def slices_Equal_uint64_uint64_b1 (s1 : Sl (Int)) (s2 : Sl (Int)) (n21 : Int) : Option (Int ⊕ (Unit ⊕ Bool)) :=
 (if n21 < ((s1.l.length : Nat) : Int) then ((atS 1 s1 n21).bind fun n25 => ((atS 1 s2 n21).bind fun n28 => (if n25 ≠ n28 then some (.inr (.inr false)) else some (.inl (IntKind.i64.wrap (n21 + 1)))))) else some (.inr (.inl ())))
noncomputable def slices_Equal_uint64_uint64 (s1 : Sl (Int)) (s2 : Sl (Int)) : Option (Bool) :=
 (if ((s1.l.length : Nat) : Int) ≠ ((s2.l.length : Nat) : Int) then some false else ((loopO (slices_Equal_uint64_uint64_b1 s1 s2) 0).bind (Sum.elim (fun _ => some true) (fun u => some u))))
theorem slices_Equal_uint64_uint64_r (m : Nat) {s1 : Sl (Int)} {s2 : Sl (Int)} {out : Bool} (h : slices_Equal_uint64_uint64 s1 s2 = some out) : RunsP E1 (m + 1) 27 [.one (Sl.t r66 s1), .one (Sl.t r66 s2)] (.fresh, [.one (bT out)]) := by
 refine fn_F rfl (by rw [E1_fn]; exact show fiOf Tryd.prog 27 = _ by unfold fiOf; rw [Tryd.func27]; unfold Tryd.f27; rfl) rfl ?_
 dsimp only
 unfold slices_Equal_uint64_uint64 at h
 refine lS (lO ?_)
 refine pq (qa bf) ?_
 refine oE (eS (lS (lS (lO ?_))))
 refine pq (qm (.one (sF r66 s1))) ?_
 refine pq (q_lenS rfl ty27 rfl rfl rfl rfl) ?_
 refine pq (qm (.one (sF r66 s2))) ?_
 refine pq (q_lenS rfl ty27 rfl rfl rfl rfl) ?_
 by_cases c3 : ((s1.l.length : Nat) : Int) ≠ ((s2.l.length : Nat) : Int)
 replace h := ifT c3 h
 refine pq (qb (p_neq_tZ c3)) ?_
 refine oE (eS (cT rfl (lS (lO ?_))))
 refine pq (qa bf) ?_
 refine oE (eS (lR (eR ?_)))
 obtain rfl := sj h
 exact eF1
 replace h := ifF c3 h
 refine pq (qb (p_neq_fZ c3)) ?_
 refine oE (eS (cF rfl (lK (eS (lS (lS (lO ?_)))))))
 refine pq (qm (.one (sF r66 s1))) ?_
 refine pq (q_lenS rfl ty27 rfl rfl rfl rfl) ?_
 refine pq (qm (iO 0)) ?_
 refine oE (eS (lB ?_))
 let S1 : Int → Unit → (Nat → D) → Nat → D := fun a kt g => ups g [(0, .one (sF r66 s1)), (1, .one (sF r66 s2)), (12, .one (iI ((s1.l.length : Nat) : Int))), (13, iO a)]
 let SL1 : Int → Unit → BL := fun a kt => ([] : BL)
 let G1 : Bool → Ex → St → Prop := fun u => endQ E1 [.tmp 4] (.fresh, [.one (bT u)])
 let Sx1 : Unit → Unit → (Nat → D) → Nat → D := fun a kt g => ups g []
 let SLx1 : Unit → Unit → BL := fun a kt => ([] : BL)
 let J1 : (Unit ⊕ Bool) → Ex → St → Prop := JX 26 0 Sx1 SLx1 G1
 refine L_loopS (slices_Equal_uint64_uint64_b1 s1 s2) S1 SL1 J1 JX_n 0 h () (ups_self ⟨rfl, rfl, rfl, rfl, trivial⟩) [] (by decide) rfl ?_ ?_
 rintro n21 _ g out h
 change slices_Equal_uint64_uint64_b1 s1 s2 n21 = some out at h
 unfold slices_Equal_uint64_uint64_b1 at h
 refine lS (lO ?_)
 by_cases c22 : n21 < ((s1.l.length : Nat) : Int)
 replace h := ifT c22 h
 refine pq (qb (p_lss_tZ c22)) ?_
 refine oE (eS (lS (cT rfl (lK (eS (lS (lB (lS (lO ?_)))))))))
 refine pq (qm (iO n21)) ?_
 refine pq (qa (iO n21)) ?_
 refine oE (eS (lS ?_))
 refine L_still (by kernel_rfl) ?_
 refine sq (qm (.one (sF r66 s1))) ?_
 refine sq (qm (iO n21)) ?_
 obtain ⟨n25, h24, h⟩ := bindS h
 obtain ⟨h24a, h24b, h24⟩ := atS_some h24
 refine sq (q_ixS rfl rfl h24a h24 (el27.trans (congrArg some h24b.symm))) ?_
 refine sq (q_loadI (v := .one (uI n25)) rfl sz66 (map_get h24) rfl rfl) ?_
 refine sq (qm (.one (sF r66 s2))) ?_
 refine sq (qm (iO n21)) ?_
 obtain ⟨n28, h27, h⟩ := bindS h
 obtain ⟨h27a, h27b, h27⟩ := atS_some h27
 refine sq (q_ixS rfl rfl h27a h27 (el27.trans (congrArg some h27b.symm))) ?_
 refine sq (q_loadI (v := .one (uI n28)) rfl sz66 (map_get h27) rfl rfl) ?_
 by_cases c29 : n25 ≠ n28
 replace h := ifT c29 h
 refine sq (qb (p_neq_tZ c29)) ?_
 refine st_end (eS (cT rfl (lS (lO ?_))))
 refine pq (qa bf) ?_
 refine oE (eS (lR (bR (eR ?_))))
 obtain rfl := sj h
 exact E_out (E_up (eF1))
 replace h := ifF c29 h
 refine sq (qb (p_neq_fZ c29)) ?_
 refine st_end (eS (cF rfl (lK (bN (eS (lO ?_))))))
 refine pq (qb p_addY) ?_
 refine pq (qm (iO (IntKind.i64.wrap (n21 + 1)))) ?_
 refine oE ?_
 obtain rfl := sj h
 exact E_next () (ups_self ⟨rfl, rfl, rfl, rfl, trivial⟩) [] (by decide) rfl
 replace h := ifF c22 h
 refine pq (qb (p_lss_fZ c22)) ?_
 refine oE (eS (lS (cF rfl (L_exit ?_))))
 refine E_seqX ?_
 obtain rfl := sj h
 refine E_out ?_
 exact (E_exit () (ups_self trivial) [] (by decide) rfl)
 rintro (_ | u) h
 refine J_x (fun kt g => ?_)
 replace h := elimL h
 refine bH (eS (lS (lO ?_)))
 refine pq (qa bt) ?_
 refine oE (eS (lR ?_))
 obtain rfl := sj h
 exact eF1
 obtain rfl := Option.some.inj (elimR h)
 exact J_up (fun s hs => hs)
noncomputable def slices_Equal_int64_int64_b1 (s1 : Sl (Int)) (s2 : Sl (Int)) (n21 : Int) : Option (Int ⊕ (Unit ⊕ Bool)) :=
 (if n21 < ((s1.l.length : Nat) : Int) then ((atS 1 s1 n21).bind fun n25 => ((atS 1 s2 n21).bind fun n28 => (if n25 ≠ n28 then some (.inr (.inr false)) else some (.inl (IntKind.i64.wrap (n21 + 1)))))) else some (.inr (.inl ())))
noncomputable def slices_Equal_int64_int64 (s1 : Sl (Int)) (s2 : Sl (Int)) : Option (Bool) :=
 (if ((s1.l.length : Nat) : Int) ≠ ((s2.l.length : Nat) : Int) then some false else ((loopO (slices_Equal_int64_int64_b1 s1 s2) 0).bind (Sum.elim (fun _ => some true) (fun u => some u))))
theorem slices_Equal_int64_int64_r (m : Nat) {s1 : Sl (Int)} {s2 : Sl (Int)} {out : Bool} (h : slices_Equal_int64_int64 s1 s2 = some out) : RunsP E1 (m + 1) 28 [.one (Sl.t r2 s1), .one (Sl.t r2 s2)] (.fresh, [.one (bT out)]) := by
 refine fn_F rfl (by rw [E1_fn]; exact show fiOf Tryd.prog 28 = _ by unfold fiOf; rw [Tryd.func28]; unfold Tryd.f28; rfl) rfl ?_
 dsimp only
 unfold slices_Equal_int64_int64 at h
 refine lS (lO ?_)
 refine pq (qa bf) ?_
 refine oE (eS (lS (lS (lO ?_))))
 refine pq (qm (.one (sF r2 s1))) ?_
 refine pq (q_lenS rfl ty28 rfl rfl rfl rfl) ?_
 refine pq (qm (.one (sF r2 s2))) ?_
 refine pq (q_lenS rfl ty28 rfl rfl rfl rfl) ?_
 by_cases c3 : ((s1.l.length : Nat) : Int) ≠ ((s2.l.length : Nat) : Int)
 replace h := ifT c3 h
 refine pq (qb (p_neq_tZ c3)) ?_
 refine oE (eS (cT rfl (lS (lO ?_))))
 refine pq (qa bf) ?_
 refine oE (eS (lR (eR ?_)))
 obtain rfl := sj h
 exact eF1
 replace h := ifF c3 h
 refine pq (qb (p_neq_fZ c3)) ?_
 refine oE (eS (cF rfl (lK (eS (lS (lS (lO ?_)))))))
 refine pq (qm (.one (sF r2 s1))) ?_
 refine pq (q_lenS rfl ty28 rfl rfl rfl rfl) ?_
 refine pq (qm (iO 0)) ?_
 refine oE (eS (lB ?_))
 let S1 : Int → Unit → (Nat → D) → Nat → D := fun a kt g => ups g [(0, .one (sF r2 s1)), (1, .one (sF r2 s2)), (12, .one (iI ((s1.l.length : Nat) : Int))), (13, iO a)]
 let SL1 : Int → Unit → BL := fun a kt => ([] : BL)
 let G1 : Bool → Ex → St → Prop := fun u => endQ E1 [.tmp 4] (.fresh, [.one (bT u)])
 let Sx1 : Unit → Unit → (Nat → D) → Nat → D := fun a kt g => ups g []
 let SLx1 : Unit → Unit → BL := fun a kt => ([] : BL)
 let J1 : (Unit ⊕ Bool) → Ex → St → Prop := JX 26 0 Sx1 SLx1 G1
 refine L_loopS (slices_Equal_int64_int64_b1 s1 s2) S1 SL1 J1 JX_n 0 h () (ups_self ⟨rfl, rfl, rfl, rfl, trivial⟩) [] (by decide) rfl ?_ ?_
 rintro n21 _ g out h
 change slices_Equal_int64_int64_b1 s1 s2 n21 = some out at h
 unfold slices_Equal_int64_int64_b1 at h
 refine lS (lO ?_)
 by_cases c22 : n21 < ((s1.l.length : Nat) : Int)
 replace h := ifT c22 h
 refine pq (qb (p_lss_tZ c22)) ?_
 refine oE (eS (lS (cT rfl (lK (eS (lS (lB (lS (lO ?_)))))))))
 refine pq (qm (iO n21)) ?_
 refine pq (qa (iO n21)) ?_
 refine oE (eS (lS ?_))
 refine L_still (by kernel_rfl) ?_
 refine sq (qm (.one (sF r2 s1))) ?_
 refine sq (qm (iO n21)) ?_
 obtain ⟨n25, h24, h⟩ := bindS h
 obtain ⟨h24a, h24b, h24⟩ := atS_some h24
 refine sq (q_ixS rfl rfl h24a h24 (el28.trans (congrArg some h24b.symm))) ?_
 refine sq (q_loadI (v := iO n25) rfl sz2 (map_get h24) rfl rfl) ?_
 refine sq (qm (.one (sF r2 s2))) ?_
 refine sq (qm (iO n21)) ?_
 obtain ⟨n28, h27, h⟩ := bindS h
 obtain ⟨h27a, h27b, h27⟩ := atS_some h27
 refine sq (q_ixS rfl rfl h27a h27 (el28.trans (congrArg some h27b.symm))) ?_
 refine sq (q_loadI (v := iO n28) rfl sz2 (map_get h27) rfl rfl) ?_
 by_cases c29 : n25 ≠ n28
 replace h := ifT c29 h
 refine sq (qb (p_neq_tZ c29)) ?_
 refine st_end (eS (cT rfl (lS (lO ?_))))
 refine pq (qa bf) ?_
 refine oE (eS (lR (bR (eR ?_))))
 obtain rfl := sj h
 exact E_out (E_up (eF1))
 replace h := ifF c29 h
 refine sq (qb (p_neq_fZ c29)) ?_
 refine st_end (eS (cF rfl (lK (bN (eS (lO ?_))))))
 refine pq (qb p_addY) ?_
 refine pq (qm (iO (IntKind.i64.wrap (n21 + 1)))) ?_
 refine oE ?_
 obtain rfl := sj h
 exact E_next () (ups_self ⟨rfl, rfl, rfl, rfl, trivial⟩) [] (by decide) rfl
 replace h := ifF c22 h
 refine pq (qb (p_lss_fZ c22)) ?_
 refine oE (eS (lS (cF rfl (L_exit ?_))))
 refine E_seqX ?_
 obtain rfl := sj h
 refine E_out ?_
 exact (E_exit () (ups_self trivial) [] (by decide) rfl)
 rintro (_ | u) h
 refine J_x (fun kt g => ?_)
 replace h := elimL h
 refine bH (eS (lS (lO ?_)))
 refine pq (qa bt) ?_
 refine oE (eS (lR ?_))
 obtain rfl := sj h
 exact eF1
 obtain rfl := Option.some.inj (elimR h)
 exact J_up (fun s hs => hs)
noncomputable def devec_Same (a0 : Int × Sl (Int) × Sl (Int)) (a1 : Int × Sl (Int) × Sl (Int)) : Option (Bool) :=
 match a0, a1 with
 | (n1, s2, s3), (n4, s5, s6) => ((devec_sure (n1, s2, s3)).bind fun (n21, s22, s23) => ((devec_sure (n4, s5, s6)).bind fun (n26, s27, s28) => (if n21 = n26 then ((slices_Equal_uint64_uint64 s22 s27).bind fun b32 => (if b32 = true then ((slices_Equal_int64_int64 s23 s28).bind fun b34 => some b34) else some false)) else some false)))
theorem devec_Same_r (m : Nat) {a0 : Int × Sl (Int) × Sl (Int)} {a1 : Int × Sl (Int) × Sl (Int)} {out : Bool} (h : devec_Same a0 a1 = some out) : RunsP E1 (m + 7) 13 [.agg (r29 a0), .agg (r29 a1)] (.fresh, [.one (bT out)]) := by
 obtain ⟨n1, s2, s3⟩ := a0
 obtain ⟨n4, s5, s6⟩ := a1
 refine fn_F rfl (by rw [E1_fn]; exact show fiOf Tryd.prog 13 = _ by unfold fiOf; rw [Tryd.func13]; unfold Tryd.f13; rfl) rfl ?_
 dsimp only
 unfold devec_Same at h
 refine lS (lO ?_)
 refine ol_new rfl rfl rfl (q_box ty30 rfl (cs := [iI n1, sF r66 s2, sF r2 s3]) rfl rfl) (fun k7 => ?_)
 refine ol_new rfl rfl rfl (q_box ty30 rfl (cs := [iI n4, sF r66 s5, sF r2 s6]) rfl rfl) (fun k8 => ?_)
 refine pq (qa bf) ?_
 refine oE (eS (lS ?_))
 refine L_norm (L2 := ([[(k8, 3, [[iI n4, sF r66 s5, sF r2 s6]])], [(k7, 3, [[iI n1, sF r66 s2, sF r2 s3]])]] : BL)) [0, 1] (by decide) rfl ?_
 refine L_turn 6 rfl [[], [], [], [], [k7], [k8]] [(false, []), (false, []), (false, []), (false, []), (false, []), (false, [])] [[2], [2], [0, 1], [], [], []] (by kernel_rfl) (by kernel_rfl) (by kernel_rfl) ?_ (fun bb9 hlt hnd => ?_)
 intro bb9 hlt hnd
 exact ⟨⟨djE, ⟨djE, ⟨djE, ⟨djE, ⟨djN, ⟨djN, trivial⟩⟩⟩⟩⟩⟩, (ltO_cons ltK_nil (ltO_cons ltK_nil (ltO_cons ltK_nil (ltO_cons ltK_nil (ltO_cons (ltK_cons (key_lt hlt 1 rfl) ltK_nil) (ltO_cons (ltK_cons (key_lt hlt 0 rfl) ltK_nil) ltO_nil))))))⟩
 refine tq [1] rfl (hm0 rfl) (ql (.agg [iI n1, sF r66 s2, sF r2 s3]) 0 sz30) ?_
 obtain ⟨⟨n21, s22, s23⟩, h20, h⟩ := bindS h
 refine tn_putX rfl rfl rfl [] (by decide) rfl (hm0 rfl) rfl (q_callX (v := fun fr24 => .agg [iI n21, .p fr24 (Sl.t r66 s22), .p fr24 (Sl.t r2 s23)]) (args := [.agg [iI n1, sF r66 s2, sF r2 s3]]) (devec_sure_r (m + 0) h20) rfl rfl (vw_cons (vd_agg (vc_cons vc_v (vc_cons vc_s (vc_cons vc_s vc_nil)))) vw_nil) rfl rfl (fun fr => rfl)) (fun fr24 => ?_)
 refine tq [0] rfl (hm0 rfl) (ql (.agg [iI n4, sF r66 s5, sF r2 s6]) 0 sz30) ?_
 obtain ⟨⟨n26, s27, s28⟩, h25, h⟩ := bindS h
 refine tn_putX rfl rfl rfl [] (by decide) rfl (hm0 rfl) rfl (q_callX (v := fun fr29 => .agg [iI n26, .p fr29 (Sl.t r66 s27), .p fr29 (Sl.t r2 s28)]) (args := [.agg [iI n4, sF r66 s5, sF r2 s6]]) (devec_sure_r (m + 0) h25) rfl rfl (vw_cons (vd_agg (vc_cons vc_v (vc_cons vc_s (vc_cons vc_s vc_nil)))) vw_nil) rfl rfl (fun fr => rfl)) (fun fr29 => ?_)
 refine tn_wr rfl rfl [1] (by decide) rfl (hm0 rfl) rfl (q_store (es' := [[iI n21, .p fr24 (Sl.t r66 s22), .p fr24 (Sl.t r2 s23)]]) 0 rfl rfl rfl sz30 rfl rfl rfl rfl rfl) (q := 1) rfl rfl ?_
 refine tn_wr rfl rfl [0] (by decide) rfl (hm0 rfl) rfl (q_store (es' := [[iI n26, .p fr29 (Sl.t r66 s27), .p fr29 (Sl.t r2 s28)]]) 0 rfl rfl rfl sz30 rfl rfl rfl rfl rfl) (q := 0) rfl rfl ?_
 refine tn_end (eS (lS (lO ?_)))
 refine pq (q_fieldP rfl fa30_0 rfl) ?_
 refine pq (ql (iO n21) 1 sz3) ?_
 refine pq (q_fieldP rfl fa30_0 rfl) ?_
 refine pq (ql (iO n26) 0 sz3) ?_
 by_cases c30 : n21 = n26
 replace h := ifT c30 h
 refine pq (qb (p_eql_tZ c30)) ?_
 refine pq (qm bt) ?_
 refine pq (q_fieldP rfl fa30_1 rfl) ?_
 refine pq (ql (.one (.p fr24 (Sl.t r66 s22))) 1 sz27) ?_
 refine pq (q_fieldP rfl fa30_1 rfl) ?_
 refine pq (ql (.one (.p fr29 (Sl.t r66 s27))) 0 sz27) ?_
 obtain ⟨b32, h31, h⟩ := bindS h
 refine pq (qc (bO b32) [.one (.p fr24 (Sl.t r66 s22)), .one (.p fr29 (Sl.t r66 s27))] (slices_Equal_uint64_uint64_r (m + 5) h31) (vw_cons (vd_one vc_s) (vw_cons (vd_one vc_s) vw_nil))) ?_
 refine pq (qpt (bO b32)) ?_
 refine pq (qm (bO b32)) ?_
 rcases b32 with _ | _
 replace h := wF h
 iterate 5 refine os ?_
 refine pq (qpf bf) ?_
 refine pq (qa bf) ?_
 refine oE (eS (lR ?_))
 obtain rfl := sj h
 exact eF1
 replace h := wT h
 refine pq (q_fieldP rfl fa30_2 rfl) ?_
 refine pq (ql (.one (.p fr24 (Sl.t r2 s23))) 1 sz28) ?_
 refine pq (q_fieldP rfl fa30_2 rfl) ?_
 refine pq (ql (.one (.p fr29 (Sl.t r2 s28))) 0 sz28) ?_
 obtain ⟨b34, h33, h⟩ := bindS h
 refine pq (qc (bO b34) [.one (.p fr24 (Sl.t r2 s23)), .one (.p fr29 (Sl.t r2 s28))] (slices_Equal_int64_int64_r (m + 5) h33) (vw_cons (vd_one vc_s) (vw_cons (vd_one vc_s) vw_nil))) ?_
 refine pq (qpt (bO b34)) ?_
 refine pq (qa (bO b34)) ?_
 refine oE (eS (lR ?_))
 obtain rfl := sj h
 exact eF1
 replace h := ifF c30 h
 refine pq (qb (p_eql_fZ c30)) ?_
 refine pq (qm bf) ?_
 iterate 5 refine os ?_
 refine pq (qpf bf) ?_
 refine pq (qm bf) ?_
 iterate 5 refine os ?_
 refine pq (qpf bf) ?_
 refine pq (qa bf) ?_
 refine oE (eS (lR ?_))
 obtain rfl := sj h
 exact eF1
end Ev
end Go.Proofs.YtmiaonncbefmmaaDoor
end
section
namespace Go.Proofs.YtmiaonncbefmmaaDoor
namespace Ev
open Go
set_option linter.unusedVariables false
set_option linter.unusedSimpArgs false
set_option maxRecDepth 100000
set_option maxHeartbeats 1000000
attribute [local irreducible] OpsL StL TnL WpL EndL
noncomputable def top_TopForms (n1 : Int) (s2 : Sl (Int × Int)) (a2 : Int × Int) : Option (Bool) :=
 match a2 with
 | (n3, n4) => ((law09_Some n1 s2).bind fun (n7, s8) => ((modO (IntKind.i64.wrap n3) (IntKind.i64.wrap (n7 + 1))).bind fun n10 => ((modO (IntKind.i64.wrap n4) (IntKind.i64.wrap ((IntKind.i64.wrap (n7 - n10)) + 1))).bind fun n12 => ((devec_Of (n7, s8)).bind fun (n15, s16, s17) => ((spvec_Part (n7, s8) 0 n10).bind fun (n30, s31) => ((spvec_Part (n7, s8) n10 (IntKind.i64.wrap (n10 + n12))).bind fun (n33, s34) => ((spvec_Part (n7, s8) (IntKind.i64.wrap (n10 + n12)) n7).bind fun (n36, s37) => ((devec_Part (n15, s16, s17) n10 (IntKind.i64.wrap (n10 + n12))).bind fun (n51, s52, s53) => ((devec_Back (n51, s52, s53)).bind fun (n55, s56) => ((spvec_Glue (⟨true, 2, ([(n30, s31), (n55, s56), (n36, s37)] : List (Int × (Sl (Int × Int))))⟩ : Sl (Int × (Sl (Int × Int))))).bind fun ((n58, s59), n60) => ((spvec_Fill 2 7).bind fun (n62, s63) => ((spvec_Get (n62, s63) 1).bind fun (n65, b66) => (if n65 = 7 then (if b66 = true then (if n60 = 0 then ((spvec_Same (n58, s59) (n7, s8)).bind fun b70 => (if b70 = true then ((spvec_Same (n55, s56) (n33, s34)).bind fun b72 => (if b72 = true then ((devec_Of (n33, s34)).bind fun (n74, s75, s76) => ((devec_Same (n74, s75, s76) (n51, s52, s53)).bind fun b78 => some b78)) else some false)) else some false)) else some false) else some false) else some false)))))))))))))
theorem top_TopForms_r (m : Nat) {n1 : Int} {s2 : Sl (Int × Int)} {a2 : Int × Int} {out : Bool} (h : top_TopForms n1 s2 a2 = some out) : RunsP E1 (m + 8) 3 [.one (iT .u8 n1), .one (Sl.t r44 s2), .agg (r23 a2)] (.fresh, [.one (bT out)]) := by
 obtain ⟨n3, n4⟩ := a2
 refine fn_F rfl (by rw [E1_fn]; exact show fiOf Tryd.prog 3 = _ by unfold fiOf; rw [Tryd.func3]; unfold Tryd.f3; rfl) rfl ?_
 dsimp only
 unfold top_TopForms at h
 refine lS (lO ?_)
 refine ol_new rfl rfl rfl (q_box ty23 rfl (cs := [iC .u8 n3, iC .u8 n4]) rfl rfl) (fun k5 => ?_)
 refine pq (qa bf) ?_
 refine oN ?_
 refine pq (qm (.one (iC .u8 n1))) ?_
 refine pq (qm (.one (sF r44 s2))) ?_
 obtain ⟨⟨n7, s8⟩, h6, h⟩ := bindS h
 refine pq (qc (.agg [iI n7, sC r44 s8]) [.one (iC .u8 n1), .one (sF r44 s2)] (law09_Some_r (m + 2) h6) (vw_cons (vd_one vc_v) (vw_cons (vd_one vc_s) vw_nil))) ?_
 refine ol_new rfl rfl rfl (q_alloc ty25 (row := [iI 0, nC]) rfl rfl) (fun k9 => ?_)
 refine ow [[iI n7, sC r44 s8]] 0 sz25 ?_
 refine oN ?_
 refine pq (q_ixA (a := 0) ty23 rfl ty5 rfl rfl rfl rfl) ?_
 refine pq (ql (.one (iC .u8 n3)) 1 sz5) ?_
 refine pq (q_conv rfl (cv5_3_u8 _) rfl) ?_
 refine pq (q_fieldP rfl fa25_0 rfl) ?_
 refine pq (ql (iO n7) 0 sz3) ?_
 refine pq (qb p_addY) ?_
 obtain ⟨n10, h11, h⟩ := bindS h
 refine pq (q_bin rfl rfl (modO_p h11) rfl) ?_
 refine pq (qa (iO n10)) ?_
 refine oN ?_
 refine pq (qm (iO n10)) ?_
 refine pq (q_ixA (a := 1) ty23 rfl ty5 rfl rfl rfl rfl) ?_
 refine pq (ql (.one (iC .u8 n4)) 1 sz5) ?_
 refine pq (q_conv rfl (cv5_3_u8 _) rfl) ?_
 refine pq (q_fieldP rfl fa25_0 rfl) ?_
 refine pq (ql (iO n7) 0 sz3) ?_
 refine pq (qm (iO n10)) ?_
 refine pq (qb p_subY) ?_
 refine pq (qb p_addY) ?_
 obtain ⟨n12, h13, h⟩ := bindS h
 refine pq (q_bin rfl rfl (modO_p h13) rfl) ?_
 refine pq (qb p_addY) ?_
 refine pq (qa (iO (IntKind.i64.wrap (n10 + n12)))) ?_
 refine oN ?_
 refine pq (ql (.agg [iI n7, sC r44 s8]) 0 sz25) ?_
 obtain ⟨⟨n15, s16, s17⟩, h14, h⟩ := bindS h
 refine pq (qc (.agg [iI n15, sC r66 s16, sC r2 s17]) [.agg [iI n7, sC r44 s8]] (devec_Of_r (m + 2) h14) (vw_cons (vd_agg (vc_cons vc_v (vc_cons vc_s vc_nil))) vw_nil)) ?_
 refine ol_new rfl rfl rfl (q_alloc ty30 (row := [iI 0, nC, nC]) rfl rfl) (fun k18 => ?_)
 refine ow [[iI n15, sC r66 s16, sC r2 s17]] 0 sz30 ?_
 refine oE (eS (lS ?_))
 refine L_norm (L2 := ([[(k18, 3, [[iI n15, sC r66 s16, sC r2 s17]])], [(k9, 2, [[iI n7, sC r44 s8]])]] : BL)) [0, 1] (by decide) rfl ?_
 refine L_turn 18 rfl [[], [], [], [], [], [], [], [], [], [], [], [], [], [], [], [], [], []] [(false, []), (false, []), (false, []), (false, []), (false, []), (false, []), (false, []), (false, []), (false, []), (false, []), (false, []), (false, []), (true, []), (true, []), (true, []), (false, [12]), (false, [13]), (false, [14])] [[1, 3, 4, 5, 7, 8, 9, 10, 12, 13, 14], [0, 3, 4, 5, 7, 8, 9, 10, 12, 13, 14], [3, 4, 5, 7, 8, 9, 10, 12, 13, 14], [0, 1, 2, 4, 5, 7, 8, 9, 10, 12, 13, 14], [0, 1, 2, 3, 5, 7, 8, 9, 10, 12, 13, 14], [0, 1, 2, 3, 4, 7, 8, 9, 10, 12, 13, 14], [7, 8, 9, 10, 12, 13, 14], [0, 1, 2, 3, 4, 5, 6, 8, 9, 10, 12, 13, 14], [0, 1, 2, 3, 4, 5, 6, 7, 9, 10, 12, 13, 14], [0, 1, 2, 3, 4, 5, 6, 7, 8, 12, 13, 14], [0, 1, 2, 3, 4, 5, 6, 7, 8, 12, 13, 14], [12, 13, 14], [0, 1, 2, 3, 4, 5, 6, 7, 8, 9, 10, 11, 13, 14], [0, 1, 2, 3, 4, 5, 6, 7, 8, 9, 10, 11, 12, 14], [0, 1, 2, 3, 4, 5, 6, 7, 8, 9, 10, 11, 12, 13], [], [], []] (by kernel_rfl) (by kernel_rfl) (by kernel_rfl) ?_ (fun bb19 hlt hnd => ?_)
 intro bb19 hlt hnd
 exact ⟨⟨djE, ⟨djE, ⟨djE, ⟨djE, ⟨djE, ⟨djE, ⟨djE, ⟨djE, ⟨djE, ⟨djE, ⟨djE, ⟨djE, ⟨djE, ⟨djE, ⟨djE, ⟨djE, ⟨djE, ⟨djE, trivial⟩⟩⟩⟩⟩⟩⟩⟩⟩⟩⟩⟩⟩⟩⟩⟩⟩⟩, (ltO_cons ltK_nil (ltO_cons ltK_nil (ltO_cons ltK_nil (ltO_cons ltK_nil (ltO_cons ltK_nil (ltO_cons ltK_nil (ltO_cons ltK_nil (ltO_cons ltK_nil (ltO_cons ltK_nil (ltO_cons ltK_nil (ltO_cons ltK_nil (ltO_cons ltK_nil (ltO_cons ltK_nil (ltO_cons ltK_nil (ltO_cons ltK_nil (ltO_cons ltK_nil (ltO_cons ltK_nil (ltO_cons ltK_nil ltO_nil))))))))))))))))))⟩
 refine tq [1] rfl (hmc (nin_cons (ne_new (key_lt hlt 1 rfl)) (nin_cons (ne_new (key_lt hlt 1 rfl)) (nin_cons (ne_new (key_lt hlt 1 rfl)) nin_nil))) hmn) (ql (.agg [iI n7, sC r44 s8]) 0 sz25) ?_
 refine tq [] rfl hmn (qm (iO n10)) ?_
 obtain ⟨⟨n30, s31⟩, h29, h⟩ := bindS h
 refine tq [] rfl hmn (qc (.agg [iI n30, sC r44 s31]) [.agg [iI n7, sC r44 s8], iO 0, iO n10] (spvec_Part_r (m + 3) h29) (vw_cons (vd_agg (vc_cons vc_v (vc_cons vc_s vc_nil))) (vw_cons (vd_one vc_v) (vw_cons (vd_one vc_v) vw_nil)))) ?_
 refine tq [1] rfl (hmc (nin_cons (ne_new (key_lt hlt 1 rfl)) (nin_cons (ne_new (key_lt hlt 1 rfl)) (nin_cons (ne_new (key_lt hlt 1 rfl)) nin_nil))) hmn) (ql (.agg [iI n7, sC r44 s8]) 0 sz25) ?_
 refine tq [] rfl hmn (qm (iO n10)) ?_
 refine tq [] rfl hmn (qm (iO (IntKind.i64.wrap (n10 + n12)))) ?_
 obtain ⟨⟨n33, s34⟩, h32, h⟩ := bindS h
 refine tq [] rfl hmn (qc (.agg [iI n33, sC r44 s34]) [.agg [iI n7, sC r44 s8], iO n10, .one (iI (IntKind.i64.wrap (n10 + n12)))] (spvec_Part_r (m + 3) h32) (vw_cons (vd_agg (vc_cons vc_v (vc_cons vc_s vc_nil))) (vw_cons (vd_one vc_v) (vw_cons (vd_one vc_v) vw_nil)))) ?_
 refine tq [1] rfl (hmc (nin_cons (ne_new (key_lt hlt 1 rfl)) (nin_cons (ne_new (key_lt hlt 1 rfl)) (nin_cons (ne_new (key_lt hlt 1 rfl)) nin_nil))) hmn) (ql (.agg [iI n7, sC r44 s8]) 0 sz25) ?_
 refine tq [] rfl hmn (qm (iO (IntKind.i64.wrap (n10 + n12)))) ?_
 refine tq [] rfl hmn (q_fieldP rfl fa25_0 rfl) ?_
 refine tq [1] rfl (hmc (nin_cons (ne_new (key_lt hlt 1 rfl)) (nin_cons (ne_new (key_lt hlt 1 rfl)) (nin_cons (ne_new (key_lt hlt 1 rfl)) nin_nil))) hmn) (ql (iO n7) 0 sz3) ?_
 obtain ⟨⟨n36, s37⟩, h35, h⟩ := bindS h
 refine tq [] rfl hmn (qc (.agg [iI n36, sC r44 s37]) [.agg [iI n7, sC r44 s8], .one (iI (IntKind.i64.wrap (n10 + n12))), iO n7] (spvec_Part_r (m + 3) h35) (vw_cons (vd_agg (vc_cons vc_v (vc_cons vc_s vc_nil))) (vw_cons (vd_one vc_v) (vw_cons (vd_one vc_v) vw_nil)))) ?_
 refine tn_new rfl rfl rfl [] (by decide) rfl hmn rfl rfl (hkc (ne_new (key_lt hlt 0 rfl)) (hkc (ne_new (key_lt hlt 1 rfl)) hkn)) (q_alloc ty25 (row := [iI 0, nC]) rfl rfl) ?_
 refine tn_new rfl rfl rfl [] (by decide) rfl hmn rfl rfl (hkc (ne_add rfl) (hkc (ne_new (key_lt hlt 0 rfl)) (hkc (ne_new (key_lt hlt 1 rfl)) hkn))) (q_alloc ty25 (row := [iI 0, nC]) rfl rfl) ?_
 refine tn_new rfl rfl rfl [] (by decide) rfl hmn rfl rfl (hkc (ne_add rfl) (hkc (ne_add rfl) (hkc (ne_new (key_lt hlt 0 rfl)) (hkc (ne_new (key_lt hlt 1 rfl)) hkn)))) (q_alloc ty25 (row := [iI 0, nC]) rfl rfl) ?_
 refine tn_wr rfl rfl [2] (by decide) rfl (hm0 rfl) rfl (q_store (es' := [[iI n30, sC r44 s31]]) 0 rfl rfl rfl sz25 rfl rfl rfl rfl rfl) (q := 2) rfl rfl ?_
 refine tn_wr rfl rfl [1] (by decide) rfl (hm0 rfl) rfl (q_store (es' := [[iI n33, sC r44 s34]]) 0 rfl rfl rfl sz25 rfl rfl rfl rfl rfl) (q := 1) rfl rfl ?_
 refine tn_wr rfl rfl [0] (by decide) rfl (hm0 rfl) rfl (q_store (es' := [[iI n36, sC r44 s37]]) 0 rfl rfl rfl sz25 rfl rfl rfl rfl rfl) (q := 0) rfl rfl ?_
 refine tn_end (eS (lS ?_))
 refine L_norm (L2 := ([[((bb19 + 14), 2, [[iI n36, sC r44 s37]])], [((bb19 + 13), 2, [[iI n33, sC r44 s34]])], [((bb19 + 12), 2, [[iI n30, sC r44 s31]])], [(k18, 3, [[iI n15, sC r66 s16, sC r2 s17]])], [(k9, 2, [[iI n7, sC r44 s8]])]] : BL)) [0, 1, 2, 3, 4] (by decide) rfl ?_
 refine L_turn 15 rfl [[], [], [], [], [], [], [], [], [], [], [], [], [], [], []] [(false, []), (false, []), (false, []), (false, []), (false, []), (false, []), (false, []), (true, []), (false, []), (false, []), (false, []), (false, []), (true, []), (false, [12]), (false, [])] [[1, 2, 3, 4, 5, 6, 12], [0, 2, 3, 6, 12], [0, 1, 3, 6, 12], [0, 1, 2, 6, 12], [0, 6, 12], [0, 6, 12], [0, 1, 2, 3, 4, 5, 12], [12], [12], [12], [11, 12], [10, 12, 13], [0, 1, 2, 3, 4, 5, 6, 7, 8, 9, 10, 11], [11], []] (by kernel_rfl) (by kernel_rfl) (by kernel_rfl) ?_ (fun bb38 hlt hnd => ?_)
 intro bb38 hlt hnd
 exact ⟨⟨djE, ⟨djE, ⟨djE, ⟨djE, ⟨djE, ⟨djE, ⟨djE, ⟨djE, ⟨djE, ⟨djE, ⟨djE, ⟨djE, ⟨djE, ⟨djE, ⟨djE, trivial⟩⟩⟩⟩⟩⟩⟩⟩⟩⟩⟩⟩⟩⟩⟩, (ltO_cons ltK_nil (ltO_cons ltK_nil (ltO_cons ltK_nil (ltO_cons ltK_nil (ltO_cons ltK_nil (ltO_cons ltK_nil (ltO_cons ltK_nil (ltO_cons ltK_nil (ltO_cons ltK_nil (ltO_cons ltK_nil (ltO_cons ltK_nil (ltO_cons ltK_nil (ltO_cons ltK_nil (ltO_cons ltK_nil (ltO_cons ltK_nil ltO_nil)))))))))))))))⟩
 refine tq [2] rfl (hmc (nin_cons (ne_new (key_lt hlt 2 rfl)) nin_nil) hmn) (ql (.agg [iI n30, sC r44 s31]) 0 sz25) ?_
 refine tq [3] rfl (hmc (nin_cons (ne_new (key_lt hlt 3 rfl)) nin_nil) hmn) (ql (.agg [iI n15, sC r66 s16, sC r2 s17]) 0 sz30) ?_
 refine tq [] rfl hmn (qm (iO n10)) ?_
 refine tq [] rfl hmn (qm (iO (IntKind.i64.wrap (n10 + n12)))) ?_
 obtain ⟨⟨n51, s52, s53⟩, h50, h⟩ := bindS h
 refine tq [] rfl hmn (qc (.agg [iI n51, sC r66 s52, sC r2 s53]) [.agg [iI n15, sC r66 s16, sC r2 s17], iO n10, .one (iI (IntKind.i64.wrap (n10 + n12)))] (devec_Part_r (m + 0) h50) (vw_cons (vd_agg (vc_cons vc_v (vc_cons vc_s (vc_cons vc_s vc_nil)))) (vw_cons (vd_one vc_v) (vw_cons (vd_one vc_v) vw_nil)))) ?_
 obtain ⟨⟨n55, s56⟩, h54, h⟩ := bindS h
 refine tq [] rfl hmn (qc (.agg [iI n55, sC r44 s56]) [.agg [iI n51, sC r66 s52, sC r2 s53]] (devec_Back_r (m + 0) h54) (vw_cons (vd_agg (vc_cons vc_v (vc_cons vc_s (vc_cons vc_s vc_nil)))) vw_nil)) ?_
 refine tq [0] rfl (hmc (nin_cons (ne_new (key_lt hlt 0 rfl)) nin_nil) hmn) (ql (.agg [iI n36, sC r44 s37]) 0 sz25) ?_
 refine tn_new rfl rfl rfl [] (by decide) rfl hmn rfl rfl (hkc (ne_new (key_lt hlt 0 rfl)) (hkc (ne_new (key_lt hlt 1 rfl)) (hkc (ne_new (key_lt hlt 2 rfl)) (hkc (ne_new (key_lt hlt 3 rfl)) (hkc (ne_new (key_lt hlt 4 rfl)) hkn))))) (q_bslice (cs := [iI n30, sC r44 s31, iI n55, sC r44 s56, iI n36, sC r44 s37]) (es := (([(n30, s31), (n55, s56), (n36, s37)] : List (Int × (Sl (Int × Int))))).map (rowC r24)) ty57 rfl ty25 rfl rfl rfl rfl rfl) ?_
 obtain ⟨⟨⟨n58, s59⟩, n60⟩, h57, h⟩ := bindS h
 refine tq [0] rfl (hmc (nin_cons (ne_add rfl) nin_nil) hmn) (qc (.tup [.agg [iI n58, sC r44 s59], iO n60]) [.one (.own (bb38 + 7) 0 (([(n30, s31), (n55, s56), (n36, s37)] : List (Int × (Sl (Int × Int))))).length)] (spvec_Glue_r (m + 3) h57) (vw_cons (vd_one (vc_own (r := r24) 0 rfl (fun x h m => rfl))) vw_nil)) ?_
 refine tq [] rfl hmn (qm (.tup [.agg [iI n58, sC r44 s59], iO n60])) ?_
 refine tq [] rfl hmn (q_ext (v := .agg [iI n58, sC r44 s59]) rfl rfl) ?_
 refine tq [] rfl hmn (q_ext (v := iO n60) rfl rfl) ?_
 refine tn_new rfl rfl rfl [] (by decide) rfl hmn rfl rfl (hkc (ne_add rfl) (hkc (ne_new (key_lt hlt 0 rfl)) (hkc (ne_new (key_lt hlt 1 rfl)) (hkc (ne_new (key_lt hlt 2 rfl)) (hkc (ne_new (key_lt hlt 3 rfl)) (hkc (ne_new (key_lt hlt 4 rfl)) hkn)))))) (q_alloc ty25 (row := [iI 0, nC]) rfl rfl) ?_
 refine tn_wr rfl rfl [0] (by decide) rfl (hm0 rfl) rfl (q_store (es' := [[iI n58, sC r44 s59]]) 0 rfl rfl rfl sz25 rfl rfl rfl rfl rfl) (q := 0) rfl rfl ?_
 refine tq [] rfl (hm0 rfl) (qa (iO n60)) ?_
 refine tn_end (eS (lS (lO ?_)))
 obtain ⟨⟨n62, s63⟩, h61, h⟩ := bindS h
 refine pq (qc (.agg [iI n62, sC r44 s63]) [iO 2, iO 7] (spvec_Fill_r (m + 5) h61) (vw_cons (vd_one vc_v) (vw_cons (vd_one vc_v) vw_nil))) ?_
 obtain ⟨⟨n65, b66⟩, h64, h⟩ := bindS h
 refine pq (qc (.tup [iO n65, bO b66]) [.agg [iI n62, sC r44 s63], iO 1] (spvec_Get_r (m + 3) h64) (vw_cons (vd_agg (vc_cons vc_v (vc_cons vc_s vc_nil))) (vw_cons (vd_one vc_v) vw_nil))) ?_
 refine pq (qm (.tup [iO n65, bO b66])) ?_
 refine pq (q_ext (v := iO n65) rfl rfl) ?_
 refine pq (q_ext (v := bO b66) rfl rfl) ?_
 refine pq (qa (iO n65)) ?_
 refine pq (qa (bO b66)) ?_
 refine oE (eS (lS ?_))
 refine L_still (by kernel_rfl) ?_
 refine sq (qm (iO n65)) ?_
 by_cases c67 : n65 = 7
 replace h := ifT c67 h
 refine sq (qb (p_eql_tZ c67)) ?_
 refine sq (qm bt) ?_
 refine sq (qm (bO b66)) ?_
 refine sq (qpt (bO b66)) ?_
 refine sq (qm (bO b66)) ?_
 rcases b66 with _ | _
 replace h := wF h
 iterate 2 refine ss ?_
 refine sq (qpf bf) ?_
 refine sq (qm bf) ?_
 iterate 3 refine ss ?_
 refine sq (qpf bf) ?_
 refine sq (qm bf) ?_
 iterate 7 refine ss ?_
 refine sq (qpf bf) ?_
 refine sq (qm bf) ?_
 iterate 7 refine ss ?_
 refine sq (qpf bf) ?_
 refine sq (qa bf) ?_
 refine st_end (eS (lR ?_))
 obtain rfl := sj h
 exact eF1
 replace h := wT h
 refine sq (qm (iO n60)) ?_
 by_cases c68 : n60 = 0
 replace h := ifT c68 h
 refine sq (qb (p_eql_tZ c68)) ?_
 refine sq (qpt bt) ?_
 refine sq (qm bt) ?_
 refine sq (ql (.agg [iI n58, sC r44 s59]) 0 sz25) ?_
 refine sq (ql (.agg [iI n7, sC r44 s8]) 6 sz25) ?_
 obtain ⟨b70, h69, h⟩ := bindS h
 refine sq (qc (bO b70) [.agg [iI n58, sC r44 s59], .agg [iI n7, sC r44 s8]] (spvec_Same_r (m + 3) h69) (vw_cons (vd_agg (vc_cons vc_v (vc_cons vc_s vc_nil))) (vw_cons (vd_agg (vc_cons vc_v (vc_cons vc_s vc_nil))) vw_nil))) ?_
 refine sq (qpt (bO b70)) ?_
 refine sq (qm (bO b70)) ?_
 rcases b70 with _ | _
 replace h := wF h
 iterate 7 refine ss ?_
 refine sq (qpf bf) ?_
 refine sq (qm bf) ?_
 iterate 7 refine ss ?_
 refine sq (qpf bf) ?_
 refine sq (qa bf) ?_
 refine st_end (eS (lR ?_))
 obtain rfl := sj h
 exact eF1
 replace h := wT h
 refine sq (ql (.agg [iI n15, sC r66 s16, sC r2 s17]) 5 sz30) ?_
 refine sq (qm (iO n10)) ?_
 refine sq (qm (iO (IntKind.i64.wrap (n10 + n12)))) ?_
 refine sq (qc (.agg [iI n51, sC r66 s52, sC r2 s53]) [.agg [iI n15, sC r66 s16, sC r2 s17], iO n10, .one (iI (IntKind.i64.wrap (n10 + n12)))] (devec_Part_r (m + 0) h50) (vw_cons (vd_agg (vc_cons vc_v (vc_cons vc_s (vc_cons vc_s vc_nil)))) (vw_cons (vd_one vc_v) (vw_cons (vd_one vc_v) vw_nil)))) ?_
 refine sq (qc (.agg [iI n55, sC r44 s56]) [.agg [iI n51, sC r66 s52, sC r2 s53]] (devec_Back_r (m + 0) h54) (vw_cons (vd_agg (vc_cons vc_v (vc_cons vc_s (vc_cons vc_s vc_nil)))) vw_nil)) ?_
 refine sq (ql (.agg [iI n33, sC r44 s34]) 3 sz25) ?_
 obtain ⟨b72, h71, h⟩ := bindS h
 refine sq (qc (bO b72) [.agg [iI n55, sC r44 s56], .agg [iI n33, sC r44 s34]] (spvec_Same_r (m + 3) h71) (vw_cons (vd_agg (vc_cons vc_v (vc_cons vc_s vc_nil))) (vw_cons (vd_agg (vc_cons vc_v (vc_cons vc_s vc_nil))) vw_nil))) ?_
 refine sq (qpt (bO b72)) ?_
 refine sq (qm (bO b72)) ?_
 rcases b72 with _ | _
 replace h := wF h
 iterate 7 refine ss ?_
 refine sq (qpf bf) ?_
 refine sq (qa bf) ?_
 refine st_end (eS (lR ?_))
 obtain rfl := sj h
 exact eF1
 replace h := wT h
 refine sq (ql (.agg [iI n33, sC r44 s34]) 3 sz25) ?_
 obtain ⟨⟨n74, s75, s76⟩, h73, h⟩ := bindS h
 refine sq (qc (.agg [iI n74, sC r66 s75, sC r2 s76]) [.agg [iI n33, sC r44 s34]] (devec_Of_r (m + 2) h73) (vw_cons (vd_agg (vc_cons vc_v (vc_cons vc_s vc_nil))) vw_nil)) ?_
 refine sq (ql (.agg [iI n15, sC r66 s16, sC r2 s17]) 5 sz30) ?_
 refine sq (qm (iO n10)) ?_
 refine sq (qm (iO (IntKind.i64.wrap (n10 + n12)))) ?_
 refine sq (qc (.agg [iI n51, sC r66 s52, sC r2 s53]) [.agg [iI n15, sC r66 s16, sC r2 s17], iO n10, .one (iI (IntKind.i64.wrap (n10 + n12)))] (devec_Part_r (m + 0) h50) (vw_cons (vd_agg (vc_cons vc_v (vc_cons vc_s (vc_cons vc_s vc_nil)))) (vw_cons (vd_one vc_v) (vw_cons (vd_one vc_v) vw_nil)))) ?_
 obtain ⟨b78, h77, h⟩ := bindS h
 refine sq (qc (bO b78) [.agg [iI n74, sC r66 s75, sC r2 s76], .agg [iI n51, sC r66 s52, sC r2 s53]] (devec_Same_r (m + 0) h77) (vw_cons (vd_agg (vc_cons vc_v (vc_cons vc_s (vc_cons vc_s vc_nil)))) (vw_cons (vd_agg (vc_cons vc_v (vc_cons vc_s (vc_cons vc_s vc_nil)))) vw_nil))) ?_
 refine sq (qpt (bO b78)) ?_
 refine sq (qa (bO b78)) ?_
 refine st_end (eS (lR ?_))
 obtain rfl := sj h
 exact eF1
 replace h := ifF c68 h
 refine sq (qb (p_eql_fZ c68)) ?_
 refine sq (qpt bf) ?_
 refine sq (qm bf) ?_
 iterate 3 refine ss ?_
 refine sq (qpf bf) ?_
 refine sq (qm bf) ?_
 iterate 7 refine ss ?_
 refine sq (qpf bf) ?_
 refine sq (qm bf) ?_
 iterate 7 refine ss ?_
 refine sq (qpf bf) ?_
 refine sq (qa bf) ?_
 refine st_end (eS (lR ?_))
 obtain rfl := sj h
 exact eF1
 replace h := ifF c67 h
 refine sq (qb (p_eql_fZ c67)) ?_
 refine sq (qm bf) ?_
 refine ss ?_
 refine sq (qpf bf) ?_
 refine sq (qm bf) ?_
 iterate 2 refine ss ?_
 refine sq (qpf bf) ?_
 refine sq (qm bf) ?_
 iterate 3 refine ss ?_
 refine sq (qpf bf) ?_
 refine sq (qm bf) ?_
 iterate 7 refine ss ?_
 refine sq (qpf bf) ?_
 refine sq (qm bf) ?_
 iterate 7 refine ss ?_
 refine sq (qpf bf) ?_
 refine sq (qa bf) ?_
 refine st_end (eS (lR ?_))
 obtain rfl := sj h
 exact eF1
end Ev
end Go.Proofs.YtmiaonncbefmmaaDoor
end
section
namespace Go.Proofs.YtmiaonncbefmmaaDoor
namespace Ev
open Go
set_option linter.unusedVariables false
set_option linter.unusedSimpArgs false
set_option maxRecDepth 100000
set_option maxHeartbeats 1000000
attribute [local irreducible] OpsL StL TnL WpL EndL
theorem op5 {ts : List T} (h : Typ Tryd.prog 5 ts) : ∃ x : Int, ts = [iT .u8 x] ∧ inK .u8 x := typ_int (by kernel_rfl) h
def W5 (x : Int) : Prop := inK .u8 x
theorem op3 {ts : List T} (h : Typ Tryd.prog 3 ts) : ∃ x : Int, ts = [iT .i64 x] ∧ inK .i64 x := typ_int (by kernel_rfl) h
def W3 (x : Int) : Prop := inK .i64 x
theorem op2 {ts : List T} (h : Typ Tryd.prog 2 ts) : ∃ x : Int, ts = [iT .i64 x] ∧ inK .i64 x := typ_int (by kernel_rfl) h
def W2 (x : Int) : Prop := inK .i64 x
def W45 (x : Int × Int) : Prop := W3 x.1 ∧ W2 x.2
theorem op45 {ts : List T} (h : Typ Tryd.prog 45 ts) : ∃ x : Int × Int, ts = r44 x ∧ W45 x := by
 obtain ⟨tss, rfl, hl, hf⟩ := typ_struct (fs := flds Tryd.prog 44) (by kernel_rfl) h
 rw [show (flds Tryd.prog 44).toList = [fld Tryd.prog 44 0, fld Tryd.prog 44 1] by kernel_rfl] at hl hf
 match tss, hl with
 | [t0, t1], _ =>
  have g0 : Typ Tryd.prog 3 t0 := by have := hf 0 _ _ rfl rfl; rwa [show (fld Tryd.prog 44 0).type = 3 by kernel_rfl] at this
  obtain ⟨x0, rfl, w0⟩ := op3 g0
  have g1 : Typ Tryd.prog 2 t1 := by have := hf 1 _ _ rfl rfl; rwa [show (fld Tryd.prog 44 1).type = 2 by kernel_rfl] at this
  obtain ⟨x1, rfl, w1⟩ := op2 g1
  exact ⟨(x0, x1), rfl, ⟨w0, w1⟩⟩
def W22 (x : Sl (Int × Int)) : Prop := SlW 2 W45 x
theorem op22 {ts : List T} (h : Typ Tryd.prog 22 ts) : ∃ x : Sl (Int × Int), ts = [Sl.t r44 x] ∧ W22 x := typ_slice (r := r44) (Q := W45) (w := 2) (by kernel_rfl) (by kernel_rfl) (fun ts h => op45 h) h
def W23 (x : Int × Int) : Prop := W5 x.1 ∧ W5 x.2
theorem op23 {ts : List T} (h : Typ Tryd.prog 23 ts) : ∃ x : Int × Int, ts = r23 x ∧ W23 x := by
 obtain ⟨tss, rfl, hl, hf⟩ := typ_array (n := 2) (e := 5) (by kernel_rfl) h
 match tss, hl with
 | [t0, t1], _ =>
  obtain ⟨x0, rfl, w0⟩ := op5 (hf t0 (by simp))
  obtain ⟨x1, rfl, w1⟩ := op5 (hf t1 (by simp))
  exact ⟨(x0, x1), rfl, ⟨w0, w1⟩⟩
end Ev
end Go.Proofs.YtmiaonncbefmmaaDoor
end
