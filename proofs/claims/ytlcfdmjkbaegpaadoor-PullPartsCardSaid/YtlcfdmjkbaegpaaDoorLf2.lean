/- Functions of the program as functions on data, and that they are. -/
import Derived.Test.YtlcfdmjkbaegpaaDoorEvZ
import Derived.Test.YtlcfdmjkbaegpaaDoorLf1
import Derived.Test.YtlcfdmjkbaegpaaDoorLy1
import Derived.Test.YtlcfdmjkbaegpaaDoorLy2
namespace Go.Proofs.YtlcfdmjkbaegpaaDoor
namespace Ev
open Go
set_option linter.unusedVariables false
set_option linter.unusedSimpArgs false
set_option maxRecDepth 100000
set_option maxHeartbeats 1000000
attribute [local irreducible] OpsL StL TnL WpL EndL
noncomputable def wide_Mul (n1 : Int) (n2 : Int) : Option ((Int × Int)) :=
 ((wide_products (IntKind.u64.wrap n1) (IntKind.u64.wrap n2)).bind fun (n5, n6, n7, n8) => ((wide_Left (0, n6) 32).bind fun (n19, n20) => ((wide_Add ((IntKind.i64.wrap n8), n5) (n19, n20)).bind fun (n22, n23) => ((wide_Left (0, n7) 32).bind fun (n32, n33) => ((wide_Add (n22, n23) (n32, n33)).bind fun (n35, n36) => (if n1 < 0 then (if n2 < 0 then some ((IntKind.i64.wrap ((IntKind.i64.wrap (n35 - n2)) - n1)), n36) else some ((IntKind.i64.wrap (n35 - n2)), n36)) else (if n2 < 0 then some ((IntKind.i64.wrap (n35 - n1)), n36) else some (n35, n36))))))))
theorem wide_Mul_r (m : Nat) {n1 : Int} {n2 : Int} {out : (Int × Int)} (h : wide_Mul n1 n2 = some out) : RunsP E1 (m + 2) 72 [.one (iT .i64 n1), .one (iT .i64 n2)] (.fresh, [.agg (r61 out)]) := by
 refine fn_F rfl (by rw [E1_fn]; exact show fiOf Tryd.prog 72 = _ by unfold fiOf; rw [Tryd.func72]; unfold Tryd.f72; rfl) rfl ?_
 dsimp only
 unfold wide_Mul at h
 refine lS (lO ?_)
 refine ol_new rfl rfl rfl (q_alloc ty62 (row := [iI 0, uI 0]) rfl rfl) (fun k3 => ?_)
 refine oN ?_
 refine pq (qm (iO n1)) ?_
 refine pq (q_conv rfl (cv2_60_i64 _) rfl) ?_
 refine pq (qm (iO n2)) ?_
 refine pq (q_conv rfl (cv2_60_i64 _) rfl) ?_
 obtain ⟨⟨n5, n6, n7, n8⟩, h4, h⟩ := bindS h
 refine pq (qc (.agg [uI n5, uI n6, uI n7, uI n8]) [.one (uI (IntKind.u64.wrap n1)), .one (uI (IntKind.u64.wrap n2))] (wide_products_r (m + 0) h4) (vw_cons (vd_one vc_v) (vw_cons (vd_one vc_v) vw_nil))) ?_
 refine ol_new rfl rfl rfl (q_alloc ty122 (row := [uI 0, uI 0, uI 0, uI 0]) rfl rfl) (fun k9 => ?_)
 refine ow [[uI n5, uI n6, uI n7, uI n8]] 0 sz122 ?_
 refine oN ?_
 refine pq (q_ixA (a := 3) ty122 rfl ty60 rfl rfl rfl rfl) ?_
 refine pq (ql (.one (uI n8)) 0 sz60) ?_
 refine pq (q_conv rfl (cv60_2_u64 _) rfl) ?_
 refine pq (q_ixA (a := 0) ty122 rfl ty60 rfl rfl rfl rfl) ?_
 refine pq (ql (.one (uI n5)) 0 sz60) ?_
 refine pq (q_build (cs := [iI (IntKind.i64.wrap n8), uI n5]) ty62 rfl pl62 rfl) ?_
 refine ol_new rfl rfl rfl (q_alloc ty62 (row := [iI 0, uI 0]) rfl rfl) (fun k10 => ?_)
 refine ow [[iI (IntKind.i64.wrap n8), uI n5]] 0 sz62 ?_
 refine oE (eS (lS ?_))
 refine L_norm (L2 := ([[(k10, 2, [[iI (IntKind.i64.wrap n8), uI n5]])], [(k9, 4, [[uI n5, uI n6, uI n7, uI n8]])], [(k3, 2, [[iI 0, uI 0]])]] : BL)) [0, 1, 2] (by decide) rfl ?_
 refine L_turn 7 rfl [[], [], [], [], [], [], [k10]] [(false, []), (false, []), (false, []), (false, []), (false, []), (false, []), (false, [])] [[1, 2, 3, 4], [0], [0], [0], [0], [], []] (by kernel_rfl) (by kernel_rfl) (by kernel_rfl) ?_ (fun bb11 hlt hnd => ?_)
 intro bb11 hlt hnd
 exact ⟨⟨djE, ⟨djE, ⟨djE, ⟨djE, ⟨djE, ⟨djE, ⟨djN, trivial⟩⟩⟩⟩⟩⟩⟩, (ltO_cons ltK_nil (ltO_cons ltK_nil (ltO_cons ltK_nil (ltO_cons ltK_nil (ltO_cons ltK_nil (ltO_cons ltK_nil (ltO_cons (ltK_cons (key_lt hlt 0 rfl) ltK_nil) ltO_nil)))))))⟩
 refine tq [0] rfl (hm0 rfl) (ql (.agg [iI (IntKind.i64.wrap n8), uI n5]) 0 sz62) ?_
 refine tq [] rfl (hm0 rfl) (q_ixA (a := 1) ty122 rfl ty60 rfl rfl rfl rfl) ?_
 refine tq [1] rfl (hm0 rfl) (ql (.one (uI n6)) 0 sz60) ?_
 refine tq [] rfl (hm0 rfl) (q_build (cs := [iI 0, uI n6]) ty62 rfl pl62 rfl) ?_
 obtain ⟨⟨n19, n20⟩, h18, h⟩ := bindS h
 refine tq [] rfl (hm0 rfl) (qc (.agg [iI n19, uI n20]) [.agg [iI 0, uI n6], iO 32] (wide_Left_r (m + 0) h18) (vw_cons (vd_agg (vc_cons vc_v (vc_cons vc_v vc_nil))) (vw_cons (vd_one vc_v) vw_nil))) ?_
 obtain ⟨⟨n22, n23⟩, h21, h⟩ := bindS h
 refine tq [] rfl (hm0 rfl) (qc (.agg [iI n22, uI n23]) [.agg [iI (IntKind.i64.wrap n8), uI n5], .agg [iI n19, uI n20]] (wide_Add_r (m + 0) h21) (vw_cons (vd_agg (vc_cons vc_v (vc_cons vc_v vc_nil))) (vw_cons (vd_agg (vc_cons vc_v (vc_cons vc_v vc_nil))) vw_nil))) ?_
 refine tn_wr rfl rfl [0] (by decide) rfl (hm0 rfl) rfl (q_store (es' := [[iI n22, uI n23]]) 0 rfl rfl rfl sz62 rfl rfl rfl rfl rfl) (q := 0) rfl rfl ?_
 refine tn_end (eS (lS ?_))
 refine L_norm (L2 := ([[(k10, 2, [[iI n22, uI n23]])], [(k9, 4, [[uI n5, uI n6, uI n7, uI n8]])], [(k3, 2, [[iI 0, uI 0]])]] : BL)) [0, 1, 2] (by decide) rfl ?_
 refine L_turn 7 rfl [[], [], [], [], [], [], [k10]] [(false, []), (false, []), (false, []), (false, []), (false, []), (false, []), (false, [])] [[1, 2, 3, 4], [0], [0], [0], [0], [], []] (by kernel_rfl) (by kernel_rfl) (by kernel_rfl) ?_ (fun bb24 hlt hnd => ?_)
 intro bb24 hlt hnd
 exact ⟨⟨djE, ⟨djE, ⟨djE, ⟨djE, ⟨djE, ⟨djE, ⟨djN, trivial⟩⟩⟩⟩⟩⟩⟩, (ltO_cons ltK_nil (ltO_cons ltK_nil (ltO_cons ltK_nil (ltO_cons ltK_nil (ltO_cons ltK_nil (ltO_cons ltK_nil (ltO_cons (ltK_cons (key_lt hlt 0 rfl) ltK_nil) ltO_nil)))))))⟩
 refine tq [0] rfl (hm0 rfl) (ql (.agg [iI n22, uI n23]) 0 sz62) ?_
 refine tq [] rfl (hm0 rfl) (q_ixA (a := 2) ty122 rfl ty60 rfl rfl rfl rfl) ?_
 refine tq [1] rfl (hm0 rfl) (ql (.one (uI n7)) 0 sz60) ?_
 refine tq [] rfl (hm0 rfl) (q_build (cs := [iI 0, uI n7]) ty62 rfl pl62 rfl) ?_
 obtain ⟨⟨n32, n33⟩, h31, h⟩ := bindS h
 refine tq [] rfl (hm0 rfl) (qc (.agg [iI n32, uI n33]) [.agg [iI 0, uI n7], iO 32] (wide_Left_r (m + 0) h31) (vw_cons (vd_agg (vc_cons vc_v (vc_cons vc_v vc_nil))) (vw_cons (vd_one vc_v) vw_nil))) ?_
 obtain ⟨⟨n35, n36⟩, h34, h⟩ := bindS h
 refine tq [] rfl (hm0 rfl) (qc (.agg [iI n35, uI n36]) [.agg [iI n22, uI n23], .agg [iI n32, uI n33]] (wide_Add_r (m + 0) h34) (vw_cons (vd_agg (vc_cons vc_v (vc_cons vc_v vc_nil))) (vw_cons (vd_agg (vc_cons vc_v (vc_cons vc_v vc_nil))) vw_nil))) ?_
 refine tn_wr rfl rfl [0] (by decide) rfl (hm0 rfl) rfl (q_store (es' := [[iI n35, uI n36]]) 0 rfl rfl rfl sz62 rfl rfl rfl rfl rfl) (q := 0) rfl rfl ?_
 refine tn_end (eS (lS (lS (lO ?_))))
 refine pq (qm (iO n1)) ?_
 by_cases c37 : n1 < 0
 replace h := ifT c37 h
 refine pq (qb (p_lss_tZ c37)) ?_
 refine oE (eS (cT rfl (lO ?_)))
 refine pq (q_fieldP rfl fa62_0 rfl) ?_
 refine pq (ql (iO n35) 0 sz2) ?_
 refine pq (qm (iO n2)) ?_
 refine pq (qb p_subY) ?_
 refine pq (q_fieldP rfl fa62_0 rfl) ?_
 refine ow [[iI (IntKind.i64.wrap (n35 - n2)), uI n36]] 0 sz2 ?_
 refine oE (eS (lS (lS (lO ?_))))
 refine pq (qm (iO n2)) ?_
 by_cases c38 : n2 < 0
 replace h := ifT c38 h
 refine pq (qb (p_lss_tZ c38)) ?_
 refine oE (eS (cT rfl (lO ?_)))
 refine pq (q_fieldP rfl fa62_0 rfl) ?_
 refine pq (ql (iO (IntKind.i64.wrap (n35 - n2))) 0 sz2) ?_
 refine pq (qm (iO n1)) ?_
 refine pq (qb p_subY) ?_
 refine pq (q_fieldP rfl fa62_0 rfl) ?_
 refine ow [[iI (IntKind.i64.wrap ((IntKind.i64.wrap (n35 - n2)) - n1)), uI n36]] 0 sz2 ?_
 refine oN ?_
 refine pq (ql (.agg [iI (IntKind.i64.wrap ((IntKind.i64.wrap (n35 - n2)) - n1)), uI n36]) 0 sz62) ?_
 refine ow [[iI (IntKind.i64.wrap ((IntKind.i64.wrap (n35 - n2)) - n1)), uI n36]] 2 sz62 ?_
 refine oE (eS (lR ?_))
 obtain rfl := sj h
 exact E_endF (.inr rfl) (res_cell (d := .agg [iI (IntKind.i64.wrap ((IntKind.i64.wrap (n35 - n2)) - n1)), uI n36]) 2 rfl sz62 rfl rfl rfl rfl res_nil) (vw_cons (vd_agg (vc_cons vc_v (vc_cons vc_v vc_nil))) vw_nil) oG rfl rfl
 replace h := ifF c38 h
 refine pq (qb (p_lss_fZ c38)) ?_
 refine oE (eS (cF rfl (lK (eS (lS (lO ?_))))))
 refine pq (ql (.agg [iI (IntKind.i64.wrap (n35 - n2)), uI n36]) 0 sz62) ?_
 refine ow [[iI (IntKind.i64.wrap (n35 - n2)), uI n36]] 2 sz62 ?_
 refine oE (eS (lR ?_))
 obtain rfl := sj h
 exact E_endF (.inr rfl) (res_cell (d := .agg [iI (IntKind.i64.wrap (n35 - n2)), uI n36]) 2 rfl sz62 rfl rfl rfl rfl res_nil) (vw_cons (vd_agg (vc_cons vc_v (vc_cons vc_v vc_nil))) vw_nil) oG rfl rfl
 replace h := ifF c37 h
 refine pq (qb (p_lss_fZ c37)) ?_
 refine oE (eS (cF rfl (lK (eS (lS (lS (lO ?_)))))))
 refine pq (qm (iO n2)) ?_
 by_cases c39 : n2 < 0
 replace h := ifT c39 h
 refine pq (qb (p_lss_tZ c39)) ?_
 refine oE (eS (cT rfl (lO ?_)))
 refine pq (q_fieldP rfl fa62_0 rfl) ?_
 refine pq (ql (iO n35) 0 sz2) ?_
 refine pq (qm (iO n1)) ?_
 refine pq (qb p_subY) ?_
 refine pq (q_fieldP rfl fa62_0 rfl) ?_
 refine ow [[iI (IntKind.i64.wrap (n35 - n1)), uI n36]] 0 sz2 ?_
 refine oN ?_
 refine pq (ql (.agg [iI (IntKind.i64.wrap (n35 - n1)), uI n36]) 0 sz62) ?_
 refine ow [[iI (IntKind.i64.wrap (n35 - n1)), uI n36]] 2 sz62 ?_
 refine oE (eS (lR ?_))
 obtain rfl := sj h
 exact E_endF (.inr rfl) (res_cell (d := .agg [iI (IntKind.i64.wrap (n35 - n1)), uI n36]) 2 rfl sz62 rfl rfl rfl rfl res_nil) (vw_cons (vd_agg (vc_cons vc_v (vc_cons vc_v vc_nil))) vw_nil) oG rfl rfl
 replace h := ifF c39 h
 refine pq (qb (p_lss_fZ c39)) ?_
 refine oE (eS (cF rfl (lK (eS (lS (lO ?_))))))
 refine pq (ql (.agg [iI n35, uI n36]) 0 sz62) ?_
 refine ow [[iI n35, uI n36]] 2 sz62 ?_
 refine oE (eS (lR ?_))
 obtain rfl := sj h
 exact E_endF (.inr rfl) (res_cell (d := .agg [iI n35, uI n36]) 2 rfl sz62 rfl rfl rfl rfl res_nil) (vw_cons (vd_agg (vc_cons vc_v (vc_cons vc_v vc_nil))) vw_nil) oG rfl rfl
noncomputable def ring_Mul (n1 : Int) (n2 : Int) (n3 : Int) : Option ((Int × Int)) :=
 (if n1 = 1 then (if n2 ≥ 4611686018427387904 then ((wide_Of 4611686018427387904).bind fun (n8, n9) => some (n8, n9)) else (if n3 ≥ 4611686018427387904 then ((wide_Of 4611686018427387904).bind fun (n12, n13) => some (n12, n13)) else ((wide_Of n2).bind fun (n15, n16) => ((wide_Of n3).bind fun (n18, n19) => ((wide_Add (n15, n16) (n18, n19)).bind fun (n21, n22) => ((wide_Of 4611686018427387904).bind fun (n24, n25) => ((ring_lesser (n21, n22) (n24, n25)).bind fun (n27, n28) => some (n27, n28)))))))) else (if n1 = 2 then (if n2 ≠ 0 then (if n3 ≠ 0 then ((ring_truth true).bind fun (n33, n34) => some (n33, n34)) else ((ring_truth false).bind fun (n36, n37) => some (n36, n37))) else ((ring_truth false).bind fun (n39, n40) => some (n39, n40))) else (if n1 = 4 then (if n3 ≥ 4611686018427387904 then ((wide_Of 4611686018427387904).bind fun (n44, n45) => some (n44, n45)) else (if n2 ≥ 4611686018427387904 then ((wide_Of 4611686018427387904).bind fun (n48, n49) => some (n48, n49)) else ((wide_Of n3).bind fun (n51, n52) => some (n51, n52)))) else (if n1 = 3 then (if n2 ≥ 4611686018427387904 then ((wide_Of 4611686018427387904).bind fun (n56, n57) => some (n56, n57)) else (if n3 ≥ 4611686018427387904 then ((wide_Of 4611686018427387904).bind fun (n60, n61) => some (n60, n61)) else ((wide_Of n2).bind fun (n63, n64) => some (n63, n64)))) else (if n1 = 5 then ((wide_Mul n2 n3).bind fun (n67, n68) => some (n67, n68)) else some (0, 0))))))
theorem ring_Mul_r (m : Nat) {n1 : Int} {n2 : Int} {n3 : Int} {out : (Int × Int)} (h : ring_Mul n1 n2 n3 = some out) : RunsP E1 (m + 3) 39 [.one (iT .i64 n1), .one (iT .i64 n2), .one (iT .i64 n3)] (.fresh, [.agg (r61 out)]) := by
 refine fn_F rfl (by rw [E1_fn]; exact show fiOf Tryd.prog 39 = _ by unfold fiOf; rw [Tryd.func39]; unfold Tryd.f39; rfl) rfl ?_
 dsimp only
 unfold ring_Mul at h
 refine lS (lO ?_)
 refine ol_new rfl rfl rfl (q_alloc ty62 (row := [iI 0, uI 0]) rfl rfl) (fun k4 => ?_)
 refine oE (eS (lS (lS (lO ?_))))
 refine pq (qm (iO n1)) ?_
 refine oE (eS (lB (lS (lB (lS (lB (lS (lB (lS (lB (lS (lB (lS (lS (lS (lO ?_))))))))))))))))
 by_cases c5 : n1 = 1
 replace h := ifT c5 h
 refine pq (qb (p_eql_tZ c5)) ?_
 refine pq (qa bt) ?_
 refine oE (eS (cT rfl (L_exit ?_)))
 refine E_seqX ?_
 refine E_seqX ?_
 refine bH (eS (lS (lS (lS (lO ?_)))))
 refine pq (qm (iO n2)) ?_
 by_cases c6 : n2 ≥ 4611686018427387904
 replace h := ifT c6 h
 refine pq (qb (p_geq_tZ c6)) ?_
 refine pq (qm bt) ?_
 iterate 2 refine os ?_
 refine pq (qpt bt) ?_
 refine oE (eS (cT rfl (lS (lO ?_))))
 obtain ⟨⟨n8, n9⟩, h7, h⟩ := bindS h
 refine pq (qc (.agg [iI n8, uI n9]) [iO 4611686018427387904] (wide_Of_r (m + 1) h7) (vw_cons (vd_one vc_v) vw_nil)) ?_
 refine ow [[iI n8, uI n9]] 0 sz62 ?_
 refine oE (eS (lR (eR (eR (bR (eR (bR (eR (bR (eR (bR (eR (bR (eR ?_))))))))))))))
 obtain rfl := sj h
 exact E_endF (.inr rfl) (res_cell (d := .agg [iI n8, uI n9]) 0 rfl sz62 rfl rfl rfl rfl res_nil) (vw_cons (vd_agg (vc_cons vc_v (vc_cons vc_v vc_nil))) vw_nil) oG rfl rfl
 replace h := ifF c6 h
 refine pq (qb (p_geq_fZ c6)) ?_
 refine pq (qm bf) ?_
 refine pq (qm (iO n3)) ?_
 by_cases c10 : n3 ≥ 4611686018427387904
 replace h := ifT c10 h
 refine pq (qb (p_geq_tZ c10)) ?_
 refine pq (qpf bt) ?_
 refine oE (eS (cT rfl (lS (lO ?_))))
 obtain ⟨⟨n12, n13⟩, h11, h⟩ := bindS h
 refine pq (qc (.agg [iI n12, uI n13]) [iO 4611686018427387904] (wide_Of_r (m + 1) h11) (vw_cons (vd_one vc_v) vw_nil)) ?_
 refine ow [[iI n12, uI n13]] 0 sz62 ?_
 refine oE (eS (lR (eR (eR (bR (eR (bR (eR (bR (eR (bR (eR (bR (eR ?_))))))))))))))
 obtain rfl := sj h
 exact E_endF (.inr rfl) (res_cell (d := .agg [iI n12, uI n13]) 0 rfl sz62 rfl rfl rfl rfl res_nil) (vw_cons (vd_agg (vc_cons vc_v (vc_cons vc_v vc_nil))) vw_nil) oG rfl rfl
 replace h := ifF c10 h
 refine pq (qb (p_geq_fZ c10)) ?_
 refine pq (qpf bf) ?_
 refine oE (eS (cF rfl (lK (eS (lS (lO ?_))))))
 refine pq (qm (iO n2)) ?_
 obtain ⟨⟨n15, n16⟩, h14, h⟩ := bindS h
 refine pq (qc (.agg [iI n15, uI n16]) [iO n2] (wide_Of_r (m + 1) h14) (vw_cons (vd_one vc_v) vw_nil)) ?_
 refine pq (qm (iO n3)) ?_
 obtain ⟨⟨n18, n19⟩, h17, h⟩ := bindS h
 refine pq (qc (.agg [iI n18, uI n19]) [iO n3] (wide_Of_r (m + 1) h17) (vw_cons (vd_one vc_v) vw_nil)) ?_
 obtain ⟨⟨n21, n22⟩, h20, h⟩ := bindS h
 refine pq (qc (.agg [iI n21, uI n22]) [.agg [iI n15, uI n16], .agg [iI n18, uI n19]] (wide_Add_r (m + 1) h20) (vw_cons (vd_agg (vc_cons vc_v (vc_cons vc_v vc_nil))) (vw_cons (vd_agg (vc_cons vc_v (vc_cons vc_v vc_nil))) vw_nil))) ?_
 obtain ⟨⟨n24, n25⟩, h23, h⟩ := bindS h
 refine pq (qc (.agg [iI n24, uI n25]) [iO 4611686018427387904] (wide_Of_r (m + 1) h23) (vw_cons (vd_one vc_v) vw_nil)) ?_
 obtain ⟨⟨n27, n28⟩, h26, h⟩ := bindS h
 refine pq (qc (.agg [iI n27, uI n28]) [.agg [iI n21, uI n22], .agg [iI n24, uI n25]] (ring_lesser_r (m + 0) h26) (vw_cons (vd_agg (vc_cons vc_v (vc_cons vc_v vc_nil))) (vw_cons (vd_agg (vc_cons vc_v (vc_cons vc_v vc_nil))) vw_nil))) ?_
 refine ow [[iI n27, uI n28]] 0 sz62 ?_
 refine oE (eS (lR (eR (bR (eR (bR (eR (bR (eR (bR (eR (bR (eR ?_)))))))))))))
 obtain rfl := sj h
 exact E_endF (.inr rfl) (res_cell (d := .agg [iI n27, uI n28]) 0 rfl sz62 rfl rfl rfl rfl res_nil) (vw_cons (vd_agg (vc_cons vc_v (vc_cons vc_v vc_nil))) vw_nil) oG rfl rfl
 replace h := ifF c5 h
 refine pq (qb (p_eql_fZ c5)) ?_
 refine pq (qa bf) ?_
 refine oE (eS (cF rfl (lK (eS (lS (lS (lO ?_)))))))
 by_cases c29 : n1 = 2
 replace h := ifT c29 h
 refine pq (qb (p_eql_tZ c29)) ?_
 refine pq (qa bt) ?_
 refine oE (eS (cT rfl (L_exit ?_)))
 refine E_seqX ?_
 refine E_seqX ?_
 refine E_blkX rfl ?_
 refine E_seqX ?_
 refine bH (eS (lS (lS (lO ?_))))
 refine pq (qm (iO n2)) ?_
 by_cases c30 : n2 ≠ 0
 replace h := ifT c30 h
 refine pq (qb (p_neq_tZ c30)) ?_
 refine pq (qm bt) ?_
 refine pq (qm (iO n3)) ?_
 by_cases c31 : n3 ≠ 0
 replace h := ifT c31 h
 refine pq (qb (p_neq_tZ c31)) ?_
 refine pq (qpt bt) ?_
 obtain ⟨⟨n33, n34⟩, h32, h⟩ := bindS h
 refine pq (qc (.agg [iI n33, uI n34]) [bt] (ring_truth_r (m + 0) h32) (vw_cons (vd_one vc_v) vw_nil)) ?_
 refine ow [[iI n33, uI n34]] 0 sz62 ?_
 refine oE (eS (lR (eR (bR (eR (bR (eR (bR (eR (bR (eR ?_)))))))))))
 obtain rfl := sj h
 exact E_endF (.inr rfl) (res_cell (d := .agg [iI n33, uI n34]) 0 rfl sz62 rfl rfl rfl rfl res_nil) (vw_cons (vd_agg (vc_cons vc_v (vc_cons vc_v vc_nil))) vw_nil) oG rfl rfl
 replace h := ifF c31 h
 refine pq (qb (p_neq_fZ c31)) ?_
 refine pq (qpt bf) ?_
 obtain ⟨⟨n36, n37⟩, h35, h⟩ := bindS h
 refine pq (qc (.agg [iI n36, uI n37]) [bf] (ring_truth_r (m + 0) h35) (vw_cons (vd_one vc_v) vw_nil)) ?_
 refine ow [[iI n36, uI n37]] 0 sz62 ?_
 refine oE (eS (lR (eR (bR (eR (bR (eR (bR (eR (bR (eR ?_)))))))))))
 obtain rfl := sj h
 exact E_endF (.inr rfl) (res_cell (d := .agg [iI n36, uI n37]) 0 rfl sz62 rfl rfl rfl rfl res_nil) (vw_cons (vd_agg (vc_cons vc_v (vc_cons vc_v vc_nil))) vw_nil) oG rfl rfl
 replace h := ifF c30 h
 refine pq (qb (p_neq_fZ c30)) ?_
 refine pq (qm bf) ?_
 iterate 2 refine os ?_
 refine pq (qpf bf) ?_
 obtain ⟨⟨n39, n40⟩, h38, h⟩ := bindS h
 refine pq (qc (.agg [iI n39, uI n40]) [bf] (ring_truth_r (m + 0) h38) (vw_cons (vd_one vc_v) vw_nil)) ?_
 refine ow [[iI n39, uI n40]] 0 sz62 ?_
 refine oE (eS (lR (eR (bR (eR (bR (eR (bR (eR (bR (eR ?_)))))))))))
 obtain rfl := sj h
 exact E_endF (.inr rfl) (res_cell (d := .agg [iI n39, uI n40]) 0 rfl sz62 rfl rfl rfl rfl res_nil) (vw_cons (vd_agg (vc_cons vc_v (vc_cons vc_v vc_nil))) vw_nil) oG rfl rfl
 replace h := ifF c29 h
 refine pq (qb (p_eql_fZ c29)) ?_
 refine pq (qa bf) ?_
 refine oE (eS (cF rfl (lK (eS (lS (lS (lO ?_)))))))
 by_cases c41 : n1 = 4
 replace h := ifT c41 h
 refine pq (qb (p_eql_tZ c41)) ?_
 refine pq (qa bt) ?_
 refine oE (eS (cT rfl (L_exit ?_)))
 refine E_seqX ?_
 refine E_seqX ?_
 refine E_blkX rfl ?_
 refine E_seqX ?_
 refine E_blkX rfl ?_
 refine E_seqX ?_
 refine bH (eS (lO ?_))
 refine pq (qm (iO n3)) ?_
 refine pq (qm (iO n2)) ?_
 refine pq (qa (iO n3)) ?_
 refine pq (qa (iO n2)) ?_
 refine oE (bN (eS (lS (lS (lS (lO ?_))))))
 refine pq (qm (iO n3)) ?_
 by_cases c42 : n3 ≥ 4611686018427387904
 replace h := ifT c42 h
 refine pq (qb (p_geq_tZ c42)) ?_
 refine pq (qm bt) ?_
 iterate 2 refine os ?_
 refine pq (qpt bt) ?_
 refine oE (eS (cT rfl (lS (lO ?_))))
 obtain ⟨⟨n44, n45⟩, h43, h⟩ := bindS h
 refine pq (qc (.agg [iI n44, uI n45]) [iO 4611686018427387904] (wide_Of_r (m + 1) h43) (vw_cons (vd_one vc_v) vw_nil)) ?_
 refine ow [[iI n44, uI n45]] 0 sz62 ?_
 refine oE (eS (lR (eR (eR (bR (eR (bR (eR ?_))))))))
 obtain rfl := sj h
 exact E_endF (.inr rfl) (res_cell (d := .agg [iI n44, uI n45]) 0 rfl sz62 rfl rfl rfl rfl res_nil) (vw_cons (vd_agg (vc_cons vc_v (vc_cons vc_v vc_nil))) vw_nil) oG rfl rfl
 replace h := ifF c42 h
 refine pq (qb (p_geq_fZ c42)) ?_
 refine pq (qm bf) ?_
 refine pq (qm (iO n2)) ?_
 by_cases c46 : n2 ≥ 4611686018427387904
 replace h := ifT c46 h
 refine pq (qb (p_geq_tZ c46)) ?_
 refine pq (qpf bt) ?_
 refine oE (eS (cT rfl (lS (lO ?_))))
 obtain ⟨⟨n48, n49⟩, h47, h⟩ := bindS h
 refine pq (qc (.agg [iI n48, uI n49]) [iO 4611686018427387904] (wide_Of_r (m + 1) h47) (vw_cons (vd_one vc_v) vw_nil)) ?_
 refine ow [[iI n48, uI n49]] 0 sz62 ?_
 refine oE (eS (lR (eR (eR (bR (eR (bR (eR ?_))))))))
 obtain rfl := sj h
 exact E_endF (.inr rfl) (res_cell (d := .agg [iI n48, uI n49]) 0 rfl sz62 rfl rfl rfl rfl res_nil) (vw_cons (vd_agg (vc_cons vc_v (vc_cons vc_v vc_nil))) vw_nil) oG rfl rfl
 replace h := ifF c46 h
 refine pq (qb (p_geq_fZ c46)) ?_
 refine pq (qpf bf) ?_
 refine oE (eS (cF rfl (lK (eS (lS (lO ?_))))))
 refine pq (qm (iO n3)) ?_
 obtain ⟨⟨n51, n52⟩, h50, h⟩ := bindS h
 refine pq (qc (.agg [iI n51, uI n52]) [iO n3] (wide_Of_r (m + 1) h50) (vw_cons (vd_one vc_v) vw_nil)) ?_
 refine ow [[iI n51, uI n52]] 0 sz62 ?_
 refine oE (eS (lR (eR (bR (eR (bR (eR ?_)))))))
 obtain rfl := sj h
 exact E_endF (.inr rfl) (res_cell (d := .agg [iI n51, uI n52]) 0 rfl sz62 rfl rfl rfl rfl res_nil) (vw_cons (vd_agg (vc_cons vc_v (vc_cons vc_v vc_nil))) vw_nil) oG rfl rfl
 replace h := ifF c41 h
 refine pq (qb (p_eql_fZ c41)) ?_
 refine pq (qa bf) ?_
 refine oE (eS (cF rfl (lK (eS (lS (lS (lO ?_)))))))
 by_cases c53 : n1 = 3
 replace h := ifT c53 h
 refine pq (qb (p_eql_tZ c53)) ?_
 refine pq (qa bt) ?_
 refine oE (eS (cT rfl (L_exit ?_)))
 refine E_seqX ?_
 refine E_seqX ?_
 refine E_blkX rfl ?_
 refine E_seqX ?_
 refine E_blkX rfl ?_
 refine E_seqX ?_
 refine E_blkX rfl ?_
 refine E_seqX ?_
 refine bH (eS (lS (lS (lS (lO ?_)))))
 refine pq (qm (iO n2)) ?_
 by_cases c54 : n2 ≥ 4611686018427387904
 replace h := ifT c54 h
 refine pq (qb (p_geq_tZ c54)) ?_
 refine pq (qm bt) ?_
 iterate 2 refine os ?_
 refine pq (qpt bt) ?_
 refine oE (eS (cT rfl (lS (lO ?_))))
 obtain ⟨⟨n56, n57⟩, h55, h⟩ := bindS h
 refine pq (qc (.agg [iI n56, uI n57]) [iO 4611686018427387904] (wide_Of_r (m + 1) h55) (vw_cons (vd_one vc_v) vw_nil)) ?_
 refine ow [[iI n56, uI n57]] 0 sz62 ?_
 refine oE (eS (lR (eR (eR (bR (eR (bR (eR ?_))))))))
 obtain rfl := sj h
 exact E_endF (.inr rfl) (res_cell (d := .agg [iI n56, uI n57]) 0 rfl sz62 rfl rfl rfl rfl res_nil) (vw_cons (vd_agg (vc_cons vc_v (vc_cons vc_v vc_nil))) vw_nil) oG rfl rfl
 replace h := ifF c54 h
 refine pq (qb (p_geq_fZ c54)) ?_
 refine pq (qm bf) ?_
 refine pq (qm (iO n3)) ?_
 by_cases c58 : n3 ≥ 4611686018427387904
 replace h := ifT c58 h
 refine pq (qb (p_geq_tZ c58)) ?_
 refine pq (qpf bt) ?_
 refine oE (eS (cT rfl (lS (lO ?_))))
 obtain ⟨⟨n60, n61⟩, h59, h⟩ := bindS h
 refine pq (qc (.agg [iI n60, uI n61]) [iO 4611686018427387904] (wide_Of_r (m + 1) h59) (vw_cons (vd_one vc_v) vw_nil)) ?_
 refine ow [[iI n60, uI n61]] 0 sz62 ?_
 refine oE (eS (lR (eR (eR (bR (eR (bR (eR ?_))))))))
 obtain rfl := sj h
 exact E_endF (.inr rfl) (res_cell (d := .agg [iI n60, uI n61]) 0 rfl sz62 rfl rfl rfl rfl res_nil) (vw_cons (vd_agg (vc_cons vc_v (vc_cons vc_v vc_nil))) vw_nil) oG rfl rfl
 replace h := ifF c58 h
 refine pq (qb (p_geq_fZ c58)) ?_
 refine pq (qpf bf) ?_
 refine oE (eS (cF rfl (lK (eS (lS (lO ?_))))))
 refine pq (qm (iO n2)) ?_
 obtain ⟨⟨n63, n64⟩, h62, h⟩ := bindS h
 refine pq (qc (.agg [iI n63, uI n64]) [iO n2] (wide_Of_r (m + 1) h62) (vw_cons (vd_one vc_v) vw_nil)) ?_
 refine ow [[iI n63, uI n64]] 0 sz62 ?_
 refine oE (eS (lR (eR (bR (eR (bR (eR ?_)))))))
 obtain rfl := sj h
 exact E_endF (.inr rfl) (res_cell (d := .agg [iI n63, uI n64]) 0 rfl sz62 rfl rfl rfl rfl res_nil) (vw_cons (vd_agg (vc_cons vc_v (vc_cons vc_v vc_nil))) vw_nil) oG rfl rfl
 replace h := ifF c53 h
 refine pq (qb (p_eql_fZ c53)) ?_
 refine pq (qa bf) ?_
 refine oE (eS (cF rfl (lK (eS (lS (lO ?_))))))
 by_cases c65 : n1 = 5
 replace h := ifT c65 h
 refine pq (qb (p_eql_tZ c65)) ?_
 refine pq (qa bt) ?_
 refine oE (eS (cT rfl (L_exit ?_)))
 refine E_seqX ?_
 refine E_blkX rfl ?_
 refine E_seqX ?_
 refine E_blkX rfl ?_
 refine E_seqX ?_
 refine E_blkX rfl ?_
 refine E_seqX ?_
 refine E_blkX rfl ?_
 refine E_seqX ?_
 refine bH (eS (lS (lS (lO ?_))))
 refine pq (qm (iO n2)) ?_
 refine pq (qm (iO n3)) ?_
 obtain ⟨⟨n67, n68⟩, h66, h⟩ := bindS h
 refine pq (qc (.agg [iI n67, uI n68]) [iO n2, iO n3] (wide_Mul_r (m + 0) h66) (vw_cons (vd_one vc_v) (vw_cons (vd_one vc_v) vw_nil))) ?_
 refine ow [[iI n67, uI n68]] 0 sz62 ?_
 refine oE (eS (lR (eR (bR (eR ?_)))))
 obtain rfl := sj h
 exact E_endF (.inr rfl) (res_cell (d := .agg [iI n67, uI n68]) 0 rfl sz62 rfl rfl rfl rfl res_nil) (vw_cons (vd_agg (vc_cons vc_v (vc_cons vc_v vc_nil))) vw_nil) oG rfl rfl
 replace h := ifF c65 h
 refine pq (qb (p_eql_fZ c65)) ?_
 refine pq (qa bf) ?_
 refine oE (eS (cF rfl (lK (eS (L_exit ?_)))))
 refine E_blkX rfl ?_
 refine E_seqX ?_
 refine E_blkX rfl ?_
 refine E_seqX ?_
 refine E_blkX rfl ?_
 refine E_seqX ?_
 refine E_blkX rfl ?_
 refine E_seqX ?_
 refine E_blkX rfl ?_
 refine E_seqX ?_
 refine bH (eS (lS (lO ?_)))
 refine pq (q_build (cs := [iI 0, uI 0]) ty62 rfl pl62 rfl) ?_
 refine ow [[iI 0, uI 0]] 0 sz62 ?_
 refine oE (eS (lR ?_))
 obtain rfl := sj h
 exact E_endF (.inr rfl) (res_cell (d := .agg [iI 0, uI 0]) 0 rfl sz62 rfl rfl rfl rfl res_nil) (vw_cons (vd_agg (vc_cons vc_v (vc_cons vc_v vc_nil))) vw_nil) oG rfl rfl
noncomputable def ring_Add (n1 : Int) (a1 : Int × Int) (a2 : Int × Int) : Option ((Int × Int)) :=
 match a1, a2 with
 | (n2, n3), (n4, n5) => (if n1 = 1 then ((ring_lesser (n2, n3) (n4, n5)).bind fun (n11, n12) => some (n11, n12)) else (if n1 = 3 then ((ring_lesser (n2, n3) (n4, n5)).bind fun (n15, n16) => some (n15, n16)) else (if n1 = 4 then ((ring_lesser (n2, n3) (n4, n5)).bind fun (n19, n20) => some (n19, n20)) else (if n1 = 2 then (if n2 = 0 ∧ n3 = 0 then (if n4 = 0 ∧ n5 = 0 then ((ring_truth false).bind fun (n25, n26) => some (n25, n26)) else ((ring_truth true).bind fun (n28, n29) => some (n28, n29))) else ((ring_truth true).bind fun (n31, n32) => some (n31, n32))) else (if n1 = 5 then ((wide_Add (n2, n3) (n4, n5)).bind fun (n35, n36) => some (n35, n36)) else some (0, 0))))))
theorem ring_Add_r (m : Nat) {n1 : Int} {a1 : Int × Int} {a2 : Int × Int} {out : (Int × Int)} (h : ring_Add n1 a1 a2 = some out) : RunsP E1 (m + 3) 40 [.one (iT .i64 n1), .agg (r61 a1), .agg (r61 a2)] (.fresh, [.agg (r61 out)]) := by
 obtain ⟨n2, n3⟩ := a1
 obtain ⟨n4, n5⟩ := a2
 refine fn_F rfl (by rw [E1_fn]; exact show fiOf Tryd.prog 40 = _ by unfold fiOf; rw [Tryd.func40]; unfold Tryd.f40; rfl) rfl ?_
 dsimp only
 unfold ring_Add at h
 refine lS (lO ?_)
 refine ol_new rfl rfl rfl (q_box ty62 rfl (cs := [iI n2, uI n3]) rfl rfl) (fun k6 => ?_)
 refine ol_new rfl rfl rfl (q_box ty62 rfl (cs := [iI n4, uI n5]) rfl rfl) (fun k7 => ?_)
 refine ol_new rfl rfl rfl (q_alloc ty62 (row := [iI 0, uI 0]) rfl rfl) (fun k8 => ?_)
 refine oE (eS (lS (lS (lO ?_))))
 refine pq (qm (iO n1)) ?_
 refine oE (eS (lB (lS (lS (lO ?_)))))
 by_cases c9 : n1 = 1
 replace h := ifT c9 h
 refine pq (qb (p_eql_tZ c9)) ?_
 refine pq (qa bt) ?_
 refine oE (eS (cT rfl (lK (eS (cT rfl (lS (lO ?_)))))))
 refine pq (ql (.agg [iI n2, uI n3]) 2 sz62) ?_
 refine pq (ql (.agg [iI n4, uI n5]) 1 sz62) ?_
 obtain ⟨⟨n11, n12⟩, h10, h⟩ := bindS h
 refine pq (qc (.agg [iI n11, uI n12]) [.agg [iI n2, uI n3], .agg [iI n4, uI n5]] (ring_lesser_r (m + 0) h10) (vw_cons (vd_agg (vc_cons vc_v (vc_cons vc_v vc_nil))) (vw_cons (vd_agg (vc_cons vc_v (vc_cons vc_v vc_nil))) vw_nil))) ?_
 refine ow [[iI n11, uI n12]] 0 sz62 ?_
 refine oE (eS (lR (bR (eR ?_))))
 obtain rfl := sj h
 exact E_endF (.inr rfl) (res_cell (d := .agg [iI n11, uI n12]) 0 rfl sz62 rfl rfl rfl rfl res_nil) (vw_cons (vd_agg (vc_cons vc_v (vc_cons vc_v vc_nil))) vw_nil) oG rfl rfl
 replace h := ifF c9 h
 refine pq (qb (p_eql_fZ c9)) ?_
 refine pq (qa bf) ?_
 refine oE (eS (cF rfl (lS (lO ?_))))
 by_cases c13 : n1 = 3
 replace h := ifT c13 h
 refine pq (qb (p_eql_tZ c13)) ?_
 refine pq (qa bt) ?_
 refine oE (eS (cT rfl (lK (eS (cT rfl (lS (lO ?_)))))))
 refine pq (ql (.agg [iI n2, uI n3]) 2 sz62) ?_
 refine pq (ql (.agg [iI n4, uI n5]) 1 sz62) ?_
 obtain ⟨⟨n15, n16⟩, h14, h⟩ := bindS h
 refine pq (qc (.agg [iI n15, uI n16]) [.agg [iI n2, uI n3], .agg [iI n4, uI n5]] (ring_lesser_r (m + 0) h14) (vw_cons (vd_agg (vc_cons vc_v (vc_cons vc_v vc_nil))) (vw_cons (vd_agg (vc_cons vc_v (vc_cons vc_v vc_nil))) vw_nil))) ?_
 refine ow [[iI n15, uI n16]] 0 sz62 ?_
 refine oE (eS (lR (bR (eR ?_))))
 obtain rfl := sj h
 exact E_endF (.inr rfl) (res_cell (d := .agg [iI n15, uI n16]) 0 rfl sz62 rfl rfl rfl rfl res_nil) (vw_cons (vd_agg (vc_cons vc_v (vc_cons vc_v vc_nil))) vw_nil) oG rfl rfl
 replace h := ifF c13 h
 refine pq (qb (p_eql_fZ c13)) ?_
 refine pq (qa bf) ?_
 refine oE (eS (cF rfl (lO ?_)))
 by_cases c17 : n1 = 4
 replace h := ifT c17 h
 refine pq (qb (p_eql_tZ c17)) ?_
 refine pq (qa bt) ?_
 refine oE (eS (cT rfl (lS (lO ?_))))
 refine pq (ql (.agg [iI n2, uI n3]) 2 sz62) ?_
 refine pq (ql (.agg [iI n4, uI n5]) 1 sz62) ?_
 obtain ⟨⟨n19, n20⟩, h18, h⟩ := bindS h
 refine pq (qc (.agg [iI n19, uI n20]) [.agg [iI n2, uI n3], .agg [iI n4, uI n5]] (ring_lesser_r (m + 0) h18) (vw_cons (vd_agg (vc_cons vc_v (vc_cons vc_v vc_nil))) (vw_cons (vd_agg (vc_cons vc_v (vc_cons vc_v vc_nil))) vw_nil))) ?_
 refine ow [[iI n19, uI n20]] 0 sz62 ?_
 refine oE (eS (lR (bR (eR ?_))))
 obtain rfl := sj h
 exact E_endF (.inr rfl) (res_cell (d := .agg [iI n19, uI n20]) 0 rfl sz62 rfl rfl rfl rfl res_nil) (vw_cons (vd_agg (vc_cons vc_v (vc_cons vc_v vc_nil))) vw_nil) oG rfl rfl
 replace h := ifF c17 h
 refine pq (qb (p_eql_fZ c17)) ?_
 refine pq (qa bf) ?_
 refine oE (eS (cF rfl (lS (lO ?_))))
 by_cases c21 : n1 = 2
 replace h := ifT c21 h
 refine pq (qb (p_eql_tZ c21)) ?_
 refine pq (qa bt) ?_
 refine oE (eS (cT rfl (lS (lO ?_))))
 refine pq (ql (.agg [iI n2, uI n3]) 2 sz62) ?_
 refine pq (q_build (cs := [iI 0, uI 0]) ty62 rfl pl62 rfl) ?_
 by_cases c22 : n2 = 0 ∧ n3 = 0
 replace h := ifT c22 h
 refine pq (q_binA rfl rfl (by rfl) (by rfl) (eqneqA62_t _ _ c22) rfl) ?_
 refine pq (qm bf) ?_
 refine pq (ql (.agg [iI n4, uI n5]) 1 sz62) ?_
 refine pq (q_build (cs := [iI 0, uI 0]) ty62 rfl pl62 rfl) ?_
 by_cases c23 : n4 = 0 ∧ n5 = 0
 replace h := ifT c23 h
 refine pq (q_binA rfl rfl (by rfl) (by rfl) (eqneqA62_t _ _ c23) rfl) ?_
 refine pq (qpf bf) ?_
 obtain ⟨⟨n25, n26⟩, h24, h⟩ := bindS h
 refine pq (qc (.agg [iI n25, uI n26]) [bf] (ring_truth_r (m + 0) h24) (vw_cons (vd_one vc_v) vw_nil)) ?_
 refine ow [[iI n25, uI n26]] 0 sz62 ?_
 refine oE (eS (lR (bR (eR ?_))))
 obtain rfl := sj h
 exact E_endF (.inr rfl) (res_cell (d := .agg [iI n25, uI n26]) 0 rfl sz62 rfl rfl rfl rfl res_nil) (vw_cons (vd_agg (vc_cons vc_v (vc_cons vc_v vc_nil))) vw_nil) oG rfl rfl
 replace h := ifF c23 h
 refine pq (q_binA rfl rfl (by rfl) (by rfl) (eqneqA62_f _ _ c23) rfl) ?_
 refine pq (qpf bt) ?_
 obtain ⟨⟨n28, n29⟩, h27, h⟩ := bindS h
 refine pq (qc (.agg [iI n28, uI n29]) [bt] (ring_truth_r (m + 0) h27) (vw_cons (vd_one vc_v) vw_nil)) ?_
 refine ow [[iI n28, uI n29]] 0 sz62 ?_
 refine oE (eS (lR (bR (eR ?_))))
 obtain rfl := sj h
 exact E_endF (.inr rfl) (res_cell (d := .agg [iI n28, uI n29]) 0 rfl sz62 rfl rfl rfl rfl res_nil) (vw_cons (vd_agg (vc_cons vc_v (vc_cons vc_v vc_nil))) vw_nil) oG rfl rfl
 replace h := ifF c22 h
 refine pq (q_binA rfl rfl (by rfl) (by rfl) (eqneqA62_f _ _ c22) rfl) ?_
 refine pq (qm bt) ?_
 iterate 3 refine os ?_
 refine pq (qpt bt) ?_
 obtain ⟨⟨n31, n32⟩, h30, h⟩ := bindS h
 refine pq (qc (.agg [iI n31, uI n32]) [bt] (ring_truth_r (m + 0) h30) (vw_cons (vd_one vc_v) vw_nil)) ?_
 refine ow [[iI n31, uI n32]] 0 sz62 ?_
 refine oE (eS (lR (bR (eR ?_))))
 obtain rfl := sj h
 exact E_endF (.inr rfl) (res_cell (d := .agg [iI n31, uI n32]) 0 rfl sz62 rfl rfl rfl rfl res_nil) (vw_cons (vd_agg (vc_cons vc_v (vc_cons vc_v vc_nil))) vw_nil) oG rfl rfl
 replace h := ifF c21 h
 refine pq (qb (p_eql_fZ c21)) ?_
 refine pq (qa bf) ?_
 refine oE (eS (cF rfl (lS (lO ?_))))
 by_cases c33 : n1 = 5
 replace h := ifT c33 h
 refine pq (qb (p_eql_tZ c33)) ?_
 refine pq (qa bt) ?_
 refine oE (eS (cT rfl (lS (lO ?_))))
 refine pq (ql (.agg [iI n2, uI n3]) 2 sz62) ?_
 refine pq (ql (.agg [iI n4, uI n5]) 1 sz62) ?_
 obtain ⟨⟨n35, n36⟩, h34, h⟩ := bindS h
 refine pq (qc (.agg [iI n35, uI n36]) [.agg [iI n2, uI n3], .agg [iI n4, uI n5]] (wide_Add_r (m + 1) h34) (vw_cons (vd_agg (vc_cons vc_v (vc_cons vc_v vc_nil))) (vw_cons (vd_agg (vc_cons vc_v (vc_cons vc_v vc_nil))) vw_nil))) ?_
 refine ow [[iI n35, uI n36]] 0 sz62 ?_
 refine oE (eS (lR (bR (eR ?_))))
 obtain rfl := sj h
 exact E_endF (.inr rfl) (res_cell (d := .agg [iI n35, uI n36]) 0 rfl sz62 rfl rfl rfl rfl res_nil) (vw_cons (vd_agg (vc_cons vc_v (vc_cons vc_v vc_nil))) vw_nil) oG rfl rfl
 replace h := ifF c33 h
 refine pq (qb (p_eql_fZ c33)) ?_
 refine pq (qa bf) ?_
 refine oE (eS (cF rfl (lK (bN (eS (lS (lO ?_)))))))
 refine pq (q_build (cs := [iI 0, uI 0]) ty62 rfl pl62 rfl) ?_
 refine ow [[iI 0, uI 0]] 0 sz62 ?_
 refine oE (eS (lR ?_))
 obtain rfl := sj h
 exact E_endF (.inr rfl) (res_cell (d := .agg [iI 0, uI 0]) 0 rfl sz62 rfl rfl rfl rfl res_nil) (vw_cons (vd_agg (vc_cons vc_v (vc_cons vc_v vc_nil))) vw_nil) oG rfl rfl
noncomputable def pull_Sums_b2 (s20 : Sl (Int)) (s21 : Sl (Int)) (s22 : Sl (Int)) (n333 : Int) (n387 : Int) : Option (Int ⊕ (Unit ⊕ Empty)) :=
 ((atS 1 s20 (IntKind.i64.wrap (n333 + 1))).bind fun n390 => (if n387 < n390 then ((atS 1 s21 n387).bind fun n394 => ((flags_Has (⟨false, 0, []⟩ : Sl (Int)) n394).bind fun b396 => (if b396 = true then ((atS 1 s22 n387).bind fun n406 => ((atS 1 (⟨false, 0, []⟩ : Sl (Int)) n394).bind fun n409 => none)) else some (.inl (IntKind.i64.wrap (n387 + 1)))))) else some (.inr (.inl ()))))
noncomputable def pull_Sums_b3 (s20 : Sl (Int)) (s21 : Sl (Int)) (s22 : Sl (Int)) (n333 : Int) (n460 : Int) : Option (Int ⊕ (Unit ⊕ Empty)) :=
 ((atS 1 s20 (IntKind.i64.wrap (n333 + 1))).bind fun n463 => (if n460 < n463 then ((atS 1 s21 n460).bind fun n467 => ((flags_Has (⟨false, 0, []⟩ : Sl (Int)) n467).bind fun b469 => (if b469 = true then ((atS 1 s22 n460).bind fun n479 => ((atS 1 (⟨false, 0, []⟩ : Sl (Int)) n467).bind fun n482 => none)) else some (.inl (IntKind.i64.wrap (n460 + 1)))))) else some (.inr (.inl ()))))
noncomputable def pull_Sums_b1 (s10 : Sl (Int)) (n18 : Int) (s20 : Sl (Int)) (s21 : Sl (Int)) (s22 : Sl (Int)) (a : Int × Bool) : Option ((Int × Bool) ⊕ (Unit ⊕ Empty)) :=
 match a with
 | (n333, b334) => (if n333 < n18 then ((flags_Has s10 n333).bind fun b337 => (if b337 = true then (if b334 = true then some (.inl ((IntKind.i64.wrap (n333 + 1)), true)) else ((atS 1 s20 n333).bind fun n414 => ((loopO (pull_Sums_b3 s20 s21 s22 n333) n414).bind (Sum.elim (fun _ => some (.inl ((IntKind.i64.wrap (n333 + 1)), false))) (fun u => u.elim))))) else (if b334 = true then ((atS 1 s20 n333).bind fun n341 => ((loopO (pull_Sums_b2 s20 s21 s22 n333) n341).bind (Sum.elim (fun _ => some (.inl ((IntKind.i64.wrap (n333 + 1)), true))) (fun u => u.elim)))) else some (.inl ((IntKind.i64.wrap (n333 + 1)), false))))) else some (.inr (.inl ())))
noncomputable def pull_Sums_b5 (n1 : Int) (s8 : Sl (Int)) (s9 : Sl (Int)) (s20 : Sl (Int)) (s21 : Sl (Int)) (s22 : Sl (Int)) (n1339 : Int) (a : Bool × Int × Int × Int) : Option ((Bool × Int × Int × Int) ⊕ ((Bool × Int × Int) ⊕ Empty)) :=
 match a with
 | (b1442, n1443, n1444, n1445) => ((atS 1 s20 (IntKind.i64.wrap (n1339 + 1))).bind fun n1448 => (if n1443 < n1448 then ((atS 1 s21 n1443).bind fun n1452 => ((flags_Has s8 n1452).bind fun b1454 => (if b1454 = true then ((atS 1 s22 n1443).bind fun n1467 => ((atS 1 s9 n1452).bind fun n1470 => ((ring_Mul n1 n1467 n1470).bind fun (n1472, n1473) => (if b1442 = true then ((ring_Add n1 (n1444, n1445) (n1472, n1473)).bind fun (n1475, n1476) => some (.inl (true, (IntKind.i64.wrap (n1443 + 1)), n1475, n1476))) else some (.inl (true, (IntKind.i64.wrap (n1443 + 1)), n1472, n1473)))))) else some (.inl (b1442, (IntKind.i64.wrap (n1443 + 1)), n1444, n1445))))) else some (.inr (.inl (b1442, n1444, n1445)))))
noncomputable def pull_Sums_b6 (n1 : Int) (s8 : Sl (Int)) (s9 : Sl (Int)) (s20 : Sl (Int)) (s21 : Sl (Int)) (s22 : Sl (Int)) (n1339 : Int) (a : Bool × Int × Int × Int) : Option ((Bool × Int × Int × Int) ⊕ ((Bool × Int × Int) ⊕ Empty)) :=
 match a with
 | (b1580, n1581, n1582, n1583) => ((atS 1 s20 (IntKind.i64.wrap (n1339 + 1))).bind fun n1586 => (if n1581 < n1586 then ((atS 1 s21 n1581).bind fun n1590 => ((flags_Has s8 n1590).bind fun b1592 => (if b1592 = true then ((atS 1 s22 n1581).bind fun n1605 => ((atS 1 s9 n1590).bind fun n1608 => ((ring_Mul n1 n1605 n1608).bind fun (n1610, n1611) => (if b1580 = true then ((ring_Add n1 (n1582, n1583) (n1610, n1611)).bind fun (n1613, n1614) => some (.inl (true, (IntKind.i64.wrap (n1581 + 1)), n1613, n1614))) else some (.inl (true, (IntKind.i64.wrap (n1581 + 1)), n1610, n1611)))))) else some (.inl (b1580, (IntKind.i64.wrap (n1581 + 1)), n1582, n1583))))) else some (.inr (.inl (b1580, n1582, n1583)))))
noncomputable def pull_Sums_b4 (n1 : Int) (s8 : Sl (Int)) (s9 : Sl (Int)) (s10 : Sl (Int)) (n18 : Int) (s20 : Sl (Int)) (s21 : Sl (Int)) (s22 : Sl (Int)) (a : Int × Bool × (List (Int × (Int × Int)))) : Option ((Int × Bool × (List (Int × (Int × Int)))) ⊕ ((List (Int × (Int × Int))) ⊕ Empty)) :=
 match a with
 | (n1339, b1340, l1341) => (if n1339 < n18 then ((flags_Has s10 n1339).bind fun b1345 => (if b1345 = true then (if b1340 = true then some (.inl ((IntKind.i64.wrap (n1339 + 1)), true, l1341)) else ((atS 1 s20 n1339).bind fun n1487 => ((loopO (pull_Sums_b6 n1 s8 s9 s20 s21 s22 n1339) (false, n1487, 0, 0)).bind (Sum.elim (fun ⟨b1615, n1616, n1617⟩ => (if b1615 = true then ((app l1341 ([(n1339, (n1616, n1617))] : List (Int × (Int × Int)))).bind fun _ => some (.inl ((IntKind.i64.wrap (n1339 + 1)), false, (l1341 ++ ([(n1339, (n1616, n1617))] : List (Int × (Int × Int))))))) else some (.inl ((IntKind.i64.wrap (n1339 + 1)), false, l1341)))) (fun u => u.elim))))) else (if b1340 = true then ((atS 1 s20 n1339).bind fun n1349 => ((loopO (pull_Sums_b5 n1 s8 s9 s20 s21 s22 n1339) (false, n1349, 0, 0)).bind (Sum.elim (fun ⟨b1477, n1478, n1479⟩ => (if b1477 = true then ((app l1341 ([(n1339, (n1478, n1479))] : List (Int × (Int × Int)))).bind fun _ => some (.inl ((IntKind.i64.wrap (n1339 + 1)), true, (l1341 ++ ([(n1339, (n1478, n1479))] : List (Int × (Int × Int))))))) else some (.inl ((IntKind.i64.wrap (n1339 + 1)), true, l1341)))) (fun u => u.elim)))) else some (.inl ((IntKind.i64.wrap (n1339 + 1)), false, l1341))))) else some (.inr (.inl l1341)))
noncomputable def pull_Sums (n1 : Int) (a1 : Int × Int × Sl (Int) × Sl (Int) × Sl (Int)) (a2 : Int × Sl (Int) × Sl (Int)) (s10 : Sl (Int)) (b11 : Bool) : Option ((Sl (Int × (Int × Int))) × Int) :=
 match a1, a2 with
 | (n2, n3, s4, s5, s6), (n7, s8, s9) => ((ring_Is n1).bind fun b16 => (if b16 = true then ((pull_sure (n2, n3, s4, s5, s6)).bind fun (n18, n19, s20, s21, s22) => ((devec_Right (n7, s8, s9)).bind fun b25 => (if b25 = true then (if n7 ≠ n19 then some ((⟨false, 0, []⟩ : Sl (Int × (Int × Int))), 4) else ((loopO (pull_Sums_b4 n1 s8 s9 s10 n18 s20 s21 s22) (0, b11, ([] : List (Int × (Int × Int))))).bind (Sum.elim (fun l1622 => some ((mo 3 l1622), 0)) (fun u => u.elim)))) else (if (0 : Int) ≠ n19 then some ((⟨false, 0, []⟩ : Sl (Int × (Int × Int))), 4) else ((loopO (pull_Sums_b1 s10 n18 s20 s21 s22) (0, b11)).bind (Sum.elim (fun _ => some ((⟨false, 0, []⟩ : Sl (Int × (Int × Int))), 0)) (fun u => u.elim))))))) else some ((⟨false, 0, []⟩ : Sl (Int × (Int × Int))), 8)))
theorem pull_Sums_r (m : Nat) {n1 : Int} {a1 : Int × Int × Sl (Int) × Sl (Int) × Sl (Int)} {a2 : Int × Sl (Int) × Sl (Int)} {s10 : Sl (Int)} {b11 : Bool} {out : (Sl (Int × (Int × Int))) × Int} (h : pull_Sums n1 a1 a2 s10 b11 = some out) : RunsP E1 (m + 6) 12 [.one (iT .i64 n1), .agg (r32 a1), .agg (r35 a2), .one (Sl.t r60 s10), .one (bT b11)] (.fresh, [.one (Sl.t r63 out.1), .one (iT .i64 out.2)]) := by
 obtain ⟨n2, n3, s4, s5, s6⟩ := a1
 obtain ⟨n7, s8, s9⟩ := a2
 refine fn_F rfl (by rw [E1_fn]; exact show fiOf Tryd.prog 12 = _ by unfold fiOf; rw [Tryd.func12]; unfold Tryd.f12; rfl) rfl ?_
 dsimp only
 unfold pull_Sums at h
 refine lS (lO ?_)
 refine ol_new rfl rfl rfl (q_box ty22 rfl (cs := [iI n1]) rfl rfl) (fun k12 => ?_)
 refine ol_new rfl rfl rfl (q_box ty33 rfl (cs := [iI n2, iI n3, sF r3 s4, sF r3 s5, sF r2 s6]) rfl rfl) (fun k13 => ?_)
 refine ol_new rfl rfl rfl (q_box ty36 rfl (cs := [iI n7, sF r60 s8, sF r2 s9]) rfl rfl) (fun k14 => ?_)
 refine pq (qa (.one nC)) ?_
 refine pq (qa (iO 0)) ?_
 refine oE (eS (lS (lS (lO ?_))))
 refine pq (ql (iO n1) 2 sz22) ?_
 obtain ⟨b16, h15, h⟩ := bindS h
 refine pq (qc (bO b16) [iO n1] (ring_Is_r (m + 4) h15) (vw_cons (vd_one vc_v) vw_nil)) ?_
 rcases b16 with _ | _
 replace h := wF h
 refine pq (q_not rfl) ?_
 refine oE (eS (cT rfl (lS (lO ?_))))
 refine pq (qa (.one nC)) ?_
 refine pq (qa (iO 8)) ?_
 refine oE (eS (lR (eR ?_)))
 obtain rfl := sj h
 exact E_endF (.inr rfl) (res_tmp rfl (res_tmp rfl res_nil)) (vw_cons (vd_one vc_s) (vw_cons (vd_one vc_v) vw_nil)) oW rfl rfl
 replace h := wT h
 refine pq (q_not rfl) ?_
 refine oE (eS (cF rfl (lK (eS (lS (lO ?_))))))
 refine pq (ql (.agg [iI n2, iI n3, sF r3 s4, sF r3 s5, sF r2 s6]) 1 sz33) ?_
 obtain ⟨⟨n18, n19, s20, s21, s22⟩, h17, h⟩ := bindS h
 refine ol_putX rfl rfl rfl (q_callX (v := fun fr23 => .agg [iI n18, iI n19, .p fr23 (Sl.t r3 s20), .p fr23 (Sl.t r3 s21), .p fr23 (Sl.t r2 s22)]) (args := [.agg [iI n2, iI n3, sF r3 s4, sF r3 s5, sF r2 s6]]) (pull_sure_r (m + 2) h17) rfl rfl (vw_cons (vd_agg (vc_cons vc_v (vc_cons vc_v (vc_cons vc_s (vc_cons vc_s (vc_cons vc_s vc_nil)))))) vw_nil) rfl rfl (fun fr => rfl)) (fun fr23 => ?_)
 refine ow [[iI n18, iI n19, .p fr23 (Sl.t r3 s20), .p fr23 (Sl.t r3 s21), .p fr23 (Sl.t r2 s22)]] 1 sz33 ?_
 refine oE (eS (lS (lS (lO ?_))))
 refine pq (ql (.agg [iI n7, sF r60 s8, sF r2 s9]) 0 sz36) ?_
 obtain ⟨b25, h24, h⟩ := bindS h
 refine pq (qc (bO b25) [.agg [iI n7, sF r60 s8, sF r2 s9]] (devec_Right_r (m + 0) h24) (vw_cons (vd_agg (vc_cons vc_v (vc_cons vc_s (vc_cons vc_s vc_nil)))) vw_nil)) ?_
 rcases b25 with _ | _
 replace h := wF h
 refine pq (q_not rfl) ?_
 refine oE (eS (cT rfl (lO ?_)))
 refine pq (q_build (cs := [iI 0, nC, nC]) ty36 rfl pl36 rfl) ?_
 refine ow [[iI 0, nC, nC]] 0 sz36 ?_
 refine oE (eS (lS (lS (lO ?_))))
 refine pq (q_fieldP rfl fa36_0 rfl) ?_
 refine pq (ql (iO 0) 0 sz3) ?_
 refine pq (q_fieldP rfl fa33_1 rfl) ?_
 refine pq (ql (iO n19) 1 sz3) ?_
 by_cases c26 : (0 : Int) ≠ n19
 replace h := ifT c26 h
 refine pq (qb (p_neq_tZ c26)) ?_
 refine oE (eS (cT rfl (lS (lO ?_))))
 refine pq (qa (.one nC)) ?_
 refine pq (qa (iO 4)) ?_
 refine oE (eS (lR (eR ?_)))
 obtain rfl := sj h
 exact E_endF (.inr rfl) (res_tmp rfl (res_tmp rfl res_nil)) (vw_cons (vd_one vc_s) (vw_cons (vd_one vc_v) vw_nil)) oW rfl rfl
 replace h := ifF c26 h
 refine pq (qb (p_neq_fZ c26)) ?_
 refine oE (eS (cF rfl (lK (eS (lS (lO ?_))))))
 refine pq (q_mkfun rfl rfl) ?_
 refine ol_new rfl rfl rfl (q_alloc ty81 (row := [.p true (.v .nilFunc)]) rfl rfl) (fun k27 => ?_)
 refine ow [[.clo (.func 37) [] [.ptr k13 0 0, .ptr k14 0 0, .ptr k12 0 0]]] 0 sz81 ?_
 refine oN ?_
 refine ol_new rfl rfl rfl (q_alloc ty29 (row := [nC]) rfl rfl) (fun k28 => ?_)
 refine oE (eS (lS (lS (lO ?_))))
 refine pq (q_fieldP rfl fa33_0 rfl) ?_
 refine pq (ql (iO n18) 3 sz3) ?_
 refine pq (qm (.one (sF r60 s10))) ?_
 refine pq (qm (bO b11)) ?_
 refine ol_scallN (args := [iO n18, .one (sF r60 s10), bO b11]) rfl rfl rfl ax41 (by rw [E1_fn]; exact show fiOf Tryd.prog 41 = _ by unfold fiOf; rw [Tryd.func41]; unfold Tryd.f41; rfl) rfl rfl rfl ?_
 dsimp only
 refine lS (lO ?_)
 refine ol_new rfl rfl rfl (q_box ty3 rfl (cs := [iI n18]) rfl rfl) (fun k29 => ?_)
 refine ol_new rfl rfl rfl (q_box ty26 rfl (cs := [sF r60 s10]) rfl rfl) (fun k30 => ?_)
 refine ol_new rfl rfl rfl (q_box ty4 rfl (cs := [bC b11]) rfl rfl) (fun k31 => ?_)
 refine pq (qa (.one (.p true (.v .nilFunc)))) ?_
 refine oN ?_
 refine pq (q_mkfun rfl rfl) ?_
 refine pq (qa (.one (.clo (.func 73) [] [.ptr k29 0 0, .ptr k30 0 0, .ptr k31 0 0]))) ?_
 refine oE (eS (lR ?_))
 refine E_call (v := .one (.clo (.func 73) [] [.ptr k29 0 0, .ptr k30 0 0, .ptr k31 0 0])) (.inr rfl) (res_tmp (d := .one (.clo (.func 73) [] [.ptr k29 0 0, .ptr k30 0 0, .ptr k31 0 0])) rfl res_nil) rfl ?_
 refine oE (eS (lB ?_))
 refine L_range rfl (by rw [E1_fn]; exact show fiOf Tryd.prog 73 = _ by unfold fiOf; rw [Tryd.func73]; unfold Tryd.f73; rfl) rfl rfl (fun k32 => ?_)
 dsimp only
 refine lS (lO ?_)
 refine pq (ql (iO n18) 3 sz3) ?_
 refine pq (qm (iO 0)) ?_
 refine oE (eS (lB ?_))
 let S1 : (Int × Bool) → Unit → (Nat → D) → Nat → D := fun a kt g => ups g [(0, .one (.yld k32)), (2, .one (.ptr k30 0 0)), (3, .one (.ptr k31 0 0)), (6, iO n18), (7, .one (iI a.1))]
 let SL1 : (Int × Bool) → Unit → BL := fun a kt => ([[(k32, 0, [])], [(k30, 1, [[sF r60 s10]])], [(k31, 1, [[bC a.2]])], [(k27, 1, [[.clo (.func 37) [] [.ptr k13 0 0, .ptr k14 0 0, .ptr k12 0 0]]])], [(k28, 1, [[nC]])], [(k13, 5, [[iI n18, iI n19, .p fr23 (Sl.t r3 s20), .p fr23 (Sl.t r3 s21), .p fr23 (Sl.t r2 s22)]])], [(k14, 3, [[iI 0, nC, nC]])], [(k12, 1, [[iI n1]])]] : BL)
 let G1 : Empty → Ex → St → Prop := fun u => u.elim
 let Sx1 : Unit → Unit → (Nat → D) → Nat → D := fun a kt g => ups g []
 let SLx1 : Unit → Unit → BL := fun a kt => ([[(k27, 1, [[.clo (.func 37) [] [.ptr k13 0 0, .ptr k14 0 0, .ptr k12 0 0]]])], [(k28, 1, [[nC]])], [(k32, 0, [])], [(k13, 5, [[iI n18, iI n19, .p fr23 (Sl.t r3 s20), .p fr23 (Sl.t r3 s21), .p fr23 (Sl.t r2 s22)]])], [(k14, 3, [[iI 0, nC, nC]])], [(k12, 1, [[iI n1]])]] : BL)
 let J1 : (Unit ⊕ Empty) → Ex → St → Prop := JX 22 0 Sx1 SLx1 G1
 refine L_loopS (pull_Sums_b1 s10 n18 s20 s21 s22) S1 SL1 J1 JX_n (0, b11) h () (ups_self ⟨rfl, rfl, rfl, rfl, rfl, trivial⟩) [0, 2, 1, 5, 4, 7, 6, 8] (by decide) rfl ?_ ?_
 rintro ⟨n333, b334⟩ _ g out h
 change pull_Sums_b1 s10 n18 s20 s21 s22 (n333, b334) = some out at h
 unfold pull_Sums_b1 at h
 refine lS (lO ?_)
 by_cases c335 : n333 < n18
 replace h := ifT c335 h
 refine pq (qb (p_lss_tZ c335)) ?_
 refine oE (eS (lS (cT rfl (lK (eS (lS (lB (lS (lO ?_)))))))))
 refine pq (qm (iO n333)) ?_
 refine pq (qa (iO n333)) ?_
 refine oE (eS (lS ?_))
 refine L_cut 8 (by kernel_rfl) (by kernel_rfl) ?_
 refine sq (ql (.one (sF r60 s10)) 1 sz26) ?_
 refine sq (qm (iO n333)) ?_
 obtain ⟨b337, h336, h⟩ := bindS h
 refine sq (qc (bO b337) [.one (sF r60 s10), iO n333] (flags_Has_r (m + 2) h336) (vw_cons (vd_one vc_s) (vw_cons (vd_one vc_v) vw_nil))) ?_
 refine sq (ql (bO b334) 2 sz4) ?_
 rcases b337 with _ | _
 replace h := wF h
 rcases b334 with _ | _
 replace h := wF h
 refine sq (q_binB rfl rfl (eqneqB4 _ _ _ _) rfl) ?_
 refine sq (qm bf) ?_
 iterate 2 refine ss ?_
 refine st_cut ?_
 iterate 2 refine os ?_
 refine pq (qpf bf) ?_
 refine oE (eS (cF rfl (lK (bN (eS (lO ?_))))))
 refine pq (qb p_addY) ?_
 refine pq (qm (iO (IntKind.i64.wrap (n333 + 1)))) ?_
 refine oE ?_
 obtain rfl := sj h
 exact E_next () (ups_self ⟨rfl, rfl, rfl, rfl, rfl, trivial⟩) [0, 1, 2, 3, 4, 5, 6, 7] (by decide) rfl
 replace h := wT h
 refine sq (q_binB rfl rfl (eqneqB4 _ _ _ _) rfl) ?_
 refine sq (qm bt) ?_
 refine sq (qm (.one (.yld k32))) ?_
 refine sq (qm (iO n333)) ?_
 refine st_cut ?_
 refine ol_yield (args := [iO n333]) (p := 0) rfl rfl rfl rfl rfl rfl rfl rfl rfl ?_
 refine lO ?_
 refine pq (qa (iO n333)) ?_
 refine oE ?_
 refine E_asg ?_
 refine lB (lS (lO ?_))
 refine pq (ql (.one (.clo (.func 37) [] [.ptr k13 0 0, .ptr k14 0 0, .ptr k12 0 0])) 3 sz81) ?_
 refine pq (qm (iO n333)) ?_
 refine ol_scall (args := [iO n333, .one (.ptr k13 0 0), .one (.ptr k14 0 0), .one (.ptr k12 0 0)]) rfl rfl rfl rfl (by rw [E1_fn]; exact show fiOf Tryd.prog 37 = _ by unfold fiOf; rw [Tryd.func37]; unfold Tryd.f37; rfl) rfl rfl rfl ?_
 dsimp only
 refine lS (lO ?_)
 refine ol_new rfl rfl rfl (q_alloc ty62 (row := [iI 0, uI 0]) rfl rfl) (fun k338 => ?_)
 refine pq (qa bf) ?_
 refine oE (eS (lS (lS (lO ?_))))
 refine pq (q_fieldP rfl fa33_2 rfl) ?_
 refine pq (ql (.one (.p fr23 (Sl.t r3 s20))) 6 sz30) ?_
 refine pq (qm (iO n333)) ?_
 obtain ⟨n341, h340, h⟩ := bindS h
 obtain ⟨h340a, h340b, h340⟩ := atS_some h340
 refine pq (q_ixS rfl rfl h340a h340 (el30.trans (congrArg some h340b.symm))) ?_
 refine pq (q_loadI (v := iO n341) rfl sz3 (map_get h340) rfl rfl) ?_
 refine pq (qa (iO n341)) ?_
 refine oE (eS (lB ?_))
 let S2 : Int → Unit → (Nat → D) → Nat → D := fun a kt g => ups g [(0, iO n333), (1, .one (.ptr k13 0 0)), (2, .one (.ptr k14 0 0)), (3, .one (.ptr k12 0 0)), (5, .one (.ptr k338 0 0)), (6, bf), (7, iO a)]
 let SL2 : Int → Unit → BL := fun a kt => ([[(k13, 5, [[iI n18, iI n19, .p fr23 (Sl.t r3 s20), .p fr23 (Sl.t r3 s21), .p fr23 (Sl.t r2 s22)]])], [(k14, 3, [[iI 0, nC, nC]])], [(k12, 1, [[iI n1]])], [(k338, 2, [[iI 0, uI 0]])], [(k27, 1, [[.clo (.func 37) [] [.ptr k13 0 0, .ptr k14 0 0, .ptr k12 0 0]]])], [(k28, 1, [[nC]])], [(k32, 0, [])], [(k30, 1, [[sF r60 s10]])], [(k31, 1, [[bC true]])]] : BL)
 let G2 : Empty → Ex → St → Prop := fun u => u.elim
 let Sx2 : Unit → Unit → (Nat → D) → Nat → D := fun a kt g => ups g [(5, .one (.ptr k338 0 0)), (6, bf)]
 let SLx2 : Unit → Unit → BL := fun a kt => ([[(k338, 2, [[iI 0, uI 0]])], [(k27, 1, [[.clo (.func 37) [] [.ptr k13 0 0, .ptr k14 0 0, .ptr k12 0 0]]])], [(k28, 1, [[nC]])], [(k32, 0, [])], [(k30, 1, [[sF r60 s10]])], [(k31, 1, [[bC true]])], [(k13, 5, [[iI n18, iI n19, .p fr23 (Sl.t r3 s20), .p fr23 (Sl.t r3 s21), .p fr23 (Sl.t r2 s22)]])], [(k14, 3, [[iI 0, nC, nC]])], [(k12, 1, [[iI n1]])]] : BL)
 let J2 : (Unit ⊕ Empty) → Ex → St → Prop := JX 55 0 Sx2 SLx2 G2
 refine L_loopS (pull_Sums_b2 s20 s21 s22 n333) S2 SL2 J2 JX_n n341 h () (ups_self ⟨rfl, rfl, rfl, rfl, rfl, rfl, rfl, trivial⟩) [6, 7, 8, 0, 4, 5, 1, 2, 3] (by decide) rfl ?_ ?_
 rintro n387 _ g out h
 change pull_Sums_b2 s20 s21 s22 n333 n387 = some out at h
 unfold pull_Sums_b2 at h
 refine lS (lS (lO ?_))
 refine pq (qm (iO n387)) ?_
 refine pq (q_fieldP rfl fa33_2 rfl) ?_
 refine pq (ql (.one (.p fr23 (Sl.t r3 s20))) 0 sz30) ?_
 refine pq (qm (iO n333)) ?_
 refine pq (qb p_addY) ?_
 obtain ⟨n390, h389, h⟩ := bindS h
 obtain ⟨h389a, h389b, h389⟩ := atS_some h389
 refine pq (q_ixS rfl rfl h389a h389 (el30.trans (congrArg some h389b.symm))) ?_
 refine pq (q_loadI (v := iO n390) rfl sz3 (map_get h389) rfl rfl) ?_
 by_cases c391 : n387 < n390
 replace h := ifT c391 h
 refine pq (qb (p_lss_tZ c391)) ?_
 refine oE (eS (cT rfl (lK (eS (lS (lB (lS (lO ?_))))))))
 refine pq (q_fieldP rfl fa33_3 rfl) ?_
 refine pq (ql (.one (.p fr23 (Sl.t r3 s21))) 0 sz30) ?_
 refine pq (qm (iO n387)) ?_
 obtain ⟨n394, h393, h⟩ := bindS h
 obtain ⟨h393a, h393b, h393⟩ := atS_some h393
 refine pq (q_ixS rfl rfl h393a h393 (el30.trans (congrArg some h393b.symm))) ?_
 refine pq (q_loadI (v := iO n394) rfl sz3 (map_get h393) rfl rfl) ?_
 refine pq (qa (iO n394)) ?_
 refine oE (eS (lS (lS (lO ?_))))
 refine pq (q_fieldP rfl fa36_1 rfl) ?_
 refine pq (ql (.one nC) 1 sz26) ?_
 refine pq (qm (iO n394)) ?_
 obtain ⟨b396, h395, h⟩ := bindS h
 refine pq (qc (bO b396) [.one nC, iO n394] (flags_Has_r (m + 2) h395) (vw_cons (vd_one vc_s) (vw_cons (vd_one vc_v) vw_nil))) ?_
 rcases b396 with _ | _
 replace h := wF h
 refine pq (q_not rfl) ?_
 refine oE (eS (cT rfl (L_exit ?_)))
 refine E_seqX ?_
 refine bH (eS (lO ?_))
 refine pq (qm (iO n387)) ?_
 refine pq (qb p_addY) ?_
 refine pq (qa (iO (IntKind.i64.wrap (n387 + 1)))) ?_
 refine oE ?_
 obtain rfl := sj h
 exact E_next () (ups_self ⟨rfl, rfl, rfl, rfl, rfl, rfl, rfl, trivial⟩) [0, 1, 2, 3, 4, 5, 6, 7, 8] (by decide) rfl
 replace h := wT h
 refine pq (q_not rfl) ?_
 refine oE (eS (cF rfl (lK (eS (lS ?_)))))
 refine L_norm (L2 := ([[(k13, 5, [[iI n18, iI n19, .p fr23 (Sl.t r3 s20), .p fr23 (Sl.t r3 s21), .p fr23 (Sl.t r2 s22)]])], [(k14, 3, [[iI 0, nC, nC]])], [(k12, 1, [[iI n1]])], [(k338, 2, [[iI 0, uI 0]])], [(k27, 1, [[.clo (.func 37) [] [.ptr k13 0 0, .ptr k14 0 0, .ptr k12 0 0]]])], [(k28, 1, [[nC]])], [(k32, 0, [])], [(k30, 1, [[sF r60 s10]])], [(k31, 1, [[bC true]])]] : BL)) [0, 1, 2, 3, 4, 5, 6, 7, 8] (by decide) rfl ?_
 refine L_turn 14 rfl [[], [], [], [], [], [], [], [], [], [], [], [], [], []] [(false, []), (false, []), (false, []), (false, []), (false, []), (false, []), (false, []), (false, []), (false, []), (false, []), (false, []), (false, []), (false, []), (false, [])] [[1, 2, 3, 4, 5, 6, 7, 8, 9, 10, 12], [0, 3, 6, 7, 8, 9, 10, 12], [0, 3, 6, 7, 8, 9, 10, 12], [0, 1, 2, 6, 7, 8, 9, 10, 12], [0, 6, 7, 8, 9, 10, 12], [0, 6, 7, 8, 9, 10, 12], [0, 1, 2, 3, 4, 5, 8, 12], [0, 1, 2, 3, 4, 5, 8, 12], [0, 1, 2, 3, 4, 5, 6, 7, 12], [0, 1, 2, 3, 4, 5, 12], [0, 1, 2, 3, 4, 5, 12], [12], [0, 1, 2, 3, 4, 5, 6, 7, 8, 9, 10, 11], []] (by kernel_rfl) (by kernel_rfl) (by kernel_rfl) ?_ (fun bb397 hlt hnd => ?_)
 intro bb397 hlt hnd
 exact ⟨⟨djE, ⟨djE, ⟨djE, ⟨djE, ⟨djE, ⟨djE, ⟨djE, ⟨djE, ⟨djE, ⟨djE, ⟨djE, ⟨djE, ⟨djE, ⟨djE, trivial⟩⟩⟩⟩⟩⟩⟩⟩⟩⟩⟩⟩⟩⟩, (ltO_cons ltK_nil (ltO_cons ltK_nil (ltO_cons ltK_nil (ltO_cons ltK_nil (ltO_cons ltK_nil (ltO_cons ltK_nil (ltO_cons ltK_nil (ltO_cons ltK_nil (ltO_cons ltK_nil (ltO_cons ltK_nil (ltO_cons ltK_nil (ltO_cons ltK_nil (ltO_cons ltK_nil (ltO_cons ltK_nil ltO_nil))))))))))))))⟩
 refine tq [2] rfl (hm0 rfl) (ql (iO n1) 0 sz22) ?_
 refine tq [] rfl (hm0 rfl) (q_fieldP rfl fa33_4 rfl) ?_
 refine tq [0] rfl (hm0 rfl) (ql (.one (.p fr23 (Sl.t r2 s22))) 0 sz31) ?_
 refine tq [] rfl (hm0 rfl) (qm (iO n387)) ?_
 obtain ⟨n406, h405, h⟩ := bindS h
 obtain ⟨h405a, h405b, h405⟩ := atS_some h405
 refine tq [] rfl (hm0 rfl) (q_ixS rfl rfl h405a h405 (el31.trans (congrArg some h405b.symm))) ?_
 refine tq [] rfl (hm0 rfl) (q_loadI (v := iO n406) rfl sz2 (map_get h405) rfl rfl) ?_
 refine tq [] rfl (hm0 rfl) (q_fieldP rfl fa36_2 rfl) ?_
 refine tq [1] rfl (hm0 rfl) (ql (.one nC) 0 sz31) ?_
 refine tq [] rfl (hm0 rfl) (qm (iO n394)) ?_
 obtain ⟨n409, h408, h⟩ := bindS h
 exact (atS_nil h408).elim
 replace h := ifF c391 h
 refine pq (qb (p_lss_fZ c391)) ?_
 refine oE (eS (cF rfl (L_exit ?_)))
 refine E_seqX ?_
 obtain rfl := sj h
 refine E_out ?_
 exact (E_exit () (ups_self ⟨rfl, rfl, trivial⟩) [3, 4, 5, 6, 7, 8, 0, 1, 2] (by decide) rfl)
 rintro (_ | u) h
 refine J_x (fun kt g => ?_)
 replace h := elimL h
 refine bH (eS (lS (lO ?_)))
 refine pq (ql (.agg [iI 0, uI 0]) 0 sz62) ?_
 refine pq (qm bf) ?_
 refine ow [[iI 0, uI 0]] 0 sz62 ?_
 refine pq (qa bf) ?_
 refine oE (eS (lR ?_))
 refine E_call (v := .tup [.agg [iI 0, uI 0], bf]) (.inr rfl) (res_cell (d := .agg [iI 0, uI 0]) 0 rfl sz62 rfl rfl rfl rfl (res_tmp (d := bf) rfl res_nil)) rfl ?_
 refine pq (qm (.tup [.agg [iI 0, uI 0], bf])) ?_
 refine pq (q_ext (v := .agg [iI 0, uI 0]) rfl rfl) ?_
 refine pq (q_ext (v := bf) rfl rfl) ?_
 refine ol_new rfl rfl rfl (q_alloc ty62 (row := [iI 0, uI 0]) rfl rfl) (fun k410 => ?_)
 refine ow [[iI 0, uI 0]] 0 sz62 ?_
 refine pq (qa bf) ?_
 refine oN ?_
 refine pq (qm bf) ?_
 refine oE (eS (cF rfl (lK (bN ?_))))
 refine E_roundN (p := 4) rfl ?_
 refine pq (q_not rfl) ?_
 refine pq (qpt bf) ?_
 refine oE (eS (cF rfl (lK (bN (eS (lO ?_))))))
 refine pq (qb p_addY) ?_
 refine pq (qm (iO (IntKind.i64.wrap (n333 + 1)))) ?_
 refine oE ?_
 obtain rfl := sj h
 exact E_next () (ups_self ⟨rfl, rfl, rfl, rfl, rfl, trivial⟩) [4, 5, 6, 2, 3, 7, 8, 9] (by decide) rfl
 exact u.elim
 replace h := wT h
 rcases b334 with _ | _
 replace h := wF h
 refine sq (q_binB rfl rfl (eqneqB4 _ _ _ _) rfl) ?_
 refine sq (qm bt) ?_
 refine sq (qm (.one (.yld k32))) ?_
 refine sq (qm (iO n333)) ?_
 refine st_cut ?_
 refine ol_yield (args := [iO n333]) (p := 0) rfl rfl rfl rfl rfl rfl rfl rfl rfl ?_
 refine lO ?_
 refine pq (qa (iO n333)) ?_
 refine oE ?_
 refine E_asg ?_
 refine lB (lS (lO ?_))
 refine pq (ql (.one (.clo (.func 37) [] [.ptr k13 0 0, .ptr k14 0 0, .ptr k12 0 0])) 3 sz81) ?_
 refine pq (qm (iO n333)) ?_
 refine ol_scall (args := [iO n333, .one (.ptr k13 0 0), .one (.ptr k14 0 0), .one (.ptr k12 0 0)]) rfl rfl rfl rfl (by rw [E1_fn]; exact show fiOf Tryd.prog 37 = _ by unfold fiOf; rw [Tryd.func37]; unfold Tryd.f37; rfl) rfl rfl rfl ?_
 dsimp only
 refine lS (lO ?_)
 refine ol_new rfl rfl rfl (q_alloc ty62 (row := [iI 0, uI 0]) rfl rfl) (fun k411 => ?_)
 refine pq (qa bf) ?_
 refine oE (eS (lS (lS (lO ?_))))
 refine pq (q_fieldP rfl fa33_2 rfl) ?_
 refine pq (ql (.one (.p fr23 (Sl.t r3 s20))) 6 sz30) ?_
 refine pq (qm (iO n333)) ?_
 obtain ⟨n414, h413, h⟩ := bindS h
 obtain ⟨h413a, h413b, h413⟩ := atS_some h413
 refine pq (q_ixS rfl rfl h413a h413 (el30.trans (congrArg some h413b.symm))) ?_
 refine pq (q_loadI (v := iO n414) rfl sz3 (map_get h413) rfl rfl) ?_
 refine pq (qa (iO n414)) ?_
 refine oE (eS (lB ?_))
 let S3 : Int → Unit → (Nat → D) → Nat → D := fun a kt g => ups g [(0, iO n333), (1, .one (.ptr k13 0 0)), (2, .one (.ptr k14 0 0)), (3, .one (.ptr k12 0 0)), (5, .one (.ptr k411 0 0)), (6, bf), (7, iO a)]
 let SL3 : Int → Unit → BL := fun a kt => ([[(k13, 5, [[iI n18, iI n19, .p fr23 (Sl.t r3 s20), .p fr23 (Sl.t r3 s21), .p fr23 (Sl.t r2 s22)]])], [(k14, 3, [[iI 0, nC, nC]])], [(k12, 1, [[iI n1]])], [(k411, 2, [[iI 0, uI 0]])], [(k27, 1, [[.clo (.func 37) [] [.ptr k13 0 0, .ptr k14 0 0, .ptr k12 0 0]]])], [(k28, 1, [[nC]])], [(k32, 0, [])], [(k30, 1, [[sF r60 s10]])], [(k31, 1, [[bC false]])]] : BL)
 let G3 : Empty → Ex → St → Prop := fun u => u.elim
 let Sx3 : Unit → Unit → (Nat → D) → Nat → D := fun a kt g => ups g [(5, .one (.ptr k411 0 0)), (6, bf)]
 let SLx3 : Unit → Unit → BL := fun a kt => ([[(k411, 2, [[iI 0, uI 0]])], [(k27, 1, [[.clo (.func 37) [] [.ptr k13 0 0, .ptr k14 0 0, .ptr k12 0 0]]])], [(k28, 1, [[nC]])], [(k32, 0, [])], [(k30, 1, [[sF r60 s10]])], [(k31, 1, [[bC false]])], [(k13, 5, [[iI n18, iI n19, .p fr23 (Sl.t r3 s20), .p fr23 (Sl.t r3 s21), .p fr23 (Sl.t r2 s22)]])], [(k14, 3, [[iI 0, nC, nC]])], [(k12, 1, [[iI n1]])]] : BL)
 let J3 : (Unit ⊕ Empty) → Ex → St → Prop := JX 55 0 Sx3 SLx3 G3
 refine L_loopS (pull_Sums_b3 s20 s21 s22 n333) S3 SL3 J3 JX_n n414 h () (ups_self ⟨rfl, rfl, rfl, rfl, rfl, rfl, rfl, trivial⟩) [6, 7, 8, 0, 4, 5, 1, 2, 3] (by decide) rfl ?_ ?_
 rintro n460 _ g out h
 change pull_Sums_b3 s20 s21 s22 n333 n460 = some out at h
 unfold pull_Sums_b3 at h
 refine lS (lS (lO ?_))
 refine pq (qm (iO n460)) ?_
 refine pq (q_fieldP rfl fa33_2 rfl) ?_
 refine pq (ql (.one (.p fr23 (Sl.t r3 s20))) 0 sz30) ?_
 refine pq (qm (iO n333)) ?_
 refine pq (qb p_addY) ?_
 obtain ⟨n463, h462, h⟩ := bindS h
 obtain ⟨h462a, h462b, h462⟩ := atS_some h462
 refine pq (q_ixS rfl rfl h462a h462 (el30.trans (congrArg some h462b.symm))) ?_
 refine pq (q_loadI (v := iO n463) rfl sz3 (map_get h462) rfl rfl) ?_
 by_cases c464 : n460 < n463
 replace h := ifT c464 h
 refine pq (qb (p_lss_tZ c464)) ?_
 refine oE (eS (cT rfl (lK (eS (lS (lB (lS (lO ?_))))))))
 refine pq (q_fieldP rfl fa33_3 rfl) ?_
 refine pq (ql (.one (.p fr23 (Sl.t r3 s21))) 0 sz30) ?_
 refine pq (qm (iO n460)) ?_
 obtain ⟨n467, h466, h⟩ := bindS h
 obtain ⟨h466a, h466b, h466⟩ := atS_some h466
 refine pq (q_ixS rfl rfl h466a h466 (el30.trans (congrArg some h466b.symm))) ?_
 refine pq (q_loadI (v := iO n467) rfl sz3 (map_get h466) rfl rfl) ?_
 refine pq (qa (iO n467)) ?_
 refine oE (eS (lS (lS (lO ?_))))
 refine pq (q_fieldP rfl fa36_1 rfl) ?_
 refine pq (ql (.one nC) 1 sz26) ?_
 refine pq (qm (iO n467)) ?_
 obtain ⟨b469, h468, h⟩ := bindS h
 refine pq (qc (bO b469) [.one nC, iO n467] (flags_Has_r (m + 2) h468) (vw_cons (vd_one vc_s) (vw_cons (vd_one vc_v) vw_nil))) ?_
 rcases b469 with _ | _
 replace h := wF h
 refine pq (q_not rfl) ?_
 refine oE (eS (cT rfl (L_exit ?_)))
 refine E_seqX ?_
 refine bH (eS (lO ?_))
 refine pq (qm (iO n460)) ?_
 refine pq (qb p_addY) ?_
 refine pq (qa (iO (IntKind.i64.wrap (n460 + 1)))) ?_
 refine oE ?_
 obtain rfl := sj h
 exact E_next () (ups_self ⟨rfl, rfl, rfl, rfl, rfl, rfl, rfl, trivial⟩) [0, 1, 2, 3, 4, 5, 6, 7, 8] (by decide) rfl
 replace h := wT h
 refine pq (q_not rfl) ?_
 refine oE (eS (cF rfl (lK (eS (lS ?_)))))
 refine L_norm (L2 := ([[(k13, 5, [[iI n18, iI n19, .p fr23 (Sl.t r3 s20), .p fr23 (Sl.t r3 s21), .p fr23 (Sl.t r2 s22)]])], [(k14, 3, [[iI 0, nC, nC]])], [(k12, 1, [[iI n1]])], [(k411, 2, [[iI 0, uI 0]])], [(k27, 1, [[.clo (.func 37) [] [.ptr k13 0 0, .ptr k14 0 0, .ptr k12 0 0]]])], [(k28, 1, [[nC]])], [(k32, 0, [])], [(k30, 1, [[sF r60 s10]])], [(k31, 1, [[bC false]])]] : BL)) [0, 1, 2, 3, 4, 5, 6, 7, 8] (by decide) rfl ?_
 refine L_turn 14 rfl [[], [], [], [], [], [], [], [], [], [], [], [], [], []] [(false, []), (false, []), (false, []), (false, []), (false, []), (false, []), (false, []), (false, []), (false, []), (false, []), (false, []), (false, []), (false, []), (false, [])] [[1, 2, 3, 4, 5, 6, 7, 8, 9, 10, 12], [0, 3, 6, 7, 8, 9, 10, 12], [0, 3, 6, 7, 8, 9, 10, 12], [0, 1, 2, 6, 7, 8, 9, 10, 12], [0, 6, 7, 8, 9, 10, 12], [0, 6, 7, 8, 9, 10, 12], [0, 1, 2, 3, 4, 5, 8, 12], [0, 1, 2, 3, 4, 5, 8, 12], [0, 1, 2, 3, 4, 5, 6, 7, 12], [0, 1, 2, 3, 4, 5, 12], [0, 1, 2, 3, 4, 5, 12], [12], [0, 1, 2, 3, 4, 5, 6, 7, 8, 9, 10, 11], []] (by kernel_rfl) (by kernel_rfl) (by kernel_rfl) ?_ (fun bb470 hlt hnd => ?_)
 intro bb470 hlt hnd
 exact ⟨⟨djE, ⟨djE, ⟨djE, ⟨djE, ⟨djE, ⟨djE, ⟨djE, ⟨djE, ⟨djE, ⟨djE, ⟨djE, ⟨djE, ⟨djE, ⟨djE, trivial⟩⟩⟩⟩⟩⟩⟩⟩⟩⟩⟩⟩⟩⟩, (ltO_cons ltK_nil (ltO_cons ltK_nil (ltO_cons ltK_nil (ltO_cons ltK_nil (ltO_cons ltK_nil (ltO_cons ltK_nil (ltO_cons ltK_nil (ltO_cons ltK_nil (ltO_cons ltK_nil (ltO_cons ltK_nil (ltO_cons ltK_nil (ltO_cons ltK_nil (ltO_cons ltK_nil (ltO_cons ltK_nil ltO_nil))))))))))))))⟩
 refine tq [2] rfl (hm0 rfl) (ql (iO n1) 0 sz22) ?_
 refine tq [] rfl (hm0 rfl) (q_fieldP rfl fa33_4 rfl) ?_
 refine tq [0] rfl (hm0 rfl) (ql (.one (.p fr23 (Sl.t r2 s22))) 0 sz31) ?_
 refine tq [] rfl (hm0 rfl) (qm (iO n460)) ?_
 obtain ⟨n479, h478, h⟩ := bindS h
 obtain ⟨h478a, h478b, h478⟩ := atS_some h478
 refine tq [] rfl (hm0 rfl) (q_ixS rfl rfl h478a h478 (el31.trans (congrArg some h478b.symm))) ?_
 refine tq [] rfl (hm0 rfl) (q_loadI (v := iO n479) rfl sz2 (map_get h478) rfl rfl) ?_
 refine tq [] rfl (hm0 rfl) (q_fieldP rfl fa36_2 rfl) ?_
 refine tq [1] rfl (hm0 rfl) (ql (.one nC) 0 sz31) ?_
 refine tq [] rfl (hm0 rfl) (qm (iO n467)) ?_
 obtain ⟨n482, h481, h⟩ := bindS h
 exact (atS_nil h481).elim
 replace h := ifF c464 h
 refine pq (qb (p_lss_fZ c464)) ?_
 refine oE (eS (cF rfl (L_exit ?_)))
 refine E_seqX ?_
 obtain rfl := sj h
 refine E_out ?_
 exact (E_exit () (ups_self ⟨rfl, rfl, trivial⟩) [3, 4, 5, 6, 7, 8, 0, 1, 2] (by decide) rfl)
 rintro (_ | u) h
 refine J_x (fun kt g => ?_)
 replace h := elimL h
 refine bH (eS (lS (lO ?_)))
 refine pq (ql (.agg [iI 0, uI 0]) 0 sz62) ?_
 refine pq (qm bf) ?_
 refine ow [[iI 0, uI 0]] 0 sz62 ?_
 refine pq (qa bf) ?_
 refine oE (eS (lR ?_))
 refine E_call (v := .tup [.agg [iI 0, uI 0], bf]) (.inr rfl) (res_cell (d := .agg [iI 0, uI 0]) 0 rfl sz62 rfl rfl rfl rfl (res_tmp (d := bf) rfl res_nil)) rfl ?_
 refine pq (qm (.tup [.agg [iI 0, uI 0], bf])) ?_
 refine pq (q_ext (v := .agg [iI 0, uI 0]) rfl rfl) ?_
 refine pq (q_ext (v := bf) rfl rfl) ?_
 refine ol_new rfl rfl rfl (q_alloc ty62 (row := [iI 0, uI 0]) rfl rfl) (fun k483 => ?_)
 refine ow [[iI 0, uI 0]] 0 sz62 ?_
 refine pq (qa bf) ?_
 refine oN ?_
 refine pq (qm bf) ?_
 refine oE (eS (cF rfl (lK (bN ?_))))
 refine E_roundN (p := 4) rfl ?_
 refine pq (q_not rfl) ?_
 refine pq (qpt bf) ?_
 refine oE (eS (cF rfl (lK (bN (eS (lO ?_))))))
 refine pq (qb p_addY) ?_
 refine pq (qm (iO (IntKind.i64.wrap (n333 + 1)))) ?_
 refine oE ?_
 obtain rfl := sj h
 exact E_next () (ups_self ⟨rfl, rfl, rfl, rfl, rfl, trivial⟩) [4, 5, 6, 2, 3, 7, 8, 9] (by decide) rfl
 exact u.elim
 replace h := wT h
 refine sq (q_binB rfl rfl (eqneqB4 _ _ _ _) rfl) ?_
 refine sq (qm bf) ?_
 iterate 2 refine ss ?_
 refine st_cut ?_
 iterate 2 refine os ?_
 refine pq (qpf bf) ?_
 refine oE (eS (cF rfl (lK (bN (eS (lO ?_))))))
 refine pq (qb p_addY) ?_
 refine pq (qm (iO (IntKind.i64.wrap (n333 + 1)))) ?_
 refine oE ?_
 obtain rfl := sj h
 exact E_next () (ups_self ⟨rfl, rfl, rfl, rfl, rfl, trivial⟩) [0, 1, 2, 3, 4, 5, 6, 7] (by decide) rfl
 replace h := ifF c335 h
 refine pq (qb (p_lss_fZ c335)) ?_
 refine oE (eS (lS (cF rfl (L_exit ?_))))
 refine E_seqX ?_
 obtain rfl := sj h
 refine E_out ?_
 exact (E_exit () (ups_self trivial) [3, 4, 0, 5, 6, 7] (by decide) rfl)
 rintro (_ | u) h
 refine J_x (fun kt g => ?_)
 replace h := elimL h
 refine bH ?_
 refine E_range (p := 2) (.inl rfl) rfl ?_
 refine bN (eS (lS (lO ?_)))
 refine pq (ql (.one nC) 1 sz29) ?_
 refine pq (qa (.one nC)) ?_
 refine pq (qa (iO 0)) ?_
 refine oE (eS (lR ?_))
 obtain rfl := sj h
 exact E_endF (.inr rfl) (res_tmp rfl (res_tmp rfl res_nil)) (vw_cons (vd_one vc_s) (vw_cons (vd_one vc_v) vw_nil)) oW rfl rfl
 exact u.elim
 replace h := wT h
 refine pq (q_not rfl) ?_
 refine oE (eS (cF rfl (lK (eS (lS (lS (lO ?_)))))))
 refine pq (q_fieldP rfl fa36_0 rfl) ?_
 refine pq (ql (iO n7) 0 sz3) ?_
 refine pq (q_fieldP rfl fa33_1 rfl) ?_
 refine pq (ql (iO n19) 1 sz3) ?_
 by_cases c484 : n7 ≠ n19
 replace h := ifT c484 h
 refine pq (qb (p_neq_tZ c484)) ?_
 refine oE (eS (cT rfl (lS (lO ?_))))
 refine pq (qa (.one nC)) ?_
 refine pq (qa (iO 4)) ?_
 refine oE (eS (lR (eR ?_)))
 obtain rfl := sj h
 exact E_endF (.inr rfl) (res_tmp rfl (res_tmp rfl res_nil)) (vw_cons (vd_one vc_s) (vw_cons (vd_one vc_v) vw_nil)) oW rfl rfl
 replace h := ifF c484 h
 refine pq (qb (p_neq_fZ c484)) ?_
 refine oE (eS (cF rfl (lK (eS (lS (lO ?_))))))
 refine pq (q_mkfun rfl rfl) ?_
 refine ol_new rfl rfl rfl (q_alloc ty81 (row := [.p true (.v .nilFunc)]) rfl rfl) (fun k485 => ?_)
 refine ow [[.clo (.func 37) [] [.ptr k13 0 0, .ptr k14 0 0, .ptr k12 0 0]]] 0 sz81 ?_
 refine oN ?_
 refine ol_new rfl rfl rfl (q_alloc ty29 (row := [nC]) rfl rfl) (fun k486 => ?_)
 refine oE (eS (lS (lS (lO ?_))))
 refine pq (q_fieldP rfl fa33_0 rfl) ?_
 refine pq (ql (iO n18) 3 sz3) ?_
 refine pq (qm (.one (sF r60 s10))) ?_
 refine pq (qm (bO b11)) ?_
 refine ol_scallN (args := [iO n18, .one (sF r60 s10), bO b11]) rfl rfl rfl ax41 (by rw [E1_fn]; exact show fiOf Tryd.prog 41 = _ by unfold fiOf; rw [Tryd.func41]; unfold Tryd.f41; rfl) rfl rfl rfl ?_
 dsimp only
 refine lS (lO ?_)
 refine ol_new rfl rfl rfl (q_box ty3 rfl (cs := [iI n18]) rfl rfl) (fun k487 => ?_)
 refine ol_new rfl rfl rfl (q_box ty26 rfl (cs := [sF r60 s10]) rfl rfl) (fun k488 => ?_)
 refine ol_new rfl rfl rfl (q_box ty4 rfl (cs := [bC b11]) rfl rfl) (fun k489 => ?_)
 refine pq (qa (.one (.p true (.v .nilFunc)))) ?_
 refine oN ?_
 refine pq (q_mkfun rfl rfl) ?_
 refine pq (qa (.one (.clo (.func 73) [] [.ptr k487 0 0, .ptr k488 0 0, .ptr k489 0 0]))) ?_
 refine oE (eS (lR ?_))
 refine E_call (v := .one (.clo (.func 73) [] [.ptr k487 0 0, .ptr k488 0 0, .ptr k489 0 0])) (.inr rfl) (res_tmp (d := .one (.clo (.func 73) [] [.ptr k487 0 0, .ptr k488 0 0, .ptr k489 0 0])) rfl res_nil) rfl ?_
 refine oE (eS (lB ?_))
 refine L_range rfl (by rw [E1_fn]; exact show fiOf Tryd.prog 73 = _ by unfold fiOf; rw [Tryd.func73]; unfold Tryd.f73; rfl) rfl rfl (fun k490 => ?_)
 dsimp only
 refine lS (lO ?_)
 refine pq (ql (iO n18) 3 sz3) ?_
 refine pq (qm (iO 0)) ?_
 refine oE (eS (lB ?_))
 refine L_addM (α := Int × (Int × Int)) r63 3 ?_
 let S4 : (Int × Bool × (List (Int × (Int × Int)))) → Nat → (Nat → D) → Nat → D := fun a kt g => ups g [(0, .one (.yld k490)), (2, .one (.ptr k488 0 0)), (3, .one (.ptr k489 0 0)), (6, iO n18), (7, .one (iI a.1))]
 let SL4 : (Int × Bool × (List (Int × (Int × Int)))) → Nat → BL := fun a kt => ([[(k490, 0, [])], [(k488, 1, [[sF r60 s10]])], [(k489, 1, [[bC a.2.1]])], [(k485, 1, [[.clo (.func 37) [] [.ptr k13 0 0, .ptr k14 0 0, .ptr k12 0 0]]])], [(k486, 1, [[moC a.2.2 kt]])], [(k13, 5, [[iI n18, iI n19, .p fr23 (Sl.t r3 s20), .p fr23 (Sl.t r3 s21), .p fr23 (Sl.t r2 s22)]])], [(k14, 3, [[iI n7, sF r60 s8, sF r2 s9]])], [(k12, 1, [[iI n1]])], moL r63 3 a.2.2 kt] : BL)
 let G4 : Empty → Ex → St → Prop := fun u => u.elim
 let Sx4 : (List (Int × (Int × Int))) → Nat → (Nat → D) → Nat → D := fun a kt g => ups g []
 let SLx4 : (List (Int × (Int × Int))) → Nat → BL := fun a kt => ([[(k485, 1, [[.clo (.func 37) [] [.ptr k13 0 0, .ptr k14 0 0, .ptr k12 0 0]]])], [(k486, 1, [[moC a kt]])], [(k490, 0, [])], [(k13, 5, [[iI n18, iI n19, .p fr23 (Sl.t r3 s20), .p fr23 (Sl.t r3 s21), .p fr23 (Sl.t r2 s22)]])], [(k14, 3, [[iI n7, sF r60 s8, sF r2 s9]])], [(k12, 1, [[iI n1]])], moL r63 3 a kt] : BL)
 let J4 : ((List (Int × (Int × Int))) ⊕ Empty) → Ex → St → Prop := JX 22 0 Sx4 SLx4 G4
 refine L_loopS (pull_Sums_b4 n1 s8 s9 s10 n18 s20 s21 s22) S4 SL4 J4 JX_n (0, b11, ([] : List (Int × (Int × Int)))) h 2337 (ups_self ⟨rfl, rfl, rfl, rfl, rfl, trivial⟩) [1, 3, 2, 6, 5, 8, 7, 9, 0] (by decide) rfl ?_ ?_
 rintro ⟨n1339, b1340, l1341⟩ k1342 g out h
 change pull_Sums_b4 n1 s8 s9 s10 n18 s20 s21 s22 (n1339, b1340, l1341) = some out at h
 unfold pull_Sums_b4 at h
 refine lS (lO ?_)
 by_cases c1343 : n1339 < n18
 replace h := ifT c1343 h
 refine pq (qb (p_lss_tZ c1343)) ?_
 refine oE (eS (lS (cT rfl (lK (eS (lS (lB (lS (lO ?_)))))))))
 refine pq (qm (iO n1339)) ?_
 refine pq (qa (iO n1339)) ?_
 refine oE (eS (lS ?_))
 refine L_cut 8 (by kernel_rfl) (by kernel_rfl) ?_
 refine sq (ql (.one (sF r60 s10)) 1 sz26) ?_
 refine sq (qm (iO n1339)) ?_
 obtain ⟨b1345, h1344, h⟩ := bindS h
 refine sq (qc (bO b1345) [.one (sF r60 s10), iO n1339] (flags_Has_r (m + 2) h1344) (vw_cons (vd_one vc_s) (vw_cons (vd_one vc_v) vw_nil))) ?_
 refine sq (ql (bO b1340) 2 sz4) ?_
 rcases b1345 with _ | _
 replace h := wF h
 rcases b1340 with _ | _
 replace h := wF h
 refine sq (q_binB rfl rfl (eqneqB4 _ _ _ _) rfl) ?_
 refine sq (qm bf) ?_
 iterate 2 refine ss ?_
 refine st_cut ?_
 iterate 2 refine os ?_
 refine pq (qpf bf) ?_
 refine oE (eS (cF rfl (lK (bN (eS (lO ?_))))))
 refine pq (qb p_addY) ?_
 refine pq (qm (iO (IntKind.i64.wrap (n1339 + 1)))) ?_
 refine oE ?_
 obtain rfl := sj h
 exact E_next k1342 (ups_self ⟨rfl, rfl, rfl, rfl, rfl, trivial⟩) [0, 1, 2, 3, 4, 5, 6, 7, 8] (by decide) rfl
 replace h := wT h
 refine sq (q_binB rfl rfl (eqneqB4 _ _ _ _) rfl) ?_
 refine sq (qm bt) ?_
 refine sq (qm (.one (.yld k490))) ?_
 refine sq (qm (iO n1339)) ?_
 refine st_cut ?_
 refine ol_yield (args := [iO n1339]) (p := 0) rfl rfl rfl rfl rfl rfl rfl rfl rfl ?_
 refine lO ?_
 refine pq (qa (iO n1339)) ?_
 refine oE ?_
 refine E_asg ?_
 refine lB (lS (lO ?_))
 refine pq (ql (.one (.clo (.func 37) [] [.ptr k13 0 0, .ptr k14 0 0, .ptr k12 0 0])) 3 sz81) ?_
 refine pq (qm (iO n1339)) ?_
 refine ol_scall (args := [iO n1339, .one (.ptr k13 0 0), .one (.ptr k14 0 0), .one (.ptr k12 0 0)]) rfl rfl rfl rfl (by rw [E1_fn]; exact show fiOf Tryd.prog 37 = _ by unfold fiOf; rw [Tryd.func37]; unfold Tryd.f37; rfl) rfl rfl rfl ?_
 dsimp only
 refine lS (lO ?_)
 refine ol_new rfl rfl rfl (q_alloc ty62 (row := [iI 0, uI 0]) rfl rfl) (fun k1346 => ?_)
 refine pq (qa bf) ?_
 refine oE (eS (lS (lS (lO ?_))))
 refine pq (q_fieldP rfl fa33_2 rfl) ?_
 refine pq (ql (.one (.p fr23 (Sl.t r3 s20))) 6 sz30) ?_
 refine pq (qm (iO n1339)) ?_
 obtain ⟨n1349, h1348, h⟩ := bindS h
 obtain ⟨h1348a, h1348b, h1348⟩ := atS_some h1348
 refine pq (q_ixS rfl rfl h1348a h1348 (el30.trans (congrArg some h1348b.symm))) ?_
 refine pq (q_loadI (v := iO n1349) rfl sz3 (map_get h1348) rfl rfl) ?_
 refine pq (qa (iO n1349)) ?_
 refine oE (eS (lB ?_))
 let S5 : (Bool × Int × Int × Int) → Unit → (Nat → D) → Nat → D := fun a kt g => ups g [(0, iO n1339), (1, .one (.ptr k13 0 0)), (2, .one (.ptr k14 0 0)), (3, .one (.ptr k12 0 0)), (5, .one (.ptr k1346 0 0)), (6, .one (bC a.1)), (7, .one (iI a.2.1))]
 let SL5 : (Bool × Int × Int × Int) → Unit → BL := fun a kt => ([[(k13, 5, [[iI n18, iI n19, .p fr23 (Sl.t r3 s20), .p fr23 (Sl.t r3 s21), .p fr23 (Sl.t r2 s22)]])], [(k14, 3, [[iI n7, sF r60 s8, sF r2 s9]])], [(k12, 1, [[iI n1]])], [(k1346, 2, [[iI a.2.2.1, uI a.2.2.2]])], [(k485, 1, [[.clo (.func 37) [] [.ptr k13 0 0, .ptr k14 0 0, .ptr k12 0 0]]])], [(k486, 1, [[moC l1341 k1342]])], [(k490, 0, [])], [(k488, 1, [[sF r60 s10]])], [(k489, 1, [[bC true]])], moL r63 3 l1341 k1342] : BL)
 let G5 : Empty → Ex → St → Prop := fun u => u.elim
 let Sx5 : (Bool × Int × Int) → Unit → (Nat → D) → Nat → D := fun a kt g => ups g [(5, .one (.ptr k1346 0 0)), (6, .one (bC a.1))]
 let SLx5 : (Bool × Int × Int) → Unit → BL := fun a kt => ([[(k1346, 2, [[iI a.2.1, uI a.2.2]])], [(k485, 1, [[.clo (.func 37) [] [.ptr k13 0 0, .ptr k14 0 0, .ptr k12 0 0]]])], [(k486, 1, [[moC l1341 k1342]])], [(k490, 0, [])], [(k488, 1, [[sF r60 s10]])], [(k489, 1, [[bC true]])], [(k13, 5, [[iI n18, iI n19, .p fr23 (Sl.t r3 s20), .p fr23 (Sl.t r3 s21), .p fr23 (Sl.t r2 s22)]])], [(k14, 3, [[iI n7, sF r60 s8, sF r2 s9]])], [(k12, 1, [[iI n1]])], moL r63 3 l1341 k1342] : BL)
 let J5 : ((Bool × Int × Int) ⊕ Empty) → Ex → St → Prop := JX 55 0 Sx5 SLx5 G5
 refine L_loopS (pull_Sums_b5 n1 s8 s9 s20 s21 s22 n1339) S5 SL5 J5 JX_n (false, n1349, 0, 0) h () (ups_self ⟨rfl, rfl, rfl, rfl, rfl, rfl, rfl, trivial⟩) [6, 7, 8, 0, 4, 5, 1, 2, 3, 9] (by decide) rfl ?_ ?_
 rintro ⟨b1442, n1443, n1444, n1445⟩ _ g out h
 change pull_Sums_b5 n1 s8 s9 s20 s21 s22 n1339 (b1442, n1443, n1444, n1445) = some out at h
 unfold pull_Sums_b5 at h
 refine lS (lS (lO ?_))
 refine pq (qm (iO n1443)) ?_
 refine pq (q_fieldP rfl fa33_2 rfl) ?_
 refine pq (ql (.one (.p fr23 (Sl.t r3 s20))) 0 sz30) ?_
 refine pq (qm (iO n1339)) ?_
 refine pq (qb p_addY) ?_
 obtain ⟨n1448, h1447, h⟩ := bindS h
 obtain ⟨h1447a, h1447b, h1447⟩ := atS_some h1447
 refine pq (q_ixS rfl rfl h1447a h1447 (el30.trans (congrArg some h1447b.symm))) ?_
 refine pq (q_loadI (v := iO n1448) rfl sz3 (map_get h1447) rfl rfl) ?_
 by_cases c1449 : n1443 < n1448
 replace h := ifT c1449 h
 refine pq (qb (p_lss_tZ c1449)) ?_
 refine oE (eS (cT rfl (lK (eS (lS (lB (lS (lO ?_))))))))
 refine pq (q_fieldP rfl fa33_3 rfl) ?_
 refine pq (ql (.one (.p fr23 (Sl.t r3 s21))) 0 sz30) ?_
 refine pq (qm (iO n1443)) ?_
 obtain ⟨n1452, h1451, h⟩ := bindS h
 obtain ⟨h1451a, h1451b, h1451⟩ := atS_some h1451
 refine pq (q_ixS rfl rfl h1451a h1451 (el30.trans (congrArg some h1451b.symm))) ?_
 refine pq (q_loadI (v := iO n1452) rfl sz3 (map_get h1451) rfl rfl) ?_
 refine pq (qa (iO n1452)) ?_
 refine oE (eS (lS (lS (lO ?_))))
 refine pq (q_fieldP rfl fa36_1 rfl) ?_
 refine pq (ql (.one (sF r60 s8)) 1 sz26) ?_
 refine pq (qm (iO n1452)) ?_
 obtain ⟨b1454, h1453, h⟩ := bindS h
 refine pq (qc (bO b1454) [.one (sF r60 s8), iO n1452] (flags_Has_r (m + 2) h1453) (vw_cons (vd_one vc_s) (vw_cons (vd_one vc_v) vw_nil))) ?_
 rcases b1454 with _ | _
 replace h := wF h
 refine pq (q_not rfl) ?_
 refine oE (eS (cT rfl (L_exit ?_)))
 refine E_seqX ?_
 refine bH (eS (lO ?_))
 refine pq (qm (iO n1443)) ?_
 refine pq (qb p_addY) ?_
 refine pq (qa (iO (IntKind.i64.wrap (n1443 + 1)))) ?_
 refine oE ?_
 obtain rfl := sj h
 exact E_next () (ups_self ⟨rfl, rfl, rfl, rfl, rfl, rfl, rfl, trivial⟩) [0, 1, 2, 3, 4, 5, 6, 7, 8, 9] (by decide) rfl
 replace h := wT h
 refine pq (q_not rfl) ?_
 refine oE (eS (cF rfl (lK (eS (lS ?_)))))
 refine L_norm (L2 := ([[(k13, 5, [[iI n18, iI n19, .p fr23 (Sl.t r3 s20), .p fr23 (Sl.t r3 s21), .p fr23 (Sl.t r2 s22)]])], [(k14, 3, [[iI n7, sF r60 s8, sF r2 s9]])], [(k12, 1, [[iI n1]])], [(k1346, 2, [[iI n1444, uI n1445]])], [(k485, 1, [[.clo (.func 37) [] [.ptr k13 0 0, .ptr k14 0 0, .ptr k12 0 0]]])], [(k486, 1, [[moC l1341 k1342]])], [(k490, 0, [])], [(k488, 1, [[sF r60 s10]])], [(k489, 1, [[bC true]])], moL r63 3 l1341 k1342] : BL)) [0, 1, 2, 3, 4, 5, 6, 7, 8, 9] (by decide) rfl ?_
 refine L_turn 14 rfl [[], [], [], [], [], [], [], [], [], [], [], [], [], []] [(false, []), (false, []), (false, []), (false, []), (false, []), (false, []), (false, []), (false, []), (false, []), (false, []), (false, []), (false, []), (true, []), (false, [12])] [[1, 2, 3, 4, 5, 6, 7, 8, 9, 10, 12], [0, 3, 6, 7, 8, 9, 10, 12], [0, 3, 6, 7, 8, 9, 10, 12], [0, 1, 2, 6, 7, 8, 9, 10, 12], [0, 6, 7, 8, 9, 10, 12], [0, 6, 7, 8, 9, 10, 12], [0, 1, 2, 3, 4, 5, 8, 12], [0, 1, 2, 3, 4, 5, 8, 12], [0, 1, 2, 3, 4, 5, 6, 7, 12], [0, 1, 2, 3, 4, 5, 12], [0, 1, 2, 3, 4, 5, 12], [12], [0, 1, 2, 3, 4, 5, 6, 7, 8, 9, 10, 11], []] (by kernel_rfl) (by kernel_rfl) (by kernel_rfl) ?_ (fun bb1455 hlt hnd => ?_)
 intro bb1455 hlt hnd
 exact ⟨⟨djE, ⟨djE, ⟨djE, ⟨djE, ⟨djE, ⟨djE, ⟨djE, ⟨djE, ⟨djE, ⟨djE, ⟨djE, ⟨djE, ⟨djE, ⟨djE, trivial⟩⟩⟩⟩⟩⟩⟩⟩⟩⟩⟩⟩⟩⟩, (ltO_cons ltK_nil (ltO_cons ltK_nil (ltO_cons ltK_nil (ltO_cons ltK_nil (ltO_cons ltK_nil (ltO_cons ltK_nil (ltO_cons ltK_nil (ltO_cons ltK_nil (ltO_cons ltK_nil (ltO_cons ltK_nil (ltO_cons ltK_nil (ltO_cons ltK_nil (ltO_cons ltK_nil (ltO_cons ltK_nil ltO_nil))))))))))))))⟩
 have e_k1342 : l1341 = [] ∨ k1342 < bb1455 := key_ltM (r := r63) (w := 3) hlt 9 rfl
 refine tq [2] rfl (hmc (nin_cons (ne_new (key_lt hlt 2 rfl)) nin_nil) hmn) (ql (iO n1) 0 sz22) ?_
 refine tq [] rfl hmn (q_fieldP rfl fa33_4 rfl) ?_
 refine tq [0] rfl (hmc (nin_cons (ne_new (key_lt hlt 0 rfl)) nin_nil) hmn) (ql (.one (.p fr23 (Sl.t r2 s22))) 0 sz31) ?_
 refine tq [] rfl hmn (qm (iO n1443)) ?_
 obtain ⟨n1467, h1466, h⟩ := bindS h
 obtain ⟨h1466a, h1466b, h1466⟩ := atS_some h1466
 refine tq [] rfl hmn (q_ixS rfl rfl h1466a h1466 (el31.trans (congrArg some h1466b.symm))) ?_
 refine tq [] rfl hmn (q_loadI (v := iO n1467) rfl sz2 (map_get h1466) rfl rfl) ?_
 refine tq [] rfl hmn (q_fieldP rfl fa36_2 rfl) ?_
 refine tq [1] rfl (hmc (nin_cons (ne_new (key_lt hlt 1 rfl)) nin_nil) hmn) (ql (.one (sF r2 s9)) 0 sz31) ?_
 refine tq [] rfl hmn (qm (iO n1452)) ?_
 obtain ⟨n1470, h1469, h⟩ := bindS h
 obtain ⟨h1469a, h1469b, h1469⟩ := atS_some h1469
 refine tq [] rfl hmn (q_ixS rfl rfl h1469a h1469 (el31.trans (congrArg some h1469b.symm))) ?_
 refine tq [] rfl hmn (q_loadI (v := iO n1470) rfl sz2 (map_get h1469) rfl rfl) ?_
 obtain ⟨⟨n1472, n1473⟩, h1471, h⟩ := bindS h
 refine tq [] rfl hmn (qc (.agg [iI n1472, uI n1473]) [iO n1, iO n1467, iO n1470] (ring_Mul_r (m + 1) h1471) (vw_cons (vd_one vc_v) (vw_cons (vd_one vc_v) (vw_cons (vd_one vc_v) vw_nil)))) ?_
 refine tn_new rfl rfl rfl [] (by decide) rfl (hm0 rfl) rfl rfl (hkc (ne_new (key_lt hlt 0 rfl)) (hkc (ne_new (key_lt hlt 1 rfl)) (hkc (ne_new (key_lt hlt 2 rfl)) (hkc (ne_new (key_lt hlt 3 rfl)) (hkc (ne_new (key_lt hlt 4 rfl)) (hkc (ne_new (key_lt hlt 5 rfl)) (hkc (ne_new (key_lt hlt 6 rfl)) (hkc (ne_new (key_lt hlt 7 rfl)) (hkc (ne_new (key_lt hlt 8 rfl)) (hkM (e_k1342.imp id fun h => by omega) hkn)))))))))) (q_alloc ty62 (row := [iI 0, uI 0]) rfl rfl) ?_
 refine tn_wr rfl rfl [0] (by decide) rfl (hm0 rfl) rfl (q_store (es' := [[iI n1472, uI n1473]]) 0 rfl rfl rfl sz62 rfl rfl rfl rfl rfl) (q := 0) rfl rfl ?_
 refine tn_end (eS (lS (lO ?_)))
 refine pq (qm (bO b1442)) ?_
 refine oE (eS ?_)
 rcases b1442 with _ | _
 replace h := wF h
 refine cF rfl (lO ?_)
 refine pq (ql (.agg [iI n1472, uI n1473]) 0 sz62) ?_
 refine ow [[iI n1472, uI n1473]] 4 sz62 ?_
 refine pq (qa bt) ?_
 refine oE (bN (eS (lO ?_)))
 refine pq (qm (iO n1443)) ?_
 refine pq (qb p_addY) ?_
 refine pq (qa (iO (IntKind.i64.wrap (n1443 + 1)))) ?_
 refine oE ?_
 obtain rfl := sj h
 exact E_next () (ups_self ⟨rfl, rfl, rfl, rfl, rfl, rfl, rfl, trivial⟩) [1, 2, 3, 4, 5, 6, 7, 8, 9, 10] (by decide) rfl
 replace h := wT h
 refine cT rfl (lO ?_)
 refine pq (ql (iO n1) 3 sz22) ?_
 refine pq (ql (.agg [iI n1444, uI n1445]) 4 sz62) ?_
 refine pq (ql (.agg [iI n1472, uI n1473]) 0 sz62) ?_
 obtain ⟨⟨n1475, n1476⟩, h1474, h⟩ := bindS h
 refine pq (qc (.agg [iI n1475, uI n1476]) [iO n1, .agg [iI n1444, uI n1445], .agg [iI n1472, uI n1473]] (ring_Add_r (m + 1) h1474) (vw_cons (vd_one vc_v) (vw_cons (vd_agg (vc_cons vc_v (vc_cons vc_v vc_nil))) (vw_cons (vd_agg (vc_cons vc_v (vc_cons vc_v vc_nil))) vw_nil)))) ?_
 refine ow [[iI n1475, uI n1476]] 4 sz62 ?_
 refine oE (bN (eS (lO ?_)))
 refine pq (qm (iO n1443)) ?_
 refine pq (qb p_addY) ?_
 refine pq (qa (iO (IntKind.i64.wrap (n1443 + 1)))) ?_
 refine oE ?_
 obtain rfl := sj h
 exact E_next () (ups_self ⟨rfl, rfl, rfl, rfl, rfl, rfl, rfl, trivial⟩) [1, 2, 3, 4, 5, 6, 7, 8, 9, 10] (by decide) rfl
 replace h := ifF c1449 h
 refine pq (qb (p_lss_fZ c1449)) ?_
 refine oE (eS (cF rfl (L_exit ?_)))
 refine E_seqX ?_
 obtain rfl := sj h
 refine E_out ?_
 exact (E_exit () (ups_self ⟨rfl, rfl, trivial⟩) [3, 4, 5, 6, 7, 8, 0, 1, 2, 9] (by decide) rfl)
 rintro (⟨b1477, n1478, n1479⟩ | u) h
 refine J_x (fun kt g => ?_)
 replace h := elimL h
 refine bH (eS (lS (lO ?_)))
 refine pq (ql (.agg [iI n1478, uI n1479]) 0 sz62) ?_
 refine pq (qm (bO b1477)) ?_
 refine ow [[iI n1478, uI n1479]] 0 sz62 ?_
 refine pq (qa (bO b1477)) ?_
 refine oE (eS (lR ?_))
 refine E_call (v := .tup [.agg [iI n1478, uI n1479], bO b1477]) (.inr rfl) (res_cell (d := .agg [iI n1478, uI n1479]) 0 rfl sz62 rfl rfl rfl rfl (res_tmp (d := bO b1477) rfl res_nil)) rfl ?_
 refine pq (qm (.tup [.agg [iI n1478, uI n1479], bO b1477])) ?_
 refine pq (q_ext (v := .agg [iI n1478, uI n1479]) rfl rfl) ?_
 refine pq (q_ext (v := bO b1477) rfl rfl) ?_
 refine ol_new rfl rfl rfl (q_alloc ty62 (row := [iI 0, uI 0]) rfl rfl) (fun k1480 => ?_)
 refine ow [[iI n1478, uI n1479]] 0 sz62 ?_
 refine pq (qa (bO b1477)) ?_
 refine oN ?_
 refine pq (qm (bO b1477)) ?_
 refine oE (eS ?_)
 rcases b1477 with _ | _
 replace h := wF h
 refine cF rfl (lK (bN ?_))
 refine E_roundN (p := 4) rfl ?_
 refine pq (q_not rfl) ?_
 refine pq (qpt bf) ?_
 refine oE (eS (cF rfl (lK (bN (eS (lO ?_))))))
 refine pq (qb p_addY) ?_
 refine pq (qm (iO (IntKind.i64.wrap (n1339 + 1)))) ?_
 refine oE ?_
 obtain rfl := sj h
 exact E_next k1342 (ups_self ⟨rfl, rfl, rfl, rfl, rfl, trivial⟩) [4, 5, 6, 2, 3, 7, 8, 9, 10] (by decide) rfl
 replace h := wT h
 refine cT rfl (lO ?_)
 refine pq (ql (.one (moC l1341 k1342)) 3 sz29) ?_
 refine pq (qm (iO n1339)) ?_
 refine pq (ql (.agg [iI n1478, uI n1479]) 0 sz62) ?_
 refine pq (q_build (cs := [iI n1339, iI n1478, uI n1479]) ty64 rfl pl64 rfl) ?_
 refine ol_new rfl rfl rfl (q_bslice (cs := [iI n1339, iI n1478, uI n1479]) (es := (([(n1339, (n1478, n1479))] : List (Int × (Int × Int)))).map (rowC r63)) ty29 rfl ty64 rfl rfl rfl rfl rfl) (fun k1481 => ?_)
 obtain ⟨_, h1482, h⟩ := bindS h
 obtain ⟨h1482b, rfl⟩ := app_some h1482
 refine ol_appM (r := r63) (l := l1341) (ys := ([(n1339, (n1478, n1479))] : List (Int × (Int × Int)))) 11 rfl rfl rfl rfl rfl rfl (el_ownM (l := ([(n1339, (n1478, n1479))] : List (Int × (Int × Int)))) 0 rfl) rfl h1482 (fun y => rfl) el29 ty29 rfl rfl rfl rfl rfl (fun k1483 => ?_)
 refine ow [[moC (l1341 ++ ([(n1339, (n1478, n1479))] : List (Int × (Int × Int)))) k1483]] 5 sz29 ?_
 refine oE (bN ?_)
 refine E_roundN (p := 6) rfl ?_
 refine pq (q_not rfl) ?_
 refine pq (qpt bf) ?_
 refine oE (eS (cF rfl (lK (bN (eS (lO ?_))))))
 refine pq (qb p_addY) ?_
 refine pq (qm (iO (IntKind.i64.wrap (n1339 + 1)))) ?_
 refine oE ?_
 obtain rfl := sj h
 exact E_next k1483 (ups_self ⟨rfl, rfl, rfl, rfl, rfl, trivial⟩) [6, 7, 8, 4, 5, 9, 10, 11, 0] (by decide) rfl
 exact u.elim
 replace h := wT h
 rcases b1340 with _ | _
 replace h := wF h
 refine sq (q_binB rfl rfl (eqneqB4 _ _ _ _) rfl) ?_
 refine sq (qm bt) ?_
 refine sq (qm (.one (.yld k490))) ?_
 refine sq (qm (iO n1339)) ?_
 refine st_cut ?_
 refine ol_yield (args := [iO n1339]) (p := 0) rfl rfl rfl rfl rfl rfl rfl rfl rfl ?_
 refine lO ?_
 refine pq (qa (iO n1339)) ?_
 refine oE ?_
 refine E_asg ?_
 refine lB (lS (lO ?_))
 refine pq (ql (.one (.clo (.func 37) [] [.ptr k13 0 0, .ptr k14 0 0, .ptr k12 0 0])) 3 sz81) ?_
 refine pq (qm (iO n1339)) ?_
 refine ol_scall (args := [iO n1339, .one (.ptr k13 0 0), .one (.ptr k14 0 0), .one (.ptr k12 0 0)]) rfl rfl rfl rfl (by rw [E1_fn]; exact show fiOf Tryd.prog 37 = _ by unfold fiOf; rw [Tryd.func37]; unfold Tryd.f37; rfl) rfl rfl rfl ?_
 dsimp only
 refine lS (lO ?_)
 refine ol_new rfl rfl rfl (q_alloc ty62 (row := [iI 0, uI 0]) rfl rfl) (fun k1484 => ?_)
 refine pq (qa bf) ?_
 refine oE (eS (lS (lS (lO ?_))))
 refine pq (q_fieldP rfl fa33_2 rfl) ?_
 refine pq (ql (.one (.p fr23 (Sl.t r3 s20))) 6 sz30) ?_
 refine pq (qm (iO n1339)) ?_
 obtain ⟨n1487, h1486, h⟩ := bindS h
 obtain ⟨h1486a, h1486b, h1486⟩ := atS_some h1486
 refine pq (q_ixS rfl rfl h1486a h1486 (el30.trans (congrArg some h1486b.symm))) ?_
 refine pq (q_loadI (v := iO n1487) rfl sz3 (map_get h1486) rfl rfl) ?_
 refine pq (qa (iO n1487)) ?_
 refine oE (eS (lB ?_))
 let S6 : (Bool × Int × Int × Int) → Unit → (Nat → D) → Nat → D := fun a kt g => ups g [(0, iO n1339), (1, .one (.ptr k13 0 0)), (2, .one (.ptr k14 0 0)), (3, .one (.ptr k12 0 0)), (5, .one (.ptr k1484 0 0)), (6, .one (bC a.1)), (7, .one (iI a.2.1))]
 let SL6 : (Bool × Int × Int × Int) → Unit → BL := fun a kt => ([[(k13, 5, [[iI n18, iI n19, .p fr23 (Sl.t r3 s20), .p fr23 (Sl.t r3 s21), .p fr23 (Sl.t r2 s22)]])], [(k14, 3, [[iI n7, sF r60 s8, sF r2 s9]])], [(k12, 1, [[iI n1]])], [(k1484, 2, [[iI a.2.2.1, uI a.2.2.2]])], [(k485, 1, [[.clo (.func 37) [] [.ptr k13 0 0, .ptr k14 0 0, .ptr k12 0 0]]])], [(k486, 1, [[moC l1341 k1342]])], [(k490, 0, [])], [(k488, 1, [[sF r60 s10]])], [(k489, 1, [[bC false]])], moL r63 3 l1341 k1342] : BL)
 let G6 : Empty → Ex → St → Prop := fun u => u.elim
 let Sx6 : (Bool × Int × Int) → Unit → (Nat → D) → Nat → D := fun a kt g => ups g [(5, .one (.ptr k1484 0 0)), (6, .one (bC a.1))]
 let SLx6 : (Bool × Int × Int) → Unit → BL := fun a kt => ([[(k1484, 2, [[iI a.2.1, uI a.2.2]])], [(k485, 1, [[.clo (.func 37) [] [.ptr k13 0 0, .ptr k14 0 0, .ptr k12 0 0]]])], [(k486, 1, [[moC l1341 k1342]])], [(k490, 0, [])], [(k488, 1, [[sF r60 s10]])], [(k489, 1, [[bC false]])], [(k13, 5, [[iI n18, iI n19, .p fr23 (Sl.t r3 s20), .p fr23 (Sl.t r3 s21), .p fr23 (Sl.t r2 s22)]])], [(k14, 3, [[iI n7, sF r60 s8, sF r2 s9]])], [(k12, 1, [[iI n1]])], moL r63 3 l1341 k1342] : BL)
 let J6 : ((Bool × Int × Int) ⊕ Empty) → Ex → St → Prop := JX 55 0 Sx6 SLx6 G6
 refine L_loopS (pull_Sums_b6 n1 s8 s9 s20 s21 s22 n1339) S6 SL6 J6 JX_n (false, n1487, 0, 0) h () (ups_self ⟨rfl, rfl, rfl, rfl, rfl, rfl, rfl, trivial⟩) [6, 7, 8, 0, 4, 5, 1, 2, 3, 9] (by decide) rfl ?_ ?_
 rintro ⟨b1580, n1581, n1582, n1583⟩ _ g out h
 change pull_Sums_b6 n1 s8 s9 s20 s21 s22 n1339 (b1580, n1581, n1582, n1583) = some out at h
 unfold pull_Sums_b6 at h
 refine lS (lS (lO ?_))
 refine pq (qm (iO n1581)) ?_
 refine pq (q_fieldP rfl fa33_2 rfl) ?_
 refine pq (ql (.one (.p fr23 (Sl.t r3 s20))) 0 sz30) ?_
 refine pq (qm (iO n1339)) ?_
 refine pq (qb p_addY) ?_
 obtain ⟨n1586, h1585, h⟩ := bindS h
 obtain ⟨h1585a, h1585b, h1585⟩ := atS_some h1585
 refine pq (q_ixS rfl rfl h1585a h1585 (el30.trans (congrArg some h1585b.symm))) ?_
 refine pq (q_loadI (v := iO n1586) rfl sz3 (map_get h1585) rfl rfl) ?_
 by_cases c1587 : n1581 < n1586
 replace h := ifT c1587 h
 refine pq (qb (p_lss_tZ c1587)) ?_
 refine oE (eS (cT rfl (lK (eS (lS (lB (lS (lO ?_))))))))
 refine pq (q_fieldP rfl fa33_3 rfl) ?_
 refine pq (ql (.one (.p fr23 (Sl.t r3 s21))) 0 sz30) ?_
 refine pq (qm (iO n1581)) ?_
 obtain ⟨n1590, h1589, h⟩ := bindS h
 obtain ⟨h1589a, h1589b, h1589⟩ := atS_some h1589
 refine pq (q_ixS rfl rfl h1589a h1589 (el30.trans (congrArg some h1589b.symm))) ?_
 refine pq (q_loadI (v := iO n1590) rfl sz3 (map_get h1589) rfl rfl) ?_
 refine pq (qa (iO n1590)) ?_
 refine oE (eS (lS (lS (lO ?_))))
 refine pq (q_fieldP rfl fa36_1 rfl) ?_
 refine pq (ql (.one (sF r60 s8)) 1 sz26) ?_
 refine pq (qm (iO n1590)) ?_
 obtain ⟨b1592, h1591, h⟩ := bindS h
 refine pq (qc (bO b1592) [.one (sF r60 s8), iO n1590] (flags_Has_r (m + 2) h1591) (vw_cons (vd_one vc_s) (vw_cons (vd_one vc_v) vw_nil))) ?_
 rcases b1592 with _ | _
 replace h := wF h
 refine pq (q_not rfl) ?_
 refine oE (eS (cT rfl (L_exit ?_)))
 refine E_seqX ?_
 refine bH (eS (lO ?_))
 refine pq (qm (iO n1581)) ?_
 refine pq (qb p_addY) ?_
 refine pq (qa (iO (IntKind.i64.wrap (n1581 + 1)))) ?_
 refine oE ?_
 obtain rfl := sj h
 exact E_next () (ups_self ⟨rfl, rfl, rfl, rfl, rfl, rfl, rfl, trivial⟩) [0, 1, 2, 3, 4, 5, 6, 7, 8, 9] (by decide) rfl
 replace h := wT h
 refine pq (q_not rfl) ?_
 refine oE (eS (cF rfl (lK (eS (lS ?_)))))
 refine L_norm (L2 := ([[(k13, 5, [[iI n18, iI n19, .p fr23 (Sl.t r3 s20), .p fr23 (Sl.t r3 s21), .p fr23 (Sl.t r2 s22)]])], [(k14, 3, [[iI n7, sF r60 s8, sF r2 s9]])], [(k12, 1, [[iI n1]])], [(k1484, 2, [[iI n1582, uI n1583]])], [(k485, 1, [[.clo (.func 37) [] [.ptr k13 0 0, .ptr k14 0 0, .ptr k12 0 0]]])], [(k486, 1, [[moC l1341 k1342]])], [(k490, 0, [])], [(k488, 1, [[sF r60 s10]])], [(k489, 1, [[bC false]])], moL r63 3 l1341 k1342] : BL)) [0, 1, 2, 3, 4, 5, 6, 7, 8, 9] (by decide) rfl ?_
 refine L_turn 14 rfl [[], [], [], [], [], [], [], [], [], [], [], [], [], []] [(false, []), (false, []), (false, []), (false, []), (false, []), (false, []), (false, []), (false, []), (false, []), (false, []), (false, []), (false, []), (true, []), (false, [12])] [[1, 2, 3, 4, 5, 6, 7, 8, 9, 10, 12], [0, 3, 6, 7, 8, 9, 10, 12], [0, 3, 6, 7, 8, 9, 10, 12], [0, 1, 2, 6, 7, 8, 9, 10, 12], [0, 6, 7, 8, 9, 10, 12], [0, 6, 7, 8, 9, 10, 12], [0, 1, 2, 3, 4, 5, 8, 12], [0, 1, 2, 3, 4, 5, 8, 12], [0, 1, 2, 3, 4, 5, 6, 7, 12], [0, 1, 2, 3, 4, 5, 12], [0, 1, 2, 3, 4, 5, 12], [12], [0, 1, 2, 3, 4, 5, 6, 7, 8, 9, 10, 11], []] (by kernel_rfl) (by kernel_rfl) (by kernel_rfl) ?_ (fun bb1593 hlt hnd => ?_)
 intro bb1593 hlt hnd
 exact ⟨⟨djE, ⟨djE, ⟨djE, ⟨djE, ⟨djE, ⟨djE, ⟨djE, ⟨djE, ⟨djE, ⟨djE, ⟨djE, ⟨djE, ⟨djE, ⟨djE, trivial⟩⟩⟩⟩⟩⟩⟩⟩⟩⟩⟩⟩⟩⟩, (ltO_cons ltK_nil (ltO_cons ltK_nil (ltO_cons ltK_nil (ltO_cons ltK_nil (ltO_cons ltK_nil (ltO_cons ltK_nil (ltO_cons ltK_nil (ltO_cons ltK_nil (ltO_cons ltK_nil (ltO_cons ltK_nil (ltO_cons ltK_nil (ltO_cons ltK_nil (ltO_cons ltK_nil (ltO_cons ltK_nil ltO_nil))))))))))))))⟩
 have e_k1342 : l1341 = [] ∨ k1342 < bb1593 := key_ltM (r := r63) (w := 3) hlt 9 rfl
 refine tq [2] rfl (hmc (nin_cons (ne_new (key_lt hlt 2 rfl)) nin_nil) hmn) (ql (iO n1) 0 sz22) ?_
 refine tq [] rfl hmn (q_fieldP rfl fa33_4 rfl) ?_
 refine tq [0] rfl (hmc (nin_cons (ne_new (key_lt hlt 0 rfl)) nin_nil) hmn) (ql (.one (.p fr23 (Sl.t r2 s22))) 0 sz31) ?_
 refine tq [] rfl hmn (qm (iO n1581)) ?_
 obtain ⟨n1605, h1604, h⟩ := bindS h
 obtain ⟨h1604a, h1604b, h1604⟩ := atS_some h1604
 refine tq [] rfl hmn (q_ixS rfl rfl h1604a h1604 (el31.trans (congrArg some h1604b.symm))) ?_
 refine tq [] rfl hmn (q_loadI (v := iO n1605) rfl sz2 (map_get h1604) rfl rfl) ?_
 refine tq [] rfl hmn (q_fieldP rfl fa36_2 rfl) ?_
 refine tq [1] rfl (hmc (nin_cons (ne_new (key_lt hlt 1 rfl)) nin_nil) hmn) (ql (.one (sF r2 s9)) 0 sz31) ?_
 refine tq [] rfl hmn (qm (iO n1590)) ?_
 obtain ⟨n1608, h1607, h⟩ := bindS h
 obtain ⟨h1607a, h1607b, h1607⟩ := atS_some h1607
 refine tq [] rfl hmn (q_ixS rfl rfl h1607a h1607 (el31.trans (congrArg some h1607b.symm))) ?_
 refine tq [] rfl hmn (q_loadI (v := iO n1608) rfl sz2 (map_get h1607) rfl rfl) ?_
 obtain ⟨⟨n1610, n1611⟩, h1609, h⟩ := bindS h
 refine tq [] rfl hmn (qc (.agg [iI n1610, uI n1611]) [iO n1, iO n1605, iO n1608] (ring_Mul_r (m + 1) h1609) (vw_cons (vd_one vc_v) (vw_cons (vd_one vc_v) (vw_cons (vd_one vc_v) vw_nil)))) ?_
 refine tn_new rfl rfl rfl [] (by decide) rfl (hm0 rfl) rfl rfl (hkc (ne_new (key_lt hlt 0 rfl)) (hkc (ne_new (key_lt hlt 1 rfl)) (hkc (ne_new (key_lt hlt 2 rfl)) (hkc (ne_new (key_lt hlt 3 rfl)) (hkc (ne_new (key_lt hlt 4 rfl)) (hkc (ne_new (key_lt hlt 5 rfl)) (hkc (ne_new (key_lt hlt 6 rfl)) (hkc (ne_new (key_lt hlt 7 rfl)) (hkc (ne_new (key_lt hlt 8 rfl)) (hkM (e_k1342.imp id fun h => by omega) hkn)))))))))) (q_alloc ty62 (row := [iI 0, uI 0]) rfl rfl) ?_
 refine tn_wr rfl rfl [0] (by decide) rfl (hm0 rfl) rfl (q_store (es' := [[iI n1610, uI n1611]]) 0 rfl rfl rfl sz62 rfl rfl rfl rfl rfl) (q := 0) rfl rfl ?_
 refine tn_end (eS (lS (lO ?_)))
 refine pq (qm (bO b1580)) ?_
 refine oE (eS ?_)
 rcases b1580 with _ | _
 replace h := wF h
 refine cF rfl (lO ?_)
 refine pq (ql (.agg [iI n1610, uI n1611]) 0 sz62) ?_
 refine ow [[iI n1610, uI n1611]] 4 sz62 ?_
 refine pq (qa bt) ?_
 refine oE (bN (eS (lO ?_)))
 refine pq (qm (iO n1581)) ?_
 refine pq (qb p_addY) ?_
 refine pq (qa (iO (IntKind.i64.wrap (n1581 + 1)))) ?_
 refine oE ?_
 obtain rfl := sj h
 exact E_next () (ups_self ⟨rfl, rfl, rfl, rfl, rfl, rfl, rfl, trivial⟩) [1, 2, 3, 4, 5, 6, 7, 8, 9, 10] (by decide) rfl
 replace h := wT h
 refine cT rfl (lO ?_)
 refine pq (ql (iO n1) 3 sz22) ?_
 refine pq (ql (.agg [iI n1582, uI n1583]) 4 sz62) ?_
 refine pq (ql (.agg [iI n1610, uI n1611]) 0 sz62) ?_
 obtain ⟨⟨n1613, n1614⟩, h1612, h⟩ := bindS h
 refine pq (qc (.agg [iI n1613, uI n1614]) [iO n1, .agg [iI n1582, uI n1583], .agg [iI n1610, uI n1611]] (ring_Add_r (m + 1) h1612) (vw_cons (vd_one vc_v) (vw_cons (vd_agg (vc_cons vc_v (vc_cons vc_v vc_nil))) (vw_cons (vd_agg (vc_cons vc_v (vc_cons vc_v vc_nil))) vw_nil)))) ?_
 refine ow [[iI n1613, uI n1614]] 4 sz62 ?_
 refine oE (bN (eS (lO ?_)))
 refine pq (qm (iO n1581)) ?_
 refine pq (qb p_addY) ?_
 refine pq (qa (iO (IntKind.i64.wrap (n1581 + 1)))) ?_
 refine oE ?_
 obtain rfl := sj h
 exact E_next () (ups_self ⟨rfl, rfl, rfl, rfl, rfl, rfl, rfl, trivial⟩) [1, 2, 3, 4, 5, 6, 7, 8, 9, 10] (by decide) rfl
 replace h := ifF c1587 h
 refine pq (qb (p_lss_fZ c1587)) ?_
 refine oE (eS (cF rfl (L_exit ?_)))
 refine E_seqX ?_
 obtain rfl := sj h
 refine E_out ?_
 exact (E_exit () (ups_self ⟨rfl, rfl, trivial⟩) [3, 4, 5, 6, 7, 8, 0, 1, 2, 9] (by decide) rfl)
 rintro (⟨b1615, n1616, n1617⟩ | u) h
 refine J_x (fun kt g => ?_)
 replace h := elimL h
 refine bH (eS (lS (lO ?_)))
 refine pq (ql (.agg [iI n1616, uI n1617]) 0 sz62) ?_
 refine pq (qm (bO b1615)) ?_
 refine ow [[iI n1616, uI n1617]] 0 sz62 ?_
 refine pq (qa (bO b1615)) ?_
 refine oE (eS (lR ?_))
 refine E_call (v := .tup [.agg [iI n1616, uI n1617], bO b1615]) (.inr rfl) (res_cell (d := .agg [iI n1616, uI n1617]) 0 rfl sz62 rfl rfl rfl rfl (res_tmp (d := bO b1615) rfl res_nil)) rfl ?_
 refine pq (qm (.tup [.agg [iI n1616, uI n1617], bO b1615])) ?_
 refine pq (q_ext (v := .agg [iI n1616, uI n1617]) rfl rfl) ?_
 refine pq (q_ext (v := bO b1615) rfl rfl) ?_
 refine ol_new rfl rfl rfl (q_alloc ty62 (row := [iI 0, uI 0]) rfl rfl) (fun k1618 => ?_)
 refine ow [[iI n1616, uI n1617]] 0 sz62 ?_
 refine pq (qa (bO b1615)) ?_
 refine oN ?_
 refine pq (qm (bO b1615)) ?_
 refine oE (eS ?_)
 rcases b1615 with _ | _
 replace h := wF h
 refine cF rfl (lK (bN ?_))
 refine E_roundN (p := 4) rfl ?_
 refine pq (q_not rfl) ?_
 refine pq (qpt bf) ?_
 refine oE (eS (cF rfl (lK (bN (eS (lO ?_))))))
 refine pq (qb p_addY) ?_
 refine pq (qm (iO (IntKind.i64.wrap (n1339 + 1)))) ?_
 refine oE ?_
 obtain rfl := sj h
 exact E_next k1342 (ups_self ⟨rfl, rfl, rfl, rfl, rfl, trivial⟩) [4, 5, 6, 2, 3, 7, 8, 9, 10] (by decide) rfl
 replace h := wT h
 refine cT rfl (lO ?_)
 refine pq (ql (.one (moC l1341 k1342)) 3 sz29) ?_
 refine pq (qm (iO n1339)) ?_
 refine pq (ql (.agg [iI n1616, uI n1617]) 0 sz62) ?_
 refine pq (q_build (cs := [iI n1339, iI n1616, uI n1617]) ty64 rfl pl64 rfl) ?_
 refine ol_new rfl rfl rfl (q_bslice (cs := [iI n1339, iI n1616, uI n1617]) (es := (([(n1339, (n1616, n1617))] : List (Int × (Int × Int)))).map (rowC r63)) ty29 rfl ty64 rfl rfl rfl rfl rfl) (fun k1619 => ?_)
 obtain ⟨_, h1620, h⟩ := bindS h
 obtain ⟨h1620b, rfl⟩ := app_some h1620
 refine ol_appM (r := r63) (l := l1341) (ys := ([(n1339, (n1616, n1617))] : List (Int × (Int × Int)))) 11 rfl rfl rfl rfl rfl rfl (el_ownM (l := ([(n1339, (n1616, n1617))] : List (Int × (Int × Int)))) 0 rfl) rfl h1620 (fun y => rfl) el29 ty29 rfl rfl rfl rfl rfl (fun k1621 => ?_)
 refine ow [[moC (l1341 ++ ([(n1339, (n1616, n1617))] : List (Int × (Int × Int)))) k1621]] 5 sz29 ?_
 refine oE (bN ?_)
 refine E_roundN (p := 6) rfl ?_
 refine pq (q_not rfl) ?_
 refine pq (qpt bf) ?_
 refine oE (eS (cF rfl (lK (bN (eS (lO ?_))))))
 refine pq (qb p_addY) ?_
 refine pq (qm (iO (IntKind.i64.wrap (n1339 + 1)))) ?_
 refine oE ?_
 obtain rfl := sj h
 exact E_next k1621 (ups_self ⟨rfl, rfl, rfl, rfl, rfl, trivial⟩) [6, 7, 8, 4, 5, 9, 10, 11, 0] (by decide) rfl
 exact u.elim
 replace h := wT h
 refine sq (q_binB rfl rfl (eqneqB4 _ _ _ _) rfl) ?_
 refine sq (qm bf) ?_
 iterate 2 refine ss ?_
 refine st_cut ?_
 iterate 2 refine os ?_
 refine pq (qpf bf) ?_
 refine oE (eS (cF rfl (lK (bN (eS (lO ?_))))))
 refine pq (qb p_addY) ?_
 refine pq (qm (iO (IntKind.i64.wrap (n1339 + 1)))) ?_
 refine oE ?_
 obtain rfl := sj h
 exact E_next k1342 (ups_self ⟨rfl, rfl, rfl, rfl, rfl, trivial⟩) [0, 1, 2, 3, 4, 5, 6, 7, 8] (by decide) rfl
 replace h := ifF c1343 h
 refine pq (qb (p_lss_fZ c1343)) ?_
 refine oE (eS (lS (cF rfl (L_exit ?_))))
 refine E_seqX ?_
 obtain rfl := sj h
 refine E_out ?_
 exact (E_exit k1342 (ups_self trivial) [3, 4, 0, 5, 6, 7, 8] (by decide) rfl)
 rintro (l1622 | u) h
 refine J_x (fun k1623 g => ?_)
 replace h := elimL h
 refine bH ?_
 refine E_range (p := 2) (.inl rfl) rfl ?_
 refine bN (eS (lS (lO ?_)))
 refine pq (ql (.one (moC l1622 k1623)) 1 sz29) ?_
 refine pq (qa (.one (moC l1622 k1623))) ?_
 refine pq (qa (iO 0)) ?_
 refine oE (eS (lR ?_))
 obtain rfl := sj h
 exact E_endF (.inr rfl) (res_tmp rfl (res_tmp rfl res_nil)) (vw_cons (vd_one (vc_M (r := r63) 6 rfl (fun x h m => rfl))) (vw_cons (vd_one vc_v) vw_nil)) oW rfl rfl
 exact u.elim
end Ev
end Go.Proofs.YtlcfdmjkbaegpaaDoor
