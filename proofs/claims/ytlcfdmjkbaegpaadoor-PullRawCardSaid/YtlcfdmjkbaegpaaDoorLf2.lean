/- Functions of the program as functions on data, and that they are. -/
import Derived.Test.YtlcfdmjkbaegpaaDoorLf1
import Derived.Test.YtlcfdmjkbaegpaaDoorLy1
import Derived.Test.YtlcfdmjkbaegpaaDoorLy2
namespace Go.Proofs.YtlcfdmjkbaegpaaDoor
namespace Ev
open Go
set_option linter.unusedVariables false
set_option linter.unusedSimpArgs false
set_option maxRecDepth 100000
set_option maxHeartbeats 1000000
attribute [local irreducible] OpsL StL TnL WpL EndL
noncomputable def wide_Mul (n1 : Int) (n2 : Int) : Option ((Int × Int)) :=
  ((wide_products (IntKind.u64.wrap n1) (IntKind.u64.wrap n2)).bind fun (n5, n6, n7, n8) => ((wide_Left (0, n6) 32).bind fun (n19, n20) => ((wide_Add ((IntKind.i64.wrap n8), n5) (n19, n20)).bind fun (n22, n23) => ((wide_Left (0, n7) 32).bind fun (n32, n33) => ((wide_Add (n22, n23) (n32, n33)).bind fun (n35, n36) => (if n1 < 0 then (if n2 < 0 then some ((IntKind.i64.wrap ((IntKind.i64.wrap (n35 - n2)) - n1)), n36) else some ((IntKind.i64.wrap (n35 - n2)), n36)) else (if n2 < 0 then some ((IntKind.i64.wrap (n35 - n1)), n36) else some (n35, n36))))))))
theorem wide_Mul_r (m : Nat) {n1 : Int} {n2 : Int} {out : (Int × Int)} (h : wide_Mul n1 n2 = some out) : RunsP E1 (m + 2) 72 [.one (iT .i64 n1), .one (iT .i64 n2)] (.fresh, [.agg (r61 out)]) := by
  refine fn_F rfl (by rw [E1_fn]; exact show fiOf Tryd.prog 72 = _ by unfold fiOf; rw [Tryd.func72]; unfold Tryd.f72; rfl) rfl ?_
  dsimp only
  unfold wide_Mul at h
  refine L_seq ?_
  refine L_ops ?_
  refine ol_new rfl rfl rfl (q_alloc ty62 (row := [iC .i64 0, iC .u64 0]) rfl rfl) (fun k3 => ?_)
  refine ol_end ?_
  refine E_seq ?_
  refine L_seq ?_
  refine L_ops ?_
  refine ol_put rfl rfl rfl (q_move (v := .one (iC .i64 n1)) rfl) ?_
  refine ol_put rfl rfl rfl (q_conv rfl (cv2_60_i64 _) rfl) ?_
  refine ol_put rfl rfl rfl (q_move (v := .one (iC .i64 n2)) rfl) ?_
  refine ol_put rfl rfl rfl (q_conv rfl (cv2_60_i64 _) rfl) ?_
  obtain ⟨⟨n5, n6, n7, n8⟩, h4, h⟩ := bindS h
  refine ol_put rfl rfl rfl (q_callF (v := .agg [iC .u64 n5, iC .u64 n6, iC .u64 n7, iC .u64 n8]) (args := [.one (iC .u64 (IntKind.u64.wrap n1)), .one (iC .u64 (IntKind.u64.wrap n2))]) (wide_products_r (m + 0) h4) rfl rfl (vw_cons (vd_one vc_v) (vw_cons (vd_one vc_v) vw_nil)) rfl rfl) ?_
  refine ol_new rfl rfl rfl (q_alloc ty122 (row := [iC .u64 0, iC .u64 0, iC .u64 0, iC .u64 0]) rfl rfl) (fun k9 => ?_)
  refine ol_wr rfl rfl (q_store (es' := [[iC .u64 n5, iC .u64 n6, iC .u64 n7, iC .u64 n8]]) 0 rfl rfl rfl sz122 rfl rfl rfl rfl rfl) rfl ?_
  refine ol_end ?_
  refine E_seq ?_
  refine L_seq ?_
  refine L_ops ?_
  refine ol_put rfl rfl rfl (q_ixA (a := 3) ty122 rfl ty60 rfl rfl rfl rfl) ?_
  refine ol_put rfl rfl rfl (q_loadP (v := .one (iC .u64 n8)) 0 rfl sz60 rfl rfl rfl rfl) ?_
  refine ol_put rfl rfl rfl (q_conv rfl (cv60_2_u64 _) rfl) ?_
  refine ol_put rfl rfl rfl (q_ixA (a := 0) ty122 rfl ty60 rfl rfl rfl rfl) ?_
  refine ol_put rfl rfl rfl (q_loadP (v := .one (iC .u64 n5)) 0 rfl sz60 rfl rfl rfl rfl) ?_
  refine ol_put rfl rfl rfl (q_build (cs := [iC .i64 (IntKind.i64.wrap n8), iC .u64 n5]) ty62 rfl pl62 rfl) ?_
  refine ol_new rfl rfl rfl (q_alloc ty62 (row := [iC .i64 0, iC .u64 0]) rfl rfl) (fun k10 => ?_)
  refine ol_wr rfl rfl (q_store (es' := [[iC .i64 (IntKind.i64.wrap n8), iC .u64 n5]]) 0 rfl rfl rfl sz62 rfl rfl rfl rfl rfl) rfl ?_
  refine ol_end ?_
  refine E_seq ?_
  refine L_seq ?_
  refine L_norm (L2 := ([[(k10, 2, [[iC .i64 (IntKind.i64.wrap n8), iC .u64 n5]])], [(k9, 4, [[iC .u64 n5, iC .u64 n6, iC .u64 n7, iC .u64 n8]])], [(k3, 2, [[iC .i64 0, iC .u64 0]])]] : BL)) [0, 1, 2] (by decide) rfl ?_
  refine L_turn 7 rfl [[], [], [], [], [], [], [k10]] [(false, []), (false, []), (false, []), (false, []), (false, []), (false, []), (false, [])] [[1, 2, 3, 4], [0], [0], [0], [0], [], []] (by kernel_rfl) (by kernel_rfl) (by kernel_rfl) ?_ (fun bb11 hlt hnd => ?_)
  · intro bb11 hlt hnd
    exact ⟨⟨djE, ⟨djE, ⟨djE, ⟨djE, ⟨djE, ⟨djE, ⟨djN, trivial⟩⟩⟩⟩⟩⟩⟩, (ltO_cons ltK_nil (ltO_cons ltK_nil (ltO_cons ltK_nil (ltO_cons ltK_nil (ltO_cons ltK_nil (ltO_cons ltK_nil (ltO_cons (ltK_cons (key_lt hlt 0 rfl) ltK_nil) ltO_nil)))))))⟩
  refine tn_put rfl rfl rfl [0] (by decide) rfl (hm0 rfl) rfl (q_loadP (v := .agg [iC .i64 (IntKind.i64.wrap n8), iC .u64 n5]) 0 rfl sz62 rfl rfl rfl rfl) ?_
  refine tn_put rfl rfl rfl [] (by decide) rfl (hm0 rfl) rfl (q_ixA (a := 1) ty122 rfl ty60 rfl rfl rfl rfl) ?_
  refine tn_put rfl rfl rfl [1] (by decide) rfl (hm0 rfl) rfl (q_loadP (v := .one (iC .u64 n6)) 0 rfl sz60 rfl rfl rfl rfl) ?_
  refine tn_put rfl rfl rfl [] (by decide) rfl (hm0 rfl) rfl (q_build (cs := [iC .i64 0, iC .u64 n6]) ty62 rfl pl62 rfl) ?_
  obtain ⟨⟨n19, n20⟩, h18, h⟩ := bindS h
  refine tn_put rfl rfl rfl [] (by decide) rfl (hm0 rfl) rfl (q_callF (v := .agg [iC .i64 n19, iC .u64 n20]) (args := [.agg [iC .i64 0, iC .u64 n6], .one (iC .i64 32)]) (wide_Left_r (m + 0) h18) rfl rfl (vw_cons (vd_agg (vc_cons vc_v (vc_cons vc_v vc_nil))) (vw_cons (vd_one vc_v) vw_nil)) rfl rfl) ?_
  obtain ⟨⟨n22, n23⟩, h21, h⟩ := bindS h
  refine tn_put rfl rfl rfl [] (by decide) rfl (hm0 rfl) rfl (q_callF (v := .agg [iC .i64 n22, iC .u64 n23]) (args := [.agg [iC .i64 (IntKind.i64.wrap n8), iC .u64 n5], .agg [iC .i64 n19, iC .u64 n20]]) (wide_Add_r (m + 0) h21) rfl rfl (vw_cons (vd_agg (vc_cons vc_v (vc_cons vc_v vc_nil))) (vw_cons (vd_agg (vc_cons vc_v (vc_cons vc_v vc_nil))) vw_nil)) rfl rfl) ?_
  refine tn_wr rfl rfl [0] (by decide) rfl (hm0 rfl) rfl (q_store (es' := [[iC .i64 n22, iC .u64 n23]]) 0 rfl rfl rfl sz62 rfl rfl rfl rfl rfl) (q := 0) rfl rfl ?_
  refine tn_end ?_
  refine E_seq ?_
  refine L_seq ?_
  refine L_norm (L2 := ([[(k10, 2, [[iC .i64 n22, iC .u64 n23]])], [(k9, 4, [[iC .u64 n5, iC .u64 n6, iC .u64 n7, iC .u64 n8]])], [(k3, 2, [[iC .i64 0, iC .u64 0]])]] : BL)) [0, 1, 2] (by decide) rfl ?_
  refine L_turn 7 rfl [[], [], [], [], [], [], [k10]] [(false, []), (false, []), (false, []), (false, []), (false, []), (false, []), (false, [])] [[1, 2, 3, 4], [0], [0], [0], [0], [], []] (by kernel_rfl) (by kernel_rfl) (by kernel_rfl) ?_ (fun bb24 hlt hnd => ?_)
  · intro bb24 hlt hnd
    exact ⟨⟨djE, ⟨djE, ⟨djE, ⟨djE, ⟨djE, ⟨djE, ⟨djN, trivial⟩⟩⟩⟩⟩⟩⟩, (ltO_cons ltK_nil (ltO_cons ltK_nil (ltO_cons ltK_nil (ltO_cons ltK_nil (ltO_cons ltK_nil (ltO_cons ltK_nil (ltO_cons (ltK_cons (key_lt hlt 0 rfl) ltK_nil) ltO_nil)))))))⟩
  refine tn_put rfl rfl rfl [0] (by decide) rfl (hm0 rfl) rfl (q_loadP (v := .agg [iC .i64 n22, iC .u64 n23]) 0 rfl sz62 rfl rfl rfl rfl) ?_
  refine tn_put rfl rfl rfl [] (by decide) rfl (hm0 rfl) rfl (q_ixA (a := 2) ty122 rfl ty60 rfl rfl rfl rfl) ?_
  refine tn_put rfl rfl rfl [1] (by decide) rfl (hm0 rfl) rfl (q_loadP (v := .one (iC .u64 n7)) 0 rfl sz60 rfl rfl rfl rfl) ?_
  refine tn_put rfl rfl rfl [] (by decide) rfl (hm0 rfl) rfl (q_build (cs := [iC .i64 0, iC .u64 n7]) ty62 rfl pl62 rfl) ?_
  obtain ⟨⟨n32, n33⟩, h31, h⟩ := bindS h
  refine tn_put rfl rfl rfl [] (by decide) rfl (hm0 rfl) rfl (q_callF (v := .agg [iC .i64 n32, iC .u64 n33]) (args := [.agg [iC .i64 0, iC .u64 n7], .one (iC .i64 32)]) (wide_Left_r (m + 0) h31) rfl rfl (vw_cons (vd_agg (vc_cons vc_v (vc_cons vc_v vc_nil))) (vw_cons (vd_one vc_v) vw_nil)) rfl rfl) ?_
  obtain ⟨⟨n35, n36⟩, h34, h⟩ := bindS h
  refine tn_put rfl rfl rfl [] (by decide) rfl (hm0 rfl) rfl (q_callF (v := .agg [iC .i64 n35, iC .u64 n36]) (args := [.agg [iC .i64 n22, iC .u64 n23], .agg [iC .i64 n32, iC .u64 n33]]) (wide_Add_r (m + 0) h34) rfl rfl (vw_cons (vd_agg (vc_cons vc_v (vc_cons vc_v vc_nil))) (vw_cons (vd_agg (vc_cons vc_v (vc_cons vc_v vc_nil))) vw_nil)) rfl rfl) ?_
  refine tn_wr rfl rfl [0] (by decide) rfl (hm0 rfl) rfl (q_store (es' := [[iC .i64 n35, iC .u64 n36]]) 0 rfl rfl rfl sz62 rfl rfl rfl rfl rfl) (q := 0) rfl rfl ?_
  refine tn_end ?_
  refine E_seq ?_
  refine L_seq ?_
  refine L_seq ?_
  refine L_ops ?_
  refine ol_put rfl rfl rfl (q_move (v := .one (iC .i64 n1)) rfl) ?_
  by_cases c37 : n1 < 0
  · replace h := ifT c37 h
    refine ol_put rfl rfl rfl (q_bin rfl rfl (p_lss_t _ _ _ _ _ c37) rfl) ?_
    refine ol_end ?_
    refine E_seq ?_
    refine L_condT rfl ?_
    refine L_ops ?_
    refine ol_put rfl rfl rfl (q_fieldP rfl fa62_0 rfl) ?_
    refine ol_put rfl rfl rfl (q_loadP (v := .one (iC .i64 n35)) 0 rfl sz2 rfl rfl rfl rfl) ?_
    refine ol_put rfl rfl rfl (q_move (v := .one (iC .i64 n2)) rfl) ?_
    refine ol_put rfl rfl rfl (q_bin rfl rfl (p_sub _ _ _ _ _ _ _) rfl) ?_
    refine ol_put rfl rfl rfl (q_fieldP rfl fa62_0 rfl) ?_
    refine ol_wr rfl rfl (q_store (es' := [[iC .i64 (IntKind.i64.wrap (n35 - n2)), iC .u64 n36]]) 0 rfl rfl rfl sz2 rfl rfl rfl rfl rfl) rfl ?_
    refine ol_end ?_
    refine E_seq ?_
    refine L_seq ?_
    refine L_seq ?_
    refine L_ops ?_
    refine ol_put rfl rfl rfl (q_move (v := .one (iC .i64 n2)) rfl) ?_
    by_cases c38 : n2 < 0
    · replace h := ifT c38 h
      refine ol_put rfl rfl rfl (q_bin rfl rfl (p_lss_t _ _ _ _ _ c38) rfl) ?_
      refine ol_end ?_
      refine E_seq ?_
      refine L_condT rfl ?_
      refine L_ops ?_
      refine ol_put rfl rfl rfl (q_fieldP rfl fa62_0 rfl) ?_
      refine ol_put rfl rfl rfl (q_loadP (v := .one (iC .i64 (IntKind.i64.wrap (n35 - n2)))) 0 rfl sz2 rfl rfl rfl rfl) ?_
      refine ol_put rfl rfl rfl (q_move (v := .one (iC .i64 n1)) rfl) ?_
      refine ol_put rfl rfl rfl (q_bin rfl rfl (p_sub _ _ _ _ _ _ _) rfl) ?_
      refine ol_put rfl rfl rfl (q_fieldP rfl fa62_0 rfl) ?_
      refine ol_wr rfl rfl (q_store (es' := [[iC .i64 (IntKind.i64.wrap ((IntKind.i64.wrap (n35 - n2)) - n1)), iC .u64 n36]]) 0 rfl rfl rfl sz2 rfl rfl rfl rfl rfl) rfl ?_
      refine ol_end ?_
      refine E_seq ?_
      refine L_seq ?_
      refine L_ops ?_
      refine ol_put rfl rfl rfl (q_loadP (v := .agg [iC .i64 (IntKind.i64.wrap ((IntKind.i64.wrap (n35 - n2)) - n1)), iC .u64 n36]) 0 rfl sz62 rfl rfl rfl rfl) ?_
      refine ol_wr rfl rfl (q_store (es' := [[iC .i64 (IntKind.i64.wrap ((IntKind.i64.wrap (n35 - n2)) - n1)), iC .u64 n36]]) 2 rfl rfl rfl sz62 rfl rfl rfl rfl rfl) rfl ?_
      refine ol_end ?_
      refine E_seq ?_
      refine L_ret ?_
      obtain rfl := Option.some.inj h
      exact E_endF (.inr rfl) (res_cell (d := .agg [iC .i64 (IntKind.i64.wrap ((IntKind.i64.wrap (n35 - n2)) - n1)), iC .u64 n36]) 2 rfl sz62 rfl rfl rfl rfl res_nil) (vw_cons (vd_agg (vc_cons vc_v (vc_cons vc_v vc_nil))) vw_nil) (fun h hb => own_agg) rfl rfl
    · replace h := ifF c38 h
      refine ol_put rfl rfl rfl (q_bin rfl rfl (p_lss_f _ _ _ _ _ c38) rfl) ?_
      refine ol_end ?_
      refine E_seq ?_
      refine L_condF rfl ?_
      refine L_skip ?_
      refine E_seq ?_
      refine L_seq ?_
      refine L_ops ?_
      refine ol_put rfl rfl rfl (q_loadP (v := .agg [iC .i64 (IntKind.i64.wrap (n35 - n2)), iC .u64 n36]) 0 rfl sz62 rfl rfl rfl rfl) ?_
      refine ol_wr rfl rfl (q_store (es' := [[iC .i64 (IntKind.i64.wrap (n35 - n2)), iC .u64 n36]]) 2 rfl rfl rfl sz62 rfl rfl rfl rfl rfl) rfl ?_
      refine ol_end ?_
      refine E_seq ?_
      refine L_ret ?_
      obtain rfl := Option.some.inj h
      exact E_endF (.inr rfl) (res_cell (d := .agg [iC .i64 (IntKind.i64.wrap (n35 - n2)), iC .u64 n36]) 2 rfl sz62 rfl rfl rfl rfl res_nil) (vw_cons (vd_agg (vc_cons vc_v (vc_cons vc_v vc_nil))) vw_nil) (fun h hb => own_agg) rfl rfl
  · replace h := ifF c37 h
    refine ol_put rfl rfl rfl (q_bin rfl rfl (p_lss_f _ _ _ _ _ c37) rfl) ?_
    refine ol_end ?_
    refine E_seq ?_
    refine L_condF rfl ?_
    refine L_skip ?_
    refine E_seq ?_
    refine L_seq ?_
    refine L_seq ?_
    refine L_ops ?_
    refine ol_put rfl rfl rfl (q_move (v := .one (iC .i64 n2)) rfl) ?_
    by_cases c39 : n2 < 0
    · replace h := ifT c39 h
      refine ol_put rfl rfl rfl (q_bin rfl rfl (p_lss_t _ _ _ _ _ c39) rfl) ?_
      refine ol_end ?_
      refine E_seq ?_
      refine L_condT rfl ?_
      refine L_ops ?_
      refine ol_put rfl rfl rfl (q_fieldP rfl fa62_0 rfl) ?_
      refine ol_put rfl rfl rfl (q_loadP (v := .one (iC .i64 n35)) 0 rfl sz2 rfl rfl rfl rfl) ?_
      refine ol_put rfl rfl rfl (q_move (v := .one (iC .i64 n1)) rfl) ?_
      refine ol_put rfl rfl rfl (q_bin rfl rfl (p_sub _ _ _ _ _ _ _) rfl) ?_
      refine ol_put rfl rfl rfl (q_fieldP rfl fa62_0 rfl) ?_
      refine ol_wr rfl rfl (q_store (es' := [[iC .i64 (IntKind.i64.wrap (n35 - n1)), iC .u64 n36]]) 0 rfl rfl rfl sz2 rfl rfl rfl rfl rfl) rfl ?_
      refine ol_end ?_
      refine E_seq ?_
      refine L_seq ?_
      refine L_ops ?_
      refine ol_put rfl rfl rfl (q_loadP (v := .agg [iC .i64 (IntKind.i64.wrap (n35 - n1)), iC .u64 n36]) 0 rfl sz62 rfl rfl rfl rfl) ?_
      refine ol_wr rfl rfl (q_store (es' := [[iC .i64 (IntKind.i64.wrap (n35 - n1)), iC .u64 n36]]) 2 rfl rfl rfl sz62 rfl rfl rfl rfl rfl) rfl ?_
      refine ol_end ?_
      refine E_seq ?_
      refine L_ret ?_
      obtain rfl := Option.some.inj h
      exact E_endF (.inr rfl) (res_cell (d := .agg [iC .i64 (IntKind.i64.wrap (n35 - n1)), iC .u64 n36]) 2 rfl sz62 rfl rfl rfl rfl res_nil) (vw_cons (vd_agg (vc_cons vc_v (vc_cons vc_v vc_nil))) vw_nil) (fun h hb => own_agg) rfl rfl
    · replace h := ifF c39 h
      refine ol_put rfl rfl rfl (q_bin rfl rfl (p_lss_f _ _ _ _ _ c39) rfl) ?_
      refine ol_end ?_
      refine E_seq ?_
      refine L_condF rfl ?_
      refine L_skip ?_
      refine E_seq ?_
      refine L_seq ?_
      refine L_ops ?_
      refine ol_put rfl rfl rfl (q_loadP (v := .agg [iC .i64 n35, iC .u64 n36]) 0 rfl sz62 rfl rfl rfl rfl) ?_
      refine ol_wr rfl rfl (q_store (es' := [[iC .i64 n35, iC .u64 n36]]) 2 rfl rfl rfl sz62 rfl rfl rfl rfl rfl) rfl ?_
      refine ol_end ?_
      refine E_seq ?_
      refine L_ret ?_
      obtain rfl := Option.some.inj h
      exact E_endF (.inr rfl) (res_cell (d := .agg [iC .i64 n35, iC .u64 n36]) 2 rfl sz62 rfl rfl rfl rfl res_nil) (vw_cons (vd_agg (vc_cons vc_v (vc_cons vc_v vc_nil))) vw_nil) (fun h hb => own_agg) rfl rfl

noncomputable def ring_Mul (n1 : Int) (n2 : Int) (n3 : Int) : Option ((Int × Int)) :=
  (if n1 = 1 then (if n2 ≥ 4611686018427387904 then ((wide_Of 4611686018427387904).bind fun (n8, n9) => some (n8, n9)) else (if n3 ≥ 4611686018427387904 then ((wide_Of 4611686018427387904).bind fun (n12, n13) => some (n12, n13)) else ((wide_Of n2).bind fun (n15, n16) => ((wide_Of n3).bind fun (n18, n19) => ((wide_Add (n15, n16) (n18, n19)).bind fun (n21, n22) => ((wide_Of 4611686018427387904).bind fun (n24, n25) => ((ring_lesser (n21, n22) (n24, n25)).bind fun (n27, n28) => some (n27, n28)))))))) else (if n1 = 2 then (if n2 ≠ 0 then (if n3 ≠ 0 then ((ring_truth true).bind fun (n33, n34) => some (n33, n34)) else ((ring_truth false).bind fun (n36, n37) => some (n36, n37))) else ((ring_truth false).bind fun (n39, n40) => some (n39, n40))) else (if n1 = 4 then (if n3 ≥ 4611686018427387904 then ((wide_Of 4611686018427387904).bind fun (n44, n45) => some (n44, n45)) else (if n2 ≥ 4611686018427387904 then ((wide_Of 4611686018427387904).bind fun (n48, n49) => some (n48, n49)) else ((wide_Of n3).bind fun (n51, n52) => some (n51, n52)))) else (if n1 = 3 then (if n2 ≥ 4611686018427387904 then ((wide_Of 4611686018427387904).bind fun (n56, n57) => some (n56, n57)) else (if n3 ≥ 4611686018427387904 then ((wide_Of 4611686018427387904).bind fun (n60, n61) => some (n60, n61)) else ((wide_Of n2).bind fun (n63, n64) => some (n63, n64)))) else (if n1 = 5 then ((wide_Mul n2 n3).bind fun (n67, n68) => some (n67, n68)) else some (0, 0))))))
theorem ring_Mul_r (m : Nat) {n1 : Int} {n2 : Int} {n3 : Int} {out : (Int × Int)} (h : ring_Mul n1 n2 n3 = some out) : RunsP E1 (m + 3) 39 [.one (iT .i64 n1), .one (iT .i64 n2), .one (iT .i64 n3)] (.fresh, [.agg (r61 out)]) := by
  refine fn_F rfl (by rw [E1_fn]; exact show fiOf Tryd.prog 39 = _ by unfold fiOf; rw [Tryd.func39]; unfold Tryd.f39; rfl) rfl ?_
  dsimp only
  unfold ring_Mul at h
  refine L_seq ?_
  refine L_ops ?_
  refine ol_new rfl rfl rfl (q_alloc ty62 (row := [iC .i64 0, iC .u64 0]) rfl rfl) (fun k4 => ?_)
  refine ol_end ?_
  refine E_seq ?_
  refine L_seq ?_
  refine L_seq ?_
  refine L_ops ?_
  refine ol_put rfl rfl rfl (q_move (v := .one (iC .i64 n1)) rfl) ?_
  refine ol_end ?_
  refine E_seq ?_
  refine L_block ?_
  refine L_seq ?_
  refine L_block ?_
  refine L_seq ?_
  refine L_block ?_
  refine L_seq ?_
  refine L_block ?_
  refine L_seq ?_
  refine L_block ?_
  refine L_seq ?_
  refine L_block ?_
  refine L_seq ?_
  refine L_seq ?_
  refine L_seq ?_
  refine L_ops ?_
  by_cases c5 : n1 = 1
  · replace h := ifT c5 h
    refine ol_put rfl rfl rfl (q_bin rfl rfl (p_eql_t _ _ _ _ _ c5) rfl) ?_
    refine ol_put rfl rfl rfl (q_assign (v := .one (bC true)) rfl) ?_
    refine ol_end ?_
    refine E_seq ?_
    refine L_condT rfl ?_
    refine L_exit ?_
    refine E_seqX ?_
    refine E_seqX ?_
    refine E_blkH ?_
    refine E_seq ?_
    refine L_seq ?_
    refine L_seq ?_
    refine L_seq ?_
    refine L_ops ?_
    refine ol_put rfl rfl rfl (q_move (v := .one (iC .i64 n2)) rfl) ?_
    by_cases c6 : n2 ≥ 4611686018427387904
    · replace h := ifT c6 h
      refine ol_put rfl rfl rfl (q_bin rfl rfl (p_geq_t _ _ _ _ _ c6) rfl) ?_
      refine ol_put rfl rfl rfl (q_move (v := .one (bC true)) rfl) ?_
      refine ol_skip rfl rfl rfl ?_
      refine ol_skip rfl rfl rfl ?_
      refine ol_put rfl rfl rfl (q_pickT (v := .one (bC true)) rfl rfl) ?_
      refine ol_end ?_
      refine E_seq ?_
      refine L_condT rfl ?_
      refine L_seq ?_
      refine L_ops ?_
      obtain ⟨⟨n8, n9⟩, h7, h⟩ := bindS h
      refine ol_put rfl rfl rfl (q_callF (v := .agg [iC .i64 n8, iC .u64 n9]) (args := [.one (iC .i64 4611686018427387904)]) (wide_Of_r (m + 1) h7) rfl rfl (vw_cons (vd_one vc_v) vw_nil) rfl rfl) ?_
      refine ol_wr rfl rfl (q_store (es' := [[iC .i64 n8, iC .u64 n9]]) 0 rfl rfl rfl sz62 rfl rfl rfl rfl rfl) rfl ?_
      refine ol_end ?_
      refine E_seq ?_
      refine L_ret ?_
      refine E_seqR ?_
      refine E_seqR ?_
      refine E_blkR ?_
      refine E_seqR ?_
      refine E_blkR ?_
      refine E_seqR ?_
      refine E_blkR ?_
      refine E_seqR ?_
      refine E_blkR ?_
      refine E_seqR ?_
      refine E_blkR ?_
      refine E_seqR ?_
      obtain rfl := Option.some.inj h
      exact E_endF (.inr rfl) (res_cell (d := .agg [iC .i64 n8, iC .u64 n9]) 0 rfl sz62 rfl rfl rfl rfl res_nil) (vw_cons (vd_agg (vc_cons vc_v (vc_cons vc_v vc_nil))) vw_nil) (fun h hb => own_agg) rfl rfl
    · replace h := ifF c6 h
      refine ol_put rfl rfl rfl (q_bin rfl rfl (p_geq_f _ _ _ _ _ c6) rfl) ?_
      refine ol_put rfl rfl rfl (q_move (v := .one (bC false)) rfl) ?_
      refine ol_put rfl rfl rfl (q_move (v := .one (iC .i64 n3)) rfl) ?_
      by_cases c10 : n3 ≥ 4611686018427387904
      · replace h := ifT c10 h
        refine ol_put rfl rfl rfl (q_bin rfl rfl (p_geq_t _ _ _ _ _ c10) rfl) ?_
        refine ol_put rfl rfl rfl (q_pickF (v := .one (bC true)) rfl rfl) ?_
        refine ol_end ?_
        refine E_seq ?_
        refine L_condT rfl ?_
        refine L_seq ?_
        refine L_ops ?_
        obtain ⟨⟨n12, n13⟩, h11, h⟩ := bindS h
        refine ol_put rfl rfl rfl (q_callF (v := .agg [iC .i64 n12, iC .u64 n13]) (args := [.one (iC .i64 4611686018427387904)]) (wide_Of_r (m + 1) h11) rfl rfl (vw_cons (vd_one vc_v) vw_nil) rfl rfl) ?_
        refine ol_wr rfl rfl (q_store (es' := [[iC .i64 n12, iC .u64 n13]]) 0 rfl rfl rfl sz62 rfl rfl rfl rfl rfl) rfl ?_
        refine ol_end ?_
        refine E_seq ?_
        refine L_ret ?_
        refine E_seqR ?_
        refine E_seqR ?_
        refine E_blkR ?_
        refine E_seqR ?_
        refine E_blkR ?_
        refine E_seqR ?_
        refine E_blkR ?_
        refine E_seqR ?_
        refine E_blkR ?_
        refine E_seqR ?_
        refine E_blkR ?_
        refine E_seqR ?_
        obtain rfl := Option.some.inj h
        exact E_endF (.inr rfl) (res_cell (d := .agg [iC .i64 n12, iC .u64 n13]) 0 rfl sz62 rfl rfl rfl rfl res_nil) (vw_cons (vd_agg (vc_cons vc_v (vc_cons vc_v vc_nil))) vw_nil) (fun h hb => own_agg) rfl rfl
      · replace h := ifF c10 h
        refine ol_put rfl rfl rfl (q_bin rfl rfl (p_geq_f _ _ _ _ _ c10) rfl) ?_
        refine ol_put rfl rfl rfl (q_pickF (v := .one (bC false)) rfl rfl) ?_
        refine ol_end ?_
        refine E_seq ?_
        refine L_condF rfl ?_
        refine L_skip ?_
        refine E_seq ?_
        refine L_seq ?_
        refine L_ops ?_
        refine ol_put rfl rfl rfl (q_move (v := .one (iC .i64 n2)) rfl) ?_
        obtain ⟨⟨n15, n16⟩, h14, h⟩ := bindS h
        refine ol_put rfl rfl rfl (q_callF (v := .agg [iC .i64 n15, iC .u64 n16]) (args := [.one (iC .i64 n2)]) (wide_Of_r (m + 1) h14) rfl rfl (vw_cons (vd_one vc_v) vw_nil) rfl rfl) ?_
        refine ol_put rfl rfl rfl (q_move (v := .one (iC .i64 n3)) rfl) ?_
        obtain ⟨⟨n18, n19⟩, h17, h⟩ := bindS h
        refine ol_put rfl rfl rfl (q_callF (v := .agg [iC .i64 n18, iC .u64 n19]) (args := [.one (iC .i64 n3)]) (wide_Of_r (m + 1) h17) rfl rfl (vw_cons (vd_one vc_v) vw_nil) rfl rfl) ?_
        obtain ⟨⟨n21, n22⟩, h20, h⟩ := bindS h
        refine ol_put rfl rfl rfl (q_callF (v := .agg [iC .i64 n21, iC .u64 n22]) (args := [.agg [iC .i64 n15, iC .u64 n16], .agg [iC .i64 n18, iC .u64 n19]]) (wide_Add_r (m + 1) h20) rfl rfl (vw_cons (vd_agg (vc_cons vc_v (vc_cons vc_v vc_nil))) (vw_cons (vd_agg (vc_cons vc_v (vc_cons vc_v vc_nil))) vw_nil)) rfl rfl) ?_
        obtain ⟨⟨n24, n25⟩, h23, h⟩ := bindS h
        refine ol_put rfl rfl rfl (q_callF (v := .agg [iC .i64 n24, iC .u64 n25]) (args := [.one (iC .i64 4611686018427387904)]) (wide_Of_r (m + 1) h23) rfl rfl (vw_cons (vd_one vc_v) vw_nil) rfl rfl) ?_
        obtain ⟨⟨n27, n28⟩, h26, h⟩ := bindS h
        refine ol_put rfl rfl rfl (q_callF (v := .agg [iC .i64 n27, iC .u64 n28]) (args := [.agg [iC .i64 n21, iC .u64 n22], .agg [iC .i64 n24, iC .u64 n25]]) (ring_lesser_r (m + 0) h26) rfl rfl (vw_cons (vd_agg (vc_cons vc_v (vc_cons vc_v vc_nil))) (vw_cons (vd_agg (vc_cons vc_v (vc_cons vc_v vc_nil))) vw_nil)) rfl rfl) ?_
        refine ol_wr rfl rfl (q_store (es' := [[iC .i64 n27, iC .u64 n28]]) 0 rfl rfl rfl sz62 rfl rfl rfl rfl rfl) rfl ?_
        refine ol_end ?_
        refine E_seq ?_
        refine L_ret ?_
        refine E_seqR ?_
        refine E_blkR ?_
        refine E_seqR ?_
        refine E_blkR ?_
        refine E_seqR ?_
        refine E_blkR ?_
        refine E_seqR ?_
        refine E_blkR ?_
        refine E_seqR ?_
        refine E_blkR ?_
        refine E_seqR ?_
        obtain rfl := Option.some.inj h
        exact E_endF (.inr rfl) (res_cell (d := .agg [iC .i64 n27, iC .u64 n28]) 0 rfl sz62 rfl rfl rfl rfl res_nil) (vw_cons (vd_agg (vc_cons vc_v (vc_cons vc_v vc_nil))) vw_nil) (fun h hb => own_agg) rfl rfl
  · replace h := ifF c5 h
    refine ol_put rfl rfl rfl (q_bin rfl rfl (p_eql_f _ _ _ _ _ c5) rfl) ?_
    refine ol_put rfl rfl rfl (q_assign (v := .one (bC false)) rfl) ?_
    refine ol_end ?_
    refine E_seq ?_
    refine L_condF rfl ?_
    refine L_skip ?_
    refine E_seq ?_
    refine L_seq ?_
    refine L_seq ?_
    refine L_ops ?_
    by_cases c29 : n1 = 2
    · replace h := ifT c29 h
      refine ol_put rfl rfl rfl (q_bin rfl rfl (p_eql_t _ _ _ _ _ c29) rfl) ?_
      refine ol_put rfl rfl rfl (q_assign (v := .one (bC true)) rfl) ?_
      refine ol_end ?_
      refine E_seq ?_
      refine L_condT rfl ?_
      refine L_exit ?_
      refine E_seqX ?_
      refine E_seqX ?_
      refine E_blkX rfl ?_
      refine E_seqX ?_
      refine E_blkH ?_
      refine E_seq ?_
      refine L_seq ?_
      refine L_seq ?_
      refine L_ops ?_
      refine ol_put rfl rfl rfl (q_move (v := .one (iC .i64 n2)) rfl) ?_
      by_cases c30 : n2 ≠ 0
      · replace h := ifT c30 h
        refine ol_put rfl rfl rfl (q_bin rfl rfl (p_neq_t _ _ _ _ _ c30) rfl) ?_
        refine ol_put rfl rfl rfl (q_move (v := .one (bC true)) rfl) ?_
        refine ol_put rfl rfl rfl (q_move (v := .one (iC .i64 n3)) rfl) ?_
        by_cases c31 : n3 ≠ 0
        · replace h := ifT c31 h
          refine ol_put rfl rfl rfl (q_bin rfl rfl (p_neq_t _ _ _ _ _ c31) rfl) ?_
          refine ol_put rfl rfl rfl (q_pickT (v := .one (bC true)) rfl rfl) ?_
          obtain ⟨⟨n33, n34⟩, h32, h⟩ := bindS h
          refine ol_put rfl rfl rfl (q_callF (v := .agg [iC .i64 n33, iC .u64 n34]) (args := [.one (bC true)]) (ring_truth_r (m + 0) h32) rfl rfl (vw_cons (vd_one vc_v) vw_nil) rfl rfl) ?_
          refine ol_wr rfl rfl (q_store (es' := [[iC .i64 n33, iC .u64 n34]]) 0 rfl rfl rfl sz62 rfl rfl rfl rfl rfl) rfl ?_
          refine ol_end ?_
          refine E_seq ?_
          refine L_ret ?_
          refine E_seqR ?_
          refine E_blkR ?_
          refine E_seqR ?_
          refine E_blkR ?_
          refine E_seqR ?_
          refine E_blkR ?_
          refine E_seqR ?_
          refine E_blkR ?_
          refine E_seqR ?_
          obtain rfl := Option.some.inj h
          exact E_endF (.inr rfl) (res_cell (d := .agg [iC .i64 n33, iC .u64 n34]) 0 rfl sz62 rfl rfl rfl rfl res_nil) (vw_cons (vd_agg (vc_cons vc_v (vc_cons vc_v vc_nil))) vw_nil) (fun h hb => own_agg) rfl rfl
        · replace h := ifF c31 h
          refine ol_put rfl rfl rfl (q_bin rfl rfl (p_neq_f _ _ _ _ _ c31) rfl) ?_
          refine ol_put rfl rfl rfl (q_pickT (v := .one (bC false)) rfl rfl) ?_
          obtain ⟨⟨n36, n37⟩, h35, h⟩ := bindS h
          refine ol_put rfl rfl rfl (q_callF (v := .agg [iC .i64 n36, iC .u64 n37]) (args := [.one (bC false)]) (ring_truth_r (m + 0) h35) rfl rfl (vw_cons (vd_one vc_v) vw_nil) rfl rfl) ?_
          refine ol_wr rfl rfl (q_store (es' := [[iC .i64 n36, iC .u64 n37]]) 0 rfl rfl rfl sz62 rfl rfl rfl rfl rfl) rfl ?_
          refine ol_end ?_
          refine E_seq ?_
          refine L_ret ?_
          refine E_seqR ?_
          refine E_blkR ?_
          refine E_seqR ?_
          refine E_blkR ?_
          refine E_seqR ?_
          refine E_blkR ?_
          refine E_seqR ?_
          refine E_blkR ?_
          refine E_seqR ?_
          obtain rfl := Option.some.inj h
          exact E_endF (.inr rfl) (res_cell (d := .agg [iC .i64 n36, iC .u64 n37]) 0 rfl sz62 rfl rfl rfl rfl res_nil) (vw_cons (vd_agg (vc_cons vc_v (vc_cons vc_v vc_nil))) vw_nil) (fun h hb => own_agg) rfl rfl
      · replace h := ifF c30 h
        refine ol_put rfl rfl rfl (q_bin rfl rfl (p_neq_f _ _ _ _ _ c30) rfl) ?_
        refine ol_put rfl rfl rfl (q_move (v := .one (bC false)) rfl) ?_
        refine ol_skip rfl rfl rfl ?_
        refine ol_skip rfl rfl rfl ?_
        refine ol_put rfl rfl rfl (q_pickF (v := .one (bC false)) rfl rfl) ?_
        obtain ⟨⟨n39, n40⟩, h38, h⟩ := bindS h
        refine ol_put rfl rfl rfl (q_callF (v := .agg [iC .i64 n39, iC .u64 n40]) (args := [.one (bC false)]) (ring_truth_r (m + 0) h38) rfl rfl (vw_cons (vd_one vc_v) vw_nil) rfl rfl) ?_
        refine ol_wr rfl rfl (q_store (es' := [[iC .i64 n39, iC .u64 n40]]) 0 rfl rfl rfl sz62 rfl rfl rfl rfl rfl) rfl ?_
        refine ol_end ?_
        refine E_seq ?_
        refine L_ret ?_
        refine E_seqR ?_
        refine E_blkR ?_
        refine E_seqR ?_
        refine E_blkR ?_
        refine E_seqR ?_
        refine E_blkR ?_
        refine E_seqR ?_
        refine E_blkR ?_
        refine E_seqR ?_
        obtain rfl := Option.some.inj h
        exact E_endF (.inr rfl) (res_cell (d := .agg [iC .i64 n39, iC .u64 n40]) 0 rfl sz62 rfl rfl rfl rfl res_nil) (vw_cons (vd_agg (vc_cons vc_v (vc_cons vc_v vc_nil))) vw_nil) (fun h hb => own_agg) rfl rfl
    · replace h := ifF c29 h
      refine ol_put rfl rfl rfl (q_bin rfl rfl (p_eql_f _ _ _ _ _ c29) rfl) ?_
      refine ol_put rfl rfl rfl (q_assign (v := .one (bC false)) rfl) ?_
      refine ol_end ?_
      refine E_seq ?_
      refine L_condF rfl ?_
      refine L_skip ?_
      refine E_seq ?_
      refine L_seq ?_
      refine L_seq ?_
      refine L_ops ?_
      by_cases c41 : n1 = 4
      · replace h := ifT c41 h
        refine ol_put rfl rfl rfl (q_bin rfl rfl (p_eql_t _ _ _ _ _ c41) rfl) ?_
        refine ol_put rfl rfl rfl (q_assign (v := .one (bC true)) rfl) ?_
        refine ol_end ?_
        refine E_seq ?_
        refine L_condT rfl ?_
        refine L_exit ?_
        refine E_seqX ?_
        refine E_seqX ?_
        refine E_blkX rfl ?_
        refine E_seqX ?_
        refine E_blkX rfl ?_
        refine E_seqX ?_
        refine E_blkH ?_
        refine E_seq ?_
        refine L_ops ?_
        refine ol_put rfl rfl rfl (q_move (v := .one (iC .i64 n3)) rfl) ?_
        refine ol_put rfl rfl rfl (q_move (v := .one (iC .i64 n2)) rfl) ?_
        refine ol_put rfl rfl rfl (q_assign (v := .one (iC .i64 n3)) rfl) ?_
        refine ol_put rfl rfl rfl (q_assign (v := .one (iC .i64 n2)) rfl) ?_
        refine ol_end ?_
        refine E_blkN ?_
        refine E_seq ?_
        refine L_seq ?_
        refine L_seq ?_
        refine L_seq ?_
        refine L_ops ?_
        refine ol_put rfl rfl rfl (q_move (v := .one (iC .i64 n3)) rfl) ?_
        by_cases c42 : n3 ≥ 4611686018427387904
        · replace h := ifT c42 h
          refine ol_put rfl rfl rfl (q_bin rfl rfl (p_geq_t _ _ _ _ _ c42) rfl) ?_
          refine ol_put rfl rfl rfl (q_move (v := .one (bC true)) rfl) ?_
          refine ol_skip rfl rfl rfl ?_
          refine ol_skip rfl rfl rfl ?_
          refine ol_put rfl rfl rfl (q_pickT (v := .one (bC true)) rfl rfl) ?_
          refine ol_end ?_
          refine E_seq ?_
          refine L_condT rfl ?_
          refine L_seq ?_
          refine L_ops ?_
          obtain ⟨⟨n44, n45⟩, h43, h⟩ := bindS h
          refine ol_put rfl rfl rfl (q_callF (v := .agg [iC .i64 n44, iC .u64 n45]) (args := [.one (iC .i64 4611686018427387904)]) (wide_Of_r (m + 1) h43) rfl rfl (vw_cons (vd_one vc_v) vw_nil) rfl rfl) ?_
          refine ol_wr rfl rfl (q_store (es' := [[iC .i64 n44, iC .u64 n45]]) 0 rfl rfl rfl sz62 rfl rfl rfl rfl rfl) rfl ?_
          refine ol_end ?_
          refine E_seq ?_
          refine L_ret ?_
          refine E_seqR ?_
          refine E_seqR ?_
          refine E_blkR ?_
          refine E_seqR ?_
          refine E_blkR ?_
          refine E_seqR ?_
          obtain rfl := Option.some.inj h
          exact E_endF (.inr rfl) (res_cell (d := .agg [iC .i64 n44, iC .u64 n45]) 0 rfl sz62 rfl rfl rfl rfl res_nil) (vw_cons (vd_agg (vc_cons vc_v (vc_cons vc_v vc_nil))) vw_nil) (fun h hb => own_agg) rfl rfl
        · replace h := ifF c42 h
          refine ol_put rfl rfl rfl (q_bin rfl rfl (p_geq_f _ _ _ _ _ c42) rfl) ?_
          refine ol_put rfl rfl rfl (q_move (v := .one (bC false)) rfl) ?_
          refine ol_put rfl rfl rfl (q_move (v := .one (iC .i64 n2)) rfl) ?_
          by_cases c46 : n2 ≥ 4611686018427387904
          · replace h := ifT c46 h
            refine ol_put rfl rfl rfl (q_bin rfl rfl (p_geq_t _ _ _ _ _ c46) rfl) ?_
            refine ol_put rfl rfl rfl (q_pickF (v := .one (bC true)) rfl rfl) ?_
            refine ol_end ?_
            refine E_seq ?_
            refine L_condT rfl ?_
            refine L_seq ?_
            refine L_ops ?_
            obtain ⟨⟨n48, n49⟩, h47, h⟩ := bindS h
            refine ol_put rfl rfl rfl (q_callF (v := .agg [iC .i64 n48, iC .u64 n49]) (args := [.one (iC .i64 4611686018427387904)]) (wide_Of_r (m + 1) h47) rfl rfl (vw_cons (vd_one vc_v) vw_nil) rfl rfl) ?_
            refine ol_wr rfl rfl (q_store (es' := [[iC .i64 n48, iC .u64 n49]]) 0 rfl rfl rfl sz62 rfl rfl rfl rfl rfl) rfl ?_
            refine ol_end ?_
            refine E_seq ?_
            refine L_ret ?_
            refine E_seqR ?_
            refine E_seqR ?_
            refine E_blkR ?_
            refine E_seqR ?_
            refine E_blkR ?_
            refine E_seqR ?_
            obtain rfl := Option.some.inj h
            exact E_endF (.inr rfl) (res_cell (d := .agg [iC .i64 n48, iC .u64 n49]) 0 rfl sz62 rfl rfl rfl rfl res_nil) (vw_cons (vd_agg (vc_cons vc_v (vc_cons vc_v vc_nil))) vw_nil) (fun h hb => own_agg) rfl rfl
          · replace h := ifF c46 h
            refine ol_put rfl rfl rfl (q_bin rfl rfl (p_geq_f _ _ _ _ _ c46) rfl) ?_
            refine ol_put rfl rfl rfl (q_pickF (v := .one (bC false)) rfl rfl) ?_
            refine ol_end ?_
            refine E_seq ?_
            refine L_condF rfl ?_
            refine L_skip ?_
            refine E_seq ?_
            refine L_seq ?_
            refine L_ops ?_
            refine ol_put rfl rfl rfl (q_move (v := .one (iC .i64 n3)) rfl) ?_
            obtain ⟨⟨n51, n52⟩, h50, h⟩ := bindS h
            refine ol_put rfl rfl rfl (q_callF (v := .agg [iC .i64 n51, iC .u64 n52]) (args := [.one (iC .i64 n3)]) (wide_Of_r (m + 1) h50) rfl rfl (vw_cons (vd_one vc_v) vw_nil) rfl rfl) ?_
            refine ol_wr rfl rfl (q_store (es' := [[iC .i64 n51, iC .u64 n52]]) 0 rfl rfl rfl sz62 rfl rfl rfl rfl rfl) rfl ?_
            refine ol_end ?_
            refine E_seq ?_
            refine L_ret ?_
            refine E_seqR ?_
            refine E_blkR ?_
            refine E_seqR ?_
            refine E_blkR ?_
            refine E_seqR ?_
            obtain rfl := Option.some.inj h
            exact E_endF (.inr rfl) (res_cell (d := .agg [iC .i64 n51, iC .u64 n52]) 0 rfl sz62 rfl rfl rfl rfl res_nil) (vw_cons (vd_agg (vc_cons vc_v (vc_cons vc_v vc_nil))) vw_nil) (fun h hb => own_agg) rfl rfl
      · replace h := ifF c41 h
        refine ol_put rfl rfl rfl (q_bin rfl rfl (p_eql_f _ _ _ _ _ c41) rfl) ?_
        refine ol_put rfl rfl rfl (q_assign (v := .one (bC false)) rfl) ?_
        refine ol_end ?_
        refine E_seq ?_
        refine L_condF rfl ?_
        refine L_skip ?_
        refine E_seq ?_
        refine L_seq ?_
        refine L_seq ?_
        refine L_ops ?_
        by_cases c53 : n1 = 3
        · replace h := ifT c53 h
          refine ol_put rfl rfl rfl (q_bin rfl rfl (p_eql_t _ _ _ _ _ c53) rfl) ?_
          refine ol_put rfl rfl rfl (q_assign (v := .one (bC true)) rfl) ?_
          refine ol_end ?_
          refine E_seq ?_
          refine L_condT rfl ?_
          refine L_exit ?_
          refine E_seqX ?_
          refine E_seqX ?_
          refine E_blkX rfl ?_
          refine E_seqX ?_
          refine E_blkX rfl ?_
          refine E_seqX ?_
          refine E_blkX rfl ?_
          refine E_seqX ?_
          refine E_blkH ?_
          refine E_seq ?_
          refine L_seq ?_
          refine L_seq ?_
          refine L_seq ?_
          refine L_ops ?_
          refine ol_put rfl rfl rfl (q_move (v := .one (iC .i64 n2)) rfl) ?_
          by_cases c54 : n2 ≥ 4611686018427387904
          · replace h := ifT c54 h
            refine ol_put rfl rfl rfl (q_bin rfl rfl (p_geq_t _ _ _ _ _ c54) rfl) ?_
            refine ol_put rfl rfl rfl (q_move (v := .one (bC true)) rfl) ?_
            refine ol_skip rfl rfl rfl ?_
            refine ol_skip rfl rfl rfl ?_
            refine ol_put rfl rfl rfl (q_pickT (v := .one (bC true)) rfl rfl) ?_
            refine ol_end ?_
            refine E_seq ?_
            refine L_condT rfl ?_
            refine L_seq ?_
            refine L_ops ?_
            obtain ⟨⟨n56, n57⟩, h55, h⟩ := bindS h
            refine ol_put rfl rfl rfl (q_callF (v := .agg [iC .i64 n56, iC .u64 n57]) (args := [.one (iC .i64 4611686018427387904)]) (wide_Of_r (m + 1) h55) rfl rfl (vw_cons (vd_one vc_v) vw_nil) rfl rfl) ?_
            refine ol_wr rfl rfl (q_store (es' := [[iC .i64 n56, iC .u64 n57]]) 0 rfl rfl rfl sz62 rfl rfl rfl rfl rfl) rfl ?_
            refine ol_end ?_
            refine E_seq ?_
            refine L_ret ?_
            refine E_seqR ?_
            refine E_seqR ?_
            refine E_blkR ?_
            refine E_seqR ?_
            refine E_blkR ?_
            refine E_seqR ?_
            obtain rfl := Option.some.inj h
            exact E_endF (.inr rfl) (res_cell (d := .agg [iC .i64 n56, iC .u64 n57]) 0 rfl sz62 rfl rfl rfl rfl res_nil) (vw_cons (vd_agg (vc_cons vc_v (vc_cons vc_v vc_nil))) vw_nil) (fun h hb => own_agg) rfl rfl
          · replace h := ifF c54 h
            refine ol_put rfl rfl rfl (q_bin rfl rfl (p_geq_f _ _ _ _ _ c54) rfl) ?_
            refine ol_put rfl rfl rfl (q_move (v := .one (bC false)) rfl) ?_
            refine ol_put rfl rfl rfl (q_move (v := .one (iC .i64 n3)) rfl) ?_
            by_cases c58 : n3 ≥ 4611686018427387904
            · replace h := ifT c58 h
              refine ol_put rfl rfl rfl (q_bin rfl rfl (p_geq_t _ _ _ _ _ c58) rfl) ?_
              refine ol_put rfl rfl rfl (q_pickF (v := .one (bC true)) rfl rfl) ?_
              refine ol_end ?_
              refine E_seq ?_
              refine L_condT rfl ?_
              refine L_seq ?_
              refine L_ops ?_
              obtain ⟨⟨n60, n61⟩, h59, h⟩ := bindS h
              refine ol_put rfl rfl rfl (q_callF (v := .agg [iC .i64 n60, iC .u64 n61]) (args := [.one (iC .i64 4611686018427387904)]) (wide_Of_r (m + 1) h59) rfl rfl (vw_cons (vd_one vc_v) vw_nil) rfl rfl) ?_
              refine ol_wr rfl rfl (q_store (es' := [[iC .i64 n60, iC .u64 n61]]) 0 rfl rfl rfl sz62 rfl rfl rfl rfl rfl) rfl ?_
              refine ol_end ?_
              refine E_seq ?_
              refine L_ret ?_
              refine E_seqR ?_
              refine E_seqR ?_
              refine E_blkR ?_
              refine E_seqR ?_
              refine E_blkR ?_
              refine E_seqR ?_
              obtain rfl := Option.some.inj h
              exact E_endF (.inr rfl) (res_cell (d := .agg [iC .i64 n60, iC .u64 n61]) 0 rfl sz62 rfl rfl rfl rfl res_nil) (vw_cons (vd_agg (vc_cons vc_v (vc_cons vc_v vc_nil))) vw_nil) (fun h hb => own_agg) rfl rfl
            · replace h := ifF c58 h
              refine ol_put rfl rfl rfl (q_bin rfl rfl (p_geq_f _ _ _ _ _ c58) rfl) ?_
              refine ol_put rfl rfl rfl (q_pickF (v := .one (bC false)) rfl rfl) ?_
              refine ol_end ?_
              refine E_seq ?_
              refine L_condF rfl ?_
              refine L_skip ?_
              refine E_seq ?_
              refine L_seq ?_
              refine L_ops ?_
              refine ol_put rfl rfl rfl (q_move (v := .one (iC .i64 n2)) rfl) ?_
              obtain ⟨⟨n63, n64⟩, h62, h⟩ := bindS h
              refine ol_put rfl rfl rfl (q_callF (v := .agg [iC .i64 n63, iC .u64 n64]) (args := [.one (iC .i64 n2)]) (wide_Of_r (m + 1) h62) rfl rfl (vw_cons (vd_one vc_v) vw_nil) rfl rfl) ?_
              refine ol_wr rfl rfl (q_store (es' := [[iC .i64 n63, iC .u64 n64]]) 0 rfl rfl rfl sz62 rfl rfl rfl rfl rfl) rfl ?_
              refine ol_end ?_
              refine E_seq ?_
              refine L_ret ?_
              refine E_seqR ?_
              refine E_blkR ?_
              refine E_seqR ?_
              refine E_blkR ?_
              refine E_seqR ?_
              obtain rfl := Option.some.inj h
              exact E_endF (.inr rfl) (res_cell (d := .agg [iC .i64 n63, iC .u64 n64]) 0 rfl sz62 rfl rfl rfl rfl res_nil) (vw_cons (vd_agg (vc_cons vc_v (vc_cons vc_v vc_nil))) vw_nil) (fun h hb => own_agg) rfl rfl
        · replace h := ifF c53 h
          refine ol_put rfl rfl rfl (q_bin rfl rfl (p_eql_f _ _ _ _ _ c53) rfl) ?_
          refine ol_put rfl rfl rfl (q_assign (v := .one (bC false)) rfl) ?_
          refine ol_end ?_
          refine E_seq ?_
          refine L_condF rfl ?_
          refine L_skip ?_
          refine E_seq ?_
          refine L_seq ?_
          refine L_ops ?_
          by_cases c65 : n1 = 5
          · replace h := ifT c65 h
            refine ol_put rfl rfl rfl (q_bin rfl rfl (p_eql_t _ _ _ _ _ c65) rfl) ?_
            refine ol_put rfl rfl rfl (q_assign (v := .one (bC true)) rfl) ?_
            refine ol_end ?_
            refine E_seq ?_
            refine L_condT rfl ?_
            refine L_exit ?_
            refine E_seqX ?_
            refine E_blkX rfl ?_
            refine E_seqX ?_
            refine E_blkX rfl ?_
            refine E_seqX ?_
            refine E_blkX rfl ?_
            refine E_seqX ?_
            refine E_blkX rfl ?_
            refine E_seqX ?_
            refine E_blkH ?_
            refine E_seq ?_
            refine L_seq ?_
            refine L_seq ?_
            refine L_ops ?_
            refine ol_put rfl rfl rfl (q_move (v := .one (iC .i64 n2)) rfl) ?_
            refine ol_put rfl rfl rfl (q_move (v := .one (iC .i64 n3)) rfl) ?_
            obtain ⟨⟨n67, n68⟩, h66, h⟩ := bindS h
            refine ol_put rfl rfl rfl (q_callF (v := .agg [iC .i64 n67, iC .u64 n68]) (args := [.one (iC .i64 n2), .one (iC .i64 n3)]) (wide_Mul_r (m + 0) h66) rfl rfl (vw_cons (vd_one vc_v) (vw_cons (vd_one vc_v) vw_nil)) rfl rfl) ?_
            refine ol_wr rfl rfl (q_store (es' := [[iC .i64 n67, iC .u64 n68]]) 0 rfl rfl rfl sz62 rfl rfl rfl rfl rfl) rfl ?_
            refine ol_end ?_
            refine E_seq ?_
            refine L_ret ?_
            refine E_seqR ?_
            refine E_blkR ?_
            refine E_seqR ?_
            obtain rfl := Option.some.inj h
            exact E_endF (.inr rfl) (res_cell (d := .agg [iC .i64 n67, iC .u64 n68]) 0 rfl sz62 rfl rfl rfl rfl res_nil) (vw_cons (vd_agg (vc_cons vc_v (vc_cons vc_v vc_nil))) vw_nil) (fun h hb => own_agg) rfl rfl
          · replace h := ifF c65 h
            refine ol_put rfl rfl rfl (q_bin rfl rfl (p_eql_f _ _ _ _ _ c65) rfl) ?_
            refine ol_put rfl rfl rfl (q_assign (v := .one (bC false)) rfl) ?_
            refine ol_end ?_
            refine E_seq ?_
            refine L_condF rfl ?_
            refine L_skip ?_
            refine E_seq ?_
            refine L_exit ?_
            refine E_blkX rfl ?_
            refine E_seqX ?_
            refine E_blkX rfl ?_
            refine E_seqX ?_
            refine E_blkX rfl ?_
            refine E_seqX ?_
            refine E_blkX rfl ?_
            refine E_seqX ?_
            refine E_blkX rfl ?_
            refine E_seqX ?_
            refine E_blkH ?_
            refine E_seq ?_
            refine L_seq ?_
            refine L_ops ?_
            refine ol_put rfl rfl rfl (q_build (cs := [iC .i64 0, iC .u64 0]) ty62 rfl pl62 rfl) ?_
            refine ol_wr rfl rfl (q_store (es' := [[iC .i64 0, iC .u64 0]]) 0 rfl rfl rfl sz62 rfl rfl rfl rfl rfl) rfl ?_
            refine ol_end ?_
            refine E_seq ?_
            refine L_ret ?_
            obtain rfl := Option.some.inj h
            exact E_endF (.inr rfl) (res_cell (d := .agg [iC .i64 0, iC .u64 0]) 0 rfl sz62 rfl rfl rfl rfl res_nil) (vw_cons (vd_agg (vc_cons vc_v (vc_cons vc_v vc_nil))) vw_nil) (fun h hb => own_agg) rfl rfl

noncomputable def ring_Add (n1 : Int) (a1 : Int × Int) (a2 : Int × Int) : Option ((Int × Int)) :=
  match a1, a2 with
  | (n2, n3), (n4, n5) => (if n1 = 1 then ((ring_lesser (n2, n3) (n4, n5)).bind fun (n11, n12) => some (n11, n12)) else (if n1 = 3 then ((ring_lesser (n2, n3) (n4, n5)).bind fun (n15, n16) => some (n15, n16)) else (if n1 = 4 then ((ring_lesser (n2, n3) (n4, n5)).bind fun (n19, n20) => some (n19, n20)) else (if n1 = 2 then (if n2 = 0 ∧ n3 = 0 then (if n4 = 0 ∧ n5 = 0 then ((ring_truth false).bind fun (n25, n26) => some (n25, n26)) else ((ring_truth true).bind fun (n28, n29) => some (n28, n29))) else ((ring_truth true).bind fun (n31, n32) => some (n31, n32))) else (if n1 = 5 then ((wide_Add (n2, n3) (n4, n5)).bind fun (n35, n36) => some (n35, n36)) else some (0, 0))))))
theorem ring_Add_r (m : Nat) {n1 : Int} {a1 : Int × Int} {a2 : Int × Int} {out : (Int × Int)} (h : ring_Add n1 a1 a2 = some out) : RunsP E1 (m + 3) 40 [.one (iT .i64 n1), .agg (r61 a1), .agg (r61 a2)] (.fresh, [.agg (r61 out)]) := by
  obtain ⟨n2, n3⟩ := a1
  obtain ⟨n4, n5⟩ := a2
  refine fn_F rfl (by rw [E1_fn]; exact show fiOf Tryd.prog 40 = _ by unfold fiOf; rw [Tryd.func40]; unfold Tryd.f40; rfl) rfl ?_
  dsimp only
  unfold ring_Add at h
  refine L_seq ?_
  refine L_ops ?_
  refine ol_new rfl rfl rfl (q_box ty62 rfl (cs := [iC .i64 n2, iC .u64 n3]) rfl rfl) (fun k6 => ?_)
  refine ol_new rfl rfl rfl (q_box ty62 rfl (cs := [iC .i64 n4, iC .u64 n5]) rfl rfl) (fun k7 => ?_)
  refine ol_new rfl rfl rfl (q_alloc ty62 (row := [iC .i64 0, iC .u64 0]) rfl rfl) (fun k8 => ?_)
  refine ol_end ?_
  refine E_seq ?_
  refine L_seq ?_
  refine L_seq ?_
  refine L_ops ?_
  refine ol_put rfl rfl rfl (q_move (v := .one (iC .i64 n1)) rfl) ?_
  refine ol_end ?_
  refine E_seq ?_
  refine L_block ?_
  refine L_seq ?_
  refine L_seq ?_
  refine L_ops ?_
  by_cases c9 : n1 = 1
  · replace h := ifT c9 h
    refine ol_put rfl rfl rfl (q_bin rfl rfl (p_eql_t _ _ _ _ _ c9) rfl) ?_
    refine ol_put rfl rfl rfl (q_assign (v := .one (bC true)) rfl) ?_
    refine ol_end ?_
    refine E_seq ?_
    refine L_condT rfl ?_
    refine L_skip ?_
    refine E_seq ?_
    refine L_condT rfl ?_
    refine L_seq ?_
    refine L_ops ?_
    refine ol_put rfl rfl rfl (q_loadP (v := .agg [iC .i64 n2, iC .u64 n3]) 2 rfl sz62 rfl rfl rfl rfl) ?_
    refine ol_put rfl rfl rfl (q_loadP (v := .agg [iC .i64 n4, iC .u64 n5]) 1 rfl sz62 rfl rfl rfl rfl) ?_
    obtain ⟨⟨n11, n12⟩, h10, h⟩ := bindS h
    refine ol_put rfl rfl rfl (q_callF (v := .agg [iC .i64 n11, iC .u64 n12]) (args := [.agg [iC .i64 n2, iC .u64 n3], .agg [iC .i64 n4, iC .u64 n5]]) (ring_lesser_r (m + 0) h10) rfl rfl (vw_cons (vd_agg (vc_cons vc_v (vc_cons vc_v vc_nil))) (vw_cons (vd_agg (vc_cons vc_v (vc_cons vc_v vc_nil))) vw_nil)) rfl rfl) ?_
    refine ol_wr rfl rfl (q_store (es' := [[iC .i64 n11, iC .u64 n12]]) 0 rfl rfl rfl sz62 rfl rfl rfl rfl rfl) rfl ?_
    refine ol_end ?_
    refine E_seq ?_
    refine L_ret ?_
    refine E_blkR ?_
    refine E_seqR ?_
    obtain rfl := Option.some.inj h
    exact E_endF (.inr rfl) (res_cell (d := .agg [iC .i64 n11, iC .u64 n12]) 0 rfl sz62 rfl rfl rfl rfl res_nil) (vw_cons (vd_agg (vc_cons vc_v (vc_cons vc_v vc_nil))) vw_nil) (fun h hb => own_agg) rfl rfl
  · replace h := ifF c9 h
    refine ol_put rfl rfl rfl (q_bin rfl rfl (p_eql_f _ _ _ _ _ c9) rfl) ?_
    refine ol_put rfl rfl rfl (q_assign (v := .one (bC false)) rfl) ?_
    refine ol_end ?_
    refine E_seq ?_
    refine L_condF rfl ?_
    refine L_seq ?_
    refine L_ops ?_
    by_cases c13 : n1 = 3
    · replace h := ifT c13 h
      refine ol_put rfl rfl rfl (q_bin rfl rfl (p_eql_t _ _ _ _ _ c13) rfl) ?_
      refine ol_put rfl rfl rfl (q_assign (v := .one (bC true)) rfl) ?_
      refine ol_end ?_
      refine E_seq ?_
      refine L_condT rfl ?_
      refine L_skip ?_
      refine E_seq ?_
      refine L_condT rfl ?_
      refine L_seq ?_
      refine L_ops ?_
      refine ol_put rfl rfl rfl (q_loadP (v := .agg [iC .i64 n2, iC .u64 n3]) 2 rfl sz62 rfl rfl rfl rfl) ?_
      refine ol_put rfl rfl rfl (q_loadP (v := .agg [iC .i64 n4, iC .u64 n5]) 1 rfl sz62 rfl rfl rfl rfl) ?_
      obtain ⟨⟨n15, n16⟩, h14, h⟩ := bindS h
      refine ol_put rfl rfl rfl (q_callF (v := .agg [iC .i64 n15, iC .u64 n16]) (args := [.agg [iC .i64 n2, iC .u64 n3], .agg [iC .i64 n4, iC .u64 n5]]) (ring_lesser_r (m + 0) h14) rfl rfl (vw_cons (vd_agg (vc_cons vc_v (vc_cons vc_v vc_nil))) (vw_cons (vd_agg (vc_cons vc_v (vc_cons vc_v vc_nil))) vw_nil)) rfl rfl) ?_
      refine ol_wr rfl rfl (q_store (es' := [[iC .i64 n15, iC .u64 n16]]) 0 rfl rfl rfl sz62 rfl rfl rfl rfl rfl) rfl ?_
      refine ol_end ?_
      refine E_seq ?_
      refine L_ret ?_
      refine E_blkR ?_
      refine E_seqR ?_
      obtain rfl := Option.some.inj h
      exact E_endF (.inr rfl) (res_cell (d := .agg [iC .i64 n15, iC .u64 n16]) 0 rfl sz62 rfl rfl rfl rfl res_nil) (vw_cons (vd_agg (vc_cons vc_v (vc_cons vc_v vc_nil))) vw_nil) (fun h hb => own_agg) rfl rfl
    · replace h := ifF c13 h
      refine ol_put rfl rfl rfl (q_bin rfl rfl (p_eql_f _ _ _ _ _ c13) rfl) ?_
      refine ol_put rfl rfl rfl (q_assign (v := .one (bC false)) rfl) ?_
      refine ol_end ?_
      refine E_seq ?_
      refine L_condF rfl ?_
      refine L_ops ?_
      by_cases c17 : n1 = 4
      · replace h := ifT c17 h
        refine ol_put rfl rfl rfl (q_bin rfl rfl (p_eql_t _ _ _ _ _ c17) rfl) ?_
        refine ol_put rfl rfl rfl (q_assign (v := .one (bC true)) rfl) ?_
        refine ol_end ?_
        refine E_seq ?_
        refine L_condT rfl ?_
        refine L_seq ?_
        refine L_ops ?_
        refine ol_put rfl rfl rfl (q_loadP (v := .agg [iC .i64 n2, iC .u64 n3]) 2 rfl sz62 rfl rfl rfl rfl) ?_
        refine ol_put rfl rfl rfl (q_loadP (v := .agg [iC .i64 n4, iC .u64 n5]) 1 rfl sz62 rfl rfl rfl rfl) ?_
        obtain ⟨⟨n19, n20⟩, h18, h⟩ := bindS h
        refine ol_put rfl rfl rfl (q_callF (v := .agg [iC .i64 n19, iC .u64 n20]) (args := [.agg [iC .i64 n2, iC .u64 n3], .agg [iC .i64 n4, iC .u64 n5]]) (ring_lesser_r (m + 0) h18) rfl rfl (vw_cons (vd_agg (vc_cons vc_v (vc_cons vc_v vc_nil))) (vw_cons (vd_agg (vc_cons vc_v (vc_cons vc_v vc_nil))) vw_nil)) rfl rfl) ?_
        refine ol_wr rfl rfl (q_store (es' := [[iC .i64 n19, iC .u64 n20]]) 0 rfl rfl rfl sz62 rfl rfl rfl rfl rfl) rfl ?_
        refine ol_end ?_
        refine E_seq ?_
        refine L_ret ?_
        refine E_blkR ?_
        refine E_seqR ?_
        obtain rfl := Option.some.inj h
        exact E_endF (.inr rfl) (res_cell (d := .agg [iC .i64 n19, iC .u64 n20]) 0 rfl sz62 rfl rfl rfl rfl res_nil) (vw_cons (vd_agg (vc_cons vc_v (vc_cons vc_v vc_nil))) vw_nil) (fun h hb => own_agg) rfl rfl
      · replace h := ifF c17 h
        refine ol_put rfl rfl rfl (q_bin rfl rfl (p_eql_f _ _ _ _ _ c17) rfl) ?_
        refine ol_put rfl rfl rfl (q_assign (v := .one (bC false)) rfl) ?_
        refine ol_end ?_
        refine E_seq ?_
        refine L_condF rfl ?_
        refine L_seq ?_
        refine L_ops ?_
        by_cases c21 : n1 = 2
        · replace h := ifT c21 h
          refine ol_put rfl rfl rfl (q_bin rfl rfl (p_eql_t _ _ _ _ _ c21) rfl) ?_
          refine ol_put rfl rfl rfl (q_assign (v := .one (bC true)) rfl) ?_
          refine ol_end ?_
          refine E_seq ?_
          refine L_condT rfl ?_
          refine L_seq ?_
          refine L_ops ?_
          refine ol_put rfl rfl rfl (q_loadP (v := .agg [iC .i64 n2, iC .u64 n3]) 2 rfl sz62 rfl rfl rfl rfl) ?_
          refine ol_put rfl rfl rfl (q_build (cs := [iC .i64 0, iC .u64 0]) ty62 rfl pl62 rfl) ?_
          by_cases c22 : n2 = 0 ∧ n3 = 0
          · replace h := ifT c22 h
            refine ol_put rfl rfl rfl (q_binA rfl rfl (by rfl) (by rfl) (eqneqA62_t _ _ c22) rfl) ?_
            refine ol_put rfl rfl rfl (q_move (v := .one (bC false)) rfl) ?_
            refine ol_put rfl rfl rfl (q_loadP (v := .agg [iC .i64 n4, iC .u64 n5]) 1 rfl sz62 rfl rfl rfl rfl) ?_
            refine ol_put rfl rfl rfl (q_build (cs := [iC .i64 0, iC .u64 0]) ty62 rfl pl62 rfl) ?_
            by_cases c23 : n4 = 0 ∧ n5 = 0
            · replace h := ifT c23 h
              refine ol_put rfl rfl rfl (q_binA rfl rfl (by rfl) (by rfl) (eqneqA62_t _ _ c23) rfl) ?_
              refine ol_put rfl rfl rfl (q_pickF (v := .one (bC false)) rfl rfl) ?_
              obtain ⟨⟨n25, n26⟩, h24, h⟩ := bindS h
              refine ol_put rfl rfl rfl (q_callF (v := .agg [iC .i64 n25, iC .u64 n26]) (args := [.one (bC false)]) (ring_truth_r (m + 0) h24) rfl rfl (vw_cons (vd_one vc_v) vw_nil) rfl rfl) ?_
              refine ol_wr rfl rfl (q_store (es' := [[iC .i64 n25, iC .u64 n26]]) 0 rfl rfl rfl sz62 rfl rfl rfl rfl rfl) rfl ?_
              refine ol_end ?_
              refine E_seq ?_
              refine L_ret ?_
              refine E_blkR ?_
              refine E_seqR ?_
              obtain rfl := Option.some.inj h
              exact E_endF (.inr rfl) (res_cell (d := .agg [iC .i64 n25, iC .u64 n26]) 0 rfl sz62 rfl rfl rfl rfl res_nil) (vw_cons (vd_agg (vc_cons vc_v (vc_cons vc_v vc_nil))) vw_nil) (fun h hb => own_agg) rfl rfl
            · replace h := ifF c23 h
              refine ol_put rfl rfl rfl (q_binA rfl rfl (by rfl) (by rfl) (eqneqA62_f _ _ c23) rfl) ?_
              refine ol_put rfl rfl rfl (q_pickF (v := .one (bC true)) rfl rfl) ?_
              obtain ⟨⟨n28, n29⟩, h27, h⟩ := bindS h
              refine ol_put rfl rfl rfl (q_callF (v := .agg [iC .i64 n28, iC .u64 n29]) (args := [.one (bC true)]) (ring_truth_r (m + 0) h27) rfl rfl (vw_cons (vd_one vc_v) vw_nil) rfl rfl) ?_
              refine ol_wr rfl rfl (q_store (es' := [[iC .i64 n28, iC .u64 n29]]) 0 rfl rfl rfl sz62 rfl rfl rfl rfl rfl) rfl ?_
              refine ol_end ?_
              refine E_seq ?_
              refine L_ret ?_
              refine E_blkR ?_
              refine E_seqR ?_
              obtain rfl := Option.some.inj h
              exact E_endF (.inr rfl) (res_cell (d := .agg [iC .i64 n28, iC .u64 n29]) 0 rfl sz62 rfl rfl rfl rfl res_nil) (vw_cons (vd_agg (vc_cons vc_v (vc_cons vc_v vc_nil))) vw_nil) (fun h hb => own_agg) rfl rfl
          · replace h := ifF c22 h
            refine ol_put rfl rfl rfl (q_binA rfl rfl (by rfl) (by rfl) (eqneqA62_f _ _ c22) rfl) ?_
            refine ol_put rfl rfl rfl (q_move (v := .one (bC true)) rfl) ?_
            refine ol_skip rfl rfl rfl ?_
            refine ol_skip rfl rfl rfl ?_
            refine ol_skip rfl rfl rfl ?_
            refine ol_put rfl rfl rfl (q_pickT (v := .one (bC true)) rfl rfl) ?_
            obtain ⟨⟨n31, n32⟩, h30, h⟩ := bindS h
            refine ol_put rfl rfl rfl (q_callF (v := .agg [iC .i64 n31, iC .u64 n32]) (args := [.one (bC true)]) (ring_truth_r (m + 0) h30) rfl rfl (vw_cons (vd_one vc_v) vw_nil) rfl rfl) ?_
            refine ol_wr rfl rfl (q_store (es' := [[iC .i64 n31, iC .u64 n32]]) 0 rfl rfl rfl sz62 rfl rfl rfl rfl rfl) rfl ?_
            refine ol_end ?_
            refine E_seq ?_
            refine L_ret ?_
            refine E_blkR ?_
            refine E_seqR ?_
            obtain rfl := Option.some.inj h
            exact E_endF (.inr rfl) (res_cell (d := .agg [iC .i64 n31, iC .u64 n32]) 0 rfl sz62 rfl rfl rfl rfl res_nil) (vw_cons (vd_agg (vc_cons vc_v (vc_cons vc_v vc_nil))) vw_nil) (fun h hb => own_agg) rfl rfl
        · replace h := ifF c21 h
          refine ol_put rfl rfl rfl (q_bin rfl rfl (p_eql_f _ _ _ _ _ c21) rfl) ?_
          refine ol_put rfl rfl rfl (q_assign (v := .one (bC false)) rfl) ?_
          refine ol_end ?_
          refine E_seq ?_
          refine L_condF rfl ?_
          refine L_seq ?_
          refine L_ops ?_
          by_cases c33 : n1 = 5
          · replace h := ifT c33 h
            refine ol_put rfl rfl rfl (q_bin rfl rfl (p_eql_t _ _ _ _ _ c33) rfl) ?_
            refine ol_put rfl rfl rfl (q_assign (v := .one (bC true)) rfl) ?_
            refine ol_end ?_
            refine E_seq ?_
            refine L_condT rfl ?_
            refine L_seq ?_
            refine L_ops ?_
            refine ol_put rfl rfl rfl (q_loadP (v := .agg [iC .i64 n2, iC .u64 n3]) 2 rfl sz62 rfl rfl rfl rfl) ?_
            refine ol_put rfl rfl rfl (q_loadP (v := .agg [iC .i64 n4, iC .u64 n5]) 1 rfl sz62 rfl rfl rfl rfl) ?_
            obtain ⟨⟨n35, n36⟩, h34, h⟩ := bindS h
            refine ol_put rfl rfl rfl (q_callF (v := .agg [iC .i64 n35, iC .u64 n36]) (args := [.agg [iC .i64 n2, iC .u64 n3], .agg [iC .i64 n4, iC .u64 n5]]) (wide_Add_r (m + 1) h34) rfl rfl (vw_cons (vd_agg (vc_cons vc_v (vc_cons vc_v vc_nil))) (vw_cons (vd_agg (vc_cons vc_v (vc_cons vc_v vc_nil))) vw_nil)) rfl rfl) ?_
            refine ol_wr rfl rfl (q_store (es' := [[iC .i64 n35, iC .u64 n36]]) 0 rfl rfl rfl sz62 rfl rfl rfl rfl rfl) rfl ?_
            refine ol_end ?_
            refine E_seq ?_
            refine L_ret ?_
            refine E_blkR ?_
            refine E_seqR ?_
            obtain rfl := Option.some.inj h
            exact E_endF (.inr rfl) (res_cell (d := .agg [iC .i64 n35, iC .u64 n36]) 0 rfl sz62 rfl rfl rfl rfl res_nil) (vw_cons (vd_agg (vc_cons vc_v (vc_cons vc_v vc_nil))) vw_nil) (fun h hb => own_agg) rfl rfl
          · replace h := ifF c33 h
            refine ol_put rfl rfl rfl (q_bin rfl rfl (p_eql_f _ _ _ _ _ c33) rfl) ?_
            refine ol_put rfl rfl rfl (q_assign (v := .one (bC false)) rfl) ?_
            refine ol_end ?_
            refine E_seq ?_
            refine L_condF rfl ?_
            refine L_skip ?_
            refine E_blkN ?_
            refine E_seq ?_
            refine L_seq ?_
            refine L_ops ?_
            refine ol_put rfl rfl rfl (q_build (cs := [iC .i64 0, iC .u64 0]) ty62 rfl pl62 rfl) ?_
            refine ol_wr rfl rfl (q_store (es' := [[iC .i64 0, iC .u64 0]]) 0 rfl rfl rfl sz62 rfl rfl rfl rfl rfl) rfl ?_
            refine ol_end ?_
            refine E_seq ?_
            refine L_ret ?_
            obtain rfl := Option.some.inj h
            exact E_endF (.inr rfl) (res_cell (d := .agg [iC .i64 0, iC .u64 0]) 0 rfl sz62 rfl rfl rfl rfl res_nil) (vw_cons (vd_agg (vc_cons vc_v (vc_cons vc_v vc_nil))) vw_nil) (fun h hb => own_agg) rfl rfl

noncomputable def pull_Sums_b2 (s20 : Sl (Int)) (s21 : Sl (Int)) (s22 : Sl (Int)) (n333 : Int) (n387 : Int) : Option (Int ⊕ (Unit ⊕ Empty)) :=
  ((atS 1 s20 (IntKind.i64.wrap (n333 + 1))).bind fun n390 => (if n387 < n390 then ((atS 1 s21 n387).bind fun n394 => ((flags_Has (⟨false, 0, []⟩ : Sl (Int)) n394).bind fun b396 => (if b396 = true then ((atS 1 s22 n387).bind fun n406 => ((atS 1 (⟨false, 0, []⟩ : Sl (Int)) n394).bind fun n409 => none)) else some (.inl (IntKind.i64.wrap (n387 + 1)))))) else some (.inr (.inl ()))))
noncomputable def pull_Sums_b3 (s20 : Sl (Int)) (s21 : Sl (Int)) (s22 : Sl (Int)) (n333 : Int) (n460 : Int) : Option (Int ⊕ (Unit ⊕ Empty)) :=
  ((atS 1 s20 (IntKind.i64.wrap (n333 + 1))).bind fun n463 => (if n460 < n463 then ((atS 1 s21 n460).bind fun n467 => ((flags_Has (⟨false, 0, []⟩ : Sl (Int)) n467).bind fun b469 => (if b469 = true then ((atS 1 s22 n460).bind fun n479 => ((atS 1 (⟨false, 0, []⟩ : Sl (Int)) n467).bind fun n482 => none)) else some (.inl (IntKind.i64.wrap (n460 + 1)))))) else some (.inr (.inl ()))))
noncomputable def pull_Sums_b1 (s10 : Sl (Int)) (n18 : Int) (s20 : Sl (Int)) (s21 : Sl (Int)) (s22 : Sl (Int)) (a : Int × Bool) : Option ((Int × Bool) ⊕ (Unit ⊕ Empty)) :=
  match a with
  | (n333, b334) => (if n333 < n18 then ((flags_Has s10 n333).bind fun b337 => (if b337 = true then (if b334 = true then some (.inl ((IntKind.i64.wrap (n333 + 1)), true)) else ((atS 1 s20 n333).bind fun n414 => ((loopO (pull_Sums_b3 s20 s21 s22 n333) n414).bind (Sum.elim (fun _ => some (.inl ((IntKind.i64.wrap (n333 + 1)), false))) (fun u => u.elim))))) else (if b334 = true then ((atS 1 s20 n333).bind fun n341 => ((loopO (pull_Sums_b2 s20 s21 s22 n333) n341).bind (Sum.elim (fun _ => some (.inl ((IntKind.i64.wrap (n333 + 1)), true))) (fun u => u.elim)))) else some (.inl ((IntKind.i64.wrap (n333 + 1)), false))))) else some (.inr (.inl ())))
noncomputable def pull_Sums_b5 (n1 : Int) (s8 : Sl (Int)) (s9 : Sl (Int)) (s20 : Sl (Int)) (s21 : Sl (Int)) (s22 : Sl (Int)) (n1339 : Int) (a : Bool × Int × Int × Int) : Option ((Bool × Int × Int × Int) ⊕ ((Bool × Int × Int) ⊕ Empty)) :=
  match a with
  | (b1442, n1443, n1444, n1445) => ((atS 1 s20 (IntKind.i64.wrap (n1339 + 1))).bind fun n1448 => (if n1443 < n1448 then ((atS 1 s21 n1443).bind fun n1452 => ((flags_Has s8 n1452).bind fun b1454 => (if b1454 = true then ((atS 1 s22 n1443).bind fun n1467 => ((atS 1 s9 n1452).bind fun n1470 => ((ring_Mul n1 n1467 n1470).bind fun (n1472, n1473) => (if b1442 = true then ((ring_Add n1 (n1444, n1445) (n1472, n1473)).bind fun (n1475, n1476) => some (.inl (true, (IntKind.i64.wrap (n1443 + 1)), n1475, n1476))) else some (.inl (true, (IntKind.i64.wrap (n1443 + 1)), n1472, n1473)))))) else some (.inl (b1442, (IntKind.i64.wrap (n1443 + 1)), n1444, n1445))))) else some (.inr (.inl (b1442, n1444, n1445)))))
noncomputable def pull_Sums_b6 (n1 : Int) (s8 : Sl (Int)) (s9 : Sl (Int)) (s20 : Sl (Int)) (s21 : Sl (Int)) (s22 : Sl (Int)) (n1339 : Int) (a : Bool × Int × Int × Int) : Option ((Bool × Int × Int × Int) ⊕ ((Bool × Int × Int) ⊕ Empty)) :=
  match a with
  | (b1580, n1581, n1582, n1583) => ((atS 1 s20 (IntKind.i64.wrap (n1339 + 1))).bind fun n1586 => (if n1581 < n1586 then ((atS 1 s21 n1581).bind fun n1590 => ((flags_Has s8 n1590).bind fun b1592 => (if b1592 = true then ((atS 1 s22 n1581).bind fun n1605 => ((atS 1 s9 n1590).bind fun n1608 => ((ring_Mul n1 n1605 n1608).bind fun (n1610, n1611) => (if b1580 = true then ((ring_Add n1 (n1582, n1583) (n1610, n1611)).bind fun (n1613, n1614) => some (.inl (true, (IntKind.i64.wrap (n1581 + 1)), n1613, n1614))) else some (.inl (true, (IntKind.i64.wrap (n1581 + 1)), n1610, n1611)))))) else some (.inl (b1580, (IntKind.i64.wrap (n1581 + 1)), n1582, n1583))))) else some (.inr (.inl (b1580, n1582, n1583)))))
noncomputable def pull_Sums_b4 (n1 : Int) (s8 : Sl (Int)) (s9 : Sl (Int)) (s10 : Sl (Int)) (n18 : Int) (s20 : Sl (Int)) (s21 : Sl (Int)) (s22 : Sl (Int)) (a : Int × Bool × (List (Int × (Int × Int)))) : Option ((Int × Bool × (List (Int × (Int × Int)))) ⊕ ((List (Int × (Int × Int))) ⊕ Empty)) :=
  match a with
  | (n1339, b1340, l1341) => (if n1339 < n18 then ((flags_Has s10 n1339).bind fun b1345 => (if b1345 = true then (if b1340 = true then some (.inl ((IntKind.i64.wrap (n1339 + 1)), true, l1341)) else ((atS 1 s20 n1339).bind fun n1487 => ((loopO (pull_Sums_b6 n1 s8 s9 s20 s21 s22 n1339) (false, n1487, 0, 0)).bind (Sum.elim (fun ⟨b1615, n1616, n1617⟩ => (if b1615 = true then ((app l1341 ([(n1339, (n1616, n1617))] : List (Int × (Int × Int)))).bind fun _ => some (.inl ((IntKind.i64.wrap (n1339 + 1)), false, (l1341 ++ ([(n1339, (n1616, n1617))] : List (Int × (Int × Int))))))) else some (.inl ((IntKind.i64.wrap (n1339 + 1)), false, l1341)))) (fun u => u.elim))))) else (if b1340 = true then ((atS 1 s20 n1339).bind fun n1349 => ((loopO (pull_Sums_b5 n1 s8 s9 s20 s21 s22 n1339) (false, n1349, 0, 0)).bind (Sum.elim (fun ⟨b1477, n1478, n1479⟩ => (if b1477 = true then ((app l1341 ([(n1339, (n1478, n1479))] : List (Int × (Int × Int)))).bind fun _ => some (.inl ((IntKind.i64.wrap (n1339 + 1)), true, (l1341 ++ ([(n1339, (n1478, n1479))] : List (Int × (Int × Int))))))) else some (.inl ((IntKind.i64.wrap (n1339 + 1)), true, l1341)))) (fun u => u.elim)))) else some (.inl ((IntKind.i64.wrap (n1339 + 1)), false, l1341))))) else some (.inr (.inl l1341)))
noncomputable def pull_Sums (n1 : Int) (a1 : Int × Int × Sl (Int) × Sl (Int) × Sl (Int)) (a2 : Int × Sl (Int) × Sl (Int)) (s10 : Sl (Int)) (b11 : Bool) : Option ((Sl (Int × (Int × Int))) × Int) :=
  match a1, a2 with
  | (n2, n3, s4, s5, s6), (n7, s8, s9) => ((ring_Is n1).bind fun b16 => (if b16 = true then ((pull_sure (n2, n3, s4, s5, s6)).bind fun (n18, n19, s20, s21, s22) => ((devec_Right (n7, s8, s9)).bind fun b25 => (if b25 = true then (if n7 ≠ n19 then some ((⟨false, 0, []⟩ : Sl (Int × (Int × Int))), 4) else ((loopO (pull_Sums_b4 n1 s8 s9 s10 n18 s20 s21 s22) (0, b11, ([] : List (Int × (Int × Int))))).bind (Sum.elim (fun l1622 => some ((mo 3 l1622), 0)) (fun u => u.elim)))) else (if (0 : Int) ≠ n19 then some ((⟨false, 0, []⟩ : Sl (Int × (Int × Int))), 4) else ((loopO (pull_Sums_b1 s10 n18 s20 s21 s22) (0, b11)).bind (Sum.elim (fun _ => some ((⟨false, 0, []⟩ : Sl (Int × (Int × Int))), 0)) (fun u => u.elim))))))) else some ((⟨false, 0, []⟩ : Sl (Int × (Int × Int))), 8)))
theorem pull_Sums_r (m : Nat) {n1 : Int} {a1 : Int × Int × Sl (Int) × Sl (Int) × Sl (Int)} {a2 : Int × Sl (Int) × Sl (Int)} {s10 : Sl (Int)} {b11 : Bool} {out : (Sl (Int × (Int × Int))) × Int} (h : pull_Sums n1 a1 a2 s10 b11 = some out) : RunsP E1 (m + 6) 12 [.one (iT .i64 n1), .agg (r32 a1), .agg (r35 a2), .one (Sl.t r60 s10), .one (bT b11)] (.fresh, [.one (Sl.t r63 out.1), .one (iT .i64 out.2)]) := by
  obtain ⟨n2, n3, s4, s5, s6⟩ := a1
  obtain ⟨n7, s8, s9⟩ := a2
  refine fn_F rfl (by rw [E1_fn]; exact show fiOf Tryd.prog 12 = _ by unfold fiOf; rw [Tryd.func12]; unfold Tryd.f12; rfl) rfl ?_
  dsimp only
  unfold pull_Sums at h
  refine L_seq ?_
  refine L_ops ?_
  refine ol_new rfl rfl rfl (q_box ty22 rfl (cs := [iC .i64 n1]) rfl rfl) (fun k12 => ?_)
  refine ol_new rfl rfl rfl (q_box ty33 rfl (cs := [iC .i64 n2, iC .i64 n3, .p false (Sl.t r3 s4), .p false (Sl.t r3 s5), .p false (Sl.t r2 s6)]) rfl rfl) (fun k13 => ?_)
  refine ol_new rfl rfl rfl (q_box ty36 rfl (cs := [iC .i64 n7, .p false (Sl.t r60 s8), .p false (Sl.t r2 s9)]) rfl rfl) (fun k14 => ?_)
  refine ol_put rfl rfl rfl (q_assign (v := .one (.p true (Sl.t r63 (⟨false, 0, []⟩ : Sl (Int × (Int × Int)))))) rfl) ?_
  refine ol_put rfl rfl rfl (q_assign (v := .one (iC .i64 0)) rfl) ?_
  refine ol_end ?_
  refine E_seq ?_
  refine L_seq ?_
  refine L_seq ?_
  refine L_ops ?_
  refine ol_put rfl rfl rfl (q_loadP (v := .one (iC .i64 n1)) 2 rfl sz22 rfl rfl rfl rfl) ?_
  obtain ⟨b16, h15, h⟩ := bindS h
  refine ol_put rfl rfl rfl (q_callF (v := .one (bC b16)) (args := [.one (iC .i64 n1)]) (ring_Is_r (m + 4) h15) rfl rfl (vw_cons (vd_one vc_v) vw_nil) rfl rfl) ?_
  rcases b16 with _ | _
  · replace h := ifF (by decide) h
    refine ol_put rfl rfl rfl (q_not rfl) ?_
    refine ol_end ?_
    refine E_seq ?_
    refine L_condT rfl ?_
    refine L_seq ?_
    refine L_ops ?_
    refine ol_put rfl rfl rfl (q_assign (v := .one (.p true (Sl.t r63 (⟨false, 0, []⟩ : Sl (Int × (Int × Int)))))) rfl) ?_
    refine ol_put rfl rfl rfl (q_assign (v := .one (iC .i64 8)) rfl) ?_
    refine ol_end ?_
    refine E_seq ?_
    refine L_ret ?_
    refine E_seqR ?_
    obtain rfl := Option.some.inj h
    exact E_endF (.inr rfl) (res_tmp rfl (res_tmp rfl res_nil)) (vw_cons (vd_one vc_s) (vw_cons (vd_one vc_v) vw_nil)) (fun h hb => own_no2) rfl rfl
  · replace h := ifT (by decide) h
    refine ol_put rfl rfl rfl (q_not rfl) ?_
    refine ol_end ?_
    refine E_seq ?_
    refine L_condF rfl ?_
    refine L_skip ?_
    refine E_seq ?_
    refine L_seq ?_
    refine L_ops ?_
    refine ol_put rfl rfl rfl (q_loadP (v := .agg [iC .i64 n2, iC .i64 n3, .p false (Sl.t r3 s4), .p false (Sl.t r3 s5), .p false (Sl.t r2 s6)]) 1 rfl sz33 rfl rfl rfl rfl) ?_
    obtain ⟨⟨n18, n19, s20, s21, s22⟩, h17, h⟩ := bindS h
    refine ol_putX rfl rfl rfl (q_callX (v := fun fr23 => .agg [iC .i64 n18, iC .i64 n19, .p fr23 (Sl.t r3 s20), .p fr23 (Sl.t r3 s21), .p fr23 (Sl.t r2 s22)]) (args := [.agg [iC .i64 n2, iC .i64 n3, .p false (Sl.t r3 s4), .p false (Sl.t r3 s5), .p false (Sl.t r2 s6)]]) (pull_sure_r (m + 2) h17) rfl rfl (vw_cons (vd_agg (vc_cons vc_v (vc_cons vc_v (vc_cons vc_s (vc_cons vc_s (vc_cons vc_s vc_nil)))))) vw_nil) rfl rfl (fun fr => rfl)) (fun fr23 => ?_)
    refine ol_wr rfl rfl (q_store (es' := [[iC .i64 n18, iC .i64 n19, .p fr23 (Sl.t r3 s20), .p fr23 (Sl.t r3 s21), .p fr23 (Sl.t r2 s22)]]) 1 rfl rfl rfl sz33 rfl rfl rfl rfl rfl) rfl ?_
    refine ol_end ?_
    refine E_seq ?_
    refine L_seq ?_
    refine L_seq ?_
    refine L_ops ?_
    refine ol_put rfl rfl rfl (q_loadP (v := .agg [iC .i64 n7, .p false (Sl.t r60 s8), .p false (Sl.t r2 s9)]) 0 rfl sz36 rfl rfl rfl rfl) ?_
    obtain ⟨b25, h24, h⟩ := bindS h
    refine ol_put rfl rfl rfl (q_callF (v := .one (bC b25)) (args := [.agg [iC .i64 n7, .p false (Sl.t r60 s8), .p false (Sl.t r2 s9)]]) (devec_Right_r (m + 0) h24) rfl rfl (vw_cons (vd_agg (vc_cons vc_v (vc_cons vc_s (vc_cons vc_s vc_nil)))) vw_nil) rfl rfl) ?_
    rcases b25 with _ | _
    · replace h := ifF (by decide) h
      refine ol_put rfl rfl rfl (q_not rfl) ?_
      refine ol_end ?_
      refine E_seq ?_
      refine L_condT rfl ?_
      refine L_ops ?_
      refine ol_put rfl rfl rfl (q_build (cs := [iC .i64 0, .p true (Sl.t r60 (⟨false, 0, []⟩ : Sl (Int))), .p true (Sl.t r2 (⟨false, 0, []⟩ : Sl (Int)))]) ty36 rfl pl36 rfl) ?_
      refine ol_wr rfl rfl (q_store (es' := [[iC .i64 0, .p true (Sl.t r60 (⟨false, 0, []⟩ : Sl (Int))), .p true (Sl.t r2 (⟨false, 0, []⟩ : Sl (Int)))]]) 0 rfl rfl rfl sz36 rfl rfl rfl rfl rfl) rfl ?_
      refine ol_end ?_
      refine E_seq ?_
      refine L_seq ?_
      refine L_seq ?_
      refine L_ops ?_
      refine ol_put rfl rfl rfl (q_fieldP rfl fa36_0 rfl) ?_
      refine ol_put rfl rfl rfl (q_loadP (v := .one (iC .i64 0)) 0 rfl sz3 rfl rfl rfl rfl) ?_
      refine ol_put rfl rfl rfl (q_fieldP rfl fa33_1 rfl) ?_
      refine ol_put rfl rfl rfl (q_loadP (v := .one (iC .i64 n19)) 1 rfl sz3 rfl rfl rfl rfl) ?_
      by_cases c26 : (0 : Int) ≠ n19
      · replace h := ifT c26 h
        refine ol_put rfl rfl rfl (q_bin rfl rfl (p_neq_t _ _ _ _ _ c26) rfl) ?_
        refine ol_end ?_
        refine E_seq ?_
        refine L_condT rfl ?_
        refine L_seq ?_
        refine L_ops ?_
        refine ol_put rfl rfl rfl (q_assign (v := .one (.p true (Sl.t r63 (⟨false, 0, []⟩ : Sl (Int × (Int × Int)))))) rfl) ?_
        refine ol_put rfl rfl rfl (q_assign (v := .one (iC .i64 4)) rfl) ?_
        refine ol_end ?_
        refine E_seq ?_
        refine L_ret ?_
        refine E_seqR ?_
        obtain rfl := Option.some.inj h
        exact E_endF (.inr rfl) (res_tmp rfl (res_tmp rfl res_nil)) (vw_cons (vd_one vc_s) (vw_cons (vd_one vc_v) vw_nil)) (fun h hb => own_no2) rfl rfl
      · replace h := ifF c26 h
        refine ol_put rfl rfl rfl (q_bin rfl rfl (p_neq_f _ _ _ _ _ c26) rfl) ?_
        refine ol_end ?_
        refine E_seq ?_
        refine L_condF rfl ?_
        refine L_skip ?_
        refine E_seq ?_
        refine L_seq ?_
        refine L_ops ?_
        refine ol_put rfl rfl rfl (q_mkfun rfl rfl) ?_
        refine ol_new rfl rfl rfl (q_alloc ty81 (row := [.p true (.v .nilFunc)]) rfl rfl) (fun k27 => ?_)
        refine ol_wr rfl rfl (q_store (es' := [[.clo (.func 37) [] [.ptr k13 0 0, .ptr k14 0 0, .ptr k12 0 0]]]) 0 rfl rfl rfl sz81 rfl rfl rfl rfl rfl) rfl ?_
        refine ol_end ?_
        refine E_seq ?_
        refine L_seq ?_
        refine L_ops ?_
        refine ol_new rfl rfl rfl (q_alloc ty29 (row := [.p true (Sl.t r63 (⟨false, 0, []⟩ : Sl (Int × (Int × Int))))]) rfl rfl) (fun k28 => ?_)
        refine ol_end ?_
        refine E_seq ?_
        refine L_seq ?_
        refine L_seq ?_
        refine L_ops ?_
        refine ol_put rfl rfl rfl (q_fieldP rfl fa33_0 rfl) ?_
        refine ol_put rfl rfl rfl (q_loadP (v := .one (iC .i64 n18)) 3 rfl sz3 rfl rfl rfl rfl) ?_
        refine ol_put rfl rfl rfl (q_move (v := .one (.p false (Sl.t r60 s10))) rfl) ?_
        refine ol_put rfl rfl rfl (q_move (v := .one (bC b11)) rfl) ?_
        refine ol_scallN (args := [.one (iC .i64 n18), .one (.p false (Sl.t r60 s10)), .one (bC b11)]) rfl rfl rfl ax41 (by rw [E1_fn]; exact show fiOf Tryd.prog 41 = _ by unfold fiOf; rw [Tryd.func41]; unfold Tryd.f41; rfl) rfl rfl rfl ?_
        dsimp only
        refine L_seq ?_
        refine L_ops ?_
        refine ol_new rfl rfl rfl (q_box ty3 rfl (cs := [iC .i64 n18]) rfl rfl) (fun k29 => ?_)
        refine ol_new rfl rfl rfl (q_box ty26 rfl (cs := [.p false (Sl.t r60 s10)]) rfl rfl) (fun k30 => ?_)
        refine ol_new rfl rfl rfl (q_box ty4 rfl (cs := [bC b11]) rfl rfl) (fun k31 => ?_)
        refine ol_put rfl rfl rfl (q_assign (v := .one (.p true (.v .nilFunc))) rfl) ?_
        refine ol_end ?_
        refine E_seq ?_
        refine L_seq ?_
        refine L_ops ?_
        refine ol_put rfl rfl rfl (q_mkfun rfl rfl) ?_
        refine ol_put rfl rfl rfl (q_assign (v := .one (.clo (.func 73) [] [.ptr k29 0 0, .ptr k30 0 0, .ptr k31 0 0])) rfl) ?_
        refine ol_end ?_
        refine E_seq ?_
        refine L_ret ?_
        refine E_call (v := .one (.clo (.func 73) [] [.ptr k29 0 0, .ptr k30 0 0, .ptr k31 0 0])) (.inr rfl) (res_tmp (d := .one (.clo (.func 73) [] [.ptr k29 0 0, .ptr k30 0 0, .ptr k31 0 0])) rfl res_nil) rfl ?_
        refine ol_end ?_
        refine E_seq ?_
        refine L_block ?_
        refine L_range rfl (by rw [E1_fn]; exact show fiOf Tryd.prog 73 = _ by unfold fiOf; rw [Tryd.func73]; unfold Tryd.f73; rfl) rfl rfl (fun k32 => ?_)
        dsimp only
        refine L_seq ?_
        refine L_ops ?_
        refine ol_put rfl rfl rfl (q_loadP (v := .one (iC .i64 n18)) 3 rfl sz3 rfl rfl rfl rfl) ?_
        refine ol_put rfl rfl rfl (q_move (v := .one (iC .i64 0)) rfl) ?_
        refine ol_end ?_
        refine E_seq ?_
        refine L_block ?_
        let S1 : (Int × Bool) → Unit → (Nat → D) → Nat → D := fun a kt g => ups g [(0, .one (.yld k32)), (2, .one (.ptr k30 0 0)), (3, .one (.ptr k31 0 0)), (6, .one (iC .i64 n18)), (7, .one (iC .i64 a.1))]
        let SL1 : (Int × Bool) → Unit → BL := fun a kt => ([[(k32, 0, [])], [(k30, 1, [[.p false (Sl.t r60 s10)]])], [(k31, 1, [[bC a.2]])], [(k27, 1, [[.clo (.func 37) [] [.ptr k13 0 0, .ptr k14 0 0, .ptr k12 0 0]]])], [(k28, 1, [[.p true (Sl.t r63 (⟨false, 0, []⟩ : Sl (Int × (Int × Int))))]])], [(k13, 5, [[iC .i64 n18, iC .i64 n19, .p fr23 (Sl.t r3 s20), .p fr23 (Sl.t r3 s21), .p fr23 (Sl.t r2 s22)]])], [(k14, 3, [[iC .i64 0, .p true (Sl.t r60 (⟨false, 0, []⟩ : Sl (Int))), .p true (Sl.t r2 (⟨false, 0, []⟩ : Sl (Int)))]])], [(k12, 1, [[iC .i64 n1]])]] : BL)
        let G1 : Empty → Ex → St → Prop := fun u => u.elim
        let Sx1 : Unit → Unit → (Nat → D) → Nat → D := fun a kt g => ups g []
        let SLx1 : Unit → Unit → BL := fun a kt => ([[(k27, 1, [[.clo (.func 37) [] [.ptr k13 0 0, .ptr k14 0 0, .ptr k12 0 0]]])], [(k28, 1, [[.p true (Sl.t r63 (⟨false, 0, []⟩ : Sl (Int × (Int × Int))))]])], [(k32, 0, [])], [(k13, 5, [[iC .i64 n18, iC .i64 n19, .p fr23 (Sl.t r3 s20), .p fr23 (Sl.t r3 s21), .p fr23 (Sl.t r2 s22)]])], [(k14, 3, [[iC .i64 0, .p true (Sl.t r60 (⟨false, 0, []⟩ : Sl (Int))), .p true (Sl.t r2 (⟨false, 0, []⟩ : Sl (Int)))]])], [(k12, 1, [[iC .i64 n1]])]] : BL)
        let J1 : (Unit ⊕ Empty) → Ex → St → Prop := JX 22 0 Sx1 SLx1 G1
        refine L_loopS (pull_Sums_b1 s10 n18 s20 s21 s22) S1 SL1 J1 JX_n (0, b11) h () (ups_self ⟨rfl, rfl, rfl, rfl, rfl, trivial⟩) [0, 2, 1, 5, 4, 7, 6, 8] (by decide) rfl ?_ ?_
        · rintro ⟨n333, b334⟩ _ g out h
          change pull_Sums_b1 s10 n18 s20 s21 s22 (n333, b334) = some out at h
          unfold pull_Sums_b1 at h
          refine L_seq ?_
          refine L_ops ?_
          by_cases c335 : n333 < n18
          · replace h := ifT c335 h
            refine ol_put rfl rfl rfl (q_bin rfl rfl (p_lss_t _ _ _ _ _ c335) rfl) ?_
            refine ol_end ?_
            refine E_seq ?_
            refine L_seq ?_
            refine L_condT rfl ?_
            refine L_skip ?_
            refine E_seq ?_
            refine L_seq ?_
            refine L_block ?_
            refine L_seq ?_
            refine L_ops ?_
            refine ol_put rfl rfl rfl (q_move (v := .one (iC .i64 n333)) rfl) ?_
            refine ol_put rfl rfl rfl (q_assign (v := .one (iC .i64 n333)) rfl) ?_
            refine ol_end ?_
            refine E_seq ?_
            refine L_seq ?_
            refine L_cut 8 (by kernel_rfl) (by kernel_rfl) ?_
            refine st_put rfl rfl rfl (q_loadP (v := .one (.p false (Sl.t r60 s10))) 1 rfl sz26 rfl rfl rfl rfl) ?_
            refine st_put rfl rfl rfl (q_move (v := .one (iC .i64 n333)) rfl) ?_
            obtain ⟨b337, h336, h⟩ := bindS h
            refine st_put rfl rfl rfl (q_callF (v := .one (bC b337)) (args := [.one (.p false (Sl.t r60 s10)), .one (iC .i64 n333)]) (flags_Has_r (m + 2) h336) rfl rfl (vw_cons (vd_one vc_s) (vw_cons (vd_one vc_v) vw_nil)) rfl rfl) ?_
            refine st_put rfl rfl rfl (q_loadP (v := .one (bC b334)) 2 rfl sz4 rfl rfl rfl rfl) ?_
            rcases b337 with _ | _
            · replace h := ifF (by decide) h
              rcases b334 with _ | _
              · replace h := ifF (by decide) h
                refine st_put rfl rfl rfl (q_binB rfl rfl (eqneqB4 _ _ _ _) rfl) ?_
                refine st_put rfl rfl rfl (q_move (v := .one (bC false)) rfl) ?_
                refine st_skip rfl rfl rfl ?_
                refine st_skip rfl rfl rfl ?_
                refine st_cut ?_
                refine ol_skip rfl rfl rfl ?_
                refine ol_skip rfl rfl rfl ?_
                refine ol_put rfl rfl rfl (q_pickF (v := .one (bC false)) rfl rfl) ?_
                refine ol_end ?_
                refine E_seq ?_
                refine L_condF rfl ?_
                refine L_skip ?_
                refine E_blkN ?_
                refine E_seq ?_
                refine L_ops ?_
                refine ol_put rfl rfl rfl (q_bin rfl rfl (p_add _ _ _ _ _ _ _) rfl) ?_
                refine ol_put rfl rfl rfl (q_move (v := .one (iC .i64 (IntKind.i64.wrap (n333 + 1)))) rfl) ?_
                refine ol_end ?_
                obtain rfl := Option.some.inj h
                exact E_next () (ups_self ⟨rfl, rfl, rfl, rfl, rfl, trivial⟩) [0, 1, 2, 3, 4, 5, 6, 7] (by decide) rfl
              · replace h := ifT (by decide) h
                refine st_put rfl rfl rfl (q_binB rfl rfl (eqneqB4 _ _ _ _) rfl) ?_
                refine st_put rfl rfl rfl (q_move (v := .one (bC true)) rfl) ?_
                refine st_put rfl rfl rfl (q_move (v := .one (.yld k32)) rfl) ?_
                refine st_put rfl rfl rfl (q_move (v := .one (iC .i64 n333)) rfl) ?_
                refine st_cut ?_
                refine ol_yield (args := [.one (iC .i64 n333)]) (p := 0) rfl rfl rfl rfl rfl rfl rfl rfl rfl ?_
                refine L_ops ?_
                refine ol_put rfl rfl rfl (q_assign (v := .one (iC .i64 n333)) rfl) ?_
                refine ol_end ?_
                refine E_asg ?_
                refine L_block ?_
                refine L_seq ?_
                refine L_ops ?_
                refine ol_put rfl rfl rfl (q_loadP (v := .one (.clo (.func 37) [] [.ptr k13 0 0, .ptr k14 0 0, .ptr k12 0 0])) 3 rfl sz81 rfl rfl rfl rfl) ?_
                refine ol_put rfl rfl rfl (q_move (v := .one (iC .i64 n333)) rfl) ?_
                refine ol_scall (args := [.one (iC .i64 n333), .one (.ptr k13 0 0), .one (.ptr k14 0 0), .one (.ptr k12 0 0)]) rfl rfl rfl rfl (by rw [E1_fn]; exact show fiOf Tryd.prog 37 = _ by unfold fiOf; rw [Tryd.func37]; unfold Tryd.f37; rfl) rfl rfl rfl ?_
                dsimp only
                refine L_seq ?_
                refine L_ops ?_
                refine ol_new rfl rfl rfl (q_alloc ty62 (row := [iC .i64 0, iC .u64 0]) rfl rfl) (fun k338 => ?_)
                refine ol_put rfl rfl rfl (q_assign (v := .one (bC false)) rfl) ?_
                refine ol_end ?_
                refine E_seq ?_
                refine L_seq ?_
                refine L_seq ?_
                refine L_ops ?_
                refine ol_put rfl rfl rfl (q_fieldP rfl fa33_2 rfl) ?_
                refine ol_put rfl rfl rfl (q_loadP (v := .one (.p fr23 (Sl.t r3 s20))) 6 rfl sz30 rfl rfl rfl rfl) ?_
                refine ol_put rfl rfl rfl (q_move (v := .one (iC .i64 n333)) rfl) ?_
                obtain ⟨n341, h340, h⟩ := bindS h
                obtain ⟨h340a, h340b, h340⟩ := atS_some h340
                refine ol_put rfl rfl rfl (q_ixS rfl rfl h340a h340 (el30.trans (congrArg some h340b.symm))) ?_
                refine ol_put rfl rfl rfl (q_loadI (v := .one (iC .i64 n341)) rfl sz3 (map_get h340) rfl rfl) ?_
                refine ol_put rfl rfl rfl (q_assign (v := .one (iC .i64 n341)) rfl) ?_
                refine ol_end ?_
                refine E_seq ?_
                refine L_block ?_
                let S2 : Int → Unit → (Nat → D) → Nat → D := fun a kt g => ups g [(0, .one (iC .i64 n333)), (1, .one (.ptr k13 0 0)), (2, .one (.ptr k14 0 0)), (3, .one (.ptr k12 0 0)), (5, .one (.ptr k338 0 0)), (6, .one (bC false)), (7, .one (iC .i64 a))]
                let SL2 : Int → Unit → BL := fun a kt => ([[(k13, 5, [[iC .i64 n18, iC .i64 n19, .p fr23 (Sl.t r3 s20), .p fr23 (Sl.t r3 s21), .p fr23 (Sl.t r2 s22)]])], [(k14, 3, [[iC .i64 0, .p true (Sl.t r60 (⟨false, 0, []⟩ : Sl (Int))), .p true (Sl.t r2 (⟨false, 0, []⟩ : Sl (Int)))]])], [(k12, 1, [[iC .i64 n1]])], [(k338, 2, [[iC .i64 0, iC .u64 0]])], [(k27, 1, [[.clo (.func 37) [] [.ptr k13 0 0, .ptr k14 0 0, .ptr k12 0 0]]])], [(k28, 1, [[.p true (Sl.t r63 (⟨false, 0, []⟩ : Sl (Int × (Int × Int))))]])], [(k32, 0, [])], [(k30, 1, [[.p false (Sl.t r60 s10)]])], [(k31, 1, [[bC true]])]] : BL)
                let G2 : Empty → Ex → St → Prop := fun u => u.elim
                let Sx2 : Unit → Unit → (Nat → D) → Nat → D := fun a kt g => ups g [(5, .one (.ptr k338 0 0)), (6, .one (bC false))]
                let SLx2 : Unit → Unit → BL := fun a kt => ([[(k338, 2, [[iC .i64 0, iC .u64 0]])], [(k27, 1, [[.clo (.func 37) [] [.ptr k13 0 0, .ptr k14 0 0, .ptr k12 0 0]]])], [(k28, 1, [[.p true (Sl.t r63 (⟨false, 0, []⟩ : Sl (Int × (Int × Int))))]])], [(k32, 0, [])], [(k30, 1, [[.p false (Sl.t r60 s10)]])], [(k31, 1, [[bC true]])], [(k13, 5, [[iC .i64 n18, iC .i64 n19, .p fr23 (Sl.t r3 s20), .p fr23 (Sl.t r3 s21), .p fr23 (Sl.t r2 s22)]])], [(k14, 3, [[iC .i64 0, .p true (Sl.t r60 (⟨false, 0, []⟩ : Sl (Int))), .p true (Sl.t r2 (⟨false, 0, []⟩ : Sl (Int)))]])], [(k12, 1, [[iC .i64 n1]])]] : BL)
                let J2 : (Unit ⊕ Empty) → Ex → St → Prop := JX 55 0 Sx2 SLx2 G2
                refine L_loopS (pull_Sums_b2 s20 s21 s22 n333) S2 SL2 J2 JX_n n341 h () (ups_self ⟨rfl, rfl, rfl, rfl, rfl, rfl, rfl, trivial⟩) [6, 7, 8, 0, 4, 5, 1, 2, 3] (by decide) rfl ?_ ?_
                · rintro n387 _ g out h
                  change pull_Sums_b2 s20 s21 s22 n333 n387 = some out at h
                  unfold pull_Sums_b2 at h
                  refine L_seq ?_
                  refine L_seq ?_
                  refine L_ops ?_
                  refine ol_put rfl rfl rfl (q_move (v := .one (iC .i64 n387)) rfl) ?_
                  refine ol_put rfl rfl rfl (q_fieldP rfl fa33_2 rfl) ?_
                  refine ol_put rfl rfl rfl (q_loadP (v := .one (.p fr23 (Sl.t r3 s20))) 0 rfl sz30 rfl rfl rfl rfl) ?_
                  refine ol_put rfl rfl rfl (q_move (v := .one (iC .i64 n333)) rfl) ?_
                  refine ol_put rfl rfl rfl (q_bin rfl rfl (p_add _ _ _ _ _ _ _) rfl) ?_
                  obtain ⟨n390, h389, h⟩ := bindS h
                  obtain ⟨h389a, h389b, h389⟩ := atS_some h389
                  refine ol_put rfl rfl rfl (q_ixS rfl rfl h389a h389 (el30.trans (congrArg some h389b.symm))) ?_
                  refine ol_put rfl rfl rfl (q_loadI (v := .one (iC .i64 n390)) rfl sz3 (map_get h389) rfl rfl) ?_
                  by_cases c391 : n387 < n390
                  · replace h := ifT c391 h
                    refine ol_put rfl rfl rfl (q_bin rfl rfl (p_lss_t _ _ _ _ _ c391) rfl) ?_
                    refine ol_end ?_
                    refine E_seq ?_
                    refine L_condT rfl ?_
                    refine L_skip ?_
                    refine E_seq ?_
                    refine L_seq ?_
                    refine L_block ?_
                    refine L_seq ?_
                    refine L_ops ?_
                    refine ol_put rfl rfl rfl (q_fieldP rfl fa33_3 rfl) ?_
                    refine ol_put rfl rfl rfl (q_loadP (v := .one (.p fr23 (Sl.t r3 s21))) 0 rfl sz30 rfl rfl rfl rfl) ?_
                    refine ol_put rfl rfl rfl (q_move (v := .one (iC .i64 n387)) rfl) ?_
                    obtain ⟨n394, h393, h⟩ := bindS h
                    obtain ⟨h393a, h393b, h393⟩ := atS_some h393
                    refine ol_put rfl rfl rfl (q_ixS rfl rfl h393a h393 (el30.trans (congrArg some h393b.symm))) ?_
                    refine ol_put rfl rfl rfl (q_loadI (v := .one (iC .i64 n394)) rfl sz3 (map_get h393) rfl rfl) ?_
                    refine ol_put rfl rfl rfl (q_assign (v := .one (iC .i64 n394)) rfl) ?_
                    refine ol_end ?_
                    refine E_seq ?_
                    refine L_seq ?_
                    refine L_seq ?_
                    refine L_ops ?_
                    refine ol_put rfl rfl rfl (q_fieldP rfl fa36_1 rfl) ?_
                    refine ol_put rfl rfl rfl (q_loadP (v := .one (.p true (Sl.t r60 (⟨false, 0, []⟩ : Sl (Int))))) 1 rfl sz26 rfl rfl rfl rfl) ?_
                    refine ol_put rfl rfl rfl (q_move (v := .one (iC .i64 n394)) rfl) ?_
                    obtain ⟨b396, h395, h⟩ := bindS h
                    refine ol_put rfl rfl rfl (q_callF (v := .one (bC b396)) (args := [.one (.p true (Sl.t r60 (⟨false, 0, []⟩ : Sl (Int)))), .one (iC .i64 n394)]) (flags_Has_r (m + 2) h395) rfl rfl (vw_cons (vd_one vc_s) (vw_cons (vd_one vc_v) vw_nil)) rfl rfl) ?_
                    rcases b396 with _ | _
                    · replace h := ifF (by decide) h
                      refine ol_put rfl rfl rfl (q_not rfl) ?_
                      refine ol_end ?_
                      refine E_seq ?_
                      refine L_condT rfl ?_
                      refine L_exit ?_
                      refine E_seqX ?_
                      refine E_blkH ?_
                      refine E_seq ?_
                      refine L_ops ?_
                      refine ol_put rfl rfl rfl (q_move (v := .one (iC .i64 n387)) rfl) ?_
                      refine ol_put rfl rfl rfl (q_bin rfl rfl (p_add _ _ _ _ _ _ _) rfl) ?_
                      refine ol_put rfl rfl rfl (q_assign (v := .one (iC .i64 (IntKind.i64.wrap (n387 + 1)))) rfl) ?_
                      refine ol_end ?_
                      obtain rfl := Option.some.inj h
                      exact E_next () (ups_self ⟨rfl, rfl, rfl, rfl, rfl, rfl, rfl, trivial⟩) [0, 1, 2, 3, 4, 5, 6, 7, 8] (by decide) rfl
                    · replace h := ifT (by decide) h
                      refine ol_put rfl rfl rfl (q_not rfl) ?_
                      refine ol_end ?_
                      refine E_seq ?_
                      refine L_condF rfl ?_
                      refine L_skip ?_
                      refine E_seq ?_
                      refine L_seq ?_
                      refine L_norm (L2 := ([[(k13, 5, [[iC .i64 n18, iC .i64 n19, .p fr23 (Sl.t r3 s20), .p fr23 (Sl.t r3 s21), .p fr23 (Sl.t r2 s22)]])], [(k14, 3, [[iC .i64 0, .p true (Sl.t r60 (⟨false, 0, []⟩ : Sl (Int))), .p true (Sl.t r2 (⟨false, 0, []⟩ : Sl (Int)))]])], [(k12, 1, [[iC .i64 n1]])], [(k338, 2, [[iC .i64 0, iC .u64 0]])], [(k27, 1, [[.clo (.func 37) [] [.ptr k13 0 0, .ptr k14 0 0, .ptr k12 0 0]]])], [(k28, 1, [[.p true (Sl.t r63 (⟨false, 0, []⟩ : Sl (Int × (Int × Int))))]])], [(k32, 0, [])], [(k30, 1, [[.p false (Sl.t r60 s10)]])], [(k31, 1, [[bC true]])]] : BL)) [0, 1, 2, 3, 4, 5, 6, 7, 8] (by decide) rfl ?_
                      refine L_turn 14 rfl [[], [], [], [], [], [], [], [], [], [], [], [], [], []] [(false, []), (false, []), (false, []), (false, []), (false, []), (false, []), (false, []), (false, []), (false, []), (false, []), (false, []), (false, []), (false, []), (false, [])] [[1, 2, 3, 4, 5, 6, 7, 8, 9, 10, 12], [0, 3, 6, 7, 8, 9, 10, 12], [0, 3, 6, 7, 8, 9, 10, 12], [0, 1, 2, 6, 7, 8, 9, 10, 12], [0, 6, 7, 8, 9, 10, 12], [0, 6, 7, 8, 9, 10, 12], [0, 1, 2, 3, 4, 5, 8, 12], [0, 1, 2, 3, 4, 5, 8, 12], [0, 1, 2, 3, 4, 5, 6, 7, 12], [0, 1, 2, 3, 4, 5, 12], [0, 1, 2, 3, 4, 5, 12], [12], [0, 1, 2, 3, 4, 5, 6, 7, 8, 9, 10, 11], []] (by kernel_rfl) (by kernel_rfl) (by kernel_rfl) ?_ (fun bb397 hlt hnd => ?_)
                      · intro bb397 hlt hnd
                        exact ⟨⟨djE, ⟨djE, ⟨djE, ⟨djE, ⟨djE, ⟨djE, ⟨djE, ⟨djE, ⟨djE, ⟨djE, ⟨djE, ⟨djE, ⟨djE, ⟨djE, trivial⟩⟩⟩⟩⟩⟩⟩⟩⟩⟩⟩⟩⟩⟩, (ltO_cons ltK_nil (ltO_cons ltK_nil (ltO_cons ltK_nil (ltO_cons ltK_nil (ltO_cons ltK_nil (ltO_cons ltK_nil (ltO_cons ltK_nil (ltO_cons ltK_nil (ltO_cons ltK_nil (ltO_cons ltK_nil (ltO_cons ltK_nil (ltO_cons ltK_nil (ltO_cons ltK_nil (ltO_cons ltK_nil ltO_nil))))))))))))))⟩
                      refine tn_put rfl rfl rfl [2] (by decide) rfl (hm0 rfl) rfl (q_loadP (v := .one (iC .i64 n1)) 0 rfl sz22 rfl rfl rfl rfl) ?_
                      refine tn_put rfl rfl rfl [] (by decide) rfl (hm0 rfl) rfl (q_fieldP rfl fa33_4 rfl) ?_
                      refine tn_put rfl rfl rfl [0] (by decide) rfl (hm0 rfl) rfl (q_loadP (v := .one (.p fr23 (Sl.t r2 s22))) 0 rfl sz31 rfl rfl rfl rfl) ?_
                      refine tn_put rfl rfl rfl [] (by decide) rfl (hm0 rfl) rfl (q_move (v := .one (iC .i64 n387)) rfl) ?_
                      obtain ⟨n406, h405, h⟩ := bindS h
                      obtain ⟨h405a, h405b, h405⟩ := atS_some h405
                      refine tn_put rfl rfl rfl [] (by decide) rfl (hm0 rfl) rfl (q_ixS rfl rfl h405a h405 (el31.trans (congrArg some h405b.symm))) ?_
                      refine tn_put rfl rfl rfl [] (by decide) rfl (hm0 rfl) rfl (q_loadI (v := .one (iC .i64 n406)) rfl sz2 (map_get h405) rfl rfl) ?_
                      refine tn_put rfl rfl rfl [] (by decide) rfl (hm0 rfl) rfl (q_fieldP rfl fa36_2 rfl) ?_
                      refine tn_put rfl rfl rfl [1] (by decide) rfl (hm0 rfl) rfl (q_loadP (v := .one (.p true (Sl.t r2 (⟨false, 0, []⟩ : Sl (Int))))) 0 rfl sz31 rfl rfl rfl rfl) ?_
                      refine tn_put rfl rfl rfl [] (by decide) rfl (hm0 rfl) rfl (q_move (v := .one (iC .i64 n394)) rfl) ?_
                      obtain ⟨n409, h408, h⟩ := bindS h
                      exact (atS_nil h408).elim
                  · replace h := ifF c391 h
                    refine ol_put rfl rfl rfl (q_bin rfl rfl (p_lss_f _ _ _ _ _ c391) rfl) ?_
                    refine ol_end ?_
                    refine E_seq ?_
                    refine L_condF rfl ?_
                    refine L_exit ?_
                    refine E_seqX ?_
                    obtain rfl := Option.some.inj h
                    refine E_out ?_
                    exact (E_exit () (ups_self ⟨rfl, rfl, trivial⟩) [3, 4, 5, 6, 7, 8, 0, 1, 2] (by decide) rfl)
                · rintro (_ | u) h
                  · refine J_x (fun kt g => ?_)
                    replace h := elimL h
                    refine E_blkH ?_
                    refine E_seq ?_
                    refine L_seq ?_
                    refine L_ops ?_
                    refine ol_put rfl rfl rfl (q_loadP (v := .agg [iC .i64 0, iC .u64 0]) 0 rfl sz62 rfl rfl rfl rfl) ?_
                    refine ol_put rfl rfl rfl (q_move (v := .one (bC false)) rfl) ?_
                    refine ol_wr rfl rfl (q_store (es' := [[iC .i64 0, iC .u64 0]]) 0 rfl rfl rfl sz62 rfl rfl rfl rfl rfl) rfl ?_
                    refine ol_put rfl rfl rfl (q_assign (v := .one (bC false)) rfl) ?_
                    refine ol_end ?_
                    refine E_seq ?_
                    refine L_ret ?_
                    refine E_call (v := .tup [.agg [iC .i64 0, iC .u64 0], .one (bC false)]) (.inr rfl) (res_cell (d := .agg [iC .i64 0, iC .u64 0]) 0 rfl sz62 rfl rfl rfl rfl (res_tmp (d := .one (bC false)) rfl res_nil)) rfl ?_
                    refine ol_put rfl rfl rfl (q_move (v := .tup [.agg [iC .i64 0, iC .u64 0], .one (bC false)]) rfl) ?_
                    refine ol_put rfl rfl rfl (q_ext (v := .agg [iC .i64 0, iC .u64 0]) rfl rfl) ?_
                    refine ol_put rfl rfl rfl (q_ext (v := .one (bC false)) rfl rfl) ?_
                    refine ol_new rfl rfl rfl (q_alloc ty62 (row := [iC .i64 0, iC .u64 0]) rfl rfl) (fun k410 => ?_)
                    refine ol_wr rfl rfl (q_store (es' := [[iC .i64 0, iC .u64 0]]) 0 rfl rfl rfl sz62 rfl rfl rfl rfl rfl) rfl ?_
                    refine ol_put rfl rfl rfl (q_assign (v := .one (bC false)) rfl) ?_
                    refine ol_end ?_
                    refine E_seq ?_
                    refine L_seq ?_
                    refine L_ops ?_
                    refine ol_put rfl rfl rfl (q_move (v := .one (bC false)) rfl) ?_
                    refine ol_end ?_
                    refine E_seq ?_
                    refine L_condF rfl ?_
                    refine L_skip ?_
                    refine E_blkN ?_
                    refine E_roundN (p := 4) rfl ?_
                    refine ol_put rfl rfl rfl (q_not rfl) ?_
                    refine ol_put rfl rfl rfl (q_pickT (v := .one (bC false)) rfl rfl) ?_
                    refine ol_end ?_
                    refine E_seq ?_
                    refine L_condF rfl ?_
                    refine L_skip ?_
                    refine E_blkN ?_
                    refine E_seq ?_
                    refine L_ops ?_
                    refine ol_put rfl rfl rfl (q_bin rfl rfl (p_add _ _ _ _ _ _ _) rfl) ?_
                    refine ol_put rfl rfl rfl (q_move (v := .one (iC .i64 (IntKind.i64.wrap (n333 + 1)))) rfl) ?_
                    refine ol_end ?_
                    obtain rfl := Option.some.inj h
                    exact E_next () (ups_self ⟨rfl, rfl, rfl, rfl, rfl, trivial⟩) [4, 5, 6, 2, 3, 7, 8, 9] (by decide) rfl
                  · exact u.elim
            · replace h := ifT (by decide) h
              rcases b334 with _ | _
              · replace h := ifF (by decide) h
                refine st_put rfl rfl rfl (q_binB rfl rfl (eqneqB4 _ _ _ _) rfl) ?_
                refine st_put rfl rfl rfl (q_move (v := .one (bC true)) rfl) ?_
                refine st_put rfl rfl rfl (q_move (v := .one (.yld k32)) rfl) ?_
                refine st_put rfl rfl rfl (q_move (v := .one (iC .i64 n333)) rfl) ?_
                refine st_cut ?_
                refine ol_yield (args := [.one (iC .i64 n333)]) (p := 0) rfl rfl rfl rfl rfl rfl rfl rfl rfl ?_
                refine L_ops ?_
                refine ol_put rfl rfl rfl (q_assign (v := .one (iC .i64 n333)) rfl) ?_
                refine ol_end ?_
                refine E_asg ?_
                refine L_block ?_
                refine L_seq ?_
                refine L_ops ?_
                refine ol_put rfl rfl rfl (q_loadP (v := .one (.clo (.func 37) [] [.ptr k13 0 0, .ptr k14 0 0, .ptr k12 0 0])) 3 rfl sz81 rfl rfl rfl rfl) ?_
                refine ol_put rfl rfl rfl (q_move (v := .one (iC .i64 n333)) rfl) ?_
                refine ol_scall (args := [.one (iC .i64 n333), .one (.ptr k13 0 0), .one (.ptr k14 0 0), .one (.ptr k12 0 0)]) rfl rfl rfl rfl (by rw [E1_fn]; exact show fiOf Tryd.prog 37 = _ by unfold fiOf; rw [Tryd.func37]; unfold Tryd.f37; rfl) rfl rfl rfl ?_
                dsimp only
                refine L_seq ?_
                refine L_ops ?_
                refine ol_new rfl rfl rfl (q_alloc ty62 (row := [iC .i64 0, iC .u64 0]) rfl rfl) (fun k411 => ?_)
                refine ol_put rfl rfl rfl (q_assign (v := .one (bC false)) rfl) ?_
                refine ol_end ?_
                refine E_seq ?_
                refine L_seq ?_
                refine L_seq ?_
                refine L_ops ?_
                refine ol_put rfl rfl rfl (q_fieldP rfl fa33_2 rfl) ?_
                refine ol_put rfl rfl rfl (q_loadP (v := .one (.p fr23 (Sl.t r3 s20))) 6 rfl sz30 rfl rfl rfl rfl) ?_
                refine ol_put rfl rfl rfl (q_move (v := .one (iC .i64 n333)) rfl) ?_
                obtain ⟨n414, h413, h⟩ := bindS h
                obtain ⟨h413a, h413b, h413⟩ := atS_some h413
                refine ol_put rfl rfl rfl (q_ixS rfl rfl h413a h413 (el30.trans (congrArg some h413b.symm))) ?_
                refine ol_put rfl rfl rfl (q_loadI (v := .one (iC .i64 n414)) rfl sz3 (map_get h413) rfl rfl) ?_
                refine ol_put rfl rfl rfl (q_assign (v := .one (iC .i64 n414)) rfl) ?_
                refine ol_end ?_
                refine E_seq ?_
                refine L_block ?_
                let S3 : Int → Unit → (Nat → D) → Nat → D := fun a kt g => ups g [(0, .one (iC .i64 n333)), (1, .one (.ptr k13 0 0)), (2, .one (.ptr k14 0 0)), (3, .one (.ptr k12 0 0)), (5, .one (.ptr k411 0 0)), (6, .one (bC false)), (7, .one (iC .i64 a))]
                let SL3 : Int → Unit → BL := fun a kt => ([[(k13, 5, [[iC .i64 n18, iC .i64 n19, .p fr23 (Sl.t r3 s20), .p fr23 (Sl.t r3 s21), .p fr23 (Sl.t r2 s22)]])], [(k14, 3, [[iC .i64 0, .p true (Sl.t r60 (⟨false, 0, []⟩ : Sl (Int))), .p true (Sl.t r2 (⟨false, 0, []⟩ : Sl (Int)))]])], [(k12, 1, [[iC .i64 n1]])], [(k411, 2, [[iC .i64 0, iC .u64 0]])], [(k27, 1, [[.clo (.func 37) [] [.ptr k13 0 0, .ptr k14 0 0, .ptr k12 0 0]]])], [(k28, 1, [[.p true (Sl.t r63 (⟨false, 0, []⟩ : Sl (Int × (Int × Int))))]])], [(k32, 0, [])], [(k30, 1, [[.p false (Sl.t r60 s10)]])], [(k31, 1, [[bC false]])]] : BL)
                let G3 : Empty → Ex → St → Prop := fun u => u.elim
                let Sx3 : Unit → Unit → (Nat → D) → Nat → D := fun a kt g => ups g [(5, .one (.ptr k411 0 0)), (6, .one (bC false))]
                let SLx3 : Unit → Unit → BL := fun a kt => ([[(k411, 2, [[iC .i64 0, iC .u64 0]])], [(k27, 1, [[.clo (.func 37) [] [.ptr k13 0 0, .ptr k14 0 0, .ptr k12 0 0]]])], [(k28, 1, [[.p true (Sl.t r63 (⟨false, 0, []⟩ : Sl (Int × (Int × Int))))]])], [(k32, 0, [])], [(k30, 1, [[.p false (Sl.t r60 s10)]])], [(k31, 1, [[bC false]])], [(k13, 5, [[iC .i64 n18, iC .i64 n19, .p fr23 (Sl.t r3 s20), .p fr23 (Sl.t r3 s21), .p fr23 (Sl.t r2 s22)]])], [(k14, 3, [[iC .i64 0, .p true (Sl.t r60 (⟨false, 0, []⟩ : Sl (Int))), .p true (Sl.t r2 (⟨false, 0, []⟩ : Sl (Int)))]])], [(k12, 1, [[iC .i64 n1]])]] : BL)
                let J3 : (Unit ⊕ Empty) → Ex → St → Prop := JX 55 0 Sx3 SLx3 G3
                refine L_loopS (pull_Sums_b3 s20 s21 s22 n333) S3 SL3 J3 JX_n n414 h () (ups_self ⟨rfl, rfl, rfl, rfl, rfl, rfl, rfl, trivial⟩) [6, 7, 8, 0, 4, 5, 1, 2, 3] (by decide) rfl ?_ ?_
                · rintro n460 _ g out h
                  change pull_Sums_b3 s20 s21 s22 n333 n460 = some out at h
                  unfold pull_Sums_b3 at h
                  refine L_seq ?_
                  refine L_seq ?_
                  refine L_ops ?_
                  refine ol_put rfl rfl rfl (q_move (v := .one (iC .i64 n460)) rfl) ?_
                  refine ol_put rfl rfl rfl (q_fieldP rfl fa33_2 rfl) ?_
                  refine ol_put rfl rfl rfl (q_loadP (v := .one (.p fr23 (Sl.t r3 s20))) 0 rfl sz30 rfl rfl rfl rfl) ?_
                  refine ol_put rfl rfl rfl (q_move (v := .one (iC .i64 n333)) rfl) ?_
                  refine ol_put rfl rfl rfl (q_bin rfl rfl (p_add _ _ _ _ _ _ _) rfl) ?_
                  obtain ⟨n463, h462, h⟩ := bindS h
                  obtain ⟨h462a, h462b, h462⟩ := atS_some h462
                  refine ol_put rfl rfl rfl (q_ixS rfl rfl h462a h462 (el30.trans (congrArg some h462b.symm))) ?_
                  refine ol_put rfl rfl rfl (q_loadI (v := .one (iC .i64 n463)) rfl sz3 (map_get h462) rfl rfl) ?_
                  by_cases c464 : n460 < n463
                  · replace h := ifT c464 h
                    refine ol_put rfl rfl rfl (q_bin rfl rfl (p_lss_t _ _ _ _ _ c464) rfl) ?_
                    refine ol_end ?_
                    refine E_seq ?_
                    refine L_condT rfl ?_
                    refine L_skip ?_
                    refine E_seq ?_
                    refine L_seq ?_
                    refine L_block ?_
                    refine L_seq ?_
                    refine L_ops ?_
                    refine ol_put rfl rfl rfl (q_fieldP rfl fa33_3 rfl) ?_
                    refine ol_put rfl rfl rfl (q_loadP (v := .one (.p fr23 (Sl.t r3 s21))) 0 rfl sz30 rfl rfl rfl rfl) ?_
                    refine ol_put rfl rfl rfl (q_move (v := .one (iC .i64 n460)) rfl) ?_
                    obtain ⟨n467, h466, h⟩ := bindS h
                    obtain ⟨h466a, h466b, h466⟩ := atS_some h466
                    refine ol_put rfl rfl rfl (q_ixS rfl rfl h466a h466 (el30.trans (congrArg some h466b.symm))) ?_
                    refine ol_put rfl rfl rfl (q_loadI (v := .one (iC .i64 n467)) rfl sz3 (map_get h466) rfl rfl) ?_
                    refine ol_put rfl rfl rfl (q_assign (v := .one (iC .i64 n467)) rfl) ?_
                    refine ol_end ?_
                    refine E_seq ?_
                    refine L_seq ?_
                    refine L_seq ?_
                    refine L_ops ?_
                    refine ol_put rfl rfl rfl (q_fieldP rfl fa36_1 rfl) ?_
                    refine ol_put rfl rfl rfl (q_loadP (v := .one (.p true (Sl.t r60 (⟨false, 0, []⟩ : Sl (Int))))) 1 rfl sz26 rfl rfl rfl rfl) ?_
                    refine ol_put rfl rfl rfl (q_move (v := .one (iC .i64 n467)) rfl) ?_
                    obtain ⟨b469, h468, h⟩ := bindS h
                    refine ol_put rfl rfl rfl (q_callF (v := .one (bC b469)) (args := [.one (.p true (Sl.t r60 (⟨false, 0, []⟩ : Sl (Int)))), .one (iC .i64 n467)]) (flags_Has_r (m + 2) h468) rfl rfl (vw_cons (vd_one vc_s) (vw_cons (vd_one vc_v) vw_nil)) rfl rfl) ?_
                    rcases b469 with _ | _
                    · replace h := ifF (by decide) h
                      refine ol_put rfl rfl rfl (q_not rfl) ?_
                      refine ol_end ?_
                      refine E_seq ?_
                      refine L_condT rfl ?_
                      refine L_exit ?_
                      refine E_seqX ?_
                      refine E_blkH ?_
                      refine E_seq ?_
                      refine L_ops ?_
                      refine ol_put rfl rfl rfl (q_move (v := .one (iC .i64 n460)) rfl) ?_
                      refine ol_put rfl rfl rfl (q_bin rfl rfl (p_add _ _ _ _ _ _ _) rfl) ?_
                      refine ol_put rfl rfl rfl (q_assign (v := .one (iC .i64 (IntKind.i64.wrap (n460 + 1)))) rfl) ?_
                      refine ol_end ?_
                      obtain rfl := Option.some.inj h
                      exact E_next () (ups_self ⟨rfl, rfl, rfl, rfl, rfl, rfl, rfl, trivial⟩) [0, 1, 2, 3, 4, 5, 6, 7, 8] (by decide) rfl
                    · replace h := ifT (by decide) h
                      refine ol_put rfl rfl rfl (q_not rfl) ?_
                      refine ol_end ?_
                      refine E_seq ?_
                      refine L_condF rfl ?_
                      refine L_skip ?_
                      refine E_seq ?_
                      refine L_seq ?_
                      refine L_norm (L2 := ([[(k13, 5, [[iC .i64 n18, iC .i64 n19, .p fr23 (Sl.t r3 s20), .p fr23 (Sl.t r3 s21), .p fr23 (Sl.t r2 s22)]])], [(k14, 3, [[iC .i64 0, .p true (Sl.t r60 (⟨false, 0, []⟩ : Sl (Int))), .p true (Sl.t r2 (⟨false, 0, []⟩ : Sl (Int)))]])], [(k12, 1, [[iC .i64 n1]])], [(k411, 2, [[iC .i64 0, iC .u64 0]])], [(k27, 1, [[.clo (.func 37) [] [.ptr k13 0 0, .ptr k14 0 0, .ptr k12 0 0]]])], [(k28, 1, [[.p true (Sl.t r63 (⟨false, 0, []⟩ : Sl (Int × (Int × Int))))]])], [(k32, 0, [])], [(k30, 1, [[.p false (Sl.t r60 s10)]])], [(k31, 1, [[bC false]])]] : BL)) [0, 1, 2, 3, 4, 5, 6, 7, 8] (by decide) rfl ?_
                      refine L_turn 14 rfl [[], [], [], [], [], [], [], [], [], [], [], [], [], []] [(false, []), (false, []), (false, []), (false, []), (false, []), (false, []), (false, []), (false, []), (false, []), (false, []), (false, []), (false, []), (false, []), (false, [])] [[1, 2, 3, 4, 5, 6, 7, 8, 9, 10, 12], [0, 3, 6, 7, 8, 9, 10, 12], [0, 3, 6, 7, 8, 9, 10, 12], [0, 1, 2, 6, 7, 8, 9, 10, 12], [0, 6, 7, 8, 9, 10, 12], [0, 6, 7, 8, 9, 10, 12], [0, 1, 2, 3, 4, 5, 8, 12], [0, 1, 2, 3, 4, 5, 8, 12], [0, 1, 2, 3, 4, 5, 6, 7, 12], [0, 1, 2, 3, 4, 5, 12], [0, 1, 2, 3, 4, 5, 12], [12], [0, 1, 2, 3, 4, 5, 6, 7, 8, 9, 10, 11], []] (by kernel_rfl) (by kernel_rfl) (by kernel_rfl) ?_ (fun bb470 hlt hnd => ?_)
                      · intro bb470 hlt hnd
                        exact ⟨⟨djE, ⟨djE, ⟨djE, ⟨djE, ⟨djE, ⟨djE, ⟨djE, ⟨djE, ⟨djE, ⟨djE, ⟨djE, ⟨djE, ⟨djE, ⟨djE, trivial⟩⟩⟩⟩⟩⟩⟩⟩⟩⟩⟩⟩⟩⟩, (ltO_cons ltK_nil (ltO_cons ltK_nil (ltO_cons ltK_nil (ltO_cons ltK_nil (ltO_cons ltK_nil (ltO_cons ltK_nil (ltO_cons ltK_nil (ltO_cons ltK_nil (ltO_cons ltK_nil (ltO_cons ltK_nil (ltO_cons ltK_nil (ltO_cons ltK_nil (ltO_cons ltK_nil (ltO_cons ltK_nil ltO_nil))))))))))))))⟩
                      refine tn_put rfl rfl rfl [2] (by decide) rfl (hm0 rfl) rfl (q_loadP (v := .one (iC .i64 n1)) 0 rfl sz22 rfl rfl rfl rfl) ?_
                      refine tn_put rfl rfl rfl [] (by decide) rfl (hm0 rfl) rfl (q_fieldP rfl fa33_4 rfl) ?_
                      refine tn_put rfl rfl rfl [0] (by decide) rfl (hm0 rfl) rfl (q_loadP (v := .one (.p fr23 (Sl.t r2 s22))) 0 rfl sz31 rfl rfl rfl rfl) ?_
                      refine tn_put rfl rfl rfl [] (by decide) rfl (hm0 rfl) rfl (q_move (v := .one (iC .i64 n460)) rfl) ?_
                      obtain ⟨n479, h478, h⟩ := bindS h
                      obtain ⟨h478a, h478b, h478⟩ := atS_some h478
                      refine tn_put rfl rfl rfl [] (by decide) rfl (hm0 rfl) rfl (q_ixS rfl rfl h478a h478 (el31.trans (congrArg some h478b.symm))) ?_
                      refine tn_put rfl rfl rfl [] (by decide) rfl (hm0 rfl) rfl (q_loadI (v := .one (iC .i64 n479)) rfl sz2 (map_get h478) rfl rfl) ?_
                      refine tn_put rfl rfl rfl [] (by decide) rfl (hm0 rfl) rfl (q_fieldP rfl fa36_2 rfl) ?_
                      refine tn_put rfl rfl rfl [1] (by decide) rfl (hm0 rfl) rfl (q_loadP (v := .one (.p true (Sl.t r2 (⟨false, 0, []⟩ : Sl (Int))))) 0 rfl sz31 rfl rfl rfl rfl) ?_
                      refine tn_put rfl rfl rfl [] (by decide) rfl (hm0 rfl) rfl (q_move (v := .one (iC .i64 n467)) rfl) ?_
                      obtain ⟨n482, h481, h⟩ := bindS h
                      exact (atS_nil h481).elim
                  · replace h := ifF c464 h
                    refine ol_put rfl rfl rfl (q_bin rfl rfl (p_lss_f _ _ _ _ _ c464) rfl) ?_
                    refine ol_end ?_
                    refine E_seq ?_
                    refine L_condF rfl ?_
                    refine L_exit ?_
                    refine E_seqX ?_
                    obtain rfl := Option.some.inj h
                    refine E_out ?_
                    exact (E_exit () (ups_self ⟨rfl, rfl, trivial⟩) [3, 4, 5, 6, 7, 8, 0, 1, 2] (by decide) rfl)
                · rintro (_ | u) h
                  · refine J_x (fun kt g => ?_)
                    replace h := elimL h
                    refine E_blkH ?_
                    refine E_seq ?_
                    refine L_seq ?_
                    refine L_ops ?_
                    refine ol_put rfl rfl rfl (q_loadP (v := .agg [iC .i64 0, iC .u64 0]) 0 rfl sz62 rfl rfl rfl rfl) ?_
                    refine ol_put rfl rfl rfl (q_move (v := .one (bC false)) rfl) ?_
                    refine ol_wr rfl rfl (q_store (es' := [[iC .i64 0, iC .u64 0]]) 0 rfl rfl rfl sz62 rfl rfl rfl rfl rfl) rfl ?_
                    refine ol_put rfl rfl rfl (q_assign (v := .one (bC false)) rfl) ?_
                    refine ol_end ?_
                    refine E_seq ?_
                    refine L_ret ?_
                    refine E_call (v := .tup [.agg [iC .i64 0, iC .u64 0], .one (bC false)]) (.inr rfl) (res_cell (d := .agg [iC .i64 0, iC .u64 0]) 0 rfl sz62 rfl rfl rfl rfl (res_tmp (d := .one (bC false)) rfl res_nil)) rfl ?_
                    refine ol_put rfl rfl rfl (q_move (v := .tup [.agg [iC .i64 0, iC .u64 0], .one (bC false)]) rfl) ?_
                    refine ol_put rfl rfl rfl (q_ext (v := .agg [iC .i64 0, iC .u64 0]) rfl rfl) ?_
                    refine ol_put rfl rfl rfl (q_ext (v := .one (bC false)) rfl rfl) ?_
                    refine ol_new rfl rfl rfl (q_alloc ty62 (row := [iC .i64 0, iC .u64 0]) rfl rfl) (fun k483 => ?_)
                    refine ol_wr rfl rfl (q_store (es' := [[iC .i64 0, iC .u64 0]]) 0 rfl rfl rfl sz62 rfl rfl rfl rfl rfl) rfl ?_
                    refine ol_put rfl rfl rfl (q_assign (v := .one (bC false)) rfl) ?_
                    refine ol_end ?_
                    refine E_seq ?_
                    refine L_seq ?_
                    refine L_ops ?_
                    refine ol_put rfl rfl rfl (q_move (v := .one (bC false)) rfl) ?_
                    refine ol_end ?_
                    refine E_seq ?_
                    refine L_condF rfl ?_
                    refine L_skip ?_
                    refine E_blkN ?_
                    refine E_roundN (p := 4) rfl ?_
                    refine ol_put rfl rfl rfl (q_not rfl) ?_
                    refine ol_put rfl rfl rfl (q_pickT (v := .one (bC false)) rfl rfl) ?_
                    refine ol_end ?_
                    refine E_seq ?_
                    refine L_condF rfl ?_
                    refine L_skip ?_
                    refine E_blkN ?_
                    refine E_seq ?_
                    refine L_ops ?_
                    refine ol_put rfl rfl rfl (q_bin rfl rfl (p_add _ _ _ _ _ _ _) rfl) ?_
                    refine ol_put rfl rfl rfl (q_move (v := .one (iC .i64 (IntKind.i64.wrap (n333 + 1)))) rfl) ?_
                    refine ol_end ?_
                    obtain rfl := Option.some.inj h
                    exact E_next () (ups_self ⟨rfl, rfl, rfl, rfl, rfl, trivial⟩) [4, 5, 6, 2, 3, 7, 8, 9] (by decide) rfl
                  · exact u.elim
              · replace h := ifT (by decide) h
                refine st_put rfl rfl rfl (q_binB rfl rfl (eqneqB4 _ _ _ _) rfl) ?_
                refine st_put rfl rfl rfl (q_move (v := .one (bC false)) rfl) ?_
                refine st_skip rfl rfl rfl ?_
                refine st_skip rfl rfl rfl ?_
                refine st_cut ?_
                refine ol_skip rfl rfl rfl ?_
                refine ol_skip rfl rfl rfl ?_
                refine ol_put rfl rfl rfl (q_pickF (v := .one (bC false)) rfl rfl) ?_
                refine ol_end ?_
                refine E_seq ?_
                refine L_condF rfl ?_
                refine L_skip ?_
                refine E_blkN ?_
                refine E_seq ?_
                refine L_ops ?_
                refine ol_put rfl rfl rfl (q_bin rfl rfl (p_add _ _ _ _ _ _ _) rfl) ?_
                refine ol_put rfl rfl rfl (q_move (v := .one (iC .i64 (IntKind.i64.wrap (n333 + 1)))) rfl) ?_
                refine ol_end ?_
                obtain rfl := Option.some.inj h
                exact E_next () (ups_self ⟨rfl, rfl, rfl, rfl, rfl, trivial⟩) [0, 1, 2, 3, 4, 5, 6, 7] (by decide) rfl
          · replace h := ifF c335 h
            refine ol_put rfl rfl rfl (q_bin rfl rfl (p_lss_f _ _ _ _ _ c335) rfl) ?_
            refine ol_end ?_
            refine E_seq ?_
            refine L_seq ?_
            refine L_condF rfl ?_
            refine L_exit ?_
            refine E_seqX ?_
            obtain rfl := Option.some.inj h
            refine E_out ?_
            exact (E_exit () (ups_self trivial) [3, 4, 0, 5, 6, 7] (by decide) rfl)
        · rintro (_ | u) h
          · refine J_x (fun kt g => ?_)
            replace h := elimL h
            refine E_blkH ?_
            refine E_range (p := 2) (.inl rfl) rfl ?_
            refine E_blkN ?_
            refine E_seq ?_
            refine L_seq ?_
            refine L_ops ?_
            refine ol_put rfl rfl rfl (q_loadP (v := .one (.p true (Sl.t r63 (⟨false, 0, []⟩ : Sl (Int × (Int × Int)))))) 1 rfl sz29 rfl rfl rfl rfl) ?_
            refine ol_put rfl rfl rfl (q_assign (v := .one (.p true (Sl.t r63 (⟨false, 0, []⟩ : Sl (Int × (Int × Int)))))) rfl) ?_
            refine ol_put rfl rfl rfl (q_assign (v := .one (iC .i64 0)) rfl) ?_
            refine ol_end ?_
            refine E_seq ?_
            refine L_ret ?_
            obtain rfl := Option.some.inj h
            exact E_endF (.inr rfl) (res_tmp rfl (res_tmp rfl res_nil)) (vw_cons (vd_one vc_s) (vw_cons (vd_one vc_v) vw_nil)) (fun h hb => own_no2) rfl rfl
          · exact u.elim
    · replace h := ifT (by decide) h
      refine ol_put rfl rfl rfl (q_not rfl) ?_
      refine ol_end ?_
      refine E_seq ?_
      refine L_condF rfl ?_
      refine L_skip ?_
      refine E_seq ?_
      refine L_seq ?_
      refine L_seq ?_
      refine L_ops ?_
      refine ol_put rfl rfl rfl (q_fieldP rfl fa36_0 rfl) ?_
      refine ol_put rfl rfl rfl (q_loadP (v := .one (iC .i64 n7)) 0 rfl sz3 rfl rfl rfl rfl) ?_
      refine ol_put rfl rfl rfl (q_fieldP rfl fa33_1 rfl) ?_
      refine ol_put rfl rfl rfl (q_loadP (v := .one (iC .i64 n19)) 1 rfl sz3 rfl rfl rfl rfl) ?_
      by_cases c484 : n7 ≠ n19
      · replace h := ifT c484 h
        refine ol_put rfl rfl rfl (q_bin rfl rfl (p_neq_t _ _ _ _ _ c484) rfl) ?_
        refine ol_end ?_
        refine E_seq ?_
        refine L_condT rfl ?_
        refine L_seq ?_
        refine L_ops ?_
        refine ol_put rfl rfl rfl (q_assign (v := .one (.p true (Sl.t r63 (⟨false, 0, []⟩ : Sl (Int × (Int × Int)))))) rfl) ?_
        refine ol_put rfl rfl rfl (q_assign (v := .one (iC .i64 4)) rfl) ?_
        refine ol_end ?_
        refine E_seq ?_
        refine L_ret ?_
        refine E_seqR ?_
        obtain rfl := Option.some.inj h
        exact E_endF (.inr rfl) (res_tmp rfl (res_tmp rfl res_nil)) (vw_cons (vd_one vc_s) (vw_cons (vd_one vc_v) vw_nil)) (fun h hb => own_no2) rfl rfl
      · replace h := ifF c484 h
        refine ol_put rfl rfl rfl (q_bin rfl rfl (p_neq_f _ _ _ _ _ c484) rfl) ?_
        refine ol_end ?_
        refine E_seq ?_
        refine L_condF rfl ?_
        refine L_skip ?_
        refine E_seq ?_
        refine L_seq ?_
        refine L_ops ?_
        refine ol_put rfl rfl rfl (q_mkfun rfl rfl) ?_
        refine ol_new rfl rfl rfl (q_alloc ty81 (row := [.p true (.v .nilFunc)]) rfl rfl) (fun k485 => ?_)
        refine ol_wr rfl rfl (q_store (es' := [[.clo (.func 37) [] [.ptr k13 0 0, .ptr k14 0 0, .ptr k12 0 0]]]) 0 rfl rfl rfl sz81 rfl rfl rfl rfl rfl) rfl ?_
        refine ol_end ?_
        refine E_seq ?_
        refine L_seq ?_
        refine L_ops ?_
        refine ol_new rfl rfl rfl (q_alloc ty29 (row := [.p true (Sl.t r63 (⟨false, 0, []⟩ : Sl (Int × (Int × Int))))]) rfl rfl) (fun k486 => ?_)
        refine ol_end ?_
        refine E_seq ?_
        refine L_seq ?_
        refine L_seq ?_
        refine L_ops ?_
        refine ol_put rfl rfl rfl (q_fieldP rfl fa33_0 rfl) ?_
        refine ol_put rfl rfl rfl (q_loadP (v := .one (iC .i64 n18)) 3 rfl sz3 rfl rfl rfl rfl) ?_
        refine ol_put rfl rfl rfl (q_move (v := .one (.p false (Sl.t r60 s10))) rfl) ?_
        refine ol_put rfl rfl rfl (q_move (v := .one (bC b11)) rfl) ?_
        refine ol_scallN (args := [.one (iC .i64 n18), .one (.p false (Sl.t r60 s10)), .one (bC b11)]) rfl rfl rfl ax41 (by rw [E1_fn]; exact show fiOf Tryd.prog 41 = _ by unfold fiOf; rw [Tryd.func41]; unfold Tryd.f41; rfl) rfl rfl rfl ?_
        dsimp only
        refine L_seq ?_
        refine L_ops ?_
        refine ol_new rfl rfl rfl (q_box ty3 rfl (cs := [iC .i64 n18]) rfl rfl) (fun k487 => ?_)
        refine ol_new rfl rfl rfl (q_box ty26 rfl (cs := [.p false (Sl.t r60 s10)]) rfl rfl) (fun k488 => ?_)
        refine ol_new rfl rfl rfl (q_box ty4 rfl (cs := [bC b11]) rfl rfl) (fun k489 => ?_)
        refine ol_put rfl rfl rfl (q_assign (v := .one (.p true (.v .nilFunc))) rfl) ?_
        refine ol_end ?_
        refine E_seq ?_
        refine L_seq ?_
        refine L_ops ?_
        refine ol_put rfl rfl rfl (q_mkfun rfl rfl) ?_
        refine ol_put rfl rfl rfl (q_assign (v := .one (.clo (.func 73) [] [.ptr k487 0 0, .ptr k488 0 0, .ptr k489 0 0])) rfl) ?_
        refine ol_end ?_
        refine E_seq ?_
        refine L_ret ?_
        refine E_call (v := .one (.clo (.func 73) [] [.ptr k487 0 0, .ptr k488 0 0, .ptr k489 0 0])) (.inr rfl) (res_tmp (d := .one (.clo (.func 73) [] [.ptr k487 0 0, .ptr k488 0 0, .ptr k489 0 0])) rfl res_nil) rfl ?_
        refine ol_end ?_
        refine E_seq ?_
        refine L_block ?_
        refine L_range rfl (by rw [E1_fn]; exact show fiOf Tryd.prog 73 = _ by unfold fiOf; rw [Tryd.func73]; unfold Tryd.f73; rfl) rfl rfl (fun k490 => ?_)
        dsimp only
        refine L_seq ?_
        refine L_ops ?_
        refine ol_put rfl rfl rfl (q_loadP (v := .one (iC .i64 n18)) 3 rfl sz3 rfl rfl rfl rfl) ?_
        refine ol_put rfl rfl rfl (q_move (v := .one (iC .i64 0)) rfl) ?_
        refine ol_end ?_
        refine E_seq ?_
        refine L_block ?_
        refine L_addM (α := Int × (Int × Int)) r63 3 ?_
        let S4 : (Int × Bool × (List (Int × (Int × Int)))) → Nat → (Nat → D) → Nat → D := fun a kt g => ups g [(0, .one (.yld k490)), (2, .one (.ptr k488 0 0)), (3, .one (.ptr k489 0 0)), (6, .one (iC .i64 n18)), (7, .one (iC .i64 a.1))]
        let SL4 : (Int × Bool × (List (Int × (Int × Int)))) → Nat → BL := fun a kt => ([[(k490, 0, [])], [(k488, 1, [[.p false (Sl.t r60 s10)]])], [(k489, 1, [[bC a.2.1]])], [(k485, 1, [[.clo (.func 37) [] [.ptr k13 0 0, .ptr k14 0 0, .ptr k12 0 0]]])], [(k486, 1, [[moC a.2.2 kt]])], [(k13, 5, [[iC .i64 n18, iC .i64 n19, .p fr23 (Sl.t r3 s20), .p fr23 (Sl.t r3 s21), .p fr23 (Sl.t r2 s22)]])], [(k14, 3, [[iC .i64 n7, .p false (Sl.t r60 s8), .p false (Sl.t r2 s9)]])], [(k12, 1, [[iC .i64 n1]])], moL r63 3 a.2.2 kt] : BL)
        let G4 : Empty → Ex → St → Prop := fun u => u.elim
        let Sx4 : (List (Int × (Int × Int))) → Nat → (Nat → D) → Nat → D := fun a kt g => ups g []
        let SLx4 : (List (Int × (Int × Int))) → Nat → BL := fun a kt => ([[(k485, 1, [[.clo (.func 37) [] [.ptr k13 0 0, .ptr k14 0 0, .ptr k12 0 0]]])], [(k486, 1, [[moC a kt]])], [(k490, 0, [])], [(k13, 5, [[iC .i64 n18, iC .i64 n19, .p fr23 (Sl.t r3 s20), .p fr23 (Sl.t r3 s21), .p fr23 (Sl.t r2 s22)]])], [(k14, 3, [[iC .i64 n7, .p false (Sl.t r60 s8), .p false (Sl.t r2 s9)]])], [(k12, 1, [[iC .i64 n1]])], moL r63 3 a kt] : BL)
        let J4 : ((List (Int × (Int × Int))) ⊕ Empty) → Ex → St → Prop := JX 22 0 Sx4 SLx4 G4
        refine L_loopS (pull_Sums_b4 n1 s8 s9 s10 n18 s20 s21 s22) S4 SL4 J4 JX_n (0, b11, ([] : List (Int × (Int × Int)))) h 2337 (ups_self ⟨rfl, rfl, rfl, rfl, rfl, trivial⟩) [1, 3, 2, 6, 5, 8, 7, 9, 0] (by decide) rfl ?_ ?_
        · rintro ⟨n1339, b1340, l1341⟩ k1342 g out h
          change pull_Sums_b4 n1 s8 s9 s10 n18 s20 s21 s22 (n1339, b1340, l1341) = some out at h
          unfold pull_Sums_b4 at h
          refine L_seq ?_
          refine L_ops ?_
          by_cases c1343 : n1339 < n18
          · replace h := ifT c1343 h
            refine ol_put rfl rfl rfl (q_bin rfl rfl (p_lss_t _ _ _ _ _ c1343) rfl) ?_
            refine ol_end ?_
            refine E_seq ?_
            refine L_seq ?_
            refine L_condT rfl ?_
            refine L_skip ?_
            refine E_seq ?_
            refine L_seq ?_
            refine L_block ?_
            refine L_seq ?_
            refine L_ops ?_
            refine ol_put rfl rfl rfl (q_move (v := .one (iC .i64 n1339)) rfl) ?_
            refine ol_put rfl rfl rfl (q_assign (v := .one (iC .i64 n1339)) rfl) ?_
            refine ol_end ?_
            refine E_seq ?_
            refine L_seq ?_
            refine L_cut 8 (by kernel_rfl) (by kernel_rfl) ?_
            refine st_put rfl rfl rfl (q_loadP (v := .one (.p false (Sl.t r60 s10))) 1 rfl sz26 rfl rfl rfl rfl) ?_
            refine st_put rfl rfl rfl (q_move (v := .one (iC .i64 n1339)) rfl) ?_
            obtain ⟨b1345, h1344, h⟩ := bindS h
            refine st_put rfl rfl rfl (q_callF (v := .one (bC b1345)) (args := [.one (.p false (Sl.t r60 s10)), .one (iC .i64 n1339)]) (flags_Has_r (m + 2) h1344) rfl rfl (vw_cons (vd_one vc_s) (vw_cons (vd_one vc_v) vw_nil)) rfl rfl) ?_
            refine st_put rfl rfl rfl (q_loadP (v := .one (bC b1340)) 2 rfl sz4 rfl rfl rfl rfl) ?_
            rcases b1345 with _ | _
            · replace h := ifF (by decide) h
              rcases b1340 with _ | _
              · replace h := ifF (by decide) h
                refine st_put rfl rfl rfl (q_binB rfl rfl (eqneqB4 _ _ _ _) rfl) ?_
                refine st_put rfl rfl rfl (q_move (v := .one (bC false)) rfl) ?_
                refine st_skip rfl rfl rfl ?_
                refine st_skip rfl rfl rfl ?_
                refine st_cut ?_
                refine ol_skip rfl rfl rfl ?_
                refine ol_skip rfl rfl rfl ?_
                refine ol_put rfl rfl rfl (q_pickF (v := .one (bC false)) rfl rfl) ?_
                refine ol_end ?_
                refine E_seq ?_
                refine L_condF rfl ?_
                refine L_skip ?_
                refine E_blkN ?_
                refine E_seq ?_
                refine L_ops ?_
                refine ol_put rfl rfl rfl (q_bin rfl rfl (p_add _ _ _ _ _ _ _) rfl) ?_
                refine ol_put rfl rfl rfl (q_move (v := .one (iC .i64 (IntKind.i64.wrap (n1339 + 1)))) rfl) ?_
                refine ol_end ?_
                obtain rfl := Option.some.inj h
                exact E_next k1342 (ups_self ⟨rfl, rfl, rfl, rfl, rfl, trivial⟩) [0, 1, 2, 3, 4, 5, 6, 7, 8] (by decide) rfl
              · replace h := ifT (by decide) h
                refine st_put rfl rfl rfl (q_binB rfl rfl (eqneqB4 _ _ _ _) rfl) ?_
                refine st_put rfl rfl rfl (q_move (v := .one (bC true)) rfl) ?_
                refine st_put rfl rfl rfl (q_move (v := .one (.yld k490)) rfl) ?_
                refine st_put rfl rfl rfl (q_move (v := .one (iC .i64 n1339)) rfl) ?_
                refine st_cut ?_
                refine ol_yield (args := [.one (iC .i64 n1339)]) (p := 0) rfl rfl rfl rfl rfl rfl rfl rfl rfl ?_
                refine L_ops ?_
                refine ol_put rfl rfl rfl (q_assign (v := .one (iC .i64 n1339)) rfl) ?_
                refine ol_end ?_
                refine E_asg ?_
                refine L_block ?_
                refine L_seq ?_
                refine L_ops ?_
                refine ol_put rfl rfl rfl (q_loadP (v := .one (.clo (.func 37) [] [.ptr k13 0 0, .ptr k14 0 0, .ptr k12 0 0])) 3 rfl sz81 rfl rfl rfl rfl) ?_
                refine ol_put rfl rfl rfl (q_move (v := .one (iC .i64 n1339)) rfl) ?_
                refine ol_scall (args := [.one (iC .i64 n1339), .one (.ptr k13 0 0), .one (.ptr k14 0 0), .one (.ptr k12 0 0)]) rfl rfl rfl rfl (by rw [E1_fn]; exact show fiOf Tryd.prog 37 = _ by unfold fiOf; rw [Tryd.func37]; unfold Tryd.f37; rfl) rfl rfl rfl ?_
                dsimp only
                refine L_seq ?_
                refine L_ops ?_
                refine ol_new rfl rfl rfl (q_alloc ty62 (row := [iC .i64 0, iC .u64 0]) rfl rfl) (fun k1346 => ?_)
                refine ol_put rfl rfl rfl (q_assign (v := .one (bC false)) rfl) ?_
                refine ol_end ?_
                refine E_seq ?_
                refine L_seq ?_
                refine L_seq ?_
                refine L_ops ?_
                refine ol_put rfl rfl rfl (q_fieldP rfl fa33_2 rfl) ?_
                refine ol_put rfl rfl rfl (q_loadP (v := .one (.p fr23 (Sl.t r3 s20))) 6 rfl sz30 rfl rfl rfl rfl) ?_
                refine ol_put rfl rfl rfl (q_move (v := .one (iC .i64 n1339)) rfl) ?_
                obtain ⟨n1349, h1348, h⟩ := bindS h
                obtain ⟨h1348a, h1348b, h1348⟩ := atS_some h1348
                refine ol_put rfl rfl rfl (q_ixS rfl rfl h1348a h1348 (el30.trans (congrArg some h1348b.symm))) ?_
                refine ol_put rfl rfl rfl (q_loadI (v := .one (iC .i64 n1349)) rfl sz3 (map_get h1348) rfl rfl) ?_
                refine ol_put rfl rfl rfl (q_assign (v := .one (iC .i64 n1349)) rfl) ?_
                refine ol_end ?_
                refine E_seq ?_
                refine L_block ?_
                let S5 : (Bool × Int × Int × Int) → Unit → (Nat → D) → Nat → D := fun a kt g => ups g [(0, .one (iC .i64 n1339)), (1, .one (.ptr k13 0 0)), (2, .one (.ptr k14 0 0)), (3, .one (.ptr k12 0 0)), (5, .one (.ptr k1346 0 0)), (6, .one (bC a.1)), (7, .one (iC .i64 a.2.1))]
                let SL5 : (Bool × Int × Int × Int) → Unit → BL := fun a kt => ([[(k13, 5, [[iC .i64 n18, iC .i64 n19, .p fr23 (Sl.t r3 s20), .p fr23 (Sl.t r3 s21), .p fr23 (Sl.t r2 s22)]])], [(k14, 3, [[iC .i64 n7, .p false (Sl.t r60 s8), .p false (Sl.t r2 s9)]])], [(k12, 1, [[iC .i64 n1]])], [(k1346, 2, [[iC .i64 a.2.2.1, iC .u64 a.2.2.2]])], [(k485, 1, [[.clo (.func 37) [] [.ptr k13 0 0, .ptr k14 0 0, .ptr k12 0 0]]])], [(k486, 1, [[moC l1341 k1342]])], [(k490, 0, [])], [(k488, 1, [[.p false (Sl.t r60 s10)]])], [(k489, 1, [[bC true]])], moL r63 3 l1341 k1342] : BL)
                let G5 : Empty → Ex → St → Prop := fun u => u.elim
                let Sx5 : (Bool × Int × Int) → Unit → (Nat → D) → Nat → D := fun a kt g => ups g [(5, .one (.ptr k1346 0 0)), (6, .one (bC a.1))]
                let SLx5 : (Bool × Int × Int) → Unit → BL := fun a kt => ([[(k1346, 2, [[iC .i64 a.2.1, iC .u64 a.2.2]])], [(k485, 1, [[.clo (.func 37) [] [.ptr k13 0 0, .ptr k14 0 0, .ptr k12 0 0]]])], [(k486, 1, [[moC l1341 k1342]])], [(k490, 0, [])], [(k488, 1, [[.p false (Sl.t r60 s10)]])], [(k489, 1, [[bC true]])], [(k13, 5, [[iC .i64 n18, iC .i64 n19, .p fr23 (Sl.t r3 s20), .p fr23 (Sl.t r3 s21), .p fr23 (Sl.t r2 s22)]])], [(k14, 3, [[iC .i64 n7, .p false (Sl.t r60 s8), .p false (Sl.t r2 s9)]])], [(k12, 1, [[iC .i64 n1]])], moL r63 3 l1341 k1342] : BL)
                let J5 : ((Bool × Int × Int) ⊕ Empty) → Ex → St → Prop := JX 55 0 Sx5 SLx5 G5
                refine L_loopS (pull_Sums_b5 n1 s8 s9 s20 s21 s22 n1339) S5 SL5 J5 JX_n (false, n1349, 0, 0) h () (ups_self ⟨rfl, rfl, rfl, rfl, rfl, rfl, rfl, trivial⟩) [6, 7, 8, 0, 4, 5, 1, 2, 3, 9] (by decide) rfl ?_ ?_
                · rintro ⟨b1442, n1443, n1444, n1445⟩ _ g out h
                  change pull_Sums_b5 n1 s8 s9 s20 s21 s22 n1339 (b1442, n1443, n1444, n1445) = some out at h
                  unfold pull_Sums_b5 at h
                  refine L_seq ?_
                  refine L_seq ?_
                  refine L_ops ?_
                  refine ol_put rfl rfl rfl (q_move (v := .one (iC .i64 n1443)) rfl) ?_
                  refine ol_put rfl rfl rfl (q_fieldP rfl fa33_2 rfl) ?_
                  refine ol_put rfl rfl rfl (q_loadP (v := .one (.p fr23 (Sl.t r3 s20))) 0 rfl sz30 rfl rfl rfl rfl) ?_
                  refine ol_put rfl rfl rfl (q_move (v := .one (iC .i64 n1339)) rfl) ?_
                  refine ol_put rfl rfl rfl (q_bin rfl rfl (p_add _ _ _ _ _ _ _) rfl) ?_
                  obtain ⟨n1448, h1447, h⟩ := bindS h
                  obtain ⟨h1447a, h1447b, h1447⟩ := atS_some h1447
                  refine ol_put rfl rfl rfl (q_ixS rfl rfl h1447a h1447 (el30.trans (congrArg some h1447b.symm))) ?_
                  refine ol_put rfl rfl rfl (q_loadI (v := .one (iC .i64 n1448)) rfl sz3 (map_get h1447) rfl rfl) ?_
                  by_cases c1449 : n1443 < n1448
                  · replace h := ifT c1449 h
                    refine ol_put rfl rfl rfl (q_bin rfl rfl (p_lss_t _ _ _ _ _ c1449) rfl) ?_
                    refine ol_end ?_
                    refine E_seq ?_
                    refine L_condT rfl ?_
                    refine L_skip ?_
                    refine E_seq ?_
                    refine L_seq ?_
                    refine L_block ?_
                    refine L_seq ?_
                    refine L_ops ?_
                    refine ol_put rfl rfl rfl (q_fieldP rfl fa33_3 rfl) ?_
                    refine ol_put rfl rfl rfl (q_loadP (v := .one (.p fr23 (Sl.t r3 s21))) 0 rfl sz30 rfl rfl rfl rfl) ?_
                    refine ol_put rfl rfl rfl (q_move (v := .one (iC .i64 n1443)) rfl) ?_
                    obtain ⟨n1452, h1451, h⟩ := bindS h
                    obtain ⟨h1451a, h1451b, h1451⟩ := atS_some h1451
                    refine ol_put rfl rfl rfl (q_ixS rfl rfl h1451a h1451 (el30.trans (congrArg some h1451b.symm))) ?_
                    refine ol_put rfl rfl rfl (q_loadI (v := .one (iC .i64 n1452)) rfl sz3 (map_get h1451) rfl rfl) ?_
                    refine ol_put rfl rfl rfl (q_assign (v := .one (iC .i64 n1452)) rfl) ?_
                    refine ol_end ?_
                    refine E_seq ?_
                    refine L_seq ?_
                    refine L_seq ?_
                    refine L_ops ?_
                    refine ol_put rfl rfl rfl (q_fieldP rfl fa36_1 rfl) ?_
                    refine ol_put rfl rfl rfl (q_loadP (v := .one (.p false (Sl.t r60 s8))) 1 rfl sz26 rfl rfl rfl rfl) ?_
                    refine ol_put rfl rfl rfl (q_move (v := .one (iC .i64 n1452)) rfl) ?_
                    obtain ⟨b1454, h1453, h⟩ := bindS h
                    refine ol_put rfl rfl rfl (q_callF (v := .one (bC b1454)) (args := [.one (.p false (Sl.t r60 s8)), .one (iC .i64 n1452)]) (flags_Has_r (m + 2) h1453) rfl rfl (vw_cons (vd_one vc_s) (vw_cons (vd_one vc_v) vw_nil)) rfl rfl) ?_
                    rcases b1454 with _ | _
                    · replace h := ifF (by decide) h
                      refine ol_put rfl rfl rfl (q_not rfl) ?_
                      refine ol_end ?_
                      refine E_seq ?_
                      refine L_condT rfl ?_
                      refine L_exit ?_
                      refine E_seqX ?_
                      refine E_blkH ?_
                      refine E_seq ?_
                      refine L_ops ?_
                      refine ol_put rfl rfl rfl (q_move (v := .one (iC .i64 n1443)) rfl) ?_
                      refine ol_put rfl rfl rfl (q_bin rfl rfl (p_add _ _ _ _ _ _ _) rfl) ?_
                      refine ol_put rfl rfl rfl (q_assign (v := .one (iC .i64 (IntKind.i64.wrap (n1443 + 1)))) rfl) ?_
                      refine ol_end ?_
                      obtain rfl := Option.some.inj h
                      exact E_next () (ups_self ⟨rfl, rfl, rfl, rfl, rfl, rfl, rfl, trivial⟩) [0, 1, 2, 3, 4, 5, 6, 7, 8, 9] (by decide) rfl
                    · replace h := ifT (by decide) h
                      refine ol_put rfl rfl rfl (q_not rfl) ?_
                      refine ol_end ?_
                      refine E_seq ?_
                      refine L_condF rfl ?_
                      refine L_skip ?_
                      refine E_seq ?_
                      refine L_seq ?_
                      refine L_norm (L2 := ([[(k13, 5, [[iC .i64 n18, iC .i64 n19, .p fr23 (Sl.t r3 s20), .p fr23 (Sl.t r3 s21), .p fr23 (Sl.t r2 s22)]])], [(k14, 3, [[iC .i64 n7, .p false (Sl.t r60 s8), .p false (Sl.t r2 s9)]])], [(k12, 1, [[iC .i64 n1]])], [(k1346, 2, [[iC .i64 n1444, iC .u64 n1445]])], [(k485, 1, [[.clo (.func 37) [] [.ptr k13 0 0, .ptr k14 0 0, .ptr k12 0 0]]])], [(k486, 1, [[moC l1341 k1342]])], [(k490, 0, [])], [(k488, 1, [[.p false (Sl.t r60 s10)]])], [(k489, 1, [[bC true]])], moL r63 3 l1341 k1342] : BL)) [0, 1, 2, 3, 4, 5, 6, 7, 8, 9] (by decide) rfl ?_
                      refine L_turn 14 rfl [[], [], [], [], [], [], [], [], [], [], [], [], [], []] [(false, []), (false, []), (false, []), (false, []), (false, []), (false, []), (false, []), (false, []), (false, []), (false, []), (false, []), (false, []), (true, []), (false, [12])] [[1, 2, 3, 4, 5, 6, 7, 8, 9, 10, 12], [0, 3, 6, 7, 8, 9, 10, 12], [0, 3, 6, 7, 8, 9, 10, 12], [0, 1, 2, 6, 7, 8, 9, 10, 12], [0, 6, 7, 8, 9, 10, 12], [0, 6, 7, 8, 9, 10, 12], [0, 1, 2, 3, 4, 5, 8, 12], [0, 1, 2, 3, 4, 5, 8, 12], [0, 1, 2, 3, 4, 5, 6, 7, 12], [0, 1, 2, 3, 4, 5, 12], [0, 1, 2, 3, 4, 5, 12], [12], [0, 1, 2, 3, 4, 5, 6, 7, 8, 9, 10, 11], []] (by kernel_rfl) (by kernel_rfl) (by kernel_rfl) ?_ (fun bb1455 hlt hnd => ?_)
                      · intro bb1455 hlt hnd
                        exact ⟨⟨djE, ⟨djE, ⟨djE, ⟨djE, ⟨djE, ⟨djE, ⟨djE, ⟨djE, ⟨djE, ⟨djE, ⟨djE, ⟨djE, ⟨djE, ⟨djE, trivial⟩⟩⟩⟩⟩⟩⟩⟩⟩⟩⟩⟩⟩⟩, (ltO_cons ltK_nil (ltO_cons ltK_nil (ltO_cons ltK_nil (ltO_cons ltK_nil (ltO_cons ltK_nil (ltO_cons ltK_nil (ltO_cons ltK_nil (ltO_cons ltK_nil (ltO_cons ltK_nil (ltO_cons ltK_nil (ltO_cons ltK_nil (ltO_cons ltK_nil (ltO_cons ltK_nil (ltO_cons ltK_nil ltO_nil))))))))))))))⟩
                      have e_k1342 : l1341 = [] ∨ k1342 < bb1455 := key_ltM (r := r63) (w := 3) hlt 9 rfl
                      refine tn_put rfl rfl rfl [2] (by decide) rfl (hmc (nin_cons (ne_new (key_lt hlt 2 rfl)) nin_nil) hmn) rfl (q_loadP (v := .one (iC .i64 n1)) 0 rfl sz22 rfl rfl rfl rfl) ?_
                      refine tn_put rfl rfl rfl [] (by decide) rfl hmn rfl (q_fieldP rfl fa33_4 rfl) ?_
                      refine tn_put rfl rfl rfl [0] (by decide) rfl (hmc (nin_cons (ne_new (key_lt hlt 0 rfl)) nin_nil) hmn) rfl (q_loadP (v := .one (.p fr23 (Sl.t r2 s22))) 0 rfl sz31 rfl rfl rfl rfl) ?_
                      refine tn_put rfl rfl rfl [] (by decide) rfl hmn rfl (q_move (v := .one (iC .i64 n1443)) rfl) ?_
                      obtain ⟨n1467, h1466, h⟩ := bindS h
                      obtain ⟨h1466a, h1466b, h1466⟩ := atS_some h1466
                      refine tn_put rfl rfl rfl [] (by decide) rfl hmn rfl (q_ixS rfl rfl h1466a h1466 (el31.trans (congrArg some h1466b.symm))) ?_
                      refine tn_put rfl rfl rfl [] (by decide) rfl hmn rfl (q_loadI (v := .one (iC .i64 n1467)) rfl sz2 (map_get h1466) rfl rfl) ?_
                      refine tn_put rfl rfl rfl [] (by decide) rfl hmn rfl (q_fieldP rfl fa36_2 rfl) ?_
                      refine tn_put rfl rfl rfl [1] (by decide) rfl (hmc (nin_cons (ne_new (key_lt hlt 1 rfl)) nin_nil) hmn) rfl (q_loadP (v := .one (.p false (Sl.t r2 s9))) 0 rfl sz31 rfl rfl rfl rfl) ?_
                      refine tn_put rfl rfl rfl [] (by decide) rfl hmn rfl (q_move (v := .one (iC .i64 n1452)) rfl) ?_
                      obtain ⟨n1470, h1469, h⟩ := bindS h
                      obtain ⟨h1469a, h1469b, h1469⟩ := atS_some h1469
                      refine tn_put rfl rfl rfl [] (by decide) rfl hmn rfl (q_ixS rfl rfl h1469a h1469 (el31.trans (congrArg some h1469b.symm))) ?_
                      refine tn_put rfl rfl rfl [] (by decide) rfl hmn rfl (q_loadI (v := .one (iC .i64 n1470)) rfl sz2 (map_get h1469) rfl rfl) ?_
                      obtain ⟨⟨n1472, n1473⟩, h1471, h⟩ := bindS h
                      refine tn_put rfl rfl rfl [] (by decide) rfl hmn rfl (q_callF (v := .agg [iC .i64 n1472, iC .u64 n1473]) (args := [.one (iC .i64 n1), .one (iC .i64 n1467), .one (iC .i64 n1470)]) (ring_Mul_r (m + 1) h1471) rfl rfl (vw_cons (vd_one vc_v) (vw_cons (vd_one vc_v) (vw_cons (vd_one vc_v) vw_nil))) rfl rfl) ?_
                      refine tn_new rfl rfl rfl [] (by decide) rfl (hm0 rfl) rfl rfl (hkc (ne_new (key_lt hlt 0 rfl)) (hkc (ne_new (key_lt hlt 1 rfl)) (hkc (ne_new (key_lt hlt 2 rfl)) (hkc (ne_new (key_lt hlt 3 rfl)) (hkc (ne_new (key_lt hlt 4 rfl)) (hkc (ne_new (key_lt hlt 5 rfl)) (hkc (ne_new (key_lt hlt 6 rfl)) (hkc (ne_new (key_lt hlt 7 rfl)) (hkc (ne_new (key_lt hlt 8 rfl)) (hkM (e_k1342.imp id fun h => by omega) hkn)))))))))) (q_alloc ty62 (row := [iC .i64 0, iC .u64 0]) rfl rfl) ?_
                      refine tn_wr rfl rfl [0] (by decide) rfl (hm0 rfl) rfl (q_store (es' := [[iC .i64 n1472, iC .u64 n1473]]) 0 rfl rfl rfl sz62 rfl rfl rfl rfl rfl) (q := 0) rfl rfl ?_
                      refine tn_end ?_
                      refine E_seq ?_
                      refine L_seq ?_
                      refine L_ops ?_
                      refine ol_put rfl rfl rfl (q_move (v := .one (bC b1442)) rfl) ?_
                      refine ol_end ?_
                      refine E_seq ?_
                      rcases b1442 with _ | _
                      · replace h := ifF (by decide) h
                        refine L_condF rfl ?_
                        refine L_ops ?_
                        refine ol_put rfl rfl rfl (q_loadP (v := .agg [iC .i64 n1472, iC .u64 n1473]) 0 rfl sz62 rfl rfl rfl rfl) ?_
                        refine ol_wr rfl rfl (q_store (es' := [[iC .i64 n1472, iC .u64 n1473]]) 4 rfl rfl rfl sz62 rfl rfl rfl rfl rfl) rfl ?_
                        refine ol_put rfl rfl rfl (q_assign (v := .one (bC true)) rfl) ?_
                        refine ol_end ?_
                        refine E_blkN ?_
                        refine E_seq ?_
                        refine L_ops ?_
                        refine ol_put rfl rfl rfl (q_move (v := .one (iC .i64 n1443)) rfl) ?_
                        refine ol_put rfl rfl rfl (q_bin rfl rfl (p_add _ _ _ _ _ _ _) rfl) ?_
                        refine ol_put rfl rfl rfl (q_assign (v := .one (iC .i64 (IntKind.i64.wrap (n1443 + 1)))) rfl) ?_
                        refine ol_end ?_
                        obtain rfl := Option.some.inj h
                        exact E_next () (ups_self ⟨rfl, rfl, rfl, rfl, rfl, rfl, rfl, trivial⟩) [1, 2, 3, 4, 5, 6, 7, 8, 9, 10] (by decide) rfl
                      · replace h := ifT (by decide) h
                        refine L_condT rfl ?_
                        refine L_ops ?_
                        refine ol_put rfl rfl rfl (q_loadP (v := .one (iC .i64 n1)) 3 rfl sz22 rfl rfl rfl rfl) ?_
                        refine ol_put rfl rfl rfl (q_loadP (v := .agg [iC .i64 n1444, iC .u64 n1445]) 4 rfl sz62 rfl rfl rfl rfl) ?_
                        refine ol_put rfl rfl rfl (q_loadP (v := .agg [iC .i64 n1472, iC .u64 n1473]) 0 rfl sz62 rfl rfl rfl rfl) ?_
                        obtain ⟨⟨n1475, n1476⟩, h1474, h⟩ := bindS h
                        refine ol_put rfl rfl rfl (q_callF (v := .agg [iC .i64 n1475, iC .u64 n1476]) (args := [.one (iC .i64 n1), .agg [iC .i64 n1444, iC .u64 n1445], .agg [iC .i64 n1472, iC .u64 n1473]]) (ring_Add_r (m + 1) h1474) rfl rfl (vw_cons (vd_one vc_v) (vw_cons (vd_agg (vc_cons vc_v (vc_cons vc_v vc_nil))) (vw_cons (vd_agg (vc_cons vc_v (vc_cons vc_v vc_nil))) vw_nil))) rfl rfl) ?_
                        refine ol_wr rfl rfl (q_store (es' := [[iC .i64 n1475, iC .u64 n1476]]) 4 rfl rfl rfl sz62 rfl rfl rfl rfl rfl) rfl ?_
                        refine ol_end ?_
                        refine E_blkN ?_
                        refine E_seq ?_
                        refine L_ops ?_
                        refine ol_put rfl rfl rfl (q_move (v := .one (iC .i64 n1443)) rfl) ?_
                        refine ol_put rfl rfl rfl (q_bin rfl rfl (p_add _ _ _ _ _ _ _) rfl) ?_
                        refine ol_put rfl rfl rfl (q_assign (v := .one (iC .i64 (IntKind.i64.wrap (n1443 + 1)))) rfl) ?_
                        refine ol_end ?_
                        obtain rfl := Option.some.inj h
                        exact E_next () (ups_self ⟨rfl, rfl, rfl, rfl, rfl, rfl, rfl, trivial⟩) [1, 2, 3, 4, 5, 6, 7, 8, 9, 10] (by decide) rfl
                  · replace h := ifF c1449 h
                    refine ol_put rfl rfl rfl (q_bin rfl rfl (p_lss_f _ _ _ _ _ c1449) rfl) ?_
                    refine ol_end ?_
                    refine E_seq ?_
                    refine L_condF rfl ?_
                    refine L_exit ?_
                    refine E_seqX ?_
                    obtain rfl := Option.some.inj h
                    refine E_out ?_
                    exact (E_exit () (ups_self ⟨rfl, rfl, trivial⟩) [3, 4, 5, 6, 7, 8, 0, 1, 2, 9] (by decide) rfl)
                · rintro (⟨b1477, n1478, n1479⟩ | u) h
                  · refine J_x (fun kt g => ?_)
                    replace h := elimL h
                    refine E_blkH ?_
                    refine E_seq ?_
                    refine L_seq ?_
                    refine L_ops ?_
                    refine ol_put rfl rfl rfl (q_loadP (v := .agg [iC .i64 n1478, iC .u64 n1479]) 0 rfl sz62 rfl rfl rfl rfl) ?_
                    refine ol_put rfl rfl rfl (q_move (v := .one (bC b1477)) rfl) ?_
                    refine ol_wr rfl rfl (q_store (es' := [[iC .i64 n1478, iC .u64 n1479]]) 0 rfl rfl rfl sz62 rfl rfl rfl rfl rfl) rfl ?_
                    refine ol_put rfl rfl rfl (q_assign (v := .one (bC b1477)) rfl) ?_
                    refine ol_end ?_
                    refine E_seq ?_
                    refine L_ret ?_
                    refine E_call (v := .tup [.agg [iC .i64 n1478, iC .u64 n1479], .one (bC b1477)]) (.inr rfl) (res_cell (d := .agg [iC .i64 n1478, iC .u64 n1479]) 0 rfl sz62 rfl rfl rfl rfl (res_tmp (d := .one (bC b1477)) rfl res_nil)) rfl ?_
                    refine ol_put rfl rfl rfl (q_move (v := .tup [.agg [iC .i64 n1478, iC .u64 n1479], .one (bC b1477)]) rfl) ?_
                    refine ol_put rfl rfl rfl (q_ext (v := .agg [iC .i64 n1478, iC .u64 n1479]) rfl rfl) ?_
                    refine ol_put rfl rfl rfl (q_ext (v := .one (bC b1477)) rfl rfl) ?_
                    refine ol_new rfl rfl rfl (q_alloc ty62 (row := [iC .i64 0, iC .u64 0]) rfl rfl) (fun k1480 => ?_)
                    refine ol_wr rfl rfl (q_store (es' := [[iC .i64 n1478, iC .u64 n1479]]) 0 rfl rfl rfl sz62 rfl rfl rfl rfl rfl) rfl ?_
                    refine ol_put rfl rfl rfl (q_assign (v := .one (bC b1477)) rfl) ?_
                    refine ol_end ?_
                    refine E_seq ?_
                    refine L_seq ?_
                    refine L_ops ?_
                    refine ol_put rfl rfl rfl (q_move (v := .one (bC b1477)) rfl) ?_
                    refine ol_end ?_
                    refine E_seq ?_
                    rcases b1477 with _ | _
                    · replace h := ifF (by decide) h
                      refine L_condF rfl ?_
                      refine L_skip ?_
                      refine E_blkN ?_
                      refine E_roundN (p := 4) rfl ?_
                      refine ol_put rfl rfl rfl (q_not rfl) ?_
                      refine ol_put rfl rfl rfl (q_pickT (v := .one (bC false)) rfl rfl) ?_
                      refine ol_end ?_
                      refine E_seq ?_
                      refine L_condF rfl ?_
                      refine L_skip ?_
                      refine E_blkN ?_
                      refine E_seq ?_
                      refine L_ops ?_
                      refine ol_put rfl rfl rfl (q_bin rfl rfl (p_add _ _ _ _ _ _ _) rfl) ?_
                      refine ol_put rfl rfl rfl (q_move (v := .one (iC .i64 (IntKind.i64.wrap (n1339 + 1)))) rfl) ?_
                      refine ol_end ?_
                      obtain rfl := Option.some.inj h
                      exact E_next k1342 (ups_self ⟨rfl, rfl, rfl, rfl, rfl, trivial⟩) [4, 5, 6, 2, 3, 7, 8, 9, 10] (by decide) rfl
                    · replace h := ifT (by decide) h
                      refine L_condT rfl ?_
                      refine L_ops ?_
                      refine ol_put rfl rfl rfl (q_loadP (v := .one (moC l1341 k1342)) 3 rfl sz29 rfl rfl rfl rfl) ?_
                      refine ol_put rfl rfl rfl (q_move (v := .one (iC .i64 n1339)) rfl) ?_
                      refine ol_put rfl rfl rfl (q_loadP (v := .agg [iC .i64 n1478, iC .u64 n1479]) 0 rfl sz62 rfl rfl rfl rfl) ?_
                      refine ol_put rfl rfl rfl (q_build (cs := [iC .i64 n1339, iC .i64 n1478, iC .u64 n1479]) ty64 rfl pl64 rfl) ?_
                      refine ol_new rfl rfl rfl (q_bslice (cs := [iC .i64 n1339, iC .i64 n1478, iC .u64 n1479]) (es := (([(n1339, (n1478, n1479))] : List (Int × (Int × Int)))).map (rowC r63)) ty29 rfl ty64 rfl rfl rfl rfl rfl) (fun k1481 => ?_)
                      obtain ⟨_, h1482, h⟩ := bindS h
                      obtain ⟨h1482b, rfl⟩ := app_some h1482
                      refine ol_appM (r := r63) (l := l1341) (ys := ([(n1339, (n1478, n1479))] : List (Int × (Int × Int)))) 11 rfl rfl rfl rfl rfl rfl (el_ownM (l := ([(n1339, (n1478, n1479))] : List (Int × (Int × Int)))) 0 rfl) rfl h1482 (fun y => rfl) el29 ty29 rfl rfl rfl rfl rfl (fun k1483 => ?_)
                      refine ol_wr rfl rfl (q_store (es' := [[moC (l1341 ++ ([(n1339, (n1478, n1479))] : List (Int × (Int × Int)))) k1483]]) 5 rfl rfl rfl sz29 rfl rfl rfl rfl rfl) rfl ?_
                      refine ol_end ?_
                      refine E_blkN ?_
                      refine E_roundN (p := 6) rfl ?_
                      refine ol_put rfl rfl rfl (q_not rfl) ?_
                      refine ol_put rfl rfl rfl (q_pickT (v := .one (bC false)) rfl rfl) ?_
                      refine ol_end ?_
                      refine E_seq ?_
                      refine L_condF rfl ?_
                      refine L_skip ?_
                      refine E_blkN ?_
                      refine E_seq ?_
                      refine L_ops ?_
                      refine ol_put rfl rfl rfl (q_bin rfl rfl (p_add _ _ _ _ _ _ _) rfl) ?_
                      refine ol_put rfl rfl rfl (q_move (v := .one (iC .i64 (IntKind.i64.wrap (n1339 + 1)))) rfl) ?_
                      refine ol_end ?_
                      obtain rfl := Option.some.inj h
                      exact E_next k1483 (ups_self ⟨rfl, rfl, rfl, rfl, rfl, trivial⟩) [6, 7, 8, 4, 5, 9, 10, 11, 0] (by decide) rfl
                  · exact u.elim
            · replace h := ifT (by decide) h
              rcases b1340 with _ | _
              · replace h := ifF (by decide) h
                refine st_put rfl rfl rfl (q_binB rfl rfl (eqneqB4 _ _ _ _) rfl) ?_
                refine st_put rfl rfl rfl (q_move (v := .one (bC true)) rfl) ?_
                refine st_put rfl rfl rfl (q_move (v := .one (.yld k490)) rfl) ?_
                refine st_put rfl rfl rfl (q_move (v := .one (iC .i64 n1339)) rfl) ?_
                refine st_cut ?_
                refine ol_yield (args := [.one (iC .i64 n1339)]) (p := 0) rfl rfl rfl rfl rfl rfl rfl rfl rfl ?_
                refine L_ops ?_
                refine ol_put rfl rfl rfl (q_assign (v := .one (iC .i64 n1339)) rfl) ?_
                refine ol_end ?_
                refine E_asg ?_
                refine L_block ?_
                refine L_seq ?_
                refine L_ops ?_
                refine ol_put rfl rfl rfl (q_loadP (v := .one (.clo (.func 37) [] [.ptr k13 0 0, .ptr k14 0 0, .ptr k12 0 0])) 3 rfl sz81 rfl rfl rfl rfl) ?_
                refine ol_put rfl rfl rfl (q_move (v := .one (iC .i64 n1339)) rfl) ?_
                refine ol_scall (args := [.one (iC .i64 n1339), .one (.ptr k13 0 0), .one (.ptr k14 0 0), .one (.ptr k12 0 0)]) rfl rfl rfl rfl (by rw [E1_fn]; exact show fiOf Tryd.prog 37 = _ by unfold fiOf; rw [Tryd.func37]; unfold Tryd.f37; rfl) rfl rfl rfl ?_
                dsimp only
                refine L_seq ?_
                refine L_ops ?_
                refine ol_new rfl rfl rfl (q_alloc ty62 (row := [iC .i64 0, iC .u64 0]) rfl rfl) (fun k1484 => ?_)
                refine ol_put rfl rfl rfl (q_assign (v := .one (bC false)) rfl) ?_
                refine ol_end ?_
                refine E_seq ?_
                refine L_seq ?_
                refine L_seq ?_
                refine L_ops ?_
                refine ol_put rfl rfl rfl (q_fieldP rfl fa33_2 rfl) ?_
                refine ol_put rfl rfl rfl (q_loadP (v := .one (.p fr23 (Sl.t r3 s20))) 6 rfl sz30 rfl rfl rfl rfl) ?_
                refine ol_put rfl rfl rfl (q_move (v := .one (iC .i64 n1339)) rfl) ?_
                obtain ⟨n1487, h1486, h⟩ := bindS h
                obtain ⟨h1486a, h1486b, h1486⟩ := atS_some h1486
                refine ol_put rfl rfl rfl (q_ixS rfl rfl h1486a h1486 (el30.trans (congrArg some h1486b.symm))) ?_
                refine ol_put rfl rfl rfl (q_loadI (v := .one (iC .i64 n1487)) rfl sz3 (map_get h1486) rfl rfl) ?_
                refine ol_put rfl rfl rfl (q_assign (v := .one (iC .i64 n1487)) rfl) ?_
                refine ol_end ?_
                refine E_seq ?_
                refine L_block ?_
                let S6 : (Bool × Int × Int × Int) → Unit → (Nat → D) → Nat → D := fun a kt g => ups g [(0, .one (iC .i64 n1339)), (1, .one (.ptr k13 0 0)), (2, .one (.ptr k14 0 0)), (3, .one (.ptr k12 0 0)), (5, .one (.ptr k1484 0 0)), (6, .one (bC a.1)), (7, .one (iC .i64 a.2.1))]
                let SL6 : (Bool × Int × Int × Int) → Unit → BL := fun a kt => ([[(k13, 5, [[iC .i64 n18, iC .i64 n19, .p fr23 (Sl.t r3 s20), .p fr23 (Sl.t r3 s21), .p fr23 (Sl.t r2 s22)]])], [(k14, 3, [[iC .i64 n7, .p false (Sl.t r60 s8), .p false (Sl.t r2 s9)]])], [(k12, 1, [[iC .i64 n1]])], [(k1484, 2, [[iC .i64 a.2.2.1, iC .u64 a.2.2.2]])], [(k485, 1, [[.clo (.func 37) [] [.ptr k13 0 0, .ptr k14 0 0, .ptr k12 0 0]]])], [(k486, 1, [[moC l1341 k1342]])], [(k490, 0, [])], [(k488, 1, [[.p false (Sl.t r60 s10)]])], [(k489, 1, [[bC false]])], moL r63 3 l1341 k1342] : BL)
                let G6 : Empty → Ex → St → Prop := fun u => u.elim
                let Sx6 : (Bool × Int × Int) → Unit → (Nat → D) → Nat → D := fun a kt g => ups g [(5, .one (.ptr k1484 0 0)), (6, .one (bC a.1))]
                let SLx6 : (Bool × Int × Int) → Unit → BL := fun a kt => ([[(k1484, 2, [[iC .i64 a.2.1, iC .u64 a.2.2]])], [(k485, 1, [[.clo (.func 37) [] [.ptr k13 0 0, .ptr k14 0 0, .ptr k12 0 0]]])], [(k486, 1, [[moC l1341 k1342]])], [(k490, 0, [])], [(k488, 1, [[.p false (Sl.t r60 s10)]])], [(k489, 1, [[bC false]])], [(k13, 5, [[iC .i64 n18, iC .i64 n19, .p fr23 (Sl.t r3 s20), .p fr23 (Sl.t r3 s21), .p fr23 (Sl.t r2 s22)]])], [(k14, 3, [[iC .i64 n7, .p false (Sl.t r60 s8), .p false (Sl.t r2 s9)]])], [(k12, 1, [[iC .i64 n1]])], moL r63 3 l1341 k1342] : BL)
                let J6 : ((Bool × Int × Int) ⊕ Empty) → Ex → St → Prop := JX 55 0 Sx6 SLx6 G6
                refine L_loopS (pull_Sums_b6 n1 s8 s9 s20 s21 s22 n1339) S6 SL6 J6 JX_n (false, n1487, 0, 0) h () (ups_self ⟨rfl, rfl, rfl, rfl, rfl, rfl, rfl, trivial⟩) [6, 7, 8, 0, 4, 5, 1, 2, 3, 9] (by decide) rfl ?_ ?_
                · rintro ⟨b1580, n1581, n1582, n1583⟩ _ g out h
                  change pull_Sums_b6 n1 s8 s9 s20 s21 s22 n1339 (b1580, n1581, n1582, n1583) = some out at h
                  unfold pull_Sums_b6 at h
                  refine L_seq ?_
                  refine L_seq ?_
                  refine L_ops ?_
                  refine ol_put rfl rfl rfl (q_move (v := .one (iC .i64 n1581)) rfl) ?_
                  refine ol_put rfl rfl rfl (q_fieldP rfl fa33_2 rfl) ?_
                  refine ol_put rfl rfl rfl (q_loadP (v := .one (.p fr23 (Sl.t r3 s20))) 0 rfl sz30 rfl rfl rfl rfl) ?_
                  refine ol_put rfl rfl rfl (q_move (v := .one (iC .i64 n1339)) rfl) ?_
                  refine ol_put rfl rfl rfl (q_bin rfl rfl (p_add _ _ _ _ _ _ _) rfl) ?_
                  obtain ⟨n1586, h1585, h⟩ := bindS h
                  obtain ⟨h1585a, h1585b, h1585⟩ := atS_some h1585
                  refine ol_put rfl rfl rfl (q_ixS rfl rfl h1585a h1585 (el30.trans (congrArg some h1585b.symm))) ?_
                  refine ol_put rfl rfl rfl (q_loadI (v := .one (iC .i64 n1586)) rfl sz3 (map_get h1585) rfl rfl) ?_
                  by_cases c1587 : n1581 < n1586
                  · replace h := ifT c1587 h
                    refine ol_put rfl rfl rfl (q_bin rfl rfl (p_lss_t _ _ _ _ _ c1587) rfl) ?_
                    refine ol_end ?_
                    refine E_seq ?_
                    refine L_condT rfl ?_
                    refine L_skip ?_
                    refine E_seq ?_
                    refine L_seq ?_
                    refine L_block ?_
                    refine L_seq ?_
                    refine L_ops ?_
                    refine ol_put rfl rfl rfl (q_fieldP rfl fa33_3 rfl) ?_
                    refine ol_put rfl rfl rfl (q_loadP (v := .one (.p fr23 (Sl.t r3 s21))) 0 rfl sz30 rfl rfl rfl rfl) ?_
                    refine ol_put rfl rfl rfl (q_move (v := .one (iC .i64 n1581)) rfl) ?_
                    obtain ⟨n1590, h1589, h⟩ := bindS h
                    obtain ⟨h1589a, h1589b, h1589⟩ := atS_some h1589
                    refine ol_put rfl rfl rfl (q_ixS rfl rfl h1589a h1589 (el30.trans (congrArg some h1589b.symm))) ?_
                    refine ol_put rfl rfl rfl (q_loadI (v := .one (iC .i64 n1590)) rfl sz3 (map_get h1589) rfl rfl) ?_
                    refine ol_put rfl rfl rfl (q_assign (v := .one (iC .i64 n1590)) rfl) ?_
                    refine ol_end ?_
                    refine E_seq ?_
                    refine L_seq ?_
                    refine L_seq ?_
                    refine L_ops ?_
                    refine ol_put rfl rfl rfl (q_fieldP rfl fa36_1 rfl) ?_
                    refine ol_put rfl rfl rfl (q_loadP (v := .one (.p false (Sl.t r60 s8))) 1 rfl sz26 rfl rfl rfl rfl) ?_
                    refine ol_put rfl rfl rfl (q_move (v := .one (iC .i64 n1590)) rfl) ?_
                    obtain ⟨b1592, h1591, h⟩ := bindS h
                    refine ol_put rfl rfl rfl (q_callF (v := .one (bC b1592)) (args := [.one (.p false (Sl.t r60 s8)), .one (iC .i64 n1590)]) (flags_Has_r (m + 2) h1591) rfl rfl (vw_cons (vd_one vc_s) (vw_cons (vd_one vc_v) vw_nil)) rfl rfl) ?_
                    rcases b1592 with _ | _
                    · replace h := ifF (by decide) h
                      refine ol_put rfl rfl rfl (q_not rfl) ?_
                      refine ol_end ?_
                      refine E_seq ?_
                      refine L_condT rfl ?_
                      refine L_exit ?_
                      refine E_seqX ?_
                      refine E_blkH ?_
                      refine E_seq ?_
                      refine L_ops ?_
                      refine ol_put rfl rfl rfl (q_move (v := .one (iC .i64 n1581)) rfl) ?_
                      refine ol_put rfl rfl rfl (q_bin rfl rfl (p_add _ _ _ _ _ _ _) rfl) ?_
                      refine ol_put rfl rfl rfl (q_assign (v := .one (iC .i64 (IntKind.i64.wrap (n1581 + 1)))) rfl) ?_
                      refine ol_end ?_
                      obtain rfl := Option.some.inj h
                      exact E_next () (ups_self ⟨rfl, rfl, rfl, rfl, rfl, rfl, rfl, trivial⟩) [0, 1, 2, 3, 4, 5, 6, 7, 8, 9] (by decide) rfl
                    · replace h := ifT (by decide) h
                      refine ol_put rfl rfl rfl (q_not rfl) ?_
                      refine ol_end ?_
                      refine E_seq ?_
                      refine L_condF rfl ?_
                      refine L_skip ?_
                      refine E_seq ?_
                      refine L_seq ?_
                      refine L_norm (L2 := ([[(k13, 5, [[iC .i64 n18, iC .i64 n19, .p fr23 (Sl.t r3 s20), .p fr23 (Sl.t r3 s21), .p fr23 (Sl.t r2 s22)]])], [(k14, 3, [[iC .i64 n7, .p false (Sl.t r60 s8), .p false (Sl.t r2 s9)]])], [(k12, 1, [[iC .i64 n1]])], [(k1484, 2, [[iC .i64 n1582, iC .u64 n1583]])], [(k485, 1, [[.clo (.func 37) [] [.ptr k13 0 0, .ptr k14 0 0, .ptr k12 0 0]]])], [(k486, 1, [[moC l1341 k1342]])], [(k490, 0, [])], [(k488, 1, [[.p false (Sl.t r60 s10)]])], [(k489, 1, [[bC false]])], moL r63 3 l1341 k1342] : BL)) [0, 1, 2, 3, 4, 5, 6, 7, 8, 9] (by decide) rfl ?_
                      refine L_turn 14 rfl [[], [], [], [], [], [], [], [], [], [], [], [], [], []] [(false, []), (false, []), (false, []), (false, []), (false, []), (false, []), (false, []), (false, []), (false, []), (false, []), (false, []), (false, []), (true, []), (false, [12])] [[1, 2, 3, 4, 5, 6, 7, 8, 9, 10, 12], [0, 3, 6, 7, 8, 9, 10, 12], [0, 3, 6, 7, 8, 9, 10, 12], [0, 1, 2, 6, 7, 8, 9, 10, 12], [0, 6, 7, 8, 9, 10, 12], [0, 6, 7, 8, 9, 10, 12], [0, 1, 2, 3, 4, 5, 8, 12], [0, 1, 2, 3, 4, 5, 8, 12], [0, 1, 2, 3, 4, 5, 6, 7, 12], [0, 1, 2, 3, 4, 5, 12], [0, 1, 2, 3, 4, 5, 12], [12], [0, 1, 2, 3, 4, 5, 6, 7, 8, 9, 10, 11], []] (by kernel_rfl) (by kernel_rfl) (by kernel_rfl) ?_ (fun bb1593 hlt hnd => ?_)
                      · intro bb1593 hlt hnd
                        exact ⟨⟨djE, ⟨djE, ⟨djE, ⟨djE, ⟨djE, ⟨djE, ⟨djE, ⟨djE, ⟨djE, ⟨djE, ⟨djE, ⟨djE, ⟨djE, ⟨djE, trivial⟩⟩⟩⟩⟩⟩⟩⟩⟩⟩⟩⟩⟩⟩, (ltO_cons ltK_nil (ltO_cons ltK_nil (ltO_cons ltK_nil (ltO_cons ltK_nil (ltO_cons ltK_nil (ltO_cons ltK_nil (ltO_cons ltK_nil (ltO_cons ltK_nil (ltO_cons ltK_nil (ltO_cons ltK_nil (ltO_cons ltK_nil (ltO_cons ltK_nil (ltO_cons ltK_nil (ltO_cons ltK_nil ltO_nil))))))))))))))⟩
                      have e_k1342 : l1341 = [] ∨ k1342 < bb1593 := key_ltM (r := r63) (w := 3) hlt 9 rfl
                      refine tn_put rfl rfl rfl [2] (by decide) rfl (hmc (nin_cons (ne_new (key_lt hlt 2 rfl)) nin_nil) hmn) rfl (q_loadP (v := .one (iC .i64 n1)) 0 rfl sz22 rfl rfl rfl rfl) ?_
                      refine tn_put rfl rfl rfl [] (by decide) rfl hmn rfl (q_fieldP rfl fa33_4 rfl) ?_
                      refine tn_put rfl rfl rfl [0] (by decide) rfl (hmc (nin_cons (ne_new (key_lt hlt 0 rfl)) nin_nil) hmn) rfl (q_loadP (v := .one (.p fr23 (Sl.t r2 s22))) 0 rfl sz31 rfl rfl rfl rfl) ?_
                      refine tn_put rfl rfl rfl [] (by decide) rfl hmn rfl (q_move (v := .one (iC .i64 n1581)) rfl) ?_
                      obtain ⟨n1605, h1604, h⟩ := bindS h
                      obtain ⟨h1604a, h1604b, h1604⟩ := atS_some h1604
                      refine tn_put rfl rfl rfl [] (by decide) rfl hmn rfl (q_ixS rfl rfl h1604a h1604 (el31.trans (congrArg some h1604b.symm))) ?_
                      refine tn_put rfl rfl rfl [] (by decide) rfl hmn rfl (q_loadI (v := .one (iC .i64 n1605)) rfl sz2 (map_get h1604) rfl rfl) ?_
                      refine tn_put rfl rfl rfl [] (by decide) rfl hmn rfl (q_fieldP rfl fa36_2 rfl) ?_
                      refine tn_put rfl rfl rfl [1] (by decide) rfl (hmc (nin_cons (ne_new (key_lt hlt 1 rfl)) nin_nil) hmn) rfl (q_loadP (v := .one (.p false (Sl.t r2 s9))) 0 rfl sz31 rfl rfl rfl rfl) ?_
                      refine tn_put rfl rfl rfl [] (by decide) rfl hmn rfl (q_move (v := .one (iC .i64 n1590)) rfl) ?_
                      obtain ⟨n1608, h1607, h⟩ := bindS h
                      obtain ⟨h1607a, h1607b, h1607⟩ := atS_some h1607
                      refine tn_put rfl rfl rfl [] (by decide) rfl hmn rfl (q_ixS rfl rfl h1607a h1607 (el31.trans (congrArg some h1607b.symm))) ?_
                      refine tn_put rfl rfl rfl [] (by decide) rfl hmn rfl (q_loadI (v := .one (iC .i64 n1608)) rfl sz2 (map_get h1607) rfl rfl) ?_
                      obtain ⟨⟨n1610, n1611⟩, h1609, h⟩ := bindS h
                      refine tn_put rfl rfl rfl [] (by decide) rfl hmn rfl (q_callF (v := .agg [iC .i64 n1610, iC .u64 n1611]) (args := [.one (iC .i64 n1), .one (iC .i64 n1605), .one (iC .i64 n1608)]) (ring_Mul_r (m + 1) h1609) rfl rfl (vw_cons (vd_one vc_v) (vw_cons (vd_one vc_v) (vw_cons (vd_one vc_v) vw_nil))) rfl rfl) ?_
                      refine tn_new rfl rfl rfl [] (by decide) rfl (hm0 rfl) rfl rfl (hkc (ne_new (key_lt hlt 0 rfl)) (hkc (ne_new (key_lt hlt 1 rfl)) (hkc (ne_new (key_lt hlt 2 rfl)) (hkc (ne_new (key_lt hlt 3 rfl)) (hkc (ne_new (key_lt hlt 4 rfl)) (hkc (ne_new (key_lt hlt 5 rfl)) (hkc (ne_new (key_lt hlt 6 rfl)) (hkc (ne_new (key_lt hlt 7 rfl)) (hkc (ne_new (key_lt hlt 8 rfl)) (hkM (e_k1342.imp id fun h => by omega) hkn)))))))))) (q_alloc ty62 (row := [iC .i64 0, iC .u64 0]) rfl rfl) ?_
                      refine tn_wr rfl rfl [0] (by decide) rfl (hm0 rfl) rfl (q_store (es' := [[iC .i64 n1610, iC .u64 n1611]]) 0 rfl rfl rfl sz62 rfl rfl rfl rfl rfl) (q := 0) rfl rfl ?_
                      refine tn_end ?_
                      refine E_seq ?_
                      refine L_seq ?_
                      refine L_ops ?_
                      refine ol_put rfl rfl rfl (q_move (v := .one (bC b1580)) rfl) ?_
                      refine ol_end ?_
                      refine E_seq ?_
                      rcases b1580 with _ | _
                      · replace h := ifF (by decide) h
                        refine L_condF rfl ?_
                        refine L_ops ?_
                        refine ol_put rfl rfl rfl (q_loadP (v := .agg [iC .i64 n1610, iC .u64 n1611]) 0 rfl sz62 rfl rfl rfl rfl) ?_
                        refine ol_wr rfl rfl (q_store (es' := [[iC .i64 n1610, iC .u64 n1611]]) 4 rfl rfl rfl sz62 rfl rfl rfl rfl rfl) rfl ?_
                        refine ol_put rfl rfl rfl (q_assign (v := .one (bC true)) rfl) ?_
                        refine ol_end ?_
                        refine E_blkN ?_
                        refine E_seq ?_
                        refine L_ops ?_
                        refine ol_put rfl rfl rfl (q_move (v := .one (iC .i64 n1581)) rfl) ?_
                        refine ol_put rfl rfl rfl (q_bin rfl rfl (p_add _ _ _ _ _ _ _) rfl) ?_
                        refine ol_put rfl rfl rfl (q_assign (v := .one (iC .i64 (IntKind.i64.wrap (n1581 + 1)))) rfl) ?_
                        refine ol_end ?_
                        obtain rfl := Option.some.inj h
                        exact E_next () (ups_self ⟨rfl, rfl, rfl, rfl, rfl, rfl, rfl, trivial⟩) [1, 2, 3, 4, 5, 6, 7, 8, 9, 10] (by decide) rfl
                      · replace h := ifT (by decide) h
                        refine L_condT rfl ?_
                        refine L_ops ?_
                        refine ol_put rfl rfl rfl (q_loadP (v := .one (iC .i64 n1)) 3 rfl sz22 rfl rfl rfl rfl) ?_
                        refine ol_put rfl rfl rfl (q_loadP (v := .agg [iC .i64 n1582, iC .u64 n1583]) 4 rfl sz62 rfl rfl rfl rfl) ?_
                        refine ol_put rfl rfl rfl (q_loadP (v := .agg [iC .i64 n1610, iC .u64 n1611]) 0 rfl sz62 rfl rfl rfl rfl) ?_
                        obtain ⟨⟨n1613, n1614⟩, h1612, h⟩ := bindS h
                        refine ol_put rfl rfl rfl (q_callF (v := .agg [iC .i64 n1613, iC .u64 n1614]) (args := [.one (iC .i64 n1), .agg [iC .i64 n1582, iC .u64 n1583], .agg [iC .i64 n1610, iC .u64 n1611]]) (ring_Add_r (m + 1) h1612) rfl rfl (vw_cons (vd_one vc_v) (vw_cons (vd_agg (vc_cons vc_v (vc_cons vc_v vc_nil))) (vw_cons (vd_agg (vc_cons vc_v (vc_cons vc_v vc_nil))) vw_nil))) rfl rfl) ?_
                        refine ol_wr rfl rfl (q_store (es' := [[iC .i64 n1613, iC .u64 n1614]]) 4 rfl rfl rfl sz62 rfl rfl rfl rfl rfl) rfl ?_
                        refine ol_end ?_
                        refine E_blkN ?_
                        refine E_seq ?_
                        refine L_ops ?_
                        refine ol_put rfl rfl rfl (q_move (v := .one (iC .i64 n1581)) rfl) ?_
                        refine ol_put rfl rfl rfl (q_bin rfl rfl (p_add _ _ _ _ _ _ _) rfl) ?_
                        refine ol_put rfl rfl rfl (q_assign (v := .one (iC .i64 (IntKind.i64.wrap (n1581 + 1)))) rfl) ?_
                        refine ol_end ?_
                        obtain rfl := Option.some.inj h
                        exact E_next () (ups_self ⟨rfl, rfl, rfl, rfl, rfl, rfl, rfl, trivial⟩) [1, 2, 3, 4, 5, 6, 7, 8, 9, 10] (by decide) rfl
                  · replace h := ifF c1587 h
                    refine ol_put rfl rfl rfl (q_bin rfl rfl (p_lss_f _ _ _ _ _ c1587) rfl) ?_
                    refine ol_end ?_
                    refine E_seq ?_
                    refine L_condF rfl ?_
                    refine L_exit ?_
                    refine E_seqX ?_
                    obtain rfl := Option.some.inj h
                    refine E_out ?_
                    exact (E_exit () (ups_self ⟨rfl, rfl, trivial⟩) [3, 4, 5, 6, 7, 8, 0, 1, 2, 9] (by decide) rfl)
                · rintro (⟨b1615, n1616, n1617⟩ | u) h
                  · refine J_x (fun kt g => ?_)
                    replace h := elimL h
                    refine E_blkH ?_
                    refine E_seq ?_
                    refine L_seq ?_
                    refine L_ops ?_
                    refine ol_put rfl rfl rfl (q_loadP (v := .agg [iC .i64 n1616, iC .u64 n1617]) 0 rfl sz62 rfl rfl rfl rfl) ?_
                    refine ol_put rfl rfl rfl (q_move (v := .one (bC b1615)) rfl) ?_
                    refine ol_wr rfl rfl (q_store (es' := [[iC .i64 n1616, iC .u64 n1617]]) 0 rfl rfl rfl sz62 rfl rfl rfl rfl rfl) rfl ?_
                    refine ol_put rfl rfl rfl (q_assign (v := .one (bC b1615)) rfl) ?_
                    refine ol_end ?_
                    refine E_seq ?_
                    refine L_ret ?_
                    refine E_call (v := .tup [.agg [iC .i64 n1616, iC .u64 n1617], .one (bC b1615)]) (.inr rfl) (res_cell (d := .agg [iC .i64 n1616, iC .u64 n1617]) 0 rfl sz62 rfl rfl rfl rfl (res_tmp (d := .one (bC b1615)) rfl res_nil)) rfl ?_
                    refine ol_put rfl rfl rfl (q_move (v := .tup [.agg [iC .i64 n1616, iC .u64 n1617], .one (bC b1615)]) rfl) ?_
                    refine ol_put rfl rfl rfl (q_ext (v := .agg [iC .i64 n1616, iC .u64 n1617]) rfl rfl) ?_
                    refine ol_put rfl rfl rfl (q_ext (v := .one (bC b1615)) rfl rfl) ?_
                    refine ol_new rfl rfl rfl (q_alloc ty62 (row := [iC .i64 0, iC .u64 0]) rfl rfl) (fun k1618 => ?_)
                    refine ol_wr rfl rfl (q_store (es' := [[iC .i64 n1616, iC .u64 n1617]]) 0 rfl rfl rfl sz62 rfl rfl rfl rfl rfl) rfl ?_
                    refine ol_put rfl rfl rfl (q_assign (v := .one (bC b1615)) rfl) ?_
                    refine ol_end ?_
                    refine E_seq ?_
                    refine L_seq ?_
                    refine L_ops ?_
                    refine ol_put rfl rfl rfl (q_move (v := .one (bC b1615)) rfl) ?_
                    refine ol_end ?_
                    refine E_seq ?_
                    rcases b1615 with _ | _
                    · replace h := ifF (by decide) h
                      refine L_condF rfl ?_
                      refine L_skip ?_
                      refine E_blkN ?_
                      refine E_roundN (p := 4) rfl ?_
                      refine ol_put rfl rfl rfl (q_not rfl) ?_
                      refine ol_put rfl rfl rfl (q_pickT (v := .one (bC false)) rfl rfl) ?_
                      refine ol_end ?_
                      refine E_seq ?_
                      refine L_condF rfl ?_
                      refine L_skip ?_
                      refine E_blkN ?_
                      refine E_seq ?_
                      refine L_ops ?_
                      refine ol_put rfl rfl rfl (q_bin rfl rfl (p_add _ _ _ _ _ _ _) rfl) ?_
                      refine ol_put rfl rfl rfl (q_move (v := .one (iC .i64 (IntKind.i64.wrap (n1339 + 1)))) rfl) ?_
                      refine ol_end ?_
                      obtain rfl := Option.some.inj h
                      exact E_next k1342 (ups_self ⟨rfl, rfl, rfl, rfl, rfl, trivial⟩) [4, 5, 6, 2, 3, 7, 8, 9, 10] (by decide) rfl
                    · replace h := ifT (by decide) h
                      refine L_condT rfl ?_
                      refine L_ops ?_
                      refine ol_put rfl rfl rfl (q_loadP (v := .one (moC l1341 k1342)) 3 rfl sz29 rfl rfl rfl rfl) ?_
                      refine ol_put rfl rfl rfl (q_move (v := .one (iC .i64 n1339)) rfl) ?_
                      refine ol_put rfl rfl rfl (q_loadP (v := .agg [iC .i64 n1616, iC .u64 n1617]) 0 rfl sz62 rfl rfl rfl rfl) ?_
                      refine ol_put rfl rfl rfl (q_build (cs := [iC .i64 n1339, iC .i64 n1616, iC .u64 n1617]) ty64 rfl pl64 rfl) ?_
                      refine ol_new rfl rfl rfl (q_bslice (cs := [iC .i64 n1339, iC .i64 n1616, iC .u64 n1617]) (es := (([(n1339, (n1616, n1617))] : List (Int × (Int × Int)))).map (rowC r63)) ty29 rfl ty64 rfl rfl rfl rfl rfl) (fun k1619 => ?_)
                      obtain ⟨_, h1620, h⟩ := bindS h
                      obtain ⟨h1620b, rfl⟩ := app_some h1620
                      refine ol_appM (r := r63) (l := l1341) (ys := ([(n1339, (n1616, n1617))] : List (Int × (Int × Int)))) 11 rfl rfl rfl rfl rfl rfl (el_ownM (l := ([(n1339, (n1616, n1617))] : List (Int × (Int × Int)))) 0 rfl) rfl h1620 (fun y => rfl) el29 ty29 rfl rfl rfl rfl rfl (fun k1621 => ?_)
                      refine ol_wr rfl rfl (q_store (es' := [[moC (l1341 ++ ([(n1339, (n1616, n1617))] : List (Int × (Int × Int)))) k1621]]) 5 rfl rfl rfl sz29 rfl rfl rfl rfl rfl) rfl ?_
                      refine ol_end ?_
                      refine E_blkN ?_
                      refine E_roundN (p := 6) rfl ?_
                      refine ol_put rfl rfl rfl (q_not rfl) ?_
                      refine ol_put rfl rfl rfl (q_pickT (v := .one (bC false)) rfl rfl) ?_
                      refine ol_end ?_
                      refine E_seq ?_
                      refine L_condF rfl ?_
                      refine L_skip ?_
                      refine E_blkN ?_
                      refine E_seq ?_
                      refine L_ops ?_
                      refine ol_put rfl rfl rfl (q_bin rfl rfl (p_add _ _ _ _ _ _ _) rfl) ?_
                      refine ol_put rfl rfl rfl (q_move (v := .one (iC .i64 (IntKind.i64.wrap (n1339 + 1)))) rfl) ?_
                      refine ol_end ?_
                      obtain rfl := Option.some.inj h
                      exact E_next k1621 (ups_self ⟨rfl, rfl, rfl, rfl, rfl, trivial⟩) [6, 7, 8, 4, 5, 9, 10, 11, 0] (by decide) rfl
                  · exact u.elim
              · replace h := ifT (by decide) h
                refine st_put rfl rfl rfl (q_binB rfl rfl (eqneqB4 _ _ _ _) rfl) ?_
                refine st_put rfl rfl rfl (q_move (v := .one (bC false)) rfl) ?_
                refine st_skip rfl rfl rfl ?_
                refine st_skip rfl rfl rfl ?_
                refine st_cut ?_
                refine ol_skip rfl rfl rfl ?_
                refine ol_skip rfl rfl rfl ?_
                refine ol_put rfl rfl rfl (q_pickF (v := .one (bC false)) rfl rfl) ?_
                refine ol_end ?_
                refine E_seq ?_
                refine L_condF rfl ?_
                refine L_skip ?_
                refine E_blkN ?_
                refine E_seq ?_
                refine L_ops ?_
                refine ol_put rfl rfl rfl (q_bin rfl rfl (p_add _ _ _ _ _ _ _) rfl) ?_
                refine ol_put rfl rfl rfl (q_move (v := .one (iC .i64 (IntKind.i64.wrap (n1339 + 1)))) rfl) ?_
                refine ol_end ?_
                obtain rfl := Option.some.inj h
                exact E_next k1342 (ups_self ⟨rfl, rfl, rfl, rfl, rfl, trivial⟩) [0, 1, 2, 3, 4, 5, 6, 7, 8] (by decide) rfl
          · replace h := ifF c1343 h
            refine ol_put rfl rfl rfl (q_bin rfl rfl (p_lss_f _ _ _ _ _ c1343) rfl) ?_
            refine ol_end ?_
            refine E_seq ?_
            refine L_seq ?_
            refine L_condF rfl ?_
            refine L_exit ?_
            refine E_seqX ?_
            obtain rfl := Option.some.inj h
            refine E_out ?_
            exact (E_exit k1342 (ups_self trivial) [3, 4, 0, 5, 6, 7, 8] (by decide) rfl)
        · rintro (l1622 | u) h
          · refine J_x (fun k1623 g => ?_)
            replace h := elimL h
            refine E_blkH ?_
            refine E_range (p := 2) (.inl rfl) rfl ?_
            refine E_blkN ?_
            refine E_seq ?_
            refine L_seq ?_
            refine L_ops ?_
            refine ol_put rfl rfl rfl (q_loadP (v := .one (moC l1622 k1623)) 1 rfl sz29 rfl rfl rfl rfl) ?_
            refine ol_put rfl rfl rfl (q_assign (v := .one (moC l1622 k1623)) rfl) ?_
            refine ol_put rfl rfl rfl (q_assign (v := .one (iC .i64 0)) rfl) ?_
            refine ol_end ?_
            refine E_seq ?_
            refine L_ret ?_
            obtain rfl := Option.some.inj h
            exact E_endF (.inr rfl) (res_tmp rfl (res_tmp rfl res_nil)) (vw_cons (vd_one (vc_M (r := r63) 6 rfl (fun x h m => rfl))) (vw_cons (vd_one vc_v) vw_nil)) (fun h hb => own_no2) rfl rfl
          · exact u.elim
end Ev
end Go.Proofs.YtlcfdmjkbaegpaaDoor
