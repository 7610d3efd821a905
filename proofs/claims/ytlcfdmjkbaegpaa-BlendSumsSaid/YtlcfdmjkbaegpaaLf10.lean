/- Functions of the program as functions on data, and that they are. -/
import Derived.Test.YtlcfdmjkbaegpaaLf1
import Derived.Test.YtlcfdmjkbaegpaaLf2
import Derived.Test.YtlcfdmjkbaegpaaLf5
import Derived.Test.YtlcfdmjkbaegpaaLf6
import Derived.Test.YtlcfdmjkbaegpaaLy1
namespace Go.Proofs.Ytlcfdmjkbaegpaa
namespace Ev
open Go
set_option linter.unusedVariables false
set_option linter.unusedSimpArgs false
set_option maxRecDepth 100000
set_option maxHeartbeats 1000000
attribute [local irreducible] OpsL StL TnL WpL EndL
noncomputable def ref11_Union_b1 (n1 : Int) (n19 : Int) (s20 : Sl (Int × Int)) (n23 : Int) (s24 : Sl (Int × Int)) (a : Int × (List (Int × Int))) : Option ((Int × (List (Int × Int))) ⊕ ((List (Int × Int)) ⊕ ((Int × (Sl (Int × Int))) × Int))) :=
  match a with
  | (n125, l126) => (if n125 < n19 then ((ref11_has (n19, s20) n125).bind fun (n130, b131) => ((ref11_has (n23, s24) n125).bind fun (n133, b134) => (if b131 = true then (if b134 = true then ((ref01_Of n130).bind fun (n142, n143) => ((ref01_Of n133).bind fun (n145, n146) => ((ref02_Add n1 (n142, n143) (n145, n146)).bind fun (n148, n149) => ((ref01_Narrow (n148, n149)).bind fun (n151, b152) => (if b152 = true then ((app l126 ([(n125, n151)] : List (Int × Int))).bind fun _ => some (.inl ((IntKind.i64.wrap (n125 + 1)), (l126 ++ ([(n125, n151)] : List (Int × Int)))))) else some (.inr (.inr ((0, (⟨false, 0, []⟩ : Sl (Int × Int))), 12)))))))) else ((app l126 ([(n125, n130)] : List (Int × Int))).bind fun _ => some (.inl ((IntKind.i64.wrap (n125 + 1)), (l126 ++ ([(n125, n130)] : List (Int × Int))))))) else (if b134 = true then ((app l126 ([(n125, n133)] : List (Int × Int))).bind fun _ => some (.inl ((IntKind.i64.wrap (n125 + 1)), (l126 ++ ([(n125, n133)] : List (Int × Int)))))) else some (.inl ((IntKind.i64.wrap (n125 + 1)), l126)))))) else some (.inr (.inl l126)))
noncomputable def ref11_Union (n1 : Int) (a1 : Int × (Sl (Int × Int))) (a2 : Int × (Sl (Int × Int))) : Option ((Int × (Sl (Int × Int))) × Int) :=
  match a1, a2 with
  | (n2, s3), (n4, s5) => ((ref09_Sure (n2, s3)).bind fun (n19, s20) => ((ref09_Sure (n4, s5)).bind fun (n23, s24) => ((ref02_Is n1).bind fun b27 => (if b27 = true then (if n19 ≠ n23 then some ((0, (⟨false, 0, []⟩ : Sl (Int × Int))), 4) else ((loopO (ref11_Union_b1 n1 n19 s20 n23 s24) (0, ([] : List (Int × Int)))).bind (Sum.elim (fun l156 => some ((n19, (mo 2 l156)), 0)) (fun u => some u)))) else some ((0, (⟨false, 0, []⟩ : Sl (Int × Int))), 8)))))
theorem ref11_Union_r (m : Nat) {n1 : Int} {a1 : Int × (Sl (Int × Int))} {a2 : Int × (Sl (Int × Int))} {out : (Int × (Sl (Int × Int))) × Int} (h : ref11_Union n1 a1 a2 = some out) : RunsP E1 (m + 3) 13 [.one (iT .i64 n1), .agg (r24 a1), .agg (r24 a2)] (.fresh, [.agg (r24 out.1), .one (iT .i64 out.2)]) := by
  obtain ⟨n2, s3⟩ := a1
  obtain ⟨n4, s5⟩ := a2
  refine fn_F rfl (by rw [E1_fn]; exact show fiOf Try.prog 13 = _ by unfold fiOf; rw [Try.func13]; unfold Try.f13; rfl) rfl ?_
  dsimp only
  unfold ref11_Union at h
  refine L_seq ?_
  refine L_ops ?_
  refine ol_new rfl rfl rfl (q_box ty25 rfl (cs := [iC .i64 n2, .p false (Sl.t r56 s3)]) rfl rfl) (fun k6 => ?_)
  refine ol_new rfl rfl rfl (q_box ty25 rfl (cs := [iC .i64 n4, .p false (Sl.t r56 s5)]) rfl rfl) (fun k7 => ?_)
  refine ol_new rfl rfl rfl (q_alloc ty25 (row := [iC .i64 0, .p true (Sl.t r56 (⟨false, 0, []⟩ : Sl (Int × Int)))]) rfl rfl) (fun k8 => ?_)
  refine ol_put rfl rfl rfl (q_assign (v := .one (iC .i64 0)) rfl) ?_
  refine ol_end ?_
  refine E_seq ?_
  refine L_seq ?_
  refine L_norm (L2 := ([[(k8, 2, [[iC .i64 0, .p true (Sl.t r56 (⟨false, 0, []⟩ : Sl (Int × Int)))]])], [(k7, 2, [[iC .i64 n4, .p false (Sl.t r56 s5)]])], [(k6, 2, [[iC .i64 n2, .p false (Sl.t r56 s3)]])]] : BL)) [0, 1, 2] (by decide) rfl ?_
  refine L_turn 6 rfl [[], [], [], [], [k6], [k7]] [(false, []), (false, []), (false, []), (false, []), (false, []), (false, [])] [[2], [2], [0, 1], [], [], []] (by kernel_rfl) (by kernel_rfl) (by kernel_rfl) ?_ (fun bb9 hlt hnd => ?_)
  · intro bb9 hlt hnd
    exact ⟨⟨djE, ⟨djE, ⟨djE, ⟨djE, ⟨djN, ⟨djN, trivial⟩⟩⟩⟩⟩⟩, (ltO_cons ltK_nil (ltO_cons ltK_nil (ltO_cons ltK_nil (ltO_cons ltK_nil (ltO_cons (ltK_cons (key_lt hlt 2 rfl) ltK_nil) (ltO_cons (ltK_cons (key_lt hlt 1 rfl) ltK_nil) ltO_nil))))))⟩
  refine tn_put rfl rfl rfl [2] (by decide) rfl (hm0 rfl) rfl (q_loadP (v := .agg [iC .i64 n2, .p false (Sl.t r56 s3)]) 0 rfl sz25 rfl rfl rfl rfl) ?_
  obtain ⟨⟨n19, s20⟩, h18, h⟩ := bindS h
  refine tn_putX rfl rfl rfl [] (by decide) rfl (hm0 rfl) rfl (q_callX (v := fun fr21 => .agg [iC .i64 n19, .p fr21 (Sl.t r56 s20)]) (args := [.agg [iC .i64 n2, .p false (Sl.t r56 s3)]]) (ref09_Sure_r (m + 0) h18) rfl rfl (vw_cons (vd_agg (vc_cons vc_v (vc_cons vc_s vc_nil))) vw_nil) rfl rfl (fun fr => rfl)) (fun fr21 => ?_)
  refine tn_put rfl rfl rfl [1] (by decide) rfl (hm0 rfl) rfl (q_loadP (v := .agg [iC .i64 n4, .p false (Sl.t r56 s5)]) 0 rfl sz25 rfl rfl rfl rfl) ?_
  obtain ⟨⟨n23, s24⟩, h22, h⟩ := bindS h
  refine tn_putX rfl rfl rfl [] (by decide) rfl (hm0 rfl) rfl (q_callX (v := fun fr25 => .agg [iC .i64 n23, .p fr25 (Sl.t r56 s24)]) (args := [.agg [iC .i64 n4, .p false (Sl.t r56 s5)]]) (ref09_Sure_r (m + 0) h22) rfl rfl (vw_cons (vd_agg (vc_cons vc_v (vc_cons vc_s vc_nil))) vw_nil) rfl rfl (fun fr => rfl)) (fun fr25 => ?_)
  refine tn_wr rfl rfl [2] (by decide) rfl (hm0 rfl) rfl (q_store (es' := [[iC .i64 n19, .p fr21 (Sl.t r56 s20)]]) 0 rfl rfl rfl sz25 rfl rfl rfl rfl rfl) (q := 2) rfl rfl ?_
  refine tn_wr rfl rfl [1] (by decide) rfl (hm0 rfl) rfl (q_store (es' := [[iC .i64 n23, .p fr25 (Sl.t r56 s24)]]) 0 rfl rfl rfl sz25 rfl rfl rfl rfl rfl) (q := 1) rfl rfl ?_
  refine tn_end ?_
  refine E_seq ?_
  refine L_seq ?_
  refine L_seq ?_
  refine L_ops ?_
  refine ol_put rfl rfl rfl (q_move (v := .one (iC .i64 n1)) rfl) ?_
  obtain ⟨b27, h26, h⟩ := bindS h
  refine ol_put rfl rfl rfl (q_callF (v := .one (bC b27)) (args := [.one (iC .i64 n1)]) (ref02_Is_r (m + 1) h26) rfl rfl (vw_cons (vd_one vc_v) vw_nil) rfl rfl) ?_
  rcases b27 with _ | _
  · replace h := ifF (by decide) h
    refine ol_put rfl rfl rfl (q_not rfl) ?_
    refine ol_end ?_
    refine E_seq ?_
    refine L_condT rfl ?_
    refine L_seq ?_
    refine L_ops ?_
    refine ol_put rfl rfl rfl (q_build (cs := [iC .i64 0, .p true (Sl.t r56 (⟨false, 0, []⟩ : Sl (Int × Int)))]) ty25 rfl pl25 rfl) ?_
    refine ol_wr rfl rfl (q_store (es' := [[iC .i64 0, .p true (Sl.t r56 (⟨false, 0, []⟩ : Sl (Int × Int)))]]) 0 rfl rfl rfl sz25 rfl rfl rfl rfl rfl) rfl ?_
    refine ol_put rfl rfl rfl (q_assign (v := .one (iC .i64 8)) rfl) ?_
    refine ol_end ?_
    refine E_seq ?_
    refine L_ret ?_
    refine E_seqR ?_
    obtain rfl := Option.some.inj h
    exact E_endF (.inr rfl) (res_cell (d := .agg [iC .i64 0, .p true (Sl.t r56 (⟨false, 0, []⟩ : Sl (Int × Int)))]) 0 rfl sz25 rfl rfl rfl rfl (res_tmp rfl res_nil)) (vw_cons (vd_agg (vc_cons vc_v (vc_cons vc_s vc_nil))) (vw_cons (vd_one vc_v) vw_nil)) (fun h hb => own_no2) rfl rfl
  · replace h := ifT (by decide) h
    refine ol_put rfl rfl rfl (q_not rfl) ?_
    refine ol_end ?_
    refine E_seq ?_
    refine L_condF rfl ?_
    refine L_skip ?_
    refine E_seq ?_
    refine L_seq ?_
    refine L_seq ?_
    refine L_ops ?_
    refine ol_put rfl rfl rfl (q_fieldP rfl fa25_0 rfl) ?_
    refine ol_put rfl rfl rfl (q_loadP (v := .one (iC .i64 n19)) 2 rfl sz3 rfl rfl rfl rfl) ?_
    refine ol_put rfl rfl rfl (q_fieldP rfl fa25_0 rfl) ?_
    refine ol_put rfl rfl rfl (q_loadP (v := .one (iC .i64 n23)) 1 rfl sz3 rfl rfl rfl rfl) ?_
    by_cases c28 : n19 ≠ n23
    · replace h := ifT c28 h
      refine ol_put rfl rfl rfl (q_bin rfl rfl (p_neq_t _ _ _ _ _ c28) rfl) ?_
      refine ol_end ?_
      refine E_seq ?_
      refine L_condT rfl ?_
      refine L_seq ?_
      refine L_ops ?_
      refine ol_put rfl rfl rfl (q_build (cs := [iC .i64 0, .p true (Sl.t r56 (⟨false, 0, []⟩ : Sl (Int × Int)))]) ty25 rfl pl25 rfl) ?_
      refine ol_wr rfl rfl (q_store (es' := [[iC .i64 0, .p true (Sl.t r56 (⟨false, 0, []⟩ : Sl (Int × Int)))]]) 0 rfl rfl rfl sz25 rfl rfl rfl rfl rfl) rfl ?_
      refine ol_put rfl rfl rfl (q_assign (v := .one (iC .i64 4)) rfl) ?_
      refine ol_end ?_
      refine E_seq ?_
      refine L_ret ?_
      refine E_seqR ?_
      obtain rfl := Option.some.inj h
      exact E_endF (.inr rfl) (res_cell (d := .agg [iC .i64 0, .p true (Sl.t r56 (⟨false, 0, []⟩ : Sl (Int × Int)))]) 0 rfl sz25 rfl rfl rfl rfl (res_tmp rfl res_nil)) (vw_cons (vd_agg (vc_cons vc_v (vc_cons vc_s vc_nil))) (vw_cons (vd_one vc_v) vw_nil)) (fun h hb => own_no2) rfl rfl
    · replace h := ifF c28 h
      refine ol_put rfl rfl rfl (q_bin rfl rfl (p_neq_f _ _ _ _ _ c28) rfl) ?_
      refine ol_end ?_
      refine E_seq ?_
      refine L_condF rfl ?_
      refine L_skip ?_
      refine E_seq ?_
      refine L_seq ?_
      refine L_ops ?_
      refine ol_put rfl rfl rfl (q_fieldP rfl fa25_0 rfl) ?_
      refine ol_put rfl rfl rfl (q_loadP (v := .one (iC .i64 n19)) 2 rfl sz3 rfl rfl rfl rfl) ?_
      refine ol_put rfl rfl rfl (q_build (cs := [iC .i64 n19, .p true (Sl.t r56 (⟨false, 0, []⟩ : Sl (Int × Int)))]) ty25 rfl pl25 rfl) ?_
      refine ol_new rfl rfl rfl (q_alloc ty25 (row := [iC .i64 0, .p true (Sl.t r56 (⟨false, 0, []⟩ : Sl (Int × Int)))]) rfl rfl) (fun k29 => ?_)
      refine ol_wr rfl rfl (q_store (es' := [[iC .i64 n19, .p true (Sl.t r56 (⟨false, 0, []⟩ : Sl (Int × Int)))]]) 0 rfl rfl rfl sz25 rfl rfl rfl rfl rfl) rfl ?_
      refine ol_end ?_
      refine E_seq ?_
      refine L_seq ?_
      refine L_seq ?_
      refine L_ops ?_
      refine ol_put rfl rfl rfl (q_assign (v := .one (iC .i64 0)) rfl) ?_
      refine ol_end ?_
      refine E_seq ?_
      refine L_block ?_
      refine L_addM (α := Int × Int) r56 2 ?_
      let S1 : (Int × (List (Int × Int))) → Nat → (Nat → D) → Nat → D := fun a kt g => ups g [(0, .one (iC .i64 n1)), (4, .one (.ptr k6 0 0)), (5, .one (.ptr k7 0 0)), (6, .one (.ptr k8 0 0)), (8, .one (.ptr k29 0 0)), (9, .one (iC .i64 a.1))]
      let SL1 : (Int × (List (Int × Int))) → Nat → BL := fun a kt => ([[(k6, 2, [[iC .i64 n19, .p fr21 (Sl.t r56 s20)]])], [(k7, 2, [[iC .i64 n23, .p fr25 (Sl.t r56 s24)]])], [(k8, 2, [[iC .i64 0, .p true (Sl.t r56 (⟨false, 0, []⟩ : Sl (Int × Int)))]])], [(k29, 2, [[iC .i64 n19, moC a.2 kt]])], moL r56 2 a.2 kt] : BL)
      let G1 : ((Int × (Sl (Int × Int))) × Int) → Ex → St → Prop := fun u => endQ E1 [.cell 6 25, .tmp 7] (.fresh, [.agg (r24 u.1), .one (iT .i64 u.2)])
      let Sx1 : (List (Int × Int)) → Nat → (Nat → D) → Nat → D := fun a kt g => ups g [(6, .one (.ptr k8 0 0)), (8, .one (.ptr k29 0 0))]
      let SLx1 : (List (Int × Int)) → Nat → BL := fun a kt => ([[(k8, 2, [[iC .i64 0, .p true (Sl.t r56 (⟨false, 0, []⟩ : Sl (Int × Int)))]])], [(k29, 2, [[iC .i64 n19, moC a kt]])], moL r56 2 a kt] : BL)
      let J1 : ((List (Int × Int)) ⊕ ((Int × (Sl (Int × Int))) × Int)) → Ex → St → Prop := JX 89 0 Sx1 SLx1 G1
      refine L_loopS (ref11_Union_b1 n1 n19 s20 n23 s24) S1 SL1 J1 JX_n (0, ([] : List (Int × Int))) h 1123 (ups_self ⟨rfl, rfl, rfl, rfl, rfl, rfl, trivial⟩) [4, 3, 2, 1, 0] (by decide) rfl ?_ ?_
      · rintro ⟨n125, l126⟩ k127 g out h
        change ref11_Union_b1 n1 n19 s20 n23 s24 (n125, l126) = some out at h
        unfold ref11_Union_b1 at h
        refine L_seq ?_
        refine L_seq ?_
        refine L_ops ?_
        refine ol_put rfl rfl rfl (q_move (v := .one (iC .i64 n125)) rfl) ?_
        refine ol_put rfl rfl rfl (q_fieldP rfl fa25_0 rfl) ?_
        refine ol_put rfl rfl rfl (q_loadP (v := .one (iC .i64 n19)) 0 rfl sz3 rfl rfl rfl rfl) ?_
        by_cases c128 : n125 < n19
        · replace h := ifT c128 h
          refine ol_put rfl rfl rfl (q_bin rfl rfl (p_lss_t _ _ _ _ _ c128) rfl) ?_
          refine ol_end ?_
          refine E_seq ?_
          refine L_condT rfl ?_
          refine L_skip ?_
          refine E_seq ?_
          refine L_seq ?_
          refine L_block ?_
          refine L_seq ?_
          refine L_ops ?_
          refine ol_put rfl rfl rfl (q_loadP (v := .agg [iC .i64 n19, .p fr21 (Sl.t r56 s20)]) 0 rfl sz25 rfl rfl rfl rfl) ?_
          refine ol_put rfl rfl rfl (q_move (v := .one (iC .i64 n125)) rfl) ?_
          obtain ⟨⟨n130, b131⟩, h129, h⟩ := bindS h
          refine ol_put rfl rfl rfl (q_callF (v := .tup [.one (iC .i64 n130), .one (bC b131)]) (args := [.agg [iC .i64 n19, .p fr21 (Sl.t r56 s20)], .one (iC .i64 n125)]) (ref11_has_r (m + 1) h129) rfl rfl (vw_cons (vd_agg (vc_cons vc_v (vc_cons vc_s vc_nil))) (vw_cons (vd_one vc_v) vw_nil)) rfl rfl) ?_
          refine ol_put rfl rfl rfl (q_move (v := .tup [.one (iC .i64 n130), .one (bC b131)]) rfl) ?_
          refine ol_put rfl rfl rfl (q_ext (v := .one (iC .i64 n130)) rfl rfl) ?_
          refine ol_put rfl rfl rfl (q_ext (v := .one (bC b131)) rfl rfl) ?_
          refine ol_put rfl rfl rfl (q_assign (v := .one (iC .i64 n130)) rfl) ?_
          refine ol_put rfl rfl rfl (q_assign (v := .one (bC b131)) rfl) ?_
          refine ol_end ?_
          refine E_seq ?_
          refine L_seq ?_
          refine L_ops ?_
          refine ol_put rfl rfl rfl (q_loadP (v := .agg [iC .i64 n23, .p fr25 (Sl.t r56 s24)]) 1 rfl sz25 rfl rfl rfl rfl) ?_
          refine ol_put rfl rfl rfl (q_move (v := .one (iC .i64 n125)) rfl) ?_
          obtain ⟨⟨n133, b134⟩, h132, h⟩ := bindS h
          refine ol_put rfl rfl rfl (q_callF (v := .tup [.one (iC .i64 n133), .one (bC b134)]) (args := [.agg [iC .i64 n23, .p fr25 (Sl.t r56 s24)], .one (iC .i64 n125)]) (ref11_has_r (m + 1) h132) rfl rfl (vw_cons (vd_agg (vc_cons vc_v (vc_cons vc_s vc_nil))) (vw_cons (vd_one vc_v) vw_nil)) rfl rfl) ?_
          refine ol_put rfl rfl rfl (q_move (v := .tup [.one (iC .i64 n133), .one (bC b134)]) rfl) ?_
          refine ol_put rfl rfl rfl (q_ext (v := .one (iC .i64 n133)) rfl rfl) ?_
          refine ol_put rfl rfl rfl (q_ext (v := .one (bC b134)) rfl rfl) ?_
          refine ol_put rfl rfl rfl (q_assign (v := .one (iC .i64 n133)) rfl) ?_
          refine ol_put rfl rfl rfl (q_assign (v := .one (bC b134)) rfl) ?_
          refine ol_end ?_
          refine E_seq ?_
          refine L_seq ?_
          refine L_seq ?_
          refine L_ops ?_
          refine ol_put rfl rfl rfl (q_move (v := .one (bC b131)) rfl) ?_
          rcases b131 with _ | _
          · replace h := ifF (by decide) h
            refine ol_put rfl rfl rfl (q_not rfl) ?_
            refine ol_put rfl rfl rfl (q_move (v := .one (bC true)) rfl) ?_
            refine ol_put rfl rfl rfl (q_move (v := .one (bC b134)) rfl) ?_
            rcases b134 with _ | _
            · replace h := ifF (by decide) h
              refine ol_put rfl rfl rfl (q_not rfl) ?_
              refine ol_put rfl rfl rfl (q_pickT (v := .one (bC true)) rfl rfl) ?_
              refine ol_end ?_
              refine E_seq ?_
              refine L_condT rfl ?_
              refine L_exit ?_
              refine E_seqX ?_
              refine E_blkH ?_
              refine E_seq ?_
              refine L_ops ?_
              refine ol_put rfl rfl rfl (q_move (v := .one (iC .i64 n125)) rfl) ?_
              refine ol_put rfl rfl rfl (q_bin rfl rfl (p_add _ _ _ _ _ _ _) rfl) ?_
              refine ol_put rfl rfl rfl (q_assign (v := .one (iC .i64 (IntKind.i64.wrap (n125 + 1)))) rfl) ?_
              refine ol_end ?_
              obtain rfl := Option.some.inj h
              exact E_next k127 (ups_self ⟨rfl, rfl, rfl, rfl, rfl, rfl, trivial⟩) [0, 1, 2, 3, 4] (by decide) rfl
            · replace h := ifT (by decide) h
              refine ol_put rfl rfl rfl (q_not rfl) ?_
              refine ol_put rfl rfl rfl (q_pickT (v := .one (bC false)) rfl rfl) ?_
              refine ol_end ?_
              refine E_seq ?_
              refine L_condF rfl ?_
              refine L_skip ?_
              refine E_seq ?_
              refine L_seq ?_
              refine L_ops ?_
              refine ol_put rfl rfl rfl (q_move (v := .one (iC .i64 n130)) rfl) ?_
              refine ol_put rfl rfl rfl (q_assign (v := .one (iC .i64 n130)) rfl) ?_
              refine ol_end ?_
              refine E_seq ?_
              refine L_seq ?_
              refine L_seq ?_
              refine L_ops ?_
              refine ol_put rfl rfl rfl (q_move (v := .one (bC false)) rfl) ?_
              refine ol_put rfl rfl rfl (q_not rfl) ?_
              refine ol_end ?_
              refine E_seq ?_
              refine L_condT rfl ?_
              refine L_ops ?_
              refine ol_put rfl rfl rfl (q_move (v := .one (iC .i64 n133)) rfl) ?_
              refine ol_put rfl rfl rfl (q_assign (v := .one (iC .i64 n133)) rfl) ?_
              refine ol_end ?_
              refine E_seq ?_
              refine L_seq ?_
              refine L_seq ?_
              refine L_ops ?_
              refine ol_put rfl rfl rfl (q_move (v := .one (bC false)) rfl) ?_
              refine ol_put rfl rfl rfl (q_move (v := .one (bC false)) rfl) ?_
              refine ol_skip rfl rfl rfl ?_
              refine ol_put rfl rfl rfl (q_pickF (v := .one (bC false)) rfl rfl) ?_
              refine ol_end ?_
              refine E_seq ?_
              refine L_condF rfl ?_
              refine L_skip ?_
              refine E_seq ?_
              refine L_ops ?_
              refine ol_put rfl rfl rfl (q_fieldP rfl fa25_1 rfl) ?_
              refine ol_put rfl rfl rfl (q_loadP (v := .one (moC l126 k127)) 3 rfl sz23 rfl rfl rfl rfl) ?_
              refine ol_put rfl rfl rfl (q_move (v := .one (iC .i64 n125)) rfl) ?_
              refine ol_put rfl rfl rfl (q_move (v := .one (iC .i64 n133)) rfl) ?_
              refine ol_put rfl rfl rfl (q_build (cs := [iC .i64 n125, iC .i64 n133]) ty57 rfl pl57 rfl) ?_
              refine ol_new rfl rfl rfl (q_bslice (cs := [iC .i64 n125, iC .i64 n133]) (es := (([(n125, n133)] : List (Int × Int))).map (rowC r56)) ty23 rfl ty57 rfl rfl rfl rfl rfl) (fun k135 => ?_)
              obtain ⟨_, h136, h⟩ := bindS h
              obtain ⟨h136b, rfl⟩ := app_some h136
              refine ol_appM (r := r56) (l := l126) (ys := ([(n125, n133)] : List (Int × Int))) 5 rfl rfl rfl rfl rfl rfl (el_ownM (l := ([(n125, n133)] : List (Int × Int))) 0 rfl) rfl h136 (fun y => rfl) el23 ty23 rfl rfl rfl rfl rfl (fun k137 => ?_)
              refine ol_put rfl rfl rfl (q_fieldP rfl fa25_1 rfl) ?_
              refine ol_wr rfl rfl (q_store (es' := [[iC .i64 n19, moC (l126 ++ ([(n125, n133)] : List (Int × Int))) k137]]) 5 rfl rfl rfl sz23 rfl rfl rfl rfl rfl) rfl ?_
              refine ol_end ?_
              refine E_blkN ?_
              refine E_seq ?_
              refine L_ops ?_
              refine ol_put rfl rfl rfl (q_move (v := .one (iC .i64 n125)) rfl) ?_
              refine ol_put rfl rfl rfl (q_bin rfl rfl (p_add _ _ _ _ _ _ _) rfl) ?_
              refine ol_put rfl rfl rfl (q_assign (v := .one (iC .i64 (IntKind.i64.wrap (n125 + 1)))) rfl) ?_
              refine ol_end ?_
              obtain rfl := Option.some.inj h
              exact E_next k137 (ups_self ⟨rfl, rfl, rfl, rfl, rfl, rfl, trivial⟩) [2, 3, 4, 5, 0] (by decide) rfl
          · replace h := ifT (by decide) h
            refine ol_put rfl rfl rfl (q_not rfl) ?_
            refine ol_put rfl rfl rfl (q_move (v := .one (bC false)) rfl) ?_
            refine ol_skip rfl rfl rfl ?_
            refine ol_skip rfl rfl rfl ?_
            refine ol_put rfl rfl rfl (q_pickF (v := .one (bC false)) rfl rfl) ?_
            refine ol_end ?_
            refine E_seq ?_
            refine L_condF rfl ?_
            refine L_skip ?_
            refine E_seq ?_
            refine L_seq ?_
            refine L_ops ?_
            refine ol_put rfl rfl rfl (q_move (v := .one (iC .i64 n130)) rfl) ?_
            refine ol_put rfl rfl rfl (q_assign (v := .one (iC .i64 n130)) rfl) ?_
            refine ol_end ?_
            refine E_seq ?_
            refine L_seq ?_
            refine L_seq ?_
            refine L_ops ?_
            refine ol_put rfl rfl rfl (q_move (v := .one (bC true)) rfl) ?_
            refine ol_put rfl rfl rfl (q_not rfl) ?_
            refine ol_end ?_
            refine E_seq ?_
            refine L_condF rfl ?_
            refine L_skip ?_
            refine E_seq ?_
            refine L_seq ?_
            refine L_seq ?_
            refine L_ops ?_
            refine ol_put rfl rfl rfl (q_move (v := .one (bC true)) rfl) ?_
            refine ol_put rfl rfl rfl (q_move (v := .one (bC true)) rfl) ?_
            refine ol_put rfl rfl rfl (q_move (v := .one (bC b134)) rfl) ?_
            refine ol_put rfl rfl rfl (q_pickT (v := .one (bC b134)) rfl rfl) ?_
            refine ol_end ?_
            refine E_seq ?_
            rcases b134 with _ | _
            · replace h := ifF (by decide) h
              refine L_condF rfl ?_
              refine L_skip ?_
              refine E_seq ?_
              refine L_ops ?_
              refine ol_put rfl rfl rfl (q_fieldP rfl fa25_1 rfl) ?_
              refine ol_put rfl rfl rfl (q_loadP (v := .one (moC l126 k127)) 3 rfl sz23 rfl rfl rfl rfl) ?_
              refine ol_put rfl rfl rfl (q_move (v := .one (iC .i64 n125)) rfl) ?_
              refine ol_put rfl rfl rfl (q_move (v := .one (iC .i64 n130)) rfl) ?_
              refine ol_put rfl rfl rfl (q_build (cs := [iC .i64 n125, iC .i64 n130]) ty57 rfl pl57 rfl) ?_
              refine ol_new rfl rfl rfl (q_bslice (cs := [iC .i64 n125, iC .i64 n130]) (es := (([(n125, n130)] : List (Int × Int))).map (rowC r56)) ty23 rfl ty57 rfl rfl rfl rfl rfl) (fun k138 => ?_)
              obtain ⟨_, h139, h⟩ := bindS h
              obtain ⟨h139b, rfl⟩ := app_some h139
              refine ol_appM (r := r56) (l := l126) (ys := ([(n125, n130)] : List (Int × Int))) 5 rfl rfl rfl rfl rfl rfl (el_ownM (l := ([(n125, n130)] : List (Int × Int))) 0 rfl) rfl h139 (fun y => rfl) el23 ty23 rfl rfl rfl rfl rfl (fun k140 => ?_)
              refine ol_put rfl rfl rfl (q_fieldP rfl fa25_1 rfl) ?_
              refine ol_wr rfl rfl (q_store (es' := [[iC .i64 n19, moC (l126 ++ ([(n125, n130)] : List (Int × Int))) k140]]) 5 rfl rfl rfl sz23 rfl rfl rfl rfl rfl) rfl ?_
              refine ol_end ?_
              refine E_blkN ?_
              refine E_seq ?_
              refine L_ops ?_
              refine ol_put rfl rfl rfl (q_move (v := .one (iC .i64 n125)) rfl) ?_
              refine ol_put rfl rfl rfl (q_bin rfl rfl (p_add _ _ _ _ _ _ _) rfl) ?_
              refine ol_put rfl rfl rfl (q_assign (v := .one (iC .i64 (IntKind.i64.wrap (n125 + 1)))) rfl) ?_
              refine ol_end ?_
              obtain rfl := Option.some.inj h
              exact E_next k140 (ups_self ⟨rfl, rfl, rfl, rfl, rfl, rfl, trivial⟩) [2, 3, 4, 5, 0] (by decide) rfl
            · replace h := ifT (by decide) h
              refine L_condT rfl ?_
              refine L_seq ?_
              refine L_ops ?_
              refine ol_put rfl rfl rfl (q_move (v := .one (iC .i64 n1)) rfl) ?_
              refine ol_put rfl rfl rfl (q_move (v := .one (iC .i64 n130)) rfl) ?_
              obtain ⟨⟨n142, n143⟩, h141, h⟩ := bindS h
              refine ol_put rfl rfl rfl (q_callF (v := .agg [iC .i64 n142, iC .u64 n143]) (args := [.one (iC .i64 n130)]) (ref01_Of_r (m + 1) h141) rfl rfl (vw_cons (vd_one vc_v) vw_nil) rfl rfl) ?_
              refine ol_put rfl rfl rfl (q_move (v := .one (iC .i64 n133)) rfl) ?_
              obtain ⟨⟨n145, n146⟩, h144, h⟩ := bindS h
              refine ol_put rfl rfl rfl (q_callF (v := .agg [iC .i64 n145, iC .u64 n146]) (args := [.one (iC .i64 n133)]) (ref01_Of_r (m + 1) h144) rfl rfl (vw_cons (vd_one vc_v) vw_nil) rfl rfl) ?_
              obtain ⟨⟨n148, n149⟩, h147, h⟩ := bindS h
              refine ol_put rfl rfl rfl (q_callF (v := .agg [iC .i64 n148, iC .u64 n149]) (args := [.one (iC .i64 n1), .agg [iC .i64 n142, iC .u64 n143], .agg [iC .i64 n145, iC .u64 n146]]) (ref02_Add_r (m + 0) h147) rfl rfl (vw_cons (vd_one vc_v) (vw_cons (vd_agg (vc_cons vc_v (vc_cons vc_v vc_nil))) (vw_cons (vd_agg (vc_cons vc_v (vc_cons vc_v vc_nil))) vw_nil))) rfl rfl) ?_
              obtain ⟨⟨n151, b152⟩, h150, h⟩ := bindS h
              refine ol_put rfl rfl rfl (q_callF (v := .tup [.one (iC .i64 n151), .one (bC b152)]) (args := [.agg [iC .i64 n148, iC .u64 n149]]) (ref01_Narrow_r (m + 1) h150) rfl rfl (vw_cons (vd_agg (vc_cons vc_v (vc_cons vc_v vc_nil))) vw_nil) rfl rfl) ?_
              refine ol_put rfl rfl rfl (q_move (v := .tup [.one (iC .i64 n151), .one (bC b152)]) rfl) ?_
              refine ol_put rfl rfl rfl (q_ext (v := .one (iC .i64 n151)) rfl rfl) ?_
              refine ol_put rfl rfl rfl (q_ext (v := .one (bC b152)) rfl rfl) ?_
              refine ol_put rfl rfl rfl (q_assign (v := .one (iC .i64 n151)) rfl) ?_
              refine ol_put rfl rfl rfl (q_assign (v := .one (bC b152)) rfl) ?_
              refine ol_end ?_
              refine E_seq ?_
              refine L_seq ?_
              refine L_seq ?_
              refine L_ops ?_
              refine ol_put rfl rfl rfl (q_move (v := .one (bC b152)) rfl) ?_
              rcases b152 with _ | _
              · replace h := ifF (by decide) h
                refine ol_put rfl rfl rfl (q_not rfl) ?_
                refine ol_end ?_
                refine E_seq ?_
                refine L_condT rfl ?_
                refine L_seq ?_
                refine L_ops ?_
                refine ol_put rfl rfl rfl (q_build (cs := [iC .i64 0, .p true (Sl.t r56 (⟨false, 0, []⟩ : Sl (Int × Int)))]) ty25 rfl pl25 rfl) ?_
                refine ol_wr rfl rfl (q_store (es' := [[iC .i64 0, .p true (Sl.t r56 (⟨false, 0, []⟩ : Sl (Int × Int)))]]) 2 rfl rfl rfl sz25 rfl rfl rfl rfl rfl) rfl ?_
                refine ol_put rfl rfl rfl (q_assign (v := .one (iC .i64 12)) rfl) ?_
                refine ol_end ?_
                refine E_seq ?_
                refine L_ret ?_
                refine E_seqR ?_
                refine E_seqR ?_
                refine E_blkR ?_
                refine E_seqR ?_
                obtain rfl := Option.some.inj h
                exact E_out (E_up (E_endF (.inr rfl) (res_cell (d := .agg [iC .i64 0, .p true (Sl.t r56 (⟨false, 0, []⟩ : Sl (Int × Int)))]) 2 rfl sz25 rfl rfl rfl rfl (res_tmp rfl res_nil)) (vw_cons (vd_agg (vc_cons vc_v (vc_cons vc_s vc_nil))) (vw_cons (vd_one vc_v) vw_nil)) (fun h hb => own_no2) rfl rfl))
              · replace h := ifT (by decide) h
                refine ol_put rfl rfl rfl (q_not rfl) ?_
                refine ol_end ?_
                refine E_seq ?_
                refine L_condF rfl ?_
                refine L_skip ?_
                refine E_seq ?_
                refine L_ops ?_
                refine ol_put rfl rfl rfl (q_move (v := .one (iC .i64 n151)) rfl) ?_
                refine ol_put rfl rfl rfl (q_assign (v := .one (iC .i64 n151)) rfl) ?_
                refine ol_end ?_
                refine E_seq ?_
                refine L_ops ?_
                refine ol_put rfl rfl rfl (q_fieldP rfl fa25_1 rfl) ?_
                refine ol_put rfl rfl rfl (q_loadP (v := .one (moC l126 k127)) 3 rfl sz23 rfl rfl rfl rfl) ?_
                refine ol_put rfl rfl rfl (q_move (v := .one (iC .i64 n125)) rfl) ?_
                refine ol_put rfl rfl rfl (q_move (v := .one (iC .i64 n151)) rfl) ?_
                refine ol_put rfl rfl rfl (q_build (cs := [iC .i64 n125, iC .i64 n151]) ty57 rfl pl57 rfl) ?_
                refine ol_new rfl rfl rfl (q_bslice (cs := [iC .i64 n125, iC .i64 n151]) (es := (([(n125, n151)] : List (Int × Int))).map (rowC r56)) ty23 rfl ty57 rfl rfl rfl rfl rfl) (fun k153 => ?_)
                obtain ⟨_, h154, h⟩ := bindS h
                obtain ⟨h154b, rfl⟩ := app_some h154
                refine ol_appM (r := r56) (l := l126) (ys := ([(n125, n151)] : List (Int × Int))) 5 rfl rfl rfl rfl rfl rfl (el_ownM (l := ([(n125, n151)] : List (Int × Int))) 0 rfl) rfl h154 (fun y => rfl) el23 ty23 rfl rfl rfl rfl rfl (fun k155 => ?_)
                refine ol_put rfl rfl rfl (q_fieldP rfl fa25_1 rfl) ?_
                refine ol_wr rfl rfl (q_store (es' := [[iC .i64 n19, moC (l126 ++ ([(n125, n151)] : List (Int × Int))) k155]]) 5 rfl rfl rfl sz23 rfl rfl rfl rfl rfl) rfl ?_
                refine ol_end ?_
                refine E_blkN ?_
                refine E_seq ?_
                refine L_ops ?_
                refine ol_put rfl rfl rfl (q_move (v := .one (iC .i64 n125)) rfl) ?_
                refine ol_put rfl rfl rfl (q_bin rfl rfl (p_add _ _ _ _ _ _ _) rfl) ?_
                refine ol_put rfl rfl rfl (q_assign (v := .one (iC .i64 (IntKind.i64.wrap (n125 + 1)))) rfl) ?_
                refine ol_end ?_
                obtain rfl := Option.some.inj h
                exact E_next k155 (ups_self ⟨rfl, rfl, rfl, rfl, rfl, rfl, trivial⟩) [2, 3, 4, 5, 0] (by decide) rfl
        · replace h := ifF c128 h
          refine ol_put rfl rfl rfl (q_bin rfl rfl (p_lss_f _ _ _ _ _ c128) rfl) ?_
          refine ol_end ?_
          refine E_seq ?_
          refine L_condF rfl ?_
          refine L_exit ?_
          refine E_seqX ?_
          obtain rfl := Option.some.inj h
          refine E_out ?_
          exact (E_exit k127 (ups_self ⟨rfl, rfl, trivial⟩) [2, 3, 4] (by decide) rfl)
      · rintro (l156 | u) h
        · refine J_x (fun k157 g => ?_)
          replace h := elimL h
          refine E_blkH ?_
          refine E_seq ?_
          refine L_seq ?_
          refine L_ops ?_
          refine ol_put rfl rfl rfl (q_loadP (v := .agg [iC .i64 n19, moC l156 k157]) 1 rfl sz25 rfl rfl rfl rfl) ?_
          refine ol_wr rfl rfl (q_store (es' := [[iC .i64 n19, moC l156 k157]]) 0 rfl rfl rfl sz25 rfl rfl rfl rfl rfl) rfl ?_
          refine ol_put rfl rfl rfl (q_assign (v := .one (iC .i64 0)) rfl) ?_
          refine ol_end ?_
          refine E_seq ?_
          refine L_ret ?_
          obtain rfl := Option.some.inj h
          exact E_endF (.inr rfl) (res_cell (d := .agg [iC .i64 n19, moC l156 k157]) 0 rfl sz25 rfl rfl rfl rfl (res_tmp rfl res_nil)) (vw_cons (vd_agg (vc_cons vc_v (vc_cons (vc_M (r := r56) 2 rfl (fun x h m => rfl)) vc_nil))) (vw_cons (vd_one vc_v) vw_nil)) (fun h hb => own_no2) rfl rfl
        · obtain rfl := Option.some.inj (elimR h)
          exact J_up (fun s hs => hs)

noncomputable def wide_products (n1 : Int) (n2 : Int) : Option ((Int × Int × Int × Int)) :=
  ((shr1 .u64 n1 32).bind fun n4 => ((shr1 .u64 n2 32).bind fun n6 => some ((IntKind.u64.wrap ((andI .u64 n1 4294967295) * (andI .u64 n2 4294967295))), (IntKind.u64.wrap ((andI .u64 n1 4294967295) * n6)), (IntKind.u64.wrap (n4 * (andI .u64 n2 4294967295))), (IntKind.u64.wrap (n4 * n6)))))
theorem wide_products_r (m : Nat) {n1 : Int} {n2 : Int} {out : (Int × Int × Int × Int)} (h : wide_products n1 n2 = some out) : RunsP E1 (m + 1) 79 [.one (iT .u64 n1), .one (iT .u64 n2)] (.fresh, [.agg (r103 out)]) := by
  refine fn_F rfl (by rw [E1_fn]; exact show fiOf Try.prog 79 = _ by unfold fiOf; rw [Try.func79]; unfold Try.f79; rfl) rfl ?_
  dsimp only
  unfold wide_products at h
  refine L_seq ?_
  refine L_ops ?_
  refine ol_new rfl rfl rfl (q_alloc ty103 (row := [iC .u64 0, iC .u64 0, iC .u64 0, iC .u64 0]) rfl rfl) (fun k3 => ?_)
  refine ol_end ?_
  refine E_seq ?_
  refine L_seq ?_
  refine L_ops ?_
  refine ol_put rfl rfl rfl (q_move (v := .one (iC .u64 n1)) rfl) ?_
  refine ol_put rfl rfl rfl (q_bin rfl rfl (p_and _ _ _ _ _ _ _) rfl) ?_
  refine ol_put rfl rfl rfl (q_move (v := .one (iC .u64 n1)) rfl) ?_
  obtain ⟨n4, h5, h⟩ := bindS h
  refine ol_put rfl rfl rfl (q_bin rfl rfl (p_shr h5) rfl) ?_
  refine ol_put rfl rfl rfl (q_assign (v := .one (iC .u64 (andI .u64 n1 4294967295))) rfl) ?_
  refine ol_put rfl rfl rfl (q_assign (v := .one (iC .u64 n4)) rfl) ?_
  refine ol_end ?_
  refine E_seq ?_
  refine L_seq ?_
  refine L_ops ?_
  refine ol_put rfl rfl rfl (q_move (v := .one (iC .u64 n2)) rfl) ?_
  refine ol_put rfl rfl rfl (q_bin rfl rfl (p_and _ _ _ _ _ _ _) rfl) ?_
  refine ol_put rfl rfl rfl (q_move (v := .one (iC .u64 n2)) rfl) ?_
  obtain ⟨n6, h7, h⟩ := bindS h
  refine ol_put rfl rfl rfl (q_bin rfl rfl (p_shr h7) rfl) ?_
  refine ol_put rfl rfl rfl (q_assign (v := .one (iC .u64 (andI .u64 n2 4294967295))) rfl) ?_
  refine ol_put rfl rfl rfl (q_assign (v := .one (iC .u64 n6)) rfl) ?_
  refine ol_end ?_
  refine E_seq ?_
  refine L_seq ?_
  refine L_ops ?_
  refine ol_put rfl rfl rfl (q_move (v := .one (iC .u64 (andI .u64 n1 4294967295))) rfl) ?_
  refine ol_put rfl rfl rfl (q_move (v := .one (iC .u64 (andI .u64 n2 4294967295))) rfl) ?_
  refine ol_put rfl rfl rfl (q_bin rfl rfl (p_mul _ _ _ _ _ _ _) rfl) ?_
  refine ol_put rfl rfl rfl (q_move (v := .one (iC .u64 (andI .u64 n1 4294967295))) rfl) ?_
  refine ol_put rfl rfl rfl (q_move (v := .one (iC .u64 n6)) rfl) ?_
  refine ol_put rfl rfl rfl (q_bin rfl rfl (p_mul _ _ _ _ _ _ _) rfl) ?_
  refine ol_put rfl rfl rfl (q_move (v := .one (iC .u64 n4)) rfl) ?_
  refine ol_put rfl rfl rfl (q_move (v := .one (iC .u64 (andI .u64 n2 4294967295))) rfl) ?_
  refine ol_put rfl rfl rfl (q_bin rfl rfl (p_mul _ _ _ _ _ _ _) rfl) ?_
  refine ol_put rfl rfl rfl (q_move (v := .one (iC .u64 n4)) rfl) ?_
  refine ol_put rfl rfl rfl (q_move (v := .one (iC .u64 n6)) rfl) ?_
  refine ol_put rfl rfl rfl (q_bin rfl rfl (p_mul _ _ _ _ _ _ _) rfl) ?_
  refine ol_put rfl rfl rfl (q_build (cs := [iC .u64 (IntKind.u64.wrap ((andI .u64 n1 4294967295) * (andI .u64 n2 4294967295))), iC .u64 (IntKind.u64.wrap ((andI .u64 n1 4294967295) * n6)), iC .u64 (IntKind.u64.wrap (n4 * (andI .u64 n2 4294967295))), iC .u64 (IntKind.u64.wrap (n4 * n6))]) ty103 rfl rfl rfl) ?_
  refine ol_wr rfl rfl (q_store (es' := [[iC .u64 (IntKind.u64.wrap ((andI .u64 n1 4294967295) * (andI .u64 n2 4294967295))), iC .u64 (IntKind.u64.wrap ((andI .u64 n1 4294967295) * n6)), iC .u64 (IntKind.u64.wrap (n4 * (andI .u64 n2 4294967295))), iC .u64 (IntKind.u64.wrap (n4 * n6))]]) 0 rfl rfl rfl sz103 rfl rfl rfl rfl rfl) rfl ?_
  refine ol_end ?_
  refine E_seq ?_
  refine L_ret ?_
  obtain rfl := Option.some.inj h
  exact E_endF (.inr rfl) (res_cell (d := .agg [iC .u64 (IntKind.u64.wrap ((andI .u64 n1 4294967295) * (andI .u64 n2 4294967295))), iC .u64 (IntKind.u64.wrap ((andI .u64 n1 4294967295) * n6)), iC .u64 (IntKind.u64.wrap (n4 * (andI .u64 n2 4294967295))), iC .u64 (IntKind.u64.wrap (n4 * n6))]) 0 rfl sz103 rfl rfl rfl rfl res_nil) (vw_cons (vd_agg (vc_cons vc_v (vc_cons vc_v (vc_cons vc_v (vc_cons vc_v vc_nil))))) vw_nil) (fun h hb => own_agg) rfl rfl

noncomputable def wide_Left (a0 : Int × Int) (n3 : Int) : Option ((Int × Int)) :=
  match a0 with
  | (n1, n2) => (if n3 < 0 then some (n1, n2) else (if n3 > 127 then some (0, 0) else (if n3 > 63 then ((shl1 .u64 n2 (IntKind.u64.wrap (IntKind.i64.wrap (n3 - 64)))).bind fun n9 => some ((IntKind.i64.wrap n9), 0)) else ((shl1 .u64 (IntKind.u64.wrap n1) (IntKind.u64.wrap n3)).bind fun n11 => ((shr1 .u64 n2 (IntKind.u64.wrap (IntKind.i64.wrap (64 - n3)))).bind fun n13 => ((shl1 .u64 n2 (IntKind.u64.wrap n3)).bind fun n15 => some ((IntKind.i64.wrap (orI .u64 n11 n13)), n15)))))))
theorem wide_Left_r (m : Nat) {a0 : Int × Int} {n3 : Int} {out : (Int × Int)} (h : wide_Left a0 n3 = some out) : RunsP E1 (m + 1) 80 [.agg (r65 a0), .one (iT .i64 n3)] (.fresh, [.agg (r65 out)]) := by
  obtain ⟨n1, n2⟩ := a0
  refine fn_F rfl (by rw [E1_fn]; exact show fiOf Try.prog 80 = _ by unfold fiOf; rw [Try.func80]; unfold Try.f80; rfl) rfl ?_
  dsimp only
  unfold wide_Left at h
  refine L_seq ?_
  refine L_ops ?_
  refine ol_new rfl rfl rfl (q_box ty66 rfl (cs := [iC .i64 n1, iC .u64 n2]) rfl rfl) (fun k4 => ?_)
  refine ol_new rfl rfl rfl (q_alloc ty66 (row := [iC .i64 0, iC .u64 0]) rfl rfl) (fun k5 => ?_)
  refine ol_end ?_
  refine E_seq ?_
  refine L_seq ?_
  refine L_block ?_
  refine L_seq ?_
  refine L_ops ?_
  refine ol_put rfl rfl rfl (q_move (v := .one (iC .i64 n3)) rfl) ?_
  by_cases c6 : n3 < 0
  · replace h := ifT c6 h
    refine ol_put rfl rfl rfl (q_bin rfl rfl (p_lss_t _ _ _ _ _ c6) rfl) ?_
    refine ol_put rfl rfl rfl (q_assign (v := .one (bC true)) rfl) ?_
    refine ol_end ?_
    refine E_seq ?_
    refine L_condT rfl ?_
    refine L_seq ?_
    refine L_ops ?_
    refine ol_put rfl rfl rfl (q_loadP (v := .agg [iC .i64 n1, iC .u64 n2]) 1 rfl sz66 rfl rfl rfl rfl) ?_
    refine ol_wr rfl rfl (q_store (es' := [[iC .i64 n1, iC .u64 n2]]) 0 rfl rfl rfl sz66 rfl rfl rfl rfl rfl) rfl ?_
    refine ol_end ?_
    refine E_seq ?_
    refine L_ret ?_
    refine E_blkR ?_
    refine E_seqR ?_
    obtain rfl := Option.some.inj h
    exact E_endF (.inr rfl) (res_cell (d := .agg [iC .i64 n1, iC .u64 n2]) 0 rfl sz66 rfl rfl rfl rfl res_nil) (vw_cons (vd_agg (vc_cons vc_v (vc_cons vc_v vc_nil))) vw_nil) (fun h hb => own_agg) rfl rfl
  · replace h := ifF c6 h
    refine ol_put rfl rfl rfl (q_bin rfl rfl (p_lss_f _ _ _ _ _ c6) rfl) ?_
    refine ol_put rfl rfl rfl (q_assign (v := .one (bC false)) rfl) ?_
    refine ol_end ?_
    refine E_seq ?_
    refine L_condF rfl ?_
    refine L_seq ?_
    refine L_ops ?_
    refine ol_put rfl rfl rfl (q_move (v := .one (iC .i64 n3)) rfl) ?_
    by_cases c7 : n3 > 127
    · replace h := ifT c7 h
      refine ol_put rfl rfl rfl (q_bin rfl rfl (p_gtr_t _ _ _ _ _ c7) rfl) ?_
      refine ol_put rfl rfl rfl (q_assign (v := .one (bC true)) rfl) ?_
      refine ol_end ?_
      refine E_seq ?_
      refine L_condT rfl ?_
      refine L_seq ?_
      refine L_ops ?_
      refine ol_put rfl rfl rfl (q_build (cs := [iC .i64 0, iC .u64 0]) ty66 rfl pl66 rfl) ?_
      refine ol_wr rfl rfl (q_store (es' := [[iC .i64 0, iC .u64 0]]) 0 rfl rfl rfl sz66 rfl rfl rfl rfl rfl) rfl ?_
      refine ol_end ?_
      refine E_seq ?_
      refine L_ret ?_
      refine E_blkR ?_
      refine E_seqR ?_
      obtain rfl := Option.some.inj h
      exact E_endF (.inr rfl) (res_cell (d := .agg [iC .i64 0, iC .u64 0]) 0 rfl sz66 rfl rfl rfl rfl res_nil) (vw_cons (vd_agg (vc_cons vc_v (vc_cons vc_v vc_nil))) vw_nil) (fun h hb => own_agg) rfl rfl
    · replace h := ifF c7 h
      refine ol_put rfl rfl rfl (q_bin rfl rfl (p_gtr_f _ _ _ _ _ c7) rfl) ?_
      refine ol_put rfl rfl rfl (q_assign (v := .one (bC false)) rfl) ?_
      refine ol_end ?_
      refine E_seq ?_
      refine L_condF rfl ?_
      refine L_seq ?_
      refine L_ops ?_
      refine ol_put rfl rfl rfl (q_move (v := .one (iC .i64 n3)) rfl) ?_
      by_cases c8 : n3 > 63
      · replace h := ifT c8 h
        refine ol_put rfl rfl rfl (q_bin rfl rfl (p_gtr_t _ _ _ _ _ c8) rfl) ?_
        refine ol_put rfl rfl rfl (q_assign (v := .one (bC true)) rfl) ?_
        refine ol_end ?_
        refine E_seq ?_
        refine L_condT rfl ?_
        refine L_seq ?_
        refine L_ops ?_
        refine ol_put rfl rfl rfl (q_fieldP rfl fa66_1 rfl) ?_
        refine ol_put rfl rfl rfl (q_loadP (v := .one (iC .u64 n2)) 1 rfl sz61 rfl rfl rfl rfl) ?_
        refine ol_put rfl rfl rfl (q_move (v := .one (iC .i64 n3)) rfl) ?_
        refine ol_put rfl rfl rfl (q_bin rfl rfl (p_sub _ _ _ _ _ _ _) rfl) ?_
        refine ol_put rfl rfl rfl (q_conv rfl (cv3_90_i64 _) rfl) ?_
        obtain ⟨n9, h10, h⟩ := bindS h
        refine ol_put rfl rfl rfl (q_bin rfl rfl (p_shl h10) rfl) ?_
        refine ol_put rfl rfl rfl (q_conv rfl (cv61_2_u64 _) rfl) ?_
        refine ol_put rfl rfl rfl (q_build (cs := [iC .i64 (IntKind.i64.wrap n9), iC .u64 0]) ty66 rfl pl66 rfl) ?_
        refine ol_wr rfl rfl (q_store (es' := [[iC .i64 (IntKind.i64.wrap n9), iC .u64 0]]) 0 rfl rfl rfl sz66 rfl rfl rfl rfl rfl) rfl ?_
        refine ol_end ?_
        refine E_seq ?_
        refine L_ret ?_
        refine E_blkR ?_
        refine E_seqR ?_
        obtain rfl := Option.some.inj h
        exact E_endF (.inr rfl) (res_cell (d := .agg [iC .i64 (IntKind.i64.wrap n9), iC .u64 0]) 0 rfl sz66 rfl rfl rfl rfl res_nil) (vw_cons (vd_agg (vc_cons vc_v (vc_cons vc_v vc_nil))) vw_nil) (fun h hb => own_agg) rfl rfl
      · replace h := ifF c8 h
        refine ol_put rfl rfl rfl (q_bin rfl rfl (p_gtr_f _ _ _ _ _ c8) rfl) ?_
        refine ol_put rfl rfl rfl (q_assign (v := .one (bC false)) rfl) ?_
        refine ol_end ?_
        refine E_seq ?_
        refine L_condF rfl ?_
        refine L_skip ?_
        refine E_blkN ?_
        refine E_seq ?_
        refine L_seq ?_
        refine L_ops ?_
        refine ol_put rfl rfl rfl (q_fieldP rfl fa66_0 rfl) ?_
        refine ol_put rfl rfl rfl (q_loadP (v := .one (iC .i64 n1)) 1 rfl sz2 rfl rfl rfl rfl) ?_
        refine ol_put rfl rfl rfl (q_conv rfl (cv2_61_i64 _) rfl) ?_
        refine ol_put rfl rfl rfl (q_move (v := .one (iC .i64 n3)) rfl) ?_
        refine ol_put rfl rfl rfl (q_conv rfl (cv3_90_i64 _) rfl) ?_
        obtain ⟨n11, h12, h⟩ := bindS h
        refine ol_put rfl rfl rfl (q_bin rfl rfl (p_shl h12) rfl) ?_
        refine ol_put rfl rfl rfl (q_fieldP rfl fa66_1 rfl) ?_
        refine ol_put rfl rfl rfl (q_loadP (v := .one (iC .u64 n2)) 1 rfl sz61 rfl rfl rfl rfl) ?_
        refine ol_put rfl rfl rfl (q_move (v := .one (iC .i64 n3)) rfl) ?_
        refine ol_put rfl rfl rfl (q_bin rfl rfl (p_sub _ _ _ _ _ _ _) rfl) ?_
        refine ol_put rfl rfl rfl (q_conv rfl (cv3_90_i64 _) rfl) ?_
        obtain ⟨n13, h14, h⟩ := bindS h
        refine ol_put rfl rfl rfl (q_bin rfl rfl (p_shr h14) rfl) ?_
        refine ol_put rfl rfl rfl (q_bin rfl rfl (p_or _ _ _ _ _ _ _) rfl) ?_
        refine ol_put rfl rfl rfl (q_assign (v := .one (iC .u64 (orI .u64 n11 n13))) rfl) ?_
        refine ol_end ?_
        refine E_seq ?_
        refine L_seq ?_
        refine L_ops ?_
        refine ol_put rfl rfl rfl (q_move (v := .one (iC .u64 (orI .u64 n11 n13))) rfl) ?_
        refine ol_put rfl rfl rfl (q_conv rfl (cv61_2_u64 _) rfl) ?_
        refine ol_put rfl rfl rfl (q_fieldP rfl fa66_1 rfl) ?_
        refine ol_put rfl rfl rfl (q_loadP (v := .one (iC .u64 n2)) 1 rfl sz61 rfl rfl rfl rfl) ?_
        refine ol_put rfl rfl rfl (q_move (v := .one (iC .i64 n3)) rfl) ?_
        refine ol_put rfl rfl rfl (q_conv rfl (cv3_90_i64 _) rfl) ?_
        obtain ⟨n15, h16, h⟩ := bindS h
        refine ol_put rfl rfl rfl (q_bin rfl rfl (p_shl h16) rfl) ?_
        refine ol_put rfl rfl rfl (q_build (cs := [iC .i64 (IntKind.i64.wrap (orI .u64 n11 n13)), iC .u64 n15]) ty66 rfl pl66 rfl) ?_
        refine ol_wr rfl rfl (q_store (es' := [[iC .i64 (IntKind.i64.wrap (orI .u64 n11 n13)), iC .u64 n15]]) 0 rfl rfl rfl sz66 rfl rfl rfl rfl rfl) rfl ?_
        refine ol_end ?_
        refine E_seq ?_
        refine L_ret ?_
        obtain rfl := Option.some.inj h
        exact E_endF (.inr rfl) (res_cell (d := .agg [iC .i64 (IntKind.i64.wrap (orI .u64 n11 n13)), iC .u64 n15]) 0 rfl sz66 rfl rfl rfl rfl res_nil) (vw_cons (vd_agg (vc_cons vc_v (vc_cons vc_v vc_nil))) vw_nil) (fun h hb => own_agg) rfl rfl

noncomputable def wide_Mul (n1 : Int) (n2 : Int) : Option ((Int × Int)) :=
  ((wide_products (IntKind.u64.wrap n1) (IntKind.u64.wrap n2)).bind fun (n5, n6, n7, n8) => ((wide_Left (0, n6) 32).bind fun (n19, n20) => ((wide_Add ((IntKind.i64.wrap n8), n5) (n19, n20)).bind fun (n22, n23) => ((wide_Left (0, n7) 32).bind fun (n32, n33) => ((wide_Add (n22, n23) (n32, n33)).bind fun (n35, n36) => (if n1 < 0 then (if n2 < 0 then some ((IntKind.i64.wrap ((IntKind.i64.wrap (n35 - n2)) - n1)), n36) else some ((IntKind.i64.wrap (n35 - n2)), n36)) else (if n2 < 0 then some ((IntKind.i64.wrap (n35 - n1)), n36) else some (n35, n36))))))))
theorem wide_Mul_r (m : Nat) {n1 : Int} {n2 : Int} {out : (Int × Int)} (h : wide_Mul n1 n2 = some out) : RunsP E1 (m + 2) 69 [.one (iT .i64 n1), .one (iT .i64 n2)] (.fresh, [.agg (r65 out)]) := by
  refine fn_F rfl (by rw [E1_fn]; exact show fiOf Try.prog 69 = _ by unfold fiOf; rw [Try.func69]; unfold Try.f69; rfl) rfl ?_
  dsimp only
  unfold wide_Mul at h
  refine L_seq ?_
  refine L_ops ?_
  refine ol_new rfl rfl rfl (q_alloc ty66 (row := [iC .i64 0, iC .u64 0]) rfl rfl) (fun k3 => ?_)
  refine ol_end ?_
  refine E_seq ?_
  refine L_seq ?_
  refine L_ops ?_
  refine ol_put rfl rfl rfl (q_move (v := .one (iC .i64 n1)) rfl) ?_
  refine ol_put rfl rfl rfl (q_conv rfl (cv2_61_i64 _) rfl) ?_
  refine ol_put rfl rfl rfl (q_move (v := .one (iC .i64 n2)) rfl) ?_
  refine ol_put rfl rfl rfl (q_conv rfl (cv2_61_i64 _) rfl) ?_
  obtain ⟨⟨n5, n6, n7, n8⟩, h4, h⟩ := bindS h
  refine ol_put rfl rfl rfl (q_callF (v := .agg [iC .u64 n5, iC .u64 n6, iC .u64 n7, iC .u64 n8]) (args := [.one (iC .u64 (IntKind.u64.wrap n1)), .one (iC .u64 (IntKind.u64.wrap n2))]) (wide_products_r (m + 0) h4) rfl rfl (vw_cons (vd_one vc_v) (vw_cons (vd_one vc_v) vw_nil)) rfl rfl) ?_
  refine ol_new rfl rfl rfl (q_alloc ty103 (row := [iC .u64 0, iC .u64 0, iC .u64 0, iC .u64 0]) rfl rfl) (fun k9 => ?_)
  refine ol_wr rfl rfl (q_store (es' := [[iC .u64 n5, iC .u64 n6, iC .u64 n7, iC .u64 n8]]) 0 rfl rfl rfl sz103 rfl rfl rfl rfl rfl) rfl ?_
  refine ol_end ?_
  refine E_seq ?_
  refine L_seq ?_
  refine L_ops ?_
  refine ol_put rfl rfl rfl (q_ixA (a := 3) ty103 rfl ty61 rfl rfl rfl rfl) ?_
  refine ol_put rfl rfl rfl (q_loadP (v := .one (iC .u64 n8)) 0 rfl sz61 rfl rfl rfl rfl) ?_
  refine ol_put rfl rfl rfl (q_conv rfl (cv61_2_u64 _) rfl) ?_
  refine ol_put rfl rfl rfl (q_ixA (a := 0) ty103 rfl ty61 rfl rfl rfl rfl) ?_
  refine ol_put rfl rfl rfl (q_loadP (v := .one (iC .u64 n5)) 0 rfl sz61 rfl rfl rfl rfl) ?_
  refine ol_put rfl rfl rfl (q_build (cs := [iC .i64 (IntKind.i64.wrap n8), iC .u64 n5]) ty66 rfl pl66 rfl) ?_
  refine ol_new rfl rfl rfl (q_alloc ty66 (row := [iC .i64 0, iC .u64 0]) rfl rfl) (fun k10 => ?_)
  refine ol_wr rfl rfl (q_store (es' := [[iC .i64 (IntKind.i64.wrap n8), iC .u64 n5]]) 0 rfl rfl rfl sz66 rfl rfl rfl rfl rfl) rfl ?_
  refine ol_end ?_
  refine E_seq ?_
  refine L_seq ?_
  refine L_norm (L2 := ([[(k10, 2, [[iC .i64 (IntKind.i64.wrap n8), iC .u64 n5]])], [(k9, 4, [[iC .u64 n5, iC .u64 n6, iC .u64 n7, iC .u64 n8]])], [(k3, 2, [[iC .i64 0, iC .u64 0]])]] : BL)) [0, 1, 2] (by decide) rfl ?_
  refine L_turn 7 rfl [[], [], [], [], [], [], [k10]] [(false, []), (false, []), (false, []), (false, []), (false, []), (false, []), (false, [])] [[1, 2, 3, 4], [0], [0], [0], [0], [], []] (by kernel_rfl) (by kernel_rfl) (by kernel_rfl) ?_ (fun bb11 hlt hnd => ?_)
  · intro bb11 hlt hnd
    exact ⟨⟨djE, ⟨djE, ⟨djE, ⟨djE, ⟨djE, ⟨djE, ⟨djN, trivial⟩⟩⟩⟩⟩⟩⟩, (ltO_cons ltK_nil (ltO_cons ltK_nil (ltO_cons ltK_nil (ltO_cons ltK_nil (ltO_cons ltK_nil (ltO_cons ltK_nil (ltO_cons (ltK_cons (key_lt hlt 0 rfl) ltK_nil) ltO_nil)))))))⟩
  refine tn_put rfl rfl rfl [0] (by decide) rfl (hm0 rfl) rfl (q_loadP (v := .agg [iC .i64 (IntKind.i64.wrap n8), iC .u64 n5]) 0 rfl sz66 rfl rfl rfl rfl) ?_
  refine tn_put rfl rfl rfl [] (by decide) rfl (hm0 rfl) rfl (q_ixA (a := 1) ty103 rfl ty61 rfl rfl rfl rfl) ?_
  refine tn_put rfl rfl rfl [1] (by decide) rfl (hm0 rfl) rfl (q_loadP (v := .one (iC .u64 n6)) 0 rfl sz61 rfl rfl rfl rfl) ?_
  refine tn_put rfl rfl rfl [] (by decide) rfl (hm0 rfl) rfl (q_build (cs := [iC .i64 0, iC .u64 n6]) ty66 rfl pl66 rfl) ?_
  obtain ⟨⟨n19, n20⟩, h18, h⟩ := bindS h
  refine tn_put rfl rfl rfl [] (by decide) rfl (hm0 rfl) rfl (q_callF (v := .agg [iC .i64 n19, iC .u64 n20]) (args := [.agg [iC .i64 0, iC .u64 n6], .one (iC .i64 32)]) (wide_Left_r (m + 0) h18) rfl rfl (vw_cons (vd_agg (vc_cons vc_v (vc_cons vc_v vc_nil))) (vw_cons (vd_one vc_v) vw_nil)) rfl rfl) ?_
  obtain ⟨⟨n22, n23⟩, h21, h⟩ := bindS h
  refine tn_put rfl rfl rfl [] (by decide) rfl (hm0 rfl) rfl (q_callF (v := .agg [iC .i64 n22, iC .u64 n23]) (args := [.agg [iC .i64 (IntKind.i64.wrap n8), iC .u64 n5], .agg [iC .i64 n19, iC .u64 n20]]) (wide_Add_r (m + 0) h21) rfl rfl (vw_cons (vd_agg (vc_cons vc_v (vc_cons vc_v vc_nil))) (vw_cons (vd_agg (vc_cons vc_v (vc_cons vc_v vc_nil))) vw_nil)) rfl rfl) ?_
  refine tn_wr rfl rfl [0] (by decide) rfl (hm0 rfl) rfl (q_store (es' := [[iC .i64 n22, iC .u64 n23]]) 0 rfl rfl rfl sz66 rfl rfl rfl rfl rfl) (q := 0) rfl rfl ?_
  refine tn_end ?_
  refine E_seq ?_
  refine L_seq ?_
  refine L_norm (L2 := ([[(k10, 2, [[iC .i64 n22, iC .u64 n23]])], [(k9, 4, [[iC .u64 n5, iC .u64 n6, iC .u64 n7, iC .u64 n8]])], [(k3, 2, [[iC .i64 0, iC .u64 0]])]] : BL)) [0, 1, 2] (by decide) rfl ?_
  refine L_turn 7 rfl [[], [], [], [], [], [], [k10]] [(false, []), (false, []), (false, []), (false, []), (false, []), (false, []), (false, [])] [[1, 2, 3, 4], [0], [0], [0], [0], [], []] (by kernel_rfl) (by kernel_rfl) (by kernel_rfl) ?_ (fun bb24 hlt hnd => ?_)
  · intro bb24 hlt hnd
    exact ⟨⟨djE, ⟨djE, ⟨djE, ⟨djE, ⟨djE, ⟨djE, ⟨djN, trivial⟩⟩⟩⟩⟩⟩⟩, (ltO_cons ltK_nil (ltO_cons ltK_nil (ltO_cons ltK_nil (ltO_cons ltK_nil (ltO_cons ltK_nil (ltO_cons ltK_nil (ltO_cons (ltK_cons (key_lt hlt 0 rfl) ltK_nil) ltO_nil)))))))⟩
  refine tn_put rfl rfl rfl [0] (by decide) rfl (hm0 rfl) rfl (q_loadP (v := .agg [iC .i64 n22, iC .u64 n23]) 0 rfl sz66 rfl rfl rfl rfl) ?_
  refine tn_put rfl rfl rfl [] (by decide) rfl (hm0 rfl) rfl (q_ixA (a := 2) ty103 rfl ty61 rfl rfl rfl rfl) ?_
  refine tn_put rfl rfl rfl [1] (by decide) rfl (hm0 rfl) rfl (q_loadP (v := .one (iC .u64 n7)) 0 rfl sz61 rfl rfl rfl rfl) ?_
  refine tn_put rfl rfl rfl [] (by decide) rfl (hm0 rfl) rfl (q_build (cs := [iC .i64 0, iC .u64 n7]) ty66 rfl pl66 rfl) ?_
  obtain ⟨⟨n32, n33⟩, h31, h⟩ := bindS h
  refine tn_put rfl rfl rfl [] (by decide) rfl (hm0 rfl) rfl (q_callF (v := .agg [iC .i64 n32, iC .u64 n33]) (args := [.agg [iC .i64 0, iC .u64 n7], .one (iC .i64 32)]) (wide_Left_r (m + 0) h31) rfl rfl (vw_cons (vd_agg (vc_cons vc_v (vc_cons vc_v vc_nil))) (vw_cons (vd_one vc_v) vw_nil)) rfl rfl) ?_
  obtain ⟨⟨n35, n36⟩, h34, h⟩ := bindS h
  refine tn_put rfl rfl rfl [] (by decide) rfl (hm0 rfl) rfl (q_callF (v := .agg [iC .i64 n35, iC .u64 n36]) (args := [.agg [iC .i64 n22, iC .u64 n23], .agg [iC .i64 n32, iC .u64 n33]]) (wide_Add_r (m + 0) h34) rfl rfl (vw_cons (vd_agg (vc_cons vc_v (vc_cons vc_v vc_nil))) (vw_cons (vd_agg (vc_cons vc_v (vc_cons vc_v vc_nil))) vw_nil)) rfl rfl) ?_
  refine tn_wr rfl rfl [0] (by decide) rfl (hm0 rfl) rfl (q_store (es' := [[iC .i64 n35, iC .u64 n36]]) 0 rfl rfl rfl sz66 rfl rfl rfl rfl rfl) (q := 0) rfl rfl ?_
  refine tn_end ?_
  refine E_seq ?_
  refine L_seq ?_
  refine L_seq ?_
  refine L_ops ?_
  refine ol_put rfl rfl rfl (q_move (v := .one (iC .i64 n1)) rfl) ?_
  by_cases c37 : n1 < 0
  · replace h := ifT c37 h
    refine ol_put rfl rfl rfl (q_bin rfl rfl (p_lss_t _ _ _ _ _ c37) rfl) ?_
    refine ol_end ?_
    refine E_seq ?_
    refine L_condT rfl ?_
    refine L_ops ?_
    refine ol_put rfl rfl rfl (q_fieldP rfl fa66_0 rfl) ?_
    refine ol_put rfl rfl rfl (q_loadP (v := .one (iC .i64 n35)) 0 rfl sz2 rfl rfl rfl rfl) ?_
    refine ol_put rfl rfl rfl (q_move (v := .one (iC .i64 n2)) rfl) ?_
    refine ol_put rfl rfl rfl (q_bin rfl rfl (p_sub _ _ _ _ _ _ _) rfl) ?_
    refine ol_put rfl rfl rfl (q_fieldP rfl fa66_0 rfl) ?_
    refine ol_wr rfl rfl (q_store (es' := [[iC .i64 (IntKind.i64.wrap (n35 - n2)), iC .u64 n36]]) 0 rfl rfl rfl sz2 rfl rfl rfl rfl rfl) rfl ?_
    refine ol_end ?_
    refine E_seq ?_
    refine L_seq ?_
    refine L_seq ?_
    refine L_ops ?_
    refine ol_put rfl rfl rfl (q_move (v := .one (iC .i64 n2)) rfl) ?_
    by_cases c38 : n2 < 0
    · replace h := ifT c38 h
      refine ol_put rfl rfl rfl (q_bin rfl rfl (p_lss_t _ _ _ _ _ c38) rfl) ?_
      refine ol_end ?_
      refine E_seq ?_
      refine L_condT rfl ?_
      refine L_ops ?_
      refine ol_put rfl rfl rfl (q_fieldP rfl fa66_0 rfl) ?_
      refine ol_put rfl rfl rfl (q_loadP (v := .one (iC .i64 (IntKind.i64.wrap (n35 - n2)))) 0 rfl sz2 rfl rfl rfl rfl) ?_
      refine ol_put rfl rfl rfl (q_move (v := .one (iC .i64 n1)) rfl) ?_
      refine ol_put rfl rfl rfl (q_bin rfl rfl (p_sub _ _ _ _ _ _ _) rfl) ?_
      refine ol_put rfl rfl rfl (q_fieldP rfl fa66_0 rfl) ?_
      refine ol_wr rfl rfl (q_store (es' := [[iC .i64 (IntKind.i64.wrap ((IntKind.i64.wrap (n35 - n2)) - n1)), iC .u64 n36]]) 0 rfl rfl rfl sz2 rfl rfl rfl rfl rfl) rfl ?_
      refine ol_end ?_
      refine E_seq ?_
      refine L_seq ?_
      refine L_ops ?_
      refine ol_put rfl rfl rfl (q_loadP (v := .agg [iC .i64 (IntKind.i64.wrap ((IntKind.i64.wrap (n35 - n2)) - n1)), iC .u64 n36]) 0 rfl sz66 rfl rfl rfl rfl) ?_
      refine ol_wr rfl rfl (q_store (es' := [[iC .i64 (IntKind.i64.wrap ((IntKind.i64.wrap (n35 - n2)) - n1)), iC .u64 n36]]) 2 rfl rfl rfl sz66 rfl rfl rfl rfl rfl) rfl ?_
      refine ol_end ?_
      refine E_seq ?_
      refine L_ret ?_
      obtain rfl := Option.some.inj h
      exact E_endF (.inr rfl) (res_cell (d := .agg [iC .i64 (IntKind.i64.wrap ((IntKind.i64.wrap (n35 - n2)) - n1)), iC .u64 n36]) 2 rfl sz66 rfl rfl rfl rfl res_nil) (vw_cons (vd_agg (vc_cons vc_v (vc_cons vc_v vc_nil))) vw_nil) (fun h hb => own_agg) rfl rfl
    · replace h := ifF c38 h
      refine ol_put rfl rfl rfl (q_bin rfl rfl (p_lss_f _ _ _ _ _ c38) rfl) ?_
      refine ol_end ?_
      refine E_seq ?_
      refine L_condF rfl ?_
      refine L_skip ?_
      refine E_seq ?_
      refine L_seq ?_
      refine L_ops ?_
      refine ol_put rfl rfl rfl (q_loadP (v := .agg [iC .i64 (IntKind.i64.wrap (n35 - n2)), iC .u64 n36]) 0 rfl sz66 rfl rfl rfl rfl) ?_
      refine ol_wr rfl rfl (q_store (es' := [[iC .i64 (IntKind.i64.wrap (n35 - n2)), iC .u64 n36]]) 2 rfl rfl rfl sz66 rfl rfl rfl rfl rfl) rfl ?_
      refine ol_end ?_
      refine E_seq ?_
      refine L_ret ?_
      obtain rfl := Option.some.inj h
      exact E_endF (.inr rfl) (res_cell (d := .agg [iC .i64 (IntKind.i64.wrap (n35 - n2)), iC .u64 n36]) 2 rfl sz66 rfl rfl rfl rfl res_nil) (vw_cons (vd_agg (vc_cons vc_v (vc_cons vc_v vc_nil))) vw_nil) (fun h hb => own_agg) rfl rfl
  · replace h := ifF c37 h
    refine ol_put rfl rfl rfl (q_bin rfl rfl (p_lss_f _ _ _ _ _ c37) rfl) ?_
    refine ol_end ?_
    refine E_seq ?_
    refine L_condF rfl ?_
    refine L_skip ?_
    refine E_seq ?_
    refine L_seq ?_
    refine L_seq ?_
    refine L_ops ?_
    refine ol_put rfl rfl rfl (q_move (v := .one (iC .i64 n2)) rfl) ?_
    by_cases c39 : n2 < 0
    · replace h := ifT c39 h
      refine ol_put rfl rfl rfl (q_bin rfl rfl (p_lss_t _ _ _ _ _ c39) rfl) ?_
      refine ol_end ?_
      refine E_seq ?_
      refine L_condT rfl ?_
      refine L_ops ?_
      refine ol_put rfl rfl rfl (q_fieldP rfl fa66_0 rfl) ?_
      refine ol_put rfl rfl rfl (q_loadP (v := .one (iC .i64 n35)) 0 rfl sz2 rfl rfl rfl rfl) ?_
      refine ol_put rfl rfl rfl (q_move (v := .one (iC .i64 n1)) rfl) ?_
      refine ol_put rfl rfl rfl (q_bin rfl rfl (p_sub _ _ _ _ _ _ _) rfl) ?_
      refine ol_put rfl rfl rfl (q_fieldP rfl fa66_0 rfl) ?_
      refine ol_wr rfl rfl (q_store (es' := [[iC .i64 (IntKind.i64.wrap (n35 - n1)), iC .u64 n36]]) 0 rfl rfl rfl sz2 rfl rfl rfl rfl rfl) rfl ?_
      refine ol_end ?_
      refine E_seq ?_
      refine L_seq ?_
      refine L_ops ?_
      refine ol_put rfl rfl rfl (q_loadP (v := .agg [iC .i64 (IntKind.i64.wrap (n35 - n1)), iC .u64 n36]) 0 rfl sz66 rfl rfl rfl rfl) ?_
      refine ol_wr rfl rfl (q_store (es' := [[iC .i64 (IntKind.i64.wrap (n35 - n1)), iC .u64 n36]]) 2 rfl rfl rfl sz66 rfl rfl rfl rfl rfl) rfl ?_
      refine ol_end ?_
      refine E_seq ?_
      refine L_ret ?_
      obtain rfl := Option.some.inj h
      exact E_endF (.inr rfl) (res_cell (d := .agg [iC .i64 (IntKind.i64.wrap (n35 - n1)), iC .u64 n36]) 2 rfl sz66 rfl rfl rfl rfl res_nil) (vw_cons (vd_agg (vc_cons vc_v (vc_cons vc_v vc_nil))) vw_nil) (fun h hb => own_agg) rfl rfl
    · replace h := ifF c39 h
      refine ol_put rfl rfl rfl (q_bin rfl rfl (p_lss_f _ _ _ _ _ c39) rfl) ?_
      refine ol_end ?_
      refine E_seq ?_
      refine L_condF rfl ?_
      refine L_skip ?_
      refine E_seq ?_
      refine L_seq ?_
      refine L_ops ?_
      refine ol_put rfl rfl rfl (q_loadP (v := .agg [iC .i64 n35, iC .u64 n36]) 0 rfl sz66 rfl rfl rfl rfl) ?_
      refine ol_wr rfl rfl (q_store (es' := [[iC .i64 n35, iC .u64 n36]]) 2 rfl rfl rfl sz66 rfl rfl rfl rfl rfl) rfl ?_
      refine ol_end ?_
      refine E_seq ?_
      refine L_ret ?_
      obtain rfl := Option.some.inj h
      exact E_endF (.inr rfl) (res_cell (d := .agg [iC .i64 n35, iC .u64 n36]) 2 rfl sz66 rfl rfl rfl rfl res_nil) (vw_cons (vd_agg (vc_cons vc_v (vc_cons vc_v vc_nil))) vw_nil) (fun h hb => own_agg) rfl rfl

noncomputable def ring_Mul (n1 : Int) (n2 : Int) (n3 : Int) : Option ((Int × Int)) :=
  (if n1 = 1 then (if n2 ≥ 4611686018427387904 then ((wide_Of 4611686018427387904).bind fun (n8, n9) => some (n8, n9)) else (if n3 ≥ 4611686018427387904 then ((wide_Of 4611686018427387904).bind fun (n12, n13) => some (n12, n13)) else ((wide_Of n2).bind fun (n15, n16) => ((wide_Of n3).bind fun (n18, n19) => ((wide_Add (n15, n16) (n18, n19)).bind fun (n21, n22) => ((wide_Of 4611686018427387904).bind fun (n24, n25) => ((ring_lesser (n21, n22) (n24, n25)).bind fun (n27, n28) => some (n27, n28)))))))) else (if n1 = 2 then (if n2 ≠ 0 then (if n3 ≠ 0 then ((ring_truth true).bind fun (n33, n34) => some (n33, n34)) else ((ring_truth false).bind fun (n36, n37) => some (n36, n37))) else ((ring_truth false).bind fun (n39, n40) => some (n39, n40))) else (if n1 = 4 then (if n3 ≥ 4611686018427387904 then ((wide_Of 4611686018427387904).bind fun (n44, n45) => some (n44, n45)) else (if n2 ≥ 4611686018427387904 then ((wide_Of 4611686018427387904).bind fun (n48, n49) => some (n48, n49)) else ((wide_Of n3).bind fun (n51, n52) => some (n51, n52)))) else (if n1 = 3 then (if n2 ≥ 4611686018427387904 then ((wide_Of 4611686018427387904).bind fun (n56, n57) => some (n56, n57)) else (if n3 ≥ 4611686018427387904 then ((wide_Of 4611686018427387904).bind fun (n60, n61) => some (n60, n61)) else ((wide_Of n2).bind fun (n63, n64) => some (n63, n64)))) else (if n1 = 5 then ((wide_Mul n2 n3).bind fun (n67, n68) => some (n67, n68)) else some (0, 0))))))
theorem ring_Mul_r (m : Nat) {n1 : Int} {n2 : Int} {n3 : Int} {out : (Int × Int)} (h : ring_Mul n1 n2 n3 = some out) : RunsP E1 (m + 3) 43 [.one (iT .i64 n1), .one (iT .i64 n2), .one (iT .i64 n3)] (.fresh, [.agg (r65 out)]) := by
  refine fn_F rfl (by rw [E1_fn]; exact show fiOf Try.prog 43 = _ by unfold fiOf; rw [Try.func43]; unfold Try.f43; rfl) rfl ?_
  dsimp only
  unfold ring_Mul at h
  refine L_seq ?_
  refine L_ops ?_
  refine ol_new rfl rfl rfl (q_alloc ty66 (row := [iC .i64 0, iC .u64 0]) rfl rfl) (fun k4 => ?_)
  refine ol_end ?_
  refine E_seq ?_
  refine L_seq ?_
  refine L_seq ?_
  refine L_ops ?_
  refine ol_put rfl rfl rfl (q_move (v := .one (iC .i64 n1)) rfl) ?_
  refine ol_end ?_
  refine E_seq ?_
  refine L_block ?_
  refine L_seq ?_
  refine L_block ?_
  refine L_seq ?_
  refine L_block ?_
  refine L_seq ?_
  refine L_block ?_
  refine L_seq ?_
  refine L_block ?_
  refine L_seq ?_
  refine L_block ?_
  refine L_seq ?_
  refine L_seq ?_
  refine L_seq ?_
  refine L_ops ?_
  by_cases c5 : n1 = 1
  · replace h := ifT c5 h
    refine ol_put rfl rfl rfl (q_bin rfl rfl (p_eql_t _ _ _ _ _ c5) rfl) ?_
    refine ol_put rfl rfl rfl (q_assign (v := .one (bC true)) rfl) ?_
    refine ol_end ?_
    refine E_seq ?_
    refine L_condT rfl ?_
    refine L_exit ?_
    refine E_seqX ?_
    refine E_seqX ?_
    refine E_blkH ?_
    refine E_seq ?_
    refine L_seq ?_
    refine L_seq ?_
    refine L_seq ?_
    refine L_ops ?_
    refine ol_put rfl rfl rfl (q_move (v := .one (iC .i64 n2)) rfl) ?_
    by_cases c6 : n2 ≥ 4611686018427387904
    · replace h := ifT c6 h
      refine ol_put rfl rfl rfl (q_bin rfl rfl (p_geq_t _ _ _ _ _ c6) rfl) ?_
      refine ol_put rfl rfl rfl (q_move (v := .one (bC true)) rfl) ?_
      refine ol_skip rfl rfl rfl ?_
      refine ol_skip rfl rfl rfl ?_
      refine ol_put rfl rfl rfl (q_pickT (v := .one (bC true)) rfl rfl) ?_
      refine ol_end ?_
      refine E_seq ?_
      refine L_condT rfl ?_
      refine L_seq ?_
      refine L_ops ?_
      obtain ⟨⟨n8, n9⟩, h7, h⟩ := bindS h
      refine ol_put rfl rfl rfl (q_callF (v := .agg [iC .i64 n8, iC .u64 n9]) (args := [.one (iC .i64 4611686018427387904)]) (wide_Of_r (m + 1) h7) rfl rfl (vw_cons (vd_one vc_v) vw_nil) rfl rfl) ?_
      refine ol_wr rfl rfl (q_store (es' := [[iC .i64 n8, iC .u64 n9]]) 0 rfl rfl rfl sz66 rfl rfl rfl rfl rfl) rfl ?_
      refine ol_end ?_
      refine E_seq ?_
      refine L_ret ?_
      refine E_seqR ?_
      refine E_seqR ?_
      refine E_blkR ?_
      refine E_seqR ?_
      refine E_blkR ?_
      refine E_seqR ?_
      refine E_blkR ?_
      refine E_seqR ?_
      refine E_blkR ?_
      refine E_seqR ?_
      refine E_blkR ?_
      refine E_seqR ?_
      obtain rfl := Option.some.inj h
      exact E_endF (.inr rfl) (res_cell (d := .agg [iC .i64 n8, iC .u64 n9]) 0 rfl sz66 rfl rfl rfl rfl res_nil) (vw_cons (vd_agg (vc_cons vc_v (vc_cons vc_v vc_nil))) vw_nil) (fun h hb => own_agg) rfl rfl
    · replace h := ifF c6 h
      refine ol_put rfl rfl rfl (q_bin rfl rfl (p_geq_f _ _ _ _ _ c6) rfl) ?_
      refine ol_put rfl rfl rfl (q_move (v := .one (bC false)) rfl) ?_
      refine ol_put rfl rfl rfl (q_move (v := .one (iC .i64 n3)) rfl) ?_
      by_cases c10 : n3 ≥ 4611686018427387904
      · replace h := ifT c10 h
        refine ol_put rfl rfl rfl (q_bin rfl rfl (p_geq_t _ _ _ _ _ c10) rfl) ?_
        refine ol_put rfl rfl rfl (q_pickF (v := .one (bC true)) rfl rfl) ?_
        refine ol_end ?_
        refine E_seq ?_
        refine L_condT rfl ?_
        refine L_seq ?_
        refine L_ops ?_
        obtain ⟨⟨n12, n13⟩, h11, h⟩ := bindS h
        refine ol_put rfl rfl rfl (q_callF (v := .agg [iC .i64 n12, iC .u64 n13]) (args := [.one (iC .i64 4611686018427387904)]) (wide_Of_r (m + 1) h11) rfl rfl (vw_cons (vd_one vc_v) vw_nil) rfl rfl) ?_
        refine ol_wr rfl rfl (q_store (es' := [[iC .i64 n12, iC .u64 n13]]) 0 rfl rfl rfl sz66 rfl rfl rfl rfl rfl) rfl ?_
        refine ol_end ?_
        refine E_seq ?_
        refine L_ret ?_
        refine E_seqR ?_
        refine E_seqR ?_
        refine E_blkR ?_
        refine E_seqR ?_
        refine E_blkR ?_
        refine E_seqR ?_
        refine E_blkR ?_
        refine E_seqR ?_
        refine E_blkR ?_
        refine E_seqR ?_
        refine E_blkR ?_
        refine E_seqR ?_
        obtain rfl := Option.some.inj h
        exact E_endF (.inr rfl) (res_cell (d := .agg [iC .i64 n12, iC .u64 n13]) 0 rfl sz66 rfl rfl rfl rfl res_nil) (vw_cons (vd_agg (vc_cons vc_v (vc_cons vc_v vc_nil))) vw_nil) (fun h hb => own_agg) rfl rfl
      · replace h := ifF c10 h
        refine ol_put rfl rfl rfl (q_bin rfl rfl (p_geq_f _ _ _ _ _ c10) rfl) ?_
        refine ol_put rfl rfl rfl (q_pickF (v := .one (bC false)) rfl rfl) ?_
        refine ol_end ?_
        refine E_seq ?_
        refine L_condF rfl ?_
        refine L_skip ?_
        refine E_seq ?_
        refine L_seq ?_
        refine L_ops ?_
        refine ol_put rfl rfl rfl (q_move (v := .one (iC .i64 n2)) rfl) ?_
        obtain ⟨⟨n15, n16⟩, h14, h⟩ := bindS h
        refine ol_put rfl rfl rfl (q_callF (v := .agg [iC .i64 n15, iC .u64 n16]) (args := [.one (iC .i64 n2)]) (wide_Of_r (m + 1) h14) rfl rfl (vw_cons (vd_one vc_v) vw_nil) rfl rfl) ?_
        refine ol_put rfl rfl rfl (q_move (v := .one (iC .i64 n3)) rfl) ?_
        obtain ⟨⟨n18, n19⟩, h17, h⟩ := bindS h
        refine ol_put rfl rfl rfl (q_callF (v := .agg [iC .i64 n18, iC .u64 n19]) (args := [.one (iC .i64 n3)]) (wide_Of_r (m + 1) h17) rfl rfl (vw_cons (vd_one vc_v) vw_nil) rfl rfl) ?_
        obtain ⟨⟨n21, n22⟩, h20, h⟩ := bindS h
        refine ol_put rfl rfl rfl (q_callF (v := .agg [iC .i64 n21, iC .u64 n22]) (args := [.agg [iC .i64 n15, iC .u64 n16], .agg [iC .i64 n18, iC .u64 n19]]) (wide_Add_r (m + 1) h20) rfl rfl (vw_cons (vd_agg (vc_cons vc_v (vc_cons vc_v vc_nil))) (vw_cons (vd_agg (vc_cons vc_v (vc_cons vc_v vc_nil))) vw_nil)) rfl rfl) ?_
        obtain ⟨⟨n24, n25⟩, h23, h⟩ := bindS h
        refine ol_put rfl rfl rfl (q_callF (v := .agg [iC .i64 n24, iC .u64 n25]) (args := [.one (iC .i64 4611686018427387904)]) (wide_Of_r (m + 1) h23) rfl rfl (vw_cons (vd_one vc_v) vw_nil) rfl rfl) ?_
        obtain ⟨⟨n27, n28⟩, h26, h⟩ := bindS h
        refine ol_put rfl rfl rfl (q_callF (v := .agg [iC .i64 n27, iC .u64 n28]) (args := [.agg [iC .i64 n21, iC .u64 n22], .agg [iC .i64 n24, iC .u64 n25]]) (ring_lesser_r (m + 0) h26) rfl rfl (vw_cons (vd_agg (vc_cons vc_v (vc_cons vc_v vc_nil))) (vw_cons (vd_agg (vc_cons vc_v (vc_cons vc_v vc_nil))) vw_nil)) rfl rfl) ?_
        refine ol_wr rfl rfl (q_store (es' := [[iC .i64 n27, iC .u64 n28]]) 0 rfl rfl rfl sz66 rfl rfl rfl rfl rfl) rfl ?_
        refine ol_end ?_
        refine E_seq ?_
        refine L_ret ?_
        refine E_seqR ?_
        refine E_blkR ?_
        refine E_seqR ?_
        refine E_blkR ?_
        refine E_seqR ?_
        refine E_blkR ?_
        refine E_seqR ?_
        refine E_blkR ?_
        refine E_seqR ?_
        refine E_blkR ?_
        refine E_seqR ?_
        obtain rfl := Option.some.inj h
        exact E_endF (.inr rfl) (res_cell (d := .agg [iC .i64 n27, iC .u64 n28]) 0 rfl sz66 rfl rfl rfl rfl res_nil) (vw_cons (vd_agg (vc_cons vc_v (vc_cons vc_v vc_nil))) vw_nil) (fun h hb => own_agg) rfl rfl
  · replace h := ifF c5 h
    refine ol_put rfl rfl rfl (q_bin rfl rfl (p_eql_f _ _ _ _ _ c5) rfl) ?_
    refine ol_put rfl rfl rfl (q_assign (v := .one (bC false)) rfl) ?_
    refine ol_end ?_
    refine E_seq ?_
    refine L_condF rfl ?_
    refine L_skip ?_
    refine E_seq ?_
    refine L_seq ?_
    refine L_seq ?_
    refine L_ops ?_
    by_cases c29 : n1 = 2
    · replace h := ifT c29 h
      refine ol_put rfl rfl rfl (q_bin rfl rfl (p_eql_t _ _ _ _ _ c29) rfl) ?_
      refine ol_put rfl rfl rfl (q_assign (v := .one (bC true)) rfl) ?_
      refine ol_end ?_
      refine E_seq ?_
      refine L_condT rfl ?_
      refine L_exit ?_
      refine E_seqX ?_
      refine E_seqX ?_
      refine E_blkX rfl ?_
      refine E_seqX ?_
      refine E_blkH ?_
      refine E_seq ?_
      refine L_seq ?_
      refine L_seq ?_
      refine L_ops ?_
      refine ol_put rfl rfl rfl (q_move (v := .one (iC .i64 n2)) rfl) ?_
      by_cases c30 : n2 ≠ 0
      · replace h := ifT c30 h
        refine ol_put rfl rfl rfl (q_bin rfl rfl (p_neq_t _ _ _ _ _ c30) rfl) ?_
        refine ol_put rfl rfl rfl (q_move (v := .one (bC true)) rfl) ?_
        refine ol_put rfl rfl rfl (q_move (v := .one (iC .i64 n3)) rfl) ?_
        by_cases c31 : n3 ≠ 0
        · replace h := ifT c31 h
          refine ol_put rfl rfl rfl (q_bin rfl rfl (p_neq_t _ _ _ _ _ c31) rfl) ?_
          refine ol_put rfl rfl rfl (q_pickT (v := .one (bC true)) rfl rfl) ?_
          obtain ⟨⟨n33, n34⟩, h32, h⟩ := bindS h
          refine ol_put rfl rfl rfl (q_callF (v := .agg [iC .i64 n33, iC .u64 n34]) (args := [.one (bC true)]) (ring_truth_r (m + 0) h32) rfl rfl (vw_cons (vd_one vc_v) vw_nil) rfl rfl) ?_
          refine ol_wr rfl rfl (q_store (es' := [[iC .i64 n33, iC .u64 n34]]) 0 rfl rfl rfl sz66 rfl rfl rfl rfl rfl) rfl ?_
          refine ol_end ?_
          refine E_seq ?_
          refine L_ret ?_
          refine E_seqR ?_
          refine E_blkR ?_
          refine E_seqR ?_
          refine E_blkR ?_
          refine E_seqR ?_
          refine E_blkR ?_
          refine E_seqR ?_
          refine E_blkR ?_
          refine E_seqR ?_
          obtain rfl := Option.some.inj h
          exact E_endF (.inr rfl) (res_cell (d := .agg [iC .i64 n33, iC .u64 n34]) 0 rfl sz66 rfl rfl rfl rfl res_nil) (vw_cons (vd_agg (vc_cons vc_v (vc_cons vc_v vc_nil))) vw_nil) (fun h hb => own_agg) rfl rfl
        · replace h := ifF c31 h
          refine ol_put rfl rfl rfl (q_bin rfl rfl (p_neq_f _ _ _ _ _ c31) rfl) ?_
          refine ol_put rfl rfl rfl (q_pickT (v := .one (bC false)) rfl rfl) ?_
          obtain ⟨⟨n36, n37⟩, h35, h⟩ := bindS h
          refine ol_put rfl rfl rfl (q_callF (v := .agg [iC .i64 n36, iC .u64 n37]) (args := [.one (bC false)]) (ring_truth_r (m + 0) h35) rfl rfl (vw_cons (vd_one vc_v) vw_nil) rfl rfl) ?_
          refine ol_wr rfl rfl (q_store (es' := [[iC .i64 n36, iC .u64 n37]]) 0 rfl rfl rfl sz66 rfl rfl rfl rfl rfl) rfl ?_
          refine ol_end ?_
          refine E_seq ?_
          refine L_ret ?_
          refine E_seqR ?_
          refine E_blkR ?_
          refine E_seqR ?_
          refine E_blkR ?_
          refine E_seqR ?_
          refine E_blkR ?_
          refine E_seqR ?_
          refine E_blkR ?_
          refine E_seqR ?_
          obtain rfl := Option.some.inj h
          exact E_endF (.inr rfl) (res_cell (d := .agg [iC .i64 n36, iC .u64 n37]) 0 rfl sz66 rfl rfl rfl rfl res_nil) (vw_cons (vd_agg (vc_cons vc_v (vc_cons vc_v vc_nil))) vw_nil) (fun h hb => own_agg) rfl rfl
      · replace h := ifF c30 h
        refine ol_put rfl rfl rfl (q_bin rfl rfl (p_neq_f _ _ _ _ _ c30) rfl) ?_
        refine ol_put rfl rfl rfl (q_move (v := .one (bC false)) rfl) ?_
        refine ol_skip rfl rfl rfl ?_
        refine ol_skip rfl rfl rfl ?_
        refine ol_put rfl rfl rfl (q_pickF (v := .one (bC false)) rfl rfl) ?_
        obtain ⟨⟨n39, n40⟩, h38, h⟩ := bindS h
        refine ol_put rfl rfl rfl (q_callF (v := .agg [iC .i64 n39, iC .u64 n40]) (args := [.one (bC false)]) (ring_truth_r (m + 0) h38) rfl rfl (vw_cons (vd_one vc_v) vw_nil) rfl rfl) ?_
        refine ol_wr rfl rfl (q_store (es' := [[iC .i64 n39, iC .u64 n40]]) 0 rfl rfl rfl sz66 rfl rfl rfl rfl rfl) rfl ?_
        refine ol_end ?_
        refine E_seq ?_
        refine L_ret ?_
        refine E_seqR ?_
        refine E_blkR ?_
        refine E_seqR ?_
        refine E_blkR ?_
        refine E_seqR ?_
        refine E_blkR ?_
        refine E_seqR ?_
        refine E_blkR ?_
        refine E_seqR ?_
        obtain rfl := Option.some.inj h
        exact E_endF (.inr rfl) (res_cell (d := .agg [iC .i64 n39, iC .u64 n40]) 0 rfl sz66 rfl rfl rfl rfl res_nil) (vw_cons (vd_agg (vc_cons vc_v (vc_cons vc_v vc_nil))) vw_nil) (fun h hb => own_agg) rfl rfl
    · replace h := ifF c29 h
      refine ol_put rfl rfl rfl (q_bin rfl rfl (p_eql_f _ _ _ _ _ c29) rfl) ?_
      refine ol_put rfl rfl rfl (q_assign (v := .one (bC false)) rfl) ?_
      refine ol_end ?_
      refine E_seq ?_
      refine L_condF rfl ?_
      refine L_skip ?_
      refine E_seq ?_
      refine L_seq ?_
      refine L_seq ?_
      refine L_ops ?_
      by_cases c41 : n1 = 4
      · replace h := ifT c41 h
        refine ol_put rfl rfl rfl (q_bin rfl rfl (p_eql_t _ _ _ _ _ c41) rfl) ?_
        refine ol_put rfl rfl rfl (q_assign (v := .one (bC true)) rfl) ?_
        refine ol_end ?_
        refine E_seq ?_
        refine L_condT rfl ?_
        refine L_exit ?_
        refine E_seqX ?_
        refine E_seqX ?_
        refine E_blkX rfl ?_
        refine E_seqX ?_
        refine E_blkX rfl ?_
        refine E_seqX ?_
        refine E_blkH ?_
        refine E_seq ?_
        refine L_ops ?_
        refine ol_put rfl rfl rfl (q_move (v := .one (iC .i64 n3)) rfl) ?_
        refine ol_put rfl rfl rfl (q_move (v := .one (iC .i64 n2)) rfl) ?_
        refine ol_put rfl rfl rfl (q_assign (v := .one (iC .i64 n3)) rfl) ?_
        refine ol_put rfl rfl rfl (q_assign (v := .one (iC .i64 n2)) rfl) ?_
        refine ol_end ?_
        refine E_blkN ?_
        refine E_seq ?_
        refine L_seq ?_
        refine L_seq ?_
        refine L_seq ?_
        refine L_ops ?_
        refine ol_put rfl rfl rfl (q_move (v := .one (iC .i64 n3)) rfl) ?_
        by_cases c42 : n3 ≥ 4611686018427387904
        · replace h := ifT c42 h
          refine ol_put rfl rfl rfl (q_bin rfl rfl (p_geq_t _ _ _ _ _ c42) rfl) ?_
          refine ol_put rfl rfl rfl (q_move (v := .one (bC true)) rfl) ?_
          refine ol_skip rfl rfl rfl ?_
          refine ol_skip rfl rfl rfl ?_
          refine ol_put rfl rfl rfl (q_pickT (v := .one (bC true)) rfl rfl) ?_
          refine ol_end ?_
          refine E_seq ?_
          refine L_condT rfl ?_
          refine L_seq ?_
          refine L_ops ?_
          obtain ⟨⟨n44, n45⟩, h43, h⟩ := bindS h
          refine ol_put rfl rfl rfl (q_callF (v := .agg [iC .i64 n44, iC .u64 n45]) (args := [.one (iC .i64 4611686018427387904)]) (wide_Of_r (m + 1) h43) rfl rfl (vw_cons (vd_one vc_v) vw_nil) rfl rfl) ?_
          refine ol_wr rfl rfl (q_store (es' := [[iC .i64 n44, iC .u64 n45]]) 0 rfl rfl rfl sz66 rfl rfl rfl rfl rfl) rfl ?_
          refine ol_end ?_
          refine E_seq ?_
          refine L_ret ?_
          refine E_seqR ?_
          refine E_seqR ?_
          refine E_blkR ?_
          refine E_seqR ?_
          refine E_blkR ?_
          refine E_seqR ?_
          obtain rfl := Option.some.inj h
          exact E_endF (.inr rfl) (res_cell (d := .agg [iC .i64 n44, iC .u64 n45]) 0 rfl sz66 rfl rfl rfl rfl res_nil) (vw_cons (vd_agg (vc_cons vc_v (vc_cons vc_v vc_nil))) vw_nil) (fun h hb => own_agg) rfl rfl
        · replace h := ifF c42 h
          refine ol_put rfl rfl rfl (q_bin rfl rfl (p_geq_f _ _ _ _ _ c42) rfl) ?_
          refine ol_put rfl rfl rfl (q_move (v := .one (bC false)) rfl) ?_
          refine ol_put rfl rfl rfl (q_move (v := .one (iC .i64 n2)) rfl) ?_
          by_cases c46 : n2 ≥ 4611686018427387904
          · replace h := ifT c46 h
            refine ol_put rfl rfl rfl (q_bin rfl rfl (p_geq_t _ _ _ _ _ c46) rfl) ?_
            refine ol_put rfl rfl rfl (q_pickF (v := .one (bC true)) rfl rfl) ?_
            refine ol_end ?_
            refine E_seq ?_
            refine L_condT rfl ?_
            refine L_seq ?_
            refine L_ops ?_
            obtain ⟨⟨n48, n49⟩, h47, h⟩ := bindS h
            refine ol_put rfl rfl rfl (q_callF (v := .agg [iC .i64 n48, iC .u64 n49]) (args := [.one (iC .i64 4611686018427387904)]) (wide_Of_r (m + 1) h47) rfl rfl (vw_cons (vd_one vc_v) vw_nil) rfl rfl) ?_
            refine ol_wr rfl rfl (q_store (es' := [[iC .i64 n48, iC .u64 n49]]) 0 rfl rfl rfl sz66 rfl rfl rfl rfl rfl) rfl ?_
            refine ol_end ?_
            refine E_seq ?_
            refine L_ret ?_
            refine E_seqR ?_
            refine E_seqR ?_
            refine E_blkR ?_
            refine E_seqR ?_
            refine E_blkR ?_
            refine E_seqR ?_
            obtain rfl := Option.some.inj h
            exact E_endF (.inr rfl) (res_cell (d := .agg [iC .i64 n48, iC .u64 n49]) 0 rfl sz66 rfl rfl rfl rfl res_nil) (vw_cons (vd_agg (vc_cons vc_v (vc_cons vc_v vc_nil))) vw_nil) (fun h hb => own_agg) rfl rfl
          · replace h := ifF c46 h
            refine ol_put rfl rfl rfl (q_bin rfl rfl (p_geq_f _ _ _ _ _ c46) rfl) ?_
            refine ol_put rfl rfl rfl (q_pickF (v := .one (bC false)) rfl rfl) ?_
            refine ol_end ?_
            refine E_seq ?_
            refine L_condF rfl ?_
            refine L_skip ?_
            refine E_seq ?_
            refine L_seq ?_
            refine L_ops ?_
            refine ol_put rfl rfl rfl (q_move (v := .one (iC .i64 n3)) rfl) ?_
            obtain ⟨⟨n51, n52⟩, h50, h⟩ := bindS h
            refine ol_put rfl rfl rfl (q_callF (v := .agg [iC .i64 n51, iC .u64 n52]) (args := [.one (iC .i64 n3)]) (wide_Of_r (m + 1) h50) rfl rfl (vw_cons (vd_one vc_v) vw_nil) rfl rfl) ?_
            refine ol_wr rfl rfl (q_store (es' := [[iC .i64 n51, iC .u64 n52]]) 0 rfl rfl rfl sz66 rfl rfl rfl rfl rfl) rfl ?_
            refine ol_end ?_
            refine E_seq ?_
            refine L_ret ?_
            refine E_seqR ?_
            refine E_blkR ?_
            refine E_seqR ?_
            refine E_blkR ?_
            refine E_seqR ?_
            obtain rfl := Option.some.inj h
            exact E_endF (.inr rfl) (res_cell (d := .agg [iC .i64 n51, iC .u64 n52]) 0 rfl sz66 rfl rfl rfl rfl res_nil) (vw_cons (vd_agg (vc_cons vc_v (vc_cons vc_v vc_nil))) vw_nil) (fun h hb => own_agg) rfl rfl
      · replace h := ifF c41 h
        refine ol_put rfl rfl rfl (q_bin rfl rfl (p_eql_f _ _ _ _ _ c41) rfl) ?_
        refine ol_put rfl rfl rfl (q_assign (v := .one (bC false)) rfl) ?_
        refine ol_end ?_
        refine E_seq ?_
        refine L_condF rfl ?_
        refine L_skip ?_
        refine E_seq ?_
        refine L_seq ?_
        refine L_seq ?_
        refine L_ops ?_
        by_cases c53 : n1 = 3
        · replace h := ifT c53 h
          refine ol_put rfl rfl rfl (q_bin rfl rfl (p_eql_t _ _ _ _ _ c53) rfl) ?_
          refine ol_put rfl rfl rfl (q_assign (v := .one (bC true)) rfl) ?_
          refine ol_end ?_
          refine E_seq ?_
          refine L_condT rfl ?_
          refine L_exit ?_
          refine E_seqX ?_
          refine E_seqX ?_
          refine E_blkX rfl ?_
          refine E_seqX ?_
          refine E_blkX rfl ?_
          refine E_seqX ?_
          refine E_blkX rfl ?_
          refine E_seqX ?_
          refine E_blkH ?_
          refine E_seq ?_
          refine L_seq ?_
          refine L_seq ?_
          refine L_seq ?_
          refine L_ops ?_
          refine ol_put rfl rfl rfl (q_move (v := .one (iC .i64 n2)) rfl) ?_
          by_cases c54 : n2 ≥ 4611686018427387904
          · replace h := ifT c54 h
            refine ol_put rfl rfl rfl (q_bin rfl rfl (p_geq_t _ _ _ _ _ c54) rfl) ?_
            refine ol_put rfl rfl rfl (q_move (v := .one (bC true)) rfl) ?_
            refine ol_skip rfl rfl rfl ?_
            refine ol_skip rfl rfl rfl ?_
            refine ol_put rfl rfl rfl (q_pickT (v := .one (bC true)) rfl rfl) ?_
            refine ol_end ?_
            refine E_seq ?_
            refine L_condT rfl ?_
            refine L_seq ?_
            refine L_ops ?_
            obtain ⟨⟨n56, n57⟩, h55, h⟩ := bindS h
            refine ol_put rfl rfl rfl (q_callF (v := .agg [iC .i64 n56, iC .u64 n57]) (args := [.one (iC .i64 4611686018427387904)]) (wide_Of_r (m + 1) h55) rfl rfl (vw_cons (vd_one vc_v) vw_nil) rfl rfl) ?_
            refine ol_wr rfl rfl (q_store (es' := [[iC .i64 n56, iC .u64 n57]]) 0 rfl rfl rfl sz66 rfl rfl rfl rfl rfl) rfl ?_
            refine ol_end ?_
            refine E_seq ?_
            refine L_ret ?_
            refine E_seqR ?_
            refine E_seqR ?_
            refine E_blkR ?_
            refine E_seqR ?_
            refine E_blkR ?_
            refine E_seqR ?_
            obtain rfl := Option.some.inj h
            exact E_endF (.inr rfl) (res_cell (d := .agg [iC .i64 n56, iC .u64 n57]) 0 rfl sz66 rfl rfl rfl rfl res_nil) (vw_cons (vd_agg (vc_cons vc_v (vc_cons vc_v vc_nil))) vw_nil) (fun h hb => own_agg) rfl rfl
          · replace h := ifF c54 h
            refine ol_put rfl rfl rfl (q_bin rfl rfl (p_geq_f _ _ _ _ _ c54) rfl) ?_
            refine ol_put rfl rfl rfl (q_move (v := .one (bC false)) rfl) ?_
            refine ol_put rfl rfl rfl (q_move (v := .one (iC .i64 n3)) rfl) ?_
            by_cases c58 : n3 ≥ 4611686018427387904
            · replace h := ifT c58 h
              refine ol_put rfl rfl rfl (q_bin rfl rfl (p_geq_t _ _ _ _ _ c58) rfl) ?_
              refine ol_put rfl rfl rfl (q_pickF (v := .one (bC true)) rfl rfl) ?_
              refine ol_end ?_
              refine E_seq ?_
              refine L_condT rfl ?_
              refine L_seq ?_
              refine L_ops ?_
              obtain ⟨⟨n60, n61⟩, h59, h⟩ := bindS h
              refine ol_put rfl rfl rfl (q_callF (v := .agg [iC .i64 n60, iC .u64 n61]) (args := [.one (iC .i64 4611686018427387904)]) (wide_Of_r (m + 1) h59) rfl rfl (vw_cons (vd_one vc_v) vw_nil) rfl rfl) ?_
              refine ol_wr rfl rfl (q_store (es' := [[iC .i64 n60, iC .u64 n61]]) 0 rfl rfl rfl sz66 rfl rfl rfl rfl rfl) rfl ?_
              refine ol_end ?_
              refine E_seq ?_
              refine L_ret ?_
              refine E_seqR ?_
              refine E_seqR ?_
              refine E_blkR ?_
              refine E_seqR ?_
              refine E_blkR ?_
              refine E_seqR ?_
              obtain rfl := Option.some.inj h
              exact E_endF (.inr rfl) (res_cell (d := .agg [iC .i64 n60, iC .u64 n61]) 0 rfl sz66 rfl rfl rfl rfl res_nil) (vw_cons (vd_agg (vc_cons vc_v (vc_cons vc_v vc_nil))) vw_nil) (fun h hb => own_agg) rfl rfl
            · replace h := ifF c58 h
              refine ol_put rfl rfl rfl (q_bin rfl rfl (p_geq_f _ _ _ _ _ c58) rfl) ?_
              refine ol_put rfl rfl rfl (q_pickF (v := .one (bC false)) rfl rfl) ?_
              refine ol_end ?_
              refine E_seq ?_
              refine L_condF rfl ?_
              refine L_skip ?_
              refine E_seq ?_
              refine L_seq ?_
              refine L_ops ?_
              refine ol_put rfl rfl rfl (q_move (v := .one (iC .i64 n2)) rfl) ?_
              obtain ⟨⟨n63, n64⟩, h62, h⟩ := bindS h
              refine ol_put rfl rfl rfl (q_callF (v := .agg [iC .i64 n63, iC .u64 n64]) (args := [.one (iC .i64 n2)]) (wide_Of_r (m + 1) h62) rfl rfl (vw_cons (vd_one vc_v) vw_nil) rfl rfl) ?_
              refine ol_wr rfl rfl (q_store (es' := [[iC .i64 n63, iC .u64 n64]]) 0 rfl rfl rfl sz66 rfl rfl rfl rfl rfl) rfl ?_
              refine ol_end ?_
              refine E_seq ?_
              refine L_ret ?_
              refine E_seqR ?_
              refine E_blkR ?_
              refine E_seqR ?_
              refine E_blkR ?_
              refine E_seqR ?_
              obtain rfl := Option.some.inj h
              exact E_endF (.inr rfl) (res_cell (d := .agg [iC .i64 n63, iC .u64 n64]) 0 rfl sz66 rfl rfl rfl rfl res_nil) (vw_cons (vd_agg (vc_cons vc_v (vc_cons vc_v vc_nil))) vw_nil) (fun h hb => own_agg) rfl rfl
        · replace h := ifF c53 h
          refine ol_put rfl rfl rfl (q_bin rfl rfl (p_eql_f _ _ _ _ _ c53) rfl) ?_
          refine ol_put rfl rfl rfl (q_assign (v := .one (bC false)) rfl) ?_
          refine ol_end ?_
          refine E_seq ?_
          refine L_condF rfl ?_
          refine L_skip ?_
          refine E_seq ?_
          refine L_seq ?_
          refine L_ops ?_
          by_cases c65 : n1 = 5
          · replace h := ifT c65 h
            refine ol_put rfl rfl rfl (q_bin rfl rfl (p_eql_t _ _ _ _ _ c65) rfl) ?_
            refine ol_put rfl rfl rfl (q_assign (v := .one (bC true)) rfl) ?_
            refine ol_end ?_
            refine E_seq ?_
            refine L_condT rfl ?_
            refine L_exit ?_
            refine E_seqX ?_
            refine E_blkX rfl ?_
            refine E_seqX ?_
            refine E_blkX rfl ?_
            refine E_seqX ?_
            refine E_blkX rfl ?_
            refine E_seqX ?_
            refine E_blkX rfl ?_
            refine E_seqX ?_
            refine E_blkH ?_
            refine E_seq ?_
            refine L_seq ?_
            refine L_seq ?_
            refine L_ops ?_
            refine ol_put rfl rfl rfl (q_move (v := .one (iC .i64 n2)) rfl) ?_
            refine ol_put rfl rfl rfl (q_move (v := .one (iC .i64 n3)) rfl) ?_
            obtain ⟨⟨n67, n68⟩, h66, h⟩ := bindS h
            refine ol_put rfl rfl rfl (q_callF (v := .agg [iC .i64 n67, iC .u64 n68]) (args := [.one (iC .i64 n2), .one (iC .i64 n3)]) (wide_Mul_r (m + 0) h66) rfl rfl (vw_cons (vd_one vc_v) (vw_cons (vd_one vc_v) vw_nil)) rfl rfl) ?_
            refine ol_wr rfl rfl (q_store (es' := [[iC .i64 n67, iC .u64 n68]]) 0 rfl rfl rfl sz66 rfl rfl rfl rfl rfl) rfl ?_
            refine ol_end ?_
            refine E_seq ?_
            refine L_ret ?_
            refine E_seqR ?_
            refine E_blkR ?_
            refine E_seqR ?_
            obtain rfl := Option.some.inj h
            exact E_endF (.inr rfl) (res_cell (d := .agg [iC .i64 n67, iC .u64 n68]) 0 rfl sz66 rfl rfl rfl rfl res_nil) (vw_cons (vd_agg (vc_cons vc_v (vc_cons vc_v vc_nil))) vw_nil) (fun h hb => own_agg) rfl rfl
          · replace h := ifF c65 h
            refine ol_put rfl rfl rfl (q_bin rfl rfl (p_eql_f _ _ _ _ _ c65) rfl) ?_
            refine ol_put rfl rfl rfl (q_assign (v := .one (bC false)) rfl) ?_
            refine ol_end ?_
            refine E_seq ?_
            refine L_condF rfl ?_
            refine L_skip ?_
            refine E_seq ?_
            refine L_exit ?_
            refine E_blkX rfl ?_
            refine E_seqX ?_
            refine E_blkX rfl ?_
            refine E_seqX ?_
            refine E_blkX rfl ?_
            refine E_seqX ?_
            refine E_blkX rfl ?_
            refine E_seqX ?_
            refine E_blkX rfl ?_
            refine E_seqX ?_
            refine E_blkH ?_
            refine E_seq ?_
            refine L_seq ?_
            refine L_ops ?_
            refine ol_put rfl rfl rfl (q_build (cs := [iC .i64 0, iC .u64 0]) ty66 rfl pl66 rfl) ?_
            refine ol_wr rfl rfl (q_store (es' := [[iC .i64 0, iC .u64 0]]) 0 rfl rfl rfl sz66 rfl rfl rfl rfl rfl) rfl ?_
            refine ol_end ?_
            refine E_seq ?_
            refine L_ret ?_
            obtain rfl := Option.some.inj h
            exact E_endF (.inr rfl) (res_cell (d := .agg [iC .i64 0, iC .u64 0]) 0 rfl sz66 rfl rfl rfl rfl res_nil) (vw_cons (vd_agg (vc_cons vc_v (vc_cons vc_v vc_nil))) vw_nil) (fun h hb => own_agg) rfl rfl
end Ev
end Go.Proofs.Ytlcfdmjkbaegpaa
