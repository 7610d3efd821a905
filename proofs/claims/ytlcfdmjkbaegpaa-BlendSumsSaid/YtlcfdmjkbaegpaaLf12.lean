/- Functions of the program as functions on data, and that they are. -/
import Derived.Test.YtlcfdmjkbaegpaaLf11
import Derived.Test.YtlcfdmjkbaegpaaLf2
import Derived.Test.YtlcfdmjkbaegpaaLf6
import Derived.Test.YtlcfdmjkbaegpaaLy1
namespace Go.Proofs.Ytlcfdmjkbaegpaa
namespace Ev
open Go
set_option linter.unusedVariables false
set_option linter.unusedSimpArgs false
set_option maxRecDepth 100000
set_option maxHeartbeats 1000000
attribute [local irreducible] OpsL StL TnL WpL EndL
noncomputable def ref11_Meet_b1 (n1 : Int) (s20 : Sl (Int × Int)) (n23 : Int) (s24 : Sl (Int × Int)) (a : Int × (List (Int × Int))) : Option ((Int × (List (Int × Int))) ⊕ ((List (Int × Int)) ⊕ ((Int × (Sl (Int × Int))) × Int))) :=
  match a with
  | (n90, l91) => (if n90 < ((s20.l.length : Nat) : Int) then ((atS 2 s20 n90).bind fun (n96, n97) => ((ref11_has (n23, s24) n96).bind fun (n99, b100) => (if b100 = true then ((ref02_Mul n1 n97 n99).bind fun (n102, n103) => ((ref01_Narrow (n102, n103)).bind fun (n105, b106) => (if b106 = true then ((app l91 ([(n96, n105)] : List (Int × Int))).bind fun _ => some (.inl ((IntKind.i64.wrap (n90 + 1)), (l91 ++ ([(n96, n105)] : List (Int × Int)))))) else some (.inr (.inr ((0, (⟨false, 0, []⟩ : Sl (Int × Int))), 12)))))) else some (.inl ((IntKind.i64.wrap (n90 + 1)), l91))))) else some (.inr (.inl l91)))
noncomputable def ref11_Meet (n1 : Int) (a1 : Int × (Sl (Int × Int))) (a2 : Int × (Sl (Int × Int))) : Option ((Int × (Sl (Int × Int))) × Int) :=
  match a1, a2 with
  | (n2, s3), (n4, s5) => ((ref09_Sure (n2, s3)).bind fun (n19, s20) => ((ref09_Sure (n4, s5)).bind fun (n23, s24) => ((ref02_Is n1).bind fun b27 => (if b27 = true then (if n19 ≠ n23 then some ((0, (⟨false, 0, []⟩ : Sl (Int × Int))), 4) else ((loopO (ref11_Meet_b1 n1 s20 n23 s24) (0, ([] : List (Int × Int)))).bind (Sum.elim (fun l110 => some ((n19, (mo 2 l110)), 0)) (fun u => some u)))) else some ((0, (⟨false, 0, []⟩ : Sl (Int × Int))), 8)))))
theorem ref11_Meet_r (m : Nat) {n1 : Int} {a1 : Int × (Sl (Int × Int))} {a2 : Int × (Sl (Int × Int))} {out : (Int × (Sl (Int × Int))) × Int} (h : ref11_Meet n1 a1 a2 = some out) : RunsP E1 (m + 5) 15 [.one (iT .i64 n1), .agg (r24 a1), .agg (r24 a2)] (.fresh, [.agg (r24 out.1), .one (iT .i64 out.2)]) := by
  obtain ⟨n2, s3⟩ := a1
  obtain ⟨n4, s5⟩ := a2
  refine fn_F rfl (by rw [E1_fn]; exact show fiOf Try.prog 15 = _ by unfold fiOf; rw [Try.func15]; unfold Try.f15; rfl) rfl ?_
  dsimp only
  unfold ref11_Meet at h
  refine L_seq ?_
  refine L_ops ?_
  refine ol_new rfl rfl rfl (q_box ty25 rfl (cs := [iC .i64 n2, .p false (Sl.t r56 s3)]) rfl rfl) (fun k6 => ?_)
  refine ol_new rfl rfl rfl (q_box ty25 rfl (cs := [iC .i64 n4, .p false (Sl.t r56 s5)]) rfl rfl) (fun k7 => ?_)
  refine ol_new rfl rfl rfl (q_alloc ty25 (row := [iC .i64 0, .p true (Sl.t r56 (⟨false, 0, []⟩ : Sl (Int × Int)))]) rfl rfl) (fun k8 => ?_)
  refine ol_put rfl rfl rfl (q_assign (v := .one (iC .i64 0)) rfl) ?_
  refine ol_end ?_
  refine E_seq ?_
  refine L_seq ?_
  refine L_norm (L2 := ([[(k8, 2, [[iC .i64 0, .p true (Sl.t r56 (⟨false, 0, []⟩ : Sl (Int × Int)))]])], [(k7, 2, [[iC .i64 n4, .p false (Sl.t r56 s5)]])], [(k6, 2, [[iC .i64 n2, .p false (Sl.t r56 s3)]])]] : BL)) [0, 1, 2] (by decide) rfl ?_
  refine L_turn 6 rfl [[], [], [], [], [k6], [k7]] [(false, []), (false, []), (false, []), (false, []), (false, []), (false, [])] [[2], [2], [0, 1], [], [], []] (by kernel_rfl) (by kernel_rfl) (by kernel_rfl) ?_ (fun bb9 hlt hnd => ?_)
  · intro bb9 hlt hnd
    exact ⟨⟨djE, ⟨djE, ⟨djE, ⟨djE, ⟨djN, ⟨djN, trivial⟩⟩⟩⟩⟩⟩, (ltO_cons ltK_nil (ltO_cons ltK_nil (ltO_cons ltK_nil (ltO_cons ltK_nil (ltO_cons (ltK_cons (key_lt hlt 2 rfl) ltK_nil) (ltO_cons (ltK_cons (key_lt hlt 1 rfl) ltK_nil) ltO_nil))))))⟩
  refine tn_put rfl rfl rfl [2] (by decide) rfl (hm0 rfl) rfl (q_loadP (v := .agg [iC .i64 n2, .p false (Sl.t r56 s3)]) 0 rfl sz25 rfl rfl rfl rfl) ?_
  obtain ⟨⟨n19, s20⟩, h18, h⟩ := bindS h
  refine tn_putX rfl rfl rfl [] (by decide) rfl (hm0 rfl) rfl (q_callX (v := fun fr21 => .agg [iC .i64 n19, .p fr21 (Sl.t r56 s20)]) (args := [.agg [iC .i64 n2, .p false (Sl.t r56 s3)]]) (ref09_Sure_r (m + 2) h18) rfl rfl (vw_cons (vd_agg (vc_cons vc_v (vc_cons vc_s vc_nil))) vw_nil) rfl rfl (fun fr => rfl)) (fun fr21 => ?_)
  refine tn_put rfl rfl rfl [1] (by decide) rfl (hm0 rfl) rfl (q_loadP (v := .agg [iC .i64 n4, .p false (Sl.t r56 s5)]) 0 rfl sz25 rfl rfl rfl rfl) ?_
  obtain ⟨⟨n23, s24⟩, h22, h⟩ := bindS h
  refine tn_putX rfl rfl rfl [] (by decide) rfl (hm0 rfl) rfl (q_callX (v := fun fr25 => .agg [iC .i64 n23, .p fr25 (Sl.t r56 s24)]) (args := [.agg [iC .i64 n4, .p false (Sl.t r56 s5)]]) (ref09_Sure_r (m + 2) h22) rfl rfl (vw_cons (vd_agg (vc_cons vc_v (vc_cons vc_s vc_nil))) vw_nil) rfl rfl (fun fr => rfl)) (fun fr25 => ?_)
  refine tn_wr rfl rfl [2] (by decide) rfl (hm0 rfl) rfl (q_store (es' := [[iC .i64 n19, .p fr21 (Sl.t r56 s20)]]) 0 rfl rfl rfl sz25 rfl rfl rfl rfl rfl) (q := 2) rfl rfl ?_
  refine tn_wr rfl rfl [1] (by decide) rfl (hm0 rfl) rfl (q_store (es' := [[iC .i64 n23, .p fr25 (Sl.t r56 s24)]]) 0 rfl rfl rfl sz25 rfl rfl rfl rfl rfl) (q := 1) rfl rfl ?_
  refine tn_end ?_
  refine E_seq ?_
  refine L_seq ?_
  refine L_seq ?_
  refine L_ops ?_
  refine ol_put rfl rfl rfl (q_move (v := .one (iC .i64 n1)) rfl) ?_
  obtain ⟨b27, h26, h⟩ := bindS h
  refine ol_put rfl rfl rfl (q_callF (v := .one (bC b27)) (args := [.one (iC .i64 n1)]) (ref02_Is_r (m + 3) h26) rfl rfl (vw_cons (vd_one vc_v) vw_nil) rfl rfl) ?_
  rcases b27 with _ | _
  · replace h := ifF (by decide) h
    refine ol_put rfl rfl rfl (q_not rfl) ?_
    refine ol_end ?_
    refine E_seq ?_
    refine L_condT rfl ?_
    refine L_seq ?_
    refine L_ops ?_
    refine ol_put rfl rfl rfl (q_build (cs := [iC .i64 0, .p true (Sl.t r56 (⟨false, 0, []⟩ : Sl (Int × Int)))]) ty25 rfl pl25 rfl) ?_
    refine ol_wr rfl rfl (q_store (es' := [[iC .i64 0, .p true (Sl.t r56 (⟨false, 0, []⟩ : Sl (Int × Int)))]]) 0 rfl rfl rfl sz25 rfl rfl rfl rfl rfl) rfl ?_
    refine ol_put rfl rfl rfl (q_assign (v := .one (iC .i64 8)) rfl) ?_
    refine ol_end ?_
    refine E_seq ?_
    refine L_ret ?_
    refine E_seqR ?_
    obtain rfl := Option.some.inj h
    exact E_endF (.inr rfl) (res_cell (d := .agg [iC .i64 0, .p true (Sl.t r56 (⟨false, 0, []⟩ : Sl (Int × Int)))]) 0 rfl sz25 rfl rfl rfl rfl (res_tmp rfl res_nil)) (vw_cons (vd_agg (vc_cons vc_v (vc_cons vc_s vc_nil))) (vw_cons (vd_one vc_v) vw_nil)) (fun h hb => own_no2) rfl rfl
  · replace h := ifT (by decide) h
    refine ol_put rfl rfl rfl (q_not rfl) ?_
    refine ol_end ?_
    refine E_seq ?_
    refine L_condF rfl ?_
    refine L_skip ?_
    refine E_seq ?_
    refine L_seq ?_
    refine L_seq ?_
    refine L_ops ?_
    refine ol_put rfl rfl rfl (q_fieldP rfl fa25_0 rfl) ?_
    refine ol_put rfl rfl rfl (q_loadP (v := .one (iC .i64 n19)) 2 rfl sz3 rfl rfl rfl rfl) ?_
    refine ol_put rfl rfl rfl (q_fieldP rfl fa25_0 rfl) ?_
    refine ol_put rfl rfl rfl (q_loadP (v := .one (iC .i64 n23)) 1 rfl sz3 rfl rfl rfl rfl) ?_
    by_cases c28 : n19 ≠ n23
    · replace h := ifT c28 h
      refine ol_put rfl rfl rfl (q_bin rfl rfl (p_neq_t _ _ _ _ _ c28) rfl) ?_
      refine ol_end ?_
      refine E_seq ?_
      refine L_condT rfl ?_
      refine L_seq ?_
      refine L_ops ?_
      refine ol_put rfl rfl rfl (q_build (cs := [iC .i64 0, .p true (Sl.t r56 (⟨false, 0, []⟩ : Sl (Int × Int)))]) ty25 rfl pl25 rfl) ?_
      refine ol_wr rfl rfl (q_store (es' := [[iC .i64 0, .p true (Sl.t r56 (⟨false, 0, []⟩ : Sl (Int × Int)))]]) 0 rfl rfl rfl sz25 rfl rfl rfl rfl rfl) rfl ?_
      refine ol_put rfl rfl rfl (q_assign (v := .one (iC .i64 4)) rfl) ?_
      refine ol_end ?_
      refine E_seq ?_
      refine L_ret ?_
      refine E_seqR ?_
      obtain rfl := Option.some.inj h
      exact E_endF (.inr rfl) (res_cell (d := .agg [iC .i64 0, .p true (Sl.t r56 (⟨false, 0, []⟩ : Sl (Int × Int)))]) 0 rfl sz25 rfl rfl rfl rfl (res_tmp rfl res_nil)) (vw_cons (vd_agg (vc_cons vc_v (vc_cons vc_s vc_nil))) (vw_cons (vd_one vc_v) vw_nil)) (fun h hb => own_no2) rfl rfl
    · replace h := ifF c28 h
      refine ol_put rfl rfl rfl (q_bin rfl rfl (p_neq_f _ _ _ _ _ c28) rfl) ?_
      refine ol_end ?_
      refine E_seq ?_
      refine L_condF rfl ?_
      refine L_skip ?_
      refine E_seq ?_
      refine L_seq ?_
      refine L_ops ?_
      refine ol_put rfl rfl rfl (q_fieldP rfl fa25_0 rfl) ?_
      refine ol_put rfl rfl rfl (q_loadP (v := .one (iC .i64 n19)) 2 rfl sz3 rfl rfl rfl rfl) ?_
      refine ol_put rfl rfl rfl (q_build (cs := [iC .i64 n19, .p true (Sl.t r56 (⟨false, 0, []⟩ : Sl (Int × Int)))]) ty25 rfl pl25 rfl) ?_
      refine ol_new rfl rfl rfl (q_alloc ty25 (row := [iC .i64 0, .p true (Sl.t r56 (⟨false, 0, []⟩ : Sl (Int × Int)))]) rfl rfl) (fun k29 => ?_)
      refine ol_wr rfl rfl (q_store (es' := [[iC .i64 n19, .p true (Sl.t r56 (⟨false, 0, []⟩ : Sl (Int × Int)))]]) 0 rfl rfl rfl sz25 rfl rfl rfl rfl rfl) rfl ?_
      refine ol_end ?_
      refine E_seq ?_
      refine L_seq ?_
      refine L_seq ?_
      refine L_ops ?_
      refine ol_put rfl rfl rfl (q_assign (v := .one (iC .i64 0)) rfl) ?_
      refine ol_end ?_
      refine E_seq ?_
      refine L_block ?_
      refine L_addM (α := Int × Int) r56 2 ?_
      let S1 : (Int × (List (Int × Int))) → Nat → (Nat → D) → Nat → D := fun a kt g => ups g [(0, .one (iC .i64 n1)), (4, .one (.ptr k6 0 0)), (5, .one (.ptr k7 0 0)), (6, .one (.ptr k8 0 0)), (8, .one (.ptr k29 0 0)), (9, .one (iC .i64 a.1))]
      let SL1 : (Int × (List (Int × Int))) → Nat → BL := fun a kt => ([[(k6, 2, [[iC .i64 n19, .p fr21 (Sl.t r56 s20)]])], [(k7, 2, [[iC .i64 n23, .p fr25 (Sl.t r56 s24)]])], [(k8, 2, [[iC .i64 0, .p true (Sl.t r56 (⟨false, 0, []⟩ : Sl (Int × Int)))]])], [(k29, 2, [[iC .i64 n19, moC a.2 kt]])], moL r56 2 a.2 kt] : BL)
      let G1 : ((Int × (Sl (Int × Int))) × Int) → Ex → St → Prop := fun u => endQ E1 [.cell 6 25, .tmp 7] (.fresh, [.agg (r24 u.1), .one (iT .i64 u.2)])
      let Sx1 : (List (Int × Int)) → Nat → (Nat → D) → Nat → D := fun a kt g => ups g [(6, .one (.ptr k8 0 0)), (8, .one (.ptr k29 0 0))]
      let SLx1 : (List (Int × Int)) → Nat → BL := fun a kt => ([[(k8, 2, [[iC .i64 0, .p true (Sl.t r56 (⟨false, 0, []⟩ : Sl (Int × Int)))]])], [(k29, 2, [[iC .i64 n19, moC a kt]])], moL r56 2 a kt] : BL)
      let J1 : ((List (Int × Int)) ⊕ ((Int × (Sl (Int × Int))) × Int)) → Ex → St → Prop := JX 81 0 Sx1 SLx1 G1
      refine L_loopS (ref11_Meet_b1 n1 s20 n23 s24) S1 SL1 J1 JX_n (0, ([] : List (Int × Int))) h 1088 (ups_self ⟨rfl, rfl, rfl, rfl, rfl, rfl, trivial⟩) [4, 3, 2, 1, 0] (by decide) rfl ?_ ?_
      · rintro ⟨n90, l91⟩ k92 g out h
        change ref11_Meet_b1 n1 s20 n23 s24 (n90, l91) = some out at h
        unfold ref11_Meet_b1 at h
        refine L_seq ?_
        refine L_seq ?_
        refine L_ops ?_
        refine ol_put rfl rfl rfl (q_move (v := .one (iC .i64 n90)) rfl) ?_
        refine ol_put rfl rfl rfl (q_fieldP rfl fa25_1 rfl) ?_
        refine ol_put rfl rfl rfl (q_loadP (v := .one (.p fr21 (Sl.t r56 s20))) 0 rfl sz23 rfl rfl rfl rfl) ?_
        refine ol_put rfl rfl rfl (q_lenS rfl ty23 rfl rfl rfl rfl) ?_
        by_cases c93 : n90 < ((s20.l.length : Nat) : Int)
        · replace h := ifT c93 h
          refine ol_put rfl rfl rfl (q_bin rfl rfl (p_lss_t _ _ _ _ _ c93) rfl) ?_
          refine ol_end ?_
          refine E_seq ?_
          refine L_condT rfl ?_
          refine L_skip ?_
          refine E_seq ?_
          refine L_seq ?_
          refine L_block ?_
          refine L_seq ?_
          refine L_still (by kernel_rfl) ?_
          refine st_put rfl rfl rfl (q_loadP (v := .agg [iC .i64 n23, .p fr25 (Sl.t r56 s24)]) 1 rfl sz25 rfl rfl rfl rfl) ?_
          refine st_put rfl rfl rfl (q_fieldP rfl fa25_1 rfl) ?_
          refine st_put rfl rfl rfl (q_loadP (v := .one (.p fr21 (Sl.t r56 s20))) 0 rfl sz23 rfl rfl rfl rfl) ?_
          refine st_put rfl rfl rfl (q_move (v := .one (iC .i64 n90)) rfl) ?_
          obtain ⟨⟨n96, n97⟩, h95, h⟩ := bindS h
          obtain ⟨h95a, h95b, h95⟩ := atS_some h95
          refine st_put rfl rfl rfl (q_ixS rfl rfl h95a h95 (el23.trans (congrArg some h95b.symm))) ?_
          refine st_put rfl rfl rfl (q_fieldI rfl fa57_0 rfl) ?_
          refine st_put rfl rfl rfl (q_loadI (v := .one (iC .i64 n96)) rfl sz3 (map_get h95) rfl rfl) ?_
          obtain ⟨⟨n99, b100⟩, h98, h⟩ := bindS h
          refine st_put rfl rfl rfl (q_callF (v := .tup [.one (iC .i64 n99), .one (bC b100)]) (args := [.agg [iC .i64 n23, .p fr25 (Sl.t r56 s24)], .one (iC .i64 n96)]) (ref11_has_r (m + 3) h98) rfl rfl (vw_cons (vd_agg (vc_cons vc_v (vc_cons vc_s vc_nil))) (vw_cons (vd_one vc_v) vw_nil)) rfl rfl) ?_
          refine st_put rfl rfl rfl (q_move (v := .tup [.one (iC .i64 n99), .one (bC b100)]) rfl) ?_
          refine st_put rfl rfl rfl (q_ext (v := .one (iC .i64 n99)) rfl rfl) ?_
          refine st_put rfl rfl rfl (q_ext (v := .one (bC b100)) rfl rfl) ?_
          refine st_put rfl rfl rfl (q_assign (v := .one (iC .i64 n99)) rfl) ?_
          refine st_put rfl rfl rfl (q_assign (v := .one (bC b100)) rfl) ?_
          refine st_end ?_
          refine E_seq ?_
          refine L_seq ?_
          refine L_seq ?_
          refine L_ops ?_
          refine ol_put rfl rfl rfl (q_move (v := .one (bC b100)) rfl) ?_
          rcases b100 with _ | _
          · replace h := ifF (by decide) h
            refine ol_put rfl rfl rfl (q_not rfl) ?_
            refine ol_end ?_
            refine E_seq ?_
            refine L_condT rfl ?_
            refine L_exit ?_
            refine E_seqX ?_
            refine E_blkH ?_
            refine E_seq ?_
            refine L_ops ?_
            refine ol_put rfl rfl rfl (q_move (v := .one (iC .i64 n90)) rfl) ?_
            refine ol_put rfl rfl rfl (q_bin rfl rfl (p_add _ _ _ _ _ _ _) rfl) ?_
            refine ol_put rfl rfl rfl (q_assign (v := .one (iC .i64 (IntKind.i64.wrap (n90 + 1)))) rfl) ?_
            refine ol_end ?_
            obtain rfl := Option.some.inj h
            exact E_next k92 (ups_self ⟨rfl, rfl, rfl, rfl, rfl, rfl, trivial⟩) [0, 1, 2, 3, 4] (by decide) rfl
          · replace h := ifT (by decide) h
            refine ol_put rfl rfl rfl (q_not rfl) ?_
            refine ol_end ?_
            refine E_seq ?_
            refine L_condF rfl ?_
            refine L_skip ?_
            refine E_seq ?_
            refine L_seq ?_
            refine L_ops ?_
            refine ol_put rfl rfl rfl (q_move (v := .one (iC .i64 n1)) rfl) ?_
            refine ol_put rfl rfl rfl (q_fieldP rfl fa25_1 rfl) ?_
            refine ol_put rfl rfl rfl (q_loadP (v := .one (.p fr21 (Sl.t r56 s20))) 0 rfl sz23 rfl rfl rfl rfl) ?_
            refine ol_put rfl rfl rfl (q_move (v := .one (iC .i64 n90)) rfl) ?_
            refine ol_put rfl rfl rfl (q_ixS rfl rfl h95a h95 (el23.trans (congrArg some h95b.symm))) ?_
            refine ol_put rfl rfl rfl (q_fieldI rfl fa57_1 rfl) ?_
            refine ol_put rfl rfl rfl (q_loadI (v := .one (iC .i64 n97)) rfl sz2 (map_get h95) rfl rfl) ?_
            refine ol_put rfl rfl rfl (q_move (v := .one (iC .i64 n99)) rfl) ?_
            obtain ⟨⟨n102, n103⟩, h101, h⟩ := bindS h
            refine ol_put rfl rfl rfl (q_callF (v := .agg [iC .i64 n102, iC .u64 n103]) (args := [.one (iC .i64 n1), .one (iC .i64 n97), .one (iC .i64 n99)]) (ref02_Mul_r (m + 0) h101) rfl rfl (vw_cons (vd_one vc_v) (vw_cons (vd_one vc_v) (vw_cons (vd_one vc_v) vw_nil))) rfl rfl) ?_
            obtain ⟨⟨n105, b106⟩, h104, h⟩ := bindS h
            refine ol_put rfl rfl rfl (q_callF (v := .tup [.one (iC .i64 n105), .one (bC b106)]) (args := [.agg [iC .i64 n102, iC .u64 n103]]) (ref01_Narrow_r (m + 3) h104) rfl rfl (vw_cons (vd_agg (vc_cons vc_v (vc_cons vc_v vc_nil))) vw_nil) rfl rfl) ?_
            refine ol_put rfl rfl rfl (q_move (v := .tup [.one (iC .i64 n105), .one (bC b106)]) rfl) ?_
            refine ol_put rfl rfl rfl (q_ext (v := .one (iC .i64 n105)) rfl rfl) ?_
            refine ol_put rfl rfl rfl (q_ext (v := .one (bC b106)) rfl rfl) ?_
            refine ol_put rfl rfl rfl (q_assign (v := .one (iC .i64 n105)) rfl) ?_
            refine ol_put rfl rfl rfl (q_assign (v := .one (bC b106)) rfl) ?_
            refine ol_end ?_
            refine E_seq ?_
            refine L_seq ?_
            refine L_seq ?_
            refine L_ops ?_
            refine ol_put rfl rfl rfl (q_move (v := .one (bC b106)) rfl) ?_
            rcases b106 with _ | _
            · replace h := ifF (by decide) h
              refine ol_put rfl rfl rfl (q_not rfl) ?_
              refine ol_end ?_
              refine E_seq ?_
              refine L_condT rfl ?_
              refine L_seq ?_
              refine L_ops ?_
              refine ol_put rfl rfl rfl (q_build (cs := [iC .i64 0, .p true (Sl.t r56 (⟨false, 0, []⟩ : Sl (Int × Int)))]) ty25 rfl pl25 rfl) ?_
              refine ol_wr rfl rfl (q_store (es' := [[iC .i64 0, .p true (Sl.t r56 (⟨false, 0, []⟩ : Sl (Int × Int)))]]) 2 rfl rfl rfl sz25 rfl rfl rfl rfl rfl) rfl ?_
              refine ol_put rfl rfl rfl (q_assign (v := .one (iC .i64 12)) rfl) ?_
              refine ol_end ?_
              refine E_seq ?_
              refine L_ret ?_
              refine E_seqR ?_
              refine E_blkR ?_
              refine E_seqR ?_
              obtain rfl := Option.some.inj h
              exact E_out (E_up (E_endF (.inr rfl) (res_cell (d := .agg [iC .i64 0, .p true (Sl.t r56 (⟨false, 0, []⟩ : Sl (Int × Int)))]) 2 rfl sz25 rfl rfl rfl rfl (res_tmp rfl res_nil)) (vw_cons (vd_agg (vc_cons vc_v (vc_cons vc_s vc_nil))) (vw_cons (vd_one vc_v) vw_nil)) (fun h hb => own_no2) rfl rfl))
            · replace h := ifT (by decide) h
              refine ol_put rfl rfl rfl (q_not rfl) ?_
              refine ol_end ?_
              refine E_seq ?_
              refine L_condF rfl ?_
              refine L_skip ?_
              refine E_seq ?_
              refine L_norm (L2 := ([[(k6, 2, [[iC .i64 n19, .p fr21 (Sl.t r56 s20)]])], [(k7, 2, [[iC .i64 n23, .p fr25 (Sl.t r56 s24)]])], [(k8, 2, [[iC .i64 0, .p true (Sl.t r56 (⟨false, 0, []⟩ : Sl (Int × Int)))]])], [(k29, 2, [[iC .i64 n19, moC l91 k92]])], moL r56 2 l91 k92] : BL)) [0, 1, 2, 3, 4] (by decide) rfl ?_
              refine L_turn 14 rfl [[], [], [], [], [], [], [], [], [], [], [], moK l91 k92, [], [k29]] [(false, []), (false, []), (false, []), (false, []), (false, []), (false, []), (false, []), (false, []), (false, []), (false, []), (true, []), (true, []), (false, []), (false, [])] [[2, 3, 4, 5, 6, 7, 8, 9, 10], [2, 3, 4, 5, 6, 7, 8, 9, 10], [0, 1, 4, 8], [0, 1, 4, 8], [0, 1, 2, 3, 8], [0, 1, 8], [0, 1, 8], [0, 1, 8], [0, 1, 2, 3, 4, 5, 6, 7], [0, 1], [0, 1], [], [], []] (by kernel_rfl) (by kernel_rfl) (by kernel_rfl) ?_ (fun bb107 hlt hnd => ?_)
              · intro bb107 hlt hnd
                have e_k6 : k6 < bb107 := key_lt hlt 0 rfl
                have e_k7 : k7 < bb107 := key_lt hlt 1 rfl
                have e_k8 : k8 < bb107 := key_lt hlt 2 rfl
                have e_k29 : k29 < bb107 := key_lt hlt 3 rfl
                have e_k92 : l91 = [] ∨ k92 < bb107 := key_ltM (r := r56) (w := 2) hlt 4 rfl
                have f_k92 := moK_lt e_k92
                have d_k29_k6 : k29 ≠ k6 := key_ne hnd 3 0 rfl rfl rfl
                have d_k29_k7 : k29 ≠ k7 := key_ne hnd 3 1 rfl rfl rfl
                have d_k29_k8 : k29 ≠ k8 := key_ne hnd 3 2 rfl rfl rfl
                have d_k92_k6 : k6 ∉ moK l91 k92 := key_neM (r := r56) (w := 2) hnd 4 0 rfl rfl rfl
                have g_k92_k6 := moK_ne d_k92_k6
                have d_k92_k7 : k7 ∉ moK l91 k92 := key_neM (r := r56) (w := 2) hnd 4 1 rfl rfl rfl
                have g_k92_k7 := moK_ne d_k92_k7
                have d_k92_k8 : k8 ∉ moK l91 k92 := key_neM (r := r56) (w := 2) hnd 4 2 rfl rfl rfl
                have g_k92_k8 := moK_ne d_k92_k8
                have d_k92_k29 : k29 ∉ moK l91 k92 := key_neM (r := r56) (w := 2) hnd 4 3 rfl rfl rfl
                have g_k92_k29 := moK_ne d_k92_k29
                exact ⟨(by first | (simp [DJ]; done) | (simp [DJ]; omega) | (simp [DJ]; assumption) | (simp_all [DJ]; done) | (simp_all [DJ]; omega)), (by first | (simp [DJ]; done) | (simp [DJ]; omega) | (simp [DJ]; assumption) | (simp_all [DJ]; done) | (simp_all [DJ]; omega))⟩
              have e_k6 : k6 < bb107 := key_lt hlt 0 rfl
              have e_k7 : k7 < bb107 := key_lt hlt 1 rfl
              have e_k8 : k8 < bb107 := key_lt hlt 2 rfl
              have e_k29 : k29 < bb107 := key_lt hlt 3 rfl
              have e_k92 : l91 = [] ∨ k92 < bb107 := key_ltM (r := r56) (w := 2) hlt 4 rfl
              have f_k92 := moK_lt e_k92
              have d_k29_k6 : k29 ≠ k6 := key_ne hnd 3 0 rfl rfl rfl
              have d_k29_k7 : k29 ≠ k7 := key_ne hnd 3 1 rfl rfl rfl
              have d_k29_k8 : k29 ≠ k8 := key_ne hnd 3 2 rfl rfl rfl
              have d_k92_k6 : k6 ∉ moK l91 k92 := key_neM (r := r56) (w := 2) hnd 4 0 rfl rfl rfl
              have g_k92_k6 := moK_ne d_k92_k6
              have d_k92_k7 : k7 ∉ moK l91 k92 := key_neM (r := r56) (w := 2) hnd 4 1 rfl rfl rfl
              have g_k92_k7 := moK_ne d_k92_k7
              have d_k92_k8 : k8 ∉ moK l91 k92 := key_neM (r := r56) (w := 2) hnd 4 2 rfl rfl rfl
              have g_k92_k8 := moK_ne d_k92_k8
              have d_k92_k29 : k29 ∉ moK l91 k92 := key_neM (r := r56) (w := 2) hnd 4 3 rfl rfl rfl
              have g_k92_k29 := moK_ne d_k92_k29
              refine tn_put rfl rfl rfl [] (by decide) rfl hmn rfl (q_fieldP rfl fa25_1 rfl) ?_
              refine tn_put rfl rfl rfl [3] (by decide) rfl (hmc (nin_cons (ne_new (key_lt hlt 3 rfl)) nin_nil) hmn) rfl (q_loadP (v := .one (moC l91 k92)) 0 rfl sz23 rfl rfl rfl rfl) ?_
              refine tn_put rfl rfl rfl [] (by decide) rfl (hm0 rfl) rfl (q_fieldP rfl fa25_1 rfl) ?_
              refine tn_put rfl rfl rfl [0] (by decide) rfl (hm0 rfl) rfl (q_loadP (v := .one (.p fr21 (Sl.t r56 s20))) 0 rfl sz23 rfl rfl rfl rfl) ?_
              refine tn_put rfl rfl rfl [] (by decide) rfl (hm0 rfl) rfl (q_move (v := .one (iC .i64 n90)) rfl) ?_
              refine tn_put rfl rfl rfl [] (by decide) rfl (hm0 rfl) rfl (q_ixS rfl rfl h95a h95 (el23.trans (congrArg some h95b.symm))) ?_
              refine tn_put rfl rfl rfl [] (by decide) rfl (hm0 rfl) rfl (q_fieldI rfl fa57_0 rfl) ?_
              refine tn_put rfl rfl rfl [] (by decide) rfl (hm0 rfl) rfl (q_loadI (v := .one (iC .i64 n96)) rfl sz3 (map_get h95) rfl rfl) ?_
              refine tn_put rfl rfl rfl [] (by decide) rfl (hm0 rfl) rfl (q_move (v := .one (iC .i64 n105)) rfl) ?_
              refine tn_put rfl rfl rfl [] (by decide) rfl (hm0 rfl) rfl (q_build (cs := [iC .i64 n96, iC .i64 n105]) ty57 rfl pl57 rfl) ?_
              refine tn_new rfl rfl rfl [] (by decide) rfl (hm0 rfl) rfl rfl (hkc (ne_new (key_lt hlt 0 rfl)) (hkc (ne_new (key_lt hlt 1 rfl)) (hkc (ne_new (key_lt hlt 2 rfl)) (hkc (ne_new (key_lt hlt 3 rfl)) (hkM (e_k92.imp id fun h => by omega) hkn))))) (q_bslice (cs := [iC .i64 n96, iC .i64 n105]) (es := (([(n96, n105)] : List (Int × Int))).map (rowC r56)) ty23 rfl ty57 rfl rfl rfl rfl rfl) ?_
              obtain ⟨_, h109, h⟩ := bindS h
              obtain ⟨h109b, rfl⟩ := app_some h109
              refine tn_appM (r := r56) (l := l91) 0 5 rfl rfl rfl rfl [5, 0] (by decide) rfl (hm0 rfl) rfl rfl (hkc (ne_add rfl) (hkc (ne_new (key_lt hlt 0 rfl)) (hkc (ne_new (key_lt hlt 1 rfl)) (hkc (ne_new (key_lt hlt 2 rfl)) (hkc (ne_new (key_lt hlt 3 rfl)) (hkM (e_k92.imp id fun h => by omega) hkn)))))) rfl rfl (el_ownM (l := ([(n96, n105)] : List (Int × Int))) 1 rfl) rfl rfl h109 (fun y => rfl) el23 ty23 rfl rfl rfl rfl rfl ?_
              refine tn_put rfl rfl rfl [] (by decide) rfl (hm0 rfl) rfl (q_fieldP rfl fa25_1 rfl) ?_
              refine tn_wr rfl rfl [5] (by decide) rfl (hm0 rfl) rfl (q_store (es' := [[iC .i64 n19, moC (l91 ++ ([(n96, n105)] : List (Int × Int))) (bb107 + 11)]]) 0 rfl rfl rfl sz23 rfl rfl rfl rfl rfl) (q := 5) rfl rfl ?_
              refine tn_end ?_
              refine E_blkN ?_
              refine E_seq ?_
              refine L_ops ?_
              refine ol_put rfl rfl rfl (q_move (v := .one (iC .i64 n90)) rfl) ?_
              refine ol_put rfl rfl rfl (q_bin rfl rfl (p_add _ _ _ _ _ _ _) rfl) ?_
              refine ol_put rfl rfl rfl (q_assign (v := .one (iC .i64 (IntKind.i64.wrap (n90 + 1)))) rfl) ?_
              refine ol_end ?_
              obtain rfl := Option.some.inj h
              exact E_next (bb107 + 11) (ups_self ⟨rfl, rfl, rfl, rfl, rfl, rfl, trivial⟩) [2, 3, 4, 5, 0] (by decide) rfl
        · replace h := ifF c93 h
          refine ol_put rfl rfl rfl (q_bin rfl rfl (p_lss_f _ _ _ _ _ c93) rfl) ?_
          refine ol_end ?_
          refine E_seq ?_
          refine L_condF rfl ?_
          refine L_exit ?_
          refine E_seqX ?_
          obtain rfl := Option.some.inj h
          refine E_out ?_
          exact (E_exit k92 (ups_self ⟨rfl, rfl, trivial⟩) [2, 3, 4] (by decide) rfl)
      · rintro (l110 | u) h
        · refine J_x (fun k111 g => ?_)
          replace h := elimL h
          refine E_blkH ?_
          refine E_seq ?_
          refine L_seq ?_
          refine L_ops ?_
          refine ol_put rfl rfl rfl (q_loadP (v := .agg [iC .i64 n19, moC l110 k111]) 1 rfl sz25 rfl rfl rfl rfl) ?_
          refine ol_wr rfl rfl (q_store (es' := [[iC .i64 n19, moC l110 k111]]) 0 rfl rfl rfl sz25 rfl rfl rfl rfl rfl) rfl ?_
          refine ol_put rfl rfl rfl (q_assign (v := .one (iC .i64 0)) rfl) ?_
          refine ol_end ?_
          refine E_seq ?_
          refine L_ret ?_
          obtain rfl := Option.some.inj h
          exact E_endF (.inr rfl) (res_cell (d := .agg [iC .i64 n19, moC l110 k111]) 0 rfl sz25 rfl rfl rfl rfl (res_tmp rfl res_nil)) (vw_cons (vd_agg (vc_cons vc_v (vc_cons (vc_M (r := r56) 2 rfl (fun x h m => rfl)) vc_nil))) (vw_cons (vd_one vc_v) vw_nil)) (fun h hb => own_no2) rfl rfl
        · obtain rfl := Option.some.inj (elimR h)
          exact J_up (fun s hs => hs)
end Ev
end Go.Proofs.Ytlcfdmjkbaegpaa
