/- Functions of the program as functions on data, and that they are. -/
import Derived.Test.YtlcfdmjkbaegpaaLf1
import Derived.Test.YtlcfdmjkbaegpaaLf10
import Derived.Test.YtlcfdmjkbaegpaaLf11
import Derived.Test.YtlcfdmjkbaegpaaLf12
import Derived.Test.YtlcfdmjkbaegpaaLf5
import Derived.Test.YtlcfdmjkbaegpaaLf6
import Derived.Test.YtlcfdmjkbaegpaaLy1
namespace Go.Proofs.Ytlcfdmjkbaegpaa
namespace Ev
open Go
set_option linter.unusedVariables false
set_option linter.unusedSimpArgs false
set_option maxRecDepth 100000
set_option maxHeartbeats 1000000
attribute [local irreducible] OpsL StL TnL WpL EndL
noncomputable def law11_BlendSums (n1 : Int) (a1 : Int × (Sl (Int × Int))) (a2 : Int × (Sl (Int × Int))) : Option (Bool) :=
  match a1, a2 with
  | (n2, s3), (n4, s5) => ((law09_Few (n2, s3)).bind fun (n18, s19) => ((law09_Few (n4, s5)).bind fun (n22, s23) => (if n18 > 300 then (if n18 ≤ 4096 then ((FL).bind fun b28 => some b28) else ((blend_Union n1 (n18, s19) (n22, s23)).bind fun ((n30, s31), n32) => ((ref11_Union n1 (n18, s19) (n22, s23)).bind fun ((n35, s36), n37) => ((blend_Meet n1 (n18, s19) (n22, s23)).bind fun ((n40, s41), n42) => ((ref11_Meet n1 (n18, s19) (n22, s23)).bind fun ((n45, s46), n47) => ((FL).bind fun b50 => (if b50 = true then ((ref09_Same (n30, s31) (n35, s36)).bind fun b52 => (if b52 = true then (if n32 = n37 then ((ref09_Same (n40, s41) (n45, s46)).bind fun b55 => (if b55 = true then (if n42 = n47 then some true else some false) else some false)) else some false) else some false)) else some false))))))) else ((blend_Union n1 (n18, s19) (n22, s23)).bind fun ((n58, s59), n60) => ((ref11_Union n1 (n18, s19) (n22, s23)).bind fun ((n63, s64), n65) => ((blend_Meet n1 (n18, s19) (n22, s23)).bind fun ((n68, s69), n70) => ((ref11_Meet n1 (n18, s19) (n22, s23)).bind fun ((n73, s74), n75) => ((FL).bind fun b78 => (if b78 = true then ((ref09_Same (n58, s59) (n63, s64)).bind fun b80 => (if b80 = true then (if n60 = n65 then ((ref09_Same (n68, s69) (n73, s74)).bind fun b83 => (if b83 = true then (if n70 = n75 then some true else some false) else some false)) else some false) else some false)) else some false)))))))))
theorem law11_BlendSums_r (m : Nat) {n1 : Int} {a1 : Int × (Sl (Int × Int))} {a2 : Int × (Sl (Int × Int))} {out : Bool} (h : law11_BlendSums n1 a1 a2 = some out) : RunsP E1 (m + 7) 3 [.one (iT .i64 n1), .agg (r24 a1), .agg (r24 a2)] (.fresh, [.one (bT out)]) := by
  obtain ⟨n2, s3⟩ := a1
  obtain ⟨n4, s5⟩ := a2
  refine fn_F rfl (by rw [E1_fn]; exact show fiOf Try.prog 3 = _ by unfold fiOf; rw [Try.func3]; unfold Try.f3; rfl) rfl ?_
  dsimp only
  unfold law11_BlendSums at h
  refine L_seq ?_
  refine L_ops ?_
  refine ol_new rfl rfl rfl (q_box ty25 rfl (cs := [iC .i64 n2, .p false (Sl.t r56 s3)]) rfl rfl) (fun k6 => ?_)
  refine ol_new rfl rfl rfl (q_box ty25 rfl (cs := [iC .i64 n4, .p false (Sl.t r56 s5)]) rfl rfl) (fun k7 => ?_)
  refine ol_put rfl rfl rfl (q_assign (v := .one (bC false)) rfl) ?_
  refine ol_end ?_
  refine E_seq ?_
  refine L_seq ?_
  refine L_norm (L2 := ([[(k7, 2, [[iC .i64 n4, .p false (Sl.t r56 s5)]])], [(k6, 2, [[iC .i64 n2, .p false (Sl.t r56 s3)]])]] : BL)) [0, 1] (by decide) rfl ?_
  refine L_turn 6 rfl [[], [], [], [], [k6], [k7]] [(false, []), (false, []), (false, []), (false, []), (false, []), (false, [])] [[2], [2], [0, 1], [], [], []] (by kernel_rfl) (by kernel_rfl) (by kernel_rfl) ?_ (fun bb8 hlt hnd => ?_)
  · intro bb8 hlt hnd
    exact ⟨⟨djE, ⟨djE, ⟨djE, ⟨djE, ⟨djN, ⟨djN, trivial⟩⟩⟩⟩⟩⟩, (ltO_cons ltK_nil (ltO_cons ltK_nil (ltO_cons ltK_nil (ltO_cons ltK_nil (ltO_cons (ltK_cons (key_lt hlt 1 rfl) ltK_nil) (ltO_cons (ltK_cons (key_lt hlt 0 rfl) ltK_nil) ltO_nil))))))⟩
  refine tn_put rfl rfl rfl [1] (by decide) rfl (hm0 rfl) rfl (q_loadP (v := .agg [iC .i64 n2, .p false (Sl.t r56 s3)]) 0 rfl sz25 rfl rfl rfl rfl) ?_
  obtain ⟨⟨n18, s19⟩, h17, h⟩ := bindS h
  refine tn_putX rfl rfl rfl [] (by decide) rfl (hm0 rfl) rfl (q_callX (v := fun fr20 => .agg [iC .i64 n18, .p fr20 (Sl.t r56 s19)]) (args := [.agg [iC .i64 n2, .p false (Sl.t r56 s3)]]) (law09_Few_r (m + 5) h17) rfl rfl (vw_cons (vd_agg (vc_cons vc_v (vc_cons vc_s vc_nil))) vw_nil) rfl rfl (fun fr => rfl)) (fun fr20 => ?_)
  refine tn_put rfl rfl rfl [0] (by decide) rfl (hm0 rfl) rfl (q_loadP (v := .agg [iC .i64 n4, .p false (Sl.t r56 s5)]) 0 rfl sz25 rfl rfl rfl rfl) ?_
  obtain ⟨⟨n22, s23⟩, h21, h⟩ := bindS h
  refine tn_putX rfl rfl rfl [] (by decide) rfl (hm0 rfl) rfl (q_callX (v := fun fr24 => .agg [iC .i64 n22, .p fr24 (Sl.t r56 s23)]) (args := [.agg [iC .i64 n4, .p false (Sl.t r56 s5)]]) (law09_Few_r (m + 5) h21) rfl rfl (vw_cons (vd_agg (vc_cons vc_v (vc_cons vc_s vc_nil))) vw_nil) rfl rfl (fun fr => rfl)) (fun fr24 => ?_)
  refine tn_wr rfl rfl [1] (by decide) rfl (hm0 rfl) rfl (q_store (es' := [[iC .i64 n18, .p fr20 (Sl.t r56 s19)]]) 0 rfl rfl rfl sz25 rfl rfl rfl rfl rfl) (q := 1) rfl rfl ?_
  refine tn_wr rfl rfl [0] (by decide) rfl (hm0 rfl) rfl (q_store (es' := [[iC .i64 n22, .p fr24 (Sl.t r56 s23)]]) 0 rfl rfl rfl sz25 rfl rfl rfl rfl rfl) (q := 0) rfl rfl ?_
  refine tn_end ?_
  refine E_seq ?_
  refine L_seq ?_
  refine L_seq ?_
  refine L_ops ?_
  refine ol_put rfl rfl rfl (q_fieldP rfl fa25_0 rfl) ?_
  refine ol_put rfl rfl rfl (q_loadP (v := .one (iC .i64 n18)) 1 rfl sz3 rfl rfl rfl rfl) ?_
  by_cases c25 : n18 > 300
  · replace h := ifT c25 h
    refine ol_put rfl rfl rfl (q_bin rfl rfl (p_gtr_t _ _ _ _ _ c25) rfl) ?_
    refine ol_put rfl rfl rfl (q_move (v := .one (bC true)) rfl) ?_
    refine ol_put rfl rfl rfl (q_fieldP rfl fa25_0 rfl) ?_
    refine ol_put rfl rfl rfl (q_loadP (v := .one (iC .i64 n18)) 1 rfl sz3 rfl rfl rfl rfl) ?_
    by_cases c26 : n18 ≤ 4096
    · replace h := ifT c26 h
      refine ol_put rfl rfl rfl (q_bin rfl rfl (p_leq_t _ _ _ _ _ c26) rfl) ?_
      refine ol_put rfl rfl rfl (q_pickT (v := .one (bC true)) rfl rfl) ?_
      refine ol_end ?_
      refine E_seq ?_
      refine L_condT rfl ?_
      refine L_seq ?_
      refine L_ops ?_
      obtain ⟨b28, h27, h⟩ := bindS h
      refine ol_put rfl rfl rfl (q_callF (v := .one (bC b28)) (args := []) (FL_r (m + 5) h27) rfl rfl vw_nil rfl rfl) ?_
      refine ol_put rfl rfl rfl (q_assign (v := .one (bC b28)) rfl) ?_
      refine ol_end ?_
      refine E_seq ?_
      refine L_ret ?_
      refine E_seqR ?_
      obtain rfl := Option.some.inj h
      exact E_endF (.inr rfl) (res_tmp rfl res_nil) (vw_cons (vd_one vc_v) vw_nil) (fun h hb => own_p) rfl rfl
    · replace h := ifF c26 h
      refine ol_put rfl rfl rfl (q_bin rfl rfl (p_leq_f _ _ _ _ _ c26) rfl) ?_
      refine ol_put rfl rfl rfl (q_pickT (v := .one (bC false)) rfl rfl) ?_
      refine ol_end ?_
      refine E_seq ?_
      refine L_condF rfl ?_
      refine L_skip ?_
      refine E_seq ?_
      refine L_seq ?_
      refine L_ops ?_
      refine ol_put rfl rfl rfl (q_move (v := .one (iC .i64 n1)) rfl) ?_
      refine ol_put rfl rfl rfl (q_loadP (v := .agg [iC .i64 n18, .p fr20 (Sl.t r56 s19)]) 1 rfl sz25 rfl rfl rfl rfl) ?_
      refine ol_put rfl rfl rfl (q_loadP (v := .agg [iC .i64 n22, .p fr24 (Sl.t r56 s23)]) 0 rfl sz25 rfl rfl rfl rfl) ?_
      obtain ⟨⟨⟨n30, s31⟩, n32⟩, h29, h⟩ := bindS h
      refine ol_put rfl rfl rfl (q_callF (v := .tup [.agg [iC .i64 n30, .p true (Sl.t r56 s31)], .one (iC .i64 n32)]) (args := [.one (iC .i64 n1), .agg [iC .i64 n18, .p fr20 (Sl.t r56 s19)], .agg [iC .i64 n22, .p fr24 (Sl.t r56 s23)]]) (blend_Union_r (m + 0) h29) rfl rfl (vw_cons (vd_one vc_v) (vw_cons (vd_agg (vc_cons vc_v (vc_cons vc_s vc_nil))) (vw_cons (vd_agg (vc_cons vc_v (vc_cons vc_s vc_nil))) vw_nil))) rfl rfl) ?_
      refine ol_put rfl rfl rfl (q_move (v := .tup [.agg [iC .i64 n30, .p true (Sl.t r56 s31)], .one (iC .i64 n32)]) rfl) ?_
      refine ol_put rfl rfl rfl (q_ext (v := .agg [iC .i64 n30, .p true (Sl.t r56 s31)]) rfl rfl) ?_
      refine ol_put rfl rfl rfl (q_ext (v := .one (iC .i64 n32)) rfl rfl) ?_
      refine ol_new rfl rfl rfl (q_alloc ty25 (row := [iC .i64 0, .p true (Sl.t r56 (⟨false, 0, []⟩ : Sl (Int × Int)))]) rfl rfl) (fun k33 => ?_)
      refine ol_wr rfl rfl (q_store (es' := [[iC .i64 n30, .p true (Sl.t r56 s31)]]) 0 rfl rfl rfl sz25 rfl rfl rfl rfl rfl) rfl ?_
      refine ol_put rfl rfl rfl (q_assign (v := .one (iC .i64 n32)) rfl) ?_
      refine ol_end ?_
      refine E_seq ?_
      refine L_seq ?_
      refine L_ops ?_
      refine ol_put rfl rfl rfl (q_move (v := .one (iC .i64 n1)) rfl) ?_
      refine ol_put rfl rfl rfl (q_loadP (v := .agg [iC .i64 n18, .p fr20 (Sl.t r56 s19)]) 2 rfl sz25 rfl rfl rfl rfl) ?_
      refine ol_put rfl rfl rfl (q_loadP (v := .agg [iC .i64 n22, .p fr24 (Sl.t r56 s23)]) 1 rfl sz25 rfl rfl rfl rfl) ?_
      obtain ⟨⟨⟨n35, s36⟩, n37⟩, h34, h⟩ := bindS h
      refine ol_put rfl rfl rfl (q_callF (v := .tup [.agg [iC .i64 n35, .p true (Sl.t r56 s36)], .one (iC .i64 n37)]) (args := [.one (iC .i64 n1), .agg [iC .i64 n18, .p fr20 (Sl.t r56 s19)], .agg [iC .i64 n22, .p fr24 (Sl.t r56 s23)]]) (ref11_Union_r (m + 3) h34) rfl rfl (vw_cons (vd_one vc_v) (vw_cons (vd_agg (vc_cons vc_v (vc_cons vc_s vc_nil))) (vw_cons (vd_agg (vc_cons vc_v (vc_cons vc_s vc_nil))) vw_nil))) rfl rfl) ?_
      refine ol_put rfl rfl rfl (q_move (v := .tup [.agg [iC .i64 n35, .p true (Sl.t r56 s36)], .one (iC .i64 n37)]) rfl) ?_
      refine ol_put rfl rfl rfl (q_ext (v := .agg [iC .i64 n35, .p true (Sl.t r56 s36)]) rfl rfl) ?_
      refine ol_put rfl rfl rfl (q_ext (v := .one (iC .i64 n37)) rfl rfl) ?_
      refine ol_new rfl rfl rfl (q_alloc ty25 (row := [iC .i64 0, .p true (Sl.t r56 (⟨false, 0, []⟩ : Sl (Int × Int)))]) rfl rfl) (fun k38 => ?_)
      refine ol_wr rfl rfl (q_store (es' := [[iC .i64 n35, .p true (Sl.t r56 s36)]]) 0 rfl rfl rfl sz25 rfl rfl rfl rfl rfl) rfl ?_
      refine ol_put rfl rfl rfl (q_assign (v := .one (iC .i64 n37)) rfl) ?_
      refine ol_end ?_
      refine E_seq ?_
      refine L_seq ?_
      refine L_ops ?_
      refine ol_put rfl rfl rfl (q_move (v := .one (iC .i64 n1)) rfl) ?_
      refine ol_put rfl rfl rfl (q_loadP (v := .agg [iC .i64 n18, .p fr20 (Sl.t r56 s19)]) 3 rfl sz25 rfl rfl rfl rfl) ?_
      refine ol_put rfl rfl rfl (q_loadP (v := .agg [iC .i64 n22, .p fr24 (Sl.t r56 s23)]) 2 rfl sz25 rfl rfl rfl rfl) ?_
      obtain ⟨⟨⟨n40, s41⟩, n42⟩, h39, h⟩ := bindS h
      refine ol_put rfl rfl rfl (q_callF (v := .tup [.agg [iC .i64 n40, .p true (Sl.t r56 s41)], .one (iC .i64 n42)]) (args := [.one (iC .i64 n1), .agg [iC .i64 n18, .p fr20 (Sl.t r56 s19)], .agg [iC .i64 n22, .p fr24 (Sl.t r56 s23)]]) (blend_Meet_r (m + 0) h39) rfl rfl (vw_cons (vd_one vc_v) (vw_cons (vd_agg (vc_cons vc_v (vc_cons vc_s vc_nil))) (vw_cons (vd_agg (vc_cons vc_v (vc_cons vc_s vc_nil))) vw_nil))) rfl rfl) ?_
      refine ol_put rfl rfl rfl (q_move (v := .tup [.agg [iC .i64 n40, .p true (Sl.t r56 s41)], .one (iC .i64 n42)]) rfl) ?_
      refine ol_put rfl rfl rfl (q_ext (v := .agg [iC .i64 n40, .p true (Sl.t r56 s41)]) rfl rfl) ?_
      refine ol_put rfl rfl rfl (q_ext (v := .one (iC .i64 n42)) rfl rfl) ?_
      refine ol_new rfl rfl rfl (q_alloc ty25 (row := [iC .i64 0, .p true (Sl.t r56 (⟨false, 0, []⟩ : Sl (Int × Int)))]) rfl rfl) (fun k43 => ?_)
      refine ol_wr rfl rfl (q_store (es' := [[iC .i64 n40, .p true (Sl.t r56 s41)]]) 0 rfl rfl rfl sz25 rfl rfl rfl rfl rfl) rfl ?_
      refine ol_put rfl rfl rfl (q_assign (v := .one (iC .i64 n42)) rfl) ?_
      refine ol_end ?_
      refine E_seq ?_
      refine L_seq ?_
      refine L_ops ?_
      refine ol_put rfl rfl rfl (q_move (v := .one (iC .i64 n1)) rfl) ?_
      refine ol_put rfl rfl rfl (q_loadP (v := .agg [iC .i64 n18, .p fr20 (Sl.t r56 s19)]) 4 rfl sz25 rfl rfl rfl rfl) ?_
      refine ol_put rfl rfl rfl (q_loadP (v := .agg [iC .i64 n22, .p fr24 (Sl.t r56 s23)]) 3 rfl sz25 rfl rfl rfl rfl) ?_
      obtain ⟨⟨⟨n45, s46⟩, n47⟩, h44, h⟩ := bindS h
      refine ol_put rfl rfl rfl (q_callF (v := .tup [.agg [iC .i64 n45, .p true (Sl.t r56 s46)], .one (iC .i64 n47)]) (args := [.one (iC .i64 n1), .agg [iC .i64 n18, .p fr20 (Sl.t r56 s19)], .agg [iC .i64 n22, .p fr24 (Sl.t r56 s23)]]) (ref11_Meet_r (m + 1) h44) rfl rfl (vw_cons (vd_one vc_v) (vw_cons (vd_agg (vc_cons vc_v (vc_cons vc_s vc_nil))) (vw_cons (vd_agg (vc_cons vc_v (vc_cons vc_s vc_nil))) vw_nil))) rfl rfl) ?_
      refine ol_put rfl rfl rfl (q_move (v := .tup [.agg [iC .i64 n45, .p true (Sl.t r56 s46)], .one (iC .i64 n47)]) rfl) ?_
      refine ol_put rfl rfl rfl (q_ext (v := .agg [iC .i64 n45, .p true (Sl.t r56 s46)]) rfl rfl) ?_
      refine ol_put rfl rfl rfl (q_ext (v := .one (iC .i64 n47)) rfl rfl) ?_
      refine ol_new rfl rfl rfl (q_alloc ty25 (row := [iC .i64 0, .p true (Sl.t r56 (⟨false, 0, []⟩ : Sl (Int × Int)))]) rfl rfl) (fun k48 => ?_)
      refine ol_wr rfl rfl (q_store (es' := [[iC .i64 n45, .p true (Sl.t r56 s46)]]) 0 rfl rfl rfl sz25 rfl rfl rfl rfl rfl) rfl ?_
      refine ol_put rfl rfl rfl (q_assign (v := .one (iC .i64 n47)) rfl) ?_
      refine ol_end ?_
      refine E_seq ?_
      refine L_seq ?_
      refine L_ops ?_
      obtain ⟨b50, h49, h⟩ := bindS h
      refine ol_put rfl rfl rfl (q_callF (v := .one (bC b50)) (args := []) (FL_r (m + 5) h49) rfl rfl vw_nil rfl rfl) ?_
      refine ol_put rfl rfl rfl (q_move (v := .one (bC b50)) rfl) ?_
      rcases b50 with _ | _
      · replace h := ifF (by decide) h
        refine ol_skip rfl rfl rfl ?_
        refine ol_skip rfl rfl rfl ?_
        refine ol_skip rfl rfl rfl ?_
        refine ol_put rfl rfl rfl (q_pickF (v := .one (bC false)) rfl rfl) ?_
        refine ol_put rfl rfl rfl (q_move (v := .one (bC false)) rfl) ?_
        refine ol_skip rfl rfl rfl ?_
        refine ol_skip rfl rfl rfl ?_
        refine ol_skip rfl rfl rfl ?_
        refine ol_put rfl rfl rfl (q_pickF (v := .one (bC false)) rfl rfl) ?_
        refine ol_put rfl rfl rfl (q_move (v := .one (bC false)) rfl) ?_
        refine ol_skip rfl rfl rfl ?_
        refine ol_skip rfl rfl rfl ?_
        refine ol_skip rfl rfl rfl ?_
        refine ol_put rfl rfl rfl (q_pickF (v := .one (bC false)) rfl rfl) ?_
        refine ol_put rfl rfl rfl (q_move (v := .one (bC false)) rfl) ?_
        refine ol_skip rfl rfl rfl ?_
        refine ol_skip rfl rfl rfl ?_
        refine ol_skip rfl rfl rfl ?_
        refine ol_put rfl rfl rfl (q_pickF (v := .one (bC false)) rfl rfl) ?_
        refine ol_put rfl rfl rfl (q_assign (v := .one (bC false)) rfl) ?_
        refine ol_end ?_
        refine E_seq ?_
        refine L_ret ?_
        obtain rfl := Option.some.inj h
        exact E_endF (.inr rfl) (res_tmp rfl res_nil) (vw_cons (vd_one vc_v) vw_nil) (fun h hb => own_p) rfl rfl
      · replace h := ifT (by decide) h
        refine ol_put rfl rfl rfl (q_loadP (v := .agg [iC .i64 n30, .p true (Sl.t r56 s31)]) 3 rfl sz25 rfl rfl rfl rfl) ?_
        refine ol_put rfl rfl rfl (q_loadP (v := .agg [iC .i64 n35, .p true (Sl.t r56 s36)]) 2 rfl sz25 rfl rfl rfl rfl) ?_
        obtain ⟨b52, h51, h⟩ := bindS h
        refine ol_put rfl rfl rfl (q_callF (v := .one (bC b52)) (args := [.agg [iC .i64 n30, .p true (Sl.t r56 s31)], .agg [iC .i64 n35, .p true (Sl.t r56 s36)]]) (ref09_Same_r (m + 4) h51) rfl rfl (vw_cons (vd_agg (vc_cons vc_v (vc_cons vc_s vc_nil))) (vw_cons (vd_agg (vc_cons vc_v (vc_cons vc_s vc_nil))) vw_nil)) rfl rfl) ?_
        refine ol_put rfl rfl rfl (q_pickT (v := .one (bC b52)) rfl rfl) ?_
        refine ol_put rfl rfl rfl (q_move (v := .one (bC b52)) rfl) ?_
        rcases b52 with _ | _
        · replace h := ifF (by decide) h
          refine ol_skip rfl rfl rfl ?_
          refine ol_skip rfl rfl rfl ?_
          refine ol_skip rfl rfl rfl ?_
          refine ol_put rfl rfl rfl (q_pickF (v := .one (bC false)) rfl rfl) ?_
          refine ol_put rfl rfl rfl (q_move (v := .one (bC false)) rfl) ?_
          refine ol_skip rfl rfl rfl ?_
          refine ol_skip rfl rfl rfl ?_
          refine ol_skip rfl rfl rfl ?_
          refine ol_put rfl rfl rfl (q_pickF (v := .one (bC false)) rfl rfl) ?_
          refine ol_put rfl rfl rfl (q_move (v := .one (bC false)) rfl) ?_
          refine ol_skip rfl rfl rfl ?_
          refine ol_skip rfl rfl rfl ?_
          refine ol_skip rfl rfl rfl ?_
          refine ol_put rfl rfl rfl (q_pickF (v := .one (bC false)) rfl rfl) ?_
          refine ol_put rfl rfl rfl (q_assign (v := .one (bC false)) rfl) ?_
          refine ol_end ?_
          refine E_seq ?_
          refine L_ret ?_
          obtain rfl := Option.some.inj h
          exact E_endF (.inr rfl) (res_tmp rfl res_nil) (vw_cons (vd_one vc_v) vw_nil) (fun h hb => own_p) rfl rfl
        · replace h := ifT (by decide) h
          refine ol_put rfl rfl rfl (q_move (v := .one (iC .i64 n32)) rfl) ?_
          refine ol_put rfl rfl rfl (q_move (v := .one (iC .i64 n37)) rfl) ?_
          by_cases c53 : n32 = n37
          · replace h := ifT c53 h
            refine ol_put rfl rfl rfl (q_bin rfl rfl (p_eql_t _ _ _ _ _ c53) rfl) ?_
            refine ol_put rfl rfl rfl (q_pickT (v := .one (bC true)) rfl rfl) ?_
            refine ol_put rfl rfl rfl (q_move (v := .one (bC true)) rfl) ?_
            refine ol_put rfl rfl rfl (q_loadP (v := .agg [iC .i64 n40, .p true (Sl.t r56 s41)]) 1 rfl sz25 rfl rfl rfl rfl) ?_
            refine ol_put rfl rfl rfl (q_loadP (v := .agg [iC .i64 n45, .p true (Sl.t r56 s46)]) 0 rfl sz25 rfl rfl rfl rfl) ?_
            obtain ⟨b55, h54, h⟩ := bindS h
            refine ol_put rfl rfl rfl (q_callF (v := .one (bC b55)) (args := [.agg [iC .i64 n40, .p true (Sl.t r56 s41)], .agg [iC .i64 n45, .p true (Sl.t r56 s46)]]) (ref09_Same_r (m + 4) h54) rfl rfl (vw_cons (vd_agg (vc_cons vc_v (vc_cons vc_s vc_nil))) (vw_cons (vd_agg (vc_cons vc_v (vc_cons vc_s vc_nil))) vw_nil)) rfl rfl) ?_
            refine ol_put rfl rfl rfl (q_pickT (v := .one (bC b55)) rfl rfl) ?_
            refine ol_put rfl rfl rfl (q_move (v := .one (bC b55)) rfl) ?_
            rcases b55 with _ | _
            · replace h := ifF (by decide) h
              refine ol_skip rfl rfl rfl ?_
              refine ol_skip rfl rfl rfl ?_
              refine ol_skip rfl rfl rfl ?_
              refine ol_put rfl rfl rfl (q_pickF (v := .one (bC false)) rfl rfl) ?_
              refine ol_put rfl rfl rfl (q_assign (v := .one (bC false)) rfl) ?_
              refine ol_end ?_
              refine E_seq ?_
              refine L_ret ?_
              obtain rfl := Option.some.inj h
              exact E_endF (.inr rfl) (res_tmp rfl res_nil) (vw_cons (vd_one vc_v) vw_nil) (fun h hb => own_p) rfl rfl
            · replace h := ifT (by decide) h
              refine ol_put rfl rfl rfl (q_move (v := .one (iC .i64 n42)) rfl) ?_
              refine ol_put rfl rfl rfl (q_move (v := .one (iC .i64 n47)) rfl) ?_
              by_cases c56 : n42 = n47
              · replace h := ifT c56 h
                refine ol_put rfl rfl rfl (q_bin rfl rfl (p_eql_t _ _ _ _ _ c56) rfl) ?_
                refine ol_put rfl rfl rfl (q_pickT (v := .one (bC true)) rfl rfl) ?_
                refine ol_put rfl rfl rfl (q_assign (v := .one (bC true)) rfl) ?_
                refine ol_end ?_
                refine E_seq ?_
                refine L_ret ?_
                obtain rfl := Option.some.inj h
                exact E_endF (.inr rfl) (res_tmp rfl res_nil) (vw_cons (vd_one vc_v) vw_nil) (fun h hb => own_p) rfl rfl
              · replace h := ifF c56 h
                refine ol_put rfl rfl rfl (q_bin rfl rfl (p_eql_f _ _ _ _ _ c56) rfl) ?_
                refine ol_put rfl rfl rfl (q_pickT (v := .one (bC false)) rfl rfl) ?_
                refine ol_put rfl rfl rfl (q_assign (v := .one (bC false)) rfl) ?_
                refine ol_end ?_
                refine E_seq ?_
                refine L_ret ?_
                obtain rfl := Option.some.inj h
                exact E_endF (.inr rfl) (res_tmp rfl res_nil) (vw_cons (vd_one vc_v) vw_nil) (fun h hb => own_p) rfl rfl
          · replace h := ifF c53 h
            refine ol_put rfl rfl rfl (q_bin rfl rfl (p_eql_f _ _ _ _ _ c53) rfl) ?_
            refine ol_put rfl rfl rfl (q_pickT (v := .one (bC false)) rfl rfl) ?_
            refine ol_put rfl rfl rfl (q_move (v := .one (bC false)) rfl) ?_
            refine ol_skip rfl rfl rfl ?_
            refine ol_skip rfl rfl rfl ?_
            refine ol_skip rfl rfl rfl ?_
            refine ol_put rfl rfl rfl (q_pickF (v := .one (bC false)) rfl rfl) ?_
            refine ol_put rfl rfl rfl (q_move (v := .one (bC false)) rfl) ?_
            refine ol_skip rfl rfl rfl ?_
            refine ol_skip rfl rfl rfl ?_
            refine ol_skip rfl rfl rfl ?_
            refine ol_put rfl rfl rfl (q_pickF (v := .one (bC false)) rfl rfl) ?_
            refine ol_put rfl rfl rfl (q_assign (v := .one (bC false)) rfl) ?_
            refine ol_end ?_
            refine E_seq ?_
            refine L_ret ?_
            obtain rfl := Option.some.inj h
            exact E_endF (.inr rfl) (res_tmp rfl res_nil) (vw_cons (vd_one vc_v) vw_nil) (fun h hb => own_p) rfl rfl
  · replace h := ifF c25 h
    refine ol_put rfl rfl rfl (q_bin rfl rfl (p_gtr_f _ _ _ _ _ c25) rfl) ?_
    refine ol_put rfl rfl rfl (q_move (v := .one (bC false)) rfl) ?_
    refine ol_skip rfl rfl rfl ?_
    refine ol_skip rfl rfl rfl ?_
    refine ol_skip rfl rfl rfl ?_
    refine ol_put rfl rfl rfl (q_pickF (v := .one (bC false)) rfl rfl) ?_
    refine ol_end ?_
    refine E_seq ?_
    refine L_condF rfl ?_
    refine L_skip ?_
    refine E_seq ?_
    refine L_seq ?_
    refine L_ops ?_
    refine ol_put rfl rfl rfl (q_move (v := .one (iC .i64 n1)) rfl) ?_
    refine ol_put rfl rfl rfl (q_loadP (v := .agg [iC .i64 n18, .p fr20 (Sl.t r56 s19)]) 1 rfl sz25 rfl rfl rfl rfl) ?_
    refine ol_put rfl rfl rfl (q_loadP (v := .agg [iC .i64 n22, .p fr24 (Sl.t r56 s23)]) 0 rfl sz25 rfl rfl rfl rfl) ?_
    obtain ⟨⟨⟨n58, s59⟩, n60⟩, h57, h⟩ := bindS h
    refine ol_put rfl rfl rfl (q_callF (v := .tup [.agg [iC .i64 n58, .p true (Sl.t r56 s59)], .one (iC .i64 n60)]) (args := [.one (iC .i64 n1), .agg [iC .i64 n18, .p fr20 (Sl.t r56 s19)], .agg [iC .i64 n22, .p fr24 (Sl.t r56 s23)]]) (blend_Union_r (m + 0) h57) rfl rfl (vw_cons (vd_one vc_v) (vw_cons (vd_agg (vc_cons vc_v (vc_cons vc_s vc_nil))) (vw_cons (vd_agg (vc_cons vc_v (vc_cons vc_s vc_nil))) vw_nil))) rfl rfl) ?_
    refine ol_put rfl rfl rfl (q_move (v := .tup [.agg [iC .i64 n58, .p true (Sl.t r56 s59)], .one (iC .i64 n60)]) rfl) ?_
    refine ol_put rfl rfl rfl (q_ext (v := .agg [iC .i64 n58, .p true (Sl.t r56 s59)]) rfl rfl) ?_
    refine ol_put rfl rfl rfl (q_ext (v := .one (iC .i64 n60)) rfl rfl) ?_
    refine ol_new rfl rfl rfl (q_alloc ty25 (row := [iC .i64 0, .p true (Sl.t r56 (⟨false, 0, []⟩ : Sl (Int × Int)))]) rfl rfl) (fun k61 => ?_)
    refine ol_wr rfl rfl (q_store (es' := [[iC .i64 n58, .p true (Sl.t r56 s59)]]) 0 rfl rfl rfl sz25 rfl rfl rfl rfl rfl) rfl ?_
    refine ol_put rfl rfl rfl (q_assign (v := .one (iC .i64 n60)) rfl) ?_
    refine ol_end ?_
    refine E_seq ?_
    refine L_seq ?_
    refine L_ops ?_
    refine ol_put rfl rfl rfl (q_move (v := .one (iC .i64 n1)) rfl) ?_
    refine ol_put rfl rfl rfl (q_loadP (v := .agg [iC .i64 n18, .p fr20 (Sl.t r56 s19)]) 2 rfl sz25 rfl rfl rfl rfl) ?_
    refine ol_put rfl rfl rfl (q_loadP (v := .agg [iC .i64 n22, .p fr24 (Sl.t r56 s23)]) 1 rfl sz25 rfl rfl rfl rfl) ?_
    obtain ⟨⟨⟨n63, s64⟩, n65⟩, h62, h⟩ := bindS h
    refine ol_put rfl rfl rfl (q_callF (v := .tup [.agg [iC .i64 n63, .p true (Sl.t r56 s64)], .one (iC .i64 n65)]) (args := [.one (iC .i64 n1), .agg [iC .i64 n18, .p fr20 (Sl.t r56 s19)], .agg [iC .i64 n22, .p fr24 (Sl.t r56 s23)]]) (ref11_Union_r (m + 3) h62) rfl rfl (vw_cons (vd_one vc_v) (vw_cons (vd_agg (vc_cons vc_v (vc_cons vc_s vc_nil))) (vw_cons (vd_agg (vc_cons vc_v (vc_cons vc_s vc_nil))) vw_nil))) rfl rfl) ?_
    refine ol_put rfl rfl rfl (q_move (v := .tup [.agg [iC .i64 n63, .p true (Sl.t r56 s64)], .one (iC .i64 n65)]) rfl) ?_
    refine ol_put rfl rfl rfl (q_ext (v := .agg [iC .i64 n63, .p true (Sl.t r56 s64)]) rfl rfl) ?_
    refine ol_put rfl rfl rfl (q_ext (v := .one (iC .i64 n65)) rfl rfl) ?_
    refine ol_new rfl rfl rfl (q_alloc ty25 (row := [iC .i64 0, .p true (Sl.t r56 (⟨false, 0, []⟩ : Sl (Int × Int)))]) rfl rfl) (fun k66 => ?_)
    refine ol_wr rfl rfl (q_store (es' := [[iC .i64 n63, .p true (Sl.t r56 s64)]]) 0 rfl rfl rfl sz25 rfl rfl rfl rfl rfl) rfl ?_
    refine ol_put rfl rfl rfl (q_assign (v := .one (iC .i64 n65)) rfl) ?_
    refine ol_end ?_
    refine E_seq ?_
    refine L_seq ?_
    refine L_ops ?_
    refine ol_put rfl rfl rfl (q_move (v := .one (iC .i64 n1)) rfl) ?_
    refine ol_put rfl rfl rfl (q_loadP (v := .agg [iC .i64 n18, .p fr20 (Sl.t r56 s19)]) 3 rfl sz25 rfl rfl rfl rfl) ?_
    refine ol_put rfl rfl rfl (q_loadP (v := .agg [iC .i64 n22, .p fr24 (Sl.t r56 s23)]) 2 rfl sz25 rfl rfl rfl rfl) ?_
    obtain ⟨⟨⟨n68, s69⟩, n70⟩, h67, h⟩ := bindS h
    refine ol_put rfl rfl rfl (q_callF (v := .tup [.agg [iC .i64 n68, .p true (Sl.t r56 s69)], .one (iC .i64 n70)]) (args := [.one (iC .i64 n1), .agg [iC .i64 n18, .p fr20 (Sl.t r56 s19)], .agg [iC .i64 n22, .p fr24 (Sl.t r56 s23)]]) (blend_Meet_r (m + 0) h67) rfl rfl (vw_cons (vd_one vc_v) (vw_cons (vd_agg (vc_cons vc_v (vc_cons vc_s vc_nil))) (vw_cons (vd_agg (vc_cons vc_v (vc_cons vc_s vc_nil))) vw_nil))) rfl rfl) ?_
    refine ol_put rfl rfl rfl (q_move (v := .tup [.agg [iC .i64 n68, .p true (Sl.t r56 s69)], .one (iC .i64 n70)]) rfl) ?_
    refine ol_put rfl rfl rfl (q_ext (v := .agg [iC .i64 n68, .p true (Sl.t r56 s69)]) rfl rfl) ?_
    refine ol_put rfl rfl rfl (q_ext (v := .one (iC .i64 n70)) rfl rfl) ?_
    refine ol_new rfl rfl rfl (q_alloc ty25 (row := [iC .i64 0, .p true (Sl.t r56 (⟨false, 0, []⟩ : Sl (Int × Int)))]) rfl rfl) (fun k71 => ?_)
    refine ol_wr rfl rfl (q_store (es' := [[iC .i64 n68, .p true (Sl.t r56 s69)]]) 0 rfl rfl rfl sz25 rfl rfl rfl rfl rfl) rfl ?_
    refine ol_put rfl rfl rfl (q_assign (v := .one (iC .i64 n70)) rfl) ?_
    refine ol_end ?_
    refine E_seq ?_
    refine L_seq ?_
    refine L_ops ?_
    refine ol_put rfl rfl rfl (q_move (v := .one (iC .i64 n1)) rfl) ?_
    refine ol_put rfl rfl rfl (q_loadP (v := .agg [iC .i64 n18, .p fr20 (Sl.t r56 s19)]) 4 rfl sz25 rfl rfl rfl rfl) ?_
    refine ol_put rfl rfl rfl (q_loadP (v := .agg [iC .i64 n22, .p fr24 (Sl.t r56 s23)]) 3 rfl sz25 rfl rfl rfl rfl) ?_
    obtain ⟨⟨⟨n73, s74⟩, n75⟩, h72, h⟩ := bindS h
    refine ol_put rfl rfl rfl (q_callF (v := .tup [.agg [iC .i64 n73, .p true (Sl.t r56 s74)], .one (iC .i64 n75)]) (args := [.one (iC .i64 n1), .agg [iC .i64 n18, .p fr20 (Sl.t r56 s19)], .agg [iC .i64 n22, .p fr24 (Sl.t r56 s23)]]) (ref11_Meet_r (m + 1) h72) rfl rfl (vw_cons (vd_one vc_v) (vw_cons (vd_agg (vc_cons vc_v (vc_cons vc_s vc_nil))) (vw_cons (vd_agg (vc_cons vc_v (vc_cons vc_s vc_nil))) vw_nil))) rfl rfl) ?_
    refine ol_put rfl rfl rfl (q_move (v := .tup [.agg [iC .i64 n73, .p true (Sl.t r56 s74)], .one (iC .i64 n75)]) rfl) ?_
    refine ol_put rfl rfl rfl (q_ext (v := .agg [iC .i64 n73, .p true (Sl.t r56 s74)]) rfl rfl) ?_
    refine ol_put rfl rfl rfl (q_ext (v := .one (iC .i64 n75)) rfl rfl) ?_
    refine ol_new rfl rfl rfl (q_alloc ty25 (row := [iC .i64 0, .p true (Sl.t r56 (⟨false, 0, []⟩ : Sl (Int × Int)))]) rfl rfl) (fun k76 => ?_)
    refine ol_wr rfl rfl (q_store (es' := [[iC .i64 n73, .p true (Sl.t r56 s74)]]) 0 rfl rfl rfl sz25 rfl rfl rfl rfl rfl) rfl ?_
    refine ol_put rfl rfl rfl (q_assign (v := .one (iC .i64 n75)) rfl) ?_
    refine ol_end ?_
    refine E_seq ?_
    refine L_seq ?_
    refine L_ops ?_
    obtain ⟨b78, h77, h⟩ := bindS h
    refine ol_put rfl rfl rfl (q_callF (v := .one (bC b78)) (args := []) (FL_r (m + 5) h77) rfl rfl vw_nil rfl rfl) ?_
    refine ol_put rfl rfl rfl (q_move (v := .one (bC b78)) rfl) ?_
    rcases b78 with _ | _
    · replace h := ifF (by decide) h
      refine ol_skip rfl rfl rfl ?_
      refine ol_skip rfl rfl rfl ?_
      refine ol_skip rfl rfl rfl ?_
      refine ol_put rfl rfl rfl (q_pickF (v := .one (bC false)) rfl rfl) ?_
      refine ol_put rfl rfl rfl (q_move (v := .one (bC false)) rfl) ?_
      refine ol_skip rfl rfl rfl ?_
      refine ol_skip rfl rfl rfl ?_
      refine ol_skip rfl rfl rfl ?_
      refine ol_put rfl rfl rfl (q_pickF (v := .one (bC false)) rfl rfl) ?_
      refine ol_put rfl rfl rfl (q_move (v := .one (bC false)) rfl) ?_
      refine ol_skip rfl rfl rfl ?_
      refine ol_skip rfl rfl rfl ?_
      refine ol_skip rfl rfl rfl ?_
      refine ol_put rfl rfl rfl (q_pickF (v := .one (bC false)) rfl rfl) ?_
      refine ol_put rfl rfl rfl (q_move (v := .one (bC false)) rfl) ?_
      refine ol_skip rfl rfl rfl ?_
      refine ol_skip rfl rfl rfl ?_
      refine ol_skip rfl rfl rfl ?_
      refine ol_put rfl rfl rfl (q_pickF (v := .one (bC false)) rfl rfl) ?_
      refine ol_put rfl rfl rfl (q_assign (v := .one (bC false)) rfl) ?_
      refine ol_end ?_
      refine E_seq ?_
      refine L_ret ?_
      obtain rfl := Option.some.inj h
      exact E_endF (.inr rfl) (res_tmp rfl res_nil) (vw_cons (vd_one vc_v) vw_nil) (fun h hb => own_p) rfl rfl
    · replace h := ifT (by decide) h
      refine ol_put rfl rfl rfl (q_loadP (v := .agg [iC .i64 n58, .p true (Sl.t r56 s59)]) 3 rfl sz25 rfl rfl rfl rfl) ?_
      refine ol_put rfl rfl rfl (q_loadP (v := .agg [iC .i64 n63, .p true (Sl.t r56 s64)]) 2 rfl sz25 rfl rfl rfl rfl) ?_
      obtain ⟨b80, h79, h⟩ := bindS h
      refine ol_put rfl rfl rfl (q_callF (v := .one (bC b80)) (args := [.agg [iC .i64 n58, .p true (Sl.t r56 s59)], .agg [iC .i64 n63, .p true (Sl.t r56 s64)]]) (ref09_Same_r (m + 4) h79) rfl rfl (vw_cons (vd_agg (vc_cons vc_v (vc_cons vc_s vc_nil))) (vw_cons (vd_agg (vc_cons vc_v (vc_cons vc_s vc_nil))) vw_nil)) rfl rfl) ?_
      refine ol_put rfl rfl rfl (q_pickT (v := .one (bC b80)) rfl rfl) ?_
      refine ol_put rfl rfl rfl (q_move (v := .one (bC b80)) rfl) ?_
      rcases b80 with _ | _
      · replace h := ifF (by decide) h
        refine ol_skip rfl rfl rfl ?_
        refine ol_skip rfl rfl rfl ?_
        refine ol_skip rfl rfl rfl ?_
        refine ol_put rfl rfl rfl (q_pickF (v := .one (bC false)) rfl rfl) ?_
        refine ol_put rfl rfl rfl (q_move (v := .one (bC false)) rfl) ?_
        refine ol_skip rfl rfl rfl ?_
        refine ol_skip rfl rfl rfl ?_
        refine ol_skip rfl rfl rfl ?_
        refine ol_put rfl rfl rfl (q_pickF (v := .one (bC false)) rfl rfl) ?_
        refine ol_put rfl rfl rfl (q_move (v := .one (bC false)) rfl) ?_
        refine ol_skip rfl rfl rfl ?_
        refine ol_skip rfl rfl rfl ?_
        refine ol_skip rfl rfl rfl ?_
        refine ol_put rfl rfl rfl (q_pickF (v := .one (bC false)) rfl rfl) ?_
        refine ol_put rfl rfl rfl (q_assign (v := .one (bC false)) rfl) ?_
        refine ol_end ?_
        refine E_seq ?_
        refine L_ret ?_
        obtain rfl := Option.some.inj h
        exact E_endF (.inr rfl) (res_tmp rfl res_nil) (vw_cons (vd_one vc_v) vw_nil) (fun h hb => own_p) rfl rfl
      · replace h := ifT (by decide) h
        refine ol_put rfl rfl rfl (q_move (v := .one (iC .i64 n60)) rfl) ?_
        refine ol_put rfl rfl rfl (q_move (v := .one (iC .i64 n65)) rfl) ?_
        by_cases c81 : n60 = n65
        · replace h := ifT c81 h
          refine ol_put rfl rfl rfl (q_bin rfl rfl (p_eql_t _ _ _ _ _ c81) rfl) ?_
          refine ol_put rfl rfl rfl (q_pickT (v := .one (bC true)) rfl rfl) ?_
          refine ol_put rfl rfl rfl (q_move (v := .one (bC true)) rfl) ?_
          refine ol_put rfl rfl rfl (q_loadP (v := .agg [iC .i64 n68, .p true (Sl.t r56 s69)]) 1 rfl sz25 rfl rfl rfl rfl) ?_
          refine ol_put rfl rfl rfl (q_loadP (v := .agg [iC .i64 n73, .p true (Sl.t r56 s74)]) 0 rfl sz25 rfl rfl rfl rfl) ?_
          obtain ⟨b83, h82, h⟩ := bindS h
          refine ol_put rfl rfl rfl (q_callF (v := .one (bC b83)) (args := [.agg [iC .i64 n68, .p true (Sl.t r56 s69)], .agg [iC .i64 n73, .p true (Sl.t r56 s74)]]) (ref09_Same_r (m + 4) h82) rfl rfl (vw_cons (vd_agg (vc_cons vc_v (vc_cons vc_s vc_nil))) (vw_cons (vd_agg (vc_cons vc_v (vc_cons vc_s vc_nil))) vw_nil)) rfl rfl) ?_
          refine ol_put rfl rfl rfl (q_pickT (v := .one (bC b83)) rfl rfl) ?_
          refine ol_put rfl rfl rfl (q_move (v := .one (bC b83)) rfl) ?_
          rcases b83 with _ | _
          · replace h := ifF (by decide) h
            refine ol_skip rfl rfl rfl ?_
            refine ol_skip rfl rfl rfl ?_
            refine ol_skip rfl rfl rfl ?_
            refine ol_put rfl rfl rfl (q_pickF (v := .one (bC false)) rfl rfl) ?_
            refine ol_put rfl rfl rfl (q_assign (v := .one (bC false)) rfl) ?_
            refine ol_end ?_
            refine E_seq ?_
            refine L_ret ?_
            obtain rfl := Option.some.inj h
            exact E_endF (.inr rfl) (res_tmp rfl res_nil) (vw_cons (vd_one vc_v) vw_nil) (fun h hb => own_p) rfl rfl
          · replace h := ifT (by decide) h
            refine ol_put rfl rfl rfl (q_move (v := .one (iC .i64 n70)) rfl) ?_
            refine ol_put rfl rfl rfl (q_move (v := .one (iC .i64 n75)) rfl) ?_
            by_cases c84 : n70 = n75
            · replace h := ifT c84 h
              refine ol_put rfl rfl rfl (q_bin rfl rfl (p_eql_t _ _ _ _ _ c84) rfl) ?_
              refine ol_put rfl rfl rfl (q_pickT (v := .one (bC true)) rfl rfl) ?_
              refine ol_put rfl rfl rfl (q_assign (v := .one (bC true)) rfl) ?_
              refine ol_end ?_
              refine E_seq ?_
              refine L_ret ?_
              obtain rfl := Option.some.inj h
              exact E_endF (.inr rfl) (res_tmp rfl res_nil) (vw_cons (vd_one vc_v) vw_nil) (fun h hb => own_p) rfl rfl
            · replace h := ifF c84 h
              refine ol_put rfl rfl rfl (q_bin rfl rfl (p_eql_f _ _ _ _ _ c84) rfl) ?_
              refine ol_put rfl rfl rfl (q_pickT (v := .one (bC false)) rfl rfl) ?_
              refine ol_put rfl rfl rfl (q_assign (v := .one (bC false)) rfl) ?_
              refine ol_end ?_
              refine E_seq ?_
              refine L_ret ?_
              obtain rfl := Option.some.inj h
              exact E_endF (.inr rfl) (res_tmp rfl res_nil) (vw_cons (vd_one vc_v) vw_nil) (fun h hb => own_p) rfl rfl
        · replace h := ifF c81 h
          refine ol_put rfl rfl rfl (q_bin rfl rfl (p_eql_f _ _ _ _ _ c81) rfl) ?_
          refine ol_put rfl rfl rfl (q_pickT (v := .one (bC false)) rfl rfl) ?_
          refine ol_put rfl rfl rfl (q_move (v := .one (bC false)) rfl) ?_
          refine ol_skip rfl rfl rfl ?_
          refine ol_skip rfl rfl rfl ?_
          refine ol_skip rfl rfl rfl ?_
          refine ol_put rfl rfl rfl (q_pickF (v := .one (bC false)) rfl rfl) ?_
          refine ol_put rfl rfl rfl (q_move (v := .one (bC false)) rfl) ?_
          refine ol_skip rfl rfl rfl ?_
          refine ol_skip rfl rfl rfl ?_
          refine ol_skip rfl rfl rfl ?_
          refine ol_put rfl rfl rfl (q_pickF (v := .one (bC false)) rfl rfl) ?_
          refine ol_put rfl rfl rfl (q_assign (v := .one (bC false)) rfl) ?_
          refine ol_end ?_
          refine E_seq ?_
          refine L_ret ?_
          obtain rfl := Option.some.inj h
          exact E_endF (.inr rfl) (res_tmp rfl res_nil) (vw_cons (vd_one vc_v) vw_nil) (fun h hb => own_p) rfl rfl
end Ev
end Go.Proofs.Ytlcfdmjkbaegpaa
