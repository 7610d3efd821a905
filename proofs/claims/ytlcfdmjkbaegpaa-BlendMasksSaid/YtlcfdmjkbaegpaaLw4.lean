/- Functions of the program as functions on data, and that they are. -/
import Derived.Test.YtlcfdmjkbaegpaaLf1
import Derived.Test.YtlcfdmjkbaegpaaLf13
import Derived.Test.YtlcfdmjkbaegpaaLf3
import Derived.Test.YtlcfdmjkbaegpaaLf6
import Derived.Test.YtlcfdmjkbaegpaaLf7
import Derived.Test.YtlcfdmjkbaegpaaLf8
import Derived.Test.YtlcfdmjkbaegpaaLy1
namespace Go.Proofs.Ytlcfdmjkbaegpaa
namespace Ev
open Go
set_option linter.unusedVariables false
set_option linter.unusedSimpArgs false
set_option maxRecDepth 100000
set_option maxHeartbeats 1000000
attribute [local irreducible] OpsL StL TnL WpL EndL
noncomputable def law11_BlendMasks (a0 : Int × (Sl (Int × Int))) (a1 : Int × (Sl (Int × Int))) (s5 : Sl (Int)) : Option (Bool) :=
  match a0, a1 with
  | (n1, s2), (n3, s4) => (if ((s5.l.length : Nat) : Int) > 8 then ((FL).bind fun b10 => some b10) else ((law09_Few (n1, s2)).bind fun (n21, s22) => ((law09_Few (n3, s4)).bind fun (n25, s26) => ((blend_Over (n21, s22) (n25, s26)).bind fun ((n29, s30), n31) => ((ref11_Over (n21, s22) (n25, s26)).bind fun ((n34, s35), n36) => ((blend_Better (n21, s22) (n25, s26)).bind fun ((n40, s41), n42) => ((ref11_Better (n21, s22) (n25, s26)).bind fun ((n45, s46), n47) => ((FL).bind fun b50 => (if b50 = true then ((blend_Mask (n21, s22) s5 false).bind fun (n52, s53) => ((ref11_Mask (n21, s22) s5 false).bind fun (n55, s56) => ((ref09_Same (n52, s53) (n55, s56)).bind fun b58 => (if b58 = true then ((blend_Mask (n21, s22) s5 true).bind fun (n60, s61) => ((ref11_Mask (n21, s22) s5 true).bind fun (n63, s64) => ((ref09_Same (n60, s61) (n63, s64)).bind fun b66 => (if b66 = true then ((ref09_Same (n29, s30) (n34, s35)).bind fun b68 => (if b68 = true then (if n31 = n36 then ((ref09_Same (n40, s41) (n45, s46)).bind fun b71 => (if b71 = true then (if n42 = n47 then some true else some false) else some false)) else some false) else some false)) else some false)))) else some false)))) else some false)))))))))
theorem law11_BlendMasks_r (m : Nat) {a0 : Int × (Sl (Int × Int))} {a1 : Int × (Sl (Int × Int))} {s5 : Sl (Int)} {out : Bool} (h : law11_BlendMasks a0 a1 s5 = some out) : RunsP E1 (m + 6) 4 [.agg (r24 a0), .agg (r24 a1), .one (Sl.t r61 s5)] (.fresh, [.one (bT out)]) := by
  obtain ⟨n1, s2⟩ := a0
  obtain ⟨n3, s4⟩ := a1
  refine fn_F rfl (by rw [E1_fn]; exact show fiOf Try.prog 4 = _ by unfold fiOf; rw [Try.func4]; unfold Try.f4; rfl) rfl ?_
  dsimp only
  unfold law11_BlendMasks at h
  refine L_seq ?_
  refine L_ops ?_
  refine ol_new rfl rfl rfl (q_box ty25 rfl (cs := [iC .i64 n1, .p false (Sl.t r56 s2)]) rfl rfl) (fun k6 => ?_)
  refine ol_new rfl rfl rfl (q_box ty25 rfl (cs := [iC .i64 n3, .p false (Sl.t r56 s4)]) rfl rfl) (fun k7 => ?_)
  refine ol_put rfl rfl rfl (q_assign (v := .one (bC false)) rfl) ?_
  refine ol_end ?_
  refine E_seq ?_
  refine L_seq ?_
  refine L_seq ?_
  refine L_ops ?_
  refine ol_put rfl rfl rfl (q_move (v := .one (.p false (Sl.t r61 s5))) rfl) ?_
  refine ol_put rfl rfl rfl (q_lenS rfl ty33 rfl rfl rfl rfl) ?_
  by_cases c8 : ((s5.l.length : Nat) : Int) > 8
  · replace h := ifT c8 h
    refine ol_put rfl rfl rfl (q_bin rfl rfl (p_gtr_t _ _ _ _ _ c8) rfl) ?_
    refine ol_end ?_
    refine E_seq ?_
    refine L_condT rfl ?_
    refine L_seq ?_
    refine L_ops ?_
    obtain ⟨b10, h9, h⟩ := bindS h
    refine ol_put rfl rfl rfl (q_callF (v := .one (bC b10)) (args := []) (FL_r (m + 4) h9) rfl rfl vw_nil rfl rfl) ?_
    refine ol_put rfl rfl rfl (q_assign (v := .one (bC b10)) rfl) ?_
    refine ol_end ?_
    refine E_seq ?_
    refine L_ret ?_
    refine E_seqR ?_
    obtain rfl := Option.some.inj h
    exact E_endF (.inr rfl) (res_tmp rfl res_nil) (vw_cons (vd_one vc_v) vw_nil) (fun h hb => own_p) rfl rfl
  · replace h := ifF c8 h
    refine ol_put rfl rfl rfl (q_bin rfl rfl (p_gtr_f _ _ _ _ _ c8) rfl) ?_
    refine ol_end ?_
    refine E_seq ?_
    refine L_condF rfl ?_
    refine L_skip ?_
    refine E_seq ?_
    refine L_seq ?_
    refine L_norm (L2 := ([[(k7, 2, [[iC .i64 n3, .p false (Sl.t r56 s4)]])], [(k6, 2, [[iC .i64 n1, .p false (Sl.t r56 s2)]])]] : BL)) [0, 1] (by decide) rfl ?_
    refine L_turn 6 rfl [[], [], [], [], [k6], [k7]] [(false, []), (false, []), (false, []), (false, []), (false, []), (false, [])] [[2], [2], [0, 1], [], [], []] (by kernel_rfl) (by kernel_rfl) (by kernel_rfl) ?_ (fun bb11 hlt hnd => ?_)
    · intro bb11 hlt hnd
      exact ⟨⟨djE, ⟨djE, ⟨djE, ⟨djE, ⟨djN, ⟨djN, trivial⟩⟩⟩⟩⟩⟩, (ltO_cons ltK_nil (ltO_cons ltK_nil (ltO_cons ltK_nil (ltO_cons ltK_nil (ltO_cons (ltK_cons (key_lt hlt 1 rfl) ltK_nil) (ltO_cons (ltK_cons (key_lt hlt 0 rfl) ltK_nil) ltO_nil))))))⟩
    refine tn_put rfl rfl rfl [1] (by decide) rfl (hm0 rfl) rfl (q_loadP (v := .agg [iC .i64 n1, .p false (Sl.t r56 s2)]) 0 rfl sz25 rfl rfl rfl rfl) ?_
    obtain ⟨⟨n21, s22⟩, h20, h⟩ := bindS h
    refine tn_putX rfl rfl rfl [] (by decide) rfl (hm0 rfl) rfl (q_callX (v := fun fr23 => .agg [iC .i64 n21, .p fr23 (Sl.t r56 s22)]) (args := [.agg [iC .i64 n1, .p false (Sl.t r56 s2)]]) (law09_Few_r (m + 4) h20) rfl rfl (vw_cons (vd_agg (vc_cons vc_v (vc_cons vc_s vc_nil))) vw_nil) rfl rfl (fun fr => rfl)) (fun fr23 => ?_)
    refine tn_put rfl rfl rfl [0] (by decide) rfl (hm0 rfl) rfl (q_loadP (v := .agg [iC .i64 n3, .p false (Sl.t r56 s4)]) 0 rfl sz25 rfl rfl rfl rfl) ?_
    obtain ⟨⟨n25, s26⟩, h24, h⟩ := bindS h
    refine tn_putX rfl rfl rfl [] (by decide) rfl (hm0 rfl) rfl (q_callX (v := fun fr27 => .agg [iC .i64 n25, .p fr27 (Sl.t r56 s26)]) (args := [.agg [iC .i64 n3, .p false (Sl.t r56 s4)]]) (law09_Few_r (m + 4) h24) rfl rfl (vw_cons (vd_agg (vc_cons vc_v (vc_cons vc_s vc_nil))) vw_nil) rfl rfl (fun fr => rfl)) (fun fr27 => ?_)
    refine tn_wr rfl rfl [1] (by decide) rfl (hm0 rfl) rfl (q_store (es' := [[iC .i64 n21, .p fr23 (Sl.t r56 s22)]]) 0 rfl rfl rfl sz25 rfl rfl rfl rfl rfl) (q := 1) rfl rfl ?_
    refine tn_wr rfl rfl [0] (by decide) rfl (hm0 rfl) rfl (q_store (es' := [[iC .i64 n25, .p fr27 (Sl.t r56 s26)]]) 0 rfl rfl rfl sz25 rfl rfl rfl rfl rfl) (q := 0) rfl rfl ?_
    refine tn_end ?_
    refine E_seq ?_
    refine L_seq ?_
    refine L_ops ?_
    refine ol_put rfl rfl rfl (q_loadP (v := .agg [iC .i64 n21, .p fr23 (Sl.t r56 s22)]) 1 rfl sz25 rfl rfl rfl rfl) ?_
    refine ol_put rfl rfl rfl (q_loadP (v := .agg [iC .i64 n25, .p fr27 (Sl.t r56 s26)]) 0 rfl sz25 rfl rfl rfl rfl) ?_
    obtain ⟨⟨⟨n29, s30⟩, n31⟩, h28, h⟩ := bindS h
    refine ol_put rfl rfl rfl (q_callF (v := .tup [.agg [iC .i64 n29, .p true (Sl.t r56 s30)], .one (iC .i64 n31)]) (args := [.agg [iC .i64 n21, .p fr23 (Sl.t r56 s22)], .agg [iC .i64 n25, .p fr27 (Sl.t r56 s26)]]) (blend_Over_r (m + 0) h28) rfl rfl (vw_cons (vd_agg (vc_cons vc_v (vc_cons vc_s vc_nil))) (vw_cons (vd_agg (vc_cons vc_v (vc_cons vc_s vc_nil))) vw_nil)) rfl rfl) ?_
    refine ol_put rfl rfl rfl (q_move (v := .tup [.agg [iC .i64 n29, .p true (Sl.t r56 s30)], .one (iC .i64 n31)]) rfl) ?_
    refine ol_put rfl rfl rfl (q_ext (v := .agg [iC .i64 n29, .p true (Sl.t r56 s30)]) rfl rfl) ?_
    refine ol_put rfl rfl rfl (q_ext (v := .one (iC .i64 n31)) rfl rfl) ?_
    refine ol_new rfl rfl rfl (q_alloc ty25 (row := [iC .i64 0, .p true (Sl.t r56 (⟨false, 0, []⟩ : Sl (Int × Int)))]) rfl rfl) (fun k32 => ?_)
    refine ol_wr rfl rfl (q_store (es' := [[iC .i64 n29, .p true (Sl.t r56 s30)]]) 0 rfl rfl rfl sz25 rfl rfl rfl rfl rfl) rfl ?_
    refine ol_put rfl rfl rfl (q_assign (v := .one (iC .i64 n31)) rfl) ?_
    refine ol_end ?_
    refine E_seq ?_
    refine L_seq ?_
    refine L_ops ?_
    refine ol_put rfl rfl rfl (q_loadP (v := .agg [iC .i64 n21, .p fr23 (Sl.t r56 s22)]) 2 rfl sz25 rfl rfl rfl rfl) ?_
    refine ol_put rfl rfl rfl (q_loadP (v := .agg [iC .i64 n25, .p fr27 (Sl.t r56 s26)]) 1 rfl sz25 rfl rfl rfl rfl) ?_
    obtain ⟨⟨⟨n34, s35⟩, n36⟩, h33, h⟩ := bindS h
    refine ol_putX rfl rfl rfl (q_callX (v := fun fr37 => .tup [.agg [iC .i64 n34, .p fr37 (Sl.t r56 s35)], .one (iC .i64 n36)]) (args := [.agg [iC .i64 n21, .p fr23 (Sl.t r56 s22)], .agg [iC .i64 n25, .p fr27 (Sl.t r56 s26)]]) (ref11_Over_r (m + 1) h33) rfl rfl (vw_cons (vd_agg (vc_cons vc_v (vc_cons vc_s vc_nil))) (vw_cons (vd_agg (vc_cons vc_v (vc_cons vc_s vc_nil))) vw_nil)) rfl rfl (fun fr => rfl)) (fun fr37 => ?_)
    refine ol_put rfl rfl rfl (q_move (v := .tup [.agg [iC .i64 n34, .p fr37 (Sl.t r56 s35)], .one (iC .i64 n36)]) rfl) ?_
    refine ol_put rfl rfl rfl (q_ext (v := .agg [iC .i64 n34, .p fr37 (Sl.t r56 s35)]) rfl rfl) ?_
    refine ol_put rfl rfl rfl (q_ext (v := .one (iC .i64 n36)) rfl rfl) ?_
    refine ol_new rfl rfl rfl (q_alloc ty25 (row := [iC .i64 0, .p true (Sl.t r56 (⟨false, 0, []⟩ : Sl (Int × Int)))]) rfl rfl) (fun k38 => ?_)
    refine ol_wr rfl rfl (q_store (es' := [[iC .i64 n34, .p fr37 (Sl.t r56 s35)]]) 0 rfl rfl rfl sz25 rfl rfl rfl rfl rfl) rfl ?_
    refine ol_put rfl rfl rfl (q_assign (v := .one (iC .i64 n36)) rfl) ?_
    refine ol_end ?_
    refine E_seq ?_
    refine L_seq ?_
    refine L_ops ?_
    refine ol_put rfl rfl rfl (q_loadP (v := .agg [iC .i64 n21, .p fr23 (Sl.t r56 s22)]) 3 rfl sz25 rfl rfl rfl rfl) ?_
    refine ol_put rfl rfl rfl (q_loadP (v := .agg [iC .i64 n25, .p fr27 (Sl.t r56 s26)]) 2 rfl sz25 rfl rfl rfl rfl) ?_
    obtain ⟨⟨⟨n40, s41⟩, n42⟩, h39, h⟩ := bindS h
    refine ol_put rfl rfl rfl (q_callF (v := .tup [.agg [iC .i64 n40, .p true (Sl.t r56 s41)], .one (iC .i64 n42)]) (args := [.agg [iC .i64 n21, .p fr23 (Sl.t r56 s22)], .agg [iC .i64 n25, .p fr27 (Sl.t r56 s26)]]) (blend_Better_r (m + 0) h39) rfl rfl (vw_cons (vd_agg (vc_cons vc_v (vc_cons vc_s vc_nil))) (vw_cons (vd_agg (vc_cons vc_v (vc_cons vc_s vc_nil))) vw_nil)) rfl rfl) ?_
    refine ol_put rfl rfl rfl (q_move (v := .tup [.agg [iC .i64 n40, .p true (Sl.t r56 s41)], .one (iC .i64 n42)]) rfl) ?_
    refine ol_put rfl rfl rfl (q_ext (v := .agg [iC .i64 n40, .p true (Sl.t r56 s41)]) rfl rfl) ?_
    refine ol_put rfl rfl rfl (q_ext (v := .one (iC .i64 n42)) rfl rfl) ?_
    refine ol_new rfl rfl rfl (q_alloc ty25 (row := [iC .i64 0, .p true (Sl.t r56 (⟨false, 0, []⟩ : Sl (Int × Int)))]) rfl rfl) (fun k43 => ?_)
    refine ol_wr rfl rfl (q_store (es' := [[iC .i64 n40, .p true (Sl.t r56 s41)]]) 0 rfl rfl rfl sz25 rfl rfl rfl rfl rfl) rfl ?_
    refine ol_put rfl rfl rfl (q_assign (v := .one (iC .i64 n42)) rfl) ?_
    refine ol_end ?_
    refine E_seq ?_
    refine L_seq ?_
    refine L_ops ?_
    refine ol_put rfl rfl rfl (q_loadP (v := .agg [iC .i64 n21, .p fr23 (Sl.t r56 s22)]) 4 rfl sz25 rfl rfl rfl rfl) ?_
    refine ol_put rfl rfl rfl (q_loadP (v := .agg [iC .i64 n25, .p fr27 (Sl.t r56 s26)]) 3 rfl sz25 rfl rfl rfl rfl) ?_
    obtain ⟨⟨⟨n45, s46⟩, n47⟩, h44, h⟩ := bindS h
    refine ol_put rfl rfl rfl (q_callF (v := .tup [.agg [iC .i64 n45, .p true (Sl.t r56 s46)], .one (iC .i64 n47)]) (args := [.agg [iC .i64 n21, .p fr23 (Sl.t r56 s22)], .agg [iC .i64 n25, .p fr27 (Sl.t r56 s26)]]) (ref11_Better_r (m + 2) h44) rfl rfl (vw_cons (vd_agg (vc_cons vc_v (vc_cons vc_s vc_nil))) (vw_cons (vd_agg (vc_cons vc_v (vc_cons vc_s vc_nil))) vw_nil)) rfl rfl) ?_
    refine ol_put rfl rfl rfl (q_move (v := .tup [.agg [iC .i64 n45, .p true (Sl.t r56 s46)], .one (iC .i64 n47)]) rfl) ?_
    refine ol_put rfl rfl rfl (q_ext (v := .agg [iC .i64 n45, .p true (Sl.t r56 s46)]) rfl rfl) ?_
    refine ol_put rfl rfl rfl (q_ext (v := .one (iC .i64 n47)) rfl rfl) ?_
    refine ol_new rfl rfl rfl (q_alloc ty25 (row := [iC .i64 0, .p true (Sl.t r56 (⟨false, 0, []⟩ : Sl (Int × Int)))]) rfl rfl) (fun k48 => ?_)
    refine ol_wr rfl rfl (q_store (es' := [[iC .i64 n45, .p true (Sl.t r56 s46)]]) 0 rfl rfl rfl sz25 rfl rfl rfl rfl rfl) rfl ?_
    refine ol_put rfl rfl rfl (q_assign (v := .one (iC .i64 n47)) rfl) ?_
    refine ol_end ?_
    refine E_seq ?_
    refine L_seq ?_
    refine L_still (by kernel_rfl) ?_
    obtain ⟨b50, h49, h⟩ := bindS h
    refine st_put rfl rfl rfl (q_callF (v := .one (bC b50)) (args := []) (FL_r (m + 4) h49) rfl rfl vw_nil rfl rfl) ?_
    refine st_put rfl rfl rfl (q_move (v := .one (bC b50)) rfl) ?_
    rcases b50 with _ | _
    · replace h := ifF (by decide) h
      refine st_skip rfl rfl rfl ?_
      refine st_skip rfl rfl rfl ?_
      refine st_skip rfl rfl rfl ?_
      refine st_skip rfl rfl rfl ?_
      refine st_skip rfl rfl rfl ?_
      refine st_skip rfl rfl rfl ?_
      refine st_skip rfl rfl rfl ?_
      refine st_put rfl rfl rfl (q_pickF (v := .one (bC false)) rfl rfl) ?_
      refine st_put rfl rfl rfl (q_move (v := .one (bC false)) rfl) ?_
      refine st_skip rfl rfl rfl ?_
      refine st_skip rfl rfl rfl ?_
      refine st_skip rfl rfl rfl ?_
      refine st_skip rfl rfl rfl ?_
      refine st_skip rfl rfl rfl ?_
      refine st_skip rfl rfl rfl ?_
      refine st_skip rfl rfl rfl ?_
      refine st_put rfl rfl rfl (q_pickF (v := .one (bC false)) rfl rfl) ?_
      refine st_put rfl rfl rfl (q_move (v := .one (bC false)) rfl) ?_
      refine st_skip rfl rfl rfl ?_
      refine st_skip rfl rfl rfl ?_
      refine st_skip rfl rfl rfl ?_
      refine st_put rfl rfl rfl (q_pickF (v := .one (bC false)) rfl rfl) ?_
      refine st_put rfl rfl rfl (q_move (v := .one (bC false)) rfl) ?_
      refine st_skip rfl rfl rfl ?_
      refine st_skip rfl rfl rfl ?_
      refine st_skip rfl rfl rfl ?_
      refine st_put rfl rfl rfl (q_pickF (v := .one (bC false)) rfl rfl) ?_
      refine st_put rfl rfl rfl (q_move (v := .one (bC false)) rfl) ?_
      refine st_skip rfl rfl rfl ?_
      refine st_skip rfl rfl rfl ?_
      refine st_skip rfl rfl rfl ?_
      refine st_put rfl rfl rfl (q_pickF (v := .one (bC false)) rfl rfl) ?_
      refine st_put rfl rfl rfl (q_move (v := .one (bC false)) rfl) ?_
      refine st_skip rfl rfl rfl ?_
      refine st_skip rfl rfl rfl ?_
      refine st_skip rfl rfl rfl ?_
      refine st_put rfl rfl rfl (q_pickF (v := .one (bC false)) rfl rfl) ?_
      refine st_put rfl rfl rfl (q_assign (v := .one (bC false)) rfl) ?_
      refine st_end ?_
      refine E_seq ?_
      refine L_ret ?_
      obtain rfl := Option.some.inj h
      exact E_endF (.inr rfl) (res_tmp rfl res_nil) (vw_cons (vd_one vc_v) vw_nil) (fun h hb => own_p) rfl rfl
    · replace h := ifT (by decide) h
      refine st_put rfl rfl rfl (q_loadP (v := .agg [iC .i64 n21, .p fr23 (Sl.t r56 s22)]) 5 rfl sz25 rfl rfl rfl rfl) ?_
      refine st_put rfl rfl rfl (q_move (v := .one (.p false (Sl.t r61 s5))) rfl) ?_
      obtain ⟨⟨n52, s53⟩, h51, h⟩ := bindS h
      refine st_put rfl rfl rfl (q_callF (v := .agg [iC .i64 n52, .p true (Sl.t r56 s53)]) (args := [.agg [iC .i64 n21, .p fr23 (Sl.t r56 s22)], .one (.p false (Sl.t r61 s5)), .one (bC false)]) (blend_Mask_r (m + 1) h51) rfl rfl (vw_cons (vd_agg (vc_cons vc_v (vc_cons vc_s vc_nil))) (vw_cons (vd_one vc_s) (vw_cons (vd_one vc_v) vw_nil))) rfl rfl) ?_
      refine st_put rfl rfl rfl (q_loadP (v := .agg [iC .i64 n21, .p fr23 (Sl.t r56 s22)]) 5 rfl sz25 rfl rfl rfl rfl) ?_
      refine st_put rfl rfl rfl (q_move (v := .one (.p false (Sl.t r61 s5))) rfl) ?_
      obtain ⟨⟨n55, s56⟩, h54, h⟩ := bindS h
      refine st_put rfl rfl rfl (q_callF (v := .agg [iC .i64 n55, .p true (Sl.t r56 s56)]) (args := [.agg [iC .i64 n21, .p fr23 (Sl.t r56 s22)], .one (.p false (Sl.t r61 s5)), .one (bC false)]) (ref11_Mask_r (m + 2) h54) rfl rfl (vw_cons (vd_agg (vc_cons vc_v (vc_cons vc_s vc_nil))) (vw_cons (vd_one vc_s) (vw_cons (vd_one vc_v) vw_nil))) rfl rfl) ?_
      obtain ⟨b58, h57, h⟩ := bindS h
      refine st_put rfl rfl rfl (q_callF (v := .one (bC b58)) (args := [.agg [iC .i64 n52, .p true (Sl.t r56 s53)], .agg [iC .i64 n55, .p true (Sl.t r56 s56)]]) (ref09_Same_r (m + 3) h57) rfl rfl (vw_cons (vd_agg (vc_cons vc_v (vc_cons vc_s vc_nil))) (vw_cons (vd_agg (vc_cons vc_v (vc_cons vc_s vc_nil))) vw_nil)) rfl rfl) ?_
      refine st_put rfl rfl rfl (q_pickT (v := .one (bC b58)) rfl rfl) ?_
      refine st_put rfl rfl rfl (q_move (v := .one (bC b58)) rfl) ?_
      rcases b58 with _ | _
      · replace h := ifF (by decide) h
        refine st_skip rfl rfl rfl ?_
        refine st_skip rfl rfl rfl ?_
        refine st_skip rfl rfl rfl ?_
        refine st_skip rfl rfl rfl ?_
        refine st_skip rfl rfl rfl ?_
        refine st_skip rfl rfl rfl ?_
        refine st_skip rfl rfl rfl ?_
        refine st_put rfl rfl rfl (q_pickF (v := .one (bC false)) rfl rfl) ?_
        refine st_put rfl rfl rfl (q_move (v := .one (bC false)) rfl) ?_
        refine st_skip rfl rfl rfl ?_
        refine st_skip rfl rfl rfl ?_
        refine st_skip rfl rfl rfl ?_
        refine st_put rfl rfl rfl (q_pickF (v := .one (bC false)) rfl rfl) ?_
        refine st_put rfl rfl rfl (q_move (v := .one (bC false)) rfl) ?_
        refine st_skip rfl rfl rfl ?_
        refine st_skip rfl rfl rfl ?_
        refine st_skip rfl rfl rfl ?_
        refine st_put rfl rfl rfl (q_pickF (v := .one (bC false)) rfl rfl) ?_
        refine st_put rfl rfl rfl (q_move (v := .one (bC false)) rfl) ?_
        refine st_skip rfl rfl rfl ?_
        refine st_skip rfl rfl rfl ?_
        refine st_skip rfl rfl rfl ?_
        refine st_put rfl rfl rfl (q_pickF (v := .one (bC false)) rfl rfl) ?_
        refine st_put rfl rfl rfl (q_move (v := .one (bC false)) rfl) ?_
        refine st_skip rfl rfl rfl ?_
        refine st_skip rfl rfl rfl ?_
        refine st_skip rfl rfl rfl ?_
        refine st_put rfl rfl rfl (q_pickF (v := .one (bC false)) rfl rfl) ?_
        refine st_put rfl rfl rfl (q_assign (v := .one (bC false)) rfl) ?_
        refine st_end ?_
        refine E_seq ?_
        refine L_ret ?_
        obtain rfl := Option.some.inj h
        exact E_endF (.inr rfl) (res_tmp rfl res_nil) (vw_cons (vd_one vc_v) vw_nil) (fun h hb => own_p) rfl rfl
      · replace h := ifT (by decide) h
        refine st_put rfl rfl rfl (q_loadP (v := .agg [iC .i64 n21, .p fr23 (Sl.t r56 s22)]) 5 rfl sz25 rfl rfl rfl rfl) ?_
        refine st_put rfl rfl rfl (q_move (v := .one (.p false (Sl.t r61 s5))) rfl) ?_
        obtain ⟨⟨n60, s61⟩, h59, h⟩ := bindS h
        refine st_put rfl rfl rfl (q_callF (v := .agg [iC .i64 n60, .p true (Sl.t r56 s61)]) (args := [.agg [iC .i64 n21, .p fr23 (Sl.t r56 s22)], .one (.p false (Sl.t r61 s5)), .one (bC true)]) (blend_Mask_r (m + 1) h59) rfl rfl (vw_cons (vd_agg (vc_cons vc_v (vc_cons vc_s vc_nil))) (vw_cons (vd_one vc_s) (vw_cons (vd_one vc_v) vw_nil))) rfl rfl) ?_
        refine st_put rfl rfl rfl (q_loadP (v := .agg [iC .i64 n21, .p fr23 (Sl.t r56 s22)]) 5 rfl sz25 rfl rfl rfl rfl) ?_
        refine st_put rfl rfl rfl (q_move (v := .one (.p false (Sl.t r61 s5))) rfl) ?_
        obtain ⟨⟨n63, s64⟩, h62, h⟩ := bindS h
        refine st_put rfl rfl rfl (q_callF (v := .agg [iC .i64 n63, .p true (Sl.t r56 s64)]) (args := [.agg [iC .i64 n21, .p fr23 (Sl.t r56 s22)], .one (.p false (Sl.t r61 s5)), .one (bC true)]) (ref11_Mask_r (m + 2) h62) rfl rfl (vw_cons (vd_agg (vc_cons vc_v (vc_cons vc_s vc_nil))) (vw_cons (vd_one vc_s) (vw_cons (vd_one vc_v) vw_nil))) rfl rfl) ?_
        obtain ⟨b66, h65, h⟩ := bindS h
        refine st_put rfl rfl rfl (q_callF (v := .one (bC b66)) (args := [.agg [iC .i64 n60, .p true (Sl.t r56 s61)], .agg [iC .i64 n63, .p true (Sl.t r56 s64)]]) (ref09_Same_r (m + 3) h65) rfl rfl (vw_cons (vd_agg (vc_cons vc_v (vc_cons vc_s vc_nil))) (vw_cons (vd_agg (vc_cons vc_v (vc_cons vc_s vc_nil))) vw_nil)) rfl rfl) ?_
        refine st_put rfl rfl rfl (q_pickT (v := .one (bC b66)) rfl rfl) ?_
        refine st_put rfl rfl rfl (q_move (v := .one (bC b66)) rfl) ?_
        rcases b66 with _ | _
        · replace h := ifF (by decide) h
          refine st_skip rfl rfl rfl ?_
          refine st_skip rfl rfl rfl ?_
          refine st_skip rfl rfl rfl ?_
          refine st_put rfl rfl rfl (q_pickF (v := .one (bC false)) rfl rfl) ?_
          refine st_put rfl rfl rfl (q_move (v := .one (bC false)) rfl) ?_
          refine st_skip rfl rfl rfl ?_
          refine st_skip rfl rfl rfl ?_
          refine st_skip rfl rfl rfl ?_
          refine st_put rfl rfl rfl (q_pickF (v := .one (bC false)) rfl rfl) ?_
          refine st_put rfl rfl rfl (q_move (v := .one (bC false)) rfl) ?_
          refine st_skip rfl rfl rfl ?_
          refine st_skip rfl rfl rfl ?_
          refine st_skip rfl rfl rfl ?_
          refine st_put rfl rfl rfl (q_pickF (v := .one (bC false)) rfl rfl) ?_
          refine st_put rfl rfl rfl (q_move (v := .one (bC false)) rfl) ?_
          refine st_skip rfl rfl rfl ?_
          refine st_skip rfl rfl rfl ?_
          refine st_skip rfl rfl rfl ?_
          refine st_put rfl rfl rfl (q_pickF (v := .one (bC false)) rfl rfl) ?_
          refine st_put rfl rfl rfl (q_assign (v := .one (bC false)) rfl) ?_
          refine st_end ?_
          refine E_seq ?_
          refine L_ret ?_
          obtain rfl := Option.some.inj h
          exact E_endF (.inr rfl) (res_tmp rfl res_nil) (vw_cons (vd_one vc_v) vw_nil) (fun h hb => own_p) rfl rfl
        · replace h := ifT (by decide) h
          refine st_put rfl rfl rfl (q_loadP (v := .agg [iC .i64 n29, .p true (Sl.t r56 s30)]) 3 rfl sz25 rfl rfl rfl rfl) ?_
          refine st_put rfl rfl rfl (q_loadP (v := .agg [iC .i64 n34, .p fr37 (Sl.t r56 s35)]) 2 rfl sz25 rfl rfl rfl rfl) ?_
          obtain ⟨b68, h67, h⟩ := bindS h
          refine st_put rfl rfl rfl (q_callF (v := .one (bC b68)) (args := [.agg [iC .i64 n29, .p true (Sl.t r56 s30)], .agg [iC .i64 n34, .p fr37 (Sl.t r56 s35)]]) (ref09_Same_r (m + 3) h67) rfl rfl (vw_cons (vd_agg (vc_cons vc_v (vc_cons vc_s vc_nil))) (vw_cons (vd_agg (vc_cons vc_v (vc_cons vc_s vc_nil))) vw_nil)) rfl rfl) ?_
          refine st_put rfl rfl rfl (q_pickT (v := .one (bC b68)) rfl rfl) ?_
          refine st_put rfl rfl rfl (q_move (v := .one (bC b68)) rfl) ?_
          rcases b68 with _ | _
          · replace h := ifF (by decide) h
            refine st_skip rfl rfl rfl ?_
            refine st_skip rfl rfl rfl ?_
            refine st_skip rfl rfl rfl ?_
            refine st_put rfl rfl rfl (q_pickF (v := .one (bC false)) rfl rfl) ?_
            refine st_put rfl rfl rfl (q_move (v := .one (bC false)) rfl) ?_
            refine st_skip rfl rfl rfl ?_
            refine st_skip rfl rfl rfl ?_
            refine st_skip rfl rfl rfl ?_
            refine st_put rfl rfl rfl (q_pickF (v := .one (bC false)) rfl rfl) ?_
            refine st_put rfl rfl rfl (q_move (v := .one (bC false)) rfl) ?_
            refine st_skip rfl rfl rfl ?_
            refine st_skip rfl rfl rfl ?_
            refine st_skip rfl rfl rfl ?_
            refine st_put rfl rfl rfl (q_pickF (v := .one (bC false)) rfl rfl) ?_
            refine st_put rfl rfl rfl (q_assign (v := .one (bC false)) rfl) ?_
            refine st_end ?_
            refine E_seq ?_
            refine L_ret ?_
            obtain rfl := Option.some.inj h
            exact E_endF (.inr rfl) (res_tmp rfl res_nil) (vw_cons (vd_one vc_v) vw_nil) (fun h hb => own_p) rfl rfl
          · replace h := ifT (by decide) h
            refine st_put rfl rfl rfl (q_move (v := .one (iC .i64 n31)) rfl) ?_
            refine st_put rfl rfl rfl (q_move (v := .one (iC .i64 n36)) rfl) ?_
            by_cases c69 : n31 = n36
            · replace h := ifT c69 h
              refine st_put rfl rfl rfl (q_bin rfl rfl (p_eql_t _ _ _ _ _ c69) rfl) ?_
              refine st_put rfl rfl rfl (q_pickT (v := .one (bC true)) rfl rfl) ?_
              refine st_put rfl rfl rfl (q_move (v := .one (bC true)) rfl) ?_
              refine st_put rfl rfl rfl (q_loadP (v := .agg [iC .i64 n40, .p true (Sl.t r56 s41)]) 1 rfl sz25 rfl rfl rfl rfl) ?_
              refine st_put rfl rfl rfl (q_loadP (v := .agg [iC .i64 n45, .p true (Sl.t r56 s46)]) 0 rfl sz25 rfl rfl rfl rfl) ?_
              obtain ⟨b71, h70, h⟩ := bindS h
              refine st_put rfl rfl rfl (q_callF (v := .one (bC b71)) (args := [.agg [iC .i64 n40, .p true (Sl.t r56 s41)], .agg [iC .i64 n45, .p true (Sl.t r56 s46)]]) (ref09_Same_r (m + 3) h70) rfl rfl (vw_cons (vd_agg (vc_cons vc_v (vc_cons vc_s vc_nil))) (vw_cons (vd_agg (vc_cons vc_v (vc_cons vc_s vc_nil))) vw_nil)) rfl rfl) ?_
              refine st_put rfl rfl rfl (q_pickT (v := .one (bC b71)) rfl rfl) ?_
              refine st_put rfl rfl rfl (q_move (v := .one (bC b71)) rfl) ?_
              rcases b71 with _ | _
              · replace h := ifF (by decide) h
                refine st_skip rfl rfl rfl ?_
                refine st_skip rfl rfl rfl ?_
                refine st_skip rfl rfl rfl ?_
                refine st_put rfl rfl rfl (q_pickF (v := .one (bC false)) rfl rfl) ?_
                refine st_put rfl rfl rfl (q_assign (v := .one (bC false)) rfl) ?_
                refine st_end ?_
                refine E_seq ?_
                refine L_ret ?_
                obtain rfl := Option.some.inj h
                exact E_endF (.inr rfl) (res_tmp rfl res_nil) (vw_cons (vd_one vc_v) vw_nil) (fun h hb => own_p) rfl rfl
              · replace h := ifT (by decide) h
                refine st_put rfl rfl rfl (q_move (v := .one (iC .i64 n42)) rfl) ?_
                refine st_put rfl rfl rfl (q_move (v := .one (iC .i64 n47)) rfl) ?_
                by_cases c72 : n42 = n47
                · replace h := ifT c72 h
                  refine st_put rfl rfl rfl (q_bin rfl rfl (p_eql_t _ _ _ _ _ c72) rfl) ?_
                  refine st_put rfl rfl rfl (q_pickT (v := .one (bC true)) rfl rfl) ?_
                  refine st_put rfl rfl rfl (q_assign (v := .one (bC true)) rfl) ?_
                  refine st_end ?_
                  refine E_seq ?_
                  refine L_ret ?_
                  obtain rfl := Option.some.inj h
                  exact E_endF (.inr rfl) (res_tmp rfl res_nil) (vw_cons (vd_one vc_v) vw_nil) (fun h hb => own_p) rfl rfl
                · replace h := ifF c72 h
                  refine st_put rfl rfl rfl (q_bin rfl rfl (p_eql_f _ _ _ _ _ c72) rfl) ?_
                  refine st_put rfl rfl rfl (q_pickT (v := .one (bC false)) rfl rfl) ?_
                  refine st_put rfl rfl rfl (q_assign (v := .one (bC false)) rfl) ?_
                  refine st_end ?_
                  refine E_seq ?_
                  refine L_ret ?_
                  obtain rfl := Option.some.inj h
                  exact E_endF (.inr rfl) (res_tmp rfl res_nil) (vw_cons (vd_one vc_v) vw_nil) (fun h hb => own_p) rfl rfl
            · replace h := ifF c69 h
              refine st_put rfl rfl rfl (q_bin rfl rfl (p_eql_f _ _ _ _ _ c69) rfl) ?_
              refine st_put rfl rfl rfl (q_pickT (v := .one (bC false)) rfl rfl) ?_
              refine st_put rfl rfl rfl (q_move (v := .one (bC false)) rfl) ?_
              refine st_skip rfl rfl rfl ?_
              refine st_skip rfl rfl rfl ?_
              refine st_skip rfl rfl rfl ?_
              refine st_put rfl rfl rfl (q_pickF (v := .one (bC false)) rfl rfl) ?_
              refine st_put rfl rfl rfl (q_move (v := .one (bC false)) rfl) ?_
              refine st_skip rfl rfl rfl ?_
              refine st_skip rfl rfl rfl ?_
              refine st_skip rfl rfl rfl ?_
              refine st_put rfl rfl rfl (q_pickF (v := .one (bC false)) rfl rfl) ?_
              refine st_put rfl rfl rfl (q_assign (v := .one (bC false)) rfl) ?_
              refine st_end ?_
              refine E_seq ?_
              refine L_ret ?_
              obtain rfl := Option.some.inj h
              exact E_endF (.inr rfl) (res_tmp rfl res_nil) (vw_cons (vd_one vc_v) vw_nil) (fun h hb => own_p) rfl rfl
end Ev
end Go.Proofs.Ytlcfdmjkbaegpaa
