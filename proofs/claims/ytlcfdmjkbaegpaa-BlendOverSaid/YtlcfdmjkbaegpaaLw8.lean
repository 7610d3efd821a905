/- Functions of the program as functions on data, and that they are. -/
import Derived.Test.YtlcfdmjkbaegpaaLf1
import Derived.Test.YtlcfdmjkbaegpaaLf3
import Derived.Test.YtlcfdmjkbaegpaaLf9
import Derived.Test.YtlcfdmjkbaegpaaLy1
namespace Go.Proofs.Ytlcfdmjkbaegpaa
namespace Ev
open Go
set_option linter.unusedVariables false
set_option linter.unusedSimpArgs false
set_option maxRecDepth 100000
set_option maxHeartbeats 1000000
attribute [local irreducible] OpsL StL TnL WpL EndL
noncomputable def law11_BlendOver (n1 : Int) (a1 : (Sl (Int × Int)) × (Sl (Int × Int)) × (Sl (Int × Int))) : Option (Bool) :=
  match a1 with
  | (s2, s3, s4) => ((law11_Three n1 (s2, s3, s4)).bind fun ((n7, s8), (n9, s10), (n11, s12)) => ((blend_Over (n7, s8) (n7, s8)).bind fun ((n15, s16), n17) => ((blend_Over (n7, s8) (n9, s10)).bind fun ((n20, s21), n22) => ((blend_Over (n9, s10) (n11, s12)).bind fun ((n25, s26), n27) => ((blend_Over (n20, s21) (n11, s12)).bind fun ((n30, s31), n32) => ((blend_Over (n7, s8) (n25, s26)).bind fun ((n35, s36), n37) => ((FL).bind fun b40 => (if b40 = true then (if n17 = 0 then (if n22 = 0 then (if n27 = 0 then (if n32 = 0 then (if n37 = 0 then ((ref09_Same (n15, s16) (n7, s8)).bind fun b47 => (if b47 = true then ((ref09_Same (n30, s31) (n35, s36)).bind fun b49 => some b49) else some false)) else some false) else some false) else some false) else some false) else some false) else some false))))))))
theorem law11_BlendOver_r (m : Nat) {n1 : Int} {a1 : (Sl (Int × Int)) × (Sl (Int × Int)) × (Sl (Int × Int))} {out : Bool} (h : law11_BlendOver n1 a1 = some out) : RunsP E1 (m + 7) 8 [.one (iT .u8 n1), .agg (r37 a1)] (.fresh, [.one (bT out)]) := by
  obtain ⟨s2, s3, s4⟩ := a1
  refine fn_F rfl (by rw [E1_fn]; exact show fiOf Try.prog 8 = _ by unfold fiOf; rw [Try.func8]; unfold Try.f8; rfl) rfl ?_
  dsimp only
  unfold law11_BlendOver at h
  refine L_seq ?_
  refine L_ops ?_
  refine ol_new rfl rfl rfl (q_box ty37 rfl (cs := [.p false (Sl.t r56 s2), .p false (Sl.t r56 s3), .p false (Sl.t r56 s4)]) rfl rfl) (fun k5 => ?_)
  refine ol_put rfl rfl rfl (q_assign (v := .one (bC false)) rfl) ?_
  refine ol_end ?_
  refine E_seq ?_
  refine L_seq ?_
  refine L_ops ?_
  refine ol_put rfl rfl rfl (q_move (v := .one (iC .u8 n1)) rfl) ?_
  refine ol_put rfl rfl rfl (q_loadP (v := .agg [.p false (Sl.t r56 s2), .p false (Sl.t r56 s3), .p false (Sl.t r56 s4)]) 0 rfl sz37 rfl rfl rfl rfl) ?_
  obtain ⟨⟨⟨n7, s8⟩, ⟨n9, s10⟩, ⟨n11, s12⟩⟩, h6, h⟩ := bindS h
  refine ol_put rfl rfl rfl (q_callF (v := .agg [iC .i64 n7, .p true (Sl.t r56 s8), iC .i64 n9, .p true (Sl.t r56 s10), iC .i64 n11, .p true (Sl.t r56 s12)]) (args := [.one (iC .u8 n1), .agg [.p false (Sl.t r56 s2), .p false (Sl.t r56 s3), .p false (Sl.t r56 s4)]]) (law11_Three_r (m + 0) h6) rfl rfl (vw_cons (vd_one vc_v) (vw_cons (vd_agg (vc_cons vc_s (vc_cons vc_s (vc_cons vc_s vc_nil)))) vw_nil)) rfl rfl) ?_
  refine ol_new rfl rfl rfl (q_alloc ty38 (row := [iC .i64 0, .p true (Sl.t r56 (⟨false, 0, []⟩ : Sl (Int × Int))), iC .i64 0, .p true (Sl.t r56 (⟨false, 0, []⟩ : Sl (Int × Int))), iC .i64 0, .p true (Sl.t r56 (⟨false, 0, []⟩ : Sl (Int × Int)))]) rfl rfl) (fun k13 => ?_)
  refine ol_wr rfl rfl (q_store (es' := [[iC .i64 n7, .p true (Sl.t r56 s8), iC .i64 n9, .p true (Sl.t r56 s10), iC .i64 n11, .p true (Sl.t r56 s12)]]) 0 rfl rfl rfl sz38 rfl rfl rfl rfl rfl) rfl ?_
  refine ol_end ?_
  refine E_seq ?_
  refine L_seq ?_
  refine L_ops ?_
  refine ol_put rfl rfl rfl (q_ixA (a := 0) ty38 rfl ty25 rfl rfl rfl rfl) ?_
  refine ol_put rfl rfl rfl (q_loadP (v := .agg [iC .i64 n7, .p true (Sl.t r56 s8)]) 0 rfl sz25 rfl rfl rfl rfl) ?_
  refine ol_put rfl rfl rfl (q_ixA (a := 0) ty38 rfl ty25 rfl rfl rfl rfl) ?_
  refine ol_put rfl rfl rfl (q_loadP (v := .agg [iC .i64 n7, .p true (Sl.t r56 s8)]) 0 rfl sz25 rfl rfl rfl rfl) ?_
  obtain ⟨⟨⟨n15, s16⟩, n17⟩, h14, h⟩ := bindS h
  refine ol_put rfl rfl rfl (q_callF (v := .tup [.agg [iC .i64 n15, .p true (Sl.t r56 s16)], .one (iC .i64 n17)]) (args := [.agg [iC .i64 n7, .p true (Sl.t r56 s8)], .agg [iC .i64 n7, .p true (Sl.t r56 s8)]]) (blend_Over_r (m + 1) h14) rfl rfl (vw_cons (vd_agg (vc_cons vc_v (vc_cons vc_s vc_nil))) (vw_cons (vd_agg (vc_cons vc_v (vc_cons vc_s vc_nil))) vw_nil)) rfl rfl) ?_
  refine ol_put rfl rfl rfl (q_move (v := .tup [.agg [iC .i64 n15, .p true (Sl.t r56 s16)], .one (iC .i64 n17)]) rfl) ?_
  refine ol_put rfl rfl rfl (q_ext (v := .agg [iC .i64 n15, .p true (Sl.t r56 s16)]) rfl rfl) ?_
  refine ol_put rfl rfl rfl (q_ext (v := .one (iC .i64 n17)) rfl rfl) ?_
  refine ol_new rfl rfl rfl (q_alloc ty25 (row := [iC .i64 0, .p true (Sl.t r56 (⟨false, 0, []⟩ : Sl (Int × Int)))]) rfl rfl) (fun k18 => ?_)
  refine ol_wr rfl rfl (q_store (es' := [[iC .i64 n15, .p true (Sl.t r56 s16)]]) 0 rfl rfl rfl sz25 rfl rfl rfl rfl rfl) rfl ?_
  refine ol_put rfl rfl rfl (q_assign (v := .one (iC .i64 n17)) rfl) ?_
  refine ol_end ?_
  refine E_seq ?_
  refine L_seq ?_
  refine L_ops ?_
  refine ol_put rfl rfl rfl (q_ixA (a := 0) ty38 rfl ty25 rfl rfl rfl rfl) ?_
  refine ol_put rfl rfl rfl (q_loadP (v := .agg [iC .i64 n7, .p true (Sl.t r56 s8)]) 1 rfl sz25 rfl rfl rfl rfl) ?_
  refine ol_put rfl rfl rfl (q_ixA (a := 1) ty38 rfl ty25 rfl rfl rfl rfl) ?_
  refine ol_put rfl rfl rfl (q_loadP (v := .agg [iC .i64 n9, .p true (Sl.t r56 s10)]) 1 rfl sz25 rfl rfl rfl rfl) ?_
  obtain ⟨⟨⟨n20, s21⟩, n22⟩, h19, h⟩ := bindS h
  refine ol_put rfl rfl rfl (q_callF (v := .tup [.agg [iC .i64 n20, .p true (Sl.t r56 s21)], .one (iC .i64 n22)]) (args := [.agg [iC .i64 n7, .p true (Sl.t r56 s8)], .agg [iC .i64 n9, .p true (Sl.t r56 s10)]]) (blend_Over_r (m + 1) h19) rfl rfl (vw_cons (vd_agg (vc_cons vc_v (vc_cons vc_s vc_nil))) (vw_cons (vd_agg (vc_cons vc_v (vc_cons vc_s vc_nil))) vw_nil)) rfl rfl) ?_
  refine ol_put rfl rfl rfl (q_move (v := .tup [.agg [iC .i64 n20, .p true (Sl.t r56 s21)], .one (iC .i64 n22)]) rfl) ?_
  refine ol_put rfl rfl rfl (q_ext (v := .agg [iC .i64 n20, .p true (Sl.t r56 s21)]) rfl rfl) ?_
  refine ol_put rfl rfl rfl (q_ext (v := .one (iC .i64 n22)) rfl rfl) ?_
  refine ol_new rfl rfl rfl (q_alloc ty25 (row := [iC .i64 0, .p true (Sl.t r56 (⟨false, 0, []⟩ : Sl (Int × Int)))]) rfl rfl) (fun k23 => ?_)
  refine ol_wr rfl rfl (q_store (es' := [[iC .i64 n20, .p true (Sl.t r56 s21)]]) 0 rfl rfl rfl sz25 rfl rfl rfl rfl rfl) rfl ?_
  refine ol_put rfl rfl rfl (q_assign (v := .one (iC .i64 n22)) rfl) ?_
  refine ol_end ?_
  refine E_seq ?_
  refine L_seq ?_
  refine L_ops ?_
  refine ol_put rfl rfl rfl (q_ixA (a := 1) ty38 rfl ty25 rfl rfl rfl rfl) ?_
  refine ol_put rfl rfl rfl (q_loadP (v := .agg [iC .i64 n9, .p true (Sl.t r56 s10)]) 2 rfl sz25 rfl rfl rfl rfl) ?_
  refine ol_put rfl rfl rfl (q_ixA (a := 2) ty38 rfl ty25 rfl rfl rfl rfl) ?_
  refine ol_put rfl rfl rfl (q_loadP (v := .agg [iC .i64 n11, .p true (Sl.t r56 s12)]) 2 rfl sz25 rfl rfl rfl rfl) ?_
  obtain ⟨⟨⟨n25, s26⟩, n27⟩, h24, h⟩ := bindS h
  refine ol_put rfl rfl rfl (q_callF (v := .tup [.agg [iC .i64 n25, .p true (Sl.t r56 s26)], .one (iC .i64 n27)]) (args := [.agg [iC .i64 n9, .p true (Sl.t r56 s10)], .agg [iC .i64 n11, .p true (Sl.t r56 s12)]]) (blend_Over_r (m + 1) h24) rfl rfl (vw_cons (vd_agg (vc_cons vc_v (vc_cons vc_s vc_nil))) (vw_cons (vd_agg (vc_cons vc_v (vc_cons vc_s vc_nil))) vw_nil)) rfl rfl) ?_
  refine ol_put rfl rfl rfl (q_move (v := .tup [.agg [iC .i64 n25, .p true (Sl.t r56 s26)], .one (iC .i64 n27)]) rfl) ?_
  refine ol_put rfl rfl rfl (q_ext (v := .agg [iC .i64 n25, .p true (Sl.t r56 s26)]) rfl rfl) ?_
  refine ol_put rfl rfl rfl (q_ext (v := .one (iC .i64 n27)) rfl rfl) ?_
  refine ol_new rfl rfl rfl (q_alloc ty25 (row := [iC .i64 0, .p true (Sl.t r56 (⟨false, 0, []⟩ : Sl (Int × Int)))]) rfl rfl) (fun k28 => ?_)
  refine ol_wr rfl rfl (q_store (es' := [[iC .i64 n25, .p true (Sl.t r56 s26)]]) 0 rfl rfl rfl sz25 rfl rfl rfl rfl rfl) rfl ?_
  refine ol_put rfl rfl rfl (q_assign (v := .one (iC .i64 n27)) rfl) ?_
  refine ol_end ?_
  refine E_seq ?_
  refine L_seq ?_
  refine L_ops ?_
  refine ol_put rfl rfl rfl (q_loadP (v := .agg [iC .i64 n20, .p true (Sl.t r56 s21)]) 1 rfl sz25 rfl rfl rfl rfl) ?_
  refine ol_put rfl rfl rfl (q_ixA (a := 2) ty38 rfl ty25 rfl rfl rfl rfl) ?_
  refine ol_put rfl rfl rfl (q_loadP (v := .agg [iC .i64 n11, .p true (Sl.t r56 s12)]) 3 rfl sz25 rfl rfl rfl rfl) ?_
  obtain ⟨⟨⟨n30, s31⟩, n32⟩, h29, h⟩ := bindS h
  refine ol_put rfl rfl rfl (q_callF (v := .tup [.agg [iC .i64 n30, .p true (Sl.t r56 s31)], .one (iC .i64 n32)]) (args := [.agg [iC .i64 n20, .p true (Sl.t r56 s21)], .agg [iC .i64 n11, .p true (Sl.t r56 s12)]]) (blend_Over_r (m + 1) h29) rfl rfl (vw_cons (vd_agg (vc_cons vc_v (vc_cons vc_s vc_nil))) (vw_cons (vd_agg (vc_cons vc_v (vc_cons vc_s vc_nil))) vw_nil)) rfl rfl) ?_
  refine ol_put rfl rfl rfl (q_move (v := .tup [.agg [iC .i64 n30, .p true (Sl.t r56 s31)], .one (iC .i64 n32)]) rfl) ?_
  refine ol_put rfl rfl rfl (q_ext (v := .agg [iC .i64 n30, .p true (Sl.t r56 s31)]) rfl rfl) ?_
  refine ol_put rfl rfl rfl (q_ext (v := .one (iC .i64 n32)) rfl rfl) ?_
  refine ol_new rfl rfl rfl (q_alloc ty25 (row := [iC .i64 0, .p true (Sl.t r56 (⟨false, 0, []⟩ : Sl (Int × Int)))]) rfl rfl) (fun k33 => ?_)
  refine ol_wr rfl rfl (q_store (es' := [[iC .i64 n30, .p true (Sl.t r56 s31)]]) 0 rfl rfl rfl sz25 rfl rfl rfl rfl rfl) rfl ?_
  refine ol_put rfl rfl rfl (q_assign (v := .one (iC .i64 n32)) rfl) ?_
  refine ol_end ?_
  refine E_seq ?_
  refine L_seq ?_
  refine L_ops ?_
  refine ol_put rfl rfl rfl (q_ixA (a := 0) ty38 rfl ty25 rfl rfl rfl rfl) ?_
  refine ol_put rfl rfl rfl (q_loadP (v := .agg [iC .i64 n7, .p true (Sl.t r56 s8)]) 4 rfl sz25 rfl rfl rfl rfl) ?_
  refine ol_put rfl rfl rfl (q_loadP (v := .agg [iC .i64 n25, .p true (Sl.t r56 s26)]) 1 rfl sz25 rfl rfl rfl rfl) ?_
  obtain ⟨⟨⟨n35, s36⟩, n37⟩, h34, h⟩ := bindS h
  refine ol_put rfl rfl rfl (q_callF (v := .tup [.agg [iC .i64 n35, .p true (Sl.t r56 s36)], .one (iC .i64 n37)]) (args := [.agg [iC .i64 n7, .p true (Sl.t r56 s8)], .agg [iC .i64 n25, .p true (Sl.t r56 s26)]]) (blend_Over_r (m + 1) h34) rfl rfl (vw_cons (vd_agg (vc_cons vc_v (vc_cons vc_s vc_nil))) (vw_cons (vd_agg (vc_cons vc_v (vc_cons vc_s vc_nil))) vw_nil)) rfl rfl) ?_
  refine ol_put rfl rfl rfl (q_move (v := .tup [.agg [iC .i64 n35, .p true (Sl.t r56 s36)], .one (iC .i64 n37)]) rfl) ?_
  refine ol_put rfl rfl rfl (q_ext (v := .agg [iC .i64 n35, .p true (Sl.t r56 s36)]) rfl rfl) ?_
  refine ol_put rfl rfl rfl (q_ext (v := .one (iC .i64 n37)) rfl rfl) ?_
  refine ol_new rfl rfl rfl (q_alloc ty25 (row := [iC .i64 0, .p true (Sl.t r56 (⟨false, 0, []⟩ : Sl (Int × Int)))]) rfl rfl) (fun k38 => ?_)
  refine ol_wr rfl rfl (q_store (es' := [[iC .i64 n35, .p true (Sl.t r56 s36)]]) 0 rfl rfl rfl sz25 rfl rfl rfl rfl rfl) rfl ?_
  refine ol_put rfl rfl rfl (q_assign (v := .one (iC .i64 n37)) rfl) ?_
  refine ol_end ?_
  refine E_seq ?_
  refine L_seq ?_
  refine L_ops ?_
  obtain ⟨b40, h39, h⟩ := bindS h
  refine ol_put rfl rfl rfl (q_callF (v := .one (bC b40)) (args := []) (FL_r (m + 5) h39) rfl rfl vw_nil rfl rfl) ?_
  refine ol_put rfl rfl rfl (q_move (v := .one (bC b40)) rfl) ?_
  rcases b40 with _ | _
  · replace h := ifF (by decide) h
    refine ol_skip rfl rfl rfl ?_
    refine ol_skip rfl rfl rfl ?_
    refine ol_put rfl rfl rfl (q_pickF (v := .one (bC false)) rfl rfl) ?_
    refine ol_put rfl rfl rfl (q_move (v := .one (bC false)) rfl) ?_
    refine ol_skip rfl rfl rfl ?_
    refine ol_skip rfl rfl rfl ?_
    refine ol_put rfl rfl rfl (q_pickF (v := .one (bC false)) rfl rfl) ?_
    refine ol_put rfl rfl rfl (q_move (v := .one (bC false)) rfl) ?_
    refine ol_skip rfl rfl rfl ?_
    refine ol_skip rfl rfl rfl ?_
    refine ol_put rfl rfl rfl (q_pickF (v := .one (bC false)) rfl rfl) ?_
    refine ol_put rfl rfl rfl (q_move (v := .one (bC false)) rfl) ?_
    refine ol_skip rfl rfl rfl ?_
    refine ol_skip rfl rfl rfl ?_
    refine ol_put rfl rfl rfl (q_pickF (v := .one (bC false)) rfl rfl) ?_
    refine ol_put rfl rfl rfl (q_move (v := .one (bC false)) rfl) ?_
    refine ol_skip rfl rfl rfl ?_
    refine ol_skip rfl rfl rfl ?_
    refine ol_put rfl rfl rfl (q_pickF (v := .one (bC false)) rfl rfl) ?_
    refine ol_put rfl rfl rfl (q_move (v := .one (bC false)) rfl) ?_
    refine ol_skip rfl rfl rfl ?_
    refine ol_skip rfl rfl rfl ?_
    refine ol_skip rfl rfl rfl ?_
    refine ol_skip rfl rfl rfl ?_
    refine ol_put rfl rfl rfl (q_pickF (v := .one (bC false)) rfl rfl) ?_
    refine ol_put rfl rfl rfl (q_move (v := .one (bC false)) rfl) ?_
    refine ol_skip rfl rfl rfl ?_
    refine ol_skip rfl rfl rfl ?_
    refine ol_skip rfl rfl rfl ?_
    refine ol_put rfl rfl rfl (q_pickF (v := .one (bC false)) rfl rfl) ?_
    refine ol_put rfl rfl rfl (q_assign (v := .one (bC false)) rfl) ?_
    refine ol_end ?_
    refine E_seq ?_
    refine L_ret ?_
    obtain rfl := Option.some.inj h
    exact E_endF (.inr rfl) (res_tmp rfl res_nil) (vw_cons (vd_one vc_v) vw_nil) (fun h hb => own_p) rfl rfl
  · replace h := ifT (by decide) h
    refine ol_put rfl rfl rfl (q_move (v := .one (iC .i64 n17)) rfl) ?_
    by_cases c41 : n17 = 0
    · replace h := ifT c41 h
      refine ol_put rfl rfl rfl (q_bin rfl rfl (p_eql_t _ _ _ _ _ c41) rfl) ?_
      refine ol_put rfl rfl rfl (q_pickT (v := .one (bC true)) rfl rfl) ?_
      refine ol_put rfl rfl rfl (q_move (v := .one (bC true)) rfl) ?_
      refine ol_put rfl rfl rfl (q_move (v := .one (iC .i64 n22)) rfl) ?_
      by_cases c42 : n22 = 0
      · replace h := ifT c42 h
        refine ol_put rfl rfl rfl (q_bin rfl rfl (p_eql_t _ _ _ _ _ c42) rfl) ?_
        refine ol_put rfl rfl rfl (q_pickT (v := .one (bC true)) rfl rfl) ?_
        refine ol_put rfl rfl rfl (q_move (v := .one (bC true)) rfl) ?_
        refine ol_put rfl rfl rfl (q_move (v := .one (iC .i64 n27)) rfl) ?_
        by_cases c43 : n27 = 0
        · replace h := ifT c43 h
          refine ol_put rfl rfl rfl (q_bin rfl rfl (p_eql_t _ _ _ _ _ c43) rfl) ?_
          refine ol_put rfl rfl rfl (q_pickT (v := .one (bC true)) rfl rfl) ?_
          refine ol_put rfl rfl rfl (q_move (v := .one (bC true)) rfl) ?_
          refine ol_put rfl rfl rfl (q_move (v := .one (iC .i64 n32)) rfl) ?_
          by_cases c44 : n32 = 0
          · replace h := ifT c44 h
            refine ol_put rfl rfl rfl (q_bin rfl rfl (p_eql_t _ _ _ _ _ c44) rfl) ?_
            refine ol_put rfl rfl rfl (q_pickT (v := .one (bC true)) rfl rfl) ?_
            refine ol_put rfl rfl rfl (q_move (v := .one (bC true)) rfl) ?_
            refine ol_put rfl rfl rfl (q_move (v := .one (iC .i64 n37)) rfl) ?_
            by_cases c45 : n37 = 0
            · replace h := ifT c45 h
              refine ol_put rfl rfl rfl (q_bin rfl rfl (p_eql_t _ _ _ _ _ c45) rfl) ?_
              refine ol_put rfl rfl rfl (q_pickT (v := .one (bC true)) rfl rfl) ?_
              refine ol_put rfl rfl rfl (q_move (v := .one (bC true)) rfl) ?_
              refine ol_put rfl rfl rfl (q_loadP (v := .agg [iC .i64 n15, .p true (Sl.t r56 s16)]) 4 rfl sz25 rfl rfl rfl rfl) ?_
              refine ol_put rfl rfl rfl (q_ixA (a := 0) ty38 rfl ty25 rfl rfl rfl rfl) ?_
              refine ol_put rfl rfl rfl (q_loadP (v := .agg [iC .i64 n7, .p true (Sl.t r56 s8)]) 5 rfl sz25 rfl rfl rfl rfl) ?_
              obtain ⟨b47, h46, h⟩ := bindS h
              refine ol_put rfl rfl rfl (q_callF (v := .one (bC b47)) (args := [.agg [iC .i64 n15, .p true (Sl.t r56 s16)], .agg [iC .i64 n7, .p true (Sl.t r56 s8)]]) (ref09_Same_r (m + 4) h46) rfl rfl (vw_cons (vd_agg (vc_cons vc_v (vc_cons vc_s vc_nil))) (vw_cons (vd_agg (vc_cons vc_v (vc_cons vc_s vc_nil))) vw_nil)) rfl rfl) ?_
              refine ol_put rfl rfl rfl (q_pickT (v := .one (bC b47)) rfl rfl) ?_
              refine ol_put rfl rfl rfl (q_move (v := .one (bC b47)) rfl) ?_
              rcases b47 with _ | _
              · replace h := ifF (by decide) h
                refine ol_skip rfl rfl rfl ?_
                refine ol_skip rfl rfl rfl ?_
                refine ol_skip rfl rfl rfl ?_
                refine ol_put rfl rfl rfl (q_pickF (v := .one (bC false)) rfl rfl) ?_
                refine ol_put rfl rfl rfl (q_assign (v := .one (bC false)) rfl) ?_
                refine ol_end ?_
                refine E_seq ?_
                refine L_ret ?_
                obtain rfl := Option.some.inj h
                exact E_endF (.inr rfl) (res_tmp rfl res_nil) (vw_cons (vd_one vc_v) vw_nil) (fun h hb => own_p) rfl rfl
              · replace h := ifT (by decide) h
                refine ol_put rfl rfl rfl (q_loadP (v := .agg [iC .i64 n30, .p true (Sl.t r56 s31)]) 1 rfl sz25 rfl rfl rfl rfl) ?_
                refine ol_put rfl rfl rfl (q_loadP (v := .agg [iC .i64 n35, .p true (Sl.t r56 s36)]) 0 rfl sz25 rfl rfl rfl rfl) ?_
                obtain ⟨b49, h48, h⟩ := bindS h
                refine ol_put rfl rfl rfl (q_callF (v := .one (bC b49)) (args := [.agg [iC .i64 n30, .p true (Sl.t r56 s31)], .agg [iC .i64 n35, .p true (Sl.t r56 s36)]]) (ref09_Same_r (m + 4) h48) rfl rfl (vw_cons (vd_agg (vc_cons vc_v (vc_cons vc_s vc_nil))) (vw_cons (vd_agg (vc_cons vc_v (vc_cons vc_s vc_nil))) vw_nil)) rfl rfl) ?_
                refine ol_put rfl rfl rfl (q_pickT (v := .one (bC b49)) rfl rfl) ?_
                refine ol_put rfl rfl rfl (q_assign (v := .one (bC b49)) rfl) ?_
                refine ol_end ?_
                refine E_seq ?_
                refine L_ret ?_
                obtain rfl := Option.some.inj h
                exact E_endF (.inr rfl) (res_tmp rfl res_nil) (vw_cons (vd_one vc_v) vw_nil) (fun h hb => own_p) rfl rfl
            · replace h := ifF c45 h
              refine ol_put rfl rfl rfl (q_bin rfl rfl (p_eql_f _ _ _ _ _ c45) rfl) ?_
              refine ol_put rfl rfl rfl (q_pickT (v := .one (bC false)) rfl rfl) ?_
              refine ol_put rfl rfl rfl (q_move (v := .one (bC false)) rfl) ?_
              refine ol_skip rfl rfl rfl ?_
              refine ol_skip rfl rfl rfl ?_
              refine ol_skip rfl rfl rfl ?_
              refine ol_skip rfl rfl rfl ?_
              refine ol_put rfl rfl rfl (q_pickF (v := .one (bC false)) rfl rfl) ?_
              refine ol_put rfl rfl rfl (q_move (v := .one (bC false)) rfl) ?_
              refine ol_skip rfl rfl rfl ?_
              refine ol_skip rfl rfl rfl ?_
              refine ol_skip rfl rfl rfl ?_
              refine ol_put rfl rfl rfl (q_pickF (v := .one (bC false)) rfl rfl) ?_
              refine ol_put rfl rfl rfl (q_assign (v := .one (bC false)) rfl) ?_
              refine ol_end ?_
              refine E_seq ?_
              refine L_ret ?_
              obtain rfl := Option.some.inj h
              exact E_endF (.inr rfl) (res_tmp rfl res_nil) (vw_cons (vd_one vc_v) vw_nil) (fun h hb => own_p) rfl rfl
          · replace h := ifF c44 h
            refine ol_put rfl rfl rfl (q_bin rfl rfl (p_eql_f _ _ _ _ _ c44) rfl) ?_
            refine ol_put rfl rfl rfl (q_pickT (v := .one (bC false)) rfl rfl) ?_
            refine ol_put rfl rfl rfl (q_move (v := .one (bC false)) rfl) ?_
            refine ol_skip rfl rfl rfl ?_
            refine ol_skip rfl rfl rfl ?_
            refine ol_put rfl rfl rfl (q_pickF (v := .one (bC false)) rfl rfl) ?_
            refine ol_put rfl rfl rfl (q_move (v := .one (bC false)) rfl) ?_
            refine ol_skip rfl rfl rfl ?_
            refine ol_skip rfl rfl rfl ?_
            refine ol_skip rfl rfl rfl ?_
            refine ol_skip rfl rfl rfl ?_
            refine ol_put rfl rfl rfl (q_pickF (v := .one (bC false)) rfl rfl) ?_
            refine ol_put rfl rfl rfl (q_move (v := .one (bC false)) rfl) ?_
            refine ol_skip rfl rfl rfl ?_
            refine ol_skip rfl rfl rfl ?_
            refine ol_skip rfl rfl rfl ?_
            refine ol_put rfl rfl rfl (q_pickF (v := .one (bC false)) rfl rfl) ?_
            refine ol_put rfl rfl rfl (q_assign (v := .one (bC false)) rfl) ?_
            refine ol_end ?_
            refine E_seq ?_
            refine L_ret ?_
            obtain rfl := Option.some.inj h
            exact E_endF (.inr rfl) (res_tmp rfl res_nil) (vw_cons (vd_one vc_v) vw_nil) (fun h hb => own_p) rfl rfl
        · replace h := ifF c43 h
          refine ol_put rfl rfl rfl (q_bin rfl rfl (p_eql_f _ _ _ _ _ c43) rfl) ?_
          refine ol_put rfl rfl rfl (q_pickT (v := .one (bC false)) rfl rfl) ?_
          refine ol_put rfl rfl rfl (q_move (v := .one (bC false)) rfl) ?_
          refine ol_skip rfl rfl rfl ?_
          refine ol_skip rfl rfl rfl ?_
          refine ol_put rfl rfl rfl (q_pickF (v := .one (bC false)) rfl rfl) ?_
          refine ol_put rfl rfl rfl (q_move (v := .one (bC false)) rfl) ?_
          refine ol_skip rfl rfl rfl ?_
          refine ol_skip rfl rfl rfl ?_
          refine ol_put rfl rfl rfl (q_pickF (v := .one (bC false)) rfl rfl) ?_
          refine ol_put rfl rfl rfl (q_move (v := .one (bC false)) rfl) ?_
          refine ol_skip rfl rfl rfl ?_
          refine ol_skip rfl rfl rfl ?_
          refine ol_skip rfl rfl rfl ?_
          refine ol_skip rfl rfl rfl ?_
          refine ol_put rfl rfl rfl (q_pickF (v := .one (bC false)) rfl rfl) ?_
          refine ol_put rfl rfl rfl (q_move (v := .one (bC false)) rfl) ?_
          refine ol_skip rfl rfl rfl ?_
          refine ol_skip rfl rfl rfl ?_
          refine ol_skip rfl rfl rfl ?_
          refine ol_put rfl rfl rfl (q_pickF (v := .one (bC false)) rfl rfl) ?_
          refine ol_put rfl rfl rfl (q_assign (v := .one (bC false)) rfl) ?_
          refine ol_end ?_
          refine E_seq ?_
          refine L_ret ?_
          obtain rfl := Option.some.inj h
          exact E_endF (.inr rfl) (res_tmp rfl res_nil) (vw_cons (vd_one vc_v) vw_nil) (fun h hb => own_p) rfl rfl
      · replace h := ifF c42 h
        refine ol_put rfl rfl rfl (q_bin rfl rfl (p_eql_f _ _ _ _ _ c42) rfl) ?_
        refine ol_put rfl rfl rfl (q_pickT (v := .one (bC false)) rfl rfl) ?_
        refine ol_put rfl rfl rfl (q_move (v := .one (bC false)) rfl) ?_
        refine ol_skip rfl rfl rfl ?_
        refine ol_skip rfl rfl rfl ?_
        refine ol_put rfl rfl rfl (q_pickF (v := .one (bC false)) rfl rfl) ?_
        refine ol_put rfl rfl rfl (q_move (v := .one (bC false)) rfl) ?_
        refine ol_skip rfl rfl rfl ?_
        refine ol_skip rfl rfl rfl ?_
        refine ol_put rfl rfl rfl (q_pickF (v := .one (bC false)) rfl rfl) ?_
        refine ol_put rfl rfl rfl (q_move (v := .one (bC false)) rfl) ?_
        refine ol_skip rfl rfl rfl ?_
        refine ol_skip rfl rfl rfl ?_
        refine ol_put rfl rfl rfl (q_pickF (v := .one (bC false)) rfl rfl) ?_
        refine ol_put rfl rfl rfl (q_move (v := .one (bC false)) rfl) ?_
        refine ol_skip rfl rfl rfl ?_
        refine ol_skip rfl rfl rfl ?_
        refine ol_skip rfl rfl rfl ?_
        refine ol_skip rfl rfl rfl ?_
        refine ol_put rfl rfl rfl (q_pickF (v := .one (bC false)) rfl rfl) ?_
        refine ol_put rfl rfl rfl (q_move (v := .one (bC false)) rfl) ?_
        refine ol_skip rfl rfl rfl ?_
        refine ol_skip rfl rfl rfl ?_
        refine ol_skip rfl rfl rfl ?_
        refine ol_put rfl rfl rfl (q_pickF (v := .one (bC false)) rfl rfl) ?_
        refine ol_put rfl rfl rfl (q_assign (v := .one (bC false)) rfl) ?_
        refine ol_end ?_
        refine E_seq ?_
        refine L_ret ?_
        obtain rfl := Option.some.inj h
        exact E_endF (.inr rfl) (res_tmp rfl res_nil) (vw_cons (vd_one vc_v) vw_nil) (fun h hb => own_p) rfl rfl
    · replace h := ifF c41 h
      refine ol_put rfl rfl rfl (q_bin rfl rfl (p_eql_f _ _ _ _ _ c41) rfl) ?_
      refine ol_put rfl rfl rfl (q_pickT (v := .one (bC false)) rfl rfl) ?_
      refine ol_put rfl rfl rfl (q_move (v := .one (bC false)) rfl) ?_
      refine ol_skip rfl rfl rfl ?_
      refine ol_skip rfl rfl rfl ?_
      refine ol_put rfl rfl rfl (q_pickF (v := .one (bC false)) rfl rfl) ?_
      refine ol_put rfl rfl rfl (q_move (v := .one (bC false)) rfl) ?_
      refine ol_skip rfl rfl rfl ?_
      refine ol_skip rfl rfl rfl ?_
      refine ol_put rfl rfl rfl (q_pickF (v := .one (bC false)) rfl rfl) ?_
      refine ol_put rfl rfl rfl (q_move (v := .one (bC false)) rfl) ?_
      refine ol_skip rfl rfl rfl ?_
      refine ol_skip rfl rfl rfl ?_
      refine ol_put rfl rfl rfl (q_pickF (v := .one (bC false)) rfl rfl) ?_
      refine ol_put rfl rfl rfl (q_move (v := .one (bC false)) rfl) ?_
      refine ol_skip rfl rfl rfl ?_
      refine ol_skip rfl rfl rfl ?_
      refine ol_put rfl rfl rfl (q_pickF (v := .one (bC false)) rfl rfl) ?_
      refine ol_put rfl rfl rfl (q_move (v := .one (bC false)) rfl) ?_
      refine ol_skip rfl rfl rfl ?_
      refine ol_skip rfl rfl rfl ?_
      refine ol_skip rfl rfl rfl ?_
      refine ol_skip rfl rfl rfl ?_
      refine ol_put rfl rfl rfl (q_pickF (v := .one (bC false)) rfl rfl) ?_
      refine ol_put rfl rfl rfl (q_move (v := .one (bC false)) rfl) ?_
      refine ol_skip rfl rfl rfl ?_
      refine ol_skip rfl rfl rfl ?_
      refine ol_skip rfl rfl rfl ?_
      refine ol_put rfl rfl rfl (q_pickF (v := .one (bC false)) rfl rfl) ?_
      refine ol_put rfl rfl rfl (q_assign (v := .one (bC false)) rfl) ?_
      refine ol_end ?_
      refine E_seq ?_
      refine L_ret ?_
      obtain rfl := Option.some.inj h
      exact E_endF (.inr rfl) (res_tmp rfl res_nil) (vw_cons (vd_one vc_v) vw_nil) (fun h hb => own_p) rfl rfl
end Ev
end Go.Proofs.Ytlcfdmjkbaegpaa
