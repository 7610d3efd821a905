/- Functions of the program as functions on data, and that they are. -/
import Derived.Test.YtlcfdmjkbaegpaaLf1
import Derived.Test.YtlcfdmjkbaegpaaLf2
import Derived.Test.YtlcfdmjkbaegpaaLf5
import Derived.Test.YtlcfdmjkbaegpaaLf9
import Derived.Test.YtlcfdmjkbaegpaaLy1
namespace Go.Proofs.Ytlcfdmjkbaegpaa
namespace Ev
open Go
set_option linter.unusedVariables false
set_option linter.unusedSimpArgs false
set_option maxRecDepth 100000
set_option maxHeartbeats 1000000
attribute [local irreducible] OpsL StL TnL WpL EndL
noncomputable def law11_BlendUnion (n1 : Int) (n2 : Int) (a2 : (Sl (Int × Int)) × (Sl (Int × Int)) × (Sl (Int × Int))) : Option (Bool) :=
  match a2 with
  | (s3, s4, s5) => ((law11_Three n2 (s3, s4, s5)).bind fun ((n8, s9), (n10, s11), (n12, s13)) => ((ref02_Is n1).bind fun b16 => (if b16 = true then ((blend_Union n1 (n8, s9) (n10, s11)).bind fun ((n20, s21), n22) => ((blend_Union n1 (n10, s11) (n8, s9)).bind fun ((n25, s26), n27) => ((FL).bind fun b30 => (if b30 = true then (if n22 ≠ n27 then some false else ((ref09_Same (n20, s21) (n25, s26)).bind fun b33 => (if b33 = true then ((blend_Union n1 (n10, s11) (n12, s13)).bind fun ((n35, s36), n37) => ((blend_Union n1 (n20, s21) (n12, s13)).bind fun ((n40, s41), n42) => ((blend_Union n1 (n8, s9) (n35, s36)).bind fun ((n45, s46), n47) => ((blend_Union 1 (n8, s9) (n8, s9)).bind fun ((n50, s51), n52) => ((ref09_Same (n50, s51) (n8, s9)).bind fun b55 => (if b55 = true then (if n22 ≠ 0 then some true else (if n37 ≠ 0 then some true else (if n42 ≠ 0 then some true else (if n47 ≠ 0 then some true else (if n1 = 2 then some true else ((ref09_Same (n40, s41) (n45, s46)).bind fun b62 => some b62)))))) else some false)))))) else some false))) else some false)))) else ((FL).bind fun b18 => some b18))))
theorem law11_BlendUnion_r (m : Nat) {n1 : Int} {n2 : Int} {a2 : (Sl (Int × Int)) × (Sl (Int × Int)) × (Sl (Int × Int))} {out : Bool} (h : law11_BlendUnion n1 n2 a2 = some out) : RunsP E1 (m + 7) 5 [.one (iT .i64 n1), .one (iT .u8 n2), .agg (r37 a2)] (.fresh, [.one (bT out)]) := by
  obtain ⟨s3, s4, s5⟩ := a2
  refine fn_F rfl (by rw [E1_fn]; exact show fiOf Try.prog 5 = _ by unfold fiOf; rw [Try.func5]; unfold Try.f5; rfl) rfl ?_
  dsimp only
  unfold law11_BlendUnion at h
  refine L_seq ?_
  refine L_ops ?_
  refine ol_new rfl rfl rfl (q_box ty37 rfl (cs := [.p false (Sl.t r56 s3), .p false (Sl.t r56 s4), .p false (Sl.t r56 s5)]) rfl rfl) (fun k6 => ?_)
  refine ol_put rfl rfl rfl (q_assign (v := .one (bC false)) rfl) ?_
  refine ol_end ?_
  refine E_seq ?_
  refine L_seq ?_
  refine L_ops ?_
  refine ol_put rfl rfl rfl (q_move (v := .one (iC .u8 n2)) rfl) ?_
  refine ol_put rfl rfl rfl (q_loadP (v := .agg [.p false (Sl.t r56 s3), .p false (Sl.t r56 s4), .p false (Sl.t r56 s5)]) 0 rfl sz37 rfl rfl rfl rfl) ?_
  obtain ⟨⟨⟨n8, s9⟩, ⟨n10, s11⟩, ⟨n12, s13⟩⟩, h7, h⟩ := bindS h
  refine ol_put rfl rfl rfl (q_callF (v := .agg [iC .i64 n8, .p true (Sl.t r56 s9), iC .i64 n10, .p true (Sl.t r56 s11), iC .i64 n12, .p true (Sl.t r56 s13)]) (args := [.one (iC .u8 n2), .agg [.p false (Sl.t r56 s3), .p false (Sl.t r56 s4), .p false (Sl.t r56 s5)]]) (law11_Three_r (m + 0) h7) rfl rfl (vw_cons (vd_one vc_v) (vw_cons (vd_agg (vc_cons vc_s (vc_cons vc_s (vc_cons vc_s vc_nil)))) vw_nil)) rfl rfl) ?_
  refine ol_new rfl rfl rfl (q_alloc ty38 (row := [iC .i64 0, .p true (Sl.t r56 (⟨false, 0, []⟩ : Sl (Int × Int))), iC .i64 0, .p true (Sl.t r56 (⟨false, 0, []⟩ : Sl (Int × Int))), iC .i64 0, .p true (Sl.t r56 (⟨false, 0, []⟩ : Sl (Int × Int)))]) rfl rfl) (fun k14 => ?_)
  refine ol_wr rfl rfl (q_store (es' := [[iC .i64 n8, .p true (Sl.t r56 s9), iC .i64 n10, .p true (Sl.t r56 s11), iC .i64 n12, .p true (Sl.t r56 s13)]]) 0 rfl rfl rfl sz38 rfl rfl rfl rfl rfl) rfl ?_
  refine ol_end ?_
  refine E_seq ?_
  refine L_seq ?_
  refine L_seq ?_
  refine L_ops ?_
  refine ol_put rfl rfl rfl (q_move (v := .one (iC .i64 n1)) rfl) ?_
  obtain ⟨b16, h15, h⟩ := bindS h
  refine ol_put rfl rfl rfl (q_callF (v := .one (bC b16)) (args := [.one (iC .i64 n1)]) (ref02_Is_r (m + 5) h15) rfl rfl (vw_cons (vd_one vc_v) vw_nil) rfl rfl) ?_
  rcases b16 with _ | _
  · replace h := ifF (by decide) h
    refine ol_put rfl rfl rfl (q_not rfl) ?_
    refine ol_end ?_
    refine E_seq ?_
    refine L_condT rfl ?_
    refine L_seq ?_
    refine L_ops ?_
    obtain ⟨b18, h17, h⟩ := bindS h
    refine ol_put rfl rfl rfl (q_callF (v := .one (bC b18)) (args := []) (FL_r (m + 5) h17) rfl rfl vw_nil rfl rfl) ?_
    refine ol_put rfl rfl rfl (q_assign (v := .one (bC b18)) rfl) ?_
    refine ol_end ?_
    refine E_seq ?_
    refine L_ret ?_
    refine E_seqR ?_
    obtain rfl := Option.some.inj h
    exact E_endF (.inr rfl) (res_tmp rfl res_nil) (vw_cons (vd_one vc_v) vw_nil) (fun h hb => own_p) rfl rfl
  · replace h := ifT (by decide) h
    refine ol_put rfl rfl rfl (q_not rfl) ?_
    refine ol_end ?_
    refine E_seq ?_
    refine L_condF rfl ?_
    refine L_skip ?_
    refine E_seq ?_
    refine L_seq ?_
    refine L_ops ?_
    refine ol_put rfl rfl rfl (q_move (v := .one (iC .i64 n1)) rfl) ?_
    refine ol_put rfl rfl rfl (q_ixA (a := 0) ty38 rfl ty25 rfl rfl rfl rfl) ?_
    refine ol_put rfl rfl rfl (q_loadP (v := .agg [iC .i64 n8, .p true (Sl.t r56 s9)]) 0 rfl sz25 rfl rfl rfl rfl) ?_
    refine ol_put rfl rfl rfl (q_ixA (a := 1) ty38 rfl ty25 rfl rfl rfl rfl) ?_
    refine ol_put rfl rfl rfl (q_loadP (v := .agg [iC .i64 n10, .p true (Sl.t r56 s11)]) 0 rfl sz25 rfl rfl rfl rfl) ?_
    obtain ⟨⟨⟨n20, s21⟩, n22⟩, h19, h⟩ := bindS h
    refine ol_put rfl rfl rfl (q_callF (v := .tup [.agg [iC .i64 n20, .p true (Sl.t r56 s21)], .one (iC .i64 n22)]) (args := [.one (iC .i64 n1), .agg [iC .i64 n8, .p true (Sl.t r56 s9)], .agg [iC .i64 n10, .p true (Sl.t r56 s11)]]) (blend_Union_r (m + 0) h19) rfl rfl (vw_cons (vd_one vc_v) (vw_cons (vd_agg (vc_cons vc_v (vc_cons vc_s vc_nil))) (vw_cons (vd_agg (vc_cons vc_v (vc_cons vc_s vc_nil))) vw_nil))) rfl rfl) ?_
    refine ol_put rfl rfl rfl (q_move (v := .tup [.agg [iC .i64 n20, .p true (Sl.t r56 s21)], .one (iC .i64 n22)]) rfl) ?_
    refine ol_put rfl rfl rfl (q_ext (v := .agg [iC .i64 n20, .p true (Sl.t r56 s21)]) rfl rfl) ?_
    refine ol_put rfl rfl rfl (q_ext (v := .one (iC .i64 n22)) rfl rfl) ?_
    refine ol_new rfl rfl rfl (q_alloc ty25 (row := [iC .i64 0, .p true (Sl.t r56 (⟨false, 0, []⟩ : Sl (Int × Int)))]) rfl rfl) (fun k23 => ?_)
    refine ol_wr rfl rfl (q_store (es' := [[iC .i64 n20, .p true (Sl.t r56 s21)]]) 0 rfl rfl rfl sz25 rfl rfl rfl rfl rfl) rfl ?_
    refine ol_put rfl rfl rfl (q_assign (v := .one (iC .i64 n22)) rfl) ?_
    refine ol_end ?_
    refine E_seq ?_
    refine L_seq ?_
    refine L_ops ?_
    refine ol_put rfl rfl rfl (q_move (v := .one (iC .i64 n1)) rfl) ?_
    refine ol_put rfl rfl rfl (q_ixA (a := 1) ty38 rfl ty25 rfl rfl rfl rfl) ?_
    refine ol_put rfl rfl rfl (q_loadP (v := .agg [iC .i64 n10, .p true (Sl.t r56 s11)]) 1 rfl sz25 rfl rfl rfl rfl) ?_
    refine ol_put rfl rfl rfl (q_ixA (a := 0) ty38 rfl ty25 rfl rfl rfl rfl) ?_
    refine ol_put rfl rfl rfl (q_loadP (v := .agg [iC .i64 n8, .p true (Sl.t r56 s9)]) 1 rfl sz25 rfl rfl rfl rfl) ?_
    obtain ⟨⟨⟨n25, s26⟩, n27⟩, h24, h⟩ := bindS h
    refine ol_put rfl rfl rfl (q_callF (v := .tup [.agg [iC .i64 n25, .p true (Sl.t r56 s26)], .one (iC .i64 n27)]) (args := [.one (iC .i64 n1), .agg [iC .i64 n10, .p true (Sl.t r56 s11)], .agg [iC .i64 n8, .p true (Sl.t r56 s9)]]) (blend_Union_r (m + 0) h24) rfl rfl (vw_cons (vd_one vc_v) (vw_cons (vd_agg (vc_cons vc_v (vc_cons vc_s vc_nil))) (vw_cons (vd_agg (vc_cons vc_v (vc_cons vc_s vc_nil))) vw_nil))) rfl rfl) ?_
    refine ol_put rfl rfl rfl (q_move (v := .tup [.agg [iC .i64 n25, .p true (Sl.t r56 s26)], .one (iC .i64 n27)]) rfl) ?_
    refine ol_put rfl rfl rfl (q_ext (v := .agg [iC .i64 n25, .p true (Sl.t r56 s26)]) rfl rfl) ?_
    refine ol_put rfl rfl rfl (q_ext (v := .one (iC .i64 n27)) rfl rfl) ?_
    refine ol_new rfl rfl rfl (q_alloc ty25 (row := [iC .i64 0, .p true (Sl.t r56 (⟨false, 0, []⟩ : Sl (Int × Int)))]) rfl rfl) (fun k28 => ?_)
    refine ol_wr rfl rfl (q_store (es' := [[iC .i64 n25, .p true (Sl.t r56 s26)]]) 0 rfl rfl rfl sz25 rfl rfl rfl rfl rfl) rfl ?_
    refine ol_put rfl rfl rfl (q_assign (v := .one (iC .i64 n27)) rfl) ?_
    refine ol_end ?_
    refine E_seq ?_
    refine L_seq ?_
    refine L_seq ?_
    refine L_ops ?_
    obtain ⟨b30, h29, h⟩ := bindS h
    refine ol_put rfl rfl rfl (q_callF (v := .one (bC b30)) (args := []) (FL_r (m + 5) h29) rfl rfl vw_nil rfl rfl) ?_
    rcases b30 with _ | _
    · replace h := ifF (by decide) h
      refine ol_put rfl rfl rfl (q_not rfl) ?_
      refine ol_put rfl rfl rfl (q_move (v := .one (bC true)) rfl) ?_
      refine ol_skip rfl rfl rfl ?_
      refine ol_skip rfl rfl rfl ?_
      refine ol_skip rfl rfl rfl ?_
      refine ol_put rfl rfl rfl (q_pickT (v := .one (bC true)) rfl rfl) ?_
      refine ol_put rfl rfl rfl (q_move (v := .one (bC true)) rfl) ?_
      refine ol_skip rfl rfl rfl ?_
      refine ol_skip rfl rfl rfl ?_
      refine ol_skip rfl rfl rfl ?_
      refine ol_skip rfl rfl rfl ?_
      refine ol_put rfl rfl rfl (q_pickT (v := .one (bC true)) rfl rfl) ?_
      refine ol_end ?_
      refine E_seq ?_
      refine L_condT rfl ?_
      refine L_seq ?_
      refine L_ops ?_
      refine ol_put rfl rfl rfl (q_assign (v := .one (bC false)) rfl) ?_
      refine ol_end ?_
      refine E_seq ?_
      refine L_ret ?_
      refine E_seqR ?_
      obtain rfl := Option.some.inj h
      exact E_endF (.inr rfl) (res_tmp rfl res_nil) (vw_cons (vd_one vc_v) vw_nil) (fun h hb => own_p) rfl rfl
    · replace h := ifT (by decide) h
      refine ol_put rfl rfl rfl (q_not rfl) ?_
      refine ol_put rfl rfl rfl (q_move (v := .one (bC false)) rfl) ?_
      refine ol_put rfl rfl rfl (q_move (v := .one (iC .i64 n22)) rfl) ?_
      refine ol_put rfl rfl rfl (q_move (v := .one (iC .i64 n27)) rfl) ?_
      by_cases c31 : n22 ≠ n27
      · replace h := ifT c31 h
        refine ol_put rfl rfl rfl (q_bin rfl rfl (p_neq_t _ _ _ _ _ c31) rfl) ?_
        refine ol_put rfl rfl rfl (q_pickF (v := .one (bC true)) rfl rfl) ?_
        refine ol_put rfl rfl rfl (q_move (v := .one (bC true)) rfl) ?_
        refine ol_skip rfl rfl rfl ?_
        refine ol_skip rfl rfl rfl ?_
        refine ol_skip rfl rfl rfl ?_
        refine ol_skip rfl rfl rfl ?_
        refine ol_put rfl rfl rfl (q_pickT (v := .one (bC true)) rfl rfl) ?_
        refine ol_end ?_
        refine E_seq ?_
        refine L_condT rfl ?_
        refine L_seq ?_
        refine L_ops ?_
        refine ol_put rfl rfl rfl (q_assign (v := .one (bC false)) rfl) ?_
        refine ol_end ?_
        refine E_seq ?_
        refine L_ret ?_
        refine E_seqR ?_
        obtain rfl := Option.some.inj h
        exact E_endF (.inr rfl) (res_tmp rfl res_nil) (vw_cons (vd_one vc_v) vw_nil) (fun h hb => own_p) rfl rfl
      · replace h := ifF c31 h
        refine ol_put rfl rfl rfl (q_bin rfl rfl (p_neq_f _ _ _ _ _ c31) rfl) ?_
        refine ol_put rfl rfl rfl (q_pickF (v := .one (bC false)) rfl rfl) ?_
        refine ol_put rfl rfl rfl (q_move (v := .one (bC false)) rfl) ?_
        refine ol_put rfl rfl rfl (q_loadP (v := .agg [iC .i64 n20, .p true (Sl.t r56 s21)]) 1 rfl sz25 rfl rfl rfl rfl) ?_
        refine ol_put rfl rfl rfl (q_loadP (v := .agg [iC .i64 n25, .p true (Sl.t r56 s26)]) 0 rfl sz25 rfl rfl rfl rfl) ?_
        obtain ⟨b33, h32, h⟩ := bindS h
        refine ol_put rfl rfl rfl (q_callF (v := .one (bC b33)) (args := [.agg [iC .i64 n20, .p true (Sl.t r56 s21)], .agg [iC .i64 n25, .p true (Sl.t r56 s26)]]) (ref09_Same_r (m + 4) h32) rfl rfl (vw_cons (vd_agg (vc_cons vc_v (vc_cons vc_s vc_nil))) (vw_cons (vd_agg (vc_cons vc_v (vc_cons vc_s vc_nil))) vw_nil)) rfl rfl) ?_
        rcases b33 with _ | _
        · replace h := ifF (by decide) h
          refine ol_put rfl rfl rfl (q_not rfl) ?_
          refine ol_put rfl rfl rfl (q_pickF (v := .one (bC true)) rfl rfl) ?_
          refine ol_end ?_
          refine E_seq ?_
          refine L_condT rfl ?_
          refine L_seq ?_
          refine L_ops ?_
          refine ol_put rfl rfl rfl (q_assign (v := .one (bC false)) rfl) ?_
          refine ol_end ?_
          refine E_seq ?_
          refine L_ret ?_
          refine E_seqR ?_
          obtain rfl := Option.some.inj h
          exact E_endF (.inr rfl) (res_tmp rfl res_nil) (vw_cons (vd_one vc_v) vw_nil) (fun h hb => own_p) rfl rfl
        · replace h := ifT (by decide) h
          refine ol_put rfl rfl rfl (q_not rfl) ?_
          refine ol_put rfl rfl rfl (q_pickF (v := .one (bC false)) rfl rfl) ?_
          refine ol_end ?_
          refine E_seq ?_
          refine L_condF rfl ?_
          refine L_skip ?_
          refine E_seq ?_
          refine L_seq ?_
          refine L_ops ?_
          refine ol_put rfl rfl rfl (q_move (v := .one (iC .i64 n1)) rfl) ?_
          refine ol_put rfl rfl rfl (q_ixA (a := 1) ty38 rfl ty25 rfl rfl rfl rfl) ?_
          refine ol_put rfl rfl rfl (q_loadP (v := .agg [iC .i64 n10, .p true (Sl.t r56 s11)]) 2 rfl sz25 rfl rfl rfl rfl) ?_
          refine ol_put rfl rfl rfl (q_ixA (a := 2) ty38 rfl ty25 rfl rfl rfl rfl) ?_
          refine ol_put rfl rfl rfl (q_loadP (v := .agg [iC .i64 n12, .p true (Sl.t r56 s13)]) 2 rfl sz25 rfl rfl rfl rfl) ?_
          obtain ⟨⟨⟨n35, s36⟩, n37⟩, h34, h⟩ := bindS h
          refine ol_put rfl rfl rfl (q_callF (v := .tup [.agg [iC .i64 n35, .p true (Sl.t r56 s36)], .one (iC .i64 n37)]) (args := [.one (iC .i64 n1), .agg [iC .i64 n10, .p true (Sl.t r56 s11)], .agg [iC .i64 n12, .p true (Sl.t r56 s13)]]) (blend_Union_r (m + 0) h34) rfl rfl (vw_cons (vd_one vc_v) (vw_cons (vd_agg (vc_cons vc_v (vc_cons vc_s vc_nil))) (vw_cons (vd_agg (vc_cons vc_v (vc_cons vc_s vc_nil))) vw_nil))) rfl rfl) ?_
          refine ol_put rfl rfl rfl (q_move (v := .tup [.agg [iC .i64 n35, .p true (Sl.t r56 s36)], .one (iC .i64 n37)]) rfl) ?_
          refine ol_put rfl rfl rfl (q_ext (v := .agg [iC .i64 n35, .p true (Sl.t r56 s36)]) rfl rfl) ?_
          refine ol_put rfl rfl rfl (q_ext (v := .one (iC .i64 n37)) rfl rfl) ?_
          refine ol_new rfl rfl rfl (q_alloc ty25 (row := [iC .i64 0, .p true (Sl.t r56 (⟨false, 0, []⟩ : Sl (Int × Int)))]) rfl rfl) (fun k38 => ?_)
          refine ol_wr rfl rfl (q_store (es' := [[iC .i64 n35, .p true (Sl.t r56 s36)]]) 0 rfl rfl rfl sz25 rfl rfl rfl rfl rfl) rfl ?_
          refine ol_put rfl rfl rfl (q_assign (v := .one (iC .i64 n37)) rfl) ?_
          refine ol_end ?_
          refine E_seq ?_
          refine L_seq ?_
          refine L_ops ?_
          refine ol_put rfl rfl rfl (q_move (v := .one (iC .i64 n1)) rfl) ?_
          refine ol_put rfl rfl rfl (q_loadP (v := .agg [iC .i64 n20, .p true (Sl.t r56 s21)]) 2 rfl sz25 rfl rfl rfl rfl) ?_
          refine ol_put rfl rfl rfl (q_ixA (a := 2) ty38 rfl ty25 rfl rfl rfl rfl) ?_
          refine ol_put rfl rfl rfl (q_loadP (v := .agg [iC .i64 n12, .p true (Sl.t r56 s13)]) 3 rfl sz25 rfl rfl rfl rfl) ?_
          obtain ⟨⟨⟨n40, s41⟩, n42⟩, h39, h⟩ := bindS h
          refine ol_put rfl rfl rfl (q_callF (v := .tup [.agg [iC .i64 n40, .p true (Sl.t r56 s41)], .one (iC .i64 n42)]) (args := [.one (iC .i64 n1), .agg [iC .i64 n20, .p true (Sl.t r56 s21)], .agg [iC .i64 n12, .p true (Sl.t r56 s13)]]) (blend_Union_r (m + 0) h39) rfl rfl (vw_cons (vd_one vc_v) (vw_cons (vd_agg (vc_cons vc_v (vc_cons vc_s vc_nil))) (vw_cons (vd_agg (vc_cons vc_v (vc_cons vc_s vc_nil))) vw_nil))) rfl rfl) ?_
          refine ol_put rfl rfl rfl (q_move (v := .tup [.agg [iC .i64 n40, .p true (Sl.t r56 s41)], .one (iC .i64 n42)]) rfl) ?_
          refine ol_put rfl rfl rfl (q_ext (v := .agg [iC .i64 n40, .p true (Sl.t r56 s41)]) rfl rfl) ?_
          refine ol_put rfl rfl rfl (q_ext (v := .one (iC .i64 n42)) rfl rfl) ?_
          refine ol_new rfl rfl rfl (q_alloc ty25 (row := [iC .i64 0, .p true (Sl.t r56 (⟨false, 0, []⟩ : Sl (Int × Int)))]) rfl rfl) (fun k43 => ?_)
          refine ol_wr rfl rfl (q_store (es' := [[iC .i64 n40, .p true (Sl.t r56 s41)]]) 0 rfl rfl rfl sz25 rfl rfl rfl rfl rfl) rfl ?_
          refine ol_put rfl rfl rfl (q_assign (v := .one (iC .i64 n42)) rfl) ?_
          refine ol_end ?_
          refine E_seq ?_
          refine L_seq ?_
          refine L_ops ?_
          refine ol_put rfl rfl rfl (q_move (v := .one (iC .i64 n1)) rfl) ?_
          refine ol_put rfl rfl rfl (q_ixA (a := 0) ty38 rfl ty25 rfl rfl rfl rfl) ?_
          refine ol_put rfl rfl rfl (q_loadP (v := .agg [iC .i64 n8, .p true (Sl.t r56 s9)]) 4 rfl sz25 rfl rfl rfl rfl) ?_
          refine ol_put rfl rfl rfl (q_loadP (v := .agg [iC .i64 n35, .p true (Sl.t r56 s36)]) 1 rfl sz25 rfl rfl rfl rfl) ?_
          obtain ⟨⟨⟨n45, s46⟩, n47⟩, h44, h⟩ := bindS h
          refine ol_put rfl rfl rfl (q_callF (v := .tup [.agg [iC .i64 n45, .p true (Sl.t r56 s46)], .one (iC .i64 n47)]) (args := [.one (iC .i64 n1), .agg [iC .i64 n8, .p true (Sl.t r56 s9)], .agg [iC .i64 n35, .p true (Sl.t r56 s36)]]) (blend_Union_r (m + 0) h44) rfl rfl (vw_cons (vd_one vc_v) (vw_cons (vd_agg (vc_cons vc_v (vc_cons vc_s vc_nil))) (vw_cons (vd_agg (vc_cons vc_v (vc_cons vc_s vc_nil))) vw_nil))) rfl rfl) ?_
          refine ol_put rfl rfl rfl (q_move (v := .tup [.agg [iC .i64 n45, .p true (Sl.t r56 s46)], .one (iC .i64 n47)]) rfl) ?_
          refine ol_put rfl rfl rfl (q_ext (v := .agg [iC .i64 n45, .p true (Sl.t r56 s46)]) rfl rfl) ?_
          refine ol_put rfl rfl rfl (q_ext (v := .one (iC .i64 n47)) rfl rfl) ?_
          refine ol_new rfl rfl rfl (q_alloc ty25 (row := [iC .i64 0, .p true (Sl.t r56 (⟨false, 0, []⟩ : Sl (Int × Int)))]) rfl rfl) (fun k48 => ?_)
          refine ol_wr rfl rfl (q_store (es' := [[iC .i64 n45, .p true (Sl.t r56 s46)]]) 0 rfl rfl rfl sz25 rfl rfl rfl rfl rfl) rfl ?_
          refine ol_put rfl rfl rfl (q_assign (v := .one (iC .i64 n47)) rfl) ?_
          refine ol_end ?_
          refine E_seq ?_
          refine L_seq ?_
          refine L_ops ?_
          refine ol_put rfl rfl rfl (q_ixA (a := 0) ty38 rfl ty25 rfl rfl rfl rfl) ?_
          refine ol_put rfl rfl rfl (q_loadP (v := .agg [iC .i64 n8, .p true (Sl.t r56 s9)]) 5 rfl sz25 rfl rfl rfl rfl) ?_
          refine ol_put rfl rfl rfl (q_ixA (a := 0) ty38 rfl ty25 rfl rfl rfl rfl) ?_
          refine ol_put rfl rfl rfl (q_loadP (v := .agg [iC .i64 n8, .p true (Sl.t r56 s9)]) 5 rfl sz25 rfl rfl rfl rfl) ?_
          obtain ⟨⟨⟨n50, s51⟩, n52⟩, h49, h⟩ := bindS h
          refine ol_put rfl rfl rfl (q_callF (v := .tup [.agg [iC .i64 n50, .p true (Sl.t r56 s51)], .one (iC .i64 n52)]) (args := [.one (iC .i64 1), .agg [iC .i64 n8, .p true (Sl.t r56 s9)], .agg [iC .i64 n8, .p true (Sl.t r56 s9)]]) (blend_Union_r (m + 0) h49) rfl rfl (vw_cons (vd_one vc_v) (vw_cons (vd_agg (vc_cons vc_v (vc_cons vc_s vc_nil))) (vw_cons (vd_agg (vc_cons vc_v (vc_cons vc_s vc_nil))) vw_nil))) rfl rfl) ?_
          refine ol_put rfl rfl rfl (q_move (v := .tup [.agg [iC .i64 n50, .p true (Sl.t r56 s51)], .one (iC .i64 n52)]) rfl) ?_
          refine ol_put rfl rfl rfl (q_ext (v := .agg [iC .i64 n50, .p true (Sl.t r56 s51)]) rfl rfl) ?_
          refine ol_put rfl rfl rfl (q_ext (v := .one (iC .i64 n52)) rfl rfl) ?_
          refine ol_new rfl rfl rfl (q_alloc ty25 (row := [iC .i64 0, .p true (Sl.t r56 (⟨false, 0, []⟩ : Sl (Int × Int)))]) rfl rfl) (fun k53 => ?_)
          refine ol_wr rfl rfl (q_store (es' := [[iC .i64 n50, .p true (Sl.t r56 s51)]]) 0 rfl rfl rfl sz25 rfl rfl rfl rfl rfl) rfl ?_
          refine ol_put rfl rfl rfl (q_assign (v := .one (iC .i64 n52)) rfl) ?_
          refine ol_end ?_
          refine E_seq ?_
          refine L_seq ?_
          refine L_ops ?_
          refine ol_put rfl rfl rfl (q_loadP (v := .agg [iC .i64 n50, .p true (Sl.t r56 s51)]) 0 rfl sz25 rfl rfl rfl rfl) ?_
          refine ol_put rfl rfl rfl (q_ixA (a := 0) ty38 rfl ty25 rfl rfl rfl rfl) ?_
          refine ol_put rfl rfl rfl (q_loadP (v := .agg [iC .i64 n8, .p true (Sl.t r56 s9)]) 6 rfl sz25 rfl rfl rfl rfl) ?_
          obtain ⟨b55, h54, h⟩ := bindS h
          refine ol_put rfl rfl rfl (q_callF (v := .one (bC b55)) (args := [.agg [iC .i64 n50, .p true (Sl.t r56 s51)], .agg [iC .i64 n8, .p true (Sl.t r56 s9)]]) (ref09_Same_r (m + 4) h54) rfl rfl (vw_cons (vd_agg (vc_cons vc_v (vc_cons vc_s vc_nil))) (vw_cons (vd_agg (vc_cons vc_v (vc_cons vc_s vc_nil))) vw_nil)) rfl rfl) ?_
          refine ol_put rfl rfl rfl (q_move (v := .one (bC b55)) rfl) ?_
          rcases b55 with _ | _
          · replace h := ifF (by decide) h
            refine ol_skip rfl rfl rfl ?_
            refine ol_skip rfl rfl rfl ?_
            refine ol_skip rfl rfl rfl ?_
            refine ol_skip rfl rfl rfl ?_
            refine ol_skip rfl rfl rfl ?_
            refine ol_skip rfl rfl rfl ?_
            refine ol_skip rfl rfl rfl ?_
            refine ol_skip rfl rfl rfl ?_
            refine ol_skip rfl rfl rfl ?_
            refine ol_skip rfl rfl rfl ?_
            refine ol_skip rfl rfl rfl ?_
            refine ol_skip rfl rfl rfl ?_
            refine ol_skip rfl rfl rfl ?_
            refine ol_skip rfl rfl rfl ?_
            refine ol_skip rfl rfl rfl ?_
            refine ol_skip rfl rfl rfl ?_
            refine ol_skip rfl rfl rfl ?_
            refine ol_skip rfl rfl rfl ?_
            refine ol_skip rfl rfl rfl ?_
            refine ol_skip rfl rfl rfl ?_
            refine ol_skip rfl rfl rfl ?_
            refine ol_skip rfl rfl rfl ?_
            refine ol_skip rfl rfl rfl ?_
            refine ol_put rfl rfl rfl (q_pickF (v := .one (bC false)) rfl rfl) ?_
            refine ol_put rfl rfl rfl (q_assign (v := .one (bC false)) rfl) ?_
            refine ol_end ?_
            refine E_seq ?_
            refine L_ret ?_
            obtain rfl := Option.some.inj h
            exact E_endF (.inr rfl) (res_tmp rfl res_nil) (vw_cons (vd_one vc_v) vw_nil) (fun h hb => own_p) rfl rfl
          · replace h := ifT (by decide) h
            refine ol_put rfl rfl rfl (q_move (v := .one (iC .i64 n22)) rfl) ?_
            by_cases c56 : n22 ≠ 0
            · replace h := ifT c56 h
              refine ol_put rfl rfl rfl (q_bin rfl rfl (p_neq_t _ _ _ _ _ c56) rfl) ?_
              refine ol_put rfl rfl rfl (q_move (v := .one (bC true)) rfl) ?_
              refine ol_skip rfl rfl rfl ?_
              refine ol_skip rfl rfl rfl ?_
              refine ol_put rfl rfl rfl (q_pickT (v := .one (bC true)) rfl rfl) ?_
              refine ol_put rfl rfl rfl (q_move (v := .one (bC true)) rfl) ?_
              refine ol_skip rfl rfl rfl ?_
              refine ol_skip rfl rfl rfl ?_
              refine ol_put rfl rfl rfl (q_pickT (v := .one (bC true)) rfl rfl) ?_
              refine ol_put rfl rfl rfl (q_move (v := .one (bC true)) rfl) ?_
              refine ol_skip rfl rfl rfl ?_
              refine ol_skip rfl rfl rfl ?_
              refine ol_put rfl rfl rfl (q_pickT (v := .one (bC true)) rfl rfl) ?_
              refine ol_put rfl rfl rfl (q_move (v := .one (bC true)) rfl) ?_
              refine ol_skip rfl rfl rfl ?_
              refine ol_skip rfl rfl rfl ?_
              refine ol_put rfl rfl rfl (q_pickT (v := .one (bC true)) rfl rfl) ?_
              refine ol_put rfl rfl rfl (q_move (v := .one (bC true)) rfl) ?_
              refine ol_skip rfl rfl rfl ?_
              refine ol_skip rfl rfl rfl ?_
              refine ol_skip rfl rfl rfl ?_
              refine ol_put rfl rfl rfl (q_pickT (v := .one (bC true)) rfl rfl) ?_
              refine ol_put rfl rfl rfl (q_pickT (v := .one (bC true)) rfl rfl) ?_
              refine ol_put rfl rfl rfl (q_assign (v := .one (bC true)) rfl) ?_
              refine ol_end ?_
              refine E_seq ?_
              refine L_ret ?_
              obtain rfl := Option.some.inj h
              exact E_endF (.inr rfl) (res_tmp rfl res_nil) (vw_cons (vd_one vc_v) vw_nil) (fun h hb => own_p) rfl rfl
            · replace h := ifF c56 h
              refine ol_put rfl rfl rfl (q_bin rfl rfl (p_neq_f _ _ _ _ _ c56) rfl) ?_
              refine ol_put rfl rfl rfl (q_move (v := .one (bC false)) rfl) ?_
              refine ol_put rfl rfl rfl (q_move (v := .one (iC .i64 n37)) rfl) ?_
              by_cases c57 : n37 ≠ 0
              · replace h := ifT c57 h
                refine ol_put rfl rfl rfl (q_bin rfl rfl (p_neq_t _ _ _ _ _ c57) rfl) ?_
                refine ol_put rfl rfl rfl (q_pickF (v := .one (bC true)) rfl rfl) ?_
                refine ol_put rfl rfl rfl (q_move (v := .one (bC true)) rfl) ?_
                refine ol_skip rfl rfl rfl ?_
                refine ol_skip rfl rfl rfl ?_
                refine ol_put rfl rfl rfl (q_pickT (v := .one (bC true)) rfl rfl) ?_
                refine ol_put rfl rfl rfl (q_move (v := .one (bC true)) rfl) ?_
                refine ol_skip rfl rfl rfl ?_
                refine ol_skip rfl rfl rfl ?_
                refine ol_put rfl rfl rfl (q_pickT (v := .one (bC true)) rfl rfl) ?_
                refine ol_put rfl rfl rfl (q_move (v := .one (bC true)) rfl) ?_
                refine ol_skip rfl rfl rfl ?_
                refine ol_skip rfl rfl rfl ?_
                refine ol_put rfl rfl rfl (q_pickT (v := .one (bC true)) rfl rfl) ?_
                refine ol_put rfl rfl rfl (q_move (v := .one (bC true)) rfl) ?_
                refine ol_skip rfl rfl rfl ?_
                refine ol_skip rfl rfl rfl ?_
                refine ol_skip rfl rfl rfl ?_
                refine ol_put rfl rfl rfl (q_pickT (v := .one (bC true)) rfl rfl) ?_
                refine ol_put rfl rfl rfl (q_pickT (v := .one (bC true)) rfl rfl) ?_
                refine ol_put rfl rfl rfl (q_assign (v := .one (bC true)) rfl) ?_
                refine ol_end ?_
                refine E_seq ?_
                refine L_ret ?_
                obtain rfl := Option.some.inj h
                exact E_endF (.inr rfl) (res_tmp rfl res_nil) (vw_cons (vd_one vc_v) vw_nil) (fun h hb => own_p) rfl rfl
              · replace h := ifF c57 h
                refine ol_put rfl rfl rfl (q_bin rfl rfl (p_neq_f _ _ _ _ _ c57) rfl) ?_
                refine ol_put rfl rfl rfl (q_pickF (v := .one (bC false)) rfl rfl) ?_
                refine ol_put rfl rfl rfl (q_move (v := .one (bC false)) rfl) ?_
                refine ol_put rfl rfl rfl (q_move (v := .one (iC .i64 n42)) rfl) ?_
                by_cases c58 : n42 ≠ 0
                · replace h := ifT c58 h
                  refine ol_put rfl rfl rfl (q_bin rfl rfl (p_neq_t _ _ _ _ _ c58) rfl) ?_
                  refine ol_put rfl rfl rfl (q_pickF (v := .one (bC true)) rfl rfl) ?_
                  refine ol_put rfl rfl rfl (q_move (v := .one (bC true)) rfl) ?_
                  refine ol_skip rfl rfl rfl ?_
                  refine ol_skip rfl rfl rfl ?_
                  refine ol_put rfl rfl rfl (q_pickT (v := .one (bC true)) rfl rfl) ?_
                  refine ol_put rfl rfl rfl (q_move (v := .one (bC true)) rfl) ?_
                  refine ol_skip rfl rfl rfl ?_
                  refine ol_skip rfl rfl rfl ?_
                  refine ol_put rfl rfl rfl (q_pickT (v := .one (bC true)) rfl rfl) ?_
                  refine ol_put rfl rfl rfl (q_move (v := .one (bC true)) rfl) ?_
                  refine ol_skip rfl rfl rfl ?_
                  refine ol_skip rfl rfl rfl ?_
                  refine ol_skip rfl rfl rfl ?_
                  refine ol_put rfl rfl rfl (q_pickT (v := .one (bC true)) rfl rfl) ?_
                  refine ol_put rfl rfl rfl (q_pickT (v := .one (bC true)) rfl rfl) ?_
                  refine ol_put rfl rfl rfl (q_assign (v := .one (bC true)) rfl) ?_
                  refine ol_end ?_
                  refine E_seq ?_
                  refine L_ret ?_
                  obtain rfl := Option.some.inj h
                  exact E_endF (.inr rfl) (res_tmp rfl res_nil) (vw_cons (vd_one vc_v) vw_nil) (fun h hb => own_p) rfl rfl
                · replace h := ifF c58 h
                  refine ol_put rfl rfl rfl (q_bin rfl rfl (p_neq_f _ _ _ _ _ c58) rfl) ?_
                  refine ol_put rfl rfl rfl (q_pickF (v := .one (bC false)) rfl rfl) ?_
                  refine ol_put rfl rfl rfl (q_move (v := .one (bC false)) rfl) ?_
                  refine ol_put rfl rfl rfl (q_move (v := .one (iC .i64 n47)) rfl) ?_
                  by_cases c59 : n47 ≠ 0
                  · replace h := ifT c59 h
                    refine ol_put rfl rfl rfl (q_bin rfl rfl (p_neq_t _ _ _ _ _ c59) rfl) ?_
                    refine ol_put rfl rfl rfl (q_pickF (v := .one (bC true)) rfl rfl) ?_
                    refine ol_put rfl rfl rfl (q_move (v := .one (bC true)) rfl) ?_
                    refine ol_skip rfl rfl rfl ?_
                    refine ol_skip rfl rfl rfl ?_
                    refine ol_put rfl rfl rfl (q_pickT (v := .one (bC true)) rfl rfl) ?_
                    refine ol_put rfl rfl rfl (q_move (v := .one (bC true)) rfl) ?_
                    refine ol_skip rfl rfl rfl ?_
                    refine ol_skip rfl rfl rfl ?_
                    refine ol_skip rfl rfl rfl ?_
                    refine ol_put rfl rfl rfl (q_pickT (v := .one (bC true)) rfl rfl) ?_
                    refine ol_put rfl rfl rfl (q_pickT (v := .one (bC true)) rfl rfl) ?_
                    refine ol_put rfl rfl rfl (q_assign (v := .one (bC true)) rfl) ?_
                    refine ol_end ?_
                    refine E_seq ?_
                    refine L_ret ?_
                    obtain rfl := Option.some.inj h
                    exact E_endF (.inr rfl) (res_tmp rfl res_nil) (vw_cons (vd_one vc_v) vw_nil) (fun h hb => own_p) rfl rfl
                  · replace h := ifF c59 h
                    refine ol_put rfl rfl rfl (q_bin rfl rfl (p_neq_f _ _ _ _ _ c59) rfl) ?_
                    refine ol_put rfl rfl rfl (q_pickF (v := .one (bC false)) rfl rfl) ?_
                    refine ol_put rfl rfl rfl (q_move (v := .one (bC false)) rfl) ?_
                    refine ol_put rfl rfl rfl (q_move (v := .one (iC .i64 n1)) rfl) ?_
                    by_cases c60 : n1 = 2
                    · replace h := ifT c60 h
                      refine ol_put rfl rfl rfl (q_bin rfl rfl (p_eql_t _ _ _ _ _ c60) rfl) ?_
                      refine ol_put rfl rfl rfl (q_pickF (v := .one (bC true)) rfl rfl) ?_
                      refine ol_put rfl rfl rfl (q_move (v := .one (bC true)) rfl) ?_
                      refine ol_skip rfl rfl rfl ?_
                      refine ol_skip rfl rfl rfl ?_
                      refine ol_skip rfl rfl rfl ?_
                      refine ol_put rfl rfl rfl (q_pickT (v := .one (bC true)) rfl rfl) ?_
                      refine ol_put rfl rfl rfl (q_pickT (v := .one (bC true)) rfl rfl) ?_
                      refine ol_put rfl rfl rfl (q_assign (v := .one (bC true)) rfl) ?_
                      refine ol_end ?_
                      refine E_seq ?_
                      refine L_ret ?_
                      obtain rfl := Option.some.inj h
                      exact E_endF (.inr rfl) (res_tmp rfl res_nil) (vw_cons (vd_one vc_v) vw_nil) (fun h hb => own_p) rfl rfl
                    · replace h := ifF c60 h
                      refine ol_put rfl rfl rfl (q_bin rfl rfl (p_eql_f _ _ _ _ _ c60) rfl) ?_
                      refine ol_put rfl rfl rfl (q_pickF (v := .one (bC false)) rfl rfl) ?_
                      refine ol_put rfl rfl rfl (q_move (v := .one (bC false)) rfl) ?_
                      refine ol_put rfl rfl rfl (q_loadP (v := .agg [iC .i64 n40, .p true (Sl.t r56 s41)]) 2 rfl sz25 rfl rfl rfl rfl) ?_
                      refine ol_put rfl rfl rfl (q_loadP (v := .agg [iC .i64 n45, .p true (Sl.t r56 s46)]) 1 rfl sz25 rfl rfl rfl rfl) ?_
                      obtain ⟨b62, h61, h⟩ := bindS h
                      refine ol_put rfl rfl rfl (q_callF (v := .one (bC b62)) (args := [.agg [iC .i64 n40, .p true (Sl.t r56 s41)], .agg [iC .i64 n45, .p true (Sl.t r56 s46)]]) (ref09_Same_r (m + 4) h61) rfl rfl (vw_cons (vd_agg (vc_cons vc_v (vc_cons vc_s vc_nil))) (vw_cons (vd_agg (vc_cons vc_v (vc_cons vc_s vc_nil))) vw_nil)) rfl rfl) ?_
                      refine ol_put rfl rfl rfl (q_pickF (v := .one (bC b62)) rfl rfl) ?_
                      refine ol_put rfl rfl rfl (q_pickT (v := .one (bC b62)) rfl rfl) ?_
                      refine ol_put rfl rfl rfl (q_assign (v := .one (bC b62)) rfl) ?_
                      refine ol_end ?_
                      refine E_seq ?_
                      refine L_ret ?_
                      obtain rfl := Option.some.inj h
                      exact E_endF (.inr rfl) (res_tmp rfl res_nil) (vw_cons (vd_one vc_v) vw_nil) (fun h hb => own_p) rfl rfl
end Ev
end Go.Proofs.Ytlcfdmjkbaegpaa
