/- Functions of the program as functions on data, and that they are. -/
import Derived.Test.YtioagbejilllfaaLf3
import Derived.Test.YtioagbejilllfaaLf4
import Derived.Test.YtioagbejilllfaaLf7
import Derived.Test.YtioagbejilllfaaLf8
import Derived.Test.YtioagbejilllfaaLy1
namespace Go.Proofs.Ytioagbejilllfaa
namespace Ev
open Go
set_option linter.unusedVariables false
set_option linter.unusedSimpArgs false
set_option maxRecDepth 100000
set_option maxHeartbeats 1000000
attribute [local irreducible] OpsL StL TnL WpL EndL
noncomputable def law12_FoldBack (n1 : Int) (a1 : (Sl (Int × Int)) × (Sl (Int × Int))) (s4 : Sl (Int)) : Option (Bool) :=
  match a1 with
  | (s2, s3) => (if ((s4.l.length : Nat) : Int) > 4 then ((FL).bind fun b8 => some b8) else ((law09_Some n1 s2).bind fun (n10, s11) => ((ref03_Part s4 0 n10).bind fun s14 => ((ref03_List (mo 1 s14)).bind fun s17 => ((law09_Some (IntKind.u8.wrap ((s17.length : Nat) : Int)) s3).bind fun (n20, s21) => ((fold_Assign (n10, s11) (mo 1 s17) (n20, s21)).bind fun ((n24, s25), n26) => ((fold_Select (n24, s25) (mo 1 s17)).bind fun ((n29, s30), n31) => ((fold_Select (n10, s11) (mo 1 s17)).bind fun ((n34, s35), n36) => ((fold_Assign (n10, s11) (mo 1 s17) (n34, s35)).bind fun ((n39, s40), n41) => ((FL).bind fun b44 => (if b44 = true then (if n26 = 0 then (if n31 = 0 then (if n36 = 0 then (if n41 = 0 then ((ref09_Same (n29, s30) (n20, s21)).bind fun b50 => (if b50 = true then ((ref09_Same (n39, s40) (n10, s11)).bind fun b52 => some b52) else some false)) else some false) else some false) else some false) else some false) else some false)))))))))))
theorem law12_FoldBack_r (m : Nat) {n1 : Int} {a1 : (Sl (Int × Int)) × (Sl (Int × Int))} {s4 : Sl (Int)} {out : Bool} (h : law12_FoldBack n1 a1 s4 = some out) : RunsP E1 (m + 6) 7 [.one (iT .u8 n1), .agg (r47 a1), .one (Sl.t r54 s4)] (.fresh, [.one (bT out)]) := by
  obtain ⟨s2, s3⟩ := a1
  refine fn_F rfl (by rw [E1_fn]; exact show fiOf Try.prog 7 = _ by unfold fiOf; rw [Try.func7]; unfold Try.f7; rfl) rfl ?_
  dsimp only
  unfold law12_FoldBack at h
  refine L_seq ?_
  refine L_ops ?_
  refine ol_new rfl rfl rfl (q_box ty47 rfl (cs := [.p false (Sl.t r33 s2), .p false (Sl.t r33 s3)]) rfl rfl) (fun k5 => ?_)
  refine ol_put rfl rfl rfl (q_assign (v := .one (bC false)) rfl) ?_
  refine ol_end ?_
  refine E_seq ?_
  refine L_seq ?_
  refine L_seq ?_
  refine L_ops ?_
  refine ol_put rfl rfl rfl (q_move (v := .one (.p false (Sl.t r54 s4))) rfl) ?_
  refine ol_put rfl rfl rfl (q_lenS rfl ty62 rfl rfl rfl rfl) ?_
  by_cases c6 : ((s4.l.length : Nat) : Int) > 4
  · replace h := ifT c6 h
    refine ol_put rfl rfl rfl (q_bin rfl rfl (p_gtr_t _ _ _ _ _ c6) rfl) ?_
    refine ol_end ?_
    refine E_seq ?_
    refine L_condT rfl ?_
    refine L_seq ?_
    refine L_ops ?_
    obtain ⟨b8, h7, h⟩ := bindS h
    refine ol_put rfl rfl rfl (q_callF (v := .one (bC b8)) (args := []) (FL_r (m + 4) h7) rfl rfl vw_nil rfl rfl) ?_
    refine ol_put rfl rfl rfl (q_assign (v := .one (bC b8)) rfl) ?_
    refine ol_end ?_
    refine E_seq ?_
    refine L_ret ?_
    refine E_seqR ?_
    obtain rfl := Option.some.inj h
    exact E_endF (.inr rfl) (res_tmp rfl res_nil) (vw_cons (vd_one vc_v) vw_nil) (fun h hb => own_p) rfl rfl
  · replace h := ifF c6 h
    refine ol_put rfl rfl rfl (q_bin rfl rfl (p_gtr_f _ _ _ _ _ c6) rfl) ?_
    refine ol_end ?_
    refine E_seq ?_
    refine L_condF rfl ?_
    refine L_skip ?_
    refine E_seq ?_
    refine L_seq ?_
    refine L_ops ?_
    refine ol_put rfl rfl rfl (q_move (v := .one (iC .u8 n1)) rfl) ?_
    refine ol_put rfl rfl rfl (q_ixA (a := 0) ty47 rfl ty23 rfl rfl rfl rfl) ?_
    refine ol_put rfl rfl rfl (q_loadP (v := .one (.p false (Sl.t r33 s2))) 0 rfl sz23 rfl rfl rfl rfl) ?_
    obtain ⟨⟨n10, s11⟩, h9, h⟩ := bindS h
    refine ol_put rfl rfl rfl (q_callF (v := .agg [iC .i64 n10, .p true (Sl.t r33 s11)]) (args := [.one (iC .u8 n1), .one (.p false (Sl.t r33 s2))]) (law09_Some_r (m + 0) h9) rfl rfl (vw_cons (vd_one vc_v) (vw_cons (vd_one vc_s) vw_nil)) rfl rfl) ?_
    refine ol_new rfl rfl rfl (q_alloc ty25 (row := [iC .i64 0, .p true (Sl.t r33 (⟨false, 0, []⟩ : Sl (Int × Int)))]) rfl rfl) (fun k12 => ?_)
    refine ol_wr rfl rfl (q_store (es' := [[iC .i64 n10, .p true (Sl.t r33 s11)]]) 0 rfl rfl rfl sz25 rfl rfl rfl rfl rfl) rfl ?_
    refine ol_end ?_
    refine E_seq ?_
    refine L_seq ?_
    refine L_ops ?_
    refine ol_put rfl rfl rfl (q_move (v := .one (.p false (Sl.t r54 s4))) rfl) ?_
    refine ol_put rfl rfl rfl (q_fieldP rfl fa25_0 rfl) ?_
    refine ol_put rfl rfl rfl (q_loadP (v := .one (iC .i64 n10)) 0 rfl sz3 rfl rfl rfl rfl) ?_
    obtain ⟨s14, h13, h⟩ := bindS h
    refine ol_callM (r := r54) (l := s14) (args := [.one (.p false (Sl.t r54 s4)), .one (iC .i64 0), .one (iC .i64 n10)]) (ref03_Part_r (m + 2) h13) rfl rfl rfl rfl rfl rfl (vw_cons (vd_one vc_s) (vw_cons (vd_one vc_v) (vw_cons (vd_one vc_v) vw_nil))) rfl (fun k15 => ?_)
    obtain ⟨s17, h16, h⟩ := bindS h
    refine ol_callM (r := r3) (l := s17) (args := [.one (moC s14 k15)]) (ref03_List_r (m + 3) h16) rfl rfl rfl rfl rfl rfl (vw_cons (vd_one (vc_M (r := r54) 0 rfl (fun x h m => rfl))) vw_nil) rfl (fun k18 => ?_)
    refine ol_put rfl rfl rfl (q_assign (v := .one (moC s17 k18)) rfl) ?_
    refine ol_end ?_
    refine E_seq ?_
    refine L_seq ?_
    refine L_ops ?_
    refine ol_put rfl rfl rfl (q_move (v := .one (moC s17 k18)) rfl) ?_
    refine ol_put rfl rfl rfl (q_lenM (l := s17) rfl ty42 rfl rfl rfl rfl) ?_
    refine ol_put rfl rfl rfl (q_conv rfl (cv3_5_i64 _) rfl) ?_
    refine ol_put rfl rfl rfl (q_ixA (a := 1) ty47 rfl ty23 rfl rfl rfl rfl) ?_
    refine ol_put rfl rfl rfl (q_loadP (v := .one (.p false (Sl.t r33 s3))) 3 rfl sz23 rfl rfl rfl rfl) ?_
    obtain ⟨⟨n20, s21⟩, h19, h⟩ := bindS h
    refine ol_put rfl rfl rfl (q_callF (v := .agg [iC .i64 n20, .p true (Sl.t r33 s21)]) (args := [.one (iC .u8 (IntKind.u8.wrap ((s17.length : Nat) : Int))), .one (.p false (Sl.t r33 s3))]) (law09_Some_r (m + 0) h19) rfl rfl (vw_cons (vd_one vc_v) (vw_cons (vd_one vc_s) vw_nil)) rfl rfl) ?_
    refine ol_new rfl rfl rfl (q_alloc ty25 (row := [iC .i64 0, .p true (Sl.t r33 (⟨false, 0, []⟩ : Sl (Int × Int)))]) rfl rfl) (fun k22 => ?_)
    refine ol_wr rfl rfl (q_store (es' := [[iC .i64 n20, .p true (Sl.t r33 s21)]]) 0 rfl rfl rfl sz25 rfl rfl rfl rfl rfl) rfl ?_
    refine ol_end ?_
    refine E_seq ?_
    refine L_seq ?_
    refine L_ops ?_
    refine ol_put rfl rfl rfl (q_loadP (v := .agg [iC .i64 n10, .p true (Sl.t r33 s11)]) 3 rfl sz25 rfl rfl rfl rfl) ?_
    refine ol_put rfl rfl rfl (q_move (v := .one (moC s17 k18)) rfl) ?_
    refine ol_put rfl rfl rfl (q_loadP (v := .agg [iC .i64 n20, .p true (Sl.t r33 s21)]) 0 rfl sz25 rfl rfl rfl rfl) ?_
    obtain ⟨⟨⟨n24, s25⟩, n26⟩, h23, h⟩ := bindS h
    refine ol_put rfl rfl rfl (q_callF (v := .tup [.agg [iC .i64 n24, .p true (Sl.t r33 s25)], .one (iC .i64 n26)]) (args := [.agg [iC .i64 n10, .p true (Sl.t r33 s11)], .one (moC s17 k18), .agg [iC .i64 n20, .p true (Sl.t r33 s21)]]) (fold_Assign_r (m + 1) h23) rfl rfl (vw_cons (vd_agg (vc_cons vc_v (vc_cons vc_s vc_nil))) (vw_cons (vd_one (vc_M (r := r3) 1 rfl (fun x h m => rfl))) (vw_cons (vd_agg (vc_cons vc_v (vc_cons vc_s vc_nil))) vw_nil))) rfl rfl) ?_
    refine ol_put rfl rfl rfl (q_move (v := .tup [.agg [iC .i64 n24, .p true (Sl.t r33 s25)], .one (iC .i64 n26)]) rfl) ?_
    refine ol_put rfl rfl rfl (q_ext (v := .agg [iC .i64 n24, .p true (Sl.t r33 s25)]) rfl rfl) ?_
    refine ol_put rfl rfl rfl (q_ext (v := .one (iC .i64 n26)) rfl rfl) ?_
    refine ol_new rfl rfl rfl (q_alloc ty25 (row := [iC .i64 0, .p true (Sl.t r33 (⟨false, 0, []⟩ : Sl (Int × Int)))]) rfl rfl) (fun k27 => ?_)
    refine ol_wr rfl rfl (q_store (es' := [[iC .i64 n24, .p true (Sl.t r33 s25)]]) 0 rfl rfl rfl sz25 rfl rfl rfl rfl rfl) rfl ?_
    refine ol_put rfl rfl rfl (q_assign (v := .one (iC .i64 n26)) rfl) ?_
    refine ol_end ?_
    refine E_seq ?_
    refine L_seq ?_
    refine L_ops ?_
    refine ol_put rfl rfl rfl (q_loadP (v := .agg [iC .i64 n24, .p true (Sl.t r33 s25)]) 0 rfl sz25 rfl rfl rfl rfl) ?_
    refine ol_put rfl rfl rfl (q_move (v := .one (moC s17 k18)) rfl) ?_
    obtain ⟨⟨⟨n29, s30⟩, n31⟩, h28, h⟩ := bindS h
    refine ol_put rfl rfl rfl (q_callF (v := .tup [.agg [iC .i64 n29, .p true (Sl.t r33 s30)], .one (iC .i64 n31)]) (args := [.agg [iC .i64 n24, .p true (Sl.t r33 s25)], .one (moC s17 k18)]) (fold_Select_r (m + 1) h28) rfl rfl (vw_cons (vd_agg (vc_cons vc_v (vc_cons vc_s vc_nil))) (vw_cons (vd_one (vc_M (r := r3) 2 rfl (fun x h m => rfl))) vw_nil)) rfl rfl) ?_
    refine ol_put rfl rfl rfl (q_move (v := .tup [.agg [iC .i64 n29, .p true (Sl.t r33 s30)], .one (iC .i64 n31)]) rfl) ?_
    refine ol_put rfl rfl rfl (q_ext (v := .agg [iC .i64 n29, .p true (Sl.t r33 s30)]) rfl rfl) ?_
    refine ol_put rfl rfl rfl (q_ext (v := .one (iC .i64 n31)) rfl rfl) ?_
    refine ol_new rfl rfl rfl (q_alloc ty25 (row := [iC .i64 0, .p true (Sl.t r33 (⟨false, 0, []⟩ : Sl (Int × Int)))]) rfl rfl) (fun k32 => ?_)
    refine ol_wr rfl rfl (q_store (es' := [[iC .i64 n29, .p true (Sl.t r33 s30)]]) 0 rfl rfl rfl sz25 rfl rfl rfl rfl rfl) rfl ?_
    refine ol_put rfl rfl rfl (q_assign (v := .one (iC .i64 n31)) rfl) ?_
    refine ol_end ?_
    refine E_seq ?_
    refine L_seq ?_
    refine L_ops ?_
    refine ol_put rfl rfl rfl (q_loadP (v := .agg [iC .i64 n10, .p true (Sl.t r33 s11)]) 5 rfl sz25 rfl rfl rfl rfl) ?_
    refine ol_put rfl rfl rfl (q_move (v := .one (moC s17 k18)) rfl) ?_
    obtain ⟨⟨⟨n34, s35⟩, n36⟩, h33, h⟩ := bindS h
    refine ol_put rfl rfl rfl (q_callF (v := .tup [.agg [iC .i64 n34, .p true (Sl.t r33 s35)], .one (iC .i64 n36)]) (args := [.agg [iC .i64 n10, .p true (Sl.t r33 s11)], .one (moC s17 k18)]) (fold_Select_r (m + 1) h33) rfl rfl (vw_cons (vd_agg (vc_cons vc_v (vc_cons vc_s vc_nil))) (vw_cons (vd_one (vc_M (r := r3) 3 rfl (fun x h m => rfl))) vw_nil)) rfl rfl) ?_
    refine ol_put rfl rfl rfl (q_move (v := .tup [.agg [iC .i64 n34, .p true (Sl.t r33 s35)], .one (iC .i64 n36)]) rfl) ?_
    refine ol_put rfl rfl rfl (q_ext (v := .agg [iC .i64 n34, .p true (Sl.t r33 s35)]) rfl rfl) ?_
    refine ol_put rfl rfl rfl (q_ext (v := .one (iC .i64 n36)) rfl rfl) ?_
    refine ol_new rfl rfl rfl (q_alloc ty25 (row := [iC .i64 0, .p true (Sl.t r33 (⟨false, 0, []⟩ : Sl (Int × Int)))]) rfl rfl) (fun k37 => ?_)
    refine ol_wr rfl rfl (q_store (es' := [[iC .i64 n34, .p true (Sl.t r33 s35)]]) 0 rfl rfl rfl sz25 rfl rfl rfl rfl rfl) rfl ?_
    refine ol_put rfl rfl rfl (q_assign (v := .one (iC .i64 n36)) rfl) ?_
    refine ol_end ?_
    refine E_seq ?_
    refine L_seq ?_
    refine L_ops ?_
    refine ol_put rfl rfl rfl (q_loadP (v := .agg [iC .i64 n10, .p true (Sl.t r33 s11)]) 6 rfl sz25 rfl rfl rfl rfl) ?_
    refine ol_put rfl rfl rfl (q_move (v := .one (moC s17 k18)) rfl) ?_
    refine ol_put rfl rfl rfl (q_loadP (v := .agg [iC .i64 n34, .p true (Sl.t r33 s35)]) 0 rfl sz25 rfl rfl rfl rfl) ?_
    obtain ⟨⟨⟨n39, s40⟩, n41⟩, h38, h⟩ := bindS h
    refine ol_put rfl rfl rfl (q_callF (v := .tup [.agg [iC .i64 n39, .p true (Sl.t r33 s40)], .one (iC .i64 n41)]) (args := [.agg [iC .i64 n10, .p true (Sl.t r33 s11)], .one (moC s17 k18), .agg [iC .i64 n34, .p true (Sl.t r33 s35)]]) (fold_Assign_r (m + 1) h38) rfl rfl (vw_cons (vd_agg (vc_cons vc_v (vc_cons vc_s vc_nil))) (vw_cons (vd_one (vc_M (r := r3) 4 rfl (fun x h m => rfl))) (vw_cons (vd_agg (vc_cons vc_v (vc_cons vc_s vc_nil))) vw_nil))) rfl rfl) ?_
    refine ol_put rfl rfl rfl (q_move (v := .tup [.agg [iC .i64 n39, .p true (Sl.t r33 s40)], .one (iC .i64 n41)]) rfl) ?_
    refine ol_put rfl rfl rfl (q_ext (v := .agg [iC .i64 n39, .p true (Sl.t r33 s40)]) rfl rfl) ?_
    refine ol_put rfl rfl rfl (q_ext (v := .one (iC .i64 n41)) rfl rfl) ?_
    refine ol_new rfl rfl rfl (q_alloc ty25 (row := [iC .i64 0, .p true (Sl.t r33 (⟨false, 0, []⟩ : Sl (Int × Int)))]) rfl rfl) (fun k42 => ?_)
    refine ol_wr rfl rfl (q_store (es' := [[iC .i64 n39, .p true (Sl.t r33 s40)]]) 0 rfl rfl rfl sz25 rfl rfl rfl rfl rfl) rfl ?_
    refine ol_put rfl rfl rfl (q_assign (v := .one (iC .i64 n41)) rfl) ?_
    refine ol_end ?_
    refine E_seq ?_
    refine L_seq ?_
    refine L_ops ?_
    obtain ⟨b44, h43, h⟩ := bindS h
    refine ol_put rfl rfl rfl (q_callF (v := .one (bC b44)) (args := []) (FL_r (m + 4) h43) rfl rfl vw_nil rfl rfl) ?_
    refine ol_put rfl rfl rfl (q_move (v := .one (bC b44)) rfl) ?_
    rcases b44 with _ | _
    · replace h := ifF (by decide) h
      refine ol_skip rfl rfl rfl ?_
      refine ol_skip rfl rfl rfl ?_
      refine ol_put rfl rfl rfl (q_pickF (v := .one (bC false)) rfl rfl) ?_
      refine ol_put rfl rfl rfl (q_move (v := .one (bC false)) rfl) ?_
      refine ol_skip rfl rfl rfl ?_
      refine ol_skip rfl rfl rfl ?_
      refine ol_put rfl rfl rfl (q_pickF (v := .one (bC false)) rfl rfl) ?_
      refine ol_put rfl rfl rfl (q_move (v := .one (bC false)) rfl) ?_
      refine ol_skip rfl rfl rfl ?_
      refine ol_skip rfl rfl rfl ?_
      refine ol_put rfl rfl rfl (q_pickF (v := .one (bC false)) rfl rfl) ?_
      refine ol_put rfl rfl rfl (q_move (v := .one (bC false)) rfl) ?_
      refine ol_skip rfl rfl rfl ?_
      refine ol_skip rfl rfl rfl ?_
      refine ol_put rfl rfl rfl (q_pickF (v := .one (bC false)) rfl rfl) ?_
      refine ol_put rfl rfl rfl (q_move (v := .one (bC false)) rfl) ?_
      refine ol_skip rfl rfl rfl ?_
      refine ol_skip rfl rfl rfl ?_
      refine ol_skip rfl rfl rfl ?_
      refine ol_put rfl rfl rfl (q_pickF (v := .one (bC false)) rfl rfl) ?_
      refine ol_put rfl rfl rfl (q_move (v := .one (bC false)) rfl) ?_
      refine ol_skip rfl rfl rfl ?_
      refine ol_skip rfl rfl rfl ?_
      refine ol_skip rfl rfl rfl ?_
      refine ol_put rfl rfl rfl (q_pickF (v := .one (bC false)) rfl rfl) ?_
      refine ol_put rfl rfl rfl (q_assign (v := .one (bC false)) rfl) ?_
      refine ol_end ?_
      refine E_seq ?_
      refine L_ret ?_
      obtain rfl := Option.some.inj h
      exact E_endF (.inr rfl) (res_tmp rfl res_nil) (vw_cons (vd_one vc_v) vw_nil) (fun h hb => own_p) rfl rfl
    · replace h := ifT (by decide) h
      refine ol_put rfl rfl rfl (q_move (v := .one (iC .i64 n26)) rfl) ?_
      by_cases c45 : n26 = 0
      · replace h := ifT c45 h
        refine ol_put rfl rfl rfl (q_bin rfl rfl (p_eql_t _ _ _ _ _ c45) rfl) ?_
        refine ol_put rfl rfl rfl (q_pickT (v := .one (bC true)) rfl rfl) ?_
        refine ol_put rfl rfl rfl (q_move (v := .one (bC true)) rfl) ?_
        refine ol_put rfl rfl rfl (q_move (v := .one (iC .i64 n31)) rfl) ?_
        by_cases c46 : n31 = 0
        · replace h := ifT c46 h
          refine ol_put rfl rfl rfl (q_bin rfl rfl (p_eql_t _ _ _ _ _ c46) rfl) ?_
          refine ol_put rfl rfl rfl (q_pickT (v := .one (bC true)) rfl rfl) ?_
          refine ol_put rfl rfl rfl (q_move (v := .one (bC true)) rfl) ?_
          refine ol_put rfl rfl rfl (q_move (v := .one (iC .i64 n36)) rfl) ?_
          by_cases c47 : n36 = 0
          · replace h := ifT c47 h
            refine ol_put rfl rfl rfl (q_bin rfl rfl (p_eql_t _ _ _ _ _ c47) rfl) ?_
            refine ol_put rfl rfl rfl (q_pickT (v := .one (bC true)) rfl rfl) ?_
            refine ol_put rfl rfl rfl (q_move (v := .one (bC true)) rfl) ?_
            refine ol_put rfl rfl rfl (q_move (v := .one (iC .i64 n41)) rfl) ?_
            by_cases c48 : n41 = 0
            · replace h := ifT c48 h
              refine ol_put rfl rfl rfl (q_bin rfl rfl (p_eql_t _ _ _ _ _ c48) rfl) ?_
              refine ol_put rfl rfl rfl (q_pickT (v := .one (bC true)) rfl rfl) ?_
              refine ol_put rfl rfl rfl (q_move (v := .one (bC true)) rfl) ?_
              refine ol_put rfl rfl rfl (q_loadP (v := .agg [iC .i64 n29, .p true (Sl.t r33 s30)]) 2 rfl sz25 rfl rfl rfl rfl) ?_
              refine ol_put rfl rfl rfl (q_loadP (v := .agg [iC .i64 n20, .p true (Sl.t r33 s21)]) 4 rfl sz25 rfl rfl rfl rfl) ?_
              obtain ⟨b50, h49, h⟩ := bindS h
              refine ol_put rfl rfl rfl (q_callF (v := .one (bC b50)) (args := [.agg [iC .i64 n29, .p true (Sl.t r33 s30)], .agg [iC .i64 n20, .p true (Sl.t r33 s21)]]) (ref09_Same_r (m + 3) h49) rfl rfl (vw_cons (vd_agg (vc_cons vc_v (vc_cons vc_s vc_nil))) (vw_cons (vd_agg (vc_cons vc_v (vc_cons vc_s vc_nil))) vw_nil)) rfl rfl) ?_
              refine ol_put rfl rfl rfl (q_pickT (v := .one (bC b50)) rfl rfl) ?_
              refine ol_put rfl rfl rfl (q_move (v := .one (bC b50)) rfl) ?_
              rcases b50 with _ | _
              · replace h := ifF (by decide) h
                refine ol_skip rfl rfl rfl ?_
                refine ol_skip rfl rfl rfl ?_
                refine ol_skip rfl rfl rfl ?_
                refine ol_put rfl rfl rfl (q_pickF (v := .one (bC false)) rfl rfl) ?_
                refine ol_put rfl rfl rfl (q_assign (v := .one (bC false)) rfl) ?_
                refine ol_end ?_
                refine E_seq ?_
                refine L_ret ?_
                obtain rfl := Option.some.inj h
                exact E_endF (.inr rfl) (res_tmp rfl res_nil) (vw_cons (vd_one vc_v) vw_nil) (fun h hb => own_p) rfl rfl
              · replace h := ifT (by decide) h
                refine ol_put rfl rfl rfl (q_loadP (v := .agg [iC .i64 n39, .p true (Sl.t r33 s40)]) 0 rfl sz25 rfl rfl rfl rfl) ?_
                refine ol_put rfl rfl rfl (q_loadP (v := .agg [iC .i64 n10, .p true (Sl.t r33 s11)]) 7 rfl sz25 rfl rfl rfl rfl) ?_
                obtain ⟨b52, h51, h⟩ := bindS h
                refine ol_put rfl rfl rfl (q_callF (v := .one (bC b52)) (args := [.agg [iC .i64 n39, .p true (Sl.t r33 s40)], .agg [iC .i64 n10, .p true (Sl.t r33 s11)]]) (ref09_Same_r (m + 3) h51) rfl rfl (vw_cons (vd_agg (vc_cons vc_v (vc_cons vc_s vc_nil))) (vw_cons (vd_agg (vc_cons vc_v (vc_cons vc_s vc_nil))) vw_nil)) rfl rfl) ?_
                refine ol_put rfl rfl rfl (q_pickT (v := .one (bC b52)) rfl rfl) ?_
                refine ol_put rfl rfl rfl (q_assign (v := .one (bC b52)) rfl) ?_
                refine ol_end ?_
                refine E_seq ?_
                refine L_ret ?_
                obtain rfl := Option.some.inj h
                exact E_endF (.inr rfl) (res_tmp rfl res_nil) (vw_cons (vd_one vc_v) vw_nil) (fun h hb => own_p) rfl rfl
            · replace h := ifF c48 h
              refine ol_put rfl rfl rfl (q_bin rfl rfl (p_eql_f _ _ _ _ _ c48) rfl) ?_
              refine ol_put rfl rfl rfl (q_pickT (v := .one (bC false)) rfl rfl) ?_
              refine ol_put rfl rfl rfl (q_move (v := .one (bC false)) rfl) ?_
              refine ol_skip rfl rfl rfl ?_
              refine ol_skip rfl rfl rfl ?_
              refine ol_skip rfl rfl rfl ?_
              refine ol_put rfl rfl rfl (q_pickF (v := .one (bC false)) rfl rfl) ?_
              refine ol_put rfl rfl rfl (q_move (v := .one (bC false)) rfl) ?_
              refine ol_skip rfl rfl rfl ?_
              refine ol_skip rfl rfl rfl ?_
              refine ol_skip rfl rfl rfl ?_
              refine ol_put rfl rfl rfl (q_pickF (v := .one (bC false)) rfl rfl) ?_
              refine ol_put rfl rfl rfl (q_assign (v := .one (bC false)) rfl) ?_
              refine ol_end ?_
              refine E_seq ?_
              refine L_ret ?_
              obtain rfl := Option.some.inj h
              exact E_endF (.inr rfl) (res_tmp rfl res_nil) (vw_cons (vd_one vc_v) vw_nil) (fun h hb => own_p) rfl rfl
          · replace h := ifF c47 h
            refine ol_put rfl rfl rfl (q_bin rfl rfl (p_eql_f _ _ _ _ _ c47) rfl) ?_
            refine ol_put rfl rfl rfl (q_pickT (v := .one (bC false)) rfl rfl) ?_
            refine ol_put rfl rfl rfl (q_move (v := .one (bC false)) rfl) ?_
            refine ol_skip rfl rfl rfl ?_
            refine ol_skip rfl rfl rfl ?_
            refine ol_put rfl rfl rfl (q_pickF (v := .one (bC false)) rfl rfl) ?_
            refine ol_put rfl rfl rfl (q_move (v := .one (bC false)) rfl) ?_
            refine ol_skip rfl rfl rfl ?_
            refine ol_skip rfl rfl rfl ?_
            refine ol_skip rfl rfl rfl ?_
            refine ol_put rfl rfl rfl (q_pickF (v := .one (bC false)) rfl rfl) ?_
            refine ol_put rfl rfl rfl (q_move (v := .one (bC false)) rfl) ?_
            refine ol_skip rfl rfl rfl ?_
            refine ol_skip rfl rfl rfl ?_
            refine ol_skip rfl rfl rfl ?_
            refine ol_put rfl rfl rfl (q_pickF (v := .one (bC false)) rfl rfl) ?_
            refine ol_put rfl rfl rfl (q_assign (v := .one (bC false)) rfl) ?_
            refine ol_end ?_
            refine E_seq ?_
            refine L_ret ?_
            obtain rfl := Option.some.inj h
            exact E_endF (.inr rfl) (res_tmp rfl res_nil) (vw_cons (vd_one vc_v) vw_nil) (fun h hb => own_p) rfl rfl
        · replace h := ifF c46 h
          refine ol_put rfl rfl rfl (q_bin rfl rfl (p_eql_f _ _ _ _ _ c46) rfl) ?_
          refine ol_put rfl rfl rfl (q_pickT (v := .one (bC false)) rfl rfl) ?_
          refine ol_put rfl rfl rfl (q_move (v := .one (bC false)) rfl) ?_
          refine ol_skip rfl rfl rfl ?_
          refine ol_skip rfl rfl rfl ?_
          refine ol_put rfl rfl rfl (q_pickF (v := .one (bC false)) rfl rfl) ?_
          refine ol_put rfl rfl rfl (q_move (v := .one (bC false)) rfl) ?_
          refine ol_skip rfl rfl rfl ?_
          refine ol_skip rfl rfl rfl ?_
          refine ol_put rfl rfl rfl (q_pickF (v := .one (bC false)) rfl rfl) ?_
          refine ol_put rfl rfl rfl (q_move (v := .one (bC false)) rfl) ?_
          refine ol_skip rfl rfl rfl ?_
          refine ol_skip rfl rfl rfl ?_
          refine ol_skip rfl rfl rfl ?_
          refine ol_put rfl rfl rfl (q_pickF (v := .one (bC false)) rfl rfl) ?_
          refine ol_put rfl rfl rfl (q_move (v := .one (bC false)) rfl) ?_
          refine ol_skip rfl rfl rfl ?_
          refine ol_skip rfl rfl rfl ?_
          refine ol_skip rfl rfl rfl ?_
          refine ol_put rfl rfl rfl (q_pickF (v := .one (bC false)) rfl rfl) ?_
          refine ol_put rfl rfl rfl (q_assign (v := .one (bC false)) rfl) ?_
          refine ol_end ?_
          refine E_seq ?_
          refine L_ret ?_
          obtain rfl := Option.some.inj h
          exact E_endF (.inr rfl) (res_tmp rfl res_nil) (vw_cons (vd_one vc_v) vw_nil) (fun h hb => own_p) rfl rfl
      · replace h := ifF c45 h
        refine ol_put rfl rfl rfl (q_bin rfl rfl (p_eql_f _ _ _ _ _ c45) rfl) ?_
        refine ol_put rfl rfl rfl (q_pickT (v := .one (bC false)) rfl rfl) ?_
        refine ol_put rfl rfl rfl (q_move (v := .one (bC false)) rfl) ?_
        refine ol_skip rfl rfl rfl ?_
        refine ol_skip rfl rfl rfl ?_
        refine ol_put rfl rfl rfl (q_pickF (v := .one (bC false)) rfl rfl) ?_
        refine ol_put rfl rfl rfl (q_move (v := .one (bC false)) rfl) ?_
        refine ol_skip rfl rfl rfl ?_
        refine ol_skip rfl rfl rfl ?_
        refine ol_put rfl rfl rfl (q_pickF (v := .one (bC false)) rfl rfl) ?_
        refine ol_put rfl rfl rfl (q_move (v := .one (bC false)) rfl) ?_
        refine ol_skip rfl rfl rfl ?_
        refine ol_skip rfl rfl rfl ?_
        refine ol_put rfl rfl rfl (q_pickF (v := .one (bC false)) rfl rfl) ?_
        refine ol_put rfl rfl rfl (q_move (v := .one (bC false)) rfl) ?_
        refine ol_skip rfl rfl rfl ?_
        refine ol_skip rfl rfl rfl ?_
        refine ol_skip rfl rfl rfl ?_
        refine ol_put rfl rfl rfl (q_pickF (v := .one (bC false)) rfl rfl) ?_
        refine ol_put rfl rfl rfl (q_move (v := .one (bC false)) rfl) ?_
        refine ol_skip rfl rfl rfl ?_
        refine ol_skip rfl rfl rfl ?_
        refine ol_skip rfl rfl rfl ?_
        refine ol_put rfl rfl rfl (q_pickF (v := .one (bC false)) rfl rfl) ?_
        refine ol_put rfl rfl rfl (q_assign (v := .one (bC false)) rfl) ?_
        refine ol_end ?_
        refine E_seq ?_
        refine L_ret ?_
        obtain rfl := Option.some.inj h
        exact E_endF (.inr rfl) (res_tmp rfl res_nil) (vw_cons (vd_one vc_v) vw_nil) (fun h hb => own_p) rfl rfl
end Ev
end Go.Proofs.Ytioagbejilllfaa
