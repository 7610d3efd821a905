/- Functions of the program as functions on data, and that they are. -/
import Derived.Test.YtioagbejilllfaaLf1
import Derived.Test.YtioagbejilllfaaLf2
import Derived.Test.YtioagbejilllfaaLf3
import Derived.Test.YtioagbejilllfaaLy1
import Derived.Test.YtioagbejilllfaaLy2
namespace Go.Proofs.Ytioagbejilllfaa
namespace Ev
open Go
set_option linter.unusedVariables false
set_option linter.unusedSimpArgs false
set_option maxRecDepth 100000
set_option maxHeartbeats 1000000
attribute [local irreducible] OpsL StL TnL WpL EndL
noncomputable def law12_FoldReduces (n1 : Int) (a1 : Int × (Sl (Int × Int))) (a2 : Int × Int) : Option (Bool) :=
  match a1, a2 with
  | (n2, s3), (n4, n5) => ((law09_Few (n2, s3)).bind fun (n9, s10) => ((fold_Reduce n1 (n9, s10)).bind fun (n13, n14) => ((ref12_Reduce n1 (n9, s10)).bind fun (n16, n17) => ((fold_Least (n9, s10)).bind fun ((n19, n20), b21) => ((ref12_Least (n9, s10)).bind fun ((n24, n25), b26) => (if ((s10.l.length : Nat) : Int) > 0 then ((atS 2 s10 0).bind fun (n31, n32) => ((FL).bind fun b34 => (if b34 = true then (if n13 = n16 then (if n14 = n17 then (if n19 = n24 ∧ n20 = n25 then (if b21 = true then (if b26 = true then ((fold_Holds n4 n32 n5).bind fun b59 => ((ref12_Holds n4 n32 n5).bind fun b61 => (if b59 = true then (if b61 = true then ((fold_Where (n9, s10) n4 n5).bind fun (n71, s72) => ((ref12_Where (n9, s10) n4 n5).bind fun (n74, s75) => ((ref09_Same (n71, s72) (n74, s75)).bind fun b77 => some b77))) else some false) else (if b61 = true then some false else ((fold_Where (n9, s10) n4 n5).bind fun (n63, s64) => ((ref12_Where (n9, s10) n4 n5).bind fun (n66, s67) => ((ref09_Same (n63, s64) (n66, s67)).bind fun b69 => some b69))))))) else some false) else (if b26 = true then some false else ((fold_Holds n4 n32 n5).bind fun b39 => ((ref12_Holds n4 n32 n5).bind fun b41 => (if b39 = true then (if b41 = true then ((fold_Where (n9, s10) n4 n5).bind fun (n51, s52) => ((ref12_Where (n9, s10) n4 n5).bind fun (n54, s55) => ((ref09_Same (n51, s52) (n54, s55)).bind fun b57 => some b57))) else some false) else (if b41 = true then some false else ((fold_Where (n9, s10) n4 n5).bind fun (n43, s44) => ((ref12_Where (n9, s10) n4 n5).bind fun (n46, s47) => ((ref09_Same (n43, s44) (n46, s47)).bind fun b49 => some b49))))))))) else some false) else some false) else some false) else some false))) else ((FL).bind fun b79 => (if b79 = true then (if n13 = n16 then (if n14 = n17 then (if n19 = n24 ∧ n20 = n25 then (if b21 = true then (if b26 = true then ((fold_Holds n4 0 n5).bind fun b104 => ((ref12_Holds n4 0 n5).bind fun b106 => (if b104 = true then (if b106 = true then ((fold_Where (n9, s10) n4 n5).bind fun (n116, s117) => ((ref12_Where (n9, s10) n4 n5).bind fun (n119, s120) => ((ref09_Same (n116, s117) (n119, s120)).bind fun b122 => some b122))) else some false) else (if b106 = true then some false else ((fold_Where (n9, s10) n4 n5).bind fun (n108, s109) => ((ref12_Where (n9, s10) n4 n5).bind fun (n111, s112) => ((ref09_Same (n108, s109) (n111, s112)).bind fun b114 => some b114))))))) else some false) else (if b26 = true then some false else ((fold_Holds n4 0 n5).bind fun b84 => ((ref12_Holds n4 0 n5).bind fun b86 => (if b84 = true then (if b86 = true then ((fold_Where (n9, s10) n4 n5).bind fun (n96, s97) => ((ref12_Where (n9, s10) n4 n5).bind fun (n99, s100) => ((ref09_Same (n96, s97) (n99, s100)).bind fun b102 => some b102))) else some false) else (if b86 = true then some false else ((fold_Where (n9, s10) n4 n5).bind fun (n88, s89) => ((ref12_Where (n9, s10) n4 n5).bind fun (n91, s92) => ((ref09_Same (n88, s89) (n91, s92)).bind fun b94 => some b94))))))))) else some false) else some false) else some false) else some false))))))))
theorem law12_FoldReduces_r (m : Nat) {n1 : Int} {a1 : Int × (Sl (Int × Int))} {a2 : Int × Int} {out : Bool} (h : law12_FoldReduces n1 a1 a2 = some out) : RunsP E1 (m + 5) 3 [.one (iT .i64 n1), .agg (r24 a1), .agg (r27 a2)] (.fresh, [.one (bT out)]) := by
  obtain ⟨n2, s3⟩ := a1
  obtain ⟨n4, n5⟩ := a2
  refine fn_F rfl (by rw [E1_fn]; exact show fiOf Try.prog 3 = _ by unfold fiOf; rw [Try.func3]; unfold Try.f3; rfl) rfl ?_
  dsimp only
  unfold law12_FoldReduces at h
  refine L_seq ?_
  refine L_ops ?_
  refine ol_new rfl rfl rfl (q_box ty25 rfl (cs := [iC .i64 n2, .p false (Sl.t r33 s3)]) rfl rfl) (fun k6 => ?_)
  refine ol_new rfl rfl rfl (q_box ty28 rfl (cs := [iC .i64 n4, iC .i64 n5]) rfl rfl) (fun k7 => ?_)
  refine ol_put rfl rfl rfl (q_assign (v := .one (bC false)) rfl) ?_
  refine ol_end ?_
  refine E_seq ?_
  refine L_seq ?_
  refine L_ops ?_
  refine ol_put rfl rfl rfl (q_loadP (v := .agg [iC .i64 n2, .p false (Sl.t r33 s3)]) 1 rfl sz25 rfl rfl rfl rfl) ?_
  obtain ⟨⟨n9, s10⟩, h8, h⟩ := bindS h
  refine ol_putX rfl rfl rfl (q_callX (v := fun fr11 => .agg [iC .i64 n9, .p fr11 (Sl.t r33 s10)]) (args := [.agg [iC .i64 n2, .p false (Sl.t r33 s3)]]) (law09_Few_r (m + 3) h8) rfl rfl (vw_cons (vd_agg (vc_cons vc_v (vc_cons vc_s vc_nil))) vw_nil) rfl rfl (fun fr => rfl)) (fun fr11 => ?_)
  refine ol_wr rfl rfl (q_store (es' := [[iC .i64 n9, .p fr11 (Sl.t r33 s10)]]) 1 rfl rfl rfl sz25 rfl rfl rfl rfl rfl) rfl ?_
  refine ol_end ?_
  refine E_seq ?_
  refine L_seq ?_
  refine L_ops ?_
  refine ol_put rfl rfl rfl (q_move (v := .one (iC .i64 n1)) rfl) ?_
  refine ol_put rfl rfl rfl (q_loadP (v := .agg [iC .i64 n9, .p fr11 (Sl.t r33 s10)]) 1 rfl sz25 rfl rfl rfl rfl) ?_
  obtain ⟨⟨n13, n14⟩, h12, h⟩ := bindS h
  refine ol_put rfl rfl rfl (q_callF (v := .tup [.one (iC .i64 n13), .one (iC .i64 n14)]) (args := [.one (iC .i64 n1), .agg [iC .i64 n9, .p fr11 (Sl.t r33 s10)]]) (fold_Reduce_r (m + 0) h12) rfl rfl (vw_cons (vd_one vc_v) (vw_cons (vd_agg (vc_cons vc_v (vc_cons vc_s vc_nil))) vw_nil)) rfl rfl) ?_
  refine ol_put rfl rfl rfl (q_move (v := .tup [.one (iC .i64 n13), .one (iC .i64 n14)]) rfl) ?_
  refine ol_put rfl rfl rfl (q_ext (v := .one (iC .i64 n13)) rfl rfl) ?_
  refine ol_put rfl rfl rfl (q_ext (v := .one (iC .i64 n14)) rfl rfl) ?_
  refine ol_put rfl rfl rfl (q_assign (v := .one (iC .i64 n13)) rfl) ?_
  refine ol_put rfl rfl rfl (q_assign (v := .one (iC .i64 n14)) rfl) ?_
  refine ol_end ?_
  refine E_seq ?_
  refine L_seq ?_
  refine L_ops ?_
  refine ol_put rfl rfl rfl (q_move (v := .one (iC .i64 n1)) rfl) ?_
  refine ol_put rfl rfl rfl (q_loadP (v := .agg [iC .i64 n9, .p fr11 (Sl.t r33 s10)]) 1 rfl sz25 rfl rfl rfl rfl) ?_
  obtain ⟨⟨n16, n17⟩, h15, h⟩ := bindS h
  refine ol_put rfl rfl rfl (q_callF (v := .tup [.one (iC .i64 n16), .one (iC .i64 n17)]) (args := [.one (iC .i64 n1), .agg [iC .i64 n9, .p fr11 (Sl.t r33 s10)]]) (ref12_Reduce_r (m + 1) h15) rfl rfl (vw_cons (vd_one vc_v) (vw_cons (vd_agg (vc_cons vc_v (vc_cons vc_s vc_nil))) vw_nil)) rfl rfl) ?_
  refine ol_put rfl rfl rfl (q_move (v := .tup [.one (iC .i64 n16), .one (iC .i64 n17)]) rfl) ?_
  refine ol_put rfl rfl rfl (q_ext (v := .one (iC .i64 n16)) rfl rfl) ?_
  refine ol_put rfl rfl rfl (q_ext (v := .one (iC .i64 n17)) rfl rfl) ?_
  refine ol_put rfl rfl rfl (q_assign (v := .one (iC .i64 n16)) rfl) ?_
  refine ol_put rfl rfl rfl (q_assign (v := .one (iC .i64 n17)) rfl) ?_
  refine ol_end ?_
  refine E_seq ?_
  refine L_seq ?_
  refine L_ops ?_
  refine ol_put rfl rfl rfl (q_loadP (v := .agg [iC .i64 n9, .p fr11 (Sl.t r33 s10)]) 1 rfl sz25 rfl rfl rfl rfl) ?_
  obtain ⟨⟨⟨n19, n20⟩, b21⟩, h18, h⟩ := bindS h
  refine ol_put rfl rfl rfl (q_callF (v := .tup [.agg [iC .i64 n19, iC .i64 n20], .one (bC b21)]) (args := [.agg [iC .i64 n9, .p fr11 (Sl.t r33 s10)]]) (fold_Least_r (m + 0) h18) rfl rfl (vw_cons (vd_agg (vc_cons vc_v (vc_cons vc_s vc_nil))) vw_nil) rfl rfl) ?_
  refine ol_put rfl rfl rfl (q_move (v := .tup [.agg [iC .i64 n19, iC .i64 n20], .one (bC b21)]) rfl) ?_
  refine ol_put rfl rfl rfl (q_ext (v := .agg [iC .i64 n19, iC .i64 n20]) rfl rfl) ?_
  refine ol_put rfl rfl rfl (q_ext (v := .one (bC b21)) rfl rfl) ?_
  refine ol_new rfl rfl rfl (q_alloc ty34 (row := [iC .i64 0, iC .i64 0]) rfl rfl) (fun k22 => ?_)
  refine ol_wr rfl rfl (q_store (es' := [[iC .i64 n19, iC .i64 n20]]) 0 rfl rfl rfl sz34 rfl rfl rfl rfl rfl) rfl ?_
  refine ol_put rfl rfl rfl (q_assign (v := .one (bC b21)) rfl) ?_
  refine ol_end ?_
  refine E_seq ?_
  refine L_seq ?_
  refine L_ops ?_
  refine ol_put rfl rfl rfl (q_loadP (v := .agg [iC .i64 n9, .p fr11 (Sl.t r33 s10)]) 2 rfl sz25 rfl rfl rfl rfl) ?_
  obtain ⟨⟨⟨n24, n25⟩, b26⟩, h23, h⟩ := bindS h
  refine ol_put rfl rfl rfl (q_callF (v := .tup [.agg [iC .i64 n24, iC .i64 n25], .one (bC b26)]) (args := [.agg [iC .i64 n9, .p fr11 (Sl.t r33 s10)]]) (ref12_Least_r (m + 1) h23) rfl rfl (vw_cons (vd_agg (vc_cons vc_v (vc_cons vc_s vc_nil))) vw_nil) rfl rfl) ?_
  refine ol_put rfl rfl rfl (q_move (v := .tup [.agg [iC .i64 n24, iC .i64 n25], .one (bC b26)]) rfl) ?_
  refine ol_put rfl rfl rfl (q_ext (v := .agg [iC .i64 n24, iC .i64 n25]) rfl rfl) ?_
  refine ol_put rfl rfl rfl (q_ext (v := .one (bC b26)) rfl rfl) ?_
  refine ol_new rfl rfl rfl (q_alloc ty34 (row := [iC .i64 0, iC .i64 0]) rfl rfl) (fun k27 => ?_)
  refine ol_wr rfl rfl (q_store (es' := [[iC .i64 n24, iC .i64 n25]]) 0 rfl rfl rfl sz34 rfl rfl rfl rfl rfl) rfl ?_
  refine ol_put rfl rfl rfl (q_assign (v := .one (bC b26)) rfl) ?_
  refine ol_end ?_
  refine E_seq ?_
  refine L_seq ?_
  refine L_ops ?_
  refine ol_put rfl rfl rfl (q_assign (v := .one (iC .i64 0)) rfl) ?_
  refine ol_end ?_
  refine E_seq ?_
  refine L_seq ?_
  refine L_seq ?_
  refine L_ops ?_
  refine ol_put rfl rfl rfl (q_fieldP rfl fa25_1 rfl) ?_
  refine ol_put rfl rfl rfl (q_loadP (v := .one (.p fr11 (Sl.t r33 s10))) 3 rfl sz23 rfl rfl rfl rfl) ?_
  refine ol_put rfl rfl rfl (q_lenS rfl ty23 rfl rfl rfl rfl) ?_
  by_cases c28 : ((s10.l.length : Nat) : Int) > 0
  · replace h := ifT c28 h
    refine ol_put rfl rfl rfl (q_bin rfl rfl (p_gtr_t _ _ _ _ _ c28) rfl) ?_
    refine ol_end ?_
    refine E_seq ?_
    refine L_condT rfl ?_
    refine L_ops ?_
    refine ol_put rfl rfl rfl (q_fieldP rfl fa25_1 rfl) ?_
    refine ol_put rfl rfl rfl (q_loadP (v := .one (.p fr11 (Sl.t r33 s10))) 3 rfl sz23 rfl rfl rfl rfl) ?_
    obtain ⟨⟨n31, n32⟩, h30, h⟩ := bindS h
    obtain ⟨h30a, h30b, h30⟩ := atS_some h30
    refine ol_put rfl rfl rfl (q_ixS rfl rfl h30a h30 (el23.trans (congrArg some h30b.symm))) ?_
    refine ol_put rfl rfl rfl (q_fieldI rfl fa34_1 rfl) ?_
    refine ol_put rfl rfl rfl (q_loadI (v := .one (iC .i64 n32)) rfl sz2 (map_get h30) rfl rfl) ?_
    refine ol_put rfl rfl rfl (q_assign (v := .one (iC .i64 n32)) rfl) ?_
    refine ol_end ?_
    refine E_seq ?_
    refine L_seq ?_
    refine L_still (by kernel_rfl) ?_
    obtain ⟨b34, h33, h⟩ := bindS h
    refine st_put rfl rfl rfl (q_callF (v := .one (bC b34)) (args := []) (FL_r (m + 3) h33) rfl rfl vw_nil rfl rfl) ?_
    refine st_put rfl rfl rfl (q_move (v := .one (bC b34)) rfl) ?_
    rcases b34 with _ | _
    · replace h := ifF (by decide) h
      refine st_skip rfl rfl rfl ?_
      refine st_skip rfl rfl rfl ?_
      refine st_skip rfl rfl rfl ?_
      refine st_put rfl rfl rfl (q_pickF (v := .one (bC false)) rfl rfl) ?_
      refine st_put rfl rfl rfl (q_move (v := .one (bC false)) rfl) ?_
      refine st_skip rfl rfl rfl ?_
      refine st_skip rfl rfl rfl ?_
      refine st_skip rfl rfl rfl ?_
      refine st_put rfl rfl rfl (q_pickF (v := .one (bC false)) rfl rfl) ?_
      refine st_put rfl rfl rfl (q_move (v := .one (bC false)) rfl) ?_
      refine st_skip rfl rfl rfl ?_
      refine st_skip rfl rfl rfl ?_
      refine st_skip rfl rfl rfl ?_
      refine st_put rfl rfl rfl (q_pickF (v := .one (bC false)) rfl rfl) ?_
      refine st_put rfl rfl rfl (q_move (v := .one (bC false)) rfl) ?_
      refine st_skip rfl rfl rfl ?_
      refine st_skip rfl rfl rfl ?_
      refine st_skip rfl rfl rfl ?_
      refine st_put rfl rfl rfl (q_pickF (v := .one (bC false)) rfl rfl) ?_
      refine st_put rfl rfl rfl (q_move (v := .one (bC false)) rfl) ?_
      refine st_skip rfl rfl rfl ?_
      refine st_skip rfl rfl rfl ?_
      refine st_skip rfl rfl rfl ?_
      refine st_skip rfl rfl rfl ?_
      refine st_skip rfl rfl rfl ?_
      refine st_skip rfl rfl rfl ?_
      refine st_skip rfl rfl rfl ?_
      refine st_skip rfl rfl rfl ?_
      refine st_skip rfl rfl rfl ?_
      refine st_skip rfl rfl rfl ?_
      refine st_skip rfl rfl rfl ?_
      refine st_skip rfl rfl rfl ?_
      refine st_skip rfl rfl rfl ?_
      refine st_put rfl rfl rfl (q_pickF (v := .one (bC false)) rfl rfl) ?_
      refine st_put rfl rfl rfl (q_move (v := .one (bC false)) rfl) ?_
      refine st_skip rfl rfl rfl ?_
      refine st_skip rfl rfl rfl ?_
      refine st_skip rfl rfl rfl ?_
      refine st_skip rfl rfl rfl ?_
      refine st_skip rfl rfl rfl ?_
      refine st_skip rfl rfl rfl ?_
      refine st_skip rfl rfl rfl ?_
      refine st_skip rfl rfl rfl ?_
      refine st_skip rfl rfl rfl ?_
      refine st_skip rfl rfl rfl ?_
      refine st_skip rfl rfl rfl ?_
      refine st_skip rfl rfl rfl ?_
      refine st_skip rfl rfl rfl ?_
      refine st_put rfl rfl rfl (q_pickF (v := .one (bC false)) rfl rfl) ?_
      refine st_put rfl rfl rfl (q_assign (v := .one (bC false)) rfl) ?_
      refine st_end ?_
      refine E_seq ?_
      refine L_ret ?_
      obtain rfl := Option.some.inj h
      exact E_endF (.inr rfl) (res_tmp rfl res_nil) (vw_cons (vd_one vc_v) vw_nil) (fun h hb => own_p) rfl rfl
    · replace h := ifT (by decide) h
      refine st_put rfl rfl rfl (q_move (v := .one (iC .i64 n13)) rfl) ?_
      refine st_put rfl rfl rfl (q_move (v := .one (iC .i64 n16)) rfl) ?_
      by_cases c35 : n13 = n16
      · replace h := ifT c35 h
        refine st_put rfl rfl rfl (q_bin rfl rfl (p_eql_t _ _ _ _ _ c35) rfl) ?_
        refine st_put rfl rfl rfl (q_pickT (v := .one (bC true)) rfl rfl) ?_
        refine st_put rfl rfl rfl (q_move (v := .one (bC true)) rfl) ?_
        refine st_put rfl rfl rfl (q_move (v := .one (iC .i64 n14)) rfl) ?_
        refine st_put rfl rfl rfl (q_move (v := .one (iC .i64 n17)) rfl) ?_
        by_cases c36 : n14 = n17
        · replace h := ifT c36 h
          refine st_put rfl rfl rfl (q_bin rfl rfl (p_eql_t _ _ _ _ _ c36) rfl) ?_
          refine st_put rfl rfl rfl (q_pickT (v := .one (bC true)) rfl rfl) ?_
          refine st_put rfl rfl rfl (q_move (v := .one (bC true)) rfl) ?_
          refine st_put rfl rfl rfl (q_loadP (v := .agg [iC .i64 n19, iC .i64 n20]) 1 rfl sz34 rfl rfl rfl rfl) ?_
          refine st_put rfl rfl rfl (q_loadP (v := .agg [iC .i64 n24, iC .i64 n25]) 0 rfl sz34 rfl rfl rfl rfl) ?_
          by_cases c37 : n19 = n24 ∧ n20 = n25
          · replace h := ifT c37 h
            refine st_put rfl rfl rfl (q_binA rfl rfl (by rfl) (by rfl) (eqeqlA34_t _ _ c37) rfl) ?_
            refine st_put rfl rfl rfl (q_pickT (v := .one (bC true)) rfl rfl) ?_
            refine st_put rfl rfl rfl (q_move (v := .one (bC true)) rfl) ?_
            refine st_put rfl rfl rfl (q_move (v := .one (bC b21)) rfl) ?_
            refine st_put rfl rfl rfl (q_move (v := .one (bC b26)) rfl) ?_
            rcases b21 with _ | _
            · replace h := ifF (by decide) h
              rcases b26 with _ | _
              · replace h := ifF (by decide) h
                refine st_put rfl rfl rfl (q_binB rfl rfl (eqeqlB4 _ _ _ _) rfl) ?_
                refine st_put rfl rfl rfl (q_pickT (v := .one (bC true)) rfl rfl) ?_
                refine st_put rfl rfl rfl (q_move (v := .one (bC true)) rfl) ?_
                refine st_put rfl rfl rfl (q_fieldP rfl fa28_0 rfl) ?_
                refine st_put rfl rfl rfl (q_loadP (v := .one (iC .i64 n4)) 2 rfl sz26 rfl rfl rfl rfl) ?_
                refine st_put rfl rfl rfl (q_move (v := .one (iC .i64 n32)) rfl) ?_
                refine st_put rfl rfl rfl (q_fieldP rfl fa28_1 rfl) ?_
                refine st_put rfl rfl rfl (q_loadP (v := .one (iC .i64 n5)) 2 rfl sz2 rfl rfl rfl rfl) ?_
                obtain ⟨b39, h38, h⟩ := bindS h
                refine st_put rfl rfl rfl (q_callF (v := .one (bC b39)) (args := [.one (iC .i64 n4), .one (iC .i64 n32), .one (iC .i64 n5)]) (fold_Holds_r (m + 3) h38) rfl rfl (vw_cons (vd_one vc_v) (vw_cons (vd_one vc_v) (vw_cons (vd_one vc_v) vw_nil))) rfl rfl) ?_
                refine st_put rfl rfl rfl (q_fieldP rfl fa28_0 rfl) ?_
                refine st_put rfl rfl rfl (q_loadP (v := .one (iC .i64 n4)) 2 rfl sz26 rfl rfl rfl rfl) ?_
                refine st_put rfl rfl rfl (q_move (v := .one (iC .i64 n32)) rfl) ?_
                refine st_put rfl rfl rfl (q_fieldP rfl fa28_1 rfl) ?_
                refine st_put rfl rfl rfl (q_loadP (v := .one (iC .i64 n5)) 2 rfl sz2 rfl rfl rfl rfl) ?_
                obtain ⟨b41, h40, h⟩ := bindS h
                refine st_put rfl rfl rfl (q_callF (v := .one (bC b41)) (args := [.one (iC .i64 n4), .one (iC .i64 n32), .one (iC .i64 n5)]) (ref12_Holds_r (m + 3) h40) rfl rfl (vw_cons (vd_one vc_v) (vw_cons (vd_one vc_v) (vw_cons (vd_one vc_v) vw_nil))) rfl rfl) ?_
                rcases b39 with _ | _
                · replace h := ifF (by decide) h
                  rcases b41 with _ | _
                  · replace h := ifF (by decide) h
                    refine st_put rfl rfl rfl (q_binB rfl rfl (eqeqlB4 _ _ _ _) rfl) ?_
                    refine st_put rfl rfl rfl (q_pickT (v := .one (bC true)) rfl rfl) ?_
                    refine st_put rfl rfl rfl (q_move (v := .one (bC true)) rfl) ?_
                    refine st_put rfl rfl rfl (q_loadP (v := .agg [iC .i64 n9, .p fr11 (Sl.t r33 s10)]) 3 rfl sz25 rfl rfl rfl rfl) ?_
                    refine st_put rfl rfl rfl (q_fieldP rfl fa28_0 rfl) ?_
                    refine st_put rfl rfl rfl (q_loadP (v := .one (iC .i64 n4)) 2 rfl sz26 rfl rfl rfl rfl) ?_
                    refine st_put rfl rfl rfl (q_fieldP rfl fa28_1 rfl) ?_
                    refine st_put rfl rfl rfl (q_loadP (v := .one (iC .i64 n5)) 2 rfl sz2 rfl rfl rfl rfl) ?_
                    obtain ⟨⟨n43, s44⟩, h42, h⟩ := bindS h
                    refine st_put rfl rfl rfl (q_callF (v := .agg [iC .i64 n43, .p true (Sl.t r33 s44)]) (args := [.agg [iC .i64 n9, .p fr11 (Sl.t r33 s10)], .one (iC .i64 n4), .one (iC .i64 n5)]) (fold_Where_r (m + 0) h42) rfl rfl (vw_cons (vd_agg (vc_cons vc_v (vc_cons vc_s vc_nil))) (vw_cons (vd_one vc_v) (vw_cons (vd_one vc_v) vw_nil))) rfl rfl) ?_
                    refine st_put rfl rfl rfl (q_loadP (v := .agg [iC .i64 n9, .p fr11 (Sl.t r33 s10)]) 3 rfl sz25 rfl rfl rfl rfl) ?_
                    refine st_put rfl rfl rfl (q_fieldP rfl fa28_0 rfl) ?_
                    refine st_put rfl rfl rfl (q_loadP (v := .one (iC .i64 n4)) 2 rfl sz26 rfl rfl rfl rfl) ?_
                    refine st_put rfl rfl rfl (q_fieldP rfl fa28_1 rfl) ?_
                    refine st_put rfl rfl rfl (q_loadP (v := .one (iC .i64 n5)) 2 rfl sz2 rfl rfl rfl rfl) ?_
                    obtain ⟨⟨n46, s47⟩, h45, h⟩ := bindS h
                    refine st_put rfl rfl rfl (q_callF (v := .agg [iC .i64 n46, .p true (Sl.t r33 s47)]) (args := [.agg [iC .i64 n9, .p fr11 (Sl.t r33 s10)], .one (iC .i64 n4), .one (iC .i64 n5)]) (ref12_Where_r (m + 1) h45) rfl rfl (vw_cons (vd_agg (vc_cons vc_v (vc_cons vc_s vc_nil))) (vw_cons (vd_one vc_v) (vw_cons (vd_one vc_v) vw_nil))) rfl rfl) ?_
                    obtain ⟨b49, h48, h⟩ := bindS h
                    refine st_put rfl rfl rfl (q_callF (v := .one (bC b49)) (args := [.agg [iC .i64 n43, .p true (Sl.t r33 s44)], .agg [iC .i64 n46, .p true (Sl.t r33 s47)]]) (ref09_Same_r (m + 2) h48) rfl rfl (vw_cons (vd_agg (vc_cons vc_v (vc_cons vc_s vc_nil))) (vw_cons (vd_agg (vc_cons vc_v (vc_cons vc_s vc_nil))) vw_nil)) rfl rfl) ?_
                    refine st_put rfl rfl rfl (q_pickT (v := .one (bC b49)) rfl rfl) ?_
                    refine st_put rfl rfl rfl (q_assign (v := .one (bC b49)) rfl) ?_
                    refine st_end ?_
                    refine E_seq ?_
                    refine L_ret ?_
                    obtain rfl := Option.some.inj h
                    exact E_endF (.inr rfl) (res_tmp rfl res_nil) (vw_cons (vd_one vc_v) vw_nil) (fun h hb => own_p) rfl rfl
                  · replace h := ifT (by decide) h
                    refine st_put rfl rfl rfl (q_binB rfl rfl (eqeqlB4 _ _ _ _) rfl) ?_
                    refine st_put rfl rfl rfl (q_pickT (v := .one (bC false)) rfl rfl) ?_
                    refine st_put rfl rfl rfl (q_move (v := .one (bC false)) rfl) ?_
                    refine st_skip rfl rfl rfl ?_
                    refine st_skip rfl rfl rfl ?_
                    refine st_skip rfl rfl rfl ?_
                    refine st_skip rfl rfl rfl ?_
                    refine st_skip rfl rfl rfl ?_
                    refine st_skip rfl rfl rfl ?_
                    refine st_skip rfl rfl rfl ?_
                    refine st_skip rfl rfl rfl ?_
                    refine st_skip rfl rfl rfl ?_
                    refine st_skip rfl rfl rfl ?_
                    refine st_skip rfl rfl rfl ?_
                    refine st_skip rfl rfl rfl ?_
                    refine st_skip rfl rfl rfl ?_
                    refine st_put rfl rfl rfl (q_pickF (v := .one (bC false)) rfl rfl) ?_
                    refine st_put rfl rfl rfl (q_assign (v := .one (bC false)) rfl) ?_
                    refine st_end ?_
                    refine E_seq ?_
                    refine L_ret ?_
                    obtain rfl := Option.some.inj h
                    exact E_endF (.inr rfl) (res_tmp rfl res_nil) (vw_cons (vd_one vc_v) vw_nil) (fun h hb => own_p) rfl rfl
                · replace h := ifT (by decide) h
                  rcases b41 with _ | _
                  · replace h := ifF (by decide) h
                    refine st_put rfl rfl rfl (q_binB rfl rfl (eqeqlB4 _ _ _ _) rfl) ?_
                    refine st_put rfl rfl rfl (q_pickT (v := .one (bC false)) rfl rfl) ?_
                    refine st_put rfl rfl rfl (q_move (v := .one (bC false)) rfl) ?_
                    refine st_skip rfl rfl rfl ?_
                    refine st_skip rfl rfl rfl ?_
                    refine st_skip rfl rfl rfl ?_
                    refine st_skip rfl rfl rfl ?_
                    refine st_skip rfl rfl rfl ?_
                    refine st_skip rfl rfl rfl ?_
                    refine st_skip rfl rfl rfl ?_
                    refine st_skip rfl rfl rfl ?_
                    refine st_skip rfl rfl rfl ?_
                    refine st_skip rfl rfl rfl ?_
                    refine st_skip rfl rfl rfl ?_
                    refine st_skip rfl rfl rfl ?_
                    refine st_skip rfl rfl rfl ?_
                    refine st_put rfl rfl rfl (q_pickF (v := .one (bC false)) rfl rfl) ?_
                    refine st_put rfl rfl rfl (q_assign (v := .one (bC false)) rfl) ?_
                    refine st_end ?_
                    refine E_seq ?_
                    refine L_ret ?_
                    obtain rfl := Option.some.inj h
                    exact E_endF (.inr rfl) (res_tmp rfl res_nil) (vw_cons (vd_one vc_v) vw_nil) (fun h hb => own_p) rfl rfl
                  · replace h := ifT (by decide) h
                    refine st_put rfl rfl rfl (q_binB rfl rfl (eqeqlB4 _ _ _ _) rfl) ?_
                    refine st_put rfl rfl rfl (q_pickT (v := .one (bC true)) rfl rfl) ?_
                    refine st_put rfl rfl rfl (q_move (v := .one (bC true)) rfl) ?_
                    refine st_put rfl rfl rfl (q_loadP (v := .agg [iC .i64 n9, .p fr11 (Sl.t r33 s10)]) 3 rfl sz25 rfl rfl rfl rfl) ?_
                    refine st_put rfl rfl rfl (q_fieldP rfl fa28_0 rfl) ?_
                    refine st_put rfl rfl rfl (q_loadP (v := .one (iC .i64 n4)) 2 rfl sz26 rfl rfl rfl rfl) ?_
                    refine st_put rfl rfl rfl (q_fieldP rfl fa28_1 rfl) ?_
                    refine st_put rfl rfl rfl (q_loadP (v := .one (iC .i64 n5)) 2 rfl sz2 rfl rfl rfl rfl) ?_
                    obtain ⟨⟨n51, s52⟩, h50, h⟩ := bindS h
                    refine st_put rfl rfl rfl (q_callF (v := .agg [iC .i64 n51, .p true (Sl.t r33 s52)]) (args := [.agg [iC .i64 n9, .p fr11 (Sl.t r33 s10)], .one (iC .i64 n4), .one (iC .i64 n5)]) (fold_Where_r (m + 0) h50) rfl rfl (vw_cons (vd_agg (vc_cons vc_v (vc_cons vc_s vc_nil))) (vw_cons (vd_one vc_v) (vw_cons (vd_one vc_v) vw_nil))) rfl rfl) ?_
                    refine st_put rfl rfl rfl (q_loadP (v := .agg [iC .i64 n9, .p fr11 (Sl.t r33 s10)]) 3 rfl sz25 rfl rfl rfl rfl) ?_
                    refine st_put rfl rfl rfl (q_fieldP rfl fa28_0 rfl) ?_
                    refine st_put rfl rfl rfl (q_loadP (v := .one (iC .i64 n4)) 2 rfl sz26 rfl rfl rfl rfl) ?_
                    refine st_put rfl rfl rfl (q_fieldP rfl fa28_1 rfl) ?_
                    refine st_put rfl rfl rfl (q_loadP (v := .one (iC .i64 n5)) 2 rfl sz2 rfl rfl rfl rfl) ?_
                    obtain ⟨⟨n54, s55⟩, h53, h⟩ := bindS h
                    refine st_put rfl rfl rfl (q_callF (v := .agg [iC .i64 n54, .p true (Sl.t r33 s55)]) (args := [.agg [iC .i64 n9, .p fr11 (Sl.t r33 s10)], .one (iC .i64 n4), .one (iC .i64 n5)]) (ref12_Where_r (m + 1) h53) rfl rfl (vw_cons (vd_agg (vc_cons vc_v (vc_cons vc_s vc_nil))) (vw_cons (vd_one vc_v) (vw_cons (vd_one vc_v) vw_nil))) rfl rfl) ?_
                    obtain ⟨b57, h56, h⟩ := bindS h
                    refine st_put rfl rfl rfl (q_callF (v := .one (bC b57)) (args := [.agg [iC .i64 n51, .p true (Sl.t r33 s52)], .agg [iC .i64 n54, .p true (Sl.t r33 s55)]]) (ref09_Same_r (m + 2) h56) rfl rfl (vw_cons (vd_agg (vc_cons vc_v (vc_cons vc_s vc_nil))) (vw_cons (vd_agg (vc_cons vc_v (vc_cons vc_s vc_nil))) vw_nil)) rfl rfl) ?_
                    refine st_put rfl rfl rfl (q_pickT (v := .one (bC b57)) rfl rfl) ?_
                    refine st_put rfl rfl rfl (q_assign (v := .one (bC b57)) rfl) ?_
                    refine st_end ?_
                    refine E_seq ?_
                    refine L_ret ?_
                    obtain rfl := Option.some.inj h
                    exact E_endF (.inr rfl) (res_tmp rfl res_nil) (vw_cons (vd_one vc_v) vw_nil) (fun h hb => own_p) rfl rfl
              · replace h := ifT (by decide) h
                refine st_put rfl rfl rfl (q_binB rfl rfl (eqeqlB4 _ _ _ _) rfl) ?_
                refine st_put rfl rfl rfl (q_pickT (v := .one (bC false)) rfl rfl) ?_
                refine st_put rfl rfl rfl (q_move (v := .one (bC false)) rfl) ?_
                refine st_skip rfl rfl rfl ?_
                refine st_skip rfl rfl rfl ?_
                refine st_skip rfl rfl rfl ?_
                refine st_skip rfl rfl rfl ?_
                refine st_skip rfl rfl rfl ?_
                refine st_skip rfl rfl rfl ?_
                refine st_skip rfl rfl rfl ?_
                refine st_skip rfl rfl rfl ?_
                refine st_skip rfl rfl rfl ?_
                refine st_skip rfl rfl rfl ?_
                refine st_skip rfl rfl rfl ?_
                refine st_skip rfl rfl rfl ?_
                refine st_skip rfl rfl rfl ?_
                refine st_put rfl rfl rfl (q_pickF (v := .one (bC false)) rfl rfl) ?_
                refine st_put rfl rfl rfl (q_move (v := .one (bC false)) rfl) ?_
                refine st_skip rfl rfl rfl ?_
                refine st_skip rfl rfl rfl ?_
                refine st_skip rfl rfl rfl ?_
                refine st_skip rfl rfl rfl ?_
                refine st_skip rfl rfl rfl ?_
                refine st_skip rfl rfl rfl ?_
                refine st_skip rfl rfl rfl ?_
                refine st_skip rfl rfl rfl ?_
                refine st_skip rfl rfl rfl ?_
                refine st_skip rfl rfl rfl ?_
                refine st_skip rfl rfl rfl ?_
                refine st_skip rfl rfl rfl ?_
                refine st_skip rfl rfl rfl ?_
                refine st_put rfl rfl rfl (q_pickF (v := .one (bC false)) rfl rfl) ?_
                refine st_put rfl rfl rfl (q_assign (v := .one (bC false)) rfl) ?_
                refine st_end ?_
                refine E_seq ?_
                refine L_ret ?_
                obtain rfl := Option.some.inj h
                exact E_endF (.inr rfl) (res_tmp rfl res_nil) (vw_cons (vd_one vc_v) vw_nil) (fun h hb => own_p) rfl rfl
            · replace h := ifT (by decide) h
              rcases b26 with _ | _
              · replace h := ifF (by decide) h
                refine st_put rfl rfl rfl (q_binB rfl rfl (eqeqlB4 _ _ _ _) rfl) ?_
                refine st_put rfl rfl rfl (q_pickT (v := .one (bC false)) rfl rfl) ?_
                refine st_put rfl rfl rfl (q_move (v := .one (bC false)) rfl) ?_
                refine st_skip rfl rfl rfl ?_
                refine st_skip rfl rfl rfl ?_
                refine st_skip rfl rfl rfl ?_
                refine st_skip rfl rfl rfl ?_
                refine st_skip rfl rfl rfl ?_
                refine st_skip rfl rfl rfl ?_
                refine st_skip rfl rfl rfl ?_
                refine st_skip rfl rfl rfl ?_
                refine st_skip rfl rfl rfl ?_
                refine st_skip rfl rfl rfl ?_
                refine st_skip rfl rfl rfl ?_
                refine st_skip rfl rfl rfl ?_
                refine st_skip rfl rfl rfl ?_
                refine st_put rfl rfl rfl (q_pickF (v := .one (bC false)) rfl rfl) ?_
                refine st_put rfl rfl rfl (q_move (v := .one (bC false)) rfl) ?_
                refine st_skip rfl rfl rfl ?_
                refine st_skip rfl rfl rfl ?_
                refine st_skip rfl rfl rfl ?_
                refine st_skip rfl rfl rfl ?_
                refine st_skip rfl rfl rfl ?_
                refine st_skip rfl rfl rfl ?_
                refine st_skip rfl rfl rfl ?_
                refine st_skip rfl rfl rfl ?_
                refine st_skip rfl rfl rfl ?_
                refine st_skip rfl rfl rfl ?_
                refine st_skip rfl rfl rfl ?_
                refine st_skip rfl rfl rfl ?_
                refine st_skip rfl rfl rfl ?_
                refine st_put rfl rfl rfl (q_pickF (v := .one (bC false)) rfl rfl) ?_
                refine st_put rfl rfl rfl (q_assign (v := .one (bC false)) rfl) ?_
                refine st_end ?_
                refine E_seq ?_
                refine L_ret ?_
                obtain rfl := Option.some.inj h
                exact E_endF (.inr rfl) (res_tmp rfl res_nil) (vw_cons (vd_one vc_v) vw_nil) (fun h hb => own_p) rfl rfl
              · replace h := ifT (by decide) h
                refine st_put rfl rfl rfl (q_binB rfl rfl (eqeqlB4 _ _ _ _) rfl) ?_
                refine st_put rfl rfl rfl (q_pickT (v := .one (bC true)) rfl rfl) ?_
                refine st_put rfl rfl rfl (q_move (v := .one (bC true)) rfl) ?_
                refine st_put rfl rfl rfl (q_fieldP rfl fa28_0 rfl) ?_
                refine st_put rfl rfl rfl (q_loadP (v := .one (iC .i64 n4)) 2 rfl sz26 rfl rfl rfl rfl) ?_
                refine st_put rfl rfl rfl (q_move (v := .one (iC .i64 n32)) rfl) ?_
                refine st_put rfl rfl rfl (q_fieldP rfl fa28_1 rfl) ?_
                refine st_put rfl rfl rfl (q_loadP (v := .one (iC .i64 n5)) 2 rfl sz2 rfl rfl rfl rfl) ?_
                obtain ⟨b59, h58, h⟩ := bindS h
                refine st_put rfl rfl rfl (q_callF (v := .one (bC b59)) (args := [.one (iC .i64 n4), .one (iC .i64 n32), .one (iC .i64 n5)]) (fold_Holds_r (m + 3) h58) rfl rfl (vw_cons (vd_one vc_v) (vw_cons (vd_one vc_v) (vw_cons (vd_one vc_v) vw_nil))) rfl rfl) ?_
                refine st_put rfl rfl rfl (q_fieldP rfl fa28_0 rfl) ?_
                refine st_put rfl rfl rfl (q_loadP (v := .one (iC .i64 n4)) 2 rfl sz26 rfl rfl rfl rfl) ?_
                refine st_put rfl rfl rfl (q_move (v := .one (iC .i64 n32)) rfl) ?_
                refine st_put rfl rfl rfl (q_fieldP rfl fa28_1 rfl) ?_
                refine st_put rfl rfl rfl (q_loadP (v := .one (iC .i64 n5)) 2 rfl sz2 rfl rfl rfl rfl) ?_
                obtain ⟨b61, h60, h⟩ := bindS h
                refine st_put rfl rfl rfl (q_callF (v := .one (bC b61)) (args := [.one (iC .i64 n4), .one (iC .i64 n32), .one (iC .i64 n5)]) (ref12_Holds_r (m + 3) h60) rfl rfl (vw_cons (vd_one vc_v) (vw_cons (vd_one vc_v) (vw_cons (vd_one vc_v) vw_nil))) rfl rfl) ?_
                rcases b59 with _ | _
                · replace h := ifF (by decide) h
                  rcases b61 with _ | _
                  · replace h := ifF (by decide) h
                    refine st_put rfl rfl rfl (q_binB rfl rfl (eqeqlB4 _ _ _ _) rfl) ?_
                    refine st_put rfl rfl rfl (q_pickT (v := .one (bC true)) rfl rfl) ?_
                    refine st_put rfl rfl rfl (q_move (v := .one (bC true)) rfl) ?_
                    refine st_put rfl rfl rfl (q_loadP (v := .agg [iC .i64 n9, .p fr11 (Sl.t r33 s10)]) 3 rfl sz25 rfl rfl rfl rfl) ?_
                    refine st_put rfl rfl rfl (q_fieldP rfl fa28_0 rfl) ?_
                    refine st_put rfl rfl rfl (q_loadP (v := .one (iC .i64 n4)) 2 rfl sz26 rfl rfl rfl rfl) ?_
                    refine st_put rfl rfl rfl (q_fieldP rfl fa28_1 rfl) ?_
                    refine st_put rfl rfl rfl (q_loadP (v := .one (iC .i64 n5)) 2 rfl sz2 rfl rfl rfl rfl) ?_
                    obtain ⟨⟨n63, s64⟩, h62, h⟩ := bindS h
                    refine st_put rfl rfl rfl (q_callF (v := .agg [iC .i64 n63, .p true (Sl.t r33 s64)]) (args := [.agg [iC .i64 n9, .p fr11 (Sl.t r33 s10)], .one (iC .i64 n4), .one (iC .i64 n5)]) (fold_Where_r (m + 0) h62) rfl rfl (vw_cons (vd_agg (vc_cons vc_v (vc_cons vc_s vc_nil))) (vw_cons (vd_one vc_v) (vw_cons (vd_one vc_v) vw_nil))) rfl rfl) ?_
                    refine st_put rfl rfl rfl (q_loadP (v := .agg [iC .i64 n9, .p fr11 (Sl.t r33 s10)]) 3 rfl sz25 rfl rfl rfl rfl) ?_
                    refine st_put rfl rfl rfl (q_fieldP rfl fa28_0 rfl) ?_
                    refine st_put rfl rfl rfl (q_loadP (v := .one (iC .i64 n4)) 2 rfl sz26 rfl rfl rfl rfl) ?_
                    refine st_put rfl rfl rfl (q_fieldP rfl fa28_1 rfl) ?_
                    refine st_put rfl rfl rfl (q_loadP (v := .one (iC .i64 n5)) 2 rfl sz2 rfl rfl rfl rfl) ?_
                    obtain ⟨⟨n66, s67⟩, h65, h⟩ := bindS h
                    refine st_put rfl rfl rfl (q_callF (v := .agg [iC .i64 n66, .p true (Sl.t r33 s67)]) (args := [.agg [iC .i64 n9, .p fr11 (Sl.t r33 s10)], .one (iC .i64 n4), .one (iC .i64 n5)]) (ref12_Where_r (m + 1) h65) rfl rfl (vw_cons (vd_agg (vc_cons vc_v (vc_cons vc_s vc_nil))) (vw_cons (vd_one vc_v) (vw_cons (vd_one vc_v) vw_nil))) rfl rfl) ?_
                    obtain ⟨b69, h68, h⟩ := bindS h
                    refine st_put rfl rfl rfl (q_callF (v := .one (bC b69)) (args := [.agg [iC .i64 n63, .p true (Sl.t r33 s64)], .agg [iC .i64 n66, .p true (Sl.t r33 s67)]]) (ref09_Same_r (m + 2) h68) rfl rfl (vw_cons (vd_agg (vc_cons vc_v (vc_cons vc_s vc_nil))) (vw_cons (vd_agg (vc_cons vc_v (vc_cons vc_s vc_nil))) vw_nil)) rfl rfl) ?_
                    refine st_put rfl rfl rfl (q_pickT (v := .one (bC b69)) rfl rfl) ?_
                    refine st_put rfl rfl rfl (q_assign (v := .one (bC b69)) rfl) ?_
                    refine st_end ?_
                    refine E_seq ?_
                    refine L_ret ?_
                    obtain rfl := Option.some.inj h
                    exact E_endF (.inr rfl) (res_tmp rfl res_nil) (vw_cons (vd_one vc_v) vw_nil) (fun h hb => own_p) rfl rfl
                  · replace h := ifT (by decide) h
                    refine st_put rfl rfl rfl (q_binB rfl rfl (eqeqlB4 _ _ _ _) rfl) ?_
                    refine st_put rfl rfl rfl (q_pickT (v := .one (bC false)) rfl rfl) ?_
                    refine st_put rfl rfl rfl (q_move (v := .one (bC false)) rfl) ?_
                    refine st_skip rfl rfl rfl ?_
                    refine st_skip rfl rfl rfl ?_
                    refine st_skip rfl rfl rfl ?_
                    refine st_skip rfl rfl rfl ?_
                    refine st_skip rfl rfl rfl ?_
                    refine st_skip rfl rfl rfl ?_
                    refine st_skip rfl rfl rfl ?_
                    refine st_skip rfl rfl rfl ?_
                    refine st_skip rfl rfl rfl ?_
                    refine st_skip rfl rfl rfl ?_
                    refine st_skip rfl rfl rfl ?_
                    refine st_skip rfl rfl rfl ?_
                    refine st_skip rfl rfl rfl ?_
                    refine st_put rfl rfl rfl (q_pickF (v := .one (bC false)) rfl rfl) ?_
                    refine st_put rfl rfl rfl (q_assign (v := .one (bC false)) rfl) ?_
                    refine st_end ?_
                    refine E_seq ?_
                    refine L_ret ?_
                    obtain rfl := Option.some.inj h
                    exact E_endF (.inr rfl) (res_tmp rfl res_nil) (vw_cons (vd_one vc_v) vw_nil) (fun h hb => own_p) rfl rfl
                · replace h := ifT (by decide) h
                  rcases b61 with _ | _
                  · replace h := ifF (by decide) h
                    refine st_put rfl rfl rfl (q_binB rfl rfl (eqeqlB4 _ _ _ _) rfl) ?_
                    refine st_put rfl rfl rfl (q_pickT (v := .one (bC false)) rfl rfl) ?_
                    refine st_put rfl rfl rfl (q_move (v := .one (bC false)) rfl) ?_
                    refine st_skip rfl rfl rfl ?_
                    refine st_skip rfl rfl rfl ?_
                    refine st_skip rfl rfl rfl ?_
                    refine st_skip rfl rfl rfl ?_
                    refine st_skip rfl rfl rfl ?_
                    refine st_skip rfl rfl rfl ?_
                    refine st_skip rfl rfl rfl ?_
                    refine st_skip rfl rfl rfl ?_
                    refine st_skip rfl rfl rfl ?_
                    refine st_skip rfl rfl rfl ?_
                    refine st_skip rfl rfl rfl ?_
                    refine st_skip rfl rfl rfl ?_
                    refine st_skip rfl rfl rfl ?_
                    refine st_put rfl rfl rfl (q_pickF (v := .one (bC false)) rfl rfl) ?_
                    refine st_put rfl rfl rfl (q_assign (v := .one (bC false)) rfl) ?_
                    refine st_end ?_
                    refine E_seq ?_
                    refine L_ret ?_
                    obtain rfl := Option.some.inj h
                    exact E_endF (.inr rfl) (res_tmp rfl res_nil) (vw_cons (vd_one vc_v) vw_nil) (fun h hb => own_p) rfl rfl
                  · replace h := ifT (by decide) h
                    refine st_put rfl rfl rfl (q_binB rfl rfl (eqeqlB4 _ _ _ _) rfl) ?_
                    refine st_put rfl rfl rfl (q_pickT (v := .one (bC true)) rfl rfl) ?_
                    refine st_put rfl rfl rfl (q_move (v := .one (bC true)) rfl) ?_
                    refine st_put rfl rfl rfl (q_loadP (v := .agg [iC .i64 n9, .p fr11 (Sl.t r33 s10)]) 3 rfl sz25 rfl rfl rfl rfl) ?_
                    refine st_put rfl rfl rfl (q_fieldP rfl fa28_0 rfl) ?_
                    refine st_put rfl rfl rfl (q_loadP (v := .one (iC .i64 n4)) 2 rfl sz26 rfl rfl rfl rfl) ?_
                    refine st_put rfl rfl rfl (q_fieldP rfl fa28_1 rfl) ?_
                    refine st_put rfl rfl rfl (q_loadP (v := .one (iC .i64 n5)) 2 rfl sz2 rfl rfl rfl rfl) ?_
                    obtain ⟨⟨n71, s72⟩, h70, h⟩ := bindS h
                    refine st_put rfl rfl rfl (q_callF (v := .agg [iC .i64 n71, .p true (Sl.t r33 s72)]) (args := [.agg [iC .i64 n9, .p fr11 (Sl.t r33 s10)], .one (iC .i64 n4), .one (iC .i64 n5)]) (fold_Where_r (m + 0) h70) rfl rfl (vw_cons (vd_agg (vc_cons vc_v (vc_cons vc_s vc_nil))) (vw_cons (vd_one vc_v) (vw_cons (vd_one vc_v) vw_nil))) rfl rfl) ?_
                    refine st_put rfl rfl rfl (q_loadP (v := .agg [iC .i64 n9, .p fr11 (Sl.t r33 s10)]) 3 rfl sz25 rfl rfl rfl rfl) ?_
                    refine st_put rfl rfl rfl (q_fieldP rfl fa28_0 rfl) ?_
                    refine st_put rfl rfl rfl (q_loadP (v := .one (iC .i64 n4)) 2 rfl sz26 rfl rfl rfl rfl) ?_
                    refine st_put rfl rfl rfl (q_fieldP rfl fa28_1 rfl) ?_
                    refine st_put rfl rfl rfl (q_loadP (v := .one (iC .i64 n5)) 2 rfl sz2 rfl rfl rfl rfl) ?_
                    obtain ⟨⟨n74, s75⟩, h73, h⟩ := bindS h
                    refine st_put rfl rfl rfl (q_callF (v := .agg [iC .i64 n74, .p true (Sl.t r33 s75)]) (args := [.agg [iC .i64 n9, .p fr11 (Sl.t r33 s10)], .one (iC .i64 n4), .one (iC .i64 n5)]) (ref12_Where_r (m + 1) h73) rfl rfl (vw_cons (vd_agg (vc_cons vc_v (vc_cons vc_s vc_nil))) (vw_cons (vd_one vc_v) (vw_cons (vd_one vc_v) vw_nil))) rfl rfl) ?_
                    obtain ⟨b77, h76, h⟩ := bindS h
                    refine st_put rfl rfl rfl (q_callF (v := .one (bC b77)) (args := [.agg [iC .i64 n71, .p true (Sl.t r33 s72)], .agg [iC .i64 n74, .p true (Sl.t r33 s75)]]) (ref09_Same_r (m + 2) h76) rfl rfl (vw_cons (vd_agg (vc_cons vc_v (vc_cons vc_s vc_nil))) (vw_cons (vd_agg (vc_cons vc_v (vc_cons vc_s vc_nil))) vw_nil)) rfl rfl) ?_
                    refine st_put rfl rfl rfl (q_pickT (v := .one (bC b77)) rfl rfl) ?_
                    refine st_put rfl rfl rfl (q_assign (v := .one (bC b77)) rfl) ?_
                    refine st_end ?_
                    refine E_seq ?_
                    refine L_ret ?_
                    obtain rfl := Option.some.inj h
                    exact E_endF (.inr rfl) (res_tmp rfl res_nil) (vw_cons (vd_one vc_v) vw_nil) (fun h hb => own_p) rfl rfl
          · replace h := ifF c37 h
            refine st_put rfl rfl rfl (q_binA rfl rfl (by rfl) (by rfl) (eqeqlA34_f _ _ c37) rfl) ?_
            refine st_put rfl rfl rfl (q_pickT (v := .one (bC false)) rfl rfl) ?_
            refine st_put rfl rfl rfl (q_move (v := .one (bC false)) rfl) ?_
            refine st_skip rfl rfl rfl ?_
            refine st_skip rfl rfl rfl ?_
            refine st_skip rfl rfl rfl ?_
            refine st_put rfl rfl rfl (q_pickF (v := .one (bC false)) rfl rfl) ?_
            refine st_put rfl rfl rfl (q_move (v := .one (bC false)) rfl) ?_
            refine st_skip rfl rfl rfl ?_
            refine st_skip rfl rfl rfl ?_
            refine st_skip rfl rfl rfl ?_
            refine st_skip rfl rfl rfl ?_
            refine st_skip rfl rfl rfl ?_
            refine st_skip rfl rfl rfl ?_
            refine st_skip rfl rfl rfl ?_
            refine st_skip rfl rfl rfl ?_
            refine st_skip rfl rfl rfl ?_
            refine st_skip rfl rfl rfl ?_
            refine st_skip rfl rfl rfl ?_
            refine st_skip rfl rfl rfl ?_
            refine st_skip rfl rfl rfl ?_
            refine st_put rfl rfl rfl (q_pickF (v := .one (bC false)) rfl rfl) ?_
            refine st_put rfl rfl rfl (q_move (v := .one (bC false)) rfl) ?_
            refine st_skip rfl rfl rfl ?_
            refine st_skip rfl rfl rfl ?_
            refine st_skip rfl rfl rfl ?_
            refine st_skip rfl rfl rfl ?_
            refine st_skip rfl rfl rfl ?_
            refine st_skip rfl rfl rfl ?_
            refine st_skip rfl rfl rfl ?_
            refine st_skip rfl rfl rfl ?_
            refine st_skip rfl rfl rfl ?_
            refine st_skip rfl rfl rfl ?_
            refine st_skip rfl rfl rfl ?_
            refine st_skip rfl rfl rfl ?_
            refine st_skip rfl rfl rfl ?_
            refine st_put rfl rfl rfl (q_pickF (v := .one (bC false)) rfl rfl) ?_
            refine st_put rfl rfl rfl (q_assign (v := .one (bC false)) rfl) ?_
            refine st_end ?_
            refine E_seq ?_
            refine L_ret ?_
            obtain rfl := Option.some.inj h
            exact E_endF (.inr rfl) (res_tmp rfl res_nil) (vw_cons (vd_one vc_v) vw_nil) (fun h hb => own_p) rfl rfl
        · replace h := ifF c36 h
          refine st_put rfl rfl rfl (q_bin rfl rfl (p_eql_f _ _ _ _ _ c36) rfl) ?_
          refine st_put rfl rfl rfl (q_pickT (v := .one (bC false)) rfl rfl) ?_
          refine st_put rfl rfl rfl (q_move (v := .one (bC false)) rfl) ?_
          refine st_skip rfl rfl rfl ?_
          refine st_skip rfl rfl rfl ?_
          refine st_skip rfl rfl rfl ?_
          refine st_put rfl rfl rfl (q_pickF (v := .one (bC false)) rfl rfl) ?_
          refine st_put rfl rfl rfl (q_move (v := .one (bC false)) rfl) ?_
          refine st_skip rfl rfl rfl ?_
          refine st_skip rfl rfl rfl ?_
          refine st_skip rfl rfl rfl ?_
          refine st_put rfl rfl rfl (q_pickF (v := .one (bC false)) rfl rfl) ?_
          refine st_put rfl rfl rfl (q_move (v := .one (bC false)) rfl) ?_
          refine st_skip rfl rfl rfl ?_
          refine st_skip rfl rfl rfl ?_
          refine st_skip rfl rfl rfl ?_
          refine st_skip rfl rfl rfl ?_
          refine st_skip rfl rfl rfl ?_
          refine st_skip rfl rfl rfl ?_
          refine st_skip rfl rfl rfl ?_
          refine st_skip rfl rfl rfl ?_
          refine st_skip rfl rfl rfl ?_
          refine st_skip rfl rfl rfl ?_
          refine st_skip rfl rfl rfl ?_
          refine st_skip rfl rfl rfl ?_
          refine st_skip rfl rfl rfl ?_
          refine st_put rfl rfl rfl (q_pickF (v := .one (bC false)) rfl rfl) ?_
          refine st_put rfl rfl rfl (q_move (v := .one (bC false)) rfl) ?_
          refine st_skip rfl rfl rfl ?_
          refine st_skip rfl rfl rfl ?_
          refine st_skip rfl rfl rfl ?_
          refine st_skip rfl rfl rfl ?_
          refine st_skip rfl rfl rfl ?_
          refine st_skip rfl rfl rfl ?_
          refine st_skip rfl rfl rfl ?_
          refine st_skip rfl rfl rfl ?_
          refine st_skip rfl rfl rfl ?_
          refine st_skip rfl rfl rfl ?_
          refine st_skip rfl rfl rfl ?_
          refine st_skip rfl rfl rfl ?_
          refine st_skip rfl rfl rfl ?_
          refine st_put rfl rfl rfl (q_pickF (v := .one (bC false)) rfl rfl) ?_
          refine st_put rfl rfl rfl (q_assign (v := .one (bC false)) rfl) ?_
          refine st_end ?_
          refine E_seq ?_
          refine L_ret ?_
          obtain rfl := Option.some.inj h
          exact E_endF (.inr rfl) (res_tmp rfl res_nil) (vw_cons (vd_one vc_v) vw_nil) (fun h hb => own_p) rfl rfl
      · replace h := ifF c35 h
        refine st_put rfl rfl rfl (q_bin rfl rfl (p_eql_f _ _ _ _ _ c35) rfl) ?_
        refine st_put rfl rfl rfl (q_pickT (v := .one (bC false)) rfl rfl) ?_
        refine st_put rfl rfl rfl (q_move (v := .one (bC false)) rfl) ?_
        refine st_skip rfl rfl rfl ?_
        refine st_skip rfl rfl rfl ?_
        refine st_skip rfl rfl rfl ?_
        refine st_put rfl rfl rfl (q_pickF (v := .one (bC false)) rfl rfl) ?_
        refine st_put rfl rfl rfl (q_move (v := .one (bC false)) rfl) ?_
        refine st_skip rfl rfl rfl ?_
        refine st_skip rfl rfl rfl ?_
        refine st_skip rfl rfl rfl ?_
        refine st_put rfl rfl rfl (q_pickF (v := .one (bC false)) rfl rfl) ?_
        refine st_put rfl rfl rfl (q_move (v := .one (bC false)) rfl) ?_
        refine st_skip rfl rfl rfl ?_
        refine st_skip rfl rfl rfl ?_
        refine st_skip rfl rfl rfl ?_
        refine st_put rfl rfl rfl (q_pickF (v := .one (bC false)) rfl rfl) ?_
        refine st_put rfl rfl rfl (q_move (v := .one (bC false)) rfl) ?_
        refine st_skip rfl rfl rfl ?_
        refine st_skip rfl rfl rfl ?_
        refine st_skip rfl rfl rfl ?_
        refine st_skip rfl rfl rfl ?_
        refine st_skip rfl rfl rfl ?_
        refine st_skip rfl rfl rfl ?_
        refine st_skip rfl rfl rfl ?_
        refine st_skip rfl rfl rfl ?_
        refine st_skip rfl rfl rfl ?_
        refine st_skip rfl rfl rfl ?_
        refine st_skip rfl rfl rfl ?_
        refine st_skip rfl rfl rfl ?_
        refine st_skip rfl rfl rfl ?_
        refine st_put rfl rfl rfl (q_pickF (v := .one (bC false)) rfl rfl) ?_
        refine st_put rfl rfl rfl (q_move (v := .one (bC false)) rfl) ?_
        refine st_skip rfl rfl rfl ?_
        refine st_skip rfl rfl rfl ?_
        refine st_skip rfl rfl rfl ?_
        refine st_skip rfl rfl rfl ?_
        refine st_skip rfl rfl rfl ?_
        refine st_skip rfl rfl rfl ?_
        refine st_skip rfl rfl rfl ?_
        refine st_skip rfl rfl rfl ?_
        refine st_skip rfl rfl rfl ?_
        refine st_skip rfl rfl rfl ?_
        refine st_skip rfl rfl rfl ?_
        refine st_skip rfl rfl rfl ?_
        refine st_skip rfl rfl rfl ?_
        refine st_put rfl rfl rfl (q_pickF (v := .one (bC false)) rfl rfl) ?_
        refine st_put rfl rfl rfl (q_assign (v := .one (bC false)) rfl) ?_
        refine st_end ?_
        refine E_seq ?_
        refine L_ret ?_
        obtain rfl := Option.some.inj h
        exact E_endF (.inr rfl) (res_tmp rfl res_nil) (vw_cons (vd_one vc_v) vw_nil) (fun h hb => own_p) rfl rfl
  · replace h := ifF c28 h
    refine ol_put rfl rfl rfl (q_bin rfl rfl (p_gtr_f _ _ _ _ _ c28) rfl) ?_
    refine ol_end ?_
    refine E_seq ?_
    refine L_condF rfl ?_
    refine L_skip ?_
    refine E_seq ?_
    refine L_seq ?_
    refine L_still (by kernel_rfl) ?_
    obtain ⟨b79, h78, h⟩ := bindS h
    refine st_put rfl rfl rfl (q_callF (v := .one (bC b79)) (args := []) (FL_r (m + 3) h78) rfl rfl vw_nil rfl rfl) ?_
    refine st_put rfl rfl rfl (q_move (v := .one (bC b79)) rfl) ?_
    rcases b79 with _ | _
    · replace h := ifF (by decide) h
      refine st_skip rfl rfl rfl ?_
      refine st_skip rfl rfl rfl ?_
      refine st_skip rfl rfl rfl ?_
      refine st_put rfl rfl rfl (q_pickF (v := .one (bC false)) rfl rfl) ?_
      refine st_put rfl rfl rfl (q_move (v := .one (bC false)) rfl) ?_
      refine st_skip rfl rfl rfl ?_
      refine st_skip rfl rfl rfl ?_
      refine st_skip rfl rfl rfl ?_
      refine st_put rfl rfl rfl (q_pickF (v := .one (bC false)) rfl rfl) ?_
      refine st_put rfl rfl rfl (q_move (v := .one (bC false)) rfl) ?_
      refine st_skip rfl rfl rfl ?_
      refine st_skip rfl rfl rfl ?_
      refine st_skip rfl rfl rfl ?_
      refine st_put rfl rfl rfl (q_pickF (v := .one (bC false)) rfl rfl) ?_
      refine st_put rfl rfl rfl (q_move (v := .one (bC false)) rfl) ?_
      refine st_skip rfl rfl rfl ?_
      refine st_skip rfl rfl rfl ?_
      refine st_skip rfl rfl rfl ?_
      refine st_put rfl rfl rfl (q_pickF (v := .one (bC false)) rfl rfl) ?_
      refine st_put rfl rfl rfl (q_move (v := .one (bC false)) rfl) ?_
      refine st_skip rfl rfl rfl ?_
      refine st_skip rfl rfl rfl ?_
      refine st_skip rfl rfl rfl ?_
      refine st_skip rfl rfl rfl ?_
      refine st_skip rfl rfl rfl ?_
      refine st_skip rfl rfl rfl ?_
      refine st_skip rfl rfl rfl ?_
      refine st_skip rfl rfl rfl ?_
      refine st_skip rfl rfl rfl ?_
      refine st_skip rfl rfl rfl ?_
      refine st_skip rfl rfl rfl ?_
      refine st_skip rfl rfl rfl ?_
      refine st_skip rfl rfl rfl ?_
      refine st_put rfl rfl rfl (q_pickF (v := .one (bC false)) rfl rfl) ?_
      refine st_put rfl rfl rfl (q_move (v := .one (bC false)) rfl) ?_
      refine st_skip rfl rfl rfl ?_
      refine st_skip rfl rfl rfl ?_
      refine st_skip rfl rfl rfl ?_
      refine st_skip rfl rfl rfl ?_
      refine st_skip rfl rfl rfl ?_
      refine st_skip rfl rfl rfl ?_
      refine st_skip rfl rfl rfl ?_
      refine st_skip rfl rfl rfl ?_
      refine st_skip rfl rfl rfl ?_
      refine st_skip rfl rfl rfl ?_
      refine st_skip rfl rfl rfl ?_
      refine st_skip rfl rfl rfl ?_
      refine st_skip rfl rfl rfl ?_
      refine st_put rfl rfl rfl (q_pickF (v := .one (bC false)) rfl rfl) ?_
      refine st_put rfl rfl rfl (q_assign (v := .one (bC false)) rfl) ?_
      refine st_end ?_
      refine E_seq ?_
      refine L_ret ?_
      obtain rfl := Option.some.inj h
      exact E_endF (.inr rfl) (res_tmp rfl res_nil) (vw_cons (vd_one vc_v) vw_nil) (fun h hb => own_p) rfl rfl
    · replace h := ifT (by decide) h
      refine st_put rfl rfl rfl (q_move (v := .one (iC .i64 n13)) rfl) ?_
      refine st_put rfl rfl rfl (q_move (v := .one (iC .i64 n16)) rfl) ?_
      by_cases c80 : n13 = n16
      · replace h := ifT c80 h
        refine st_put rfl rfl rfl (q_bin rfl rfl (p_eql_t _ _ _ _ _ c80) rfl) ?_
        refine st_put rfl rfl rfl (q_pickT (v := .one (bC true)) rfl rfl) ?_
        refine st_put rfl rfl rfl (q_move (v := .one (bC true)) rfl) ?_
        refine st_put rfl rfl rfl (q_move (v := .one (iC .i64 n14)) rfl) ?_
        refine st_put rfl rfl rfl (q_move (v := .one (iC .i64 n17)) rfl) ?_
        by_cases c81 : n14 = n17
        · replace h := ifT c81 h
          refine st_put rfl rfl rfl (q_bin rfl rfl (p_eql_t _ _ _ _ _ c81) rfl) ?_
          refine st_put rfl rfl rfl (q_pickT (v := .one (bC true)) rfl rfl) ?_
          refine st_put rfl rfl rfl (q_move (v := .one (bC true)) rfl) ?_
          refine st_put rfl rfl rfl (q_loadP (v := .agg [iC .i64 n19, iC .i64 n20]) 1 rfl sz34 rfl rfl rfl rfl) ?_
          refine st_put rfl rfl rfl (q_loadP (v := .agg [iC .i64 n24, iC .i64 n25]) 0 rfl sz34 rfl rfl rfl rfl) ?_
          by_cases c82 : n19 = n24 ∧ n20 = n25
          · replace h := ifT c82 h
            refine st_put rfl rfl rfl (q_binA rfl rfl (by rfl) (by rfl) (eqeqlA34_t _ _ c82) rfl) ?_
            refine st_put rfl rfl rfl (q_pickT (v := .one (bC true)) rfl rfl) ?_
            refine st_put rfl rfl rfl (q_move (v := .one (bC true)) rfl) ?_
            refine st_put rfl rfl rfl (q_move (v := .one (bC b21)) rfl) ?_
            refine st_put rfl rfl rfl (q_move (v := .one (bC b26)) rfl) ?_
            rcases b21 with _ | _
            · replace h := ifF (by decide) h
              rcases b26 with _ | _
              · replace h := ifF (by decide) h
                refine st_put rfl rfl rfl (q_binB rfl rfl (eqeqlB4 _ _ _ _) rfl) ?_
                refine st_put rfl rfl rfl (q_pickT (v := .one (bC true)) rfl rfl) ?_
                refine st_put rfl rfl rfl (q_move (v := .one (bC true)) rfl) ?_
                refine st_put rfl rfl rfl (q_fieldP rfl fa28_0 rfl) ?_
                refine st_put rfl rfl rfl (q_loadP (v := .one (iC .i64 n4)) 2 rfl sz26 rfl rfl rfl rfl) ?_
                refine st_put rfl rfl rfl (q_move (v := .one (iC .i64 0)) rfl) ?_
                refine st_put rfl rfl rfl (q_fieldP rfl fa28_1 rfl) ?_
                refine st_put rfl rfl rfl (q_loadP (v := .one (iC .i64 n5)) 2 rfl sz2 rfl rfl rfl rfl) ?_
                obtain ⟨b84, h83, h⟩ := bindS h
                refine st_put rfl rfl rfl (q_callF (v := .one (bC b84)) (args := [.one (iC .i64 n4), .one (iC .i64 0), .one (iC .i64 n5)]) (fold_Holds_r (m + 3) h83) rfl rfl (vw_cons (vd_one vc_v) (vw_cons (vd_one vc_v) (vw_cons (vd_one vc_v) vw_nil))) rfl rfl) ?_
                refine st_put rfl rfl rfl (q_fieldP rfl fa28_0 rfl) ?_
                refine st_put rfl rfl rfl (q_loadP (v := .one (iC .i64 n4)) 2 rfl sz26 rfl rfl rfl rfl) ?_
                refine st_put rfl rfl rfl (q_move (v := .one (iC .i64 0)) rfl) ?_
                refine st_put rfl rfl rfl (q_fieldP rfl fa28_1 rfl) ?_
                refine st_put rfl rfl rfl (q_loadP (v := .one (iC .i64 n5)) 2 rfl sz2 rfl rfl rfl rfl) ?_
                obtain ⟨b86, h85, h⟩ := bindS h
                refine st_put rfl rfl rfl (q_callF (v := .one (bC b86)) (args := [.one (iC .i64 n4), .one (iC .i64 0), .one (iC .i64 n5)]) (ref12_Holds_r (m + 3) h85) rfl rfl (vw_cons (vd_one vc_v) (vw_cons (vd_one vc_v) (vw_cons (vd_one vc_v) vw_nil))) rfl rfl) ?_
                rcases b84 with _ | _
                · replace h := ifF (by decide) h
                  rcases b86 with _ | _
                  · replace h := ifF (by decide) h
                    refine st_put rfl rfl rfl (q_binB rfl rfl (eqeqlB4 _ _ _ _) rfl) ?_
                    refine st_put rfl rfl rfl (q_pickT (v := .one (bC true)) rfl rfl) ?_
                    refine st_put rfl rfl rfl (q_move (v := .one (bC true)) rfl) ?_
                    refine st_put rfl rfl rfl (q_loadP (v := .agg [iC .i64 n9, .p fr11 (Sl.t r33 s10)]) 3 rfl sz25 rfl rfl rfl rfl) ?_
                    refine st_put rfl rfl rfl (q_fieldP rfl fa28_0 rfl) ?_
                    refine st_put rfl rfl rfl (q_loadP (v := .one (iC .i64 n4)) 2 rfl sz26 rfl rfl rfl rfl) ?_
                    refine st_put rfl rfl rfl (q_fieldP rfl fa28_1 rfl) ?_
                    refine st_put rfl rfl rfl (q_loadP (v := .one (iC .i64 n5)) 2 rfl sz2 rfl rfl rfl rfl) ?_
                    obtain ⟨⟨n88, s89⟩, h87, h⟩ := bindS h
                    refine st_put rfl rfl rfl (q_callF (v := .agg [iC .i64 n88, .p true (Sl.t r33 s89)]) (args := [.agg [iC .i64 n9, .p fr11 (Sl.t r33 s10)], .one (iC .i64 n4), .one (iC .i64 n5)]) (fold_Where_r (m + 0) h87) rfl rfl (vw_cons (vd_agg (vc_cons vc_v (vc_cons vc_s vc_nil))) (vw_cons (vd_one vc_v) (vw_cons (vd_one vc_v) vw_nil))) rfl rfl) ?_
                    refine st_put rfl rfl rfl (q_loadP (v := .agg [iC .i64 n9, .p fr11 (Sl.t r33 s10)]) 3 rfl sz25 rfl rfl rfl rfl) ?_
                    refine st_put rfl rfl rfl (q_fieldP rfl fa28_0 rfl) ?_
                    refine st_put rfl rfl rfl (q_loadP (v := .one (iC .i64 n4)) 2 rfl sz26 rfl rfl rfl rfl) ?_
                    refine st_put rfl rfl rfl (q_fieldP rfl fa28_1 rfl) ?_
                    refine st_put rfl rfl rfl (q_loadP (v := .one (iC .i64 n5)) 2 rfl sz2 rfl rfl rfl rfl) ?_
                    obtain ⟨⟨n91, s92⟩, h90, h⟩ := bindS h
                    refine st_put rfl rfl rfl (q_callF (v := .agg [iC .i64 n91, .p true (Sl.t r33 s92)]) (args := [.agg [iC .i64 n9, .p fr11 (Sl.t r33 s10)], .one (iC .i64 n4), .one (iC .i64 n5)]) (ref12_Where_r (m + 1) h90) rfl rfl (vw_cons (vd_agg (vc_cons vc_v (vc_cons vc_s vc_nil))) (vw_cons (vd_one vc_v) (vw_cons (vd_one vc_v) vw_nil))) rfl rfl) ?_
                    obtain ⟨b94, h93, h⟩ := bindS h
                    refine st_put rfl rfl rfl (q_callF (v := .one (bC b94)) (args := [.agg [iC .i64 n88, .p true (Sl.t r33 s89)], .agg [iC .i64 n91, .p true (Sl.t r33 s92)]]) (ref09_Same_r (m + 2) h93) rfl rfl (vw_cons (vd_agg (vc_cons vc_v (vc_cons vc_s vc_nil))) (vw_cons (vd_agg (vc_cons vc_v (vc_cons vc_s vc_nil))) vw_nil)) rfl rfl) ?_
                    refine st_put rfl rfl rfl (q_pickT (v := .one (bC b94)) rfl rfl) ?_
                    refine st_put rfl rfl rfl (q_assign (v := .one (bC b94)) rfl) ?_
                    refine st_end ?_
                    refine E_seq ?_
                    refine L_ret ?_
                    obtain rfl := Option.some.inj h
                    exact E_endF (.inr rfl) (res_tmp rfl res_nil) (vw_cons (vd_one vc_v) vw_nil) (fun h hb => own_p) rfl rfl
                  · replace h := ifT (by decide) h
                    refine st_put rfl rfl rfl (q_binB rfl rfl (eqeqlB4 _ _ _ _) rfl) ?_
                    refine st_put rfl rfl rfl (q_pickT (v := .one (bC false)) rfl rfl) ?_
                    refine st_put rfl rfl rfl (q_move (v := .one (bC false)) rfl) ?_
                    refine st_skip rfl rfl rfl ?_
                    refine st_skip rfl rfl rfl ?_
                    refine st_skip rfl rfl rfl ?_
                    refine st_skip rfl rfl rfl ?_
                    refine st_skip rfl rfl rfl ?_
                    refine st_skip rfl rfl rfl ?_
                    refine st_skip rfl rfl rfl ?_
                    refine st_skip rfl rfl rfl ?_
                    refine st_skip rfl rfl rfl ?_
                    refine st_skip rfl rfl rfl ?_
                    refine st_skip rfl rfl rfl ?_
                    refine st_skip rfl rfl rfl ?_
                    refine st_skip rfl rfl rfl ?_
                    refine st_put rfl rfl rfl (q_pickF (v := .one (bC false)) rfl rfl) ?_
                    refine st_put rfl rfl rfl (q_assign (v := .one (bC false)) rfl) ?_
                    refine st_end ?_
                    refine E_seq ?_
                    refine L_ret ?_
                    obtain rfl := Option.some.inj h
                    exact E_endF (.inr rfl) (res_tmp rfl res_nil) (vw_cons (vd_one vc_v) vw_nil) (fun h hb => own_p) rfl rfl
                · replace h := ifT (by decide) h
                  rcases b86 with _ | _
                  · replace h := ifF (by decide) h
                    refine st_put rfl rfl rfl (q_binB rfl rfl (eqeqlB4 _ _ _ _) rfl) ?_
                    refine st_put rfl rfl rfl (q_pickT (v := .one (bC false)) rfl rfl) ?_
                    refine st_put rfl rfl rfl (q_move (v := .one (bC false)) rfl) ?_
                    refine st_skip rfl rfl rfl ?_
                    refine st_skip rfl rfl rfl ?_
                    refine st_skip rfl rfl rfl ?_
                    refine st_skip rfl rfl rfl ?_
                    refine st_skip rfl rfl rfl ?_
                    refine st_skip rfl rfl rfl ?_
                    refine st_skip rfl rfl rfl ?_
                    refine st_skip rfl rfl rfl ?_
                    refine st_skip rfl rfl rfl ?_
                    refine st_skip rfl rfl rfl ?_
                    refine st_skip rfl rfl rfl ?_
                    refine st_skip rfl rfl rfl ?_
                    refine st_skip rfl rfl rfl ?_
                    refine st_put rfl rfl rfl (q_pickF (v := .one (bC false)) rfl rfl) ?_
                    refine st_put rfl rfl rfl (q_assign (v := .one (bC false)) rfl) ?_
                    refine st_end ?_
                    refine E_seq ?_
                    refine L_ret ?_
                    obtain rfl := Option.some.inj h
                    exact E_endF (.inr rfl) (res_tmp rfl res_nil) (vw_cons (vd_one vc_v) vw_nil) (fun h hb => own_p) rfl rfl
                  · replace h := ifT (by decide) h
                    refine st_put rfl rfl rfl (q_binB rfl rfl (eqeqlB4 _ _ _ _) rfl) ?_
                    refine st_put rfl rfl rfl (q_pickT (v := .one (bC true)) rfl rfl) ?_
                    refine st_put rfl rfl rfl (q_move (v := .one (bC true)) rfl) ?_
                    refine st_put rfl rfl rfl (q_loadP (v := .agg [iC .i64 n9, .p fr11 (Sl.t r33 s10)]) 3 rfl sz25 rfl rfl rfl rfl) ?_
                    refine st_put rfl rfl rfl (q_fieldP rfl fa28_0 rfl) ?_
                    refine st_put rfl rfl rfl (q_loadP (v := .one (iC .i64 n4)) 2 rfl sz26 rfl rfl rfl rfl) ?_
                    refine st_put rfl rfl rfl (q_fieldP rfl fa28_1 rfl) ?_
                    refine st_put rfl rfl rfl (q_loadP (v := .one (iC .i64 n5)) 2 rfl sz2 rfl rfl rfl rfl) ?_
                    obtain ⟨⟨n96, s97⟩, h95, h⟩ := bindS h
                    refine st_put rfl rfl rfl (q_callF (v := .agg [iC .i64 n96, .p true (Sl.t r33 s97)]) (args := [.agg [iC .i64 n9, .p fr11 (Sl.t r33 s10)], .one (iC .i64 n4), .one (iC .i64 n5)]) (fold_Where_r (m + 0) h95) rfl rfl (vw_cons (vd_agg (vc_cons vc_v (vc_cons vc_s vc_nil))) (vw_cons (vd_one vc_v) (vw_cons (vd_one vc_v) vw_nil))) rfl rfl) ?_
                    refine st_put rfl rfl rfl (q_loadP (v := .agg [iC .i64 n9, .p fr11 (Sl.t r33 s10)]) 3 rfl sz25 rfl rfl rfl rfl) ?_
                    refine st_put rfl rfl rfl (q_fieldP rfl fa28_0 rfl) ?_
                    refine st_put rfl rfl rfl (q_loadP (v := .one (iC .i64 n4)) 2 rfl sz26 rfl rfl rfl rfl) ?_
                    refine st_put rfl rfl rfl (q_fieldP rfl fa28_1 rfl) ?_
                    refine st_put rfl rfl rfl (q_loadP (v := .one (iC .i64 n5)) 2 rfl sz2 rfl rfl rfl rfl) ?_
                    obtain ⟨⟨n99, s100⟩, h98, h⟩ := bindS h
                    refine st_put rfl rfl rfl (q_callF (v := .agg [iC .i64 n99, .p true (Sl.t r33 s100)]) (args := [.agg [iC .i64 n9, .p fr11 (Sl.t r33 s10)], .one (iC .i64 n4), .one (iC .i64 n5)]) (ref12_Where_r (m + 1) h98) rfl rfl (vw_cons (vd_agg (vc_cons vc_v (vc_cons vc_s vc_nil))) (vw_cons (vd_one vc_v) (vw_cons (vd_one vc_v) vw_nil))) rfl rfl) ?_
                    obtain ⟨b102, h101, h⟩ := bindS h
                    refine st_put rfl rfl rfl (q_callF (v := .one (bC b102)) (args := [.agg [iC .i64 n96, .p true (Sl.t r33 s97)], .agg [iC .i64 n99, .p true (Sl.t r33 s100)]]) (ref09_Same_r (m + 2) h101) rfl rfl (vw_cons (vd_agg (vc_cons vc_v (vc_cons vc_s vc_nil))) (vw_cons (vd_agg (vc_cons vc_v (vc_cons vc_s vc_nil))) vw_nil)) rfl rfl) ?_
                    refine st_put rfl rfl rfl (q_pickT (v := .one (bC b102)) rfl rfl) ?_
                    refine st_put rfl rfl rfl (q_assign (v := .one (bC b102)) rfl) ?_
                    refine st_end ?_
                    refine E_seq ?_
                    refine L_ret ?_
                    obtain rfl := Option.some.inj h
                    exact E_endF (.inr rfl) (res_tmp rfl res_nil) (vw_cons (vd_one vc_v) vw_nil) (fun h hb => own_p) rfl rfl
              · replace h := ifT (by decide) h
                refine st_put rfl rfl rfl (q_binB rfl rfl (eqeqlB4 _ _ _ _) rfl) ?_
                refine st_put rfl rfl rfl (q_pickT (v := .one (bC false)) rfl rfl) ?_
                refine st_put rfl rfl rfl (q_move (v := .one (bC false)) rfl) ?_
                refine st_skip rfl rfl rfl ?_
                refine st_skip rfl rfl rfl ?_
                refine st_skip rfl rfl rfl ?_
                refine st_skip rfl rfl rfl ?_
                refine st_skip rfl rfl rfl ?_
                refine st_skip rfl rfl rfl ?_
                refine st_skip rfl rfl rfl ?_
                refine st_skip rfl rfl rfl ?_
                refine st_skip rfl rfl rfl ?_
                refine st_skip rfl rfl rfl ?_
                refine st_skip rfl rfl rfl ?_
                refine st_skip rfl rfl rfl ?_
                refine st_skip rfl rfl rfl ?_
                refine st_put rfl rfl rfl (q_pickF (v := .one (bC false)) rfl rfl) ?_
                refine st_put rfl rfl rfl (q_move (v := .one (bC false)) rfl) ?_
                refine st_skip rfl rfl rfl ?_
                refine st_skip rfl rfl rfl ?_
                refine st_skip rfl rfl rfl ?_
                refine st_skip rfl rfl rfl ?_
                refine st_skip rfl rfl rfl ?_
                refine st_skip rfl rfl rfl ?_
                refine st_skip rfl rfl rfl ?_
                refine st_skip rfl rfl rfl ?_
                refine st_skip rfl rfl rfl ?_
                refine st_skip rfl rfl rfl ?_
                refine st_skip rfl rfl rfl ?_
                refine st_skip rfl rfl rfl ?_
                refine st_skip rfl rfl rfl ?_
                refine st_put rfl rfl rfl (q_pickF (v := .one (bC false)) rfl rfl) ?_
                refine st_put rfl rfl rfl (q_assign (v := .one (bC false)) rfl) ?_
                refine st_end ?_
                refine E_seq ?_
                refine L_ret ?_
                obtain rfl := Option.some.inj h
                exact E_endF (.inr rfl) (res_tmp rfl res_nil) (vw_cons (vd_one vc_v) vw_nil) (fun h hb => own_p) rfl rfl
            · replace h := ifT (by decide) h
              rcases b26 with _ | _
              · replace h := ifF (by decide) h
                refine st_put rfl rfl rfl (q_binB rfl rfl (eqeqlB4 _ _ _ _) rfl) ?_
                refine st_put rfl rfl rfl (q_pickT (v := .one (bC false)) rfl rfl) ?_
                refine st_put rfl rfl rfl (q_move (v := .one (bC false)) rfl) ?_
                refine st_skip rfl rfl rfl ?_
                refine st_skip rfl rfl rfl ?_
                refine st_skip rfl rfl rfl ?_
                refine st_skip rfl rfl rfl ?_
                refine st_skip rfl rfl rfl ?_
                refine st_skip rfl rfl rfl ?_
                refine st_skip rfl rfl rfl ?_
                refine st_skip rfl rfl rfl ?_
                refine st_skip rfl rfl rfl ?_
                refine st_skip rfl rfl rfl ?_
                refine st_skip rfl rfl rfl ?_
                refine st_skip rfl rfl rfl ?_
                refine st_skip rfl rfl rfl ?_
                refine st_put rfl rfl rfl (q_pickF (v := .one (bC false)) rfl rfl) ?_
                refine st_put rfl rfl rfl (q_move (v := .one (bC false)) rfl) ?_
                refine st_skip rfl rfl rfl ?_
                refine st_skip rfl rfl rfl ?_
                refine st_skip rfl rfl rfl ?_
                refine st_skip rfl rfl rfl ?_
                refine st_skip rfl rfl rfl ?_
                refine st_skip rfl rfl rfl ?_
                refine st_skip rfl rfl rfl ?_
                refine st_skip rfl rfl rfl ?_
                refine st_skip rfl rfl rfl ?_
                refine st_skip rfl rfl rfl ?_
                refine st_skip rfl rfl rfl ?_
                refine st_skip rfl rfl rfl ?_
                refine st_skip rfl rfl rfl ?_
                refine st_put rfl rfl rfl (q_pickF (v := .one (bC false)) rfl rfl) ?_
                refine st_put rfl rfl rfl (q_assign (v := .one (bC false)) rfl) ?_
                refine st_end ?_
                refine E_seq ?_
                refine L_ret ?_
                obtain rfl := Option.some.inj h
                exact E_endF (.inr rfl) (res_tmp rfl res_nil) (vw_cons (vd_one vc_v) vw_nil) (fun h hb => own_p) rfl rfl
              · replace h := ifT (by decide) h
                refine st_put rfl rfl rfl (q_binB rfl rfl (eqeqlB4 _ _ _ _) rfl) ?_
                refine st_put rfl rfl rfl (q_pickT (v := .one (bC true)) rfl rfl) ?_
                refine st_put rfl rfl rfl (q_move (v := .one (bC true)) rfl) ?_
                refine st_put rfl rfl rfl (q_fieldP rfl fa28_0 rfl) ?_
                refine st_put rfl rfl rfl (q_loadP (v := .one (iC .i64 n4)) 2 rfl sz26 rfl rfl rfl rfl) ?_
                refine st_put rfl rfl rfl (q_move (v := .one (iC .i64 0)) rfl) ?_
                refine st_put rfl rfl rfl (q_fieldP rfl fa28_1 rfl) ?_
                refine st_put rfl rfl rfl (q_loadP (v := .one (iC .i64 n5)) 2 rfl sz2 rfl rfl rfl rfl) ?_
                obtain ⟨b104, h103, h⟩ := bindS h
                refine st_put rfl rfl rfl (q_callF (v := .one (bC b104)) (args := [.one (iC .i64 n4), .one (iC .i64 0), .one (iC .i64 n5)]) (fold_Holds_r (m + 3) h103) rfl rfl (vw_cons (vd_one vc_v) (vw_cons (vd_one vc_v) (vw_cons (vd_one vc_v) vw_nil))) rfl rfl) ?_
                refine st_put rfl rfl rfl (q_fieldP rfl fa28_0 rfl) ?_
                refine st_put rfl rfl rfl (q_loadP (v := .one (iC .i64 n4)) 2 rfl sz26 rfl rfl rfl rfl) ?_
                refine st_put rfl rfl rfl (q_move (v := .one (iC .i64 0)) rfl) ?_
                refine st_put rfl rfl rfl (q_fieldP rfl fa28_1 rfl) ?_
                refine st_put rfl rfl rfl (q_loadP (v := .one (iC .i64 n5)) 2 rfl sz2 rfl rfl rfl rfl) ?_
                obtain ⟨b106, h105, h⟩ := bindS h
                refine st_put rfl rfl rfl (q_callF (v := .one (bC b106)) (args := [.one (iC .i64 n4), .one (iC .i64 0), .one (iC .i64 n5)]) (ref12_Holds_r (m + 3) h105) rfl rfl (vw_cons (vd_one vc_v) (vw_cons (vd_one vc_v) (vw_cons (vd_one vc_v) vw_nil))) rfl rfl) ?_
                rcases b104 with _ | _
                · replace h := ifF (by decide) h
                  rcases b106 with _ | _
                  · replace h := ifF (by decide) h
                    refine st_put rfl rfl rfl (q_binB rfl rfl (eqeqlB4 _ _ _ _) rfl) ?_
                    refine st_put rfl rfl rfl (q_pickT (v := .one (bC true)) rfl rfl) ?_
                    refine st_put rfl rfl rfl (q_move (v := .one (bC true)) rfl) ?_
                    refine st_put rfl rfl rfl (q_loadP (v := .agg [iC .i64 n9, .p fr11 (Sl.t r33 s10)]) 3 rfl sz25 rfl rfl rfl rfl) ?_
                    refine st_put rfl rfl rfl (q_fieldP rfl fa28_0 rfl) ?_
                    refine st_put rfl rfl rfl (q_loadP (v := .one (iC .i64 n4)) 2 rfl sz26 rfl rfl rfl rfl) ?_
                    refine st_put rfl rfl rfl (q_fieldP rfl fa28_1 rfl) ?_
                    refine st_put rfl rfl rfl (q_loadP (v := .one (iC .i64 n5)) 2 rfl sz2 rfl rfl rfl rfl) ?_
                    obtain ⟨⟨n108, s109⟩, h107, h⟩ := bindS h
                    refine st_put rfl rfl rfl (q_callF (v := .agg [iC .i64 n108, .p true (Sl.t r33 s109)]) (args := [.agg [iC .i64 n9, .p fr11 (Sl.t r33 s10)], .one (iC .i64 n4), .one (iC .i64 n5)]) (fold_Where_r (m + 0) h107) rfl rfl (vw_cons (vd_agg (vc_cons vc_v (vc_cons vc_s vc_nil))) (vw_cons (vd_one vc_v) (vw_cons (vd_one vc_v) vw_nil))) rfl rfl) ?_
                    refine st_put rfl rfl rfl (q_loadP (v := .agg [iC .i64 n9, .p fr11 (Sl.t r33 s10)]) 3 rfl sz25 rfl rfl rfl rfl) ?_
                    refine st_put rfl rfl rfl (q_fieldP rfl fa28_0 rfl) ?_
                    refine st_put rfl rfl rfl (q_loadP (v := .one (iC .i64 n4)) 2 rfl sz26 rfl rfl rfl rfl) ?_
                    refine st_put rfl rfl rfl (q_fieldP rfl fa28_1 rfl) ?_
                    refine st_put rfl rfl rfl (q_loadP (v := .one (iC .i64 n5)) 2 rfl sz2 rfl rfl rfl rfl) ?_
                    obtain ⟨⟨n111, s112⟩, h110, h⟩ := bindS h
                    refine st_put rfl rfl rfl (q_callF (v := .agg [iC .i64 n111, .p true (Sl.t r33 s112)]) (args := [.agg [iC .i64 n9, .p fr11 (Sl.t r33 s10)], .one (iC .i64 n4), .one (iC .i64 n5)]) (ref12_Where_r (m + 1) h110) rfl rfl (vw_cons (vd_agg (vc_cons vc_v (vc_cons vc_s vc_nil))) (vw_cons (vd_one vc_v) (vw_cons (vd_one vc_v) vw_nil))) rfl rfl) ?_
                    obtain ⟨b114, h113, h⟩ := bindS h
                    refine st_put rfl rfl rfl (q_callF (v := .one (bC b114)) (args := [.agg [iC .i64 n108, .p true (Sl.t r33 s109)], .agg [iC .i64 n111, .p true (Sl.t r33 s112)]]) (ref09_Same_r (m + 2) h113) rfl rfl (vw_cons (vd_agg (vc_cons vc_v (vc_cons vc_s vc_nil))) (vw_cons (vd_agg (vc_cons vc_v (vc_cons vc_s vc_nil))) vw_nil)) rfl rfl) ?_
                    refine st_put rfl rfl rfl (q_pickT (v := .one (bC b114)) rfl rfl) ?_
                    refine st_put rfl rfl rfl (q_assign (v := .one (bC b114)) rfl) ?_
                    refine st_end ?_
                    refine E_seq ?_
                    refine L_ret ?_
                    obtain rfl := Option.some.inj h
                    exact E_endF (.inr rfl) (res_tmp rfl res_nil) (vw_cons (vd_one vc_v) vw_nil) (fun h hb => own_p) rfl rfl
                  · replace h := ifT (by decide) h
                    refine st_put rfl rfl rfl (q_binB rfl rfl (eqeqlB4 _ _ _ _) rfl) ?_
                    refine st_put rfl rfl rfl (q_pickT (v := .one (bC false)) rfl rfl) ?_
                    refine st_put rfl rfl rfl (q_move (v := .one (bC false)) rfl) ?_
                    refine st_skip rfl rfl rfl ?_
                    refine st_skip rfl rfl rfl ?_
                    refine st_skip rfl rfl rfl ?_
                    refine st_skip rfl rfl rfl ?_
                    refine st_skip rfl rfl rfl ?_
                    refine st_skip rfl rfl rfl ?_
                    refine st_skip rfl rfl rfl ?_
                    refine st_skip rfl rfl rfl ?_
                    refine st_skip rfl rfl rfl ?_
                    refine st_skip rfl rfl rfl ?_
                    refine st_skip rfl rfl rfl ?_
                    refine st_skip rfl rfl rfl ?_
                    refine st_skip rfl rfl rfl ?_
                    refine st_put rfl rfl rfl (q_pickF (v := .one (bC false)) rfl rfl) ?_
                    refine st_put rfl rfl rfl (q_assign (v := .one (bC false)) rfl) ?_
                    refine st_end ?_
                    refine E_seq ?_
                    refine L_ret ?_
                    obtain rfl := Option.some.inj h
                    exact E_endF (.inr rfl) (res_tmp rfl res_nil) (vw_cons (vd_one vc_v) vw_nil) (fun h hb => own_p) rfl rfl
                · replace h := ifT (by decide) h
                  rcases b106 with _ | _
                  · replace h := ifF (by decide) h
                    refine st_put rfl rfl rfl (q_binB rfl rfl (eqeqlB4 _ _ _ _) rfl) ?_
                    refine st_put rfl rfl rfl (q_pickT (v := .one (bC false)) rfl rfl) ?_
                    refine st_put rfl rfl rfl (q_move (v := .one (bC false)) rfl) ?_
                    refine st_skip rfl rfl rfl ?_
                    refine st_skip rfl rfl rfl ?_
                    refine st_skip rfl rfl rfl ?_
                    refine st_skip rfl rfl rfl ?_
                    refine st_skip rfl rfl rfl ?_
                    refine st_skip rfl rfl rfl ?_
                    refine st_skip rfl rfl rfl ?_
                    refine st_skip rfl rfl rfl ?_
                    refine st_skip rfl rfl rfl ?_
                    refine st_skip rfl rfl rfl ?_
                    refine st_skip rfl rfl rfl ?_
                    refine st_skip rfl rfl rfl ?_
                    refine st_skip rfl rfl rfl ?_
                    refine st_put rfl rfl rfl (q_pickF (v := .one (bC false)) rfl rfl) ?_
                    refine st_put rfl rfl rfl (q_assign (v := .one (bC false)) rfl) ?_
                    refine st_end ?_
                    refine E_seq ?_
                    refine L_ret ?_
                    obtain rfl := Option.some.inj h
                    exact E_endF (.inr rfl) (res_tmp rfl res_nil) (vw_cons (vd_one vc_v) vw_nil) (fun h hb => own_p) rfl rfl
                  · replace h := ifT (by decide) h
                    refine st_put rfl rfl rfl (q_binB rfl rfl (eqeqlB4 _ _ _ _) rfl) ?_
                    refine st_put rfl rfl rfl (q_pickT (v := .one (bC true)) rfl rfl) ?_
                    refine st_put rfl rfl rfl (q_move (v := .one (bC true)) rfl) ?_
                    refine st_put rfl rfl rfl (q_loadP (v := .agg [iC .i64 n9, .p fr11 (Sl.t r33 s10)]) 3 rfl sz25 rfl rfl rfl rfl) ?_
                    refine st_put rfl rfl rfl (q_fieldP rfl fa28_0 rfl) ?_
                    refine st_put rfl rfl rfl (q_loadP (v := .one (iC .i64 n4)) 2 rfl sz26 rfl rfl rfl rfl) ?_
                    refine st_put rfl rfl rfl (q_fieldP rfl fa28_1 rfl) ?_
                    refine st_put rfl rfl rfl (q_loadP (v := .one (iC .i64 n5)) 2 rfl sz2 rfl rfl rfl rfl) ?_
                    obtain ⟨⟨n116, s117⟩, h115, h⟩ := bindS h
                    refine st_put rfl rfl rfl (q_callF (v := .agg [iC .i64 n116, .p true (Sl.t r33 s117)]) (args := [.agg [iC .i64 n9, .p fr11 (Sl.t r33 s10)], .one (iC .i64 n4), .one (iC .i64 n5)]) (fold_Where_r (m + 0) h115) rfl rfl (vw_cons (vd_agg (vc_cons vc_v (vc_cons vc_s vc_nil))) (vw_cons (vd_one vc_v) (vw_cons (vd_one vc_v) vw_nil))) rfl rfl) ?_
                    refine st_put rfl rfl rfl (q_loadP (v := .agg [iC .i64 n9, .p fr11 (Sl.t r33 s10)]) 3 rfl sz25 rfl rfl rfl rfl) ?_
                    refine st_put rfl rfl rfl (q_fieldP rfl fa28_0 rfl) ?_
                    refine st_put rfl rfl rfl (q_loadP (v := .one (iC .i64 n4)) 2 rfl sz26 rfl rfl rfl rfl) ?_
                    refine st_put rfl rfl rfl (q_fieldP rfl fa28_1 rfl) ?_
                    refine st_put rfl rfl rfl (q_loadP (v := .one (iC .i64 n5)) 2 rfl sz2 rfl rfl rfl rfl) ?_
                    obtain ⟨⟨n119, s120⟩, h118, h⟩ := bindS h
                    refine st_put rfl rfl rfl (q_callF (v := .agg [iC .i64 n119, .p true (Sl.t r33 s120)]) (args := [.agg [iC .i64 n9, .p fr11 (Sl.t r33 s10)], .one (iC .i64 n4), .one (iC .i64 n5)]) (ref12_Where_r (m + 1) h118) rfl rfl (vw_cons (vd_agg (vc_cons vc_v (vc_cons vc_s vc_nil))) (vw_cons (vd_one vc_v) (vw_cons (vd_one vc_v) vw_nil))) rfl rfl) ?_
                    obtain ⟨b122, h121, h⟩ := bindS h
                    refine st_put rfl rfl rfl (q_callF (v := .one (bC b122)) (args := [.agg [iC .i64 n116, .p true (Sl.t r33 s117)], .agg [iC .i64 n119, .p true (Sl.t r33 s120)]]) (ref09_Same_r (m + 2) h121) rfl rfl (vw_cons (vd_agg (vc_cons vc_v (vc_cons vc_s vc_nil))) (vw_cons (vd_agg (vc_cons vc_v (vc_cons vc_s vc_nil))) vw_nil)) rfl rfl) ?_
                    refine st_put rfl rfl rfl (q_pickT (v := .one (bC b122)) rfl rfl) ?_
                    refine st_put rfl rfl rfl (q_assign (v := .one (bC b122)) rfl) ?_
                    refine st_end ?_
                    refine E_seq ?_
                    refine L_ret ?_
                    obtain rfl := Option.some.inj h
                    exact E_endF (.inr rfl) (res_tmp rfl res_nil) (vw_cons (vd_one vc_v) vw_nil) (fun h hb => own_p) rfl rfl
          · replace h := ifF c82 h
            refine st_put rfl rfl rfl (q_binA rfl rfl (by rfl) (by rfl) (eqeqlA34_f _ _ c82) rfl) ?_
            refine st_put rfl rfl rfl (q_pickT (v := .one (bC false)) rfl rfl) ?_
            refine st_put rfl rfl rfl (q_move (v := .one (bC false)) rfl) ?_
            refine st_skip rfl rfl rfl ?_
            refine st_skip rfl rfl rfl ?_
            refine st_skip rfl rfl rfl ?_
            refine st_put rfl rfl rfl (q_pickF (v := .one (bC false)) rfl rfl) ?_
            refine st_put rfl rfl rfl (q_move (v := .one (bC false)) rfl) ?_
            refine st_skip rfl rfl rfl ?_
            refine st_skip rfl rfl rfl ?_
            refine st_skip rfl rfl rfl ?_
            refine st_skip rfl rfl rfl ?_
            refine st_skip rfl rfl rfl ?_
            refine st_skip rfl rfl rfl ?_
            refine st_skip rfl rfl rfl ?_
            refine st_skip rfl rfl rfl ?_
            refine st_skip rfl rfl rfl ?_
            refine st_skip rfl rfl rfl ?_
            refine st_skip rfl rfl rfl ?_
            refine st_skip rfl rfl rfl ?_
            refine st_skip rfl rfl rfl ?_
            refine st_put rfl rfl rfl (q_pickF (v := .one (bC false)) rfl rfl) ?_
            refine st_put rfl rfl rfl (q_move (v := .one (bC false)) rfl) ?_
            refine st_skip rfl rfl rfl ?_
            refine st_skip rfl rfl rfl ?_
            refine st_skip rfl rfl rfl ?_
            refine st_skip rfl rfl rfl ?_
            refine st_skip rfl rfl rfl ?_
            refine st_skip rfl rfl rfl ?_
            refine st_skip rfl rfl rfl ?_
            refine st_skip rfl rfl rfl ?_
            refine st_skip rfl rfl rfl ?_
            refine st_skip rfl rfl rfl ?_
            refine st_skip rfl rfl rfl ?_
            refine st_skip rfl rfl rfl ?_
            refine st_skip rfl rfl rfl ?_
            refine st_put rfl rfl rfl (q_pickF (v := .one (bC false)) rfl rfl) ?_
            refine st_put rfl rfl rfl (q_assign (v := .one (bC false)) rfl) ?_
            refine st_end ?_
            refine E_seq ?_
            refine L_ret ?_
            obtain rfl := Option.some.inj h
            exact E_endF (.inr rfl) (res_tmp rfl res_nil) (vw_cons (vd_one vc_v) vw_nil) (fun h hb => own_p) rfl rfl
        · replace h := ifF c81 h
          refine st_put rfl rfl rfl (q_bin rfl rfl (p_eql_f _ _ _ _ _ c81) rfl) ?_
          refine st_put rfl rfl rfl (q_pickT (v := .one (bC false)) rfl rfl) ?_
          refine st_put rfl rfl rfl (q_move (v := .one (bC false)) rfl) ?_
          refine st_skip rfl rfl rfl ?_
          refine st_skip rfl rfl rfl ?_
          refine st_skip rfl rfl rfl ?_
          refine st_put rfl rfl rfl (q_pickF (v := .one (bC false)) rfl rfl) ?_
          refine st_put rfl rfl rfl (q_move (v := .one (bC false)) rfl) ?_
          refine st_skip rfl rfl rfl ?_
          refine st_skip rfl rfl rfl ?_
          refine st_skip rfl rfl rfl ?_
          refine st_put rfl rfl rfl (q_pickF (v := .one (bC false)) rfl rfl) ?_
          refine st_put rfl rfl rfl (q_move (v := .one (bC false)) rfl) ?_
          refine st_skip rfl rfl rfl ?_
          refine st_skip rfl rfl rfl ?_
          refine st_skip rfl rfl rfl ?_
          refine st_skip rfl rfl rfl ?_
          refine st_skip rfl rfl rfl ?_
          refine st_skip rfl rfl rfl ?_
          refine st_skip rfl rfl rfl ?_
          refine st_skip rfl rfl rfl ?_
          refine st_skip rfl rfl rfl ?_
          refine st_skip rfl rfl rfl ?_
          refine st_skip rfl rfl rfl ?_
          refine st_skip rfl rfl rfl ?_
          refine st_skip rfl rfl rfl ?_
          refine st_put rfl rfl rfl (q_pickF (v := .one (bC false)) rfl rfl) ?_
          refine st_put rfl rfl rfl (q_move (v := .one (bC false)) rfl) ?_
          refine st_skip rfl rfl rfl ?_
          refine st_skip rfl rfl rfl ?_
          refine st_skip rfl rfl rfl ?_
          refine st_skip rfl rfl rfl ?_
          refine st_skip rfl rfl rfl ?_
          refine st_skip rfl rfl rfl ?_
          refine st_skip rfl rfl rfl ?_
          refine st_skip rfl rfl rfl ?_
          refine st_skip rfl rfl rfl ?_
          refine st_skip rfl rfl rfl ?_
          refine st_skip rfl rfl rfl ?_
          refine st_skip rfl rfl rfl ?_
          refine st_skip rfl rfl rfl ?_
          refine st_put rfl rfl rfl (q_pickF (v := .one (bC false)) rfl rfl) ?_
          refine st_put rfl rfl rfl (q_assign (v := .one (bC false)) rfl) ?_
          refine st_end ?_
          refine E_seq ?_
          refine L_ret ?_
          obtain rfl := Option.some.inj h
          exact E_endF (.inr rfl) (res_tmp rfl res_nil) (vw_cons (vd_one vc_v) vw_nil) (fun h hb => own_p) rfl rfl
      · replace h := ifF c80 h
        refine st_put rfl rfl rfl (q_bin rfl rfl (p_eql_f _ _ _ _ _ c80) rfl) ?_
        refine st_put rfl rfl rfl (q_pickT (v := .one (bC false)) rfl rfl) ?_
        refine st_put rfl rfl rfl (q_move (v := .one (bC false)) rfl) ?_
        refine st_skip rfl rfl rfl ?_
        refine st_skip rfl rfl rfl ?_
        refine st_skip rfl rfl rfl ?_
        refine st_put rfl rfl rfl (q_pickF (v := .one (bC false)) rfl rfl) ?_
        refine st_put rfl rfl rfl (q_move (v := .one (bC false)) rfl) ?_
        refine st_skip rfl rfl rfl ?_
        refine st_skip rfl rfl rfl ?_
        refine st_skip rfl rfl rfl ?_
        refine st_put rfl rfl rfl (q_pickF (v := .one (bC false)) rfl rfl) ?_
        refine st_put rfl rfl rfl (q_move (v := .one (bC false)) rfl) ?_
        refine st_skip rfl rfl rfl ?_
        refine st_skip rfl rfl rfl ?_
        refine st_skip rfl rfl rfl ?_
        refine st_put rfl rfl rfl (q_pickF (v := .one (bC false)) rfl rfl) ?_
        refine st_put rfl rfl rfl (q_move (v := .one (bC false)) rfl) ?_
        refine st_skip rfl rfl rfl ?_
        refine st_skip rfl rfl rfl ?_
        refine st_skip rfl rfl rfl ?_
        refine st_skip rfl rfl rfl ?_
        refine st_skip rfl rfl rfl ?_
        refine st_skip rfl rfl rfl ?_
        refine st_skip rfl rfl rfl ?_
        refine st_skip rfl rfl rfl ?_
        refine st_skip rfl rfl rfl ?_
        refine st_skip rfl rfl rfl ?_
        refine st_skip rfl rfl rfl ?_
        refine st_skip rfl rfl rfl ?_
        refine st_skip rfl rfl rfl ?_
        refine st_put rfl rfl rfl (q_pickF (v := .one (bC false)) rfl rfl) ?_
        refine st_put rfl rfl rfl (q_move (v := .one (bC false)) rfl) ?_
        refine st_skip rfl rfl rfl ?_
        refine st_skip rfl rfl rfl ?_
        refine st_skip rfl rfl rfl ?_
        refine st_skip rfl rfl rfl ?_
        refine st_skip rfl rfl rfl ?_
        refine st_skip rfl rfl rfl ?_
        refine st_skip rfl rfl rfl ?_
        refine st_skip rfl rfl rfl ?_
        refine st_skip rfl rfl rfl ?_
        refine st_skip rfl rfl rfl ?_
        refine st_skip rfl rfl rfl ?_
        refine st_skip rfl rfl rfl ?_
        refine st_skip rfl rfl rfl ?_
        refine st_put rfl rfl rfl (q_pickF (v := .one (bC false)) rfl rfl) ?_
        refine st_put rfl rfl rfl (q_assign (v := .one (bC false)) rfl) ?_
        refine st_end ?_
        refine E_seq ?_
        refine L_ret ?_
        obtain rfl := Option.some.inj h
        exact E_endF (.inr rfl) (res_tmp rfl res_nil) (vw_cons (vd_one vc_v) vw_nil) (fun h hb => own_p) rfl rfl

noncomputable def fold_outside_b1 (s1 : Sl (Int)) (n2 : Int) (n16 : Int) : Option (Int ⊕ (Bool ⊕ Bool)) :=
  (if n16 < ((s1.l.length : Nat) : Int) then ((atS 1 s1 n16).bind fun n20 => (if n20 < 0 then some (.inr (.inl true)) else (if n20 ≥ n2 then some (.inr (.inl true)) else some (.inl (IntKind.i64.wrap (n16 + 1)))))) else some (.inr (.inl false)))
noncomputable def fold_outside (s1 : Sl (Int)) (n2 : Int) : Option (Bool) :=
  ((loopO (fold_outside_b1 s1 n2) 0).bind (Sum.elim (fun b23 => some b23) (fun u => some u)))
theorem fold_outside_r (m : Nat) {s1 : Sl (Int)} {n2 : Int} {out : Bool} (h : fold_outside s1 n2 = some out) : RunsP E1 (m + 1) 48 [.one (Sl.t r3 s1), .one (iT .i64 n2)] (.fresh, [.one (bT out)]) := by
  refine fn_F rfl (by rw [E1_fn]; exact show fiOf Try.prog 48 = _ by unfold fiOf; rw [Try.func48]; unfold Try.f48; rfl) rfl ?_
  dsimp only
  unfold fold_outside at h
  refine L_seq ?_
  refine L_ops ?_
  refine ol_put rfl rfl rfl (q_assign (v := .one (bC false)) rfl) ?_
  refine ol_end ?_
  refine E_seq ?_
  refine L_scope ?_
  refine L_seq ?_
  refine L_ops ?_
  refine ol_put rfl rfl rfl (q_assign (v := .one (bC false)) rfl) ?_
  refine ol_end ?_
  refine E_seq ?_
  refine L_seq ?_
  refine L_label ?_
  refine E_seq ?_
  refine L_seq ?_
  refine L_seq ?_
  refine L_ops ?_
  refine ol_put rfl rfl rfl (q_move (v := .one (.p false (Sl.t r3 s1))) rfl) ?_
  refine ol_put rfl rfl rfl (q_lenS rfl ty42 rfl rfl rfl rfl) ?_
  refine ol_put rfl rfl rfl (q_move (v := .one (iC .i64 0)) rfl) ?_
  refine ol_end ?_
  refine E_seq ?_
  refine L_block ?_
  let S1 : Int → Unit → (Nat → D) → Nat → D := fun a kt g => ups g [(1, .one (iC .i64 n2)), (5, .one (bC false)), (8, .one (.p false (Sl.t r3 s1))), (9, .one (iC .i64 ((s1.l.length : Nat) : Int))), (10, .one (iC .i64 a))]
  let SL1 : Int → Unit → BL := fun a kt => ([] : BL)
  let Sx1 : Bool → Unit → (Nat → D) → Nat → D := fun a kt g => ups g [(5, .one (bC a))]
  let SLx1 : Bool → Unit → BL := fun a kt => ([] : BL)
  let G1 : Bool → Ex → St → Prop := fun u => endQ E1 [.tmp 4] (.fresh, [.one (bT u)])
  let J1 : (Bool ⊕ Bool) → Ex → St → Prop := JX 22 0 Sx1 SLx1 G1
  refine L_loopS (fold_outside_b1 s1 n2) S1 SL1 J1 JX_n 0 h () (ups_self ⟨rfl, rfl, rfl, rfl, rfl, trivial⟩) [] (by decide) rfl ?_ ?_
  · rintro n16 _ g out h
    change fold_outside_b1 s1 n2 n16 = some out at h
    unfold fold_outside_b1 at h
    refine L_seq ?_
    refine L_ops ?_
    by_cases c17 : n16 < ((s1.l.length : Nat) : Int)
    · replace h := ifT c17 h
      refine ol_put rfl rfl rfl (q_bin rfl rfl (p_lss_t _ _ _ _ _ c17) rfl) ?_
      refine ol_end ?_
      refine E_seq ?_
      refine L_seq ?_
      refine L_condT rfl ?_
      refine L_skip ?_
      refine E_seq ?_
      refine L_seq ?_
      refine L_block ?_
      refine L_seq ?_
      refine L_ops ?_
      obtain ⟨n20, h19, h⟩ := bindS h
      obtain ⟨h19a, h19b, h19⟩ := atS_some h19
      refine ol_put rfl rfl rfl (q_ixS rfl rfl h19a h19 (el42.trans (congrArg some h19b.symm))) ?_
      refine ol_put rfl rfl rfl (q_loadI (v := .one (iC .i64 n20)) rfl sz3 (map_get h19) rfl rfl) ?_
      refine ol_put rfl rfl rfl (q_assign (v := .one (iC .i64 n20)) rfl) ?_
      refine ol_end ?_
      refine E_seq ?_
      refine L_block ?_
      refine L_seq ?_
      refine L_seq ?_
      refine L_ops ?_
      refine ol_put rfl rfl rfl (q_move (v := .one (iC .i64 n20)) rfl) ?_
      by_cases c21 : n20 < 0
      · replace h := ifT c21 h
        refine ol_put rfl rfl rfl (q_bin rfl rfl (p_lss_t _ _ _ _ _ c21) rfl) ?_
        refine ol_put rfl rfl rfl (q_assign (v := .one (bC true)) rfl) ?_
        refine ol_end ?_
        refine E_seq ?_
        refine L_condT rfl ?_
        refine L_skip ?_
        refine E_seq ?_
        refine L_condT rfl ?_
        refine L_seq ?_
        refine L_ops ?_
        refine ol_put rfl rfl rfl (q_assign (v := .one (bC true)) rfl) ?_
        refine ol_end ?_
        refine E_seq ?_
        refine L_exit ?_
        refine E_blkX rfl ?_
        refine E_blkX rfl ?_
        refine E_seqX ?_
        obtain rfl := Option.some.inj h
        exact E_out (E_exit () (ups_self ⟨rfl, trivial⟩) [] (by decide) rfl)
      · replace h := ifF c21 h
        refine ol_put rfl rfl rfl (q_bin rfl rfl (p_lss_f _ _ _ _ _ c21) rfl) ?_
        refine ol_put rfl rfl rfl (q_assign (v := .one (bC false)) rfl) ?_
        refine ol_end ?_
        refine E_seq ?_
        refine L_condF rfl ?_
        refine L_ops ?_
        refine ol_put rfl rfl rfl (q_move (v := .one (iC .i64 n20)) rfl) ?_
        refine ol_put rfl rfl rfl (q_move (v := .one (iC .i64 n2)) rfl) ?_
        by_cases c22 : n20 ≥ n2
        · replace h := ifT c22 h
          refine ol_put rfl rfl rfl (q_bin rfl rfl (p_geq_t _ _ _ _ _ c22) rfl) ?_
          refine ol_put rfl rfl rfl (q_assign (v := .one (bC true)) rfl) ?_
          refine ol_end ?_
          refine E_seq ?_
          refine L_condT rfl ?_
          refine L_seq ?_
          refine L_ops ?_
          refine ol_put rfl rfl rfl (q_assign (v := .one (bC true)) rfl) ?_
          refine ol_end ?_
          refine E_seq ?_
          refine L_exit ?_
          refine E_blkX rfl ?_
          refine E_blkX rfl ?_
          refine E_seqX ?_
          obtain rfl := Option.some.inj h
          exact E_out (E_exit () (ups_self ⟨rfl, trivial⟩) [] (by decide) rfl)
        · replace h := ifF c22 h
          refine ol_put rfl rfl rfl (q_bin rfl rfl (p_geq_f _ _ _ _ _ c22) rfl) ?_
          refine ol_put rfl rfl rfl (q_assign (v := .one (bC false)) rfl) ?_
          refine ol_end ?_
          refine E_seq ?_
          refine L_condF rfl ?_
          refine L_skip ?_
          refine E_blkN ?_
          refine E_blkN ?_
          refine E_seq ?_
          refine L_ops ?_
          refine ol_put rfl rfl rfl (q_bin rfl rfl (p_add _ _ _ _ _ _ _) rfl) ?_
          refine ol_put rfl rfl rfl (q_move (v := .one (iC .i64 (IntKind.i64.wrap (n16 + 1)))) rfl) ?_
          refine ol_end ?_
          obtain rfl := Option.some.inj h
          exact E_next () (ups_self ⟨rfl, rfl, rfl, rfl, rfl, trivial⟩) [] (by decide) rfl
    · replace h := ifF c17 h
      refine ol_put rfl rfl rfl (q_bin rfl rfl (p_lss_f _ _ _ _ _ c17) rfl) ?_
      refine ol_end ?_
      refine E_seq ?_
      refine L_seq ?_
      refine L_condF rfl ?_
      refine L_exit ?_
      refine E_seqX ?_
      obtain rfl := Option.some.inj h
      exact E_out (E_exit () (ups_self ⟨rfl, trivial⟩) [] (by decide) rfl)
  · rintro (b23 | u) h
    · refine J_x (fun kt g => ?_)
      replace h := elimL h
      refine E_blkH ?_
      refine E_seq ?_
      refine L_seq ?_
      refine L_ops ?_
      refine ol_put rfl rfl rfl (q_move (v := .one (bC b23)) rfl) ?_
      refine ol_put rfl rfl rfl (q_assign (v := .one (bC b23)) rfl) ?_
      refine ol_end ?_
      refine E_seq ?_
      refine L_ret ?_
      obtain rfl := Option.some.inj h
      exact E_endF (.inr rfl) (res_tmp rfl res_nil) (vw_cons (vd_one vc_v) vw_nil) (fun h hb => own_p) rfl rfl
    · obtain rfl := Option.some.inj (elimR h)
      exact J_up (fun s hs => hs)

noncomputable def fold_slots_b1 (s2 : Sl (Int × Int)) (a : (List (Int × Bool)) × Int) : Option (((List (Int × Bool)) × Int) ⊕ ((List (Int × Bool)) ⊕ (List (Int × Bool)))) :=
  match a with
  | (l30, n31) => (if n31 < ((s2.l.length : Nat) : Int) then ((atS 2 s2 n31).bind fun (n36, n37) => ((atL l30 n36).bind fun (n41, b42) => some (.inl ((l30.set n36.toNat (n37, true)), (IntKind.i64.wrap (n31 + 1)))))) else some (.inr (.inl l30)))
noncomputable def fold_slots (a0 : Int × (Sl (Int × Int))) : Option ((List (Int × Bool))) :=
  match a0 with
  | (n1, s2) => ((lenOk n1).bind fun _ => ((loopO (fold_slots_b1 s2) ((List.replicate n1.toNat ((0, false) : Int × Bool)), 0)).bind (Sum.elim (fun l43 => some l43) (fun u => some u))))
theorem fold_slots_r (m : Nat) {a0 : Int × (Sl (Int × Int))} {out : (List (Int × Bool))} (h : fold_slots a0 = some out) : RunsP E1 (m + 1) 49 [.agg (r24 a0)] (.own, [.one (.s true 2 ((out).map r79))]) := by
  obtain ⟨n1, s2⟩ := a0
  refine fn_O rfl (by rw [E1_fn]; exact show fiOf Try.prog 49 = _ by unfold fiOf; rw [Try.func49]; unfold Try.f49; rfl) rfl ?_
  dsimp only
  unfold fold_slots at h
  refine L_seq ?_
  refine L_ops ?_
  refine ol_new rfl rfl rfl (q_box ty25 rfl (cs := [iC .i64 n1, .p false (Sl.t r33 s2)]) rfl rfl) (fun k3 => ?_)
  refine ol_put rfl rfl rfl (q_assign (v := .one (.p true (Sl.t r79 (⟨false, 0, []⟩ : Sl (Int × Bool))))) rfl) ?_
  refine ol_end ?_
  refine E_seq ?_
  refine L_seq ?_
  refine L_ops ?_
  refine ol_put rfl rfl rfl (q_fieldP rfl fa25_0 rfl) ?_
  refine ol_put rfl rfl rfl (q_loadP (v := .one (iC .i64 n1)) 0 rfl sz3 rfl rfl rfl rfl) ?_
  obtain ⟨u4, h5, h⟩ := bindS h
  refine ol_new rfl rfl rfl (q_mkslice (r := rowC r79) (a := ((0, false) : Int × Bool)) ty77 rfl ty80 rfl rfl (lenOk_some h5).1 (lenOk_some h5).2 rfl rfl) (fun k6 => ?_)
  refine ol_put rfl rfl rfl (q_assign (v := .one (.own k6 0 ((List.replicate n1.toNat ((0, false) : Int × Bool))).length)) rfl) ?_
  refine ol_end ?_
  refine E_seq ?_
  refine L_seq ?_
  refine L_seq ?_
  refine L_ops ?_
  refine ol_put rfl rfl rfl (q_fieldP rfl fa25_1 rfl) ?_
  refine ol_put rfl rfl rfl (q_loadP (v := .one (.p false (Sl.t r33 s2))) 1 rfl sz23 rfl rfl rfl rfl) ?_
  refine ol_put rfl rfl rfl (q_lenS rfl ty23 rfl rfl rfl rfl) ?_
  refine ol_put rfl rfl rfl (q_move (v := .one (iC .i64 0)) rfl) ?_
  refine ol_end ?_
  refine E_seq ?_
  refine L_block ?_
  let S1 : ((List (Int × Bool)) × Int) → Nat → (Nat → D) → Nat → D := fun a kt g => ups g [(3, .one (.own kt 0 (a.1).length)), (10, .one (.p false (Sl.t r33 s2))), (11, .one (iC .i64 ((s2.l.length : Nat) : Int))), (12, .one (iC .i64 a.2))]
  let SL1 : ((List (Int × Bool)) × Int) → Nat → BL := fun a kt => ([(kt, 2, (a.1).map (rowC r79))] : BL)
  let Sx1 : (List (Int × Bool)) → Nat → (Nat → D) → Nat → D := fun a kt g => ups g [(3, .one (.own kt 0 (a).length))]
  let SLx1 : (List (Int × Bool)) → Nat → BL := fun a kt => ([(kt, 2, (a).map (rowC r79))] : BL)
  let G1 : (List (Int × Bool)) → Ex → St → Prop := fun u => endQ E1 [.tmp 2] (.own, [.one (.s true 2 ((u).map r79))])
  let J1 : ((List (Int × Bool)) ⊕ (List (Int × Bool))) → Ex → St → Prop := JX 25 0 Sx1 SLx1 G1
  refine L_loopS (fold_slots_b1 s2) S1 SL1 J1 JX_n ((List.replicate n1.toNat ((0, false) : Int × Bool)), 0) h k6 (ups_self ⟨rfl, rfl, rfl, rfl, trivial⟩) [0] (by decide) rfl ?_ ?_
  · rintro ⟨l30, n31⟩ k32 g out h
    change fold_slots_b1 s2 (l30, n31) = some out at h
    unfold fold_slots_b1 at h
    refine L_seq ?_
    refine L_ops ?_
    by_cases c33 : n31 < ((s2.l.length : Nat) : Int)
    · replace h := ifT c33 h
      refine ol_put rfl rfl rfl (q_bin rfl rfl (p_lss_t _ _ _ _ _ c33) rfl) ?_
      refine ol_end ?_
      refine E_seq ?_
      refine L_seq ?_
      refine L_condT rfl ?_
      refine L_skip ?_
      refine E_seq ?_
      refine L_seq ?_
      refine L_block ?_
      refine L_seq ?_
      refine L_ops ?_
      obtain ⟨⟨n36, n37⟩, h35, h⟩ := bindS h
      obtain ⟨h35a, h35b, h35⟩ := atS_some h35
      refine ol_put rfl rfl rfl (q_ixS rfl rfl h35a h35 (el23.trans (congrArg some h35b.symm))) ?_
      refine ol_put rfl rfl rfl (q_loadI (v := .agg [iC .i64 n36, iC .i64 n37]) rfl sz34 (map_get h35) rfl rfl) ?_
      refine ol_new rfl rfl rfl (q_alloc ty34 (row := [iC .i64 0, iC .i64 0]) rfl rfl) (fun k38 => ?_)
      refine ol_wr rfl rfl (q_store (es' := [[iC .i64 n36, iC .i64 n37]]) 0 rfl rfl rfl sz34 rfl rfl rfl rfl rfl) rfl ?_
      refine ol_end ?_
      refine E_seq ?_
      refine L_ops ?_
      refine ol_put rfl rfl rfl (q_move (v := .one (.own k32 0 (l30).length)) rfl) ?_
      refine ol_put rfl rfl rfl (q_fieldP rfl fa34_0 rfl) ?_
      refine ol_put rfl rfl rfl (q_loadP (v := .one (iC .i64 n36)) 0 rfl sz3 rfl rfl rfl rfl) ?_
      refine ol_put rfl rfl rfl (q_fieldP rfl fa34_1 rfl) ?_
      refine ol_put rfl rfl rfl (q_loadP (v := .one (iC .i64 n37)) 0 rfl sz2 rfl rfl rfl rfl) ?_
      refine ol_put rfl rfl rfl (q_build (cs := [iC .i64 n37, bC true]) ty80 rfl pl80 rfl) ?_
      obtain ⟨⟨n41, b42⟩, h40, h⟩ := bindS h
      obtain ⟨h40a, h40⟩ := atL_some h40
      refine ol_put rfl rfl rfl (q_ixO 1 rfl rfl h40a h40 rfl el77) ?_
      refine ol_wr rfl rfl (q_store (e' := rowC r79 (n37, true)) (es' := ((l30.set n36.toNat (n37, true))).map (rowC r79)) 1 rfl rfl rfl sz80 rfl rfl (map_get h40) rfl map_set) rfl ?_
      refine ol_re 3 (v := .one (.own k32 0 ((l30.set n36.toNat (n37, true))).length)) (Eq.trans (b := .one (.own k32 0 (l30).length)) rfl own_set) ?_
      refine ol_re 16 (v := .one (.own k32 0 ((l30.set n36.toNat (n37, true))).length)) (Eq.trans (b := .one (.own k32 0 (l30).length)) rfl own_set) ?_
      refine ol_end ?_
      refine E_blkN ?_
      refine E_seq ?_
      refine L_ops ?_
      refine ol_put rfl rfl rfl (q_bin rfl rfl (p_add _ _ _ _ _ _ _) rfl) ?_
      refine ol_put rfl rfl rfl (q_move (v := .one (iC .i64 (IntKind.i64.wrap (n31 + 1)))) rfl) ?_
      refine ol_end ?_
      obtain rfl := Option.some.inj h
      exact E_next k32 (ups_self ⟨rfl, rfl, rfl, rfl, trivial⟩) [1] (by decide) rfl
    · replace h := ifF c33 h
      refine ol_put rfl rfl rfl (q_bin rfl rfl (p_lss_f _ _ _ _ _ c33) rfl) ?_
      refine ol_end ?_
      refine E_seq ?_
      refine L_seq ?_
      refine L_condF rfl ?_
      refine L_exit ?_
      refine E_seqX ?_
      obtain rfl := Option.some.inj h
      exact E_out (E_exit k32 (ups_self ⟨rfl, trivial⟩) [0] (by decide) rfl)
  · rintro (l43 | u) h
    · refine J_x (fun k44 g => ?_)
      replace h := elimL h
      refine E_blkH ?_
      refine E_seq ?_
      refine L_seq ?_
      refine L_ops ?_
      refine ol_put rfl rfl rfl (q_move (v := .one (.own k44 0 (l43).length)) rfl) ?_
      refine ol_put rfl rfl rfl (q_assign (v := .one (.own k44 0 (l43).length)) rfl) ?_
      refine ol_end ?_
      refine E_seq ?_
      refine L_ret ?_
      obtain rfl := Option.some.inj h
      exact E_endO 0 (.inr rfl) (res_tmp rfl res_nil) rfl (fun x h m => rfl) (fun x => rfl)
    · obtain rfl := Option.some.inj (elimR h)
      exact J_up (fun s hs => hs)
end Ev
end Go.Proofs.Ytioagbejilllfaa
