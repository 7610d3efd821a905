/- Functions of the program as functions on data, and that they are. -/
import Derived.Test.YtlcfdmjkbaegpaaLf1
import Derived.Test.YtlcfdmjkbaegpaaLf14
import Derived.Test.YtlcfdmjkbaegpaaLf3
import Derived.Test.YtlcfdmjkbaegpaaLf4
import Derived.Test.YtlcfdmjkbaegpaaLf8
import Derived.Test.YtlcfdmjkbaegpaaLy1
namespace Go.Proofs.Ytlcfdmjkbaegpaa
namespace Ev
open Go
set_option linter.unusedVariables false
set_option linter.unusedSimpArgs false
set_option maxRecDepth 100000
set_option maxHeartbeats 1000000
attribute [local irreducible] OpsL StL TnL WpL EndL
noncomputable def law11_BlendParts (n1 : Int) (s2 : Sl (Int × Int)) (a2 : Sl (Int) × Sl (Int)) : Option (Bool) :=
  match a2 with
  | (s3, s4) => (if ((s3.l.length : Nat) : Int) > 5 then ((FL).bind fun b8 => some b8) else (if ((s4.l.length : Nat) : Int) > 5 then ((FL).bind fun b11 => some b11) else ((law09_Some n1 s2).bind fun (n13, s14) => ((blend_Mask (n13, s14) s3 false).bind fun (n24, s25) => ((blend_Mask (n13, s14) s3 true).bind fun (n27, s28) => ((blend_Over (n24, s25) (n27, s28)).bind fun ((n30, s31), n32) => ((ref03_Both s3 s4).bind fun s35 => ((FL).bind fun b38 => (if b38 = true then (if n32 = 0 then ((ref09_Same (n30, s31) (n13, s14)).bind fun b41 => (if b41 = true then (if (IntKind.i64.wrap (((s25.l.length : Nat) : Int) + ((s28.l.length : Nat) : Int))) = ((s14.l.length : Nat) : Int) then ((blend_Mask (n24, s25) s4 false).bind fun (n44, s45) => ((blend_Mask (n13, s14) (⟨true, 1, s35⟩ : Sl (Int)) false).bind fun (n47, s48) => ((ref09_Same (n44, s45) (n47, s48)).bind fun b50 => some b50))) else some false) else some false)) else some false) else some false)))))))))
theorem law11_BlendParts_r (m : Nat) {n1 : Int} {s2 : Sl (Int × Int)} {a2 : Sl (Int) × Sl (Int)} {out : Bool} (h : law11_BlendParts n1 s2 a2 = some out) : RunsP E1 (m + 6) 6 [.one (iT .u8 n1), .one (Sl.t r56 s2), .agg (r42 a2)] (.fresh, [.one (bT out)]) := by
  obtain ⟨s3, s4⟩ := a2
  refine fn_F rfl (by rw [E1_fn]; exact show fiOf Try.prog 6 = _ by unfold fiOf; rw [Try.func6]; unfold Try.f6; rfl) rfl ?_
  dsimp only
  unfold law11_BlendParts at h
  refine L_seq ?_
  refine L_ops ?_
  refine ol_new rfl rfl rfl (q_box ty42 rfl (cs := [.p false (Sl.t r61 s3), .p false (Sl.t r61 s4)]) rfl rfl) (fun k5 => ?_)
  refine ol_put rfl rfl rfl (q_assign (v := .one (bC false)) rfl) ?_
  refine ol_end ?_
  refine E_seq ?_
  refine L_seq ?_
  refine L_seq ?_
  refine L_ops ?_
  refine ol_put rfl rfl rfl (q_ixA (a := 0) ty42 rfl ty33 rfl rfl rfl rfl) ?_
  refine ol_put rfl rfl rfl (q_loadP (v := .one (.p false (Sl.t r61 s3))) 0 rfl sz33 rfl rfl rfl rfl) ?_
  refine ol_put rfl rfl rfl (q_lenS rfl ty33 rfl rfl rfl rfl) ?_
  by_cases c6 : ((s3.l.length : Nat) : Int) > 5
  · replace h := ifT c6 h
    refine ol_put rfl rfl rfl (q_bin rfl rfl (p_gtr_t _ _ _ _ _ c6) rfl) ?_
    refine ol_put rfl rfl rfl (q_move (v := .one (bC true)) rfl) ?_
    refine ol_skip rfl rfl rfl ?_
    refine ol_skip rfl rfl rfl ?_
    refine ol_skip rfl rfl rfl ?_
    refine ol_skip rfl rfl rfl ?_
    refine ol_put rfl rfl rfl (q_pickT (v := .one (bC true)) rfl rfl) ?_
    refine ol_end ?_
    refine E_seq ?_
    refine L_condT rfl ?_
    refine L_seq ?_
    refine L_ops ?_
    obtain ⟨b8, h7, h⟩ := bindS h
    refine ol_put rfl rfl rfl (q_callF (v := .one (bC b8)) (args := []) (FL_r (m + 4) h7) rfl rfl vw_nil rfl rfl) ?_
    refine ol_put rfl rfl rfl (q_assign (v := .one (bC b8)) rfl) ?_
    refine ol_end ?_
    refine E_seq ?_
    refine L_ret ?_
    refine E_seqR ?_
    obtain rfl := Option.some.inj h
    exact E_endF (.inr rfl) (res_tmp rfl res_nil) (vw_cons (vd_one vc_v) vw_nil) (fun h hb => own_p) rfl rfl
  · replace h := ifF c6 h
    refine ol_put rfl rfl rfl (q_bin rfl rfl (p_gtr_f _ _ _ _ _ c6) rfl) ?_
    refine ol_put rfl rfl rfl (q_move (v := .one (bC false)) rfl) ?_
    refine ol_put rfl rfl rfl (q_ixA (a := 1) ty42 rfl ty33 rfl rfl rfl rfl) ?_
    refine ol_put rfl rfl rfl (q_loadP (v := .one (.p false (Sl.t r61 s4))) 0 rfl sz33 rfl rfl rfl rfl) ?_
    refine ol_put rfl rfl rfl (q_lenS rfl ty33 rfl rfl rfl rfl) ?_
    by_cases c9 : ((s4.l.length : Nat) : Int) > 5
    · replace h := ifT c9 h
      refine ol_put rfl rfl rfl (q_bin rfl rfl (p_gtr_t _ _ _ _ _ c9) rfl) ?_
      refine ol_put rfl rfl rfl (q_pickF (v := .one (bC true)) rfl rfl) ?_
      refine ol_end ?_
      refine E_seq ?_
      refine L_condT rfl ?_
      refine L_seq ?_
      refine L_ops ?_
      obtain ⟨b11, h10, h⟩ := bindS h
      refine ol_put rfl rfl rfl (q_callF (v := .one (bC b11)) (args := []) (FL_r (m + 4) h10) rfl rfl vw_nil rfl rfl) ?_
      refine ol_put rfl rfl rfl (q_assign (v := .one (bC b11)) rfl) ?_
      refine ol_end ?_
      refine E_seq ?_
      refine L_ret ?_
      refine E_seqR ?_
      obtain rfl := Option.some.inj h
      exact E_endF (.inr rfl) (res_tmp rfl res_nil) (vw_cons (vd_one vc_v) vw_nil) (fun h hb => own_p) rfl rfl
    · replace h := ifF c9 h
      refine ol_put rfl rfl rfl (q_bin rfl rfl (p_gtr_f _ _ _ _ _ c9) rfl) ?_
      refine ol_put rfl rfl rfl (q_pickF (v := .one (bC false)) rfl rfl) ?_
      refine ol_end ?_
      refine E_seq ?_
      refine L_condF rfl ?_
      refine L_skip ?_
      refine E_seq ?_
      refine L_seq ?_
      refine L_ops ?_
      refine ol_put rfl rfl rfl (q_move (v := .one (iC .u8 n1)) rfl) ?_
      refine ol_put rfl rfl rfl (q_move (v := .one (.p false (Sl.t r56 s2))) rfl) ?_
      obtain ⟨⟨n13, s14⟩, h12, h⟩ := bindS h
      refine ol_put rfl rfl rfl (q_callF (v := .agg [iC .i64 n13, .p true (Sl.t r56 s14)]) (args := [.one (iC .u8 n1), .one (.p false (Sl.t r56 s2))]) (law09_Some_r (m + 0) h12) rfl rfl (vw_cons (vd_one vc_v) (vw_cons (vd_one vc_s) vw_nil)) rfl rfl) ?_
      refine ol_new rfl rfl rfl (q_alloc ty25 (row := [iC .i64 0, .p true (Sl.t r56 (⟨false, 0, []⟩ : Sl (Int × Int)))]) rfl rfl) (fun k15 => ?_)
      refine ol_wr rfl rfl (q_store (es' := [[iC .i64 n13, .p true (Sl.t r56 s14)]]) 0 rfl rfl rfl sz25 rfl rfl rfl rfl rfl) rfl ?_
      refine ol_end ?_
      refine E_seq ?_
      refine L_seq ?_
      refine L_norm (L2 := ([[(k15, 2, [[iC .i64 n13, .p true (Sl.t r56 s14)]])], [(k5, 2, [[.p false (Sl.t r61 s3), .p false (Sl.t r61 s4)]])]] : BL)) [0, 1] (by decide) rfl ?_
      refine L_turn 12 rfl [[], [], [], [], [], [], [], [], [], [], [], []] [(false, []), (false, []), (false, []), (false, []), (false, []), (false, []), (false, []), (false, []), (true, []), (true, []), (false, [8]), (false, [9])] [[1, 2, 4, 5, 6, 8, 9], [0, 4, 5, 6, 8, 9], [0, 4, 5, 6, 8, 9], [4, 5, 6, 8, 9], [0, 1, 2, 3, 5, 6, 8, 9], [0, 1, 2, 3, 4, 8, 9], [0, 1, 2, 3, 4, 8, 9], [8, 9], [0, 1, 2, 3, 4, 5, 6, 7, 9], [0, 1, 2, 3, 4, 5, 6, 7, 8], [], []] (by kernel_rfl) (by kernel_rfl) (by kernel_rfl) ?_ (fun bb16 hlt hnd => ?_)
      · intro bb16 hlt hnd
        exact ⟨⟨djE, ⟨djE, ⟨djE, ⟨djE, ⟨djE, ⟨djE, ⟨djE, ⟨djE, ⟨djE, ⟨djE, ⟨djE, ⟨djE, trivial⟩⟩⟩⟩⟩⟩⟩⟩⟩⟩⟩⟩, (ltO_cons ltK_nil (ltO_cons ltK_nil (ltO_cons ltK_nil (ltO_cons ltK_nil (ltO_cons ltK_nil (ltO_cons ltK_nil (ltO_cons ltK_nil (ltO_cons ltK_nil (ltO_cons ltK_nil (ltO_cons ltK_nil (ltO_cons ltK_nil (ltO_cons ltK_nil ltO_nil))))))))))))⟩
      refine tn_put rfl rfl rfl [0] (by decide) rfl (hmc (nin_cons (ne_new (key_lt hlt 0 rfl)) (nin_cons (ne_new (key_lt hlt 0 rfl)) nin_nil)) hmn) rfl (q_loadP (v := .agg [iC .i64 n13, .p true (Sl.t r56 s14)]) 0 rfl sz25 rfl rfl rfl rfl) ?_
      refine tn_put rfl rfl rfl [] (by decide) rfl hmn rfl (q_ixA (a := 0) ty42 rfl ty33 rfl rfl rfl rfl) ?_
      refine tn_put rfl rfl rfl [1] (by decide) rfl (hmc (nin_cons (ne_new (key_lt hlt 1 rfl)) (nin_cons (ne_new (key_lt hlt 1 rfl)) nin_nil)) hmn) rfl (q_loadP (v := .one (.p false (Sl.t r61 s3))) 0 rfl sz33 rfl rfl rfl rfl) ?_
      obtain ⟨⟨n24, s25⟩, h23, h⟩ := bindS h
      refine tn_put rfl rfl rfl [] (by decide) rfl hmn rfl (q_callF (v := .agg [iC .i64 n24, .p true (Sl.t r56 s25)]) (args := [.agg [iC .i64 n13, .p true (Sl.t r56 s14)], .one (.p false (Sl.t r61 s3)), .one (bC false)]) (blend_Mask_r (m + 1) h23) rfl rfl (vw_cons (vd_agg (vc_cons vc_v (vc_cons vc_s vc_nil))) (vw_cons (vd_one vc_s) (vw_cons (vd_one vc_v) vw_nil))) rfl rfl) ?_
      refine tn_put rfl rfl rfl [0] (by decide) rfl (hmc (nin_cons (ne_new (key_lt hlt 0 rfl)) (nin_cons (ne_new (key_lt hlt 0 rfl)) nin_nil)) hmn) rfl (q_loadP (v := .agg [iC .i64 n13, .p true (Sl.t r56 s14)]) 0 rfl sz25 rfl rfl rfl rfl) ?_
      refine tn_put rfl rfl rfl [] (by decide) rfl hmn rfl (q_ixA (a := 0) ty42 rfl ty33 rfl rfl rfl rfl) ?_
      refine tn_put rfl rfl rfl [1] (by decide) rfl (hmc (nin_cons (ne_new (key_lt hlt 1 rfl)) (nin_cons (ne_new (key_lt hlt 1 rfl)) nin_nil)) hmn) rfl (q_loadP (v := .one (.p false (Sl.t r61 s3))) 0 rfl sz33 rfl rfl rfl rfl) ?_
      obtain ⟨⟨n27, s28⟩, h26, h⟩ := bindS h
      refine tn_put rfl rfl rfl [] (by decide) rfl hmn rfl (q_callF (v := .agg [iC .i64 n27, .p true (Sl.t r56 s28)]) (args := [.agg [iC .i64 n13, .p true (Sl.t r56 s14)], .one (.p false (Sl.t r61 s3)), .one (bC true)]) (blend_Mask_r (m + 1) h26) rfl rfl (vw_cons (vd_agg (vc_cons vc_v (vc_cons vc_s vc_nil))) (vw_cons (vd_one vc_s) (vw_cons (vd_one vc_v) vw_nil))) rfl rfl) ?_
      refine tn_new rfl rfl rfl [] (by decide) rfl hmn rfl rfl (hkc (ne_new (key_lt hlt 0 rfl)) (hkc (ne_new (key_lt hlt 1 rfl)) hkn)) (q_alloc ty25 (row := [iC .i64 0, .p true (Sl.t r56 (⟨false, 0, []⟩ : Sl (Int × Int)))]) rfl rfl) ?_
      refine tn_new rfl rfl rfl [] (by decide) rfl hmn rfl rfl (hkc (ne_add rfl) (hkc (ne_new (key_lt hlt 0 rfl)) (hkc (ne_new (key_lt hlt 1 rfl)) hkn))) (q_alloc ty25 (row := [iC .i64 0, .p true (Sl.t r56 (⟨false, 0, []⟩ : Sl (Int × Int)))]) rfl rfl) ?_
      refine tn_wr rfl rfl [1] (by decide) rfl (hm0 rfl) rfl (q_store (es' := [[iC .i64 n24, .p true (Sl.t r56 s25)]]) 0 rfl rfl rfl sz25 rfl rfl rfl rfl rfl) (q := 1) rfl rfl ?_
      refine tn_wr rfl rfl [0] (by decide) rfl (hm0 rfl) rfl (q_store (es' := [[iC .i64 n27, .p true (Sl.t r56 s28)]]) 0 rfl rfl rfl sz25 rfl rfl rfl rfl rfl) (q := 0) rfl rfl ?_
      refine tn_end ?_
      refine E_seq ?_
      refine L_seq ?_
      refine L_ops ?_
      refine ol_put rfl rfl rfl (q_loadP (v := .agg [iC .i64 n24, .p true (Sl.t r56 s25)]) 1 rfl sz25 rfl rfl rfl rfl) ?_
      refine ol_put rfl rfl rfl (q_loadP (v := .agg [iC .i64 n27, .p true (Sl.t r56 s28)]) 0 rfl sz25 rfl rfl rfl rfl) ?_
      obtain ⟨⟨⟨n30, s31⟩, n32⟩, h29, h⟩ := bindS h
      refine ol_put rfl rfl rfl (q_callF (v := .tup [.agg [iC .i64 n30, .p true (Sl.t r56 s31)], .one (iC .i64 n32)]) (args := [.agg [iC .i64 n24, .p true (Sl.t r56 s25)], .agg [iC .i64 n27, .p true (Sl.t r56 s28)]]) (blend_Over_r (m + 0) h29) rfl rfl (vw_cons (vd_agg (vc_cons vc_v (vc_cons vc_s vc_nil))) (vw_cons (vd_agg (vc_cons vc_v (vc_cons vc_s vc_nil))) vw_nil)) rfl rfl) ?_
      refine ol_put rfl rfl rfl (q_move (v := .tup [.agg [iC .i64 n30, .p true (Sl.t r56 s31)], .one (iC .i64 n32)]) rfl) ?_
      refine ol_put rfl rfl rfl (q_ext (v := .agg [iC .i64 n30, .p true (Sl.t r56 s31)]) rfl rfl) ?_
      refine ol_put rfl rfl rfl (q_ext (v := .one (iC .i64 n32)) rfl rfl) ?_
      refine ol_new rfl rfl rfl (q_alloc ty25 (row := [iC .i64 0, .p true (Sl.t r56 (⟨false, 0, []⟩ : Sl (Int × Int)))]) rfl rfl) (fun k33 => ?_)
      refine ol_wr rfl rfl (q_store (es' := [[iC .i64 n30, .p true (Sl.t r56 s31)]]) 0 rfl rfl rfl sz25 rfl rfl rfl rfl rfl) rfl ?_
      refine ol_put rfl rfl rfl (q_assign (v := .one (iC .i64 n32)) rfl) ?_
      refine ol_end ?_
      refine E_seq ?_
      refine L_seq ?_
      refine L_ops ?_
      refine ol_put rfl rfl rfl (q_ixA (a := 0) ty42 rfl ty33 rfl rfl rfl rfl) ?_
      refine ol_put rfl rfl rfl (q_loadP (v := .one (.p false (Sl.t r61 s3))) 4 rfl sz33 rfl rfl rfl rfl) ?_
      refine ol_put rfl rfl rfl (q_ixA (a := 1) ty42 rfl ty33 rfl rfl rfl rfl) ?_
      refine ol_put rfl rfl rfl (q_loadP (v := .one (.p false (Sl.t r61 s4))) 4 rfl sz33 rfl rfl rfl rfl) ?_
      obtain ⟨s35, h34, h⟩ := bindS h
      refine ol_new rfl rfl rfl (q_callO (args := [.one (.p false (Sl.t r61 s3)), .one (.p false (Sl.t r61 s4))]) (ref03_Both_r (m + 3) h34) rfl rfl (vw_cons (vd_one vc_s) (vw_cons (vd_one vc_s) vw_nil)) rfl) (fun k36 => ?_)
      refine ol_put rfl rfl rfl (q_assign (v := .one (.own k36 0 (s35).length)) rfl) ?_
      refine ol_end ?_
      refine E_seq ?_
      refine L_seq ?_
      refine L_still (by kernel_rfl) ?_
      obtain ⟨b38, h37, h⟩ := bindS h
      refine st_put rfl rfl rfl (q_callF (v := .one (bC b38)) (args := []) (FL_r (m + 4) h37) rfl rfl vw_nil rfl rfl) ?_
      refine st_put rfl rfl rfl (q_move (v := .one (bC b38)) rfl) ?_
      rcases b38 with _ | _
      · replace h := ifF (by decide) h
        refine st_skip rfl rfl rfl ?_
        refine st_skip rfl rfl rfl ?_
        refine st_put rfl rfl rfl (q_pickF (v := .one (bC false)) rfl rfl) ?_
        refine st_put rfl rfl rfl (q_move (v := .one (bC false)) rfl) ?_
        refine st_skip rfl rfl rfl ?_
        refine st_skip rfl rfl rfl ?_
        refine st_skip rfl rfl rfl ?_
        refine st_put rfl rfl rfl (q_pickF (v := .one (bC false)) rfl rfl) ?_
        refine st_put rfl rfl rfl (q_move (v := .one (bC false)) rfl) ?_
        refine st_skip rfl rfl rfl ?_
        refine st_skip rfl rfl rfl ?_
        refine st_skip rfl rfl rfl ?_
        refine st_skip rfl rfl rfl ?_
        refine st_skip rfl rfl rfl ?_
        refine st_skip rfl rfl rfl ?_
        refine st_skip rfl rfl rfl ?_
        refine st_skip rfl rfl rfl ?_
        refine st_skip rfl rfl rfl ?_
        refine st_skip rfl rfl rfl ?_
        refine st_skip rfl rfl rfl ?_
        refine st_put rfl rfl rfl (q_pickF (v := .one (bC false)) rfl rfl) ?_
        refine st_put rfl rfl rfl (q_move (v := .one (bC false)) rfl) ?_
        refine st_skip rfl rfl rfl ?_
        refine st_skip rfl rfl rfl ?_
        refine st_skip rfl rfl rfl ?_
        refine st_skip rfl rfl rfl ?_
        refine st_skip rfl rfl rfl ?_
        refine st_skip rfl rfl rfl ?_
        refine st_skip rfl rfl rfl ?_
        refine st_skip rfl rfl rfl ?_
        refine st_put rfl rfl rfl (q_pickF (v := .one (bC false)) rfl rfl) ?_
        refine st_put rfl rfl rfl (q_assign (v := .one (bC false)) rfl) ?_
        refine st_end ?_
        refine E_seq ?_
        refine L_ret ?_
        obtain rfl := Option.some.inj h
        exact E_endF (.inr rfl) (res_tmp rfl res_nil) (vw_cons (vd_one vc_v) vw_nil) (fun h hb => own_p) rfl rfl
      · replace h := ifT (by decide) h
        refine st_put rfl rfl rfl (q_move (v := .one (iC .i64 n32)) rfl) ?_
        by_cases c39 : n32 = 0
        · replace h := ifT c39 h
          refine st_put rfl rfl rfl (q_bin rfl rfl (p_eql_t _ _ _ _ _ c39) rfl) ?_
          refine st_put rfl rfl rfl (q_pickT (v := .one (bC true)) rfl rfl) ?_
          refine st_put rfl rfl rfl (q_move (v := .one (bC true)) rfl) ?_
          refine st_put rfl rfl rfl (q_loadP (v := .agg [iC .i64 n30, .p true (Sl.t r56 s31)]) 1 rfl sz25 rfl rfl rfl rfl) ?_
          refine st_put rfl rfl rfl (q_loadP (v := .agg [iC .i64 n13, .p true (Sl.t r56 s14)]) 4 rfl sz25 rfl rfl rfl rfl) ?_
          obtain ⟨b41, h40, h⟩ := bindS h
          refine st_put rfl rfl rfl (q_callF (v := .one (bC b41)) (args := [.agg [iC .i64 n30, .p true (Sl.t r56 s31)], .agg [iC .i64 n13, .p true (Sl.t r56 s14)]]) (ref09_Same_r (m + 3) h40) rfl rfl (vw_cons (vd_agg (vc_cons vc_v (vc_cons vc_s vc_nil))) (vw_cons (vd_agg (vc_cons vc_v (vc_cons vc_s vc_nil))) vw_nil)) rfl rfl) ?_
          refine st_put rfl rfl rfl (q_pickT (v := .one (bC b41)) rfl rfl) ?_
          refine st_put rfl rfl rfl (q_move (v := .one (bC b41)) rfl) ?_
          rcases b41 with _ | _
          · replace h := ifF (by decide) h
            refine st_skip rfl rfl rfl ?_
            refine st_skip rfl rfl rfl ?_
            refine st_skip rfl rfl rfl ?_
            refine st_skip rfl rfl rfl ?_
            refine st_skip rfl rfl rfl ?_
            refine st_skip rfl rfl rfl ?_
            refine st_skip rfl rfl rfl ?_
            refine st_skip rfl rfl rfl ?_
            refine st_skip rfl rfl rfl ?_
            refine st_skip rfl rfl rfl ?_
            refine st_skip rfl rfl rfl ?_
            refine st_put rfl rfl rfl (q_pickF (v := .one (bC false)) rfl rfl) ?_
            refine st_put rfl rfl rfl (q_move (v := .one (bC false)) rfl) ?_
            refine st_skip rfl rfl rfl ?_
            refine st_skip rfl rfl rfl ?_
            refine st_skip rfl rfl rfl ?_
            refine st_skip rfl rfl rfl ?_
            refine st_skip rfl rfl rfl ?_
            refine st_skip rfl rfl rfl ?_
            refine st_skip rfl rfl rfl ?_
            refine st_skip rfl rfl rfl ?_
            refine st_put rfl rfl rfl (q_pickF (v := .one (bC false)) rfl rfl) ?_
            refine st_put rfl rfl rfl (q_assign (v := .one (bC false)) rfl) ?_
            refine st_end ?_
            refine E_seq ?_
            refine L_ret ?_
            obtain rfl := Option.some.inj h
            exact E_endF (.inr rfl) (res_tmp rfl res_nil) (vw_cons (vd_one vc_v) vw_nil) (fun h hb => own_p) rfl rfl
          · replace h := ifT (by decide) h
            refine st_put rfl rfl rfl (q_fieldP rfl fa25_1 rfl) ?_
            refine st_put rfl rfl rfl (q_loadP (v := .one (.p true (Sl.t r56 s25))) 3 rfl sz23 rfl rfl rfl rfl) ?_
            refine st_put rfl rfl rfl (q_lenS rfl ty23 rfl rfl rfl rfl) ?_
            refine st_put rfl rfl rfl (q_fieldP rfl fa25_1 rfl) ?_
            refine st_put rfl rfl rfl (q_loadP (v := .one (.p true (Sl.t r56 s28))) 2 rfl sz23 rfl rfl rfl rfl) ?_
            refine st_put rfl rfl rfl (q_lenS rfl ty23 rfl rfl rfl rfl) ?_
            refine st_put rfl rfl rfl (q_bin rfl rfl (p_add _ _ _ _ _ _ _) rfl) ?_
            refine st_put rfl rfl rfl (q_fieldP rfl fa25_1 rfl) ?_
            refine st_put rfl rfl rfl (q_loadP (v := .one (.p true (Sl.t r56 s14))) 4 rfl sz23 rfl rfl rfl rfl) ?_
            refine st_put rfl rfl rfl (q_lenS rfl ty23 rfl rfl rfl rfl) ?_
            by_cases c42 : (IntKind.i64.wrap (((s25.l.length : Nat) : Int) + ((s28.l.length : Nat) : Int))) = ((s14.l.length : Nat) : Int)
            · replace h := ifT c42 h
              refine st_put rfl rfl rfl (q_bin rfl rfl (p_eql_t _ _ _ _ _ c42) rfl) ?_
              refine st_put rfl rfl rfl (q_pickT (v := .one (bC true)) rfl rfl) ?_
              refine st_put rfl rfl rfl (q_move (v := .one (bC true)) rfl) ?_
              refine st_put rfl rfl rfl (q_loadP (v := .agg [iC .i64 n24, .p true (Sl.t r56 s25)]) 3 rfl sz25 rfl rfl rfl rfl) ?_
              refine st_put rfl rfl rfl (q_ixA (a := 1) ty42 rfl ty33 rfl rfl rfl rfl) ?_
              refine st_put rfl rfl rfl (q_loadP (v := .one (.p false (Sl.t r61 s4))) 5 rfl sz33 rfl rfl rfl rfl) ?_
              obtain ⟨⟨n44, s45⟩, h43, h⟩ := bindS h
              refine st_put rfl rfl rfl (q_callF (v := .agg [iC .i64 n44, .p true (Sl.t r56 s45)]) (args := [.agg [iC .i64 n24, .p true (Sl.t r56 s25)], .one (.p false (Sl.t r61 s4)), .one (bC false)]) (blend_Mask_r (m + 1) h43) rfl rfl (vw_cons (vd_agg (vc_cons vc_v (vc_cons vc_s vc_nil))) (vw_cons (vd_one vc_s) (vw_cons (vd_one vc_v) vw_nil))) rfl rfl) ?_
              refine st_put rfl rfl rfl (q_loadP (v := .agg [iC .i64 n13, .p true (Sl.t r56 s14)]) 4 rfl sz25 rfl rfl rfl rfl) ?_
              refine st_put rfl rfl rfl (q_move (v := .one (.own k36 0 (s35).length)) rfl) ?_
              obtain ⟨⟨n47, s48⟩, h46, h⟩ := bindS h
              refine st_put rfl rfl rfl (q_callF (v := .agg [iC .i64 n47, .p true (Sl.t r56 s48)]) (args := [.agg [iC .i64 n13, .p true (Sl.t r56 s14)], .one (.own k36 0 (s35).length), .one (bC false)]) (blend_Mask_r (m + 1) h46) rfl rfl (vw_cons (vd_agg (vc_cons vc_v (vc_cons vc_s vc_nil))) (vw_cons (vd_one (vc_own (r := r61) 0 rfl (fun x h m => rfl))) (vw_cons (vd_one vc_v) vw_nil))) rfl rfl) ?_
              obtain ⟨b50, h49, h⟩ := bindS h
              refine st_put rfl rfl rfl (q_callF (v := .one (bC b50)) (args := [.agg [iC .i64 n44, .p true (Sl.t r56 s45)], .agg [iC .i64 n47, .p true (Sl.t r56 s48)]]) (ref09_Same_r (m + 3) h49) rfl rfl (vw_cons (vd_agg (vc_cons vc_v (vc_cons vc_s vc_nil))) (vw_cons (vd_agg (vc_cons vc_v (vc_cons vc_s vc_nil))) vw_nil)) rfl rfl) ?_
              refine st_put rfl rfl rfl (q_pickT (v := .one (bC b50)) rfl rfl) ?_
              refine st_put rfl rfl rfl (q_assign (v := .one (bC b50)) rfl) ?_
              refine st_end ?_
              refine E_seq ?_
              refine L_ret ?_
              obtain rfl := Option.some.inj h
              exact E_endF (.inr rfl) (res_tmp rfl res_nil) (vw_cons (vd_one vc_v) vw_nil) (fun h hb => own_p) rfl rfl
            · replace h := ifF c42 h
              refine st_put rfl rfl rfl (q_bin rfl rfl (p_eql_f _ _ _ _ _ c42) rfl) ?_
              refine st_put rfl rfl rfl (q_pickT (v := .one (bC false)) rfl rfl) ?_
              refine st_put rfl rfl rfl (q_move (v := .one (bC false)) rfl) ?_
              refine st_skip rfl rfl rfl ?_
              refine st_skip rfl rfl rfl ?_
              refine st_skip rfl rfl rfl ?_
              refine st_skip rfl rfl rfl ?_
              refine st_skip rfl rfl rfl ?_
              refine st_skip rfl rfl rfl ?_
              refine st_skip rfl rfl rfl ?_
              refine st_skip rfl rfl rfl ?_
              refine st_put rfl rfl rfl (q_pickF (v := .one (bC false)) rfl rfl) ?_
              refine st_put rfl rfl rfl (q_assign (v := .one (bC false)) rfl) ?_
              refine st_end ?_
              refine E_seq ?_
              refine L_ret ?_
              obtain rfl := Option.some.inj h
              exact E_endF (.inr rfl) (res_tmp rfl res_nil) (vw_cons (vd_one vc_v) vw_nil) (fun h hb => own_p) rfl rfl
        · replace h := ifF c39 h
          refine st_put rfl rfl rfl (q_bin rfl rfl (p_eql_f _ _ _ _ _ c39) rfl) ?_
          refine st_put rfl rfl rfl (q_pickT (v := .one (bC false)) rfl rfl) ?_
          refine st_put rfl rfl rfl (q_move (v := .one (bC false)) rfl) ?_
          refine st_skip rfl rfl rfl ?_
          refine st_skip rfl rfl rfl ?_
          refine st_skip rfl rfl rfl ?_
          refine st_put rfl rfl rfl (q_pickF (v := .one (bC false)) rfl rfl) ?_
          refine st_put rfl rfl rfl (q_move (v := .one (bC false)) rfl) ?_
          refine st_skip rfl rfl rfl ?_
          refine st_skip rfl rfl rfl ?_
          refine st_skip rfl rfl rfl ?_
          refine st_skip rfl rfl rfl ?_
          refine st_skip rfl rfl rfl ?_
          refine st_skip rfl rfl rfl ?_
          refine st_skip rfl rfl rfl ?_
          refine st_skip rfl rfl rfl ?_
          refine st_skip rfl rfl rfl ?_
          refine st_skip rfl rfl rfl ?_
          refine st_skip rfl rfl rfl ?_
          refine st_put rfl rfl rfl (q_pickF (v := .one (bC false)) rfl rfl) ?_
          refine st_put rfl rfl rfl (q_move (v := .one (bC false)) rfl) ?_
          refine st_skip rfl rfl rfl ?_
          refine st_skip rfl rfl rfl ?_
          refine st_skip rfl rfl rfl ?_
          refine st_skip rfl rfl rfl ?_
          refine st_skip rfl rfl rfl ?_
          refine st_skip rfl rfl rfl ?_
          refine st_skip rfl rfl rfl ?_
          refine st_skip rfl rfl rfl ?_
          refine st_put rfl rfl rfl (q_pickF (v := .one (bC false)) rfl rfl) ?_
          refine st_put rfl rfl rfl (q_assign (v := .one (bC false)) rfl) ?_
          refine st_end ?_
          refine E_seq ?_
          refine L_ret ?_
          obtain rfl := Option.some.inj h
          exact E_endF (.inr rfl) (res_tmp rfl res_nil) (vw_cons (vd_one vc_v) vw_nil) (fun h hb => own_p) rfl rfl
end Ev
end Go.Proofs.Ytlcfdmjkbaegpaa
