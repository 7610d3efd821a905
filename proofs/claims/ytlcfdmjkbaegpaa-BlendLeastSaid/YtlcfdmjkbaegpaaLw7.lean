/- Functions of the program as functions on data, and that they are. -/
import Derived.Test.YtlcfdmjkbaegpaaLf1
import Derived.Test.YtlcfdmjkbaegpaaLf3
import Derived.Test.YtlcfdmjkbaegpaaLf4
import Derived.Test.YtlcfdmjkbaegpaaLf5
import Derived.Test.YtlcfdmjkbaegpaaLf7
import Derived.Test.YtlcfdmjkbaegpaaLy1
namespace Go.Proofs.Ytlcfdmjkbaegpaa
namespace Ev
open Go
set_option linter.unusedVariables false
set_option linter.unusedSimpArgs false
set_option maxRecDepth 100000
set_option maxHeartbeats 1000000
attribute [local irreducible] OpsL StL TnL WpL EndL
noncomputable def law11_BlendLeast (n1 : Int) (a1 : (Sl (Int × Int)) × (Sl (Int × Int))) : Option (Bool) :=
  match a1 with
  | (s2, s3) => ((law09_Some n1 s2).bind fun (n13, s14) => ((law09_Some n1 s3).bind fun (n16, s17) => ((blend_Better (n13, s14) (n16, s17)).bind fun ((n19, s20), n21) => ((blend_Union 1 (n13, s14) (n16, s17)).bind fun ((n24, s25), n26) => ((blend_Over (n16, s17) (n19, s20)).bind fun ((n29, s30), n31) => ((blend_Better (n16, s17) (n16, s17)).bind fun ((n34, s35), n36) => ((blend_Better (n13, s14) (n24, s25)).bind fun ((n39, s40), n41) => ((FL).bind fun b44 => (if b44 = true then (if n21 = 0 then (if n26 = 0 then (if n31 = 0 then (if n36 = 0 then (if n41 = 0 then ((ref09_Same (n29, s30) (n24, s25)).bind fun b51 => (if b51 = true then (if ((s35.l.length : Nat) : Int) = 0 then (if ((s40.l.length : Nat) : Int) = 0 then some true else some false) else some false) else some false)) else some false) else some false) else some false) else some false) else some false) else some false)))))))))
theorem law11_BlendLeast_r (m : Nat) {n1 : Int} {a1 : (Sl (Int × Int)) × (Sl (Int × Int))} {out : Bool} (h : law11_BlendLeast n1 a1 = some out) : RunsP E1 (m + 7) 7 [.one (iT .u8 n1), .agg (r46 a1)] (.fresh, [.one (bT out)]) := by
  obtain ⟨s2, s3⟩ := a1
  refine fn_F rfl (by rw [E1_fn]; exact show fiOf Try.prog 7 = _ by unfold fiOf; rw [Try.func7]; unfold Try.f7; rfl) rfl ?_
  dsimp only
  unfold law11_BlendLeast at h
  refine L_seq ?_
  refine L_ops ?_
  refine ol_new rfl rfl rfl (q_box ty46 rfl (cs := [.p false (Sl.t r56 s2), .p false (Sl.t r56 s3)]) rfl rfl) (fun k4 => ?_)
  refine ol_put rfl rfl rfl (q_assign (v := .one (bC false)) rfl) ?_
  refine ol_end ?_
  refine E_seq ?_
  refine L_seq ?_
  refine L_norm (L2 := ([[(k4, 2, [[.p false (Sl.t r56 s2), .p false (Sl.t r56 s3)]])]] : BL)) [0] (by decide) rfl ?_
  refine L_turn 12 rfl [[], [], [], [], [], [], [], [], [], [], [], []] [(false, []), (false, []), (false, []), (false, []), (false, []), (false, []), (false, []), (false, []), (true, []), (true, []), (false, [8]), (false, [9])] [[1, 2, 4, 5, 6, 8, 9], [0, 4, 5, 6, 8, 9], [0, 4, 5, 6, 8, 9], [4, 5, 6, 8, 9], [0, 1, 2, 3, 5, 6, 8, 9], [0, 1, 2, 3, 4, 8, 9], [0, 1, 2, 3, 4, 8, 9], [8, 9], [0, 1, 2, 3, 4, 5, 6, 7, 9], [0, 1, 2, 3, 4, 5, 6, 7, 8], [], []] (by kernel_rfl) (by kernel_rfl) (by kernel_rfl) ?_ (fun bb5 hlt hnd => ?_)
  · intro bb5 hlt hnd
    exact ⟨⟨djE, ⟨djE, ⟨djE, ⟨djE, ⟨djE, ⟨djE, ⟨djE, ⟨djE, ⟨djE, ⟨djE, ⟨djE, ⟨djE, trivial⟩⟩⟩⟩⟩⟩⟩⟩⟩⟩⟩⟩, (ltO_cons ltK_nil (ltO_cons ltK_nil (ltO_cons ltK_nil (ltO_cons ltK_nil (ltO_cons ltK_nil (ltO_cons ltK_nil (ltO_cons ltK_nil (ltO_cons ltK_nil (ltO_cons ltK_nil (ltO_cons ltK_nil (ltO_cons ltK_nil (ltO_cons ltK_nil ltO_nil))))))))))))⟩
  refine tn_put rfl rfl rfl [] (by decide) rfl hmn rfl (q_move (v := .one (iC .u8 n1)) rfl) ?_
  refine tn_put rfl rfl rfl [] (by decide) rfl hmn rfl (q_ixA (a := 0) ty46 rfl ty23 rfl rfl rfl rfl) ?_
  refine tn_put rfl rfl rfl [0] (by decide) rfl (hmc (nin_cons (ne_new (key_lt hlt 0 rfl)) (nin_cons (ne_new (key_lt hlt 0 rfl)) nin_nil)) hmn) rfl (q_loadP (v := .one (.p false (Sl.t r56 s2))) 0 rfl sz23 rfl rfl rfl rfl) ?_
  obtain ⟨⟨n13, s14⟩, h12, h⟩ := bindS h
  refine tn_put rfl rfl rfl [] (by decide) rfl hmn rfl (q_callF (v := .agg [iC .i64 n13, .p true (Sl.t r56 s14)]) (args := [.one (iC .u8 n1), .one (.p false (Sl.t r56 s2))]) (law09_Some_r (m + 1) h12) rfl rfl (vw_cons (vd_one vc_v) (vw_cons (vd_one vc_s) vw_nil)) rfl rfl) ?_
  refine tn_put rfl rfl rfl [] (by decide) rfl hmn rfl (q_move (v := .one (iC .u8 n1)) rfl) ?_
  refine tn_put rfl rfl rfl [] (by decide) rfl hmn rfl (q_ixA (a := 1) ty46 rfl ty23 rfl rfl rfl rfl) ?_
  refine tn_put rfl rfl rfl [0] (by decide) rfl (hmc (nin_cons (ne_new (key_lt hlt 0 rfl)) (nin_cons (ne_new (key_lt hlt 0 rfl)) nin_nil)) hmn) rfl (q_loadP (v := .one (.p false (Sl.t r56 s3))) 0 rfl sz23 rfl rfl rfl rfl) ?_
  obtain ⟨⟨n16, s17⟩, h15, h⟩ := bindS h
  refine tn_put rfl rfl rfl [] (by decide) rfl hmn rfl (q_callF (v := .agg [iC .i64 n16, .p true (Sl.t r56 s17)]) (args := [.one (iC .u8 n1), .one (.p false (Sl.t r56 s3))]) (law09_Some_r (m + 1) h15) rfl rfl (vw_cons (vd_one vc_v) (vw_cons (vd_one vc_s) vw_nil)) rfl rfl) ?_
  refine tn_new rfl rfl rfl [] (by decide) rfl hmn rfl rfl (hkc (ne_new (key_lt hlt 0 rfl)) hkn) (q_alloc ty25 (row := [iC .i64 0, .p true (Sl.t r56 (⟨false, 0, []⟩ : Sl (Int × Int)))]) rfl rfl) ?_
  refine tn_new rfl rfl rfl [] (by decide) rfl hmn rfl rfl (hkc (ne_add rfl) (hkc (ne_new (key_lt hlt 0 rfl)) hkn)) (q_alloc ty25 (row := [iC .i64 0, .p true (Sl.t r56 (⟨false, 0, []⟩ : Sl (Int × Int)))]) rfl rfl) ?_
  refine tn_wr rfl rfl [1] (by decide) rfl (hm0 rfl) rfl (q_store (es' := [[iC .i64 n13, .p true (Sl.t r56 s14)]]) 0 rfl rfl rfl sz25 rfl rfl rfl rfl rfl) (q := 1) rfl rfl ?_
  refine tn_wr rfl rfl [0] (by decide) rfl (hm0 rfl) rfl (q_store (es' := [[iC .i64 n16, .p true (Sl.t r56 s17)]]) 0 rfl rfl rfl sz25 rfl rfl rfl rfl rfl) (q := 0) rfl rfl ?_
  refine tn_end ?_
  refine E_seq ?_
  refine L_seq ?_
  refine L_ops ?_
  refine ol_put rfl rfl rfl (q_loadP (v := .agg [iC .i64 n13, .p true (Sl.t r56 s14)]) 1 rfl sz25 rfl rfl rfl rfl) ?_
  refine ol_put rfl rfl rfl (q_loadP (v := .agg [iC .i64 n16, .p true (Sl.t r56 s17)]) 0 rfl sz25 rfl rfl rfl rfl) ?_
  obtain ⟨⟨⟨n19, s20⟩, n21⟩, h18, h⟩ := bindS h
  refine ol_put rfl rfl rfl (q_callF (v := .tup [.agg [iC .i64 n19, .p true (Sl.t r56 s20)], .one (iC .i64 n21)]) (args := [.agg [iC .i64 n13, .p true (Sl.t r56 s14)], .agg [iC .i64 n16, .p true (Sl.t r56 s17)]]) (blend_Better_r (m + 1) h18) rfl rfl (vw_cons (vd_agg (vc_cons vc_v (vc_cons vc_s vc_nil))) (vw_cons (vd_agg (vc_cons vc_v (vc_cons vc_s vc_nil))) vw_nil)) rfl rfl) ?_
  refine ol_put rfl rfl rfl (q_move (v := .tup [.agg [iC .i64 n19, .p true (Sl.t r56 s20)], .one (iC .i64 n21)]) rfl) ?_
  refine ol_put rfl rfl rfl (q_ext (v := .agg [iC .i64 n19, .p true (Sl.t r56 s20)]) rfl rfl) ?_
  refine ol_put rfl rfl rfl (q_ext (v := .one (iC .i64 n21)) rfl rfl) ?_
  refine ol_new rfl rfl rfl (q_alloc ty25 (row := [iC .i64 0, .p true (Sl.t r56 (⟨false, 0, []⟩ : Sl (Int × Int)))]) rfl rfl) (fun k22 => ?_)
  refine ol_wr rfl rfl (q_store (es' := [[iC .i64 n19, .p true (Sl.t r56 s20)]]) 0 rfl rfl rfl sz25 rfl rfl rfl rfl rfl) rfl ?_
  refine ol_put rfl rfl rfl (q_assign (v := .one (iC .i64 n21)) rfl) ?_
  refine ol_end ?_
  refine E_seq ?_
  refine L_seq ?_
  refine L_ops ?_
  refine ol_put rfl rfl rfl (q_loadP (v := .agg [iC .i64 n13, .p true (Sl.t r56 s14)]) 2 rfl sz25 rfl rfl rfl rfl) ?_
  refine ol_put rfl rfl rfl (q_loadP (v := .agg [iC .i64 n16, .p true (Sl.t r56 s17)]) 1 rfl sz25 rfl rfl rfl rfl) ?_
  obtain ⟨⟨⟨n24, s25⟩, n26⟩, h23, h⟩ := bindS h
  refine ol_put rfl rfl rfl (q_callF (v := .tup [.agg [iC .i64 n24, .p true (Sl.t r56 s25)], .one (iC .i64 n26)]) (args := [.one (iC .i64 1), .agg [iC .i64 n13, .p true (Sl.t r56 s14)], .agg [iC .i64 n16, .p true (Sl.t r56 s17)]]) (blend_Union_r (m + 0) h23) rfl rfl (vw_cons (vd_one vc_v) (vw_cons (vd_agg (vc_cons vc_v (vc_cons vc_s vc_nil))) (vw_cons (vd_agg (vc_cons vc_v (vc_cons vc_s vc_nil))) vw_nil))) rfl rfl) ?_
  refine ol_put rfl rfl rfl (q_move (v := .tup [.agg [iC .i64 n24, .p true (Sl.t r56 s25)], .one (iC .i64 n26)]) rfl) ?_
  refine ol_put rfl rfl rfl (q_ext (v := .agg [iC .i64 n24, .p true (Sl.t r56 s25)]) rfl rfl) ?_
  refine ol_put rfl rfl rfl (q_ext (v := .one (iC .i64 n26)) rfl rfl) ?_
  refine ol_new rfl rfl rfl (q_alloc ty25 (row := [iC .i64 0, .p true (Sl.t r56 (⟨false, 0, []⟩ : Sl (Int × Int)))]) rfl rfl) (fun k27 => ?_)
  refine ol_wr rfl rfl (q_store (es' := [[iC .i64 n24, .p true (Sl.t r56 s25)]]) 0 rfl rfl rfl sz25 rfl rfl rfl rfl rfl) rfl ?_
  refine ol_put rfl rfl rfl (q_assign (v := .one (iC .i64 n26)) rfl) ?_
  refine ol_end ?_
  refine E_seq ?_
  refine L_seq ?_
  refine L_ops ?_
  refine ol_put rfl rfl rfl (q_loadP (v := .agg [iC .i64 n16, .p true (Sl.t r56 s17)]) 2 rfl sz25 rfl rfl rfl rfl) ?_
  refine ol_put rfl rfl rfl (q_loadP (v := .agg [iC .i64 n19, .p true (Sl.t r56 s20)]) 1 rfl sz25 rfl rfl rfl rfl) ?_
  obtain ⟨⟨⟨n29, s30⟩, n31⟩, h28, h⟩ := bindS h
  refine ol_put rfl rfl rfl (q_callF (v := .tup [.agg [iC .i64 n29, .p true (Sl.t r56 s30)], .one (iC .i64 n31)]) (args := [.agg [iC .i64 n16, .p true (Sl.t r56 s17)], .agg [iC .i64 n19, .p true (Sl.t r56 s20)]]) (blend_Over_r (m + 1) h28) rfl rfl (vw_cons (vd_agg (vc_cons vc_v (vc_cons vc_s vc_nil))) (vw_cons (vd_agg (vc_cons vc_v (vc_cons vc_s vc_nil))) vw_nil)) rfl rfl) ?_
  refine ol_put rfl rfl rfl (q_move (v := .tup [.agg [iC .i64 n29, .p true (Sl.t r56 s30)], .one (iC .i64 n31)]) rfl) ?_
  refine ol_put rfl rfl rfl (q_ext (v := .agg [iC .i64 n29, .p true (Sl.t r56 s30)]) rfl rfl) ?_
  refine ol_put rfl rfl rfl (q_ext (v := .one (iC .i64 n31)) rfl rfl) ?_
  refine ol_new rfl rfl rfl (q_alloc ty25 (row := [iC .i64 0, .p true (Sl.t r56 (⟨false, 0, []⟩ : Sl (Int × Int)))]) rfl rfl) (fun k32 => ?_)
  refine ol_wr rfl rfl (q_store (es' := [[iC .i64 n29, .p true (Sl.t r56 s30)]]) 0 rfl rfl rfl sz25 rfl rfl rfl rfl rfl) rfl ?_
  refine ol_put rfl rfl rfl (q_assign (v := .one (iC .i64 n31)) rfl) ?_
  refine ol_end ?_
  refine E_seq ?_
  refine L_seq ?_
  refine L_ops ?_
  refine ol_put rfl rfl rfl (q_loadP (v := .agg [iC .i64 n16, .p true (Sl.t r56 s17)]) 3 rfl sz25 rfl rfl rfl rfl) ?_
  refine ol_put rfl rfl rfl (q_loadP (v := .agg [iC .i64 n16, .p true (Sl.t r56 s17)]) 3 rfl sz25 rfl rfl rfl rfl) ?_
  obtain ⟨⟨⟨n34, s35⟩, n36⟩, h33, h⟩ := bindS h
  refine ol_put rfl rfl rfl (q_callF (v := .tup [.agg [iC .i64 n34, .p true (Sl.t r56 s35)], .one (iC .i64 n36)]) (args := [.agg [iC .i64 n16, .p true (Sl.t r56 s17)], .agg [iC .i64 n16, .p true (Sl.t r56 s17)]]) (blend_Better_r (m + 1) h33) rfl rfl (vw_cons (vd_agg (vc_cons vc_v (vc_cons vc_s vc_nil))) (vw_cons (vd_agg (vc_cons vc_v (vc_cons vc_s vc_nil))) vw_nil)) rfl rfl) ?_
  refine ol_put rfl rfl rfl (q_move (v := .tup [.agg [iC .i64 n34, .p true (Sl.t r56 s35)], .one (iC .i64 n36)]) rfl) ?_
  refine ol_put rfl rfl rfl (q_ext (v := .agg [iC .i64 n34, .p true (Sl.t r56 s35)]) rfl rfl) ?_
  refine ol_put rfl rfl rfl (q_ext (v := .one (iC .i64 n36)) rfl rfl) ?_
  refine ol_new rfl rfl rfl (q_alloc ty25 (row := [iC .i64 0, .p true (Sl.t r56 (⟨false, 0, []⟩ : Sl (Int × Int)))]) rfl rfl) (fun k37 => ?_)
  refine ol_wr rfl rfl (q_store (es' := [[iC .i64 n34, .p true (Sl.t r56 s35)]]) 0 rfl rfl rfl sz25 rfl rfl rfl rfl rfl) rfl ?_
  refine ol_put rfl rfl rfl (q_assign (v := .one (iC .i64 n36)) rfl) ?_
  refine ol_end ?_
  refine E_seq ?_
  refine L_seq ?_
  refine L_ops ?_
  refine ol_put rfl rfl rfl (q_loadP (v := .agg [iC .i64 n13, .p true (Sl.t r56 s14)]) 5 rfl sz25 rfl rfl rfl rfl) ?_
  refine ol_put rfl rfl rfl (q_loadP (v := .agg [iC .i64 n24, .p true (Sl.t r56 s25)]) 2 rfl sz25 rfl rfl rfl rfl) ?_
  obtain ⟨⟨⟨n39, s40⟩, n41⟩, h38, h⟩ := bindS h
  refine ol_put rfl rfl rfl (q_callF (v := .tup [.agg [iC .i64 n39, .p true (Sl.t r56 s40)], .one (iC .i64 n41)]) (args := [.agg [iC .i64 n13, .p true (Sl.t r56 s14)], .agg [iC .i64 n24, .p true (Sl.t r56 s25)]]) (blend_Better_r (m + 1) h38) rfl rfl (vw_cons (vd_agg (vc_cons vc_v (vc_cons vc_s vc_nil))) (vw_cons (vd_agg (vc_cons vc_v (vc_cons vc_s vc_nil))) vw_nil)) rfl rfl) ?_
  refine ol_put rfl rfl rfl (q_move (v := .tup [.agg [iC .i64 n39, .p true (Sl.t r56 s40)], .one (iC .i64 n41)]) rfl) ?_
  refine ol_put rfl rfl rfl (q_ext (v := .agg [iC .i64 n39, .p true (Sl.t r56 s40)]) rfl rfl) ?_
  refine ol_put rfl rfl rfl (q_ext (v := .one (iC .i64 n41)) rfl rfl) ?_
  refine ol_new rfl rfl rfl (q_alloc ty25 (row := [iC .i64 0, .p true (Sl.t r56 (⟨false, 0, []⟩ : Sl (Int × Int)))]) rfl rfl) (fun k42 => ?_)
  refine ol_wr rfl rfl (q_store (es' := [[iC .i64 n39, .p true (Sl.t r56 s40)]]) 0 rfl rfl rfl sz25 rfl rfl rfl rfl rfl) rfl ?_
  refine ol_put rfl rfl rfl (q_assign (v := .one (iC .i64 n41)) rfl) ?_
  refine ol_end ?_
  refine E_seq ?_
  refine L_seq ?_
  refine L_ops ?_
  obtain ⟨b44, h43, h⟩ := bindS h
  refine ol_put rfl rfl rfl (q_callF (v := .one (bC b44)) (args := []) (FL_r (m + 5) h43) rfl rfl vw_nil rfl rfl) ?_
  refine ol_put rfl rfl rfl (q_move (v := .one (bC b44)) rfl) ?_
  rcases b44 with _ | _
  · replace h := ifF (by decide) h
    refine ol_skip rfl rfl rfl ?_
    refine ol_skip rfl rfl rfl ?_
    refine ol_put rfl rfl rfl (q_pickF (v := .one (bC false)) rfl rfl) ?_
    refine ol_put rfl rfl rfl (q_move (v := .one (bC false)) rfl) ?_
    refine ol_skip rfl rfl rfl ?_
    refine ol_skip rfl rfl rfl ?_
    refine ol_put rfl rfl rfl (q_pickF (v := .one (bC false)) rfl rfl) ?_
    refine ol_put rfl rfl rfl (q_move (v := .one (bC false)) rfl) ?_
    refine ol_skip rfl rfl rfl ?_
    refine ol_skip rfl rfl rfl ?_
    refine ol_put rfl rfl rfl (q_pickF (v := .one (bC false)) rfl rfl) ?_
    refine ol_put rfl rfl rfl (q_move (v := .one (bC false)) rfl) ?_
    refine ol_skip rfl rfl rfl ?_
    refine ol_skip rfl rfl rfl ?_
    refine ol_put rfl rfl rfl (q_pickF (v := .one (bC false)) rfl rfl) ?_
    refine ol_put rfl rfl rfl (q_move (v := .one (bC false)) rfl) ?_
    refine ol_skip rfl rfl rfl ?_
    refine ol_skip rfl rfl rfl ?_
    refine ol_put rfl rfl rfl (q_pickF (v := .one (bC false)) rfl rfl) ?_
    refine ol_put rfl rfl rfl (q_move (v := .one (bC false)) rfl) ?_
    refine ol_skip rfl rfl rfl ?_
    refine ol_skip rfl rfl rfl ?_
    refine ol_skip rfl rfl rfl ?_
    refine ol_put rfl rfl rfl (q_pickF (v := .one (bC false)) rfl rfl) ?_
    refine ol_put rfl rfl rfl (q_move (v := .one (bC false)) rfl) ?_
    refine ol_skip rfl rfl rfl ?_
    refine ol_skip rfl rfl rfl ?_
    refine ol_skip rfl rfl rfl ?_
    refine ol_skip rfl rfl rfl ?_
    refine ol_put rfl rfl rfl (q_pickF (v := .one (bC false)) rfl rfl) ?_
    refine ol_put rfl rfl rfl (q_move (v := .one (bC false)) rfl) ?_
    refine ol_skip rfl rfl rfl ?_
    refine ol_skip rfl rfl rfl ?_
    refine ol_skip rfl rfl rfl ?_
    refine ol_skip rfl rfl rfl ?_
    refine ol_put rfl rfl rfl (q_pickF (v := .one (bC false)) rfl rfl) ?_
    refine ol_put rfl rfl rfl (q_assign (v := .one (bC false)) rfl) ?_
    refine ol_end ?_
    refine E_seq ?_
    refine L_ret ?_
    obtain rfl := Option.some.inj h
    exact E_endF (.inr rfl) (res_tmp rfl res_nil) (vw_cons (vd_one vc_v) vw_nil) (fun h hb => own_p) rfl rfl
  · replace h := ifT (by decide) h
    refine ol_put rfl rfl rfl (q_move (v := .one (iC .i64 n21)) rfl) ?_
    by_cases c45 : n21 = 0
    · replace h := ifT c45 h
      refine ol_put rfl rfl rfl (q_bin rfl rfl (p_eql_t _ _ _ _ _ c45) rfl) ?_
      refine ol_put rfl rfl rfl (q_pickT (v := .one (bC true)) rfl rfl) ?_
      refine ol_put rfl rfl rfl (q_move (v := .one (bC true)) rfl) ?_
      refine ol_put rfl rfl rfl (q_move (v := .one (iC .i64 n26)) rfl) ?_
      by_cases c46 : n26 = 0
      · replace h := ifT c46 h
        refine ol_put rfl rfl rfl (q_bin rfl rfl (p_eql_t _ _ _ _ _ c46) rfl) ?_
        refine ol_put rfl rfl rfl (q_pickT (v := .one (bC true)) rfl rfl) ?_
        refine ol_put rfl rfl rfl (q_move (v := .one (bC true)) rfl) ?_
        refine ol_put rfl rfl rfl (q_move (v := .one (iC .i64 n31)) rfl) ?_
        by_cases c47 : n31 = 0
        · replace h := ifT c47 h
          refine ol_put rfl rfl rfl (q_bin rfl rfl (p_eql_t _ _ _ _ _ c47) rfl) ?_
          refine ol_put rfl rfl rfl (q_pickT (v := .one (bC true)) rfl rfl) ?_
          refine ol_put rfl rfl rfl (q_move (v := .one (bC true)) rfl) ?_
          refine ol_put rfl rfl rfl (q_move (v := .one (iC .i64 n36)) rfl) ?_
          by_cases c48 : n36 = 0
          · replace h := ifT c48 h
            refine ol_put rfl rfl rfl (q_bin rfl rfl (p_eql_t _ _ _ _ _ c48) rfl) ?_
            refine ol_put rfl rfl rfl (q_pickT (v := .one (bC true)) rfl rfl) ?_
            refine ol_put rfl rfl rfl (q_move (v := .one (bC true)) rfl) ?_
            refine ol_put rfl rfl rfl (q_move (v := .one (iC .i64 n41)) rfl) ?_
            by_cases c49 : n41 = 0
            · replace h := ifT c49 h
              refine ol_put rfl rfl rfl (q_bin rfl rfl (p_eql_t _ _ _ _ _ c49) rfl) ?_
              refine ol_put rfl rfl rfl (q_pickT (v := .one (bC true)) rfl rfl) ?_
              refine ol_put rfl rfl rfl (q_move (v := .one (bC true)) rfl) ?_
              refine ol_put rfl rfl rfl (q_loadP (v := .agg [iC .i64 n29, .p true (Sl.t r56 s30)]) 2 rfl sz25 rfl rfl rfl rfl) ?_
              refine ol_put rfl rfl rfl (q_loadP (v := .agg [iC .i64 n24, .p true (Sl.t r56 s25)]) 3 rfl sz25 rfl rfl rfl rfl) ?_
              obtain ⟨b51, h50, h⟩ := bindS h
              refine ol_put rfl rfl rfl (q_callF (v := .one (bC b51)) (args := [.agg [iC .i64 n29, .p true (Sl.t r56 s30)], .agg [iC .i64 n24, .p true (Sl.t r56 s25)]]) (ref09_Same_r (m + 4) h50) rfl rfl (vw_cons (vd_agg (vc_cons vc_v (vc_cons vc_s vc_nil))) (vw_cons (vd_agg (vc_cons vc_v (vc_cons vc_s vc_nil))) vw_nil)) rfl rfl) ?_
              refine ol_put rfl rfl rfl (q_pickT (v := .one (bC b51)) rfl rfl) ?_
              refine ol_put rfl rfl rfl (q_move (v := .one (bC b51)) rfl) ?_
              rcases b51 with _ | _
              · replace h := ifF (by decide) h
                refine ol_skip rfl rfl rfl ?_
                refine ol_skip rfl rfl rfl ?_
                refine ol_skip rfl rfl rfl ?_
                refine ol_skip rfl rfl rfl ?_
                refine ol_put rfl rfl rfl (q_pickF (v := .one (bC false)) rfl rfl) ?_
                refine ol_put rfl rfl rfl (q_move (v := .one (bC false)) rfl) ?_
                refine ol_skip rfl rfl rfl ?_
                refine ol_skip rfl rfl rfl ?_
                refine ol_skip rfl rfl rfl ?_
                refine ol_skip rfl rfl rfl ?_
                refine ol_put rfl rfl rfl (q_pickF (v := .one (bC false)) rfl rfl) ?_
                refine ol_put rfl rfl rfl (q_assign (v := .one (bC false)) rfl) ?_
                refine ol_end ?_
                refine E_seq ?_
                refine L_ret ?_
                obtain rfl := Option.some.inj h
                exact E_endF (.inr rfl) (res_tmp rfl res_nil) (vw_cons (vd_one vc_v) vw_nil) (fun h hb => own_p) rfl rfl
              · replace h := ifT (by decide) h
                refine ol_put rfl rfl rfl (q_fieldP rfl fa25_1 rfl) ?_
                refine ol_put rfl rfl rfl (q_loadP (v := .one (.p true (Sl.t r56 s35))) 1 rfl sz23 rfl rfl rfl rfl) ?_
                refine ol_put rfl rfl rfl (q_lenS rfl ty23 rfl rfl rfl rfl) ?_
                by_cases c52 : ((s35.l.length : Nat) : Int) = 0
                · replace h := ifT c52 h
                  refine ol_put rfl rfl rfl (q_bin rfl rfl (p_eql_t _ _ _ _ _ c52) rfl) ?_
                  refine ol_put rfl rfl rfl (q_pickT (v := .one (bC true)) rfl rfl) ?_
                  refine ol_put rfl rfl rfl (q_move (v := .one (bC true)) rfl) ?_
                  refine ol_put rfl rfl rfl (q_fieldP rfl fa25_1 rfl) ?_
                  refine ol_put rfl rfl rfl (q_loadP (v := .one (.p true (Sl.t r56 s40))) 0 rfl sz23 rfl rfl rfl rfl) ?_
                  refine ol_put rfl rfl rfl (q_lenS rfl ty23 rfl rfl rfl rfl) ?_
                  by_cases c53 : ((s40.l.length : Nat) : Int) = 0
                  · replace h := ifT c53 h
                    refine ol_put rfl rfl rfl (q_bin rfl rfl (p_eql_t _ _ _ _ _ c53) rfl) ?_
                    refine ol_put rfl rfl rfl (q_pickT (v := .one (bC true)) rfl rfl) ?_
                    refine ol_put rfl rfl rfl (q_assign (v := .one (bC true)) rfl) ?_
                    refine ol_end ?_
                    refine E_seq ?_
                    refine L_ret ?_
                    obtain rfl := Option.some.inj h
                    exact E_endF (.inr rfl) (res_tmp rfl res_nil) (vw_cons (vd_one vc_v) vw_nil) (fun h hb => own_p) rfl rfl
                  · replace h := ifF c53 h
                    refine ol_put rfl rfl rfl (q_bin rfl rfl (p_eql_f _ _ _ _ _ c53) rfl) ?_
                    refine ol_put rfl rfl rfl (q_pickT (v := .one (bC false)) rfl rfl) ?_
                    refine ol_put rfl rfl rfl (q_assign (v := .one (bC false)) rfl) ?_
                    refine ol_end ?_
                    refine E_seq ?_
                    refine L_ret ?_
                    obtain rfl := Option.some.inj h
                    exact E_endF (.inr rfl) (res_tmp rfl res_nil) (vw_cons (vd_one vc_v) vw_nil) (fun h hb => own_p) rfl rfl
                · replace h := ifF c52 h
                  refine ol_put rfl rfl rfl (q_bin rfl rfl (p_eql_f _ _ _ _ _ c52) rfl) ?_
                  refine ol_put rfl rfl rfl (q_pickT (v := .one (bC false)) rfl rfl) ?_
                  refine ol_put rfl rfl rfl (q_move (v := .one (bC false)) rfl) ?_
                  refine ol_skip rfl rfl rfl ?_
                  refine ol_skip rfl rfl rfl ?_
                  refine ol_skip rfl rfl rfl ?_
                  refine ol_skip rfl rfl rfl ?_
                  refine ol_put rfl rfl rfl (q_pickF (v := .one (bC false)) rfl rfl) ?_
                  refine ol_put rfl rfl rfl (q_assign (v := .one (bC false)) rfl) ?_
                  refine ol_end ?_
                  refine E_seq ?_
                  refine L_ret ?_
                  obtain rfl := Option.some.inj h
                  exact E_endF (.inr rfl) (res_tmp rfl res_nil) (vw_cons (vd_one vc_v) vw_nil) (fun h hb => own_p) rfl rfl
            · replace h := ifF c49 h
              refine ol_put rfl rfl rfl (q_bin rfl rfl (p_eql_f _ _ _ _ _ c49) rfl) ?_
              refine ol_put rfl rfl rfl (q_pickT (v := .one (bC false)) rfl rfl) ?_
              refine ol_put rfl rfl rfl (q_move (v := .one (bC false)) rfl) ?_
              refine ol_skip rfl rfl rfl ?_
              refine ol_skip rfl rfl rfl ?_
              refine ol_skip rfl rfl rfl ?_
              refine ol_put rfl rfl rfl (q_pickF (v := .one (bC false)) rfl rfl) ?_
              refine ol_put rfl rfl rfl (q_move (v := .one (bC false)) rfl) ?_
              refine ol_skip rfl rfl rfl ?_
              refine ol_skip rfl rfl rfl ?_
              refine ol_skip rfl rfl rfl ?_
              refine ol_skip rfl rfl rfl ?_
              refine ol_put rfl rfl rfl (q_pickF (v := .one (bC false)) rfl rfl) ?_
              refine ol_put rfl rfl rfl (q_move (v := .one (bC false)) rfl) ?_
              refine ol_skip rfl rfl rfl ?_
              refine ol_skip rfl rfl rfl ?_
              refine ol_skip rfl rfl rfl ?_
              refine ol_skip rfl rfl rfl ?_
              refine ol_put rfl rfl rfl (q_pickF (v := .one (bC false)) rfl rfl) ?_
              refine ol_put rfl rfl rfl (q_assign (v := .one (bC false)) rfl) ?_
              refine ol_end ?_
              refine E_seq ?_
              refine L_ret ?_
              obtain rfl := Option.some.inj h
              exact E_endF (.inr rfl) (res_tmp rfl res_nil) (vw_cons (vd_one vc_v) vw_nil) (fun h hb => own_p) rfl rfl
          · replace h := ifF c48 h
            refine ol_put rfl rfl rfl (q_bin rfl rfl (p_eql_f _ _ _ _ _ c48) rfl) ?_
            refine ol_put rfl rfl rfl (q_pickT (v := .one (bC false)) rfl rfl) ?_
            refine ol_put rfl rfl rfl (q_move (v := .one (bC false)) rfl) ?_
            refine ol_skip rfl rfl rfl ?_
            refine ol_skip rfl rfl rfl ?_
            refine ol_put rfl rfl rfl (q_pickF (v := .one (bC false)) rfl rfl) ?_
            refine ol_put rfl rfl rfl (q_move (v := .one (bC false)) rfl) ?_
            refine ol_skip rfl rfl rfl ?_
            refine ol_skip rfl rfl rfl ?_
            refine ol_skip rfl rfl rfl ?_
            refine ol_put rfl rfl rfl (q_pickF (v := .one (bC false)) rfl rfl) ?_
            refine ol_put rfl rfl rfl (q_move (v := .one (bC false)) rfl) ?_
            refine ol_skip rfl rfl rfl ?_
            refine ol_skip rfl rfl rfl ?_
            refine ol_skip rfl rfl rfl ?_
            refine ol_skip rfl rfl rfl ?_
            refine ol_put rfl rfl rfl (q_pickF (v := .one (bC false)) rfl rfl) ?_
            refine ol_put rfl rfl rfl (q_move (v := .one (bC false)) rfl) ?_
            refine ol_skip rfl rfl rfl ?_
            refine ol_skip rfl rfl rfl ?_
            refine ol_skip rfl rfl rfl ?_
            refine ol_skip rfl rfl rfl ?_
            refine ol_put rfl rfl rfl (q_pickF (v := .one (bC false)) rfl rfl) ?_
            refine ol_put rfl rfl rfl (q_assign (v := .one (bC false)) rfl) ?_
            refine ol_end ?_
            refine E_seq ?_
            refine L_ret ?_
            obtain rfl := Option.some.inj h
            exact E_endF (.inr rfl) (res_tmp rfl res_nil) (vw_cons (vd_one vc_v) vw_nil) (fun h hb => own_p) rfl rfl
        · replace h := ifF c47 h
          refine ol_put rfl rfl rfl (q_bin rfl rfl (p_eql_f _ _ _ _ _ c47) rfl) ?_
          refine ol_put rfl rfl rfl (q_pickT (v := .one (bC false)) rfl rfl) ?_
          refine ol_put rfl rfl rfl (q_move (v := .one (bC false)) rfl) ?_
          refine ol_skip rfl rfl rfl ?_
          refine ol_skip rfl rfl rfl ?_
          refine ol_put rfl rfl rfl (q_pickF (v := .one (bC false)) rfl rfl) ?_
          refine ol_put rfl rfl rfl (q_move (v := .one (bC false)) rfl) ?_
          refine ol_skip rfl rfl rfl ?_
          refine ol_skip rfl rfl rfl ?_
          refine ol_put rfl rfl rfl (q_pickF (v := .one (bC false)) rfl rfl) ?_
          refine ol_put rfl rfl rfl (q_move (v := .one (bC false)) rfl) ?_
          refine ol_skip rfl rfl rfl ?_
          refine ol_skip rfl rfl rfl ?_
          refine ol_skip rfl rfl rfl ?_
          refine ol_put rfl rfl rfl (q_pickF (v := .one (bC false)) rfl rfl) ?_
          refine ol_put rfl rfl rfl (q_move (v := .one (bC false)) rfl) ?_
          refine ol_skip rfl rfl rfl ?_
          refine ol_skip rfl rfl rfl ?_
          refine ol_skip rfl rfl rfl ?_
          refine ol_skip rfl rfl rfl ?_
          refine ol_put rfl rfl rfl (q_pickF (v := .one (bC false)) rfl rfl) ?_
          refine ol_put rfl rfl rfl (q_move (v := .one (bC false)) rfl) ?_
          refine ol_skip rfl rfl rfl ?_
          refine ol_skip rfl rfl rfl ?_
          refine ol_skip rfl rfl rfl ?_
          refine ol_skip rfl rfl rfl ?_
          refine ol_put rfl rfl rfl (q_pickF (v := .one (bC false)) rfl rfl) ?_
          refine ol_put rfl rfl rfl (q_assign (v := .one (bC false)) rfl) ?_
          refine ol_end ?_
          refine E_seq ?_
          refine L_ret ?_
          obtain rfl := Option.some.inj h
          exact E_endF (.inr rfl) (res_tmp rfl res_nil) (vw_cons (vd_one vc_v) vw_nil) (fun h hb => own_p) rfl rfl
      · replace h := ifF c46 h
        refine ol_put rfl rfl rfl (q_bin rfl rfl (p_eql_f _ _ _ _ _ c46) rfl) ?_
        refine ol_put rfl rfl rfl (q_pickT (v := .one (bC false)) rfl rfl) ?_
        refine ol_put rfl rfl rfl (q_move (v := .one (bC false)) rfl) ?_
        refine ol_skip rfl rfl rfl ?_
        refine ol_skip rfl rfl rfl ?_
        refine ol_put rfl rfl rfl (q_pickF (v := .one (bC false)) rfl rfl) ?_
        refine ol_put rfl rfl rfl (q_move (v := .one (bC false)) rfl) ?_
        refine ol_skip rfl rfl rfl ?_
        refine ol_skip rfl rfl rfl ?_
        refine ol_put rfl rfl rfl (q_pickF (v := .one (bC false)) rfl rfl) ?_
        refine ol_put rfl rfl rfl (q_move (v := .one (bC false)) rfl) ?_
        refine ol_skip rfl rfl rfl ?_
        refine ol_skip rfl rfl rfl ?_
        refine ol_put rfl rfl rfl (q_pickF (v := .one (bC false)) rfl rfl) ?_
        refine ol_put rfl rfl rfl (q_move (v := .one (bC false)) rfl) ?_
        refine ol_skip rfl rfl rfl ?_
        refine ol_skip rfl rfl rfl ?_
        refine ol_skip rfl rfl rfl ?_
        refine ol_put rfl rfl rfl (q_pickF (v := .one (bC false)) rfl rfl) ?_
        refine ol_put rfl rfl rfl (q_move (v := .one (bC false)) rfl) ?_
        refine ol_skip rfl rfl rfl ?_
        refine ol_skip rfl rfl rfl ?_
        refine ol_skip rfl rfl rfl ?_
        refine ol_skip rfl rfl rfl ?_
        refine ol_put rfl rfl rfl (q_pickF (v := .one (bC false)) rfl rfl) ?_
        refine ol_put rfl rfl rfl (q_move (v := .one (bC false)) rfl) ?_
        refine ol_skip rfl rfl rfl ?_
        refine ol_skip rfl rfl rfl ?_
        refine ol_skip rfl rfl rfl ?_
        refine ol_skip rfl rfl rfl ?_
        refine ol_put rfl rfl rfl (q_pickF (v := .one (bC false)) rfl rfl) ?_
        refine ol_put rfl rfl rfl (q_assign (v := .one (bC false)) rfl) ?_
        refine ol_end ?_
        refine E_seq ?_
        refine L_ret ?_
        obtain rfl := Option.some.inj h
        exact E_endF (.inr rfl) (res_tmp rfl res_nil) (vw_cons (vd_one vc_v) vw_nil) (fun h hb => own_p) rfl rfl
    · replace h := ifF c45 h
      refine ol_put rfl rfl rfl (q_bin rfl rfl (p_eql_f _ _ _ _ _ c45) rfl) ?_
      refine ol_put rfl rfl rfl (q_pickT (v := .one (bC false)) rfl rfl) ?_
      refine ol_put rfl rfl rfl (q_move (v := .one (bC false)) rfl) ?_
      refine ol_skip rfl rfl rfl ?_
      refine ol_skip rfl rfl rfl ?_
      refine ol_put rfl rfl rfl (q_pickF (v := .one (bC false)) rfl rfl) ?_
      refine ol_put rfl rfl rfl (q_move (v := .one (bC false)) rfl) ?_
      refine ol_skip rfl rfl rfl ?_
      refine ol_skip rfl rfl rfl ?_
      refine ol_put rfl rfl rfl (q_pickF (v := .one (bC false)) rfl rfl) ?_
      refine ol_put rfl rfl rfl (q_move (v := .one (bC false)) rfl) ?_
      refine ol_skip rfl rfl rfl ?_
      refine ol_skip rfl rfl rfl ?_
      refine ol_put rfl rfl rfl (q_pickF (v := .one (bC false)) rfl rfl) ?_
      refine ol_put rfl rfl rfl (q_move (v := .one (bC false)) rfl) ?_
      refine ol_skip rfl rfl rfl ?_
      refine ol_skip rfl rfl rfl ?_
      refine ol_put rfl rfl rfl (q_pickF (v := .one (bC false)) rfl rfl) ?_
      refine ol_put rfl rfl rfl (q_move (v := .one (bC false)) rfl) ?_
      refine ol_skip rfl rfl rfl ?_
      refine ol_skip rfl rfl rfl ?_
      refine ol_skip rfl rfl rfl ?_
      refine ol_put rfl rfl rfl (q_pickF (v := .one (bC false)) rfl rfl) ?_
      refine ol_put rfl rfl rfl (q_move (v := .one (bC false)) rfl) ?_
      refine ol_skip rfl rfl rfl ?_
      refine ol_skip rfl rfl rfl ?_
      refine ol_skip rfl rfl rfl ?_
      refine ol_skip rfl rfl rfl ?_
      refine ol_put rfl rfl rfl (q_pickF (v := .one (bC false)) rfl rfl) ?_
      refine ol_put rfl rfl rfl (q_move (v := .one (bC false)) rfl) ?_
      refine ol_skip rfl rfl rfl ?_
      refine ol_skip rfl rfl rfl ?_
      refine ol_skip rfl rfl rfl ?_
      refine ol_skip rfl rfl rfl ?_
      refine ol_put rfl rfl rfl (q_pickF (v := .one (bC false)) rfl rfl) ?_
      refine ol_put rfl rfl rfl (q_assign (v := .one (bC false)) rfl) ?_
      refine ol_end ?_
      refine E_seq ?_
      refine L_ret ?_
      obtain rfl := Option.some.inj h
      exact E_endF (.inr rfl) (res_tmp rfl res_nil) (vw_cons (vd_one vc_v) vw_nil) (fun h hb => own_p) rfl rfl
end Ev
end Go.Proofs.Ytlcfdmjkbaegpaa
