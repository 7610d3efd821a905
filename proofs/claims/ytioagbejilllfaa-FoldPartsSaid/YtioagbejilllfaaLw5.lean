/- Functions of the program as functions on data, and that they are. -/
import Derived.Test.YtioagbejilllfaaLf1
import Derived.Test.YtioagbejilllfaaLf2
import Derived.Test.YtioagbejilllfaaLf7
import Derived.Test.YtioagbejilllfaaLy1
import Derived.Test.YtioagbejilllfaaLy2
namespace Go.Proofs.Ytioagbejilllfaa
namespace Ev
open Go
set_option linter.unusedVariables false
set_option linter.unusedSimpArgs false
set_option maxRecDepth 100000
set_option maxHeartbeats 1000000
attribute [local irreducible] OpsL StL TnL WpL EndL
noncomputable def law12_FoldParts (n1 : Int) (n2 : Int) (a2 : (Sl (Int × Int)) × (Sl (Int × Int))) : Option (Bool) :=
  match a2 with
  | (s3, s4) => ((law09_Some n2 s3).bind fun (n14, s15) => ((law09_Some n2 s4).bind fun (n17, s18) => ((ref09_Glue (⟨true, 2, ([(n14, s15), (n17, s18)] : List (Int × (Sl (Int × Int))))⟩ : Sl (Int × (Sl (Int × Int))))).bind fun ((n21, s22), n23) => ((ref02_Is n1).bind fun b26 => (if b26 = true then (if n1 = 2 then ((FL).bind fun b31 => some b31) else (if n23 ≠ 0 then ((FL).bind fun b34 => some b34) else (if ((s15.l.length : Nat) : Int) = 0 then ((FL).bind fun b37 => some b37) else (if ((s18.l.length : Nat) : Int) = 0 then ((FL).bind fun b40 => some b40) else ((fold_Reduce n1 (n14, s15)).bind fun (n42, n43) => ((fold_Reduce n1 (n17, s18)).bind fun (n45, n46) => ((fold_Reduce n1 (n21, s22)).bind fun (n48, n49) => ((ref01_Of n42).bind fun (n51, n52) => ((ref01_Of n45).bind fun (n54, n55) => ((ref02_Add n1 (n51, n52) (n54, n55)).bind fun (n57, n58) => ((ref01_Narrow (n57, n58)).bind fun (n60, b61) => ((FL).bind fun b63 => (if b63 = true then (if n43 ≠ 0 then some true else (if n46 ≠ 0 then some true else (if n49 = 0 then (if b61 = true then (if n48 = n60 then some true else some false) else some false) else (if b61 = true then some false else some true)))) else some false))))))))))))) else ((FL).bind fun b28 => some b28))))))
theorem law12_FoldParts_r (m : Nat) {n1 : Int} {n2 : Int} {a2 : (Sl (Int × Int)) × (Sl (Int × Int))} {out : Bool} (h : law12_FoldParts n1 n2 a2 = some out) : RunsP E1 (m + 6) 5 [.one (iT .i64 n1), .one (iT .u8 n2), .agg (r47 a2)] (.fresh, [.one (bT out)]) := by
  obtain ⟨s3, s4⟩ := a2
  refine fn_F rfl (by rw [E1_fn]; exact show fiOf Try.prog 5 = _ by unfold fiOf; rw [Try.func5]; unfold Try.f5; rfl) rfl ?_
  dsimp only
  unfold law12_FoldParts at h
  refine L_seq ?_
  refine L_ops ?_
  refine ol_new rfl rfl rfl (q_box ty47 rfl (cs := [.p false (Sl.t r33 s3), .p false (Sl.t r33 s4)]) rfl rfl) (fun k5 => ?_)
  refine ol_put rfl rfl rfl (q_assign (v := .one (bC false)) rfl) ?_
  refine ol_end ?_
  refine E_seq ?_
  refine L_seq ?_
  refine L_norm (L2 := ([[(k5, 2, [[.p false (Sl.t r33 s3), .p false (Sl.t r33 s4)]])]] : BL)) [0] (by decide) rfl ?_
  refine L_turn 12 rfl [[], [], [], [], [], [], [], [], [], [], [], []] [(false, []), (false, []), (false, []), (false, []), (false, []), (false, []), (false, []), (false, []), (true, []), (true, []), (false, [8]), (false, [9])] [[1, 2, 4, 5, 6, 8, 9], [0, 4, 5, 6, 8, 9], [0, 4, 5, 6, 8, 9], [4, 5, 6, 8, 9], [0, 1, 2, 3, 5, 6, 8, 9], [0, 1, 2, 3, 4, 8, 9], [0, 1, 2, 3, 4, 8, 9], [8, 9], [0, 1, 2, 3, 4, 5, 6, 7, 9], [0, 1, 2, 3, 4, 5, 6, 7, 8], [], []] (by kernel_rfl) (by kernel_rfl) (by kernel_rfl) ?_ (fun bb6 hlt hnd => ?_)
  · intro bb6 hlt hnd
    have e_k5 : k5 < bb6 := key_lt hlt 0 rfl
    exact ⟨(by first | (simp; done) | (simp; omega) | (simp; assumption) | (simp_all; done) | (simp_all; omega)), (by first | (simp; done) | (simp; omega) | (simp; assumption) | (simp_all; done) | (simp_all; omega))⟩
  have e_k5 : k5 < bb6 := key_lt hlt 0 rfl
  clear hlt hnd
  refine tn_put rfl rfl rfl [] (by decide) rfl hmn rfl (q_move (v := .one (iC .u8 n2)) rfl) ?_
  refine tn_put rfl rfl rfl [] (by decide) rfl hmn rfl (q_ixA (a := 0) ty47 rfl ty23 rfl rfl rfl rfl) ?_
  refine tn_put rfl rfl rfl [0] (by decide) rfl (hmc (by first | (simp [turnsOf]; done) | (simp [turnsOf]; omega) | (simp [turnsOf]; assumption) | (simp_all [turnsOf]; done) | (simp_all [turnsOf]; omega)) hmn) rfl (q_loadP (v := .one (.p false (Sl.t r33 s3))) 0 rfl sz23 rfl rfl rfl rfl) ?_
  obtain ⟨⟨n14, s15⟩, h13, h⟩ := bindS h
  refine tn_put rfl rfl rfl [] (by decide) rfl hmn rfl (q_callF (v := .agg [iC .i64 n14, .p true (Sl.t r33 s15)]) (args := [.one (iC .u8 n2), .one (.p false (Sl.t r33 s3))]) (law09_Some_r (m + 0) h13) rfl rfl (vw_cons (vd_one vc_v) (vw_cons (vd_one vc_s) vw_nil)) rfl rfl) ?_
  refine tn_put rfl rfl rfl [] (by decide) rfl hmn rfl (q_move (v := .one (iC .u8 n2)) rfl) ?_
  refine tn_put rfl rfl rfl [] (by decide) rfl hmn rfl (q_ixA (a := 1) ty47 rfl ty23 rfl rfl rfl rfl) ?_
  refine tn_put rfl rfl rfl [0] (by decide) rfl (hmc (by first | (simp [turnsOf]; done) | (simp [turnsOf]; omega) | (simp [turnsOf]; assumption) | (simp_all [turnsOf]; done) | (simp_all [turnsOf]; omega)) hmn) rfl (q_loadP (v := .one (.p false (Sl.t r33 s4))) 0 rfl sz23 rfl rfl rfl rfl) ?_
  obtain ⟨⟨n17, s18⟩, h16, h⟩ := bindS h
  refine tn_put rfl rfl rfl [] (by decide) rfl hmn rfl (q_callF (v := .agg [iC .i64 n17, .p true (Sl.t r33 s18)]) (args := [.one (iC .u8 n2), .one (.p false (Sl.t r33 s4))]) (law09_Some_r (m + 0) h16) rfl rfl (vw_cons (vd_one vc_v) (vw_cons (vd_one vc_s) vw_nil)) rfl rfl) ?_
  refine tn_new rfl rfl rfl [] (by decide) rfl hmn rfl rfl (hkc (by omega) hkn) (q_alloc ty25 (row := [iC .i64 0, .p true (Sl.t r33 (⟨false, 0, []⟩ : Sl (Int × Int)))]) rfl rfl) ?_
  refine tn_new rfl rfl rfl [] (by decide) rfl hmn rfl rfl (hkc (by omega) (hkc (by omega) hkn)) (q_alloc ty25 (row := [iC .i64 0, .p true (Sl.t r33 (⟨false, 0, []⟩ : Sl (Int × Int)))]) rfl rfl) ?_
  refine tn_wr rfl rfl [1] (by decide) rfl (hm0 rfl) rfl (q_store (es' := [[iC .i64 n14, .p true (Sl.t r33 s15)]]) 0 rfl rfl rfl sz25 rfl rfl rfl rfl rfl) (q := 1) rfl rfl ?_
  refine tn_wr rfl rfl [0] (by decide) rfl (hm0 rfl) rfl (q_store (es' := [[iC .i64 n17, .p true (Sl.t r33 s18)]]) 0 rfl rfl rfl sz25 rfl rfl rfl rfl rfl) (q := 0) rfl rfl ?_
  refine tn_end ?_
  refine E_seq ?_
  refine L_seq ?_
  refine L_ops ?_
  refine ol_put rfl rfl rfl (q_loadP (v := .agg [iC .i64 n14, .p true (Sl.t r33 s15)]) 1 rfl sz25 rfl rfl rfl rfl) ?_
  refine ol_put rfl rfl rfl (q_loadP (v := .agg [iC .i64 n17, .p true (Sl.t r33 s18)]) 0 rfl sz25 rfl rfl rfl rfl) ?_
  refine ol_new rfl rfl rfl (q_bslice (cs := [iC .i64 n14, .p true (Sl.t r33 s15), iC .i64 n17, .p true (Sl.t r33 s18)]) (es := (([(n14, s15), (n17, s18)] : List (Int × (Sl (Int × Int))))).map (rowC r24)) ty50 rfl ty25 rfl rfl rfl rfl rfl) (fun k19 => ?_)
  obtain ⟨⟨⟨n21, s22⟩, n23⟩, h20, h⟩ := bindS h
  refine ol_put rfl rfl rfl (q_callF (v := .tup [.agg [iC .i64 n21, .p true (Sl.t r33 s22)], .one (iC .i64 n23)]) (args := [.one (.own k19 0 (([(n14, s15), (n17, s18)] : List (Int × (Sl (Int × Int))))).length)]) (ref09_Glue_r (m + 2) h20) rfl rfl (vw_cons (vd_one (vc_own (r := r24) 0 rfl (fun x h m => rfl))) vw_nil) rfl rfl) ?_
  refine ol_put rfl rfl rfl (q_move (v := .tup [.agg [iC .i64 n21, .p true (Sl.t r33 s22)], .one (iC .i64 n23)]) rfl) ?_
  refine ol_put rfl rfl rfl (q_ext (v := .agg [iC .i64 n21, .p true (Sl.t r33 s22)]) rfl rfl) ?_
  refine ol_put rfl rfl rfl (q_ext (v := .one (iC .i64 n23)) rfl rfl) ?_
  refine ol_new rfl rfl rfl (q_alloc ty25 (row := [iC .i64 0, .p true (Sl.t r33 (⟨false, 0, []⟩ : Sl (Int × Int)))]) rfl rfl) (fun k24 => ?_)
  refine ol_wr rfl rfl (q_store (es' := [[iC .i64 n21, .p true (Sl.t r33 s22)]]) 0 rfl rfl rfl sz25 rfl rfl rfl rfl rfl) rfl ?_
  refine ol_put rfl rfl rfl (q_assign (v := .one (iC .i64 n23)) rfl) ?_
  refine ol_end ?_
  refine E_seq ?_
  refine L_seq ?_
  refine L_seq ?_
  refine L_ops ?_
  refine ol_put rfl rfl rfl (q_move (v := .one (iC .i64 n1)) rfl) ?_
  obtain ⟨b26, h25, h⟩ := bindS h
  refine ol_put rfl rfl rfl (q_callF (v := .one (bC b26)) (args := [.one (iC .i64 n1)]) (ref02_Is_r (m + 4) h25) rfl rfl (vw_cons (vd_one vc_v) vw_nil) rfl rfl) ?_
  rcases b26 with _ | _
  · replace h := ifF (by decide) h
    refine ol_put rfl rfl rfl (q_not rfl) ?_
    refine ol_put rfl rfl rfl (q_move (v := .one (bC true)) rfl) ?_
    refine ol_skip rfl rfl rfl ?_
    refine ol_skip rfl rfl rfl ?_
    refine ol_put rfl rfl rfl (q_pickT (v := .one (bC true)) rfl rfl) ?_
    refine ol_put rfl rfl rfl (q_move (v := .one (bC true)) rfl) ?_
    refine ol_skip rfl rfl rfl ?_
    refine ol_skip rfl rfl rfl ?_
    refine ol_put rfl rfl rfl (q_pickT (v := .one (bC true)) rfl rfl) ?_
    refine ol_put rfl rfl rfl (q_move (v := .one (bC true)) rfl) ?_
    refine ol_skip rfl rfl rfl ?_
    refine ol_skip rfl rfl rfl ?_
    refine ol_skip rfl rfl rfl ?_
    refine ol_skip rfl rfl rfl ?_
    refine ol_put rfl rfl rfl (q_pickT (v := .one (bC true)) rfl rfl) ?_
    refine ol_put rfl rfl rfl (q_move (v := .one (bC true)) rfl) ?_
    refine ol_skip rfl rfl rfl ?_
    refine ol_skip rfl rfl rfl ?_
    refine ol_skip rfl rfl rfl ?_
    refine ol_skip rfl rfl rfl ?_
    refine ol_put rfl rfl rfl (q_pickT (v := .one (bC true)) rfl rfl) ?_
    refine ol_end ?_
    refine E_seq ?_
    refine L_condT rfl ?_
    refine L_seq ?_
    refine L_ops ?_
    obtain ⟨b28, h27, h⟩ := bindS h
    refine ol_put rfl rfl rfl (q_callF (v := .one (bC b28)) (args := []) (FL_r (m + 4) h27) rfl rfl vw_nil rfl rfl) ?_
    refine ol_put rfl rfl rfl (q_assign (v := .one (bC b28)) rfl) ?_
    refine ol_end ?_
    refine E_seq ?_
    refine L_ret ?_
    refine E_seqR ?_
    obtain rfl := Option.some.inj h
    exact E_endF (.inr rfl) (res_tmp rfl res_nil) (vw_cons (vd_one vc_v) vw_nil) (fun h hb => own_p) rfl rfl
  · replace h := ifT (by decide) h
    refine ol_put rfl rfl rfl (q_not rfl) ?_
    refine ol_put rfl rfl rfl (q_move (v := .one (bC false)) rfl) ?_
    refine ol_put rfl rfl rfl (q_move (v := .one (iC .i64 n1)) rfl) ?_
    by_cases c29 : n1 = 2
    · replace h := ifT c29 h
      refine ol_put rfl rfl rfl (q_bin rfl rfl (p_eql_t _ _ _ _ _ c29) rfl) ?_
      refine ol_put rfl rfl rfl (q_pickF (v := .one (bC true)) rfl rfl) ?_
      refine ol_put rfl rfl rfl (q_move (v := .one (bC true)) rfl) ?_
      refine ol_skip rfl rfl rfl ?_
      refine ol_skip rfl rfl rfl ?_
      refine ol_put rfl rfl rfl (q_pickT (v := .one (bC true)) rfl rfl) ?_
      refine ol_put rfl rfl rfl (q_move (v := .one (bC true)) rfl) ?_
      refine ol_skip rfl rfl rfl ?_
      refine ol_skip rfl rfl rfl ?_
      refine ol_skip rfl rfl rfl ?_
      refine ol_skip rfl rfl rfl ?_
      refine ol_put rfl rfl rfl (q_pickT (v := .one (bC true)) rfl rfl) ?_
      refine ol_put rfl rfl rfl (q_move (v := .one (bC true)) rfl) ?_
      refine ol_skip rfl rfl rfl ?_
      refine ol_skip rfl rfl rfl ?_
      refine ol_skip rfl rfl rfl ?_
      refine ol_skip rfl rfl rfl ?_
      refine ol_put rfl rfl rfl (q_pickT (v := .one (bC true)) rfl rfl) ?_
      refine ol_end ?_
      refine E_seq ?_
      refine L_condT rfl ?_
      refine L_seq ?_
      refine L_ops ?_
      obtain ⟨b31, h30, h⟩ := bindS h
      refine ol_put rfl rfl rfl (q_callF (v := .one (bC b31)) (args := []) (FL_r (m + 4) h30) rfl rfl vw_nil rfl rfl) ?_
      refine ol_put rfl rfl rfl (q_assign (v := .one (bC b31)) rfl) ?_
      refine ol_end ?_
      refine E_seq ?_
      refine L_ret ?_
      refine E_seqR ?_
      obtain rfl := Option.some.inj h
      exact E_endF (.inr rfl) (res_tmp rfl res_nil) (vw_cons (vd_one vc_v) vw_nil) (fun h hb => own_p) rfl rfl
    · replace h := ifF c29 h
      refine ol_put rfl rfl rfl (q_bin rfl rfl (p_eql_f _ _ _ _ _ c29) rfl) ?_
      refine ol_put rfl rfl rfl (q_pickF (v := .one (bC false)) rfl rfl) ?_
      refine ol_put rfl rfl rfl (q_move (v := .one (bC false)) rfl) ?_
      refine ol_put rfl rfl rfl (q_move (v := .one (iC .i64 n23)) rfl) ?_
      by_cases c32 : n23 ≠ 0
      · replace h := ifT c32 h
        refine ol_put rfl rfl rfl (q_bin rfl rfl (p_neq_t _ _ _ _ _ c32) rfl) ?_
        refine ol_put rfl rfl rfl (q_pickF (v := .one (bC true)) rfl rfl) ?_
        refine ol_put rfl rfl rfl (q_move (v := .one (bC true)) rfl) ?_
        refine ol_skip rfl rfl rfl ?_
        refine ol_skip rfl rfl rfl ?_
        refine ol_skip rfl rfl rfl ?_
        refine ol_skip rfl rfl rfl ?_
        refine ol_put rfl rfl rfl (q_pickT (v := .one (bC true)) rfl rfl) ?_
        refine ol_put rfl rfl rfl (q_move (v := .one (bC true)) rfl) ?_
        refine ol_skip rfl rfl rfl ?_
        refine ol_skip rfl rfl rfl ?_
        refine ol_skip rfl rfl rfl ?_
        refine ol_skip rfl rfl rfl ?_
        refine ol_put rfl rfl rfl (q_pickT (v := .one (bC true)) rfl rfl) ?_
        refine ol_end ?_
        refine E_seq ?_
        refine L_condT rfl ?_
        refine L_seq ?_
        refine L_ops ?_
        obtain ⟨b34, h33, h⟩ := bindS h
        refine ol_put rfl rfl rfl (q_callF (v := .one (bC b34)) (args := []) (FL_r (m + 4) h33) rfl rfl vw_nil rfl rfl) ?_
        refine ol_put rfl rfl rfl (q_assign (v := .one (bC b34)) rfl) ?_
        refine ol_end ?_
        refine E_seq ?_
        refine L_ret ?_
        refine E_seqR ?_
        obtain rfl := Option.some.inj h
        exact E_endF (.inr rfl) (res_tmp rfl res_nil) (vw_cons (vd_one vc_v) vw_nil) (fun h hb => own_p) rfl rfl
      · replace h := ifF c32 h
        refine ol_put rfl rfl rfl (q_bin rfl rfl (p_neq_f _ _ _ _ _ c32) rfl) ?_
        refine ol_put rfl rfl rfl (q_pickF (v := .one (bC false)) rfl rfl) ?_
        refine ol_put rfl rfl rfl (q_move (v := .one (bC false)) rfl) ?_
        refine ol_put rfl rfl rfl (q_fieldP rfl fa25_1 rfl) ?_
        refine ol_put rfl rfl rfl (q_loadP (v := .one (.p true (Sl.t r33 s15))) 3 rfl sz23 rfl rfl rfl rfl) ?_
        refine ol_put rfl rfl rfl (q_lenS rfl ty23 rfl rfl rfl rfl) ?_
        by_cases c35 : ((s15.l.length : Nat) : Int) = 0
        · replace h := ifT c35 h
          refine ol_put rfl rfl rfl (q_bin rfl rfl (p_eql_t _ _ _ _ _ c35) rfl) ?_
          refine ol_put rfl rfl rfl (q_pickF (v := .one (bC true)) rfl rfl) ?_
          refine ol_put rfl rfl rfl (q_move (v := .one (bC true)) rfl) ?_
          refine ol_skip rfl rfl rfl ?_
          refine ol_skip rfl rfl rfl ?_
          refine ol_skip rfl rfl rfl ?_
          refine ol_skip rfl rfl rfl ?_
          refine ol_put rfl rfl rfl (q_pickT (v := .one (bC true)) rfl rfl) ?_
          refine ol_end ?_
          refine E_seq ?_
          refine L_condT rfl ?_
          refine L_seq ?_
          refine L_ops ?_
          obtain ⟨b37, h36, h⟩ := bindS h
          refine ol_put rfl rfl rfl (q_callF (v := .one (bC b37)) (args := []) (FL_r (m + 4) h36) rfl rfl vw_nil rfl rfl) ?_
          refine ol_put rfl rfl rfl (q_assign (v := .one (bC b37)) rfl) ?_
          refine ol_end ?_
          refine E_seq ?_
          refine L_ret ?_
          refine E_seqR ?_
          obtain rfl := Option.some.inj h
          exact E_endF (.inr rfl) (res_tmp rfl res_nil) (vw_cons (vd_one vc_v) vw_nil) (fun h hb => own_p) rfl rfl
        · replace h := ifF c35 h
          refine ol_put rfl rfl rfl (q_bin rfl rfl (p_eql_f _ _ _ _ _ c35) rfl) ?_
          refine ol_put rfl rfl rfl (q_pickF (v := .one (bC false)) rfl rfl) ?_
          refine ol_put rfl rfl rfl (q_move (v := .one (bC false)) rfl) ?_
          refine ol_put rfl rfl rfl (q_fieldP rfl fa25_1 rfl) ?_
          refine ol_put rfl rfl rfl (q_loadP (v := .one (.p true (Sl.t r33 s18))) 2 rfl sz23 rfl rfl rfl rfl) ?_
          refine ol_put rfl rfl rfl (q_lenS rfl ty23 rfl rfl rfl rfl) ?_
          by_cases c38 : ((s18.l.length : Nat) : Int) = 0
          · replace h := ifT c38 h
            refine ol_put rfl rfl rfl (q_bin rfl rfl (p_eql_t _ _ _ _ _ c38) rfl) ?_
            refine ol_put rfl rfl rfl (q_pickF (v := .one (bC true)) rfl rfl) ?_
            refine ol_end ?_
            refine E_seq ?_
            refine L_condT rfl ?_
            refine L_seq ?_
            refine L_ops ?_
            obtain ⟨b40, h39, h⟩ := bindS h
            refine ol_put rfl rfl rfl (q_callF (v := .one (bC b40)) (args := []) (FL_r (m + 4) h39) rfl rfl vw_nil rfl rfl) ?_
            refine ol_put rfl rfl rfl (q_assign (v := .one (bC b40)) rfl) ?_
            refine ol_end ?_
            refine E_seq ?_
            refine L_ret ?_
            refine E_seqR ?_
            obtain rfl := Option.some.inj h
            exact E_endF (.inr rfl) (res_tmp rfl res_nil) (vw_cons (vd_one vc_v) vw_nil) (fun h hb => own_p) rfl rfl
          · replace h := ifF c38 h
            refine ol_put rfl rfl rfl (q_bin rfl rfl (p_eql_f _ _ _ _ _ c38) rfl) ?_
            refine ol_put rfl rfl rfl (q_pickF (v := .one (bC false)) rfl rfl) ?_
            refine ol_end ?_
            refine E_seq ?_
            refine L_condF rfl ?_
            refine L_skip ?_
            refine E_seq ?_
            refine L_seq ?_
            refine L_ops ?_
            refine ol_put rfl rfl rfl (q_move (v := .one (iC .i64 n1)) rfl) ?_
            refine ol_put rfl rfl rfl (q_loadP (v := .agg [iC .i64 n14, .p true (Sl.t r33 s15)]) 3 rfl sz25 rfl rfl rfl rfl) ?_
            obtain ⟨⟨n42, n43⟩, h41, h⟩ := bindS h
            refine ol_put rfl rfl rfl (q_callF (v := .tup [.one (iC .i64 n42), .one (iC .i64 n43)]) (args := [.one (iC .i64 n1), .agg [iC .i64 n14, .p true (Sl.t r33 s15)]]) (fold_Reduce_r (m + 1) h41) rfl rfl (vw_cons (vd_one vc_v) (vw_cons (vd_agg (vc_cons vc_v (vc_cons vc_s vc_nil))) vw_nil)) rfl rfl) ?_
            refine ol_put rfl rfl rfl (q_move (v := .tup [.one (iC .i64 n42), .one (iC .i64 n43)]) rfl) ?_
            refine ol_put rfl rfl rfl (q_ext (v := .one (iC .i64 n42)) rfl rfl) ?_
            refine ol_put rfl rfl rfl (q_ext (v := .one (iC .i64 n43)) rfl rfl) ?_
            refine ol_put rfl rfl rfl (q_assign (v := .one (iC .i64 n42)) rfl) ?_
            refine ol_put rfl rfl rfl (q_assign (v := .one (iC .i64 n43)) rfl) ?_
            refine ol_end ?_
            refine E_seq ?_
            refine L_seq ?_
            refine L_ops ?_
            refine ol_put rfl rfl rfl (q_move (v := .one (iC .i64 n1)) rfl) ?_
            refine ol_put rfl rfl rfl (q_loadP (v := .agg [iC .i64 n17, .p true (Sl.t r33 s18)]) 2 rfl sz25 rfl rfl rfl rfl) ?_
            obtain ⟨⟨n45, n46⟩, h44, h⟩ := bindS h
            refine ol_put rfl rfl rfl (q_callF (v := .tup [.one (iC .i64 n45), .one (iC .i64 n46)]) (args := [.one (iC .i64 n1), .agg [iC .i64 n17, .p true (Sl.t r33 s18)]]) (fold_Reduce_r (m + 1) h44) rfl rfl (vw_cons (vd_one vc_v) (vw_cons (vd_agg (vc_cons vc_v (vc_cons vc_s vc_nil))) vw_nil)) rfl rfl) ?_
            refine ol_put rfl rfl rfl (q_move (v := .tup [.one (iC .i64 n45), .one (iC .i64 n46)]) rfl) ?_
            refine ol_put rfl rfl rfl (q_ext (v := .one (iC .i64 n45)) rfl rfl) ?_
            refine ol_put rfl rfl rfl (q_ext (v := .one (iC .i64 n46)) rfl rfl) ?_
            refine ol_put rfl rfl rfl (q_assign (v := .one (iC .i64 n45)) rfl) ?_
            refine ol_put rfl rfl rfl (q_assign (v := .one (iC .i64 n46)) rfl) ?_
            refine ol_end ?_
            refine E_seq ?_
            refine L_seq ?_
            refine L_ops ?_
            refine ol_put rfl rfl rfl (q_move (v := .one (iC .i64 n1)) rfl) ?_
            refine ol_put rfl rfl rfl (q_loadP (v := .agg [iC .i64 n21, .p true (Sl.t r33 s22)]) 0 rfl sz25 rfl rfl rfl rfl) ?_
            obtain ⟨⟨n48, n49⟩, h47, h⟩ := bindS h
            refine ol_put rfl rfl rfl (q_callF (v := .tup [.one (iC .i64 n48), .one (iC .i64 n49)]) (args := [.one (iC .i64 n1), .agg [iC .i64 n21, .p true (Sl.t r33 s22)]]) (fold_Reduce_r (m + 1) h47) rfl rfl (vw_cons (vd_one vc_v) (vw_cons (vd_agg (vc_cons vc_v (vc_cons vc_s vc_nil))) vw_nil)) rfl rfl) ?_
            refine ol_put rfl rfl rfl (q_move (v := .tup [.one (iC .i64 n48), .one (iC .i64 n49)]) rfl) ?_
            refine ol_put rfl rfl rfl (q_ext (v := .one (iC .i64 n48)) rfl rfl) ?_
            refine ol_put rfl rfl rfl (q_ext (v := .one (iC .i64 n49)) rfl rfl) ?_
            refine ol_put rfl rfl rfl (q_assign (v := .one (iC .i64 n48)) rfl) ?_
            refine ol_put rfl rfl rfl (q_assign (v := .one (iC .i64 n49)) rfl) ?_
            refine ol_end ?_
            refine E_seq ?_
            refine L_seq ?_
            refine L_ops ?_
            refine ol_put rfl rfl rfl (q_move (v := .one (iC .i64 n1)) rfl) ?_
            refine ol_put rfl rfl rfl (q_move (v := .one (iC .i64 n42)) rfl) ?_
            obtain ⟨⟨n51, n52⟩, h50, h⟩ := bindS h
            refine ol_put rfl rfl rfl (q_callF (v := .agg [iC .i64 n51, iC .u64 n52]) (args := [.one (iC .i64 n42)]) (ref01_Of_r (m + 4) h50) rfl rfl (vw_cons (vd_one vc_v) vw_nil) rfl rfl) ?_
            refine ol_put rfl rfl rfl (q_move (v := .one (iC .i64 n45)) rfl) ?_
            obtain ⟨⟨n54, n55⟩, h53, h⟩ := bindS h
            refine ol_put rfl rfl rfl (q_callF (v := .agg [iC .i64 n54, iC .u64 n55]) (args := [.one (iC .i64 n45)]) (ref01_Of_r (m + 4) h53) rfl rfl (vw_cons (vd_one vc_v) vw_nil) rfl rfl) ?_
            obtain ⟨⟨n57, n58⟩, h56, h⟩ := bindS h
            refine ol_put rfl rfl rfl (q_callF (v := .agg [iC .i64 n57, iC .u64 n58]) (args := [.one (iC .i64 n1), .agg [iC .i64 n51, iC .u64 n52], .agg [iC .i64 n54, iC .u64 n55]]) (ref02_Add_r (m + 3) h56) rfl rfl (vw_cons (vd_one vc_v) (vw_cons (vd_agg (vc_cons vc_v (vc_cons vc_v vc_nil))) (vw_cons (vd_agg (vc_cons vc_v (vc_cons vc_v vc_nil))) vw_nil))) rfl rfl) ?_
            obtain ⟨⟨n60, b61⟩, h59, h⟩ := bindS h
            refine ol_put rfl rfl rfl (q_callF (v := .tup [.one (iC .i64 n60), .one (bC b61)]) (args := [.agg [iC .i64 n57, iC .u64 n58]]) (ref01_Narrow_r (m + 4) h59) rfl rfl (vw_cons (vd_agg (vc_cons vc_v (vc_cons vc_v vc_nil))) vw_nil) rfl rfl) ?_
            refine ol_put rfl rfl rfl (q_move (v := .tup [.one (iC .i64 n60), .one (bC b61)]) rfl) ?_
            refine ol_put rfl rfl rfl (q_ext (v := .one (iC .i64 n60)) rfl rfl) ?_
            refine ol_put rfl rfl rfl (q_ext (v := .one (bC b61)) rfl rfl) ?_
            refine ol_put rfl rfl rfl (q_assign (v := .one (iC .i64 n60)) rfl) ?_
            refine ol_put rfl rfl rfl (q_assign (v := .one (bC b61)) rfl) ?_
            refine ol_end ?_
            refine E_seq ?_
            refine L_seq ?_
            refine L_ops ?_
            obtain ⟨b63, h62, h⟩ := bindS h
            refine ol_put rfl rfl rfl (q_callF (v := .one (bC b63)) (args := []) (FL_r (m + 4) h62) rfl rfl vw_nil rfl rfl) ?_
            refine ol_put rfl rfl rfl (q_move (v := .one (bC b63)) rfl) ?_
            rcases b63 with _ | _
            · replace h := ifF (by decide) h
              refine ol_skip rfl rfl rfl ?_
              refine ol_skip rfl rfl rfl ?_
              refine ol_skip rfl rfl rfl ?_
              refine ol_skip rfl rfl rfl ?_
              refine ol_skip rfl rfl rfl ?_
              refine ol_skip rfl rfl rfl ?_
              refine ol_skip rfl rfl rfl ?_
              refine ol_skip rfl rfl rfl ?_
              refine ol_skip rfl rfl rfl ?_
              refine ol_skip rfl rfl rfl ?_
              refine ol_skip rfl rfl rfl ?_
              refine ol_skip rfl rfl rfl ?_
              refine ol_skip rfl rfl rfl ?_
              refine ol_skip rfl rfl rfl ?_
              refine ol_skip rfl rfl rfl ?_
              refine ol_skip rfl rfl rfl ?_
              refine ol_skip rfl rfl rfl ?_
              refine ol_skip rfl rfl rfl ?_
              refine ol_skip rfl rfl rfl ?_
              refine ol_skip rfl rfl rfl ?_
              refine ol_skip rfl rfl rfl ?_
              refine ol_put rfl rfl rfl (q_pickF (v := .one (bC false)) rfl rfl) ?_
              refine ol_put rfl rfl rfl (q_assign (v := .one (bC false)) rfl) ?_
              refine ol_end ?_
              refine E_seq ?_
              refine L_ret ?_
              obtain rfl := Option.some.inj h
              exact E_endF (.inr rfl) (res_tmp rfl res_nil) (vw_cons (vd_one vc_v) vw_nil) (fun h hb => own_p) rfl rfl
            · replace h := ifT (by decide) h
              refine ol_put rfl rfl rfl (q_move (v := .one (iC .i64 n43)) rfl) ?_
              by_cases c64 : n43 ≠ 0
              · replace h := ifT c64 h
                refine ol_put rfl rfl rfl (q_bin rfl rfl (p_neq_t _ _ _ _ _ c64) rfl) ?_
                refine ol_put rfl rfl rfl (q_move (v := .one (bC true)) rfl) ?_
                refine ol_skip rfl rfl rfl ?_
                refine ol_skip rfl rfl rfl ?_
                refine ol_put rfl rfl rfl (q_pickT (v := .one (bC true)) rfl rfl) ?_
                refine ol_put rfl rfl rfl (q_move (v := .one (bC true)) rfl) ?_
                refine ol_skip rfl rfl rfl ?_
                refine ol_skip rfl rfl rfl ?_
                refine ol_skip rfl rfl rfl ?_
                refine ol_skip rfl rfl rfl ?_
                refine ol_skip rfl rfl rfl ?_
                refine ol_skip rfl rfl rfl ?_
                refine ol_skip rfl rfl rfl ?_
                refine ol_skip rfl rfl rfl ?_
                refine ol_skip rfl rfl rfl ?_
                refine ol_skip rfl rfl rfl ?_
                refine ol_skip rfl rfl rfl ?_
                refine ol_skip rfl rfl rfl ?_
                refine ol_skip rfl rfl rfl ?_
                refine ol_put rfl rfl rfl (q_pickT (v := .one (bC true)) rfl rfl) ?_
                refine ol_put rfl rfl rfl (q_pickT (v := .one (bC true)) rfl rfl) ?_
                refine ol_put rfl rfl rfl (q_assign (v := .one (bC true)) rfl) ?_
                refine ol_end ?_
                refine E_seq ?_
                refine L_ret ?_
                obtain rfl := Option.some.inj h
                exact E_endF (.inr rfl) (res_tmp rfl res_nil) (vw_cons (vd_one vc_v) vw_nil) (fun h hb => own_p) rfl rfl
              · replace h := ifF c64 h
                refine ol_put rfl rfl rfl (q_bin rfl rfl (p_neq_f _ _ _ _ _ c64) rfl) ?_
                refine ol_put rfl rfl rfl (q_move (v := .one (bC false)) rfl) ?_
                refine ol_put rfl rfl rfl (q_move (v := .one (iC .i64 n46)) rfl) ?_
                by_cases c65 : n46 ≠ 0
                · replace h := ifT c65 h
                  refine ol_put rfl rfl rfl (q_bin rfl rfl (p_neq_t _ _ _ _ _ c65) rfl) ?_
                  refine ol_put rfl rfl rfl (q_pickF (v := .one (bC true)) rfl rfl) ?_
                  refine ol_put rfl rfl rfl (q_move (v := .one (bC true)) rfl) ?_
                  refine ol_skip rfl rfl rfl ?_
                  refine ol_skip rfl rfl rfl ?_
                  refine ol_skip rfl rfl rfl ?_
                  refine ol_skip rfl rfl rfl ?_
                  refine ol_skip rfl rfl rfl ?_
                  refine ol_skip rfl rfl rfl ?_
                  refine ol_skip rfl rfl rfl ?_
                  refine ol_skip rfl rfl rfl ?_
                  refine ol_skip rfl rfl rfl ?_
                  refine ol_skip rfl rfl rfl ?_
                  refine ol_skip rfl rfl rfl ?_
                  refine ol_skip rfl rfl rfl ?_
                  refine ol_skip rfl rfl rfl ?_
                  refine ol_put rfl rfl rfl (q_pickT (v := .one (bC true)) rfl rfl) ?_
                  refine ol_put rfl rfl rfl (q_pickT (v := .one (bC true)) rfl rfl) ?_
                  refine ol_put rfl rfl rfl (q_assign (v := .one (bC true)) rfl) ?_
                  refine ol_end ?_
                  refine E_seq ?_
                  refine L_ret ?_
                  obtain rfl := Option.some.inj h
                  exact E_endF (.inr rfl) (res_tmp rfl res_nil) (vw_cons (vd_one vc_v) vw_nil) (fun h hb => own_p) rfl rfl
                · replace h := ifF c65 h
                  refine ol_put rfl rfl rfl (q_bin rfl rfl (p_neq_f _ _ _ _ _ c65) rfl) ?_
                  refine ol_put rfl rfl rfl (q_pickF (v := .one (bC false)) rfl rfl) ?_
                  refine ol_put rfl rfl rfl (q_move (v := .one (bC false)) rfl) ?_
                  refine ol_put rfl rfl rfl (q_move (v := .one (iC .i64 n49)) rfl) ?_
                  by_cases c66 : n49 = 0
                  · replace h := ifT c66 h
                    refine ol_put rfl rfl rfl (q_bin rfl rfl (p_eql_t _ _ _ _ _ c66) rfl) ?_
                    refine ol_put rfl rfl rfl (q_move (v := .one (bC b61)) rfl) ?_
                    rcases b61 with _ | _
                    · replace h := ifF (by decide) h
                      refine ol_put rfl rfl rfl (q_binB rfl rfl (eqeqlB4 _ _ _ _) rfl) ?_
                      refine ol_put rfl rfl rfl (q_move (v := .one (bC false)) rfl) ?_
                      refine ol_skip rfl rfl rfl ?_
                      refine ol_skip rfl rfl rfl ?_
                      refine ol_skip rfl rfl rfl ?_
                      refine ol_skip rfl rfl rfl ?_
                      refine ol_skip rfl rfl rfl ?_
                      refine ol_skip rfl rfl rfl ?_
                      refine ol_skip rfl rfl rfl ?_
                      refine ol_put rfl rfl rfl (q_pickF (v := .one (bC false)) rfl rfl) ?_
                      refine ol_put rfl rfl rfl (q_pickF (v := .one (bC false)) rfl rfl) ?_
                      refine ol_put rfl rfl rfl (q_pickT (v := .one (bC false)) rfl rfl) ?_
                      refine ol_put rfl rfl rfl (q_assign (v := .one (bC false)) rfl) ?_
                      refine ol_end ?_
                      refine E_seq ?_
                      refine L_ret ?_
                      obtain rfl := Option.some.inj h
                      exact E_endF (.inr rfl) (res_tmp rfl res_nil) (vw_cons (vd_one vc_v) vw_nil) (fun h hb => own_p) rfl rfl
                    · replace h := ifT (by decide) h
                      refine ol_put rfl rfl rfl (q_binB rfl rfl (eqeqlB4 _ _ _ _) rfl) ?_
                      refine ol_put rfl rfl rfl (q_move (v := .one (bC true)) rfl) ?_
                      refine ol_put rfl rfl rfl (q_move (v := .one (bC true)) rfl) ?_
                      refine ol_put rfl rfl rfl (q_not rfl) ?_
                      refine ol_put rfl rfl rfl (q_move (v := .one (bC false)) rfl) ?_
                      refine ol_put rfl rfl rfl (q_move (v := .one (iC .i64 n48)) rfl) ?_
                      refine ol_put rfl rfl rfl (q_move (v := .one (iC .i64 n60)) rfl) ?_
                      by_cases c67 : n48 = n60
                      · replace h := ifT c67 h
                        refine ol_put rfl rfl rfl (q_bin rfl rfl (p_eql_t _ _ _ _ _ c67) rfl) ?_
                        refine ol_put rfl rfl rfl (q_pickF (v := .one (bC true)) rfl rfl) ?_
                        refine ol_put rfl rfl rfl (q_pickT (v := .one (bC true)) rfl rfl) ?_
                        refine ol_put rfl rfl rfl (q_pickF (v := .one (bC true)) rfl rfl) ?_
                        refine ol_put rfl rfl rfl (q_pickT (v := .one (bC true)) rfl rfl) ?_
                        refine ol_put rfl rfl rfl (q_assign (v := .one (bC true)) rfl) ?_
                        refine ol_end ?_
                        refine E_seq ?_
                        refine L_ret ?_
                        obtain rfl := Option.some.inj h
                        exact E_endF (.inr rfl) (res_tmp rfl res_nil) (vw_cons (vd_one vc_v) vw_nil) (fun h hb => own_p) rfl rfl
                      · replace h := ifF c67 h
                        refine ol_put rfl rfl rfl (q_bin rfl rfl (p_eql_f _ _ _ _ _ c67) rfl) ?_
                        refine ol_put rfl rfl rfl (q_pickF (v := .one (bC false)) rfl rfl) ?_
                        refine ol_put rfl rfl rfl (q_pickT (v := .one (bC false)) rfl rfl) ?_
                        refine ol_put rfl rfl rfl (q_pickF (v := .one (bC false)) rfl rfl) ?_
                        refine ol_put rfl rfl rfl (q_pickT (v := .one (bC false)) rfl rfl) ?_
                        refine ol_put rfl rfl rfl (q_assign (v := .one (bC false)) rfl) ?_
                        refine ol_end ?_
                        refine E_seq ?_
                        refine L_ret ?_
                        obtain rfl := Option.some.inj h
                        exact E_endF (.inr rfl) (res_tmp rfl res_nil) (vw_cons (vd_one vc_v) vw_nil) (fun h hb => own_p) rfl rfl
                  · replace h := ifF c66 h
                    refine ol_put rfl rfl rfl (q_bin rfl rfl (p_eql_f _ _ _ _ _ c66) rfl) ?_
                    refine ol_put rfl rfl rfl (q_move (v := .one (bC b61)) rfl) ?_
                    rcases b61 with _ | _
                    · replace h := ifF (by decide) h
                      refine ol_put rfl rfl rfl (q_binB rfl rfl (eqeqlB4 _ _ _ _) rfl) ?_
                      refine ol_put rfl rfl rfl (q_move (v := .one (bC true)) rfl) ?_
                      refine ol_put rfl rfl rfl (q_move (v := .one (bC false)) rfl) ?_
                      refine ol_put rfl rfl rfl (q_not rfl) ?_
                      refine ol_put rfl rfl rfl (q_move (v := .one (bC true)) rfl) ?_
                      refine ol_skip rfl rfl rfl ?_
                      refine ol_skip rfl rfl rfl ?_
                      refine ol_skip rfl rfl rfl ?_
                      refine ol_put rfl rfl rfl (q_pickT (v := .one (bC true)) rfl rfl) ?_
                      refine ol_put rfl rfl rfl (q_pickT (v := .one (bC true)) rfl rfl) ?_
                      refine ol_put rfl rfl rfl (q_pickF (v := .one (bC true)) rfl rfl) ?_
                      refine ol_put rfl rfl rfl (q_pickT (v := .one (bC true)) rfl rfl) ?_
                      refine ol_put rfl rfl rfl (q_assign (v := .one (bC true)) rfl) ?_
                      refine ol_end ?_
                      refine E_seq ?_
                      refine L_ret ?_
                      obtain rfl := Option.some.inj h
                      exact E_endF (.inr rfl) (res_tmp rfl res_nil) (vw_cons (vd_one vc_v) vw_nil) (fun h hb => own_p) rfl rfl
                    · replace h := ifT (by decide) h
                      refine ol_put rfl rfl rfl (q_binB rfl rfl (eqeqlB4 _ _ _ _) rfl) ?_
                      refine ol_put rfl rfl rfl (q_move (v := .one (bC false)) rfl) ?_
                      refine ol_skip rfl rfl rfl ?_
                      refine ol_skip rfl rfl rfl ?_
                      refine ol_skip rfl rfl rfl ?_
                      refine ol_skip rfl rfl rfl ?_
                      refine ol_skip rfl rfl rfl ?_
                      refine ol_skip rfl rfl rfl ?_
                      refine ol_skip rfl rfl rfl ?_
                      refine ol_put rfl rfl rfl (q_pickF (v := .one (bC false)) rfl rfl) ?_
                      refine ol_put rfl rfl rfl (q_pickF (v := .one (bC false)) rfl rfl) ?_
                      refine ol_put rfl rfl rfl (q_pickT (v := .one (bC false)) rfl rfl) ?_
                      refine ol_put rfl rfl rfl (q_assign (v := .one (bC false)) rfl) ?_
                      refine ol_end ?_
                      refine E_seq ?_
                      refine L_ret ?_
                      obtain rfl := Option.some.inj h
                      exact E_endF (.inr rfl) (res_tmp rfl res_nil) (vw_cons (vd_one vc_v) vw_nil) (fun h hb => own_p) rfl rfl
end Ev
end Go.Proofs.Ytioagbejilllfaa
