/- Functions of the program as functions on data, and that they are. -/
import Derived.Test.YtlcfdmjkbaegpaaDoorLf2
import Derived.Test.YtlcfdmjkbaegpaaDoorLf7
import Derived.Test.YtlcfdmjkbaegpaaDoorLy1
namespace Go.Proofs.YtlcfdmjkbaegpaaDoor
namespace Ev
open Go
set_option linter.unusedVariables false
set_option linter.unusedSimpArgs false
set_option maxRecDepth 100000
set_option maxHeartbeats 1000000
attribute [local irreducible] OpsL StL TnL WpL EndL
noncomputable def law13_PullRaw (n1 : Int) (a1 : Int × Int × Sl (Int) × Sl (Int) × Sl (Int)) (a2 : Int × Sl (Int) × Sl (Int)) : Option (Bool) :=
  match a1, a2 with
  | (n2, n3, s4, s5, s6), (n7, s8, s9) => (if ((s4.l.length : Nat) : Int) > 50 then ((FL).bind fun b14 => some b14) else (if ((s5.l.length : Nat) : Int) > 60 then ((FL).bind fun b17 => some b17) else (if ((s9.l.length : Nat) : Int) > 100 then ((FL).bind fun b20 => some b20) else (if ((s8.l.length : Nat) : Int) > 4 then ((FL).bind fun b23 => some b23) else ((pull_Sums n1 (n2, n3, s4, s5, s6) (n7, s8, s9) (⟨false, 0, []⟩ : Sl (Int)) true).bind fun (s25, n26) => ((ref13_Sums n1 (n2, n3, s4, s5, s6) (n7, s8, s9) (⟨false, 0, []⟩ : Sl (Int)) true).bind fun (s28, n29) => ((FL).bind fun b31 => (if b31 = true then ((ref13_SameSums s25 s28).bind fun b33 => (if b33 = true then (if n26 = n29 then some true else some false) else some false)) else some false))))))))
theorem law13_PullRaw_r (m : Nat) {n1 : Int} {a1 : Int × Int × Sl (Int) × Sl (Int) × Sl (Int)} {a2 : Int × Sl (Int) × Sl (Int)} {out : Bool} (h : law13_PullRaw n1 a1 a2 = some out) : RunsP E1 (m + 7) 4 [.one (iT .i64 n1), .agg (r32 a1), .agg (r35 a2)] (.fresh, [.one (bT out)]) := by
  obtain ⟨n2, n3, s4, s5, s6⟩ := a1
  obtain ⟨n7, s8, s9⟩ := a2
  refine fn_F rfl (by rw [E1_fn]; exact show fiOf Tryd.prog 4 = _ by unfold fiOf; rw [Tryd.func4]; unfold Tryd.f4; rfl) rfl ?_
  dsimp only
  unfold law13_PullRaw at h
  refine L_seq ?_
  refine L_ops ?_
  refine ol_new rfl rfl rfl (q_box ty33 rfl (cs := [iC .i64 n2, iC .i64 n3, .p false (Sl.t r3 s4), .p false (Sl.t r3 s5), .p false (Sl.t r2 s6)]) rfl rfl) (fun k10 => ?_)
  refine ol_new rfl rfl rfl (q_box ty36 rfl (cs := [iC .i64 n7, .p false (Sl.t r60 s8), .p false (Sl.t r2 s9)]) rfl rfl) (fun k11 => ?_)
  refine ol_put rfl rfl rfl (q_assign (v := .one (bC false)) rfl) ?_
  refine ol_end ?_
  refine E_seq ?_
  refine L_seq ?_
  refine L_seq ?_
  refine L_ops ?_
  refine ol_put rfl rfl rfl (q_fieldP rfl fa33_2 rfl) ?_
  refine ol_put rfl rfl rfl (q_loadP (v := .one (.p false (Sl.t r3 s4))) 1 rfl sz30 rfl rfl rfl rfl) ?_
  refine ol_put rfl rfl rfl (q_lenS rfl ty30 rfl rfl rfl rfl) ?_
  by_cases c12 : ((s4.l.length : Nat) : Int) > 50
  · replace h := ifT c12 h
    refine ol_put rfl rfl rfl (q_bin rfl rfl (p_gtr_t _ _ _ _ _ c12) rfl) ?_
    refine ol_put rfl rfl rfl (q_move (v := .one (bC true)) rfl) ?_
    refine ol_skip rfl rfl rfl ?_
    refine ol_skip rfl rfl rfl ?_
    refine ol_skip rfl rfl rfl ?_
    refine ol_skip rfl rfl rfl ?_
    refine ol_put rfl rfl rfl (q_pickT (v := .one (bC true)) rfl rfl) ?_
    refine ol_put rfl rfl rfl (q_move (v := .one (bC true)) rfl) ?_
    refine ol_skip rfl rfl rfl ?_
    refine ol_skip rfl rfl rfl ?_
    refine ol_skip rfl rfl rfl ?_
    refine ol_skip rfl rfl rfl ?_
    refine ol_put rfl rfl rfl (q_pickT (v := .one (bC true)) rfl rfl) ?_
    refine ol_put rfl rfl rfl (q_move (v := .one (bC true)) rfl) ?_
    refine ol_skip rfl rfl rfl ?_
    refine ol_skip rfl rfl rfl ?_
    refine ol_skip rfl rfl rfl ?_
    refine ol_skip rfl rfl rfl ?_
    refine ol_put rfl rfl rfl (q_pickT (v := .one (bC true)) rfl rfl) ?_
    refine ol_end ?_
    refine E_seq ?_
    refine L_condT rfl ?_
    refine L_seq ?_
    refine L_ops ?_
    obtain ⟨b14, h13, h⟩ := bindS h
    refine ol_put rfl rfl rfl (q_callF (v := .one (bC b14)) (args := []) (FL_r (m + 5) h13) rfl rfl vw_nil rfl rfl) ?_
    refine ol_put rfl rfl rfl (q_assign (v := .one (bC b14)) rfl) ?_
    refine ol_end ?_
    refine E_seq ?_
    refine L_ret ?_
    refine E_seqR ?_
    obtain rfl := Option.some.inj h
    exact E_endF (.inr rfl) (res_tmp rfl res_nil) (vw_cons (vd_one vc_v) vw_nil) (fun h hb => own_p) rfl rfl
  · replace h := ifF c12 h
    refine ol_put rfl rfl rfl (q_bin rfl rfl (p_gtr_f _ _ _ _ _ c12) rfl) ?_
    refine ol_put rfl rfl rfl (q_move (v := .one (bC false)) rfl) ?_
    refine ol_put rfl rfl rfl (q_fieldP rfl fa33_3 rfl) ?_
    refine ol_put rfl rfl rfl (q_loadP (v := .one (.p false (Sl.t r3 s5))) 1 rfl sz30 rfl rfl rfl rfl) ?_
    refine ol_put rfl rfl rfl (q_lenS rfl ty30 rfl rfl rfl rfl) ?_
    by_cases c15 : ((s5.l.length : Nat) : Int) > 60
    · replace h := ifT c15 h
      refine ol_put rfl rfl rfl (q_bin rfl rfl (p_gtr_t _ _ _ _ _ c15) rfl) ?_
      refine ol_put rfl rfl rfl (q_pickF (v := .one (bC true)) rfl rfl) ?_
      refine ol_put rfl rfl rfl (q_move (v := .one (bC true)) rfl) ?_
      refine ol_skip rfl rfl rfl ?_
      refine ol_skip rfl rfl rfl ?_
      refine ol_skip rfl rfl rfl ?_
      refine ol_skip rfl rfl rfl ?_
      refine ol_put rfl rfl rfl (q_pickT (v := .one (bC true)) rfl rfl) ?_
      refine ol_put rfl rfl rfl (q_move (v := .one (bC true)) rfl) ?_
      refine ol_skip rfl rfl rfl ?_
      refine ol_skip rfl rfl rfl ?_
      refine ol_skip rfl rfl rfl ?_
      refine ol_skip rfl rfl rfl ?_
      refine ol_put rfl rfl rfl (q_pickT (v := .one (bC true)) rfl rfl) ?_
      refine ol_end ?_
      refine E_seq ?_
      refine L_condT rfl ?_
      refine L_seq ?_
      refine L_ops ?_
      obtain ⟨b17, h16, h⟩ := bindS h
      refine ol_put rfl rfl rfl (q_callF (v := .one (bC b17)) (args := []) (FL_r (m + 5) h16) rfl rfl vw_nil rfl rfl) ?_
      refine ol_put rfl rfl rfl (q_assign (v := .one (bC b17)) rfl) ?_
      refine ol_end ?_
      refine E_seq ?_
      refine L_ret ?_
      refine E_seqR ?_
      obtain rfl := Option.some.inj h
      exact E_endF (.inr rfl) (res_tmp rfl res_nil) (vw_cons (vd_one vc_v) vw_nil) (fun h hb => own_p) rfl rfl
    · replace h := ifF c15 h
      refine ol_put rfl rfl rfl (q_bin rfl rfl (p_gtr_f _ _ _ _ _ c15) rfl) ?_
      refine ol_put rfl rfl rfl (q_pickF (v := .one (bC false)) rfl rfl) ?_
      refine ol_put rfl rfl rfl (q_move (v := .one (bC false)) rfl) ?_
      refine ol_put rfl rfl rfl (q_fieldP rfl fa36_2 rfl) ?_
      refine ol_put rfl rfl rfl (q_loadP (v := .one (.p false (Sl.t r2 s9))) 0 rfl sz31 rfl rfl rfl rfl) ?_
      refine ol_put rfl rfl rfl (q_lenS rfl ty31 rfl rfl rfl rfl) ?_
      by_cases c18 : ((s9.l.length : Nat) : Int) > 100
      · replace h := ifT c18 h
        refine ol_put rfl rfl rfl (q_bin rfl rfl (p_gtr_t _ _ _ _ _ c18) rfl) ?_
        refine ol_put rfl rfl rfl (q_pickF (v := .one (bC true)) rfl rfl) ?_
        refine ol_put rfl rfl rfl (q_move (v := .one (bC true)) rfl) ?_
        refine ol_skip rfl rfl rfl ?_
        refine ol_skip rfl rfl rfl ?_
        refine ol_skip rfl rfl rfl ?_
        refine ol_skip rfl rfl rfl ?_
        refine ol_put rfl rfl rfl (q_pickT (v := .one (bC true)) rfl rfl) ?_
        refine ol_end ?_
        refine E_seq ?_
        refine L_condT rfl ?_
        refine L_seq ?_
        refine L_ops ?_
        obtain ⟨b20, h19, h⟩ := bindS h
        refine ol_put rfl rfl rfl (q_callF (v := .one (bC b20)) (args := []) (FL_r (m + 5) h19) rfl rfl vw_nil rfl rfl) ?_
        refine ol_put rfl rfl rfl (q_assign (v := .one (bC b20)) rfl) ?_
        refine ol_end ?_
        refine E_seq ?_
        refine L_ret ?_
        refine E_seqR ?_
        obtain rfl := Option.some.inj h
        exact E_endF (.inr rfl) (res_tmp rfl res_nil) (vw_cons (vd_one vc_v) vw_nil) (fun h hb => own_p) rfl rfl
      · replace h := ifF c18 h
        refine ol_put rfl rfl rfl (q_bin rfl rfl (p_gtr_f _ _ _ _ _ c18) rfl) ?_
        refine ol_put rfl rfl rfl (q_pickF (v := .one (bC false)) rfl rfl) ?_
        refine ol_put rfl rfl rfl (q_move (v := .one (bC false)) rfl) ?_
        refine ol_put rfl rfl rfl (q_fieldP rfl fa36_1 rfl) ?_
        refine ol_put rfl rfl rfl (q_loadP (v := .one (.p false (Sl.t r60 s8))) 0 rfl sz26 rfl rfl rfl rfl) ?_
        refine ol_put rfl rfl rfl (q_lenS rfl ty26 rfl rfl rfl rfl) ?_
        by_cases c21 : ((s8.l.length : Nat) : Int) > 4
        · replace h := ifT c21 h
          refine ol_put rfl rfl rfl (q_bin rfl rfl (p_gtr_t _ _ _ _ _ c21) rfl) ?_
          refine ol_put rfl rfl rfl (q_pickF (v := .one (bC true)) rfl rfl) ?_
          refine ol_end ?_
          refine E_seq ?_
          refine L_condT rfl ?_
          refine L_seq ?_
          refine L_ops ?_
          obtain ⟨b23, h22, h⟩ := bindS h
          refine ol_put rfl rfl rfl (q_callF (v := .one (bC b23)) (args := []) (FL_r (m + 5) h22) rfl rfl vw_nil rfl rfl) ?_
          refine ol_put rfl rfl rfl (q_assign (v := .one (bC b23)) rfl) ?_
          refine ol_end ?_
          refine E_seq ?_
          refine L_ret ?_
          refine E_seqR ?_
          obtain rfl := Option.some.inj h
          exact E_endF (.inr rfl) (res_tmp rfl res_nil) (vw_cons (vd_one vc_v) vw_nil) (fun h hb => own_p) rfl rfl
        · replace h := ifF c21 h
          refine ol_put rfl rfl rfl (q_bin rfl rfl (p_gtr_f _ _ _ _ _ c21) rfl) ?_
          refine ol_put rfl rfl rfl (q_pickF (v := .one (bC false)) rfl rfl) ?_
          refine ol_end ?_
          refine E_seq ?_
          refine L_condF rfl ?_
          refine L_skip ?_
          refine E_seq ?_
          refine L_seq ?_
          refine L_ops ?_
          refine ol_put rfl rfl rfl (q_move (v := .one (iC .i64 n1)) rfl) ?_
          refine ol_put rfl rfl rfl (q_loadP (v := .agg [iC .i64 n2, iC .i64 n3, .p false (Sl.t r3 s4), .p false (Sl.t r3 s5), .p false (Sl.t r2 s6)]) 1 rfl sz33 rfl rfl rfl rfl) ?_
          refine ol_put rfl rfl rfl (q_loadP (v := .agg [iC .i64 n7, .p false (Sl.t r60 s8), .p false (Sl.t r2 s9)]) 0 rfl sz36 rfl rfl rfl rfl) ?_
          obtain ⟨⟨s25, n26⟩, h24, h⟩ := bindS h
          refine ol_put rfl rfl rfl (q_callF (v := .tup [.one (.p true (Sl.t r63 s25)), .one (iC .i64 n26)]) (args := [.one (iC .i64 n1), .agg [iC .i64 n2, iC .i64 n3, .p false (Sl.t r3 s4), .p false (Sl.t r3 s5), .p false (Sl.t r2 s6)], .agg [iC .i64 n7, .p false (Sl.t r60 s8), .p false (Sl.t r2 s9)], .one (.p true (Sl.t r60 (⟨false, 0, []⟩ : Sl (Int)))), .one (bC true)]) (pull_Sums_r (m + 0) h24) rfl rfl (vw_cons (vd_one vc_v) (vw_cons (vd_agg (vc_cons vc_v (vc_cons vc_v (vc_cons vc_s (vc_cons vc_s (vc_cons vc_s vc_nil)))))) (vw_cons (vd_agg (vc_cons vc_v (vc_cons vc_s (vc_cons vc_s vc_nil)))) (vw_cons (vd_one vc_s) (vw_cons (vd_one vc_v) vw_nil))))) rfl rfl) ?_
          refine ol_put rfl rfl rfl (q_move (v := .tup [.one (.p true (Sl.t r63 s25)), .one (iC .i64 n26)]) rfl) ?_
          refine ol_put rfl rfl rfl (q_ext (v := .one (.p true (Sl.t r63 s25))) rfl rfl) ?_
          refine ol_put rfl rfl rfl (q_ext (v := .one (iC .i64 n26)) rfl rfl) ?_
          refine ol_put rfl rfl rfl (q_assign (v := .one (.p true (Sl.t r63 s25))) rfl) ?_
          refine ol_put rfl rfl rfl (q_assign (v := .one (iC .i64 n26)) rfl) ?_
          refine ol_end ?_
          refine E_seq ?_
          refine L_seq ?_
          refine L_ops ?_
          refine ol_put rfl rfl rfl (q_move (v := .one (iC .i64 n1)) rfl) ?_
          refine ol_put rfl rfl rfl (q_loadP (v := .agg [iC .i64 n2, iC .i64 n3, .p false (Sl.t r3 s4), .p false (Sl.t r3 s5), .p false (Sl.t r2 s6)]) 1 rfl sz33 rfl rfl rfl rfl) ?_
          refine ol_put rfl rfl rfl (q_loadP (v := .agg [iC .i64 n7, .p false (Sl.t r60 s8), .p false (Sl.t r2 s9)]) 0 rfl sz36 rfl rfl rfl rfl) ?_
          obtain ⟨⟨s28, n29⟩, h27, h⟩ := bindS h
          refine ol_put rfl rfl rfl (q_callF (v := .tup [.one (.p true (Sl.t r63 s28)), .one (iC .i64 n29)]) (args := [.one (iC .i64 n1), .agg [iC .i64 n2, iC .i64 n3, .p false (Sl.t r3 s4), .p false (Sl.t r3 s5), .p false (Sl.t r2 s6)], .agg [iC .i64 n7, .p false (Sl.t r60 s8), .p false (Sl.t r2 s9)], .one (.p true (Sl.t r60 (⟨false, 0, []⟩ : Sl (Int)))), .one (bC true)]) (ref13_Sums_r (m + 0) h27) rfl rfl (vw_cons (vd_one vc_v) (vw_cons (vd_agg (vc_cons vc_v (vc_cons vc_v (vc_cons vc_s (vc_cons vc_s (vc_cons vc_s vc_nil)))))) (vw_cons (vd_agg (vc_cons vc_v (vc_cons vc_s (vc_cons vc_s vc_nil)))) (vw_cons (vd_one vc_s) (vw_cons (vd_one vc_v) vw_nil))))) rfl rfl) ?_
          refine ol_put rfl rfl rfl (q_move (v := .tup [.one (.p true (Sl.t r63 s28)), .one (iC .i64 n29)]) rfl) ?_
          refine ol_put rfl rfl rfl (q_ext (v := .one (.p true (Sl.t r63 s28))) rfl rfl) ?_
          refine ol_put rfl rfl rfl (q_ext (v := .one (iC .i64 n29)) rfl rfl) ?_
          refine ol_put rfl rfl rfl (q_assign (v := .one (.p true (Sl.t r63 s28))) rfl) ?_
          refine ol_put rfl rfl rfl (q_assign (v := .one (iC .i64 n29)) rfl) ?_
          refine ol_end ?_
          refine E_seq ?_
          refine L_seq ?_
          refine L_ops ?_
          obtain ⟨b31, h30, h⟩ := bindS h
          refine ol_put rfl rfl rfl (q_callF (v := .one (bC b31)) (args := []) (FL_r (m + 5) h30) rfl rfl vw_nil rfl rfl) ?_
          refine ol_put rfl rfl rfl (q_move (v := .one (bC b31)) rfl) ?_
          rcases b31 with _ | _
          · replace h := ifF (by decide) h
            refine ol_skip rfl rfl rfl ?_
            refine ol_skip rfl rfl rfl ?_
            refine ol_skip rfl rfl rfl ?_
            refine ol_put rfl rfl rfl (q_pickF (v := .one (bC false)) rfl rfl) ?_
            refine ol_put rfl rfl rfl (q_move (v := .one (bC false)) rfl) ?_
            refine ol_skip rfl rfl rfl ?_
            refine ol_skip rfl rfl rfl ?_
            refine ol_skip rfl rfl rfl ?_
            refine ol_put rfl rfl rfl (q_pickF (v := .one (bC false)) rfl rfl) ?_
            refine ol_put rfl rfl rfl (q_assign (v := .one (bC false)) rfl) ?_
            refine ol_end ?_
            refine E_seq ?_
            refine L_ret ?_
            obtain rfl := Option.some.inj h
            exact E_endF (.inr rfl) (res_tmp rfl res_nil) (vw_cons (vd_one vc_v) vw_nil) (fun h hb => own_p) rfl rfl
          · replace h := ifT (by decide) h
            refine ol_put rfl rfl rfl (q_move (v := .one (.p true (Sl.t r63 s25))) rfl) ?_
            refine ol_put rfl rfl rfl (q_move (v := .one (.p true (Sl.t r63 s28))) rfl) ?_
            obtain ⟨b33, h32, h⟩ := bindS h
            refine ol_put rfl rfl rfl (q_callF (v := .one (bC b33)) (args := [.one (.p true (Sl.t r63 s25)), .one (.p true (Sl.t r63 s28))]) (ref13_SameSums_r (m + 5) h32) rfl rfl (vw_cons (vd_one vc_s) (vw_cons (vd_one vc_s) vw_nil)) rfl rfl) ?_
            refine ol_put rfl rfl rfl (q_pickT (v := .one (bC b33)) rfl rfl) ?_
            refine ol_put rfl rfl rfl (q_move (v := .one (bC b33)) rfl) ?_
            rcases b33 with _ | _
            · replace h := ifF (by decide) h
              refine ol_skip rfl rfl rfl ?_
              refine ol_skip rfl rfl rfl ?_
              refine ol_skip rfl rfl rfl ?_
              refine ol_put rfl rfl rfl (q_pickF (v := .one (bC false)) rfl rfl) ?_
              refine ol_put rfl rfl rfl (q_assign (v := .one (bC false)) rfl) ?_
              refine ol_end ?_
              refine E_seq ?_
              refine L_ret ?_
              obtain rfl := Option.some.inj h
              exact E_endF (.inr rfl) (res_tmp rfl res_nil) (vw_cons (vd_one vc_v) vw_nil) (fun h hb => own_p) rfl rfl
            · replace h := ifT (by decide) h
              refine ol_put rfl rfl rfl (q_move (v := .one (iC .i64 n26)) rfl) ?_
              refine ol_put rfl rfl rfl (q_move (v := .one (iC .i64 n29)) rfl) ?_
              by_cases c34 : n26 = n29
              · replace h := ifT c34 h
                refine ol_put rfl rfl rfl (q_bin rfl rfl (p_eql_t _ _ _ _ _ c34) rfl) ?_
                refine ol_put rfl rfl rfl (q_pickT (v := .one (bC true)) rfl rfl) ?_
                refine ol_put rfl rfl rfl (q_assign (v := .one (bC true)) rfl) ?_
                refine ol_end ?_
                refine E_seq ?_
                refine L_ret ?_
                obtain rfl := Option.some.inj h
                exact E_endF (.inr rfl) (res_tmp rfl res_nil) (vw_cons (vd_one vc_v) vw_nil) (fun h hb => own_p) rfl rfl
              · replace h := ifF c34 h
                refine ol_put rfl rfl rfl (q_bin rfl rfl (p_eql_f _ _ _ _ _ c34) rfl) ?_
                refine ol_put rfl rfl rfl (q_pickT (v := .one (bC false)) rfl rfl) ?_
                refine ol_put rfl rfl rfl (q_assign (v := .one (bC false)) rfl) ?_
                refine ol_end ?_
                refine E_seq ?_
                refine L_ret ?_
                obtain rfl := Option.some.inj h
                exact E_endF (.inr rfl) (res_tmp rfl res_nil) (vw_cons (vd_one vc_v) vw_nil) (fun h hb => own_p) rfl rfl
end Ev
end Go.Proofs.YtlcfdmjkbaegpaaDoor
