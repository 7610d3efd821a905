/- Functions of the program as functions on data, and that they are. -/
import Derived.Test.YtioagbejilllfaaLf1
import Derived.Test.YtioagbejilllfaaLf2
import Derived.Test.YtioagbejilllfaaLy1
import Derived.Test.YtioagbejilllfaaLy2
namespace Go.Proofs.Ytioagbejilllfaa
namespace Ev
open Go
set_option linter.unusedVariables false
set_option linter.unusedSimpArgs false
set_option maxRecDepth 100000
set_option maxHeartbeats 1000000
attribute [local irreducible] OpsL StL TnL WpL EndL
noncomputable def ref12_Holds (n1 : Int) (n2 : Int) (n3 : Int) : Option (Bool) :=
  (if n1 = 1 then (if n2 < n3 then some true else (if n1 = 2 then (if n2 > n3 then some true else (if n1 = 3 then (if n2 = n3 then some true else (if n1 = 4 then (if n2 ≠ n3 then some true else some false) else some false)) else (if n1 = 4 then (if n2 ≠ n3 then some true else some false) else some false))) else (if n1 = 3 then (if n2 = n3 then some true else (if n1 = 4 then (if n2 ≠ n3 then some true else some false) else some false)) else (if n1 = 4 then (if n2 ≠ n3 then some true else some false) else some false)))) else (if n1 = 2 then (if n2 > n3 then some true else (if n1 = 3 then (if n2 = n3 then some true else (if n1 = 4 then (if n2 ≠ n3 then some true else some false) else some false)) else (if n1 = 4 then (if n2 ≠ n3 then some true else some false) else some false))) else (if n1 = 3 then (if n2 = n3 then some true else (if n1 = 4 then (if n2 ≠ n3 then some true else some false) else some false)) else (if n1 = 4 then (if n2 ≠ n3 then some true else some false) else some false))))
theorem ref12_Holds_r (m : Nat) {n1 : Int} {n2 : Int} {n3 : Int} {out : Bool} (h : ref12_Holds n1 n2 n3 = some out) : RunsP E1 (m + 1) 17 [.one (iT .i64 n1), .one (iT .i64 n2), .one (iT .i64 n3)] (.fresh, [.one (bT out)]) := by
  refine fn_F rfl (by rw [E1_fn]; exact show fiOf Try.prog 17 = _ by unfold fiOf; rw [Try.func17]; unfold Try.f17; rfl) rfl ?_
  dsimp only
  unfold ref12_Holds at h
  refine L_seq ?_
  refine L_ops ?_
  refine ol_put rfl rfl rfl (q_assign (v := .one (bC false)) rfl) ?_
  refine ol_end ?_
  refine E_seq ?_
  refine L_seq ?_
  refine L_ops ?_
  refine ol_put rfl rfl rfl (q_move (v := .one (iC .i64 n1)) rfl) ?_
  by_cases c4 : n1 = 1
  · replace h := ifT c4 h
    refine ol_put rfl rfl rfl (q_bin rfl rfl (p_eql_t _ _ _ _ _ c4) rfl) ?_
    refine ol_put rfl rfl rfl (q_move (v := .one (bC true)) rfl) ?_
    refine ol_put rfl rfl rfl (q_move (v := .one (iC .i64 n2)) rfl) ?_
    refine ol_put rfl rfl rfl (q_move (v := .one (iC .i64 n3)) rfl) ?_
    by_cases c5 : n2 < n3
    · replace h := ifT c5 h
      refine ol_put rfl rfl rfl (q_bin rfl rfl (p_lss_t _ _ _ _ _ c5) rfl) ?_
      refine ol_put rfl rfl rfl (q_pickT (v := .one (bC true)) rfl rfl) ?_
      refine ol_put rfl rfl rfl (q_move (v := .one (bC true)) rfl) ?_
      refine ol_skip rfl rfl rfl ?_
      refine ol_skip rfl rfl rfl ?_
      refine ol_skip rfl rfl rfl ?_
      refine ol_skip rfl rfl rfl ?_
      refine ol_skip rfl rfl rfl ?_
      refine ol_skip rfl rfl rfl ?_
      refine ol_skip rfl rfl rfl ?_
      refine ol_put rfl rfl rfl (q_pickT (v := .one (bC true)) rfl rfl) ?_
      refine ol_put rfl rfl rfl (q_move (v := .one (bC true)) rfl) ?_
      refine ol_skip rfl rfl rfl ?_
      refine ol_skip rfl rfl rfl ?_
      refine ol_skip rfl rfl rfl ?_
      refine ol_skip rfl rfl rfl ?_
      refine ol_skip rfl rfl rfl ?_
      refine ol_skip rfl rfl rfl ?_
      refine ol_skip rfl rfl rfl ?_
      refine ol_put rfl rfl rfl (q_pickT (v := .one (bC true)) rfl rfl) ?_
      refine ol_put rfl rfl rfl (q_move (v := .one (bC true)) rfl) ?_
      refine ol_skip rfl rfl rfl ?_
      refine ol_skip rfl rfl rfl ?_
      refine ol_skip rfl rfl rfl ?_
      refine ol_skip rfl rfl rfl ?_
      refine ol_skip rfl rfl rfl ?_
      refine ol_skip rfl rfl rfl ?_
      refine ol_skip rfl rfl rfl ?_
      refine ol_put rfl rfl rfl (q_pickT (v := .one (bC true)) rfl rfl) ?_
      refine ol_put rfl rfl rfl (q_assign (v := .one (bC true)) rfl) ?_
      refine ol_end ?_
      refine E_seq ?_
      refine L_ret ?_
      obtain rfl := Option.some.inj h
      exact E_endF (.inr rfl) (res_tmp rfl res_nil) (vw_cons (vd_one vc_v) vw_nil) (fun h hb => own_p) rfl rfl
    · replace h := ifF c5 h
      refine ol_put rfl rfl rfl (q_bin rfl rfl (p_lss_f _ _ _ _ _ c5) rfl) ?_
      refine ol_put rfl rfl rfl (q_pickT (v := .one (bC false)) rfl rfl) ?_
      refine ol_put rfl rfl rfl (q_move (v := .one (bC false)) rfl) ?_
      refine ol_put rfl rfl rfl (q_move (v := .one (iC .i64 n1)) rfl) ?_
      by_cases c6 : n1 = 2
      · replace h := ifT c6 h
        refine ol_put rfl rfl rfl (q_bin rfl rfl (p_eql_t _ _ _ _ _ c6) rfl) ?_
        refine ol_put rfl rfl rfl (q_move (v := .one (bC true)) rfl) ?_
        refine ol_put rfl rfl rfl (q_move (v := .one (iC .i64 n2)) rfl) ?_
        refine ol_put rfl rfl rfl (q_move (v := .one (iC .i64 n3)) rfl) ?_
        by_cases c7 : n2 > n3
        · replace h := ifT c7 h
          refine ol_put rfl rfl rfl (q_bin rfl rfl (p_gtr_t _ _ _ _ _ c7) rfl) ?_
          refine ol_put rfl rfl rfl (q_pickT (v := .one (bC true)) rfl rfl) ?_
          refine ol_put rfl rfl rfl (q_pickF (v := .one (bC true)) rfl rfl) ?_
          refine ol_put rfl rfl rfl (q_move (v := .one (bC true)) rfl) ?_
          refine ol_skip rfl rfl rfl ?_
          refine ol_skip rfl rfl rfl ?_
          refine ol_skip rfl rfl rfl ?_
          refine ol_skip rfl rfl rfl ?_
          refine ol_skip rfl rfl rfl ?_
          refine ol_skip rfl rfl rfl ?_
          refine ol_skip rfl rfl rfl ?_
          refine ol_put rfl rfl rfl (q_pickT (v := .one (bC true)) rfl rfl) ?_
          refine ol_put rfl rfl rfl (q_move (v := .one (bC true)) rfl) ?_
          refine ol_skip rfl rfl rfl ?_
          refine ol_skip rfl rfl rfl ?_
          refine ol_skip rfl rfl rfl ?_
          refine ol_skip rfl rfl rfl ?_
          refine ol_skip rfl rfl rfl ?_
          refine ol_skip rfl rfl rfl ?_
          refine ol_skip rfl rfl rfl ?_
          refine ol_put rfl rfl rfl (q_pickT (v := .one (bC true)) rfl rfl) ?_
          refine ol_put rfl rfl rfl (q_assign (v := .one (bC true)) rfl) ?_
          refine ol_end ?_
          refine E_seq ?_
          refine L_ret ?_
          obtain rfl := Option.some.inj h
          exact E_endF (.inr rfl) (res_tmp rfl res_nil) (vw_cons (vd_one vc_v) vw_nil) (fun h hb => own_p) rfl rfl
        · replace h := ifF c7 h
          refine ol_put rfl rfl rfl (q_bin rfl rfl (p_gtr_f _ _ _ _ _ c7) rfl) ?_
          refine ol_put rfl rfl rfl (q_pickT (v := .one (bC false)) rfl rfl) ?_
          refine ol_put rfl rfl rfl (q_pickF (v := .one (bC false)) rfl rfl) ?_
          refine ol_put rfl rfl rfl (q_move (v := .one (bC false)) rfl) ?_
          refine ol_put rfl rfl rfl (q_move (v := .one (iC .i64 n1)) rfl) ?_
          by_cases c8 : n1 = 3
          · replace h := ifT c8 h
            refine ol_put rfl rfl rfl (q_bin rfl rfl (p_eql_t _ _ _ _ _ c8) rfl) ?_
            refine ol_put rfl rfl rfl (q_move (v := .one (bC true)) rfl) ?_
            refine ol_put rfl rfl rfl (q_move (v := .one (iC .i64 n2)) rfl) ?_
            refine ol_put rfl rfl rfl (q_move (v := .one (iC .i64 n3)) rfl) ?_
            by_cases c9 : n2 = n3
            · replace h := ifT c9 h
              refine ol_put rfl rfl rfl (q_bin rfl rfl (p_eql_t _ _ _ _ _ c9) rfl) ?_
              refine ol_put rfl rfl rfl (q_pickT (v := .one (bC true)) rfl rfl) ?_
              refine ol_put rfl rfl rfl (q_pickF (v := .one (bC true)) rfl rfl) ?_
              refine ol_put rfl rfl rfl (q_move (v := .one (bC true)) rfl) ?_
              refine ol_skip rfl rfl rfl ?_
              refine ol_skip rfl rfl rfl ?_
              refine ol_skip rfl rfl rfl ?_
              refine ol_skip rfl rfl rfl ?_
              refine ol_skip rfl rfl rfl ?_
              refine ol_skip rfl rfl rfl ?_
              refine ol_skip rfl rfl rfl ?_
              refine ol_put rfl rfl rfl (q_pickT (v := .one (bC true)) rfl rfl) ?_
              refine ol_put rfl rfl rfl (q_assign (v := .one (bC true)) rfl) ?_
              refine ol_end ?_
              refine E_seq ?_
              refine L_ret ?_
              obtain rfl := Option.some.inj h
              exact E_endF (.inr rfl) (res_tmp rfl res_nil) (vw_cons (vd_one vc_v) vw_nil) (fun h hb => own_p) rfl rfl
            · replace h := ifF c9 h
              refine ol_put rfl rfl rfl (q_bin rfl rfl (p_eql_f _ _ _ _ _ c9) rfl) ?_
              refine ol_put rfl rfl rfl (q_pickT (v := .one (bC false)) rfl rfl) ?_
              refine ol_put rfl rfl rfl (q_pickF (v := .one (bC false)) rfl rfl) ?_
              refine ol_put rfl rfl rfl (q_move (v := .one (bC false)) rfl) ?_
              refine ol_put rfl rfl rfl (q_move (v := .one (iC .i64 n1)) rfl) ?_
              by_cases c10 : n1 = 4
              · replace h := ifT c10 h
                refine ol_put rfl rfl rfl (q_bin rfl rfl (p_eql_t _ _ _ _ _ c10) rfl) ?_
                refine ol_put rfl rfl rfl (q_move (v := .one (bC true)) rfl) ?_
                refine ol_put rfl rfl rfl (q_move (v := .one (iC .i64 n2)) rfl) ?_
                refine ol_put rfl rfl rfl (q_move (v := .one (iC .i64 n3)) rfl) ?_
                by_cases c11 : n2 ≠ n3
                · replace h := ifT c11 h
                  refine ol_put rfl rfl rfl (q_bin rfl rfl (p_neq_t _ _ _ _ _ c11) rfl) ?_
                  refine ol_put rfl rfl rfl (q_pickT (v := .one (bC true)) rfl rfl) ?_
                  refine ol_put rfl rfl rfl (q_pickF (v := .one (bC true)) rfl rfl) ?_
                  refine ol_put rfl rfl rfl (q_assign (v := .one (bC true)) rfl) ?_
                  refine ol_end ?_
                  refine E_seq ?_
                  refine L_ret ?_
                  obtain rfl := Option.some.inj h
                  exact E_endF (.inr rfl) (res_tmp rfl res_nil) (vw_cons (vd_one vc_v) vw_nil) (fun h hb => own_p) rfl rfl
                · replace h := ifF c11 h
                  refine ol_put rfl rfl rfl (q_bin rfl rfl (p_neq_f _ _ _ _ _ c11) rfl) ?_
                  refine ol_put rfl rfl rfl (q_pickT (v := .one (bC false)) rfl rfl) ?_
                  refine ol_put rfl rfl rfl (q_pickF (v := .one (bC false)) rfl rfl) ?_
                  refine ol_put rfl rfl rfl (q_assign (v := .one (bC false)) rfl) ?_
                  refine ol_end ?_
                  refine E_seq ?_
                  refine L_ret ?_
                  obtain rfl := Option.some.inj h
                  exact E_endF (.inr rfl) (res_tmp rfl res_nil) (vw_cons (vd_one vc_v) vw_nil) (fun h hb => own_p) rfl rfl
              · replace h := ifF c10 h
                refine ol_put rfl rfl rfl (q_bin rfl rfl (p_eql_f _ _ _ _ _ c10) rfl) ?_
                refine ol_put rfl rfl rfl (q_move (v := .one (bC false)) rfl) ?_
                refine ol_skip rfl rfl rfl ?_
                refine ol_skip rfl rfl rfl ?_
                refine ol_skip rfl rfl rfl ?_
                refine ol_put rfl rfl rfl (q_pickF (v := .one (bC false)) rfl rfl) ?_
                refine ol_put rfl rfl rfl (q_pickF (v := .one (bC false)) rfl rfl) ?_
                refine ol_put rfl rfl rfl (q_assign (v := .one (bC false)) rfl) ?_
                refine ol_end ?_
                refine E_seq ?_
                refine L_ret ?_
                obtain rfl := Option.some.inj h
                exact E_endF (.inr rfl) (res_tmp rfl res_nil) (vw_cons (vd_one vc_v) vw_nil) (fun h hb => own_p) rfl rfl
          · replace h := ifF c8 h
            refine ol_put rfl rfl rfl (q_bin rfl rfl (p_eql_f _ _ _ _ _ c8) rfl) ?_
            refine ol_put rfl rfl rfl (q_move (v := .one (bC false)) rfl) ?_
            refine ol_skip rfl rfl rfl ?_
            refine ol_skip rfl rfl rfl ?_
            refine ol_skip rfl rfl rfl ?_
            refine ol_put rfl rfl rfl (q_pickF (v := .one (bC false)) rfl rfl) ?_
            refine ol_put rfl rfl rfl (q_pickF (v := .one (bC false)) rfl rfl) ?_
            refine ol_put rfl rfl rfl (q_move (v := .one (bC false)) rfl) ?_
            refine ol_put rfl rfl rfl (q_move (v := .one (iC .i64 n1)) rfl) ?_
            by_cases c12 : n1 = 4
            · replace h := ifT c12 h
              refine ol_put rfl rfl rfl (q_bin rfl rfl (p_eql_t _ _ _ _ _ c12) rfl) ?_
              refine ol_put rfl rfl rfl (q_move (v := .one (bC true)) rfl) ?_
              refine ol_put rfl rfl rfl (q_move (v := .one (iC .i64 n2)) rfl) ?_
              refine ol_put rfl rfl rfl (q_move (v := .one (iC .i64 n3)) rfl) ?_
              by_cases c13 : n2 ≠ n3
              · replace h := ifT c13 h
                refine ol_put rfl rfl rfl (q_bin rfl rfl (p_neq_t _ _ _ _ _ c13) rfl) ?_
                refine ol_put rfl rfl rfl (q_pickT (v := .one (bC true)) rfl rfl) ?_
                refine ol_put rfl rfl rfl (q_pickF (v := .one (bC true)) rfl rfl) ?_
                refine ol_put rfl rfl rfl (q_assign (v := .one (bC true)) rfl) ?_
                refine ol_end ?_
                refine E_seq ?_
                refine L_ret ?_
                obtain rfl := Option.some.inj h
                exact E_endF (.inr rfl) (res_tmp rfl res_nil) (vw_cons (vd_one vc_v) vw_nil) (fun h hb => own_p) rfl rfl
              · replace h := ifF c13 h
                refine ol_put rfl rfl rfl (q_bin rfl rfl (p_neq_f _ _ _ _ _ c13) rfl) ?_
                refine ol_put rfl rfl rfl (q_pickT (v := .one (bC false)) rfl rfl) ?_
                refine ol_put rfl rfl rfl (q_pickF (v := .one (bC false)) rfl rfl) ?_
                refine ol_put rfl rfl rfl (q_assign (v := .one (bC false)) rfl) ?_
                refine ol_end ?_
                refine E_seq ?_
                refine L_ret ?_
                obtain rfl := Option.some.inj h
                exact E_endF (.inr rfl) (res_tmp rfl res_nil) (vw_cons (vd_one vc_v) vw_nil) (fun h hb => own_p) rfl rfl
            · replace h := ifF c12 h
              refine ol_put rfl rfl rfl (q_bin rfl rfl (p_eql_f _ _ _ _ _ c12) rfl) ?_
              refine ol_put rfl rfl rfl (q_move (v := .one (bC false)) rfl) ?_
              refine ol_skip rfl rfl rfl ?_
              refine ol_skip rfl rfl rfl ?_
              refine ol_skip rfl rfl rfl ?_
              refine ol_put rfl rfl rfl (q_pickF (v := .one (bC false)) rfl rfl) ?_
              refine ol_put rfl rfl rfl (q_pickF (v := .one (bC false)) rfl rfl) ?_
              refine ol_put rfl rfl rfl (q_assign (v := .one (bC false)) rfl) ?_
              refine ol_end ?_
              refine E_seq ?_
              refine L_ret ?_
              obtain rfl := Option.some.inj h
              exact E_endF (.inr rfl) (res_tmp rfl res_nil) (vw_cons (vd_one vc_v) vw_nil) (fun h hb => own_p) rfl rfl
      · replace h := ifF c6 h
        refine ol_put rfl rfl rfl (q_bin rfl rfl (p_eql_f _ _ _ _ _ c6) rfl) ?_
        refine ol_put rfl rfl rfl (q_move (v := .one (bC false)) rfl) ?_
        refine ol_skip rfl rfl rfl ?_
        refine ol_skip rfl rfl rfl ?_
        refine ol_skip rfl rfl rfl ?_
        refine ol_put rfl rfl rfl (q_pickF (v := .one (bC false)) rfl rfl) ?_
        refine ol_put rfl rfl rfl (q_pickF (v := .one (bC false)) rfl rfl) ?_
        refine ol_put rfl rfl rfl (q_move (v := .one (bC false)) rfl) ?_
        refine ol_put rfl rfl rfl (q_move (v := .one (iC .i64 n1)) rfl) ?_
        by_cases c14 : n1 = 3
        · replace h := ifT c14 h
          refine ol_put rfl rfl rfl (q_bin rfl rfl (p_eql_t _ _ _ _ _ c14) rfl) ?_
          refine ol_put rfl rfl rfl (q_move (v := .one (bC true)) rfl) ?_
          refine ol_put rfl rfl rfl (q_move (v := .one (iC .i64 n2)) rfl) ?_
          refine ol_put rfl rfl rfl (q_move (v := .one (iC .i64 n3)) rfl) ?_
          by_cases c15 : n2 = n3
          · replace h := ifT c15 h
            refine ol_put rfl rfl rfl (q_bin rfl rfl (p_eql_t _ _ _ _ _ c15) rfl) ?_
            refine ol_put rfl rfl rfl (q_pickT (v := .one (bC true)) rfl rfl) ?_
            refine ol_put rfl rfl rfl (q_pickF (v := .one (bC true)) rfl rfl) ?_
            refine ol_put rfl rfl rfl (q_move (v := .one (bC true)) rfl) ?_
            refine ol_skip rfl rfl rfl ?_
            refine ol_skip rfl rfl rfl ?_
            refine ol_skip rfl rfl rfl ?_
            refine ol_skip rfl rfl rfl ?_
            refine ol_skip rfl rfl rfl ?_
            refine ol_skip rfl rfl rfl ?_
            refine ol_skip rfl rfl rfl ?_
            refine ol_put rfl rfl rfl (q_pickT (v := .one (bC true)) rfl rfl) ?_
            refine ol_put rfl rfl rfl (q_assign (v := .one (bC true)) rfl) ?_
            refine ol_end ?_
            refine E_seq ?_
            refine L_ret ?_
            obtain rfl := Option.some.inj h
            exact E_endF (.inr rfl) (res_tmp rfl res_nil) (vw_cons (vd_one vc_v) vw_nil) (fun h hb => own_p) rfl rfl
          · replace h := ifF c15 h
            refine ol_put rfl rfl rfl (q_bin rfl rfl (p_eql_f _ _ _ _ _ c15) rfl) ?_
            refine ol_put rfl rfl rfl (q_pickT (v := .one (bC false)) rfl rfl) ?_
            refine ol_put rfl rfl rfl (q_pickF (v := .one (bC false)) rfl rfl) ?_
            refine ol_put rfl rfl rfl (q_move (v := .one (bC false)) rfl) ?_
            refine ol_put rfl rfl rfl (q_move (v := .one (iC .i64 n1)) rfl) ?_
            by_cases c16 : n1 = 4
            · replace h := ifT c16 h
              refine ol_put rfl rfl rfl (q_bin rfl rfl (p_eql_t _ _ _ _ _ c16) rfl) ?_
              refine ol_put rfl rfl rfl (q_move (v := .one (bC true)) rfl) ?_
              refine ol_put rfl rfl rfl (q_move (v := .one (iC .i64 n2)) rfl) ?_
              refine ol_put rfl rfl rfl (q_move (v := .one (iC .i64 n3)) rfl) ?_
              by_cases c17 : n2 ≠ n3
              · replace h := ifT c17 h
                refine ol_put rfl rfl rfl (q_bin rfl rfl (p_neq_t _ _ _ _ _ c17) rfl) ?_
                refine ol_put rfl rfl rfl (q_pickT (v := .one (bC true)) rfl rfl) ?_
                refine ol_put rfl rfl rfl (q_pickF (v := .one (bC true)) rfl rfl) ?_
                refine ol_put rfl rfl rfl (q_assign (v := .one (bC true)) rfl) ?_
                refine ol_end ?_
                refine E_seq ?_
                refine L_ret ?_
                obtain rfl := Option.some.inj h
                exact E_endF (.inr rfl) (res_tmp rfl res_nil) (vw_cons (vd_one vc_v) vw_nil) (fun h hb => own_p) rfl rfl
              · replace h := ifF c17 h
                refine ol_put rfl rfl rfl (q_bin rfl rfl (p_neq_f _ _ _ _ _ c17) rfl) ?_
                refine ol_put rfl rfl rfl (q_pickT (v := .one (bC false)) rfl rfl) ?_
                refine ol_put rfl rfl rfl (q_pickF (v := .one (bC false)) rfl rfl) ?_
                refine ol_put rfl rfl rfl (q_assign (v := .one (bC false)) rfl) ?_
                refine ol_end ?_
                refine E_seq ?_
                refine L_ret ?_
                obtain rfl := Option.some.inj h
                exact E_endF (.inr rfl) (res_tmp rfl res_nil) (vw_cons (vd_one vc_v) vw_nil) (fun h hb => own_p) rfl rfl
            · replace h := ifF c16 h
              refine ol_put rfl rfl rfl (q_bin rfl rfl (p_eql_f _ _ _ _ _ c16) rfl) ?_
              refine ol_put rfl rfl rfl (q_move (v := .one (bC false)) rfl) ?_
              refine ol_skip rfl rfl rfl ?_
              refine ol_skip rfl rfl rfl ?_
              refine ol_skip rfl rfl rfl ?_
              refine ol_put rfl rfl rfl (q_pickF (v := .one (bC false)) rfl rfl) ?_
              refine ol_put rfl rfl rfl (q_pickF (v := .one (bC false)) rfl rfl) ?_
              refine ol_put rfl rfl rfl (q_assign (v := .one (bC false)) rfl) ?_
              refine ol_end ?_
              refine E_seq ?_
              refine L_ret ?_
              obtain rfl := Option.some.inj h
              exact E_endF (.inr rfl) (res_tmp rfl res_nil) (vw_cons (vd_one vc_v) vw_nil) (fun h hb => own_p) rfl rfl
        · replace h := ifF c14 h
          refine ol_put rfl rfl rfl (q_bin rfl rfl (p_eql_f _ _ _ _ _ c14) rfl) ?_
          refine ol_put rfl rfl rfl (q_move (v := .one (bC false)) rfl) ?_
          refine ol_skip rfl rfl rfl ?_
          refine ol_skip rfl rfl rfl ?_
          refine ol_skip rfl rfl rfl ?_
          refine ol_put rfl rfl rfl (q_pickF (v := .one (bC false)) rfl rfl) ?_
          refine ol_put rfl rfl rfl (q_pickF (v := .one (bC false)) rfl rfl) ?_
          refine ol_put rfl rfl rfl (q_move (v := .one (bC false)) rfl) ?_
          refine ol_put rfl rfl rfl (q_move (v := .one (iC .i64 n1)) rfl) ?_
          by_cases c18 : n1 = 4
          · replace h := ifT c18 h
            refine ol_put rfl rfl rfl (q_bin rfl rfl (p_eql_t _ _ _ _ _ c18) rfl) ?_
            refine ol_put rfl rfl rfl (q_move (v := .one (bC true)) rfl) ?_
            refine ol_put rfl rfl rfl (q_move (v := .one (iC .i64 n2)) rfl) ?_
            refine ol_put rfl rfl rfl (q_move (v := .one (iC .i64 n3)) rfl) ?_
            by_cases c19 : n2 ≠ n3
            · replace h := ifT c19 h
              refine ol_put rfl rfl rfl (q_bin rfl rfl (p_neq_t _ _ _ _ _ c19) rfl) ?_
              refine ol_put rfl rfl rfl (q_pickT (v := .one (bC true)) rfl rfl) ?_
              refine ol_put rfl rfl rfl (q_pickF (v := .one (bC true)) rfl rfl) ?_
              refine ol_put rfl rfl rfl (q_assign (v := .one (bC true)) rfl) ?_
              refine ol_end ?_
              refine E_seq ?_
              refine L_ret ?_
              obtain rfl := Option.some.inj h
              exact E_endF (.inr rfl) (res_tmp rfl res_nil) (vw_cons (vd_one vc_v) vw_nil) (fun h hb => own_p) rfl rfl
            · replace h := ifF c19 h
              refine ol_put rfl rfl rfl (q_bin rfl rfl (p_neq_f _ _ _ _ _ c19) rfl) ?_
              refine ol_put rfl rfl rfl (q_pickT (v := .one (bC false)) rfl rfl) ?_
              refine ol_put rfl rfl rfl (q_pickF (v := .one (bC false)) rfl rfl) ?_
              refine ol_put rfl rfl rfl (q_assign (v := .one (bC false)) rfl) ?_
              refine ol_end ?_
              refine E_seq ?_
              refine L_ret ?_
              obtain rfl := Option.some.inj h
              exact E_endF (.inr rfl) (res_tmp rfl res_nil) (vw_cons (vd_one vc_v) vw_nil) (fun h hb => own_p) rfl rfl
          · replace h := ifF c18 h
            refine ol_put rfl rfl rfl (q_bin rfl rfl (p_eql_f _ _ _ _ _ c18) rfl) ?_
            refine ol_put rfl rfl rfl (q_move (v := .one (bC false)) rfl) ?_
            refine ol_skip rfl rfl rfl ?_
            refine ol_skip rfl rfl rfl ?_
            refine ol_skip rfl rfl rfl ?_
            refine ol_put rfl rfl rfl (q_pickF (v := .one (bC false)) rfl rfl) ?_
            refine ol_put rfl rfl rfl (q_pickF (v := .one (bC false)) rfl rfl) ?_
            refine ol_put rfl rfl rfl (q_assign (v := .one (bC false)) rfl) ?_
            refine ol_end ?_
            refine E_seq ?_
            refine L_ret ?_
            obtain rfl := Option.some.inj h
            exact E_endF (.inr rfl) (res_tmp rfl res_nil) (vw_cons (vd_one vc_v) vw_nil) (fun h hb => own_p) rfl rfl
  · replace h := ifF c4 h
    refine ol_put rfl rfl rfl (q_bin rfl rfl (p_eql_f _ _ _ _ _ c4) rfl) ?_
    refine ol_put rfl rfl rfl (q_move (v := .one (bC false)) rfl) ?_
    refine ol_skip rfl rfl rfl ?_
    refine ol_skip rfl rfl rfl ?_
    refine ol_skip rfl rfl rfl ?_
    refine ol_put rfl rfl rfl (q_pickF (v := .one (bC false)) rfl rfl) ?_
    refine ol_put rfl rfl rfl (q_move (v := .one (bC false)) rfl) ?_
    refine ol_put rfl rfl rfl (q_move (v := .one (iC .i64 n1)) rfl) ?_
    by_cases c20 : n1 = 2
    · replace h := ifT c20 h
      refine ol_put rfl rfl rfl (q_bin rfl rfl (p_eql_t _ _ _ _ _ c20) rfl) ?_
      refine ol_put rfl rfl rfl (q_move (v := .one (bC true)) rfl) ?_
      refine ol_put rfl rfl rfl (q_move (v := .one (iC .i64 n2)) rfl) ?_
      refine ol_put rfl rfl rfl (q_move (v := .one (iC .i64 n3)) rfl) ?_
      by_cases c21 : n2 > n3
      · replace h := ifT c21 h
        refine ol_put rfl rfl rfl (q_bin rfl rfl (p_gtr_t _ _ _ _ _ c21) rfl) ?_
        refine ol_put rfl rfl rfl (q_pickT (v := .one (bC true)) rfl rfl) ?_
        refine ol_put rfl rfl rfl (q_pickF (v := .one (bC true)) rfl rfl) ?_
        refine ol_put rfl rfl rfl (q_move (v := .one (bC true)) rfl) ?_
        refine ol_skip rfl rfl rfl ?_
        refine ol_skip rfl rfl rfl ?_
        refine ol_skip rfl rfl rfl ?_
        refine ol_skip rfl rfl rfl ?_
        refine ol_skip rfl rfl rfl ?_
        refine ol_skip rfl rfl rfl ?_
        refine ol_skip rfl rfl rfl ?_
        refine ol_put rfl rfl rfl (q_pickT (v := .one (bC true)) rfl rfl) ?_
        refine ol_put rfl rfl rfl (q_move (v := .one (bC true)) rfl) ?_
        refine ol_skip rfl rfl rfl ?_
        refine ol_skip rfl rfl rfl ?_
        refine ol_skip rfl rfl rfl ?_
        refine ol_skip rfl rfl rfl ?_
        refine ol_skip rfl rfl rfl ?_
        refine ol_skip rfl rfl rfl ?_
        refine ol_skip rfl rfl rfl ?_
        refine ol_put rfl rfl rfl (q_pickT (v := .one (bC true)) rfl rfl) ?_
        refine ol_put rfl rfl rfl (q_assign (v := .one (bC true)) rfl) ?_
        refine ol_end ?_
        refine E_seq ?_
        refine L_ret ?_
        obtain rfl := Option.some.inj h
        exact E_endF (.inr rfl) (res_tmp rfl res_nil) (vw_cons (vd_one vc_v) vw_nil) (fun h hb => own_p) rfl rfl
      · replace h := ifF c21 h
        refine ol_put rfl rfl rfl (q_bin rfl rfl (p_gtr_f _ _ _ _ _ c21) rfl) ?_
        refine ol_put rfl rfl rfl (q_pickT (v := .one (bC false)) rfl rfl) ?_
        refine ol_put rfl rfl rfl (q_pickF (v := .one (bC false)) rfl rfl) ?_
        refine ol_put rfl rfl rfl (q_move (v := .one (bC false)) rfl) ?_
        refine ol_put rfl rfl rfl (q_move (v := .one (iC .i64 n1)) rfl) ?_
        by_cases c22 : n1 = 3
        · replace h := ifT c22 h
          refine ol_put rfl rfl rfl (q_bin rfl rfl (p_eql_t _ _ _ _ _ c22) rfl) ?_
          refine ol_put rfl rfl rfl (q_move (v := .one (bC true)) rfl) ?_
          refine ol_put rfl rfl rfl (q_move (v := .one (iC .i64 n2)) rfl) ?_
          refine ol_put rfl rfl rfl (q_move (v := .one (iC .i64 n3)) rfl) ?_
          by_cases c23 : n2 = n3
          · replace h := ifT c23 h
            refine ol_put rfl rfl rfl (q_bin rfl rfl (p_eql_t _ _ _ _ _ c23) rfl) ?_
            refine ol_put rfl rfl rfl (q_pickT (v := .one (bC true)) rfl rfl) ?_
            refine ol_put rfl rfl rfl (q_pickF (v := .one (bC true)) rfl rfl) ?_
            refine ol_put rfl rfl rfl (q_move (v := .one (bC true)) rfl) ?_
            refine ol_skip rfl rfl rfl ?_
            refine ol_skip rfl rfl rfl ?_
            refine ol_skip rfl rfl rfl ?_
            refine ol_skip rfl rfl rfl ?_
            refine ol_skip rfl rfl rfl ?_
            refine ol_skip rfl rfl rfl ?_
            refine ol_skip rfl rfl rfl ?_
            refine ol_put rfl rfl rfl (q_pickT (v := .one (bC true)) rfl rfl) ?_
            refine ol_put rfl rfl rfl (q_assign (v := .one (bC true)) rfl) ?_
            refine ol_end ?_
            refine E_seq ?_
            refine L_ret ?_
            obtain rfl := Option.some.inj h
            exact E_endF (.inr rfl) (res_tmp rfl res_nil) (vw_cons (vd_one vc_v) vw_nil) (fun h hb => own_p) rfl rfl
          · replace h := ifF c23 h
            refine ol_put rfl rfl rfl (q_bin rfl rfl (p_eql_f _ _ _ _ _ c23) rfl) ?_
            refine ol_put rfl rfl rfl (q_pickT (v := .one (bC false)) rfl rfl) ?_
            refine ol_put rfl rfl rfl (q_pickF (v := .one (bC false)) rfl rfl) ?_
            refine ol_put rfl rfl rfl (q_move (v := .one (bC false)) rfl) ?_
            refine ol_put rfl rfl rfl (q_move (v := .one (iC .i64 n1)) rfl) ?_
            by_cases c24 : n1 = 4
            · replace h := ifT c24 h
              refine ol_put rfl rfl rfl (q_bin rfl rfl (p_eql_t _ _ _ _ _ c24) rfl) ?_
              refine ol_put rfl rfl rfl (q_move (v := .one (bC true)) rfl) ?_
              refine ol_put rfl rfl rfl (q_move (v := .one (iC .i64 n2)) rfl) ?_
              refine ol_put rfl rfl rfl (q_move (v := .one (iC .i64 n3)) rfl) ?_
              by_cases c25 : n2 ≠ n3
              · replace h := ifT c25 h
                refine ol_put rfl rfl rfl (q_bin rfl rfl (p_neq_t _ _ _ _ _ c25) rfl) ?_
                refine ol_put rfl rfl rfl (q_pickT (v := .one (bC true)) rfl rfl) ?_
                refine ol_put rfl rfl rfl (q_pickF (v := .one (bC true)) rfl rfl) ?_
                refine ol_put rfl rfl rfl (q_assign (v := .one (bC true)) rfl) ?_
                refine ol_end ?_
                refine E_seq ?_
                refine L_ret ?_
                obtain rfl := Option.some.inj h
                exact E_endF (.inr rfl) (res_tmp rfl res_nil) (vw_cons (vd_one vc_v) vw_nil) (fun h hb => own_p) rfl rfl
              · replace h := ifF c25 h
                refine ol_put rfl rfl rfl (q_bin rfl rfl (p_neq_f _ _ _ _ _ c25) rfl) ?_
                refine ol_put rfl rfl rfl (q_pickT (v := .one (bC false)) rfl rfl) ?_
                refine ol_put rfl rfl rfl (q_pickF (v := .one (bC false)) rfl rfl) ?_
                refine ol_put rfl rfl rfl (q_assign (v := .one (bC false)) rfl) ?_
                refine ol_end ?_
                refine E_seq ?_
                refine L_ret ?_
                obtain rfl := Option.some.inj h
                exact E_endF (.inr rfl) (res_tmp rfl res_nil) (vw_cons (vd_one vc_v) vw_nil) (fun h hb => own_p) rfl rfl
            · replace h := ifF c24 h
              refine ol_put rfl rfl rfl (q_bin rfl rfl (p_eql_f _ _ _ _ _ c24) rfl) ?_
              refine ol_put rfl rfl rfl (q_move (v := .one (bC false)) rfl) ?_
              refine ol_skip rfl rfl rfl ?_
              refine ol_skip rfl rfl rfl ?_
              refine ol_skip rfl rfl rfl ?_
              refine ol_put rfl rfl rfl (q_pickF (v := .one (bC false)) rfl rfl) ?_
              refine ol_put rfl rfl rfl (q_pickF (v := .one (bC false)) rfl rfl) ?_
              refine ol_put rfl rfl rfl (q_assign (v := .one (bC false)) rfl) ?_
              refine ol_end ?_
              refine E_seq ?_
              refine L_ret ?_
              obtain rfl := Option.some.inj h
              exact E_endF (.inr rfl) (res_tmp rfl res_nil) (vw_cons (vd_one vc_v) vw_nil) (fun h hb => own_p) rfl rfl
        · replace h := ifF c22 h
          refine ol_put rfl rfl rfl (q_bin rfl rfl (p_eql_f _ _ _ _ _ c22) rfl) ?_
          refine ol_put rfl rfl rfl (q_move (v := .one (bC false)) rfl) ?_
          refine ol_skip rfl rfl rfl ?_
          refine ol_skip rfl rfl rfl ?_
          refine ol_skip rfl rfl rfl ?_
          refine ol_put rfl rfl rfl (q_pickF (v := .one (bC false)) rfl rfl) ?_
          refine ol_put rfl rfl rfl (q_pickF (v := .one (bC false)) rfl rfl) ?_
          refine ol_put rfl rfl rfl (q_move (v := .one (bC false)) rfl) ?_
          refine ol_put rfl rfl rfl (q_move (v := .one (iC .i64 n1)) rfl) ?_
          by_cases c26 : n1 = 4
          · replace h := ifT c26 h
            refine ol_put rfl rfl rfl (q_bin rfl rfl (p_eql_t _ _ _ _ _ c26) rfl) ?_
            refine ol_put rfl rfl rfl (q_move (v := .one (bC true)) rfl) ?_
            refine ol_put rfl rfl rfl (q_move (v := .one (iC .i64 n2)) rfl) ?_
            refine ol_put rfl rfl rfl (q_move (v := .one (iC .i64 n3)) rfl) ?_
            by_cases c27 : n2 ≠ n3
            · replace h := ifT c27 h
              refine ol_put rfl rfl rfl (q_bin rfl rfl (p_neq_t _ _ _ _ _ c27) rfl) ?_
              refine ol_put rfl rfl rfl (q_pickT (v := .one (bC true)) rfl rfl) ?_
              refine ol_put rfl rfl rfl (q_pickF (v := .one (bC true)) rfl rfl) ?_
              refine ol_put rfl rfl rfl (q_assign (v := .one (bC true)) rfl) ?_
              refine ol_end ?_
              refine E_seq ?_
              refine L_ret ?_
              obtain rfl := Option.some.inj h
              exact E_endF (.inr rfl) (res_tmp rfl res_nil) (vw_cons (vd_one vc_v) vw_nil) (fun h hb => own_p) rfl rfl
            · replace h := ifF c27 h
              refine ol_put rfl rfl rfl (q_bin rfl rfl (p_neq_f _ _ _ _ _ c27) rfl) ?_
              refine ol_put rfl rfl rfl (q_pickT (v := .one (bC false)) rfl rfl) ?_
              refine ol_put rfl rfl rfl (q_pickF (v := .one (bC false)) rfl rfl) ?_
              refine ol_put rfl rfl rfl (q_assign (v := .one (bC false)) rfl) ?_
              refine ol_end ?_
              refine E_seq ?_
              refine L_ret ?_
              obtain rfl := Option.some.inj h
              exact E_endF (.inr rfl) (res_tmp rfl res_nil) (vw_cons (vd_one vc_v) vw_nil) (fun h hb => own_p) rfl rfl
          · replace h := ifF c26 h
            refine ol_put rfl rfl rfl (q_bin rfl rfl (p_eql_f _ _ _ _ _ c26) rfl) ?_
            refine ol_put rfl rfl rfl (q_move (v := .one (bC false)) rfl) ?_
            refine ol_skip rfl rfl rfl ?_
            refine ol_skip rfl rfl rfl ?_
            refine ol_skip rfl rfl rfl ?_
            refine ol_put rfl rfl rfl (q_pickF (v := .one (bC false)) rfl rfl) ?_
            refine ol_put rfl rfl rfl (q_pickF (v := .one (bC false)) rfl rfl) ?_
            refine ol_put rfl rfl rfl (q_assign (v := .one (bC false)) rfl) ?_
            refine ol_end ?_
            refine E_seq ?_
            refine L_ret ?_
            obtain rfl := Option.some.inj h
            exact E_endF (.inr rfl) (res_tmp rfl res_nil) (vw_cons (vd_one vc_v) vw_nil) (fun h hb => own_p) rfl rfl
    · replace h := ifF c20 h
      refine ol_put rfl rfl rfl (q_bin rfl rfl (p_eql_f _ _ _ _ _ c20) rfl) ?_
      refine ol_put rfl rfl rfl (q_move (v := .one (bC false)) rfl) ?_
      refine ol_skip rfl rfl rfl ?_
      refine ol_skip rfl rfl rfl ?_
      refine ol_skip rfl rfl rfl ?_
      refine ol_put rfl rfl rfl (q_pickF (v := .one (bC false)) rfl rfl) ?_
      refine ol_put rfl rfl rfl (q_pickF (v := .one (bC false)) rfl rfl) ?_
      refine ol_put rfl rfl rfl (q_move (v := .one (bC false)) rfl) ?_
      refine ol_put rfl rfl rfl (q_move (v := .one (iC .i64 n1)) rfl) ?_
      by_cases c28 : n1 = 3
      · replace h := ifT c28 h
        refine ol_put rfl rfl rfl (q_bin rfl rfl (p_eql_t _ _ _ _ _ c28) rfl) ?_
        refine ol_put rfl rfl rfl (q_move (v := .one (bC true)) rfl) ?_
        refine ol_put rfl rfl rfl (q_move (v := .one (iC .i64 n2)) rfl) ?_
        refine ol_put rfl rfl rfl (q_move (v := .one (iC .i64 n3)) rfl) ?_
        by_cases c29 : n2 = n3
        · replace h := ifT c29 h
          refine ol_put rfl rfl rfl (q_bin rfl rfl (p_eql_t _ _ _ _ _ c29) rfl) ?_
          refine ol_put rfl rfl rfl (q_pickT (v := .one (bC true)) rfl rfl) ?_
          refine ol_put rfl rfl rfl (q_pickF (v := .one (bC true)) rfl rfl) ?_
          refine ol_put rfl rfl rfl (q_move (v := .one (bC true)) rfl) ?_
          refine ol_skip rfl rfl rfl ?_
          refine ol_skip rfl rfl rfl ?_
          refine ol_skip rfl rfl rfl ?_
          refine ol_skip rfl rfl rfl ?_
          refine ol_skip rfl rfl rfl ?_
          refine ol_skip rfl rfl rfl ?_
          refine ol_skip rfl rfl rfl ?_
          refine ol_put rfl rfl rfl (q_pickT (v := .one (bC true)) rfl rfl) ?_
          refine ol_put rfl rfl rfl (q_assign (v := .one (bC true)) rfl) ?_
          refine ol_end ?_
          refine E_seq ?_
          refine L_ret ?_
          obtain rfl := Option.some.inj h
          exact E_endF (.inr rfl) (res_tmp rfl res_nil) (vw_cons (vd_one vc_v) vw_nil) (fun h hb => own_p) rfl rfl
        · replace h := ifF c29 h
          refine ol_put rfl rfl rfl (q_bin rfl rfl (p_eql_f _ _ _ _ _ c29) rfl) ?_
          refine ol_put rfl rfl rfl (q_pickT (v := .one (bC false)) rfl rfl) ?_
          refine ol_put rfl rfl rfl (q_pickF (v := .one (bC false)) rfl rfl) ?_
          refine ol_put rfl rfl rfl (q_move (v := .one (bC false)) rfl) ?_
          refine ol_put rfl rfl rfl (q_move (v := .one (iC .i64 n1)) rfl) ?_
          by_cases c30 : n1 = 4
          · replace h := ifT c30 h
            refine ol_put rfl rfl rfl (q_bin rfl rfl (p_eql_t _ _ _ _ _ c30) rfl) ?_
            refine ol_put rfl rfl rfl (q_move (v := .one (bC true)) rfl) ?_
            refine ol_put rfl rfl rfl (q_move (v := .one (iC .i64 n2)) rfl) ?_
            refine ol_put rfl rfl rfl (q_move (v := .one (iC .i64 n3)) rfl) ?_
            by_cases c31 : n2 ≠ n3
            · replace h := ifT c31 h
              refine ol_put rfl rfl rfl (q_bin rfl rfl (p_neq_t _ _ _ _ _ c31) rfl) ?_
              refine ol_put rfl rfl rfl (q_pickT (v := .one (bC true)) rfl rfl) ?_
              refine ol_put rfl rfl rfl (q_pickF (v := .one (bC true)) rfl rfl) ?_
              refine ol_put rfl rfl rfl (q_assign (v := .one (bC true)) rfl) ?_
              refine ol_end ?_
              refine E_seq ?_
              refine L_ret ?_
              obtain rfl := Option.some.inj h
              exact E_endF (.inr rfl) (res_tmp rfl res_nil) (vw_cons (vd_one vc_v) vw_nil) (fun h hb => own_p) rfl rfl
            · replace h := ifF c31 h
              refine ol_put rfl rfl rfl (q_bin rfl rfl (p_neq_f _ _ _ _ _ c31) rfl) ?_
              refine ol_put rfl rfl rfl (q_pickT (v := .one (bC false)) rfl rfl) ?_
              refine ol_put rfl rfl rfl (q_pickF (v := .one (bC false)) rfl rfl) ?_
              refine ol_put rfl rfl rfl (q_assign (v := .one (bC false)) rfl) ?_
              refine ol_end ?_
              refine E_seq ?_
              refine L_ret ?_
              obtain rfl := Option.some.inj h
              exact E_endF (.inr rfl) (res_tmp rfl res_nil) (vw_cons (vd_one vc_v) vw_nil) (fun h hb => own_p) rfl rfl
          · replace h := ifF c30 h
            refine ol_put rfl rfl rfl (q_bin rfl rfl (p_eql_f _ _ _ _ _ c30) rfl) ?_
            refine ol_put rfl rfl rfl (q_move (v := .one (bC false)) rfl) ?_
            refine ol_skip rfl rfl rfl ?_
            refine ol_skip rfl rfl rfl ?_
            refine ol_skip rfl rfl rfl ?_
            refine ol_put rfl rfl rfl (q_pickF (v := .one (bC false)) rfl rfl) ?_
            refine ol_put rfl rfl rfl (q_pickF (v := .one (bC false)) rfl rfl) ?_
            refine ol_put rfl rfl rfl (q_assign (v := .one (bC false)) rfl) ?_
            refine ol_end ?_
            refine E_seq ?_
            refine L_ret ?_
            obtain rfl := Option.some.inj h
            exact E_endF (.inr rfl) (res_tmp rfl res_nil) (vw_cons (vd_one vc_v) vw_nil) (fun h hb => own_p) rfl rfl
      · replace h := ifF c28 h
        refine ol_put rfl rfl rfl (q_bin rfl rfl (p_eql_f _ _ _ _ _ c28) rfl) ?_
        refine ol_put rfl rfl rfl (q_move (v := .one (bC false)) rfl) ?_
        refine ol_skip rfl rfl rfl ?_
        refine ol_skip rfl rfl rfl ?_
        refine ol_skip rfl rfl rfl ?_
        refine ol_put rfl rfl rfl (q_pickF (v := .one (bC false)) rfl rfl) ?_
        refine ol_put rfl rfl rfl (q_pickF (v := .one (bC false)) rfl rfl) ?_
        refine ol_put rfl rfl rfl (q_move (v := .one (bC false)) rfl) ?_
        refine ol_put rfl rfl rfl (q_move (v := .one (iC .i64 n1)) rfl) ?_
        by_cases c32 : n1 = 4
        · replace h := ifT c32 h
          refine ol_put rfl rfl rfl (q_bin rfl rfl (p_eql_t _ _ _ _ _ c32) rfl) ?_
          refine ol_put rfl rfl rfl (q_move (v := .one (bC true)) rfl) ?_
          refine ol_put rfl rfl rfl (q_move (v := .one (iC .i64 n2)) rfl) ?_
          refine ol_put rfl rfl rfl (q_move (v := .one (iC .i64 n3)) rfl) ?_
          by_cases c33 : n2 ≠ n3
          · replace h := ifT c33 h
            refine ol_put rfl rfl rfl (q_bin rfl rfl (p_neq_t _ _ _ _ _ c33) rfl) ?_
            refine ol_put rfl rfl rfl (q_pickT (v := .one (bC true)) rfl rfl) ?_
            refine ol_put rfl rfl rfl (q_pickF (v := .one (bC true)) rfl rfl) ?_
            refine ol_put rfl rfl rfl (q_assign (v := .one (bC true)) rfl) ?_
            refine ol_end ?_
            refine E_seq ?_
            refine L_ret ?_
            obtain rfl := Option.some.inj h
            exact E_endF (.inr rfl) (res_tmp rfl res_nil) (vw_cons (vd_one vc_v) vw_nil) (fun h hb => own_p) rfl rfl
          · replace h := ifF c33 h
            refine ol_put rfl rfl rfl (q_bin rfl rfl (p_neq_f _ _ _ _ _ c33) rfl) ?_
            refine ol_put rfl rfl rfl (q_pickT (v := .one (bC false)) rfl rfl) ?_
            refine ol_put rfl rfl rfl (q_pickF (v := .one (bC false)) rfl rfl) ?_
            refine ol_put rfl rfl rfl (q_assign (v := .one (bC false)) rfl) ?_
            refine ol_end ?_
            refine E_seq ?_
            refine L_ret ?_
            obtain rfl := Option.some.inj h
            exact E_endF (.inr rfl) (res_tmp rfl res_nil) (vw_cons (vd_one vc_v) vw_nil) (fun h hb => own_p) rfl rfl
        · replace h := ifF c32 h
          refine ol_put rfl rfl rfl (q_bin rfl rfl (p_eql_f _ _ _ _ _ c32) rfl) ?_
          refine ol_put rfl rfl rfl (q_move (v := .one (bC false)) rfl) ?_
          refine ol_skip rfl rfl rfl ?_
          refine ol_skip rfl rfl rfl ?_
          refine ol_skip rfl rfl rfl ?_
          refine ol_put rfl rfl rfl (q_pickF (v := .one (bC false)) rfl rfl) ?_
          refine ol_put rfl rfl rfl (q_pickF (v := .one (bC false)) rfl rfl) ?_
          refine ol_put rfl rfl rfl (q_assign (v := .one (bC false)) rfl) ?_
          refine ol_end ?_
          refine E_seq ?_
          refine L_ret ?_
          obtain rfl := Option.some.inj h
          exact E_endF (.inr rfl) (res_tmp rfl res_nil) (vw_cons (vd_one vc_v) vw_nil) (fun h hb => own_p) rfl rfl

noncomputable def fold_Where_b1 (n3 : Int) (n4 : Int) (s9 : Sl (Int × Int)) (a : Int × (List (Int × Int))) : Option ((Int × (List (Int × Int))) ⊕ ((List (Int × Int)) ⊕ (Int × (Sl (Int × Int))))) :=
  match a with
  | (n52, l53) => (if n52 < ((s9.l.length : Nat) : Int) then ((atS 2 s9 n52).bind fun (n58, n59) => ((fold_Holds n3 n59 n4).bind fun b62 => (if b62 = true then ((app l53 ([(n58, n59)] : List (Int × Int))).bind fun _ => some (.inl ((IntKind.i64.wrap (n52 + 1)), (l53 ++ ([(n58, n59)] : List (Int × Int)))))) else some (.inl ((IntKind.i64.wrap (n52 + 1)), l53))))) else some (.inr (.inl l53)))
noncomputable def fold_Where (a0 : Int × (Sl (Int × Int))) (n3 : Int) (n4 : Int) : Option ((Int × (Sl (Int × Int)))) :=
  match a0 with
  | (n1, s2) => ((fold_sure (n1, s2)).bind fun (n8, s9) => ((loopO (fold_Where_b1 n3 n4 s9) (0, ([] : List (Int × Int)))).bind (Sum.elim (fun l66 => some (n8, (mo 2 l66))) (fun u => some u))))
theorem fold_Where_r (m : Nat) {a0 : Int × (Sl (Int × Int))} {n3 : Int} {n4 : Int} {out : (Int × (Sl (Int × Int)))} (h : fold_Where a0 n3 n4 = some out) : RunsP E1 (m + 4) 19 [.agg (r24 a0), .one (iT .i64 n3), .one (iT .i64 n4)] (.fresh, [.agg (r24 out)]) := by
  obtain ⟨n1, s2⟩ := a0
  refine fn_F rfl (by rw [E1_fn]; exact show fiOf Try.prog 19 = _ by unfold fiOf; rw [Try.func19]; unfold Try.f19; rfl) rfl ?_
  dsimp only
  unfold fold_Where at h
  refine L_seq ?_
  refine L_ops ?_
  refine ol_new rfl rfl rfl (q_box ty25 rfl (cs := [iC .i64 n1, .p false (Sl.t r33 s2)]) rfl rfl) (fun k5 => ?_)
  refine ol_new rfl rfl rfl (q_alloc ty25 (row := [iC .i64 0, .p true (Sl.t r33 (⟨false, 0, []⟩ : Sl (Int × Int)))]) rfl rfl) (fun k6 => ?_)
  refine ol_end ?_
  refine E_seq ?_
  refine L_seq ?_
  refine L_ops ?_
  refine ol_put rfl rfl rfl (q_loadP (v := .agg [iC .i64 n1, .p false (Sl.t r33 s2)]) 1 rfl sz25 rfl rfl rfl rfl) ?_
  obtain ⟨⟨n8, s9⟩, h7, h⟩ := bindS h
  refine ol_putX rfl rfl rfl (q_callX (v := fun fr10 => .agg [iC .i64 n8, .p fr10 (Sl.t r33 s9)]) (args := [.agg [iC .i64 n1, .p false (Sl.t r33 s2)]]) (fold_sure_r (m + 0) h7) rfl rfl (vw_cons (vd_agg (vc_cons vc_v (vc_cons vc_s vc_nil))) vw_nil) rfl rfl (fun fr => rfl)) (fun fr10 => ?_)
  refine ol_wr rfl rfl (q_store (es' := [[iC .i64 n8, .p fr10 (Sl.t r33 s9)]]) 1 rfl rfl rfl sz25 rfl rfl rfl rfl rfl) rfl ?_
  refine ol_end ?_
  refine E_seq ?_
  refine L_seq ?_
  refine L_ops ?_
  refine ol_put rfl rfl rfl (q_fieldP rfl fa25_0 rfl) ?_
  refine ol_put rfl rfl rfl (q_loadP (v := .one (iC .i64 n8)) 1 rfl sz3 rfl rfl rfl rfl) ?_
  refine ol_put rfl rfl rfl (q_build (cs := [iC .i64 n8, .p true (Sl.t r33 (⟨false, 0, []⟩ : Sl (Int × Int)))]) ty25 rfl pl25 rfl) ?_
  refine ol_new rfl rfl rfl (q_alloc ty25 (row := [iC .i64 0, .p true (Sl.t r33 (⟨false, 0, []⟩ : Sl (Int × Int)))]) rfl rfl) (fun k11 => ?_)
  refine ol_wr rfl rfl (q_store (es' := [[iC .i64 n8, .p true (Sl.t r33 (⟨false, 0, []⟩ : Sl (Int × Int)))]]) 0 rfl rfl rfl sz25 rfl rfl rfl rfl rfl) rfl ?_
  refine ol_end ?_
  refine E_seq ?_
  refine L_seq ?_
  refine L_seq ?_
  refine L_ops ?_
  refine ol_put rfl rfl rfl (q_fieldP rfl fa25_1 rfl) ?_
  refine ol_put rfl rfl rfl (q_loadP (v := .one (.p fr10 (Sl.t r33 s9))) 2 rfl sz23 rfl rfl rfl rfl) ?_
  refine ol_put rfl rfl rfl (q_lenS rfl ty23 rfl rfl rfl rfl) ?_
  refine ol_put rfl rfl rfl (q_move (v := .one (iC .i64 0)) rfl) ?_
  refine ol_end ?_
  refine E_seq ?_
  refine L_block ?_
  refine L_addM (α := Int × Int) r33 2 ?_
  let S1 : (Int × (List (Int × Int))) → Nat → (Nat → D) → Nat → D := fun a kt g => ups g [(1, .one (iC .i64 n3)), (2, .one (iC .i64 n4)), (6, .one (.ptr k6 0 0)), (7, .one (.ptr k11 0 0)), (16, .one (.p fr10 (Sl.t r33 s9))), (17, .one (iC .i64 ((s9.l.length : Nat) : Int))), (18, .one (iC .i64 a.1))]
  let SL1 : (Int × (List (Int × Int))) → Nat → BL := fun a kt => ([[(k6, 2, [[iC .i64 0, .p true (Sl.t r33 (⟨false, 0, []⟩ : Sl (Int × Int)))]])], [(k11, 2, [[iC .i64 n8, moC a.2 kt]])], moL r33 2 a.2 kt] : BL)
  let Sx1 : (List (Int × Int)) → Nat → (Nat → D) → Nat → D := fun a kt g => ups g [(6, .one (.ptr k6 0 0)), (7, .one (.ptr k11 0 0))]
  let SLx1 : (List (Int × Int)) → Nat → BL := fun a kt => ([[(k6, 2, [[iC .i64 0, .p true (Sl.t r33 (⟨false, 0, []⟩ : Sl (Int × Int)))]])], [(k11, 2, [[iC .i64 n8, moC a kt]])], moL r33 2 a kt] : BL)
  let G1 : (Int × (Sl (Int × Int))) → Ex → St → Prop := fun u => endQ E1 [.cell 6 25] (.fresh, [.agg (r24 u)])
  let J1 : ((List (Int × Int)) ⊕ (Int × (Sl (Int × Int)))) → Ex → St → Prop := JX 35 0 Sx1 SLx1 G1
  refine L_loopS (fold_Where_b1 n3 n4 s9) S1 SL1 J1 JX_n (0, ([] : List (Int × Int))) h 1050 (ups_self ⟨rfl, rfl, rfl, rfl, rfl, rfl, rfl, trivial⟩) [2, 1, 0] (by decide) rfl ?_ ?_
  · rintro ⟨n52, l53⟩ k54 g out h
    change fold_Where_b1 n3 n4 s9 (n52, l53) = some out at h
    unfold fold_Where_b1 at h
    refine L_seq ?_
    refine L_ops ?_
    by_cases c55 : n52 < ((s9.l.length : Nat) : Int)
    · replace h := ifT c55 h
      refine ol_put rfl rfl rfl (q_bin rfl rfl (p_lss_t _ _ _ _ _ c55) rfl) ?_
      refine ol_end ?_
      refine E_seq ?_
      refine L_seq ?_
      refine L_condT rfl ?_
      refine L_skip ?_
      refine E_seq ?_
      refine L_seq ?_
      refine L_block ?_
      refine L_seq ?_
      refine L_ops ?_
      obtain ⟨⟨n58, n59⟩, h57, h⟩ := bindS h
      obtain ⟨h57a, h57b, h57⟩ := atS_some h57
      refine ol_put rfl rfl rfl (q_ixS rfl rfl h57a h57 (el23.trans (congrArg some h57b.symm))) ?_
      refine ol_put rfl rfl rfl (q_loadI (v := .agg [iC .i64 n58, iC .i64 n59]) rfl sz34 (map_get h57) rfl rfl) ?_
      refine ol_new rfl rfl rfl (q_alloc ty34 (row := [iC .i64 0, iC .i64 0]) rfl rfl) (fun k60 => ?_)
      refine ol_wr rfl rfl (q_store (es' := [[iC .i64 n58, iC .i64 n59]]) 0 rfl rfl rfl sz34 rfl rfl rfl rfl rfl) rfl ?_
      refine ol_end ?_
      refine E_seq ?_
      refine L_seq ?_
      refine L_ops ?_
      refine ol_put rfl rfl rfl (q_move (v := .one (iC .i64 n3)) rfl) ?_
      refine ol_put rfl rfl rfl (q_fieldP rfl fa34_1 rfl) ?_
      refine ol_put rfl rfl rfl (q_loadP (v := .one (iC .i64 n59)) 0 rfl sz2 rfl rfl rfl rfl) ?_
      refine ol_put rfl rfl rfl (q_move (v := .one (iC .i64 n4)) rfl) ?_
      obtain ⟨b62, h61, h⟩ := bindS h
      refine ol_put rfl rfl rfl (q_callF (v := .one (bC b62)) (args := [.one (iC .i64 n3), .one (iC .i64 n59), .one (iC .i64 n4)]) (fold_Holds_r (m + 2) h61) rfl rfl (vw_cons (vd_one vc_v) (vw_cons (vd_one vc_v) (vw_cons (vd_one vc_v) vw_nil))) rfl rfl) ?_
      refine ol_end ?_
      refine E_seq ?_
      rcases b62 with _ | _
      · replace h := ifF (by decide) h
        refine L_condF rfl ?_
        refine L_skip ?_
        refine E_blkN ?_
        refine E_seq ?_
        refine L_ops ?_
        refine ol_put rfl rfl rfl (q_bin rfl rfl (p_add _ _ _ _ _ _ _) rfl) ?_
        refine ol_put rfl rfl rfl (q_move (v := .one (iC .i64 (IntKind.i64.wrap (n52 + 1)))) rfl) ?_
        refine ol_end ?_
        obtain rfl := Option.some.inj h
        exact E_next k54 (ups_self ⟨rfl, rfl, rfl, rfl, rfl, rfl, rfl, trivial⟩) [1, 2, 3] (by decide) rfl
      · replace h := ifT (by decide) h
        refine L_condT rfl ?_
        refine L_ops ?_
        refine ol_put rfl rfl rfl (q_fieldP rfl fa25_1 rfl) ?_
        refine ol_put rfl rfl rfl (q_loadP (v := .one (moC l53 k54)) 2 rfl sz23 rfl rfl rfl rfl) ?_
        refine ol_put rfl rfl rfl (q_loadP (v := .agg [iC .i64 n58, iC .i64 n59]) 0 rfl sz34 rfl rfl rfl rfl) ?_
        refine ol_new rfl rfl rfl (q_bslice (cs := [iC .i64 n58, iC .i64 n59]) (es := (([(n58, n59)] : List (Int × Int))).map (rowC r33)) ty23 rfl ty34 rfl rfl rfl rfl rfl) (fun k63 => ?_)
        obtain ⟨_, h64, h⟩ := bindS h
        obtain ⟨h64b, rfl⟩ := app_some h64
        refine ol_appM (r := r33) (l := l53) (ys := ([(n58, n59)] : List (Int × Int))) 4 rfl rfl rfl rfl rfl rfl (el_ownM (l := ([(n58, n59)] : List (Int × Int))) 0 rfl) rfl h64 (fun y => rfl) el23 ty23 rfl rfl rfl rfl rfl (fun k65 => ?_)
        refine ol_put rfl rfl rfl (q_fieldP rfl fa25_1 rfl) ?_
        refine ol_wr rfl rfl (q_store (es' := [[iC .i64 n8, moC (l53 ++ ([(n58, n59)] : List (Int × Int))) k65]]) 4 rfl rfl rfl sz23 rfl rfl rfl rfl rfl) rfl ?_
        refine ol_end ?_
        refine E_blkN ?_
        refine E_seq ?_
        refine L_ops ?_
        refine ol_put rfl rfl rfl (q_bin rfl rfl (p_add _ _ _ _ _ _ _) rfl) ?_
        refine ol_put rfl rfl rfl (q_move (v := .one (iC .i64 (IntKind.i64.wrap (n52 + 1)))) rfl) ?_
        refine ol_end ?_
        obtain rfl := Option.some.inj h
        exact E_next k65 (ups_self ⟨rfl, rfl, rfl, rfl, rfl, rfl, rfl, trivial⟩) [3, 4, 0] (by decide) rfl
    · replace h := ifF c55 h
      refine ol_put rfl rfl rfl (q_bin rfl rfl (p_lss_f _ _ _ _ _ c55) rfl) ?_
      refine ol_end ?_
      refine E_seq ?_
      refine L_seq ?_
      refine L_condF rfl ?_
      refine L_exit ?_
      refine E_seqX ?_
      obtain rfl := Option.some.inj h
      refine E_out ?_
      exact (E_exit k54 (ups_self ⟨rfl, rfl, trivial⟩) [0, 1, 2] (by decide) rfl)
  · rintro (l66 | u) h
    · refine J_x (fun k67 g => ?_)
      replace h := elimL h
      refine E_blkH ?_
      refine E_seq ?_
      refine L_seq ?_
      refine L_ops ?_
      refine ol_put rfl rfl rfl (q_loadP (v := .agg [iC .i64 n8, moC l66 k67]) 1 rfl sz25 rfl rfl rfl rfl) ?_
      refine ol_wr rfl rfl (q_store (es' := [[iC .i64 n8, moC l66 k67]]) 0 rfl rfl rfl sz25 rfl rfl rfl rfl rfl) rfl ?_
      refine ol_end ?_
      refine E_seq ?_
      refine L_ret ?_
      obtain rfl := Option.some.inj h
      exact E_endF (.inr rfl) (res_cell (d := .agg [iC .i64 n8, moC l66 k67]) 0 rfl sz25 rfl rfl rfl rfl res_nil) (vw_cons (vd_agg (vc_cons vc_v (vc_cons (vc_M (r := r33) 2 rfl (fun x h m => rfl)) vc_nil))) vw_nil) (fun h hb => own_agg) rfl rfl
    · obtain rfl := Option.some.inj (elimR h)
      exact J_up (fun s hs => hs)

noncomputable def ref12_Where_b1 (n3 : Int) (n4 : Int) (s9 : Sl (Int × Int)) (a : Int × (List (Int × Int))) : Option ((Int × (List (Int × Int))) ⊕ ((List (Int × Int)) ⊕ (Int × (Sl (Int × Int))))) :=
  match a with
  | (n75, l76) => (if n75 < ((s9.l.length : Nat) : Int) then ((atS 2 s9 n75).bind fun (n81, n82) => ((ref12_Holds n3 n82 n4).bind fun b84 => (if b84 = true then ((atS 2 s9 n75).bind fun (n93, n94) => ((app l76 ([(n93, n94)] : List (Int × Int))).bind fun _ => some (.inl ((IntKind.i64.wrap (n75 + 1)), (l76 ++ ([(n93, n94)] : List (Int × Int))))))) else some (.inl ((IntKind.i64.wrap (n75 + 1)), l76))))) else some (.inr (.inl l76)))
noncomputable def ref12_Where (a0 : Int × (Sl (Int × Int))) (n3 : Int) (n4 : Int) : Option ((Int × (Sl (Int × Int)))) :=
  match a0 with
  | (n1, s2) => ((ref09_Sure (n1, s2)).bind fun (n8, s9) => ((loopO (ref12_Where_b1 n3 n4 s9) (0, ([] : List (Int × Int)))).bind (Sum.elim (fun l96 => some (n8, (mo 2 l96))) (fun u => some u))))
theorem ref12_Where_r (m : Nat) {a0 : Int × (Sl (Int × Int))} {n3 : Int} {n4 : Int} {out : (Int × (Sl (Int × Int)))} (h : ref12_Where a0 n3 n4 = some out) : RunsP E1 (m + 3) 20 [.agg (r24 a0), .one (iT .i64 n3), .one (iT .i64 n4)] (.fresh, [.agg (r24 out)]) := by
  obtain ⟨n1, s2⟩ := a0
  refine fn_F rfl (by rw [E1_fn]; exact show fiOf Try.prog 20 = _ by unfold fiOf; rw [Try.func20]; unfold Try.f20; rfl) rfl ?_
  dsimp only
  unfold ref12_Where at h
  refine L_seq ?_
  refine L_ops ?_
  refine ol_new rfl rfl rfl (q_box ty25 rfl (cs := [iC .i64 n1, .p false (Sl.t r33 s2)]) rfl rfl) (fun k5 => ?_)
  refine ol_new rfl rfl rfl (q_alloc ty25 (row := [iC .i64 0, .p true (Sl.t r33 (⟨false, 0, []⟩ : Sl (Int × Int)))]) rfl rfl) (fun k6 => ?_)
  refine ol_end ?_
  refine E_seq ?_
  refine L_seq ?_
  refine L_ops ?_
  refine ol_put rfl rfl rfl (q_loadP (v := .agg [iC .i64 n1, .p false (Sl.t r33 s2)]) 1 rfl sz25 rfl rfl rfl rfl) ?_
  obtain ⟨⟨n8, s9⟩, h7, h⟩ := bindS h
  refine ol_putX rfl rfl rfl (q_callX (v := fun fr10 => .agg [iC .i64 n8, .p fr10 (Sl.t r33 s9)]) (args := [.agg [iC .i64 n1, .p false (Sl.t r33 s2)]]) (ref09_Sure_r (m + 0) h7) rfl rfl (vw_cons (vd_agg (vc_cons vc_v (vc_cons vc_s vc_nil))) vw_nil) rfl rfl (fun fr => rfl)) (fun fr10 => ?_)
  refine ol_wr rfl rfl (q_store (es' := [[iC .i64 n8, .p fr10 (Sl.t r33 s9)]]) 1 rfl rfl rfl sz25 rfl rfl rfl rfl rfl) rfl ?_
  refine ol_end ?_
  refine E_seq ?_
  refine L_seq ?_
  refine L_ops ?_
  refine ol_put rfl rfl rfl (q_fieldP rfl fa25_0 rfl) ?_
  refine ol_put rfl rfl rfl (q_loadP (v := .one (iC .i64 n8)) 1 rfl sz3 rfl rfl rfl rfl) ?_
  refine ol_put rfl rfl rfl (q_build (cs := [iC .i64 n8, .p true (Sl.t r33 (⟨false, 0, []⟩ : Sl (Int × Int)))]) ty25 rfl pl25 rfl) ?_
  refine ol_new rfl rfl rfl (q_alloc ty25 (row := [iC .i64 0, .p true (Sl.t r33 (⟨false, 0, []⟩ : Sl (Int × Int)))]) rfl rfl) (fun k11 => ?_)
  refine ol_wr rfl rfl (q_store (es' := [[iC .i64 n8, .p true (Sl.t r33 (⟨false, 0, []⟩ : Sl (Int × Int)))]]) 0 rfl rfl rfl sz25 rfl rfl rfl rfl rfl) rfl ?_
  refine ol_end ?_
  refine E_seq ?_
  refine L_seq ?_
  refine L_seq ?_
  refine L_ops ?_
  refine ol_put rfl rfl rfl (q_assign (v := .one (iC .i64 0)) rfl) ?_
  refine ol_end ?_
  refine E_seq ?_
  refine L_block ?_
  refine L_addM (α := Int × Int) r33 2 ?_
  let S1 : (Int × (List (Int × Int))) → Nat → (Nat → D) → Nat → D := fun a kt g => ups g [(1, .one (iC .i64 n3)), (2, .one (iC .i64 n4)), (3, .one (.ptr k5 0 0)), (6, .one (.ptr k6 0 0)), (7, .one (.ptr k11 0 0)), (8, .one (iC .i64 a.1))]
  let SL1 : (Int × (List (Int × Int))) → Nat → BL := fun a kt => ([[(k5, 2, [[iC .i64 n8, .p fr10 (Sl.t r33 s9)]])], [(k6, 2, [[iC .i64 0, .p true (Sl.t r33 (⟨false, 0, []⟩ : Sl (Int × Int)))]])], [(k11, 2, [[iC .i64 n8, moC a.2 kt]])], moL r33 2 a.2 kt] : BL)
  let Sx1 : (List (Int × Int)) → Nat → (Nat → D) → Nat → D := fun a kt g => ups g [(6, .one (.ptr k6 0 0)), (7, .one (.ptr k11 0 0))]
  let SLx1 : (List (Int × Int)) → Nat → BL := fun a kt => ([[(k6, 2, [[iC .i64 0, .p true (Sl.t r33 (⟨false, 0, []⟩ : Sl (Int × Int)))]])], [(k11, 2, [[iC .i64 n8, moC a kt]])], moL r33 2 a kt] : BL)
  let G1 : (Int × (Sl (Int × Int))) → Ex → St → Prop := fun u => endQ E1 [.cell 6 25] (.fresh, [.agg (r24 u)])
  let J1 : ((List (Int × Int)) ⊕ (Int × (Sl (Int × Int)))) → Ex → St → Prop := JX 41 0 Sx1 SLx1 G1
  refine L_loopS (ref12_Where_b1 n3 n4 s9) S1 SL1 J1 JX_n (0, ([] : List (Int × Int))) h 1073 (ups_self ⟨rfl, rfl, rfl, rfl, rfl, rfl, trivial⟩) [3, 2, 1, 0] (by decide) rfl ?_ ?_
  · rintro ⟨n75, l76⟩ k77 g out h
    change ref12_Where_b1 n3 n4 s9 (n75, l76) = some out at h
    unfold ref12_Where_b1 at h
    refine L_seq ?_
    refine L_seq ?_
    refine L_ops ?_
    refine ol_put rfl rfl rfl (q_move (v := .one (iC .i64 n75)) rfl) ?_
    refine ol_put rfl rfl rfl (q_fieldP rfl fa25_1 rfl) ?_
    refine ol_put rfl rfl rfl (q_loadP (v := .one (.p fr10 (Sl.t r33 s9))) 0 rfl sz23 rfl rfl rfl rfl) ?_
    refine ol_put rfl rfl rfl (q_lenS rfl ty23 rfl rfl rfl rfl) ?_
    by_cases c78 : n75 < ((s9.l.length : Nat) : Int)
    · replace h := ifT c78 h
      refine ol_put rfl rfl rfl (q_bin rfl rfl (p_lss_t _ _ _ _ _ c78) rfl) ?_
      refine ol_end ?_
      refine E_seq ?_
      refine L_condT rfl ?_
      refine L_skip ?_
      refine E_seq ?_
      refine L_seq ?_
      refine L_block ?_
      refine L_seq ?_
      refine L_ops ?_
      refine ol_put rfl rfl rfl (q_move (v := .one (iC .i64 n3)) rfl) ?_
      refine ol_put rfl rfl rfl (q_fieldP rfl fa25_1 rfl) ?_
      refine ol_put rfl rfl rfl (q_loadP (v := .one (.p fr10 (Sl.t r33 s9))) 0 rfl sz23 rfl rfl rfl rfl) ?_
      refine ol_put rfl rfl rfl (q_move (v := .one (iC .i64 n75)) rfl) ?_
      obtain ⟨⟨n81, n82⟩, h80, h⟩ := bindS h
      obtain ⟨h80a, h80b, h80⟩ := atS_some h80
      refine ol_put rfl rfl rfl (q_ixS rfl rfl h80a h80 (el23.trans (congrArg some h80b.symm))) ?_
      refine ol_put rfl rfl rfl (q_fieldI rfl fa34_1 rfl) ?_
      refine ol_put rfl rfl rfl (q_loadI (v := .one (iC .i64 n82)) rfl sz2 (map_get h80) rfl rfl) ?_
      refine ol_put rfl rfl rfl (q_move (v := .one (iC .i64 n4)) rfl) ?_
      obtain ⟨b84, h83, h⟩ := bindS h
      refine ol_put rfl rfl rfl (q_callF (v := .one (bC b84)) (args := [.one (iC .i64 n3), .one (iC .i64 n82), .one (iC .i64 n4)]) (ref12_Holds_r (m + 1) h83) rfl rfl (vw_cons (vd_one vc_v) (vw_cons (vd_one vc_v) (vw_cons (vd_one vc_v) vw_nil))) rfl rfl) ?_
      refine ol_end ?_
      refine E_seq ?_
      rcases b84 with _ | _
      · replace h := ifF (by decide) h
        refine L_condF rfl ?_
        refine L_skip ?_
        refine E_blkN ?_
        refine E_seq ?_
        refine L_ops ?_
        refine ol_put rfl rfl rfl (q_move (v := .one (iC .i64 n75)) rfl) ?_
        refine ol_put rfl rfl rfl (q_bin rfl rfl (p_add _ _ _ _ _ _ _) rfl) ?_
        refine ol_put rfl rfl rfl (q_assign (v := .one (iC .i64 (IntKind.i64.wrap (n75 + 1)))) rfl) ?_
        refine ol_end ?_
        obtain rfl := Option.some.inj h
        exact E_next k77 (ups_self ⟨rfl, rfl, rfl, rfl, rfl, rfl, trivial⟩) [0, 1, 2, 3] (by decide) rfl
      · replace h := ifT (by decide) h
        refine L_condT rfl ?_
        refine L_norm (L2 := ([[(k5, 2, [[iC .i64 n8, .p fr10 (Sl.t r33 s9)]])], [(k6, 2, [[iC .i64 0, .p true (Sl.t r33 (⟨false, 0, []⟩ : Sl (Int × Int)))]])], [(k11, 2, [[iC .i64 n8, moC l76 k77]])], moL r33 2 l76 k77] : BL)) [0, 1, 2, 3] (by decide) rfl ?_
        refine L_turn 11 rfl [[], [], [], [], [], [], [], [], moK l76 k77, [], [k11]] [(false, []), (false, []), (false, []), (false, []), (false, []), (false, []), (false, []), (true, []), (true, []), (false, []), (false, [])] [[2, 3, 4, 5, 6, 7], [2, 3, 4, 5, 6, 7], [0, 1, 4], [0, 1, 4], [0, 1, 2, 3], [0, 1], [0, 1], [0, 1], [], [], []] (by kernel_rfl) (by kernel_rfl) (by kernel_rfl) ?_ (fun bb85 hlt hnd => ?_)
        · intro bb85 hlt hnd
          have e_k5 : k5 < bb85 := key_lt hlt 0 rfl
          have e_k6 : k6 < bb85 := key_lt hlt 1 rfl
          have e_k11 : k11 < bb85 := key_lt hlt 2 rfl
          have e_k77 : l76 = [] ∨ k77 < bb85 := key_ltM (r := r33) (w := 2) hlt 3 rfl
          have f_k77 := moK_lt e_k77
          have d_k11_k5 : k11 ≠ k5 := key_ne hnd 2 0 rfl rfl rfl
          have d_k11_k6 : k11 ≠ k6 := key_ne hnd 2 1 rfl rfl rfl
          have d_k77_k5 : k5 ∉ moK l76 k77 := key_neM (r := r33) (w := 2) hnd 3 0 rfl rfl rfl
          have g_k77_k5 := moK_ne d_k77_k5
          have d_k77_k6 : k6 ∉ moK l76 k77 := key_neM (r := r33) (w := 2) hnd 3 1 rfl rfl rfl
          have g_k77_k6 := moK_ne d_k77_k6
          have d_k77_k11 : k11 ∉ moK l76 k77 := key_neM (r := r33) (w := 2) hnd 3 2 rfl rfl rfl
          have g_k77_k11 := moK_ne d_k77_k11
          exact ⟨(by first | (simp; done) | (simp; omega) | (simp; assumption) | (simp_all; done) | (simp_all; omega)), (by first | (simp; done) | (simp; omega) | (simp; assumption) | (simp_all; done) | (simp_all; omega))⟩
        have e_k5 : k5 < bb85 := key_lt hlt 0 rfl
        have e_k6 : k6 < bb85 := key_lt hlt 1 rfl
        have e_k11 : k11 < bb85 := key_lt hlt 2 rfl
        have e_k77 : l76 = [] ∨ k77 < bb85 := key_ltM (r := r33) (w := 2) hlt 3 rfl
        have f_k77 := moK_lt e_k77
        have d_k11_k5 : k11 ≠ k5 := key_ne hnd 2 0 rfl rfl rfl
        have d_k11_k6 : k11 ≠ k6 := key_ne hnd 2 1 rfl rfl rfl
        have d_k77_k5 : k5 ∉ moK l76 k77 := key_neM (r := r33) (w := 2) hnd 3 0 rfl rfl rfl
        have g_k77_k5 := moK_ne d_k77_k5
        have d_k77_k6 : k6 ∉ moK l76 k77 := key_neM (r := r33) (w := 2) hnd 3 1 rfl rfl rfl
        have g_k77_k6 := moK_ne d_k77_k6
        have d_k77_k11 : k11 ∉ moK l76 k77 := key_neM (r := r33) (w := 2) hnd 3 2 rfl rfl rfl
        have g_k77_k11 := moK_ne d_k77_k11
        clear hlt hnd
        refine tn_put rfl rfl rfl [] (by decide) rfl hmn rfl (q_fieldP rfl fa25_1 rfl) ?_
        refine tn_put rfl rfl rfl [2] (by decide) rfl (hmc (by first | (simp [turnsOf]; done) | (simp [turnsOf]; omega) | (simp [turnsOf]; assumption) | (simp_all [turnsOf]; done) | (simp_all [turnsOf]; omega)) hmn) rfl (q_loadP (v := .one (moC l76 k77)) 0 rfl sz23 rfl rfl rfl rfl) ?_
        refine tn_put rfl rfl rfl [] (by decide) rfl (hm0 rfl) rfl (q_fieldP rfl fa25_1 rfl) ?_
        refine tn_put rfl rfl rfl [0] (by decide) rfl (hm0 rfl) rfl (q_loadP (v := .one (.p fr10 (Sl.t r33 s9))) 0 rfl sz23 rfl rfl rfl rfl) ?_
        refine tn_put rfl rfl rfl [] (by decide) rfl (hm0 rfl) rfl (q_move (v := .one (iC .i64 n75)) rfl) ?_
        obtain ⟨⟨n93, n94⟩, h92, h⟩ := bindS h
        obtain ⟨h92a, h92b, h92⟩ := atS_some h92
        refine tn_put rfl rfl rfl [] (by decide) rfl (hm0 rfl) rfl (q_ixS rfl rfl h92a h92 (el23.trans (congrArg some h92b.symm))) ?_
        refine tn_put rfl rfl rfl [] (by decide) rfl (hm0 rfl) rfl (q_loadI (v := .agg [iC .i64 n93, iC .i64 n94]) rfl sz34 (map_get h92) rfl rfl) ?_
        refine tn_new rfl rfl rfl [] (by decide) rfl (hm0 rfl) rfl rfl (hkc (by omega) (hkc (by omega) (hkc (by omega) (hkM (e_k77.imp id fun h => by omega) hkn)))) (q_bslice (cs := [iC .i64 n93, iC .i64 n94]) (es := (([(n93, n94)] : List (Int × Int))).map (rowC r33)) ty23 rfl ty34 rfl rfl rfl rfl rfl) ?_
        obtain ⟨_, h95, h⟩ := bindS h
        obtain ⟨h95b, rfl⟩ := app_some h95
        refine tn_appM (r := r33) (l := l76) 0 4 rfl rfl rfl rfl [4, 0] (by decide) rfl (hm0 rfl) rfl rfl (hkc (by omega) (hkc (by omega) (hkc (by omega) (hkc (by omega) (hkM (e_k77.imp id fun h => by omega) hkn))))) rfl rfl (el_ownM (l := ([(n93, n94)] : List (Int × Int))) 1 rfl) rfl rfl h95 (fun y => rfl) el23 ty23 rfl rfl rfl rfl rfl ?_
        refine tn_put rfl rfl rfl [] (by decide) rfl (hm0 rfl) rfl (q_fieldP rfl fa25_1 rfl) ?_
        refine tn_wr rfl rfl [4] (by decide) rfl (hm0 rfl) rfl (q_store (es' := [[iC .i64 n8, moC (l76 ++ ([(n93, n94)] : List (Int × Int))) (bb85 + 8)]]) 0 rfl rfl rfl sz23 rfl rfl rfl rfl rfl) (q := 4) rfl rfl ?_
        refine tn_end ?_
        refine E_blkN ?_
        refine E_seq ?_
        refine L_ops ?_
        refine ol_put rfl rfl rfl (q_move (v := .one (iC .i64 n75)) rfl) ?_
        refine ol_put rfl rfl rfl (q_bin rfl rfl (p_add _ _ _ _ _ _ _) rfl) ?_
        refine ol_put rfl rfl rfl (q_assign (v := .one (iC .i64 (IntKind.i64.wrap (n75 + 1)))) rfl) ?_
        refine ol_end ?_
        obtain rfl := Option.some.inj h
        exact E_next (bb85 + 8) (ups_self ⟨rfl, rfl, rfl, rfl, rfl, rfl, trivial⟩) [2, 3, 4, 0] (by decide) rfl
    · replace h := ifF c78 h
      refine ol_put rfl rfl rfl (q_bin rfl rfl (p_lss_f _ _ _ _ _ c78) rfl) ?_
      refine ol_end ?_
      refine E_seq ?_
      refine L_condF rfl ?_
      refine L_exit ?_
      refine E_seqX ?_
      obtain rfl := Option.some.inj h
      refine E_out ?_
      exact (E_exit k77 (ups_self ⟨rfl, rfl, trivial⟩) [1, 2, 3] (by decide) rfl)
  · rintro (l96 | u) h
    · refine J_x (fun k97 g => ?_)
      replace h := elimL h
      refine E_blkH ?_
      refine E_seq ?_
      refine L_seq ?_
      refine L_ops ?_
      refine ol_put rfl rfl rfl (q_loadP (v := .agg [iC .i64 n8, moC l96 k97]) 1 rfl sz25 rfl rfl rfl rfl) ?_
      refine ol_wr rfl rfl (q_store (es' := [[iC .i64 n8, moC l96 k97]]) 0 rfl rfl rfl sz25 rfl rfl rfl rfl rfl) rfl ?_
      refine ol_end ?_
      refine E_seq ?_
      refine L_ret ?_
      obtain rfl := Option.some.inj h
      exact E_endF (.inr rfl) (res_cell (d := .agg [iC .i64 n8, moC l96 k97]) 0 rfl sz25 rfl rfl rfl rfl res_nil) (vw_cons (vd_agg (vc_cons vc_v (vc_cons (vc_M (r := r33) 2 rfl (fun x h m => rfl)) vc_nil))) vw_nil) (fun h hb => own_agg) rfl rfl
    · obtain rfl := Option.some.inj (elimR h)
      exact J_up (fun s hs => hs)

noncomputable def ref07_SameItems_b1 (s1 : Sl (Int × Int)) (s2 : Sl (Int × Int)) (n25 : Int) : Option (Int ⊕ (Unit ⊕ Bool)) :=
  (if n25 < ((s1.l.length : Nat) : Int) then ((atS 2 s1 n25).bind fun (n29, n30) => ((atS 2 s2 n25).bind fun (n33, n34) => (if n29 = n33 ∧ n30 = n34 then some (.inl (IntKind.i64.wrap (n25 + 1))) else some (.inr (.inr false))))) else some (.inr (.inl ())))
noncomputable def ref07_SameItems (s1 : Sl (Int × Int)) (s2 : Sl (Int × Int)) : Option (Bool) :=
  (if ((s1.l.length : Nat) : Int) ≠ ((s2.l.length : Nat) : Int) then some false else ((loopO (ref07_SameItems_b1 s1 s2) 0).bind (Sum.elim (fun _ => some true) (fun u => some u))))
theorem ref07_SameItems_r (m : Nat) {s1 : Sl (Int × Int)} {s2 : Sl (Int × Int)} {out : Bool} (h : ref07_SameItems s1 s2 = some out) : RunsP E1 (m + 1) 47 [.one (Sl.t r33 s1), .one (Sl.t r33 s2)] (.fresh, [.one (bT out)]) := by
  refine fn_F rfl (by rw [E1_fn]; exact show fiOf Try.prog 47 = _ by unfold fiOf; rw [Try.func47]; unfold Try.f47; rfl) rfl ?_
  dsimp only
  unfold ref07_SameItems at h
  refine L_seq ?_
  refine L_ops ?_
  refine ol_put rfl rfl rfl (q_assign (v := .one (bC false)) rfl) ?_
  refine ol_end ?_
  refine E_seq ?_
  refine L_seq ?_
  refine L_seq ?_
  refine L_ops ?_
  refine ol_put rfl rfl rfl (q_move (v := .one (.p false (Sl.t r33 s1))) rfl) ?_
  refine ol_put rfl rfl rfl (q_lenS rfl ty23 rfl rfl rfl rfl) ?_
  refine ol_put rfl rfl rfl (q_move (v := .one (.p false (Sl.t r33 s2))) rfl) ?_
  refine ol_put rfl rfl rfl (q_lenS rfl ty23 rfl rfl rfl rfl) ?_
  by_cases c3 : ((s1.l.length : Nat) : Int) ≠ ((s2.l.length : Nat) : Int)
  · replace h := ifT c3 h
    refine ol_put rfl rfl rfl (q_bin rfl rfl (p_neq_t _ _ _ _ _ c3) rfl) ?_
    refine ol_end ?_
    refine E_seq ?_
    refine L_condT rfl ?_
    refine L_seq ?_
    refine L_ops ?_
    refine ol_put rfl rfl rfl (q_assign (v := .one (bC false)) rfl) ?_
    refine ol_end ?_
    refine E_seq ?_
    refine L_ret ?_
    refine E_seqR ?_
    obtain rfl := Option.some.inj h
    exact E_endF (.inr rfl) (res_tmp rfl res_nil) (vw_cons (vd_one vc_v) vw_nil) (fun h hb => own_p) rfl rfl
  · replace h := ifF c3 h
    refine ol_put rfl rfl rfl (q_bin rfl rfl (p_neq_f _ _ _ _ _ c3) rfl) ?_
    refine ol_end ?_
    refine E_seq ?_
    refine L_condF rfl ?_
    refine L_skip ?_
    refine E_seq ?_
    refine L_seq ?_
    refine L_seq ?_
    refine L_ops ?_
    refine ol_put rfl rfl rfl (q_assign (v := .one (iC .i64 0)) rfl) ?_
    refine ol_end ?_
    refine E_seq ?_
    refine L_block ?_
    let S1 : Int → Unit → (Nat → D) → Nat → D := fun a kt g => ups g [(0, .one (.p false (Sl.t r33 s1))), (1, .one (.p false (Sl.t r33 s2))), (5, .one (iC .i64 a))]
    let SL1 : Int → Unit → BL := fun a kt => ([] : BL)
    let Sx1 : Unit → Unit → (Nat → D) → Nat → D := fun a kt g => ups g []
    let SLx1 : Unit → Unit → BL := fun a kt => ([] : BL)
    let G1 : Bool → Ex → St → Prop := fun u => endQ E1 [.tmp 4] (.fresh, [.one (bT u)])
    let J1 : (Unit ⊕ Bool) → Ex → St → Prop := JX 26 0 Sx1 SLx1 G1
    refine L_loopS (ref07_SameItems_b1 s1 s2) S1 SL1 J1 JX_n 0 h () (ups_self ⟨rfl, rfl, rfl, trivial⟩) [] (by decide) rfl ?_ ?_
    · rintro n25 _ g out h
      change ref07_SameItems_b1 s1 s2 n25 = some out at h
      unfold ref07_SameItems_b1 at h
      refine L_seq ?_
      refine L_seq ?_
      refine L_ops ?_
      refine ol_put rfl rfl rfl (q_move (v := .one (iC .i64 n25)) rfl) ?_
      refine ol_put rfl rfl rfl (q_move (v := .one (.p false (Sl.t r33 s1))) rfl) ?_
      refine ol_put rfl rfl rfl (q_lenS rfl ty23 rfl rfl rfl rfl) ?_
      by_cases c26 : n25 < ((s1.l.length : Nat) : Int)
      · replace h := ifT c26 h
        refine ol_put rfl rfl rfl (q_bin rfl rfl (p_lss_t _ _ _ _ _ c26) rfl) ?_
        refine ol_end ?_
        refine E_seq ?_
        refine L_condT rfl ?_
        refine L_skip ?_
        refine E_seq ?_
        refine L_seq ?_
        refine L_block ?_
        refine L_seq ?_
        refine L_still (by kernel_rfl) ?_
        refine st_put rfl rfl rfl (q_move (v := .one (.p false (Sl.t r33 s1))) rfl) ?_
        refine st_put rfl rfl rfl (q_move (v := .one (iC .i64 n25)) rfl) ?_
        obtain ⟨⟨n29, n30⟩, h28, h⟩ := bindS h
        obtain ⟨h28a, h28b, h28⟩ := atS_some h28
        refine st_put rfl rfl rfl (q_ixS rfl rfl h28a h28 (el23.trans (congrArg some h28b.symm))) ?_
        refine st_put rfl rfl rfl (q_loadI (v := .agg [iC .i64 n29, iC .i64 n30]) rfl sz34 (map_get h28) rfl rfl) ?_
        refine st_put rfl rfl rfl (q_move (v := .one (.p false (Sl.t r33 s2))) rfl) ?_
        refine st_put rfl rfl rfl (q_move (v := .one (iC .i64 n25)) rfl) ?_
        obtain ⟨⟨n33, n34⟩, h32, h⟩ := bindS h
        obtain ⟨h32a, h32b, h32⟩ := atS_some h32
        refine st_put rfl rfl rfl (q_ixS rfl rfl h32a h32 (el23.trans (congrArg some h32b.symm))) ?_
        refine st_put rfl rfl rfl (q_loadI (v := .agg [iC .i64 n33, iC .i64 n34]) rfl sz34 (map_get h32) rfl rfl) ?_
        by_cases c35 : n29 = n33 ∧ n30 = n34
        · replace h := ifT c35 h
          refine st_put rfl rfl rfl (q_binA rfl rfl (by rfl) (by rfl) (eqneqA34_t _ _ c35) rfl) ?_
          refine st_end ?_
          refine E_seq ?_
          refine L_condF rfl ?_
          refine L_skip ?_
          refine E_blkN ?_
          refine E_seq ?_
          refine L_ops ?_
          refine ol_put rfl rfl rfl (q_move (v := .one (iC .i64 n25)) rfl) ?_
          refine ol_put rfl rfl rfl (q_bin rfl rfl (p_add _ _ _ _ _ _ _) rfl) ?_
          refine ol_put rfl rfl rfl (q_assign (v := .one (iC .i64 (IntKind.i64.wrap (n25 + 1)))) rfl) ?_
          refine ol_end ?_
          obtain rfl := Option.some.inj h
          exact E_next () (ups_self ⟨rfl, rfl, rfl, trivial⟩) [] (by decide) rfl
        · replace h := ifF c35 h
          refine st_put rfl rfl rfl (q_binA rfl rfl (by rfl) (by rfl) (eqneqA34_f _ _ c35) rfl) ?_
          refine st_end ?_
          refine E_seq ?_
          refine L_condT rfl ?_
          refine L_seq ?_
          refine L_ops ?_
          refine ol_put rfl rfl rfl (q_assign (v := .one (bC false)) rfl) ?_
          refine ol_end ?_
          refine E_seq ?_
          refine L_ret ?_
          refine E_blkR ?_
          refine E_seqR ?_
          obtain rfl := Option.some.inj h
          exact E_out (E_up (E_endF (.inr rfl) (res_tmp rfl res_nil) (vw_cons (vd_one vc_v) vw_nil) (fun h hb => own_p) rfl rfl))
      · replace h := ifF c26 h
        refine ol_put rfl rfl rfl (q_bin rfl rfl (p_lss_f _ _ _ _ _ c26) rfl) ?_
        refine ol_end ?_
        refine E_seq ?_
        refine L_condF rfl ?_
        refine L_exit ?_
        refine E_seqX ?_
        obtain rfl := Option.some.inj h
        refine E_out ?_
        exact (E_exit () (ups_self trivial) [] (by decide) rfl)
    · rintro (_ | u) h
      · refine J_x (fun kt g => ?_)
        replace h := elimL h
        refine E_blkH ?_
        refine E_seq ?_
        refine L_seq ?_
        refine L_ops ?_
        refine ol_put rfl rfl rfl (q_assign (v := .one (bC true)) rfl) ?_
        refine ol_end ?_
        refine E_seq ?_
        refine L_ret ?_
        obtain rfl := Option.some.inj h
        exact E_endF (.inr rfl) (res_tmp rfl res_nil) (vw_cons (vd_one vc_v) vw_nil) (fun h hb => own_p) rfl rfl
      · obtain rfl := Option.some.inj (elimR h)
        exact J_up (fun s hs => hs)

noncomputable def ref09_Same (a0 : Int × (Sl (Int × Int))) (a1 : Int × (Sl (Int × Int))) : Option (Bool) :=
  match a0, a1 with
  | (n1, s2), (n3, s4) => (if n1 = n3 then ((ref07_SameItems s2 s4).bind fun b9 => some b9) else some false)
theorem ref09_Same_r (m : Nat) {a0 : Int × (Sl (Int × Int))} {a1 : Int × (Sl (Int × Int))} {out : Bool} (h : ref09_Same a0 a1 = some out) : RunsP E1 (m + 2) 18 [.agg (r24 a0), .agg (r24 a1)] (.fresh, [.one (bT out)]) := by
  obtain ⟨n1, s2⟩ := a0
  obtain ⟨n3, s4⟩ := a1
  refine fn_F rfl (by rw [E1_fn]; exact show fiOf Try.prog 18 = _ by unfold fiOf; rw [Try.func18]; unfold Try.f18; rfl) rfl ?_
  dsimp only
  unfold ref09_Same at h
  refine L_seq ?_
  refine L_ops ?_
  refine ol_new rfl rfl rfl (q_box ty25 rfl (cs := [iC .i64 n1, .p false (Sl.t r33 s2)]) rfl rfl) (fun k5 => ?_)
  refine ol_new rfl rfl rfl (q_box ty25 rfl (cs := [iC .i64 n3, .p false (Sl.t r33 s4)]) rfl rfl) (fun k6 => ?_)
  refine ol_put rfl rfl rfl (q_assign (v := .one (bC false)) rfl) ?_
  refine ol_end ?_
  refine E_seq ?_
  refine L_seq ?_
  refine L_ops ?_
  refine ol_put rfl rfl rfl (q_fieldP rfl fa25_0 rfl) ?_
  refine ol_put rfl rfl rfl (q_loadP (v := .one (iC .i64 n1)) 1 rfl sz3 rfl rfl rfl rfl) ?_
  refine ol_put rfl rfl rfl (q_fieldP rfl fa25_0 rfl) ?_
  refine ol_put rfl rfl rfl (q_loadP (v := .one (iC .i64 n3)) 0 rfl sz3 rfl rfl rfl rfl) ?_
  by_cases c7 : n1 = n3
  · replace h := ifT c7 h
    refine ol_put rfl rfl rfl (q_bin rfl rfl (p_eql_t _ _ _ _ _ c7) rfl) ?_
    refine ol_put rfl rfl rfl (q_move (v := .one (bC true)) rfl) ?_
    refine ol_put rfl rfl rfl (q_fieldP rfl fa25_1 rfl) ?_
    refine ol_put rfl rfl rfl (q_loadP (v := .one (.p false (Sl.t r33 s2))) 1 rfl sz23 rfl rfl rfl rfl) ?_
    refine ol_put rfl rfl rfl (q_fieldP rfl fa25_1 rfl) ?_
    refine ol_put rfl rfl rfl (q_loadP (v := .one (.p false (Sl.t r33 s4))) 0 rfl sz23 rfl rfl rfl rfl) ?_
    obtain ⟨b9, h8, h⟩ := bindS h
    refine ol_put rfl rfl rfl (q_callF (v := .one (bC b9)) (args := [.one (.p false (Sl.t r33 s2)), .one (.p false (Sl.t r33 s4))]) (ref07_SameItems_r (m + 0) h8) rfl rfl (vw_cons (vd_one vc_s) (vw_cons (vd_one vc_s) vw_nil)) rfl rfl) ?_
    refine ol_put rfl rfl rfl (q_pickT (v := .one (bC b9)) rfl rfl) ?_
    refine ol_put rfl rfl rfl (q_assign (v := .one (bC b9)) rfl) ?_
    refine ol_end ?_
    refine E_seq ?_
    refine L_ret ?_
    obtain rfl := Option.some.inj h
    exact E_endF (.inr rfl) (res_tmp rfl res_nil) (vw_cons (vd_one vc_v) vw_nil) (fun h hb => own_p) rfl rfl
  · replace h := ifF c7 h
    refine ol_put rfl rfl rfl (q_bin rfl rfl (p_eql_f _ _ _ _ _ c7) rfl) ?_
    refine ol_put rfl rfl rfl (q_move (v := .one (bC false)) rfl) ?_
    refine ol_skip rfl rfl rfl ?_
    refine ol_skip rfl rfl rfl ?_
    refine ol_skip rfl rfl rfl ?_
    refine ol_skip rfl rfl rfl ?_
    refine ol_skip rfl rfl rfl ?_
    refine ol_put rfl rfl rfl (q_pickF (v := .one (bC false)) rfl rfl) ?_
    refine ol_put rfl rfl rfl (q_assign (v := .one (bC false)) rfl) ?_
    refine ol_end ?_
    refine E_seq ?_
    refine L_ret ?_
    obtain rfl := Option.some.inj h
    exact E_endF (.inr rfl) (res_tmp rfl res_nil) (vw_cons (vd_one vc_v) vw_nil) (fun h hb => own_p) rfl rfl

noncomputable def fold_outside_b1 (s1 : Sl (Int)) (n2 : Int) (n16 : Int) : Option (Int ⊕ (Bool ⊕ Bool)) :=
  (if n16 < ((s1.l.length : Nat) : Int) then ((atS 1 s1 n16).bind fun n20 => (if n20 < 0 then some (.inr (.inl true)) else (if n20 ≥ n2 then some (.inr (.inl true)) else some (.inl (IntKind.i64.wrap (n16 + 1)))))) else some (.inr (.inl false)))
noncomputable def fold_outside (s1 : Sl (Int)) (n2 : Int) : Option (Bool) :=
  ((loopO (fold_outside_b1 s1 n2) 0).bind (Sum.elim (fun b23 => some b23) (fun u => some u)))
theorem fold_outside_r (m : Nat) {s1 : Sl (Int)} {n2 : Int} {out : Bool} (h : fold_outside s1 n2 = some out) : RunsP E1 (m + 1) 48 [.one (Sl.t r3 s1), .one (iT .i64 n2)] (.fresh, [.one (bT out)]) := by
  refine fn_F rfl (by rw [E1_fn]; exact show fiOf Try.prog 48 = _ by unfold fiOf; rw [Try.func48]; unfold Try.f48; rfl) rfl ?_
  dsimp only
  unfold fold_outside at h
  refine L_seq ?_
  refine L_ops ?_
  refine ol_put rfl rfl rfl (q_assign (v := .one (bC false)) rfl) ?_
  refine ol_end ?_
  refine E_seq ?_
  refine L_scope ?_
  refine L_seq ?_
  refine L_ops ?_
  refine ol_put rfl rfl rfl (q_assign (v := .one (bC false)) rfl) ?_
  refine ol_end ?_
  refine E_seq ?_
  refine L_seq ?_
  refine L_label ?_
  refine E_seq ?_
  refine L_seq ?_
  refine L_seq ?_
  refine L_ops ?_
  refine ol_put rfl rfl rfl (q_move (v := .one (.p false (Sl.t r3 s1))) rfl) ?_
  refine ol_put rfl rfl rfl (q_lenS rfl ty42 rfl rfl rfl rfl) ?_
  refine ol_put rfl rfl rfl (q_move (v := .one (iC .i64 0)) rfl) ?_
  refine ol_end ?_
  refine E_seq ?_
  refine L_block ?_
  let S1 : Int → Unit → (Nat → D) → Nat → D := fun a kt g => ups g [(1, .one (iC .i64 n2)), (5, .one (bC false)), (8, .one (.p false (Sl.t r3 s1))), (9, .one (iC .i64 ((s1.l.length : Nat) : Int))), (10, .one (iC .i64 a))]
  let SL1 : Int → Unit → BL := fun a kt => ([] : BL)
  let Sx1 : Bool → Unit → (Nat → D) → Nat → D := fun a kt g => ups g [(5, .one (bC a))]
  let SLx1 : Bool → Unit → BL := fun a kt => ([] : BL)
  let G1 : Bool → Ex → St → Prop := fun u => endQ E1 [.tmp 4] (.fresh, [.one (bT u)])
  let J1 : (Bool ⊕ Bool) → Ex → St → Prop := JX 22 0 Sx1 SLx1 G1
  refine L_loopS (fold_outside_b1 s1 n2) S1 SL1 J1 JX_n 0 h () (ups_self ⟨rfl, rfl, rfl, rfl, rfl, trivial⟩) [] (by decide) rfl ?_ ?_
  · rintro n16 _ g out h
    change fold_outside_b1 s1 n2 n16 = some out at h
    unfold fold_outside_b1 at h
    refine L_seq ?_
    refine L_ops ?_
    by_cases c17 : n16 < ((s1.l.length : Nat) : Int)
    · replace h := ifT c17 h
      refine ol_put rfl rfl rfl (q_bin rfl rfl (p_lss_t _ _ _ _ _ c17) rfl) ?_
      refine ol_end ?_
      refine E_seq ?_
      refine L_seq ?_
      refine L_condT rfl ?_
      refine L_skip ?_
      refine E_seq ?_
      refine L_seq ?_
      refine L_block ?_
      refine L_seq ?_
      refine L_ops ?_
      obtain ⟨n20, h19, h⟩ := bindS h
      obtain ⟨h19a, h19b, h19⟩ := atS_some h19
      refine ol_put rfl rfl rfl (q_ixS rfl rfl h19a h19 (el42.trans (congrArg some h19b.symm))) ?_
      refine ol_put rfl rfl rfl (q_loadI (v := .one (iC .i64 n20)) rfl sz3 (map_get h19) rfl rfl) ?_
      refine ol_put rfl rfl rfl (q_assign (v := .one (iC .i64 n20)) rfl) ?_
      refine ol_end ?_
      refine E_seq ?_
      refine L_block ?_
      refine L_seq ?_
      refine L_seq ?_
      refine L_ops ?_
      refine ol_put rfl rfl rfl (q_move (v := .one (iC .i64 n20)) rfl) ?_
      by_cases c21 : n20 < 0
      · replace h := ifT c21 h
        refine ol_put rfl rfl rfl (q_bin rfl rfl (p_lss_t _ _ _ _ _ c21) rfl) ?_
        refine ol_put rfl rfl rfl (q_assign (v := .one (bC true)) rfl) ?_
        refine ol_end ?_
        refine E_seq ?_
        refine L_condT rfl ?_
        refine L_skip ?_
        refine E_seq ?_
        refine L_condT rfl ?_
        refine L_seq ?_
        refine L_ops ?_
        refine ol_put rfl rfl rfl (q_assign (v := .one (bC true)) rfl) ?_
        refine ol_end ?_
        refine E_seq ?_
        refine L_exit ?_
        refine E_blkX rfl ?_
        refine E_blkX rfl ?_
        refine E_seqX ?_
        obtain rfl := Option.some.inj h
        refine E_out ?_
        exact (E_exit () (ups_self ⟨rfl, trivial⟩) [] (by decide) rfl)
      · replace h := ifF c21 h
        refine ol_put rfl rfl rfl (q_bin rfl rfl (p_lss_f _ _ _ _ _ c21) rfl) ?_
        refine ol_put rfl rfl rfl (q_assign (v := .one (bC false)) rfl) ?_
        refine ol_end ?_
        refine E_seq ?_
        refine L_condF rfl ?_
        refine L_ops ?_
        refine ol_put rfl rfl rfl (q_move (v := .one (iC .i64 n20)) rfl) ?_
        refine ol_put rfl rfl rfl (q_move (v := .one (iC .i64 n2)) rfl) ?_
        by_cases c22 : n20 ≥ n2
        · replace h := ifT c22 h
          refine ol_put rfl rfl rfl (q_bin rfl rfl (p_geq_t _ _ _ _ _ c22) rfl) ?_
          refine ol_put rfl rfl rfl (q_assign (v := .one (bC true)) rfl) ?_
          refine ol_end ?_
          refine E_seq ?_
          refine L_condT rfl ?_
          refine L_seq ?_
          refine L_ops ?_
          refine ol_put rfl rfl rfl (q_assign (v := .one (bC true)) rfl) ?_
          refine ol_end ?_
          refine E_seq ?_
          refine L_exit ?_
          refine E_blkX rfl ?_
          refine E_blkX rfl ?_
          refine E_seqX ?_
          obtain rfl := Option.some.inj h
          refine E_out ?_
          exact (E_exit () (ups_self ⟨rfl, trivial⟩) [] (by decide) rfl)
        · replace h := ifF c22 h
          refine ol_put rfl rfl rfl (q_bin rfl rfl (p_geq_f _ _ _ _ _ c22) rfl) ?_
          refine ol_put rfl rfl rfl (q_assign (v := .one (bC false)) rfl) ?_
          refine ol_end ?_
          refine E_seq ?_
          refine L_condF rfl ?_
          refine L_skip ?_
          refine E_blkN ?_
          refine E_blkN ?_
          refine E_seq ?_
          refine L_ops ?_
          refine ol_put rfl rfl rfl (q_bin rfl rfl (p_add _ _ _ _ _ _ _) rfl) ?_
          refine ol_put rfl rfl rfl (q_move (v := .one (iC .i64 (IntKind.i64.wrap (n16 + 1)))) rfl) ?_
          refine ol_end ?_
          obtain rfl := Option.some.inj h
          exact E_next () (ups_self ⟨rfl, rfl, rfl, rfl, rfl, trivial⟩) [] (by decide) rfl
    · replace h := ifF c17 h
      refine ol_put rfl rfl rfl (q_bin rfl rfl (p_lss_f _ _ _ _ _ c17) rfl) ?_
      refine ol_end ?_
      refine E_seq ?_
      refine L_seq ?_
      refine L_condF rfl ?_
      refine L_exit ?_
      refine E_seqX ?_
      obtain rfl := Option.some.inj h
      refine E_out ?_
      exact (E_exit () (ups_self ⟨rfl, trivial⟩) [] (by decide) rfl)
  · rintro (b23 | u) h
    · refine J_x (fun kt g => ?_)
      replace h := elimL h
      refine E_blkH ?_
      refine E_seq ?_
      refine L_seq ?_
      refine L_ops ?_
      refine ol_put rfl rfl rfl (q_move (v := .one (bC b23)) rfl) ?_
      refine ol_put rfl rfl rfl (q_assign (v := .one (bC b23)) rfl) ?_
      refine ol_end ?_
      refine E_seq ?_
      refine L_ret ?_
      obtain rfl := Option.some.inj h
      exact E_endF (.inr rfl) (res_tmp rfl res_nil) (vw_cons (vd_one vc_v) vw_nil) (fun h hb => own_p) rfl rfl
    · obtain rfl := Option.some.inj (elimR h)
      exact J_up (fun s hs => hs)

noncomputable def fold_slots_b1 (s2 : Sl (Int × Int)) (a : (List (Int × Bool)) × Int) : Option (((List (Int × Bool)) × Int) ⊕ ((List (Int × Bool)) ⊕ (List (Int × Bool)))) :=
  match a with
  | (l30, n31) => (if n31 < ((s2.l.length : Nat) : Int) then ((atS 2 s2 n31).bind fun (n36, n37) => ((atL l30 n36).bind fun (n41, b42) => some (.inl ((l30.set n36.toNat (n37, true)), (IntKind.i64.wrap (n31 + 1)))))) else some (.inr (.inl l30)))
noncomputable def fold_slots (a0 : Int × (Sl (Int × Int))) : Option ((List (Int × Bool))) :=
  match a0 with
  | (n1, s2) => ((lenOk n1).bind fun _ => ((loopO (fold_slots_b1 s2) ((List.replicate n1.toNat ((0, false) : Int × Bool)), 0)).bind (Sum.elim (fun l43 => some l43) (fun u => some u))))
theorem fold_slots_r (m : Nat) {a0 : Int × (Sl (Int × Int))} {out : (List (Int × Bool))} (h : fold_slots a0 = some out) : RunsP E1 (m + 1) 49 [.agg (r24 a0)] (.own, [.one (.s true 2 ((out).map r79))]) := by
  obtain ⟨n1, s2⟩ := a0
  refine fn_O rfl (by rw [E1_fn]; exact show fiOf Try.prog 49 = _ by unfold fiOf; rw [Try.func49]; unfold Try.f49; rfl) rfl ?_
  dsimp only
  unfold fold_slots at h
  refine L_seq ?_
  refine L_ops ?_
  refine ol_new rfl rfl rfl (q_box ty25 rfl (cs := [iC .i64 n1, .p false (Sl.t r33 s2)]) rfl rfl) (fun k3 => ?_)
  refine ol_put rfl rfl rfl (q_assign (v := .one (.p true (Sl.t r79 (⟨false, 0, []⟩ : Sl (Int × Bool))))) rfl) ?_
  refine ol_end ?_
  refine E_seq ?_
  refine L_seq ?_
  refine L_ops ?_
  refine ol_put rfl rfl rfl (q_fieldP rfl fa25_0 rfl) ?_
  refine ol_put rfl rfl rfl (q_loadP (v := .one (iC .i64 n1)) 0 rfl sz3 rfl rfl rfl rfl) ?_
  obtain ⟨u4, h5, h⟩ := bindS h
  refine ol_new rfl rfl rfl (q_mkslice (r := rowC r79) (a := ((0, false) : Int × Bool)) ty77 rfl ty80 rfl rfl (lenOk_some h5).1 (lenOk_some h5).2 rfl rfl) (fun k6 => ?_)
  refine ol_put rfl rfl rfl (q_assign (v := .one (.own k6 0 ((List.replicate n1.toNat ((0, false) : Int × Bool))).length)) rfl) ?_
  refine ol_end ?_
  refine E_seq ?_
  refine L_seq ?_
  refine L_seq ?_
  refine L_ops ?_
  refine ol_put rfl rfl rfl (q_fieldP rfl fa25_1 rfl) ?_
  refine ol_put rfl rfl rfl (q_loadP (v := .one (.p false (Sl.t r33 s2))) 1 rfl sz23 rfl rfl rfl rfl) ?_
  refine ol_put rfl rfl rfl (q_lenS rfl ty23 rfl rfl rfl rfl) ?_
  refine ol_put rfl rfl rfl (q_move (v := .one (iC .i64 0)) rfl) ?_
  refine ol_end ?_
  refine E_seq ?_
  refine L_block ?_
  let S1 : ((List (Int × Bool)) × Int) → Nat → (Nat → D) → Nat → D := fun a kt g => ups g [(3, .one (.own kt 0 (a.1).length)), (10, .one (.p false (Sl.t r33 s2))), (11, .one (iC .i64 ((s2.l.length : Nat) : Int))), (12, .one (iC .i64 a.2))]
  let SL1 : ((List (Int × Bool)) × Int) → Nat → BL := fun a kt => ([[(kt, 2, (a.1).map (rowC r79))]] : BL)
  let Sx1 : (List (Int × Bool)) → Nat → (Nat → D) → Nat → D := fun a kt g => ups g [(3, .one (.own kt 0 (a).length))]
  let SLx1 : (List (Int × Bool)) → Nat → BL := fun a kt => ([[(kt, 2, (a).map (rowC r79))]] : BL)
  let G1 : (List (Int × Bool)) → Ex → St → Prop := fun u => endQ E1 [.tmp 2] (.own, [.one (.s true 2 ((u).map r79))])
  let J1 : ((List (Int × Bool)) ⊕ (List (Int × Bool))) → Ex → St → Prop := JX 25 0 Sx1 SLx1 G1
  refine L_loopS (fold_slots_b1 s2) S1 SL1 J1 JX_n ((List.replicate n1.toNat ((0, false) : Int × Bool)), 0) h k6 (ups_self ⟨rfl, rfl, rfl, rfl, trivial⟩) [0] (by decide) rfl ?_ ?_
  · rintro ⟨l30, n31⟩ k32 g out h
    change fold_slots_b1 s2 (l30, n31) = some out at h
    unfold fold_slots_b1 at h
    refine L_seq ?_
    refine L_ops ?_
    by_cases c33 : n31 < ((s2.l.length : Nat) : Int)
    · replace h := ifT c33 h
      refine ol_put rfl rfl rfl (q_bin rfl rfl (p_lss_t _ _ _ _ _ c33) rfl) ?_
      refine ol_end ?_
      refine E_seq ?_
      refine L_seq ?_
      refine L_condT rfl ?_
      refine L_skip ?_
      refine E_seq ?_
      refine L_seq ?_
      refine L_block ?_
      refine L_seq ?_
      refine L_ops ?_
      obtain ⟨⟨n36, n37⟩, h35, h⟩ := bindS h
      obtain ⟨h35a, h35b, h35⟩ := atS_some h35
      refine ol_put rfl rfl rfl (q_ixS rfl rfl h35a h35 (el23.trans (congrArg some h35b.symm))) ?_
      refine ol_put rfl rfl rfl (q_loadI (v := .agg [iC .i64 n36, iC .i64 n37]) rfl sz34 (map_get h35) rfl rfl) ?_
      refine ol_new rfl rfl rfl (q_alloc ty34 (row := [iC .i64 0, iC .i64 0]) rfl rfl) (fun k38 => ?_)
      refine ol_wr rfl rfl (q_store (es' := [[iC .i64 n36, iC .i64 n37]]) 0 rfl rfl rfl sz34 rfl rfl rfl rfl rfl) rfl ?_
      refine ol_end ?_
      refine E_seq ?_
      refine L_ops ?_
      refine ol_put rfl rfl rfl (q_move (v := .one (.own k32 0 (l30).length)) rfl) ?_
      refine ol_put rfl rfl rfl (q_fieldP rfl fa34_0 rfl) ?_
      refine ol_put rfl rfl rfl (q_loadP (v := .one (iC .i64 n36)) 0 rfl sz3 rfl rfl rfl rfl) ?_
      refine ol_put rfl rfl rfl (q_fieldP rfl fa34_1 rfl) ?_
      refine ol_put rfl rfl rfl (q_loadP (v := .one (iC .i64 n37)) 0 rfl sz2 rfl rfl rfl rfl) ?_
      refine ol_put rfl rfl rfl (q_build (cs := [iC .i64 n37, bC true]) ty80 rfl pl80 rfl) ?_
      obtain ⟨⟨n41, b42⟩, h40, h⟩ := bindS h
      obtain ⟨h40a, h40⟩ := atL_some h40
      refine ol_put rfl rfl rfl (q_ixO 1 rfl rfl h40a h40 rfl el77) ?_
      refine ol_wr rfl rfl (q_store (e' := rowC r79 (n37, true)) (es' := ((l30.set n36.toNat (n37, true))).map (rowC r79)) 1 rfl rfl rfl sz80 rfl rfl (map_get h40) rfl map_set) rfl ?_
      refine ol_re 3 (v := .one (.own k32 0 ((l30.set n36.toNat (n37, true))).length)) (Eq.trans (b := .one (.own k32 0 (l30).length)) rfl (congrArg D.one own_setC)) ?_
      refine ol_re 16 (v := .one (.own k32 0 ((l30.set n36.toNat (n37, true))).length)) (Eq.trans (b := .one (.own k32 0 (l30).length)) rfl (congrArg D.one own_setC)) ?_
      refine ol_end ?_
      refine E_blkN ?_
      refine E_seq ?_
      refine L_ops ?_
      refine ol_put rfl rfl rfl (q_bin rfl rfl (p_add _ _ _ _ _ _ _) rfl) ?_
      refine ol_put rfl rfl rfl (q_move (v := .one (iC .i64 (IntKind.i64.wrap (n31 + 1)))) rfl) ?_
      refine ol_end ?_
      obtain rfl := Option.some.inj h
      exact E_next k32 (ups_self ⟨rfl, rfl, rfl, rfl, trivial⟩) [1] (by decide) rfl
    · replace h := ifF c33 h
      refine ol_put rfl rfl rfl (q_bin rfl rfl (p_lss_f _ _ _ _ _ c33) rfl) ?_
      refine ol_end ?_
      refine E_seq ?_
      refine L_seq ?_
      refine L_condF rfl ?_
      refine L_exit ?_
      refine E_seqX ?_
      obtain rfl := Option.some.inj h
      refine E_out ?_
      exact (E_exit k32 (ups_self ⟨rfl, trivial⟩) [0] (by decide) rfl)
  · rintro (l43 | u) h
    · refine J_x (fun k44 g => ?_)
      replace h := elimL h
      refine E_blkH ?_
      refine E_seq ?_
      refine L_seq ?_
      refine L_ops ?_
      refine ol_put rfl rfl rfl (q_move (v := .one (.own k44 0 (l43).length)) rfl) ?_
      refine ol_put rfl rfl rfl (q_assign (v := .one (.own k44 0 (l43).length)) rfl) ?_
      refine ol_end ?_
      refine E_seq ?_
      refine L_ret ?_
      obtain rfl := Option.some.inj h
      exact E_endO (r := r79) 0 (.inr rfl) (res_tmp rfl res_nil) rfl (fun x h m => rfl) (fun x => rfl)
    · obtain rfl := Option.some.inj (elimR h)
      exact J_up (fun s hs => hs)

noncomputable def fold_gathered_b1 (s1 : Sl (Int × Bool)) (a : Int × (List (Int × Int))) : Option ((Int × (List (Int × Int))) ⊕ ((List (Int × Int)) ⊕ (Int × (Sl (Int × Int))))) :=
  match a with
  | (n38, l39) => (if n38 < ((s1.l.length : Nat) : Int) then ((atS 2 s1 n38).bind fun (n44, b45) => (if b45 = true then ((app l39 ([(n38, n44)] : List (Int × Int))).bind fun _ => some (.inl ((IntKind.i64.wrap (n38 + 1)), (l39 ++ ([(n38, n44)] : List (Int × Int)))))) else some (.inl ((IntKind.i64.wrap (n38 + 1)), l39)))) else some (.inr (.inl l39)))
noncomputable def fold_gathered (s1 : Sl (Int × Bool)) : Option ((Int × (Sl (Int × Int)))) :=
  ((loopO (fold_gathered_b1 s1) (0, ([] : List (Int × Int)))).bind (Sum.elim (fun l50 => some (((s1.l.length : Nat) : Int), (mo 2 l50))) (fun u => some u)))
theorem fold_gathered_r (m : Nat) {s1 : Sl (Int × Bool)} {out : (Int × (Sl (Int × Int)))} (h : fold_gathered s1 = some out) : RunsP E1 (m + 1) 50 [.one (Sl.t r79 s1)] (.fresh, [.agg (r24 out)]) := by
  refine fn_F rfl (by rw [E1_fn]; exact show fiOf Try.prog 50 = _ by unfold fiOf; rw [Try.func50]; unfold Try.f50; rfl) rfl ?_
  dsimp only
  unfold fold_gathered at h
  refine L_seq ?_
  refine L_ops ?_
  refine ol_new rfl rfl rfl (q_alloc ty25 (row := [iC .i64 0, .p true (Sl.t r33 (⟨false, 0, []⟩ : Sl (Int × Int)))]) rfl rfl) (fun k2 => ?_)
  refine ol_end ?_
  refine E_seq ?_
  refine L_seq ?_
  refine L_ops ?_
  refine ol_put rfl rfl rfl (q_move (v := .one (.p false (Sl.t r79 s1))) rfl) ?_
  refine ol_put rfl rfl rfl (q_lenS rfl ty77 rfl rfl rfl rfl) ?_
  refine ol_put rfl rfl rfl (q_build (cs := [iC .i64 ((s1.l.length : Nat) : Int), .p true (Sl.t r33 (⟨false, 0, []⟩ : Sl (Int × Int)))]) ty25 rfl pl25 rfl) ?_
  refine ol_new rfl rfl rfl (q_alloc ty25 (row := [iC .i64 0, .p true (Sl.t r33 (⟨false, 0, []⟩ : Sl (Int × Int)))]) rfl rfl) (fun k3 => ?_)
  refine ol_wr rfl rfl (q_store (es' := [[iC .i64 ((s1.l.length : Nat) : Int), .p true (Sl.t r33 (⟨false, 0, []⟩ : Sl (Int × Int)))]]) 0 rfl rfl rfl sz25 rfl rfl rfl rfl rfl) rfl ?_
  refine ol_end ?_
  refine E_seq ?_
  refine L_seq ?_
  refine L_seq ?_
  refine L_ops ?_
  refine ol_put rfl rfl rfl (q_move (v := .one (.p false (Sl.t r79 s1))) rfl) ?_
  refine ol_put rfl rfl rfl (q_lenS rfl ty77 rfl rfl rfl rfl) ?_
  refine ol_put rfl rfl rfl (q_move (v := .one (iC .i64 0)) rfl) ?_
  refine ol_end ?_
  refine E_seq ?_
  refine L_block ?_
  refine L_addM (α := Int × Int) r33 2 ?_
  let S1 : (Int × (List (Int × Int))) → Nat → (Nat → D) → Nat → D := fun a kt g => ups g [(2, .one (.ptr k2 0 0)), (3, .one (.ptr k3 0 0)), (9, .one (.p false (Sl.t r79 s1))), (10, .one (iC .i64 ((s1.l.length : Nat) : Int))), (11, .one (iC .i64 a.1))]
  let SL1 : (Int × (List (Int × Int))) → Nat → BL := fun a kt => ([[(k2, 2, [[iC .i64 0, .p true (Sl.t r33 (⟨false, 0, []⟩ : Sl (Int × Int)))]])], [(k3, 2, [[iC .i64 ((s1.l.length : Nat) : Int), moC a.2 kt]])], moL r33 2 a.2 kt] : BL)
  let Sx1 : (List (Int × Int)) → Nat → (Nat → D) → Nat → D := fun a kt g => ups g [(2, .one (.ptr k2 0 0)), (3, .one (.ptr k3 0 0))]
  let SLx1 : (List (Int × Int)) → Nat → BL := fun a kt => ([[(k2, 2, [[iC .i64 0, .p true (Sl.t r33 (⟨false, 0, []⟩ : Sl (Int × Int)))]])], [(k3, 2, [[iC .i64 ((s1.l.length : Nat) : Int), moC a kt]])], moL r33 2 a kt] : BL)
  let G1 : (Int × (Sl (Int × Int))) → Ex → St → Prop := fun u => endQ E1 [.cell 2 25] (.fresh, [.agg (r24 u)])
  let J1 : ((List (Int × Int)) ⊕ (Int × (Sl (Int × Int)))) → Ex → St → Prop := JX 29 0 Sx1 SLx1 G1
  refine L_loopS (fold_gathered_b1 s1) S1 SL1 J1 JX_n (0, ([] : List (Int × Int))) h 1036 (ups_self ⟨rfl, rfl, rfl, rfl, rfl, trivial⟩) [2, 1, 0] (by decide) rfl ?_ ?_
  · rintro ⟨n38, l39⟩ k40 g out h
    change fold_gathered_b1 s1 (n38, l39) = some out at h
    unfold fold_gathered_b1 at h
    refine L_seq ?_
    refine L_ops ?_
    by_cases c41 : n38 < ((s1.l.length : Nat) : Int)
    · replace h := ifT c41 h
      refine ol_put rfl rfl rfl (q_bin rfl rfl (p_lss_t _ _ _ _ _ c41) rfl) ?_
      refine ol_end ?_
      refine E_seq ?_
      refine L_seq ?_
      refine L_condT rfl ?_
      refine L_skip ?_
      refine E_seq ?_
      refine L_seq ?_
      refine L_block ?_
      refine L_seq ?_
      refine L_ops ?_
      refine ol_put rfl rfl rfl (q_move (v := .one (iC .i64 n38)) rfl) ?_
      obtain ⟨⟨n44, b45⟩, h43, h⟩ := bindS h
      obtain ⟨h43a, h43b, h43⟩ := atS_some h43
      refine ol_put rfl rfl rfl (q_ixS rfl rfl h43a h43 (el77.trans (congrArg some h43b.symm))) ?_
      refine ol_put rfl rfl rfl (q_loadI (v := .agg [iC .i64 n44, bC b45]) rfl sz80 (map_get h43) rfl rfl) ?_
      refine ol_new rfl rfl rfl (q_alloc ty80 (row := [iC .i64 0, bC false]) rfl rfl) (fun k46 => ?_)
      refine ol_put rfl rfl rfl (q_assign (v := .one (iC .i64 n38)) rfl) ?_
      refine ol_wr rfl rfl (q_store (es' := [[iC .i64 n44, bC b45]]) 0 rfl rfl rfl sz80 rfl rfl rfl rfl rfl) rfl ?_
      refine ol_end ?_
      refine E_seq ?_
      refine L_seq ?_
      refine L_ops ?_
      refine ol_put rfl rfl rfl (q_fieldP rfl fa80_1 rfl) ?_
      refine ol_put rfl rfl rfl (q_loadP (v := .one (bC b45)) 0 rfl sz4 rfl rfl rfl rfl) ?_
      refine ol_end ?_
      refine E_seq ?_
      rcases b45 with _ | _
      · replace h := ifF (by decide) h
        refine L_condF rfl ?_
        refine L_skip ?_
        refine E_blkN ?_
        refine E_seq ?_
        refine L_ops ?_
        refine ol_put rfl rfl rfl (q_bin rfl rfl (p_add _ _ _ _ _ _ _) rfl) ?_
        refine ol_put rfl rfl rfl (q_move (v := .one (iC .i64 (IntKind.i64.wrap (n38 + 1)))) rfl) ?_
        refine ol_end ?_
        obtain rfl := Option.some.inj h
        exact E_next k40 (ups_self ⟨rfl, rfl, rfl, rfl, rfl, trivial⟩) [1, 2, 3] (by decide) rfl
      · replace h := ifT (by decide) h
        refine L_condT rfl ?_
        refine L_ops ?_
        refine ol_put rfl rfl rfl (q_fieldP rfl fa25_1 rfl) ?_
        refine ol_put rfl rfl rfl (q_loadP (v := .one (moC l39 k40)) 2 rfl sz23 rfl rfl rfl rfl) ?_
        refine ol_put rfl rfl rfl (q_move (v := .one (iC .i64 n38)) rfl) ?_
        refine ol_put rfl rfl rfl (q_fieldP rfl fa80_0 rfl) ?_
        refine ol_put rfl rfl rfl (q_loadP (v := .one (iC .i64 n44)) 0 rfl sz2 rfl rfl rfl rfl) ?_
        refine ol_put rfl rfl rfl (q_build (cs := [iC .i64 n38, iC .i64 n44]) ty34 rfl pl34 rfl) ?_
        refine ol_new rfl rfl rfl (q_bslice (cs := [iC .i64 n38, iC .i64 n44]) (es := (([(n38, n44)] : List (Int × Int))).map (rowC r33)) ty23 rfl ty34 rfl rfl rfl rfl rfl) (fun k47 => ?_)
        obtain ⟨_, h48, h⟩ := bindS h
        obtain ⟨h48b, rfl⟩ := app_some h48
        refine ol_appM (r := r33) (l := l39) (ys := ([(n38, n44)] : List (Int × Int))) 4 rfl rfl rfl rfl rfl rfl (el_ownM (l := ([(n38, n44)] : List (Int × Int))) 0 rfl) rfl h48 (fun y => rfl) el23 ty23 rfl rfl rfl rfl rfl (fun k49 => ?_)
        refine ol_put rfl rfl rfl (q_fieldP rfl fa25_1 rfl) ?_
        refine ol_wr rfl rfl (q_store (es' := [[iC .i64 ((s1.l.length : Nat) : Int), moC (l39 ++ ([(n38, n44)] : List (Int × Int))) k49]]) 4 rfl rfl rfl sz23 rfl rfl rfl rfl rfl) rfl ?_
        refine ol_end ?_
        refine E_blkN ?_
        refine E_seq ?_
        refine L_ops ?_
        refine ol_put rfl rfl rfl (q_bin rfl rfl (p_add _ _ _ _ _ _ _) rfl) ?_
        refine ol_put rfl rfl rfl (q_move (v := .one (iC .i64 (IntKind.i64.wrap (n38 + 1)))) rfl) ?_
        refine ol_end ?_
        obtain rfl := Option.some.inj h
        exact E_next k49 (ups_self ⟨rfl, rfl, rfl, rfl, rfl, trivial⟩) [3, 4, 0] (by decide) rfl
    · replace h := ifF c41 h
      refine ol_put rfl rfl rfl (q_bin rfl rfl (p_lss_f _ _ _ _ _ c41) rfl) ?_
      refine ol_end ?_
      refine E_seq ?_
      refine L_seq ?_
      refine L_condF rfl ?_
      refine L_exit ?_
      refine E_seqX ?_
      obtain rfl := Option.some.inj h
      refine E_out ?_
      exact (E_exit k40 (ups_self ⟨rfl, rfl, trivial⟩) [0, 1, 2] (by decide) rfl)
  · rintro (l50 | u) h
    · refine J_x (fun k51 g => ?_)
      replace h := elimL h
      refine E_blkH ?_
      refine E_seq ?_
      refine L_seq ?_
      refine L_ops ?_
      refine ol_put rfl rfl rfl (q_loadP (v := .agg [iC .i64 ((s1.l.length : Nat) : Int), moC l50 k51]) 1 rfl sz25 rfl rfl rfl rfl) ?_
      refine ol_wr rfl rfl (q_store (es' := [[iC .i64 ((s1.l.length : Nat) : Int), moC l50 k51]]) 0 rfl rfl rfl sz25 rfl rfl rfl rfl rfl) rfl ?_
      refine ol_end ?_
      refine E_seq ?_
      refine L_ret ?_
      obtain rfl := Option.some.inj h
      exact E_endF (.inr rfl) (res_cell (d := .agg [iC .i64 ((s1.l.length : Nat) : Int), moC l50 k51]) 0 rfl sz25 rfl rfl rfl rfl res_nil) (vw_cons (vd_agg (vc_cons vc_v (vc_cons (vc_M (r := r33) 2 rfl (fun x h m => rfl)) vc_nil))) vw_nil) (fun h hb => own_agg) rfl rfl
    · obtain rfl := Option.some.inj (elimR h)
      exact J_up (fun s hs => hs)
end Ev
end Go.Proofs.Ytioagbejilllfaa
