/- Functions of the program as functions on data, and that they are. -/
import Derived.Test.YtioagbejilllfaaLf1
import Derived.Test.YtioagbejilllfaaLf2
import Derived.Test.YtioagbejilllfaaLy1
import Derived.Test.YtioagbejilllfaaLy2
namespace Go.Proofs.Ytioagbejilllfaa
namespace Ev
open Go
set_option linter.unusedVariables false
set_option linter.unusedSimpArgs false
set_option maxRecDepth 100000
set_option maxHeartbeats 1000000
attribute [local irreducible] OpsL StL TnL WpL EndL
noncomputable def ref12_Holds (n1 : Int) (n2 : Int) (n3 : Int) : Option (Bool) :=
  (if n1 = 1 then (if n2 < n3 then some true else (if n1 = 2 then (if n2 > n3 then some true else (if n1 = 3 then (if n2 = n3 then some true else (if n1 = 4 then (if n2 ≠ n3 then some true else some false) else some false)) else (if n1 = 4 then (if n2 ≠ n3 then some true else some false) else some false))) else (if n1 = 3 then (if n2 = n3 then some true else (if n1 = 4 then (if n2 ≠ n3 then some true else some false) else some false)) else (if n1 = 4 then (if n2 ≠ n3 then some true else some false) else some false)))) else (if n1 = 2 then (if n2 > n3 then some true else (if n1 = 3 then (if n2 = n3 then some true else (if n1 = 4 then (if n2 ≠ n3 then some true else some false) else some false)) else (if n1 = 4 then (if n2 ≠ n3 then some true else some false) else some false))) else (if n1 = 3 then (if n2 = n3 then some true else (if n1 = 4 then (if n2 ≠ n3 then some true else some false) else some false)) else (if n1 = 4 then (if n2 ≠ n3 then some true else some false) else some false))))
theorem ref12_Holds_r (m : Nat) {n1 : Int} {n2 : Int} {n3 : Int} {out : Bool} (h : ref12_Holds n1 n2 n3 = some out) : RunsP E1 (m + 1) 17 [.one (iT .i64 n1), .one (iT .i64 n2), .one (iT .i64 n3)] (.fresh, [.one (bT out)]) := by
  refine fn_F rfl (by rw [E1_fn]; exact show fiOf Try.prog 17 = _ by unfold fiOf; rw [Try.func17]; unfold Try.f17; rfl) rfl ?_
  dsimp only
  unfold ref12_Holds at h
  refine L_seq ?_
  refine L_ops ?_
  refine ol_put rfl rfl rfl (q_assign (v := .one (bC false)) rfl) ?_
  refine ol_end ?_
  refine E_seq ?_
  refine L_seq ?_
  refine L_ops ?_
  refine ol_put rfl rfl rfl (q_move (v := .one (iC .i64 n1)) rfl) ?_
  by_cases c4 : n1 = 1
  · replace h := ifT c4 h
    refine ol_put rfl rfl rfl (q_bin rfl rfl (p_eql_t _ _ _ _ _ c4) rfl) ?_
    refine ol_put rfl rfl rfl (q_move (v := .one (bC true)) rfl) ?_
    refine ol_put rfl rfl rfl (q_move (v := .one (iC .i64 n2)) rfl) ?_
    refine ol_put rfl rfl rfl (q_move (v := .one (iC .i64 n3)) rfl) ?_
    by_cases c5 : n2 < n3
    · replace h := ifT c5 h
      refine ol_put rfl rfl rfl (q_bin rfl rfl (p_lss_t _ _ _ _ _ c5) rfl) ?_
      refine ol_put rfl rfl rfl (q_pickT (v := .one (bC true)) rfl rfl) ?_
      refine ol_put rfl rfl rfl (q_move (v := .one (bC true)) rfl) ?_
      refine ol_skip rfl rfl rfl ?_
      refine ol_skip rfl rfl rfl ?_
      refine ol_skip rfl rfl rfl ?_
      refine ol_skip rfl rfl rfl ?_
      refine ol_skip rfl rfl rfl ?_
      refine ol_skip rfl rfl rfl ?_
      refine ol_skip rfl rfl rfl ?_
      refine ol_put rfl rfl rfl (q_pickT (v := .one (bC true)) rfl rfl) ?_
      refine ol_put rfl rfl rfl (q_move (v := .one (bC true)) rfl) ?_
      refine ol_skip rfl rfl rfl ?_
      refine ol_skip rfl rfl rfl ?_
      refine ol_skip rfl rfl rfl ?_
      refine ol_skip rfl rfl rfl ?_
      refine ol_skip rfl rfl rfl ?_
      refine ol_skip rfl rfl rfl ?_
      refine ol_skip rfl rfl rfl ?_
      refine ol_put rfl rfl rfl (q_pickT (v := .one (bC true)) rfl rfl) ?_
      refine ol_put rfl rfl rfl (q_move (v := .one (bC true)) rfl) ?_
      refine ol_skip rfl rfl rfl ?_
      refine ol_skip rfl rfl rfl ?_
      refine ol_skip rfl rfl rfl ?_
      refine ol_skip rfl rfl rfl ?_
      refine ol_skip rfl rfl rfl ?_
      refine ol_skip rfl rfl rfl ?_
      refine ol_skip rfl rfl rfl ?_
      refine ol_put rfl rfl rfl (q_pickT (v := .one (bC true)) rfl rfl) ?_
      refine ol_put rfl rfl rfl (q_assign (v := .one (bC true)) rfl) ?_
      refine ol_end ?_
      refine E_seq ?_
      refine L_ret ?_
      obtain rfl := Option.some.inj h
      exact E_endF (.inr rfl) (res_tmp rfl res_nil) (vw_cons (vd_one vc_v) vw_nil) (fun h hb => own_p) rfl rfl
    · replace h := ifF c5 h
      refine ol_put rfl rfl rfl (q_bin rfl rfl (p_lss_f _ _ _ _ _ c5) rfl) ?_
      refine ol_put rfl rfl rfl (q_pickT (v := .one (bC false)) rfl rfl) ?_
      refine ol_put rfl rfl rfl (q_move (v := .one (bC false)) rfl) ?_
      refine ol_put rfl rfl rfl (q_move (v := .one (iC .i64 n1)) rfl) ?_
      by_cases c6 : n1 = 2
      · replace h := ifT c6 h
        refine ol_put rfl rfl rfl (q_bin rfl rfl (p_eql_t _ _ _ _ _ c6) rfl) ?_
        refine ol_put rfl rfl rfl (q_move (v := .one (bC true)) rfl) ?_
        refine ol_put rfl rfl rfl (q_move (v := .one (iC .i64 n2)) rfl) ?_
        refine ol_put rfl rfl rfl (q_move (v := .one (iC .i64 n3)) rfl) ?_
        by_cases c7 : n2 > n3
        · replace h := ifT c7 h
          refine ol_put rfl rfl rfl (q_bin rfl rfl (p_gtr_t _ _ _ _ _ c7) rfl) ?_
          refine ol_put rfl rfl rfl (q_pickT (v := .one (bC true)) rfl rfl) ?_
          refine ol_put rfl rfl rfl (q_pickF (v := .one (bC true)) rfl rfl) ?_
          refine ol_put rfl rfl rfl (q_move (v := .one (bC true)) rfl) ?_
          refine ol_skip rfl rfl rfl ?_
          refine ol_skip rfl rfl rfl ?_
          refine ol_skip rfl rfl rfl ?_
          refine ol_skip rfl rfl rfl ?_
          refine ol_skip rfl rfl rfl ?_
          refine ol_skip rfl rfl rfl ?_
          refine ol_skip rfl rfl rfl ?_
          refine ol_put rfl rfl rfl (q_pickT (v := .one (bC true)) rfl rfl) ?_
          refine ol_put rfl rfl rfl (q_move (v := .one (bC true)) rfl) ?_
          refine ol_skip rfl rfl rfl ?_
          refine ol_skip rfl rfl rfl ?_
          refine ol_skip rfl rfl rfl ?_
          refine ol_skip rfl rfl rfl ?_
          refine ol_skip rfl rfl rfl ?_
          refine ol_skip rfl rfl rfl ?_
          refine ol_skip rfl rfl rfl ?_
          refine ol_put rfl rfl rfl (q_pickT (v := .one (bC true)) rfl rfl) ?_
          refine ol_put rfl rfl rfl (q_assign (v := .one (bC true)) rfl) ?_
          refine ol_end ?_
          refine E_seq ?_
          refine L_ret ?_
          obtain rfl := Option.some.inj h
          exact E_endF (.inr rfl) (res_tmp rfl res_nil) (vw_cons (vd_one vc_v) vw_nil) (fun h hb => own_p) rfl rfl
        · replace h := ifF c7 h
          refine ol_put rfl rfl rfl (q_bin rfl rfl (p_gtr_f _ _ _ _ _ c7) rfl) ?_
          refine ol_put rfl rfl rfl (q_pickT (v := .one (bC false)) rfl rfl) ?_
          refine ol_put rfl rfl rfl (q_pickF (v := .one (bC false)) rfl rfl) ?_
          refine ol_put rfl rfl rfl (q_move (v := .one (bC false)) rfl) ?_
          refine ol_put rfl rfl rfl (q_move (v := .one (iC .i64 n1)) rfl) ?_
          by_cases c8 : n1 = 3
          · replace h := ifT c8 h
            refine ol_put rfl rfl rfl (q_bin rfl rfl (p_eql_t _ _ _ _ _ c8) rfl) ?_
            refine ol_put rfl rfl rfl (q_move (v := .one (bC true)) rfl) ?_
            refine ol_put rfl rfl rfl (q_move (v := .one (iC .i64 n2)) rfl) ?_
            refine ol_put rfl rfl rfl (q_move (v := .one (iC .i64 n3)) rfl) ?_
            by_cases c9 : n2 = n3
            · replace h := ifT c9 h
              refine ol_put rfl rfl rfl (q_bin rfl rfl (p_eql_t _ _ _ _ _ c9) rfl) ?_
              refine ol_put rfl rfl rfl (q_pickT (v := .one (bC true)) rfl rfl) ?_
              refine ol_put rfl rfl rfl (q_pickF (v := .one (bC true)) rfl rfl) ?_
              refine ol_put rfl rfl rfl (q_move (v := .one (bC true)) rfl) ?_
              refine ol_skip rfl rfl rfl ?_
              refine ol_skip rfl rfl rfl ?_
              refine ol_skip rfl rfl rfl ?_
              refine ol_skip rfl rfl rfl ?_
              refine ol_skip rfl rfl rfl ?_
              refine ol_skip rfl rfl rfl ?_
              refine ol_skip rfl rfl rfl ?_
              refine ol_put rfl rfl rfl (q_pickT (v := .one (bC true)) rfl rfl) ?_
              refine ol_put rfl rfl rfl (q_assign (v := .one (bC true)) rfl) ?_
              refine ol_end ?_
              refine E_seq ?_
              refine L_ret ?_
              obtain rfl := Option.some.inj h
              exact E_endF (.inr rfl) (res_tmp rfl res_nil) (vw_cons (vd_one vc_v) vw_nil) (fun h hb => own_p) rfl rfl
            · replace h := ifF c9 h
              refine ol_put rfl rfl rfl (q_bin rfl rfl (p_eql_f _ _ _ _ _ c9) rfl) ?_
              refine ol_put rfl rfl rfl (q_pickT (v := .one (bC false)) rfl rfl) ?_
              refine ol_put rfl rfl rfl (q_pickF (v := .one (bC false)) rfl rfl) ?_
              refine ol_put rfl rfl rfl (q_move (v := .one (bC false)) rfl) ?_
              refine ol_put rfl rfl rfl (q_move (v := .one (iC .i64 n1)) rfl) ?_
              by_cases c10 : n1 = 4
              · replace h := ifT c10 h
                refine ol_put rfl rfl rfl (q_bin rfl rfl (p_eql_t _ _ _ _ _ c10) rfl) ?_
                refine ol_put rfl rfl rfl (q_move (v := .one (bC true)) rfl) ?_
                refine ol_put rfl rfl rfl (q_move (v := .one (iC .i64 n2)) rfl) ?_
                refine ol_put rfl rfl rfl (q_move (v := .one (iC .i64 n3)) rfl) ?_
                by_cases c11 : n2 ≠ n3
                · replace h := ifT c11 h
                  refine ol_put rfl rfl rfl (q_bin rfl rfl (p_neq_t _ _ _ _ _ c11) rfl) ?_
                  refine ol_put rfl rfl rfl (q_pickT (v := .one (bC true)) rfl rfl) ?_
                  refine ol_put rfl rfl rfl (q_pickF (v := .one (bC true)) rfl rfl) ?_
                  refine ol_put rfl rfl rfl (q_assign (v := .one (bC true)) rfl) ?_
                  refine ol_end ?_
                  refine E_seq ?_
                  refine L_ret ?_
                  obtain rfl := Option.some.inj h
                  exact E_endF (.inr rfl) (res_tmp rfl res_nil) (vw_cons (vd_one vc_v) vw_nil) (fun h hb => own_p) rfl rfl
                · replace h := ifF c11 h
                  refine ol_put rfl rfl rfl (q_bin rfl rfl (p_neq_f _ _ _ _ _ c11) rfl) ?_
                  refine ol_put rfl rfl rfl (q_pickT (v := .one (bC false)) rfl rfl) ?_
                  refine ol_put rfl rfl rfl (q_pickF (v := .one (bC false)) rfl rfl) ?_
                  refine ol_put rfl rfl rfl (q_assign (v := .one (bC false)) rfl) ?_
                  refine ol_end ?_
                  refine E_seq ?_
                  refine L_ret ?_
                  obtain rfl := Option.some.inj h
                  exact E_endF (.inr rfl) (res_tmp rfl res_nil) (vw_cons (vd_one vc_v) vw_nil) (fun h hb => own_p) rfl rfl
              · replace h := ifF c10 h
                refine ol_put rfl rfl rfl (q_bin rfl rfl (p_eql_f _ _ _ _ _ c10) rfl) ?_
                refine ol_put rfl rfl rfl (q_move (v := .one (bC false)) rfl) ?_
                refine ol_skip rfl rfl rfl ?_
                refine ol_skip rfl rfl rfl ?_
                refine ol_skip rfl rfl rfl ?_
                refine ol_put rfl rfl rfl (q_pickF (v := .one (bC false)) rfl rfl) ?_
                refine ol_put rfl rfl rfl (q_pickF (v := .one (bC false)) rfl rfl) ?_
                refine ol_put rfl rfl rfl (q_assign (v := .one (bC false)) rfl) ?_
                refine ol_end ?_
                refine E_seq ?_
                refine L_ret ?_
                obtain rfl := Option.some.inj h
                exact E_endF (.inr rfl) (res_tmp rfl res_nil) (vw_cons (vd_one vc_v) vw_nil) (fun h hb => own_p) rfl rfl
          · replace h := ifF c8 h
            refine ol_put rfl rfl rfl (q_bin rfl rfl (p_eql_f _ _ _ _ _ c8) rfl) ?_
            refine ol_put rfl rfl rfl (q_move (v := .one (bC false)) rfl) ?_
            refine ol_skip rfl rfl rfl ?_
            refine ol_skip rfl rfl rfl ?_
            refine ol_skip rfl rfl rfl ?_
            refine ol_put rfl rfl rfl (q_pickF (v := .one (bC false)) rfl rfl) ?_
            refine ol_put rfl rfl rfl (q_pickF (v := .one (bC false)) rfl rfl) ?_
            refine ol_put rfl rfl rfl (q_move (v := .one (bC false)) rfl) ?_
            refine ol_put rfl rfl rfl (q_move (v := .one (iC .i64 n1)) rfl) ?_
            by_cases c12 : n1 = 4
            · replace h := ifT c12 h
              refine ol_put rfl rfl rfl (q_bin rfl rfl (p_eql_t _ _ _ _ _ c12) rfl) ?_
              refine ol_put rfl rfl rfl (q_move (v := .one (bC true)) rfl) ?_
              refine ol_put rfl rfl rfl (q_move (v := .one (iC .i64 n2)) rfl) ?_
              refine ol_put rfl rfl rfl (q_move (v := .one (iC .i64 n3)) rfl) ?_
              by_cases c13 : n2 ≠ n3
              · replace h := ifT c13 h
                refine ol_put rfl rfl rfl (q_bin rfl rfl (p_neq_t _ _ _ _ _ c13) rfl) ?_
                refine ol_put rfl rfl rfl (q_pickT (v := .one (bC true)) rfl rfl) ?_
                refine ol_put rfl rfl rfl (q_pickF (v := .one (bC true)) rfl rfl) ?_
                refine ol_put rfl rfl rfl (q_assign (v := .one (bC true)) rfl) ?_
                refine ol_end ?_
                refine E_seq ?_
                refine L_ret ?_
                obtain rfl := Option.some.inj h
                exact E_endF (.inr rfl) (res_tmp rfl res_nil) (vw_cons (vd_one vc_v) vw_nil) (fun h hb => own_p) rfl rfl
              · replace h := ifF c13 h
                refine ol_put rfl rfl rfl (q_bin rfl rfl (p_neq_f _ _ _ _ _ c13) rfl) ?_
                refine ol_put rfl rfl rfl (q_pickT (v := .one (bC false)) rfl rfl) ?_
                refine ol_put rfl rfl rfl (q_pickF (v := .one (bC false)) rfl rfl) ?_
                refine ol_put rfl rfl rfl (q_assign (v := .one (bC false)) rfl) ?_
                refine ol_end ?_
                refine E_seq ?_
                refine L_ret ?_
                obtain rfl := Option.some.inj h
                exact E_endF (.inr rfl) (res_tmp rfl res_nil) (vw_cons (vd_one vc_v) vw_nil) (fun h hb => own_p) rfl rfl
            · replace h := ifF c12 h
              refine ol_put rfl rfl rfl (q_bin rfl rfl (p_eql_f _ _ _ _ _ c12) rfl) ?_
              refine ol_put rfl rfl rfl (q_move (v := .one (bC false)) rfl) ?_
              refine ol_skip rfl rfl rfl ?_
              refine ol_skip rfl rfl rfl ?_
              refine ol_skip rfl rfl rfl ?_
              refine ol_put rfl rfl rfl (q_pickF (v := .one (bC false)) rfl rfl) ?_
              refine ol_put rfl rfl rfl (q_pickF (v := .one (bC false)) rfl rfl) ?_
              refine ol_put rfl rfl rfl (q_assign (v := .one (bC false)) rfl) ?_
              refine ol_end ?_
              refine E_seq ?_
              refine L_ret ?_
              obtain rfl := Option.some.inj h
              exact E_endF (.inr rfl) (res_tmp rfl res_nil) (vw_cons (vd_one vc_v) vw_nil) (fun h hb => own_p) rfl rfl
      · replace h := ifF c6 h
        refine ol_put rfl rfl rfl (q_bin rfl rfl (p_eql_f _ _ _ _ _ c6) rfl) ?_
        refine ol_put rfl rfl rfl (q_move (v := .one (bC false)) rfl) ?_
        refine ol_skip rfl rfl rfl ?_
        refine ol_skip rfl rfl rfl ?_
        refine ol_skip rfl rfl rfl ?_
        refine ol_put rfl rfl rfl (q_pickF (v := .one (bC false)) rfl rfl) ?_
        refine ol_put rfl rfl rfl (q_pickF (v := .one (bC false)) rfl rfl) ?_
        refine ol_put rfl rfl rfl (q_move (v := .one (bC false)) rfl) ?_
        refine ol_put rfl rfl rfl (q_move (v := .one (iC .i64 n1)) rfl) ?_
        by_cases c14 : n1 = 3
        · replace h := ifT c14 h
          refine ol_put rfl rfl rfl (q_bin rfl rfl (p_eql_t _ _ _ _ _ c14) rfl) ?_
          refine ol_put rfl rfl rfl (q_move (v := .one (bC true)) rfl) ?_
          refine ol_put rfl rfl rfl (q_move (v := .one (iC .i64 n2)) rfl) ?_
          refine ol_put rfl rfl rfl (q_move (v := .one (iC .i64 n3)) rfl) ?_
          by_cases c15 : n2 = n3
          · replace h := ifT c15 h
            refine ol_put rfl rfl rfl (q_bin rfl rfl (p_eql_t _ _ _ _ _ c15) rfl) ?_
            refine ol_put rfl rfl rfl (q_pickT (v := .one (bC true)) rfl rfl) ?_
            refine ol_put rfl rfl rfl (q_pickF (v := .one (bC true)) rfl rfl) ?_
            refine ol_put rfl rfl rfl (q_move (v := .one (bC true)) rfl) ?_
            refine ol_skip rfl rfl rfl ?_
            refine ol_skip rfl rfl rfl ?_
            refine ol_skip rfl rfl rfl ?_
            refine ol_skip rfl rfl rfl ?_
            refine ol_skip rfl rfl rfl ?_
            refine ol_skip rfl rfl rfl ?_
            refine ol_skip rfl rfl rfl ?_
            refine ol_put rfl rfl rfl (q_pickT (v := .one (bC true)) rfl rfl) ?_
            refine ol_put rfl rfl rfl (q_assign (v := .one (bC true)) rfl) ?_
            refine ol_end ?_
            refine E_seq ?_
            refine L_ret ?_
            obtain rfl := Option.some.inj h
            exact E_endF (.inr rfl) (res_tmp rfl res_nil) (vw_cons (vd_one vc_v) vw_nil) (fun h hb => own_p) rfl rfl
          · replace h := ifF c15 h
            refine ol_put rfl rfl rfl (q_bin rfl rfl (p_eql_f _ _ _ _ _ c15) rfl) ?_
            refine ol_put rfl rfl rfl (q_pickT (v := .one (bC false)) rfl rfl) ?_
            refine ol_put rfl rfl rfl (q_pickF (v := .one (bC false)) rfl rfl) ?_
            refine ol_put rfl rfl rfl (q_move (v := .one (bC false)) rfl) ?_
            refine ol_put rfl rfl rfl (q_move (v := .one (iC .i64 n1)) rfl) ?_
            by_cases c16 : n1 = 4
            · replace h := ifT c16 h
              refine ol_put rfl rfl rfl (q_bin rfl rfl (p_eql_t _ _ _ _ _ c16) rfl) ?_
              refine ol_put rfl rfl rfl (q_move (v := .one (bC true)) rfl) ?_
              refine ol_put rfl rfl rfl (q_move (v := .one (iC .i64 n2)) rfl) ?_
              refine ol_put rfl rfl rfl (q_move (v := .one (iC .i64 n3)) rfl) ?_
              by_cases c17 : n2 ≠ n3
              · replace h := ifT c17 h
                refine ol_put rfl rfl rfl (q_bin rfl rfl (p_neq_t _ _ _ _ _ c17) rfl) ?_
                refine ol_put rfl rfl rfl (q_pickT (v := .one (bC true)) rfl rfl) ?_
                refine ol_put rfl rfl rfl (q_pickF (v := .one (bC true)) rfl rfl) ?_
                refine ol_put rfl rfl rfl (q_assign (v := .one (bC true)) rfl) ?_
                refine ol_end ?_
                refine E_seq ?_
                refine L_ret ?_
                obtain rfl := Option.some.inj h
                exact E_endF (.inr rfl) (res_tmp rfl res_nil) (vw_cons (vd_one vc_v) vw_nil) (fun h hb => own_p) rfl rfl
              · replace h := ifF c17 h
                refine ol_put rfl rfl rfl (q_bin rfl rfl (p_neq_f _ _ _ _ _ c17) rfl) ?_
                refine ol_put rfl rfl rfl (q_pickT (v := .one (bC false)) rfl rfl) ?_
                refine ol_put rfl rfl rfl (q_pickF (v := .one (bC false)) rfl rfl) ?_
                refine ol_put rfl rfl rfl (q_assign (v := .one (bC false)) rfl) ?_
                refine ol_end ?_
                refine E_seq ?_
                refine L_ret ?_
                obtain rfl := Option.some.inj h
                exact E_endF (.inr rfl) (res_tmp rfl res_nil) (vw_cons (vd_one vc_v) vw_nil) (fun h hb => own_p) rfl rfl
            · replace h := ifF c16 h
              refine ol_put rfl rfl rfl (q_bin rfl rfl (p_eql_f _ _ _ _ _ c16) rfl) ?_
              refine ol_put rfl rfl rfl (q_move (v := .one (bC false)) rfl) ?_
              refine ol_skip rfl rfl rfl ?_
              refine ol_skip rfl rfl rfl ?_
              refine ol_skip rfl rfl rfl ?_
              refine ol_put rfl rfl rfl (q_pickF (v := .one (bC false)) rfl rfl) ?_
              refine ol_put rfl rfl rfl (q_pickF (v := .one (bC false)) rfl rfl) ?_
              refine ol_put rfl rfl rfl (q_assign (v := .one (bC false)) rfl) ?_
              refine ol_end ?_
              refine E_seq ?_
              refine L_ret ?_
              obtain rfl := Option.some.inj h
              exact E_endF (.inr rfl) (res_tmp rfl res_nil) (vw_cons (vd_one vc_v) vw_nil) (fun h hb => own_p) rfl rfl
        · replace h := ifF c14 h
          refine ol_put rfl rfl rfl (q_bin rfl rfl (p_eql_f _ _ _ _ _ c14) rfl) ?_
          refine ol_put rfl rfl rfl (q_move (v := .one (bC false)) rfl) ?_
          refine ol_skip rfl rfl rfl ?_
          refine ol_skip rfl rfl rfl ?_
          refine ol_skip rfl rfl rfl ?_
          refine ol_put rfl rfl rfl (q_pickF (v := .one (bC false)) rfl rfl) ?_
          refine ol_put rfl rfl rfl (q_pickF (v := .one (bC false)) rfl rfl) ?_
          refine ol_put rfl rfl rfl (q_move (v := .one (bC false)) rfl) ?_
          refine ol_put rfl rfl rfl (q_move (v := .one (iC .i64 n1)) rfl) ?_
          by_cases c18 : n1 = 4
          · replace h := ifT c18 h
            refine ol_put rfl rfl rfl (q_bin rfl rfl (p_eql_t _ _ _ _ _ c18) rfl) ?_
            refine ol_put rfl rfl rfl (q_move (v := .one (bC true)) rfl) ?_
            refine ol_put rfl rfl rfl (q_move (v := .one (iC .i64 n2)) rfl) ?_
            refine ol_put rfl rfl rfl (q_move (v := .one (iC .i64 n3)) rfl) ?_
            by_cases c19 : n2 ≠ n3
            · replace h := ifT c19 h
              refine ol_put rfl rfl rfl (q_bin rfl rfl (p_neq_t _ _ _ _ _ c19) rfl) ?_
              refine ol_put rfl rfl rfl (q_pickT (v := .one (bC true)) rfl rfl) ?_
              refine ol_put rfl rfl rfl (q_pickF (v := .one (bC true)) rfl rfl) ?_
              refine ol_put rfl rfl rfl (q_assign (v := .one (bC true)) rfl) ?_
              refine ol_end ?_
              refine E_seq ?_
              refine L_ret ?_
              obtain rfl := Option.some.inj h
              exact E_endF (.inr rfl) (res_tmp rfl res_nil) (vw_cons (vd_one vc_v) vw_nil) (fun h hb => own_p) rfl rfl
            · replace h := ifF c19 h
              refine ol_put rfl rfl rfl (q_bin rfl rfl (p_neq_f _ _ _ _ _ c19) rfl) ?_
              refine ol_put rfl rfl rfl (q_pickT (v := .one (bC false)) rfl rfl) ?_
              refine ol_put rfl rfl rfl (q_pickF (v := .one (bC false)) rfl rfl) ?_
              refine ol_put rfl rfl rfl (q_assign (v := .one (bC false)) rfl) ?_
              refine ol_end ?_
              refine E_seq ?_
              refine L_ret ?_
              obtain rfl := Option.some.inj h
              exact E_endF (.inr rfl) (res_tmp rfl res_nil) (vw_cons (vd_one vc_v) vw_nil) (fun h hb => own_p) rfl rfl
          · replace h := ifF c18 h
            refine ol_put rfl rfl rfl (q_bin rfl rfl (p_eql_f _ _ _ _ _ c18) rfl) ?_
            refine ol_put rfl rfl rfl (q_move (v := .one (bC false)) rfl) ?_
            refine ol_skip rfl rfl rfl ?_
            refine ol_skip rfl rfl rfl ?_
            refine ol_skip rfl rfl rfl ?_
            refine ol_put rfl rfl rfl (q_pickF (v := .one (bC false)) rfl rfl) ?_
            refine ol_put rfl rfl rfl (q_pickF (v := .one (bC false)) rfl rfl) ?_
            refine ol_put rfl rfl rfl (q_assign (v := .one (bC false)) rfl) ?_
            refine ol_end ?_
            refine E_seq ?_
            refine L_ret ?_
            obtain rfl := Option.some.inj h
            exact E_endF (.inr rfl) (res_tmp rfl res_nil) (vw_cons (vd_one vc_v) vw_nil) (fun h hb => own_p) rfl rfl
  · replace h := ifF c4 h
    refine ol_put rfl rfl rfl (q_bin rfl rfl (p_eql_f _ _ _ _ _ c4) rfl) ?_
    refine ol_put rfl rfl rfl (q_move (v := .one (bC false)) rfl) ?_
    refine ol_skip rfl rfl rfl ?_
    refine ol_skip rfl rfl rfl ?_
    refine ol_skip rfl rfl rfl ?_
    refine ol_put rfl rfl rfl (q_pickF (v := .one (bC false)) rfl rfl) ?_
    refine ol_put rfl rfl rfl (q_move (v := .one (bC false)) rfl) ?_
    refine ol_put rfl rfl rfl (q_move (v := .one (iC .i64 n1)) rfl) ?_
    by_cases c20 : n1 = 2
    · replace h := ifT c20 h
      refine ol_put rfl rfl rfl (q_bin rfl rfl (p_eql_t _ _ _ _ _ c20) rfl) ?_
      refine ol_put rfl rfl rfl (q_move (v := .one (bC true)) rfl) ?_
      refine ol_put rfl rfl rfl (q_move (v := .one (iC .i64 n2)) rfl) ?_
      refine ol_put rfl rfl rfl (q_move (v := .one (iC .i64 n3)) rfl) ?_
      by_cases c21 : n2 > n3
      · replace h := ifT c21 h
        refine ol_put rfl rfl rfl (q_bin rfl rfl (p_gtr_t _ _ _ _ _ c21) rfl) ?_
        refine ol_put rfl rfl rfl (q_pickT (v := .one (bC true)) rfl rfl) ?_
        refine ol_put rfl rfl rfl (q_pickF (v := .one (bC true)) rfl rfl) ?_
        refine ol_put rfl rfl rfl (q_move (v := .one (bC true)) rfl) ?_
        refine ol_skip rfl rfl rfl ?_
        refine ol_skip rfl rfl rfl ?_
        refine ol_skip rfl rfl rfl ?_
        refine ol_skip rfl rfl rfl ?_
        refine ol_skip rfl rfl rfl ?_
        refine ol_skip rfl rfl rfl ?_
        refine ol_skip rfl rfl rfl ?_
        refine ol_put rfl rfl rfl (q_pickT (v := .one (bC true)) rfl rfl) ?_
        refine ol_put rfl rfl rfl (q_move (v := .one (bC true)) rfl) ?_
        refine ol_skip rfl rfl rfl ?_
        refine ol_skip rfl rfl rfl ?_
        refine ol_skip rfl rfl rfl ?_
        refine ol_skip rfl rfl rfl ?_
        refine ol_skip rfl rfl rfl ?_
        refine ol_skip rfl rfl rfl ?_
        refine ol_skip rfl rfl rfl ?_
        refine ol_put rfl rfl rfl (q_pickT (v := .one (bC true)) rfl rfl) ?_
        refine ol_put rfl rfl rfl (q_assign (v := .one (bC true)) rfl) ?_
        refine ol_end ?_
        refine E_seq ?_
        refine L_ret ?_
        obtain rfl := Option.some.inj h
        exact E_endF (.inr rfl) (res_tmp rfl res_nil) (vw_cons (vd_one vc_v) vw_nil) (fun h hb => own_p) rfl rfl
      · replace h := ifF c21 h
        refine ol_put rfl rfl rfl (q_bin rfl rfl (p_gtr_f _ _ _ _ _ c21) rfl) ?_
        refine ol_put rfl rfl rfl (q_pickT (v := .one (bC false)) rfl rfl) ?_
        refine ol_put rfl rfl rfl (q_pickF (v := .one (bC false)) rfl rfl) ?_
        refine ol_put rfl rfl rfl (q_move (v := .one (bC false)) rfl) ?_
        refine ol_put rfl rfl rfl (q_move (v := .one (iC .i64 n1)) rfl) ?_
        by_cases c22 : n1 = 3
        · replace h := ifT c22 h
          refine ol_put rfl rfl rfl (q_bin rfl rfl (p_eql_t _ _ _ _ _ c22) rfl) ?_
          refine ol_put rfl rfl rfl (q_move (v := .one (bC true)) rfl) ?_
          refine ol_put rfl rfl rfl (q_move (v := .one (iC .i64 n2)) rfl) ?_
          refine ol_put rfl rfl rfl (q_move (v := .one (iC .i64 n3)) rfl) ?_
          by_cases c23 : n2 = n3
          · replace h := ifT c23 h
            refine ol_put rfl rfl rfl (q_bin rfl rfl (p_eql_t _ _ _ _ _ c23) rfl) ?_
            refine ol_put rfl rfl rfl (q_pickT (v := .one (bC true)) rfl rfl) ?_
            refine ol_put rfl rfl rfl (q_pickF (v := .one (bC true)) rfl rfl) ?_
            refine ol_put rfl rfl rfl (q_move (v := .one (bC true)) rfl) ?_
            refine ol_skip rfl rfl rfl ?_
            refine ol_skip rfl rfl rfl ?_
            refine ol_skip rfl rfl rfl ?_
            refine ol_skip rfl rfl rfl ?_
            refine ol_skip rfl rfl rfl ?_
            refine ol_skip rfl rfl rfl ?_
            refine ol_skip rfl rfl rfl ?_
            refine ol_put rfl rfl rfl (q_pickT (v := .one (bC true)) rfl rfl) ?_
            refine ol_put rfl rfl rfl (q_assign (v := .one (bC true)) rfl) ?_
            refine ol_end ?_
            refine E_seq ?_
            refine L_ret ?_
            obtain rfl := Option.some.inj h
            exact E_endF (.inr rfl) (res_tmp rfl res_nil) (vw_cons (vd_one vc_v) vw_nil) (fun h hb => own_p) rfl rfl
          · replace h := ifF c23 h
            refine ol_put rfl rfl rfl (q_bin rfl rfl (p_eql_f _ _ _ _ _ c23) rfl) ?_
            refine ol_put rfl rfl rfl (q_pickT (v := .one (bC false)) rfl rfl) ?_
            refine ol_put rfl rfl rfl (q_pickF (v := .one (bC false)) rfl rfl) ?_
            refine ol_put rfl rfl rfl (q_move (v := .one (bC false)) rfl) ?_
            refine ol_put rfl rfl rfl (q_move (v := .one (iC .i64 n1)) rfl) ?_
            by_cases c24 : n1 = 4
            · replace h := ifT c24 h
              refine ol_put rfl rfl rfl (q_bin rfl rfl (p_eql_t _ _ _ _ _ c24) rfl) ?_
              refine ol_put rfl rfl rfl (q_move (v := .one (bC true)) rfl) ?_
              refine ol_put rfl rfl rfl (q_move (v := .one (iC .i64 n2)) rfl) ?_
              refine ol_put rfl rfl rfl (q_move (v := .one (iC .i64 n3)) rfl) ?_
              by_cases c25 : n2 ≠ n3
              · replace h := ifT c25 h
                refine ol_put rfl rfl rfl (q_bin rfl rfl (p_neq_t _ _ _ _ _ c25) rfl) ?_
                refine ol_put rfl rfl rfl (q_pickT (v := .one (bC true)) rfl rfl) ?_
                refine ol_put rfl rfl rfl (q_pickF (v := .one (bC true)) rfl rfl) ?_
                refine ol_put rfl rfl rfl (q_assign (v := .one (bC true)) rfl) ?_
                refine ol_end ?_
                refine E_seq ?_
                refine L_ret ?_
                obtain rfl := Option.some.inj h
                exact E_endF (.inr rfl) (res_tmp rfl res_nil) (vw_cons (vd_one vc_v) vw_nil) (fun h hb => own_p) rfl rfl
              · replace h := ifF c25 h
                refine ol_put rfl rfl rfl (q_bin rfl rfl (p_neq_f _ _ _ _ _ c25) rfl) ?_
                refine ol_put rfl rfl rfl (q_pickT (v := .one (bC false)) rfl rfl) ?_
                refine ol_put rfl rfl rfl (q_pickF (v := .one (bC false)) rfl rfl) ?_
                refine ol_put rfl rfl rfl (q_assign (v := .one (bC false)) rfl) ?_
                refine ol_end ?_
                refine E_seq ?_
                refine L_ret ?_
                obtain rfl := Option.some.inj h
                exact E_endF (.inr rfl) (res_tmp rfl res_nil) (vw_cons (vd_one vc_v) vw_nil) (fun h hb => own_p) rfl rfl
            · replace h := ifF c24 h
              refine ol_put rfl rfl rfl (q_bin rfl rfl (p_eql_f _ _ _ _ _ c24) rfl) ?_
              refine ol_put rfl rfl rfl (q_move (v := .one (bC false)) rfl) ?_
              refine ol_skip rfl rfl rfl ?_
              refine ol_skip rfl rfl rfl ?_
              refine ol_skip rfl rfl rfl ?_
              refine ol_put rfl rfl rfl (q_pickF (v := .one (bC false)) rfl rfl) ?_
              refine ol_put rfl rfl rfl (q_pickF (v := .one (bC false)) rfl rfl) ?_
              refine ol_put rfl rfl rfl (q_assign (v := .one (bC false)) rfl) ?_
              refine ol_end ?_
              refine E_seq ?_
              refine L_ret ?_
              obtain rfl := Option.some.inj h
              exact E_endF (.inr rfl) (res_tmp rfl res_nil) (vw_cons (vd_one vc_v) vw_nil) (fun h hb => own_p) rfl rfl
        · replace h := ifF c22 h
          refine ol_put rfl rfl rfl (q_bin rfl rfl (p_eql_f _ _ _ _ _ c22) rfl) ?_
          refine ol_put rfl rfl rfl (q_move (v := .one (bC false)) rfl) ?_
          refine ol_skip rfl rfl rfl ?_
          refine ol_skip rfl rfl rfl ?_
          refine ol_skip rfl rfl rfl ?_
          refine ol_put rfl rfl rfl (q_pickF (v := .one (bC false)) rfl rfl) ?_
          refine ol_put rfl rfl rfl (q_pickF (v := .one (bC false)) rfl rfl) ?_
          refine ol_put rfl rfl rfl (q_move (v := .one (bC false)) rfl) ?_
          refine ol_put rfl rfl rfl (q_move (v := .one (iC .i64 n1)) rfl) ?_
          by_cases c26 : n1 = 4
          · replace h := ifT c26 h
            refine ol_put rfl rfl rfl (q_bin rfl rfl (p_eql_t _ _ _ _ _ c26) rfl) ?_
            refine ol_put rfl rfl rfl (q_move (v := .one (bC true)) rfl) ?_
            refine ol_put rfl rfl rfl (q_move (v := .one (iC .i64 n2)) rfl) ?_
            refine ol_put rfl rfl rfl (q_move (v := .one (iC .i64 n3)) rfl) ?_
            by_cases c27 : n2 ≠ n3
            · replace h := ifT c27 h
              refine ol_put rfl rfl rfl (q_bin rfl rfl (p_neq_t _ _ _ _ _ c27) rfl) ?_
              refine ol_put rfl rfl rfl (q_pickT (v := .one (bC true)) rfl rfl) ?_
              refine ol_put rfl rfl rfl (q_pickF (v := .one (bC true)) rfl rfl) ?_
              refine ol_put rfl rfl rfl (q_assign (v := .one (bC true)) rfl) ?_
              refine ol_end ?_
              refine E_seq ?_
              refine L_ret ?_
              obtain rfl := Option.some.inj h
              exact E_endF (.inr rfl) (res_tmp rfl res_nil) (vw_cons (vd_one vc_v) vw_nil) (fun h hb => own_p) rfl rfl
            · replace h := ifF c27 h
              refine ol_put rfl rfl rfl (q_bin rfl rfl (p_neq_f _ _ _ _ _ c27) rfl) ?_
              refine ol_put rfl rfl rfl (q_pickT (v := .one (bC false)) rfl rfl) ?_
              refine ol_put rfl rfl rfl (q_pickF (v := .one (bC false)) rfl rfl) ?_
              refine ol_put rfl rfl rfl (q_assign (v := .one (bC false)) rfl) ?_
              refine ol_end ?_
              refine E_seq ?_
              refine L_ret ?_
              obtain rfl := Option.some.inj h
              exact E_endF (.inr rfl) (res_tmp rfl res_nil) (vw_cons (vd_one vc_v) vw_nil) (fun h hb => own_p) rfl rfl
          · replace h := ifF c26 h
            refine ol_put rfl rfl rfl (q_bin rfl rfl (p_eql_f _ _ _ _ _ c26) rfl) ?_
            refine ol_put rfl rfl rfl (q_move (v := .one (bC false)) rfl) ?_
            refine ol_skip rfl rfl rfl ?_
            refine ol_skip rfl rfl rfl ?_
            refine ol_skip rfl rfl rfl ?_
            refine ol_put rfl rfl rfl (q_pickF (v := .one (bC false)) rfl rfl) ?_
            refine ol_put rfl rfl rfl (q_pickF (v := .one (bC false)) rfl rfl) ?_
            refine ol_put rfl rfl rfl (q_assign (v := .one (bC false)) rfl) ?_
            refine ol_end ?_
            refine E_seq ?_
            refine L_ret ?_
            obtain rfl := Option.some.inj h
            exact E_endF (.inr rfl) (res_tmp rfl res_nil) (vw_cons (vd_one vc_v) vw_nil) (fun h hb => own_p) rfl rfl
    · replace h := ifF c20 h
      refine ol_put rfl rfl rfl (q_bin rfl rfl (p_eql_f _ _ _ _ _ c20) rfl) ?_
      refine ol_put rfl rfl rfl (q_move (v := .one (bC false)) rfl) ?_
      refine ol_skip rfl rfl rfl ?_
      refine ol_skip rfl rfl rfl ?_
      refine ol_skip rfl rfl rfl ?_
      refine ol_put rfl rfl rfl (q_pickF (v := .one (bC false)) rfl rfl) ?_
      refine ol_put rfl rfl rfl (q_pickF (v := .one (bC false)) rfl rfl) ?_
      refine ol_put rfl rfl rfl (q_move (v := .one (bC false)) rfl) ?_
      refine ol_put rfl rfl rfl (q_move (v := .one (iC .i64 n1)) rfl) ?_
      by_cases c28 : n1 = 3
      · replace h := ifT c28 h
        refine ol_put rfl rfl rfl (q_bin rfl rfl (p_eql_t _ _ _ _ _ c28) rfl) ?_
        refine ol_put rfl rfl rfl (q_move (v := .one (bC true)) rfl) ?_
        refine ol_put rfl rfl rfl (q_move (v := .one (iC .i64 n2)) rfl) ?_
        refine ol_put rfl rfl rfl (q_move (v := .one (iC .i64 n3)) rfl) ?_
        by_cases c29 : n2 = n3
        · replace h := ifT c29 h
          refine ol_put rfl rfl rfl (q_bin rfl rfl (p_eql_t _ _ _ _ _ c29) rfl) ?_
          refine ol_put rfl rfl rfl (q_pickT (v := .one (bC true)) rfl rfl) ?_
          refine ol_put rfl rfl rfl (q_pickF (v := .one (bC true)) rfl rfl) ?_
          refine ol_put rfl rfl rfl (q_move (v := .one (bC true)) rfl) ?_
          refine ol_skip rfl rfl rfl ?_
          refine ol_skip rfl rfl rfl ?_
          refine ol_skip rfl rfl rfl ?_
          refine ol_skip rfl rfl rfl ?_
          refine ol_skip rfl rfl rfl ?_
          refine ol_skip rfl rfl rfl ?_
          refine ol_skip rfl rfl rfl ?_
          refine ol_put rfl rfl rfl (q_pickT (v := .one (bC true)) rfl rfl) ?_
          refine ol_put rfl rfl rfl (q_assign (v := .one (bC true)) rfl) ?_
          refine ol_end ?_
          refine E_seq ?_
          refine L_ret ?_
          obtain rfl := Option.some.inj h
          exact E_endF (.inr rfl) (res_tmp rfl res_nil) (vw_cons (vd_one vc_v) vw_nil) (fun h hb => own_p) rfl rfl
        · replace h := ifF c29 h
          refine ol_put rfl rfl rfl (q_bin rfl rfl (p_eql_f _ _ _ _ _ c29) rfl) ?_
          refine ol_put rfl rfl rfl (q_pickT (v := .one (bC false)) rfl rfl) ?_
          refine ol_put rfl rfl rfl (q_pickF (v := .one (bC false)) rfl rfl) ?_
          refine ol_put rfl rfl rfl (q_move (v := .one (bC false)) rfl) ?_
          refine ol_put rfl rfl rfl (q_move (v := .one (iC .i64 n1)) rfl) ?_
          by_cases c30 : n1 = 4
          · replace h := ifT c30 h
            refine ol_put rfl rfl rfl (q_bin rfl rfl (p_eql_t _ _ _ _ _ c30) rfl) ?_
            refine ol_put rfl rfl rfl (q_move (v := .one (bC true)) rfl) ?_
            refine ol_put rfl rfl rfl (q_move (v := .one (iC .i64 n2)) rfl) ?_
            refine ol_put rfl rfl rfl (q_move (v := .one (iC .i64 n3)) rfl) ?_
            by_cases c31 : n2 ≠ n3
            · replace h := ifT c31 h
              refine ol_put rfl rfl rfl (q_bin rfl rfl (p_neq_t _ _ _ _ _ c31) rfl) ?_
              refine ol_put rfl rfl rfl (q_pickT (v := .one (bC true)) rfl rfl) ?_
              refine ol_put rfl rfl rfl (q_pickF (v := .one (bC true)) rfl rfl) ?_
              refine ol_put rfl rfl rfl (q_assign (v := .one (bC true)) rfl) ?_
              refine ol_end ?_
              refine E_seq ?_
              refine L_ret ?_
              obtain rfl := Option.some.inj h
              exact E_endF (.inr rfl) (res_tmp rfl res_nil) (vw_cons (vd_one vc_v) vw_nil) (fun h hb => own_p) rfl rfl
            · replace h := ifF c31 h
              refine ol_put rfl rfl rfl (q_bin rfl rfl (p_neq_f _ _ _ _ _ c31) rfl) ?_
              refine ol_put rfl rfl rfl (q_pickT (v := .one (bC false)) rfl rfl) ?_
              refine ol_put rfl rfl rfl (q_pickF (v := .one (bC false)) rfl rfl) ?_
              refine ol_put rfl rfl rfl (q_assign (v := .one (bC false)) rfl) ?_
              refine ol_end ?_
              refine E_seq ?_
              refine L_ret ?_
              obtain rfl := Option.some.inj h
              exact E_endF (.inr rfl) (res_tmp rfl res_nil) (vw_cons (vd_one vc_v) vw_nil) (fun h hb => own_p) rfl rfl
          · replace h := ifF c30 h
            refine ol_put rfl rfl rfl (q_bin rfl rfl (p_eql_f _ _ _ _ _ c30) rfl) ?_
            refine ol_put rfl rfl rfl (q_move (v := .one (bC false)) rfl) ?_
            refine ol_skip rfl rfl rfl ?_
            refine ol_skip rfl rfl rfl ?_
            refine ol_skip rfl rfl rfl ?_
            refine ol_put rfl rfl rfl (q_pickF (v := .one (bC false)) rfl rfl) ?_
            refine ol_put rfl rfl rfl (q_pickF (v := .one (bC false)) rfl rfl) ?_
            refine ol_put rfl rfl rfl (q_assign (v := .one (bC false)) rfl) ?_
            refine ol_end ?_
            refine E_seq ?_
            refine L_ret ?_
            obtain rfl := Option.some.inj h
            exact E_endF (.inr rfl) (res_tmp rfl res_nil) (vw_cons (vd_one vc_v) vw_nil) (fun h hb => own_p) rfl rfl
      · replace h := ifF c28 h
        refine ol_put rfl rfl rfl (q_bin rfl rfl (p_eql_f _ _ _ _ _ c28) rfl) ?_
        refine ol_put rfl rfl rfl (q_move (v := .one (bC false)) rfl) ?_
        refine ol_skip rfl rfl rfl ?_
        refine ol_skip rfl rfl rfl ?_
        refine ol_skip rfl rfl rfl ?_
        refine ol_put rfl rfl rfl (q_pickF (v := .one (bC false)) rfl rfl) ?_
        refine ol_put rfl rfl rfl (q_pickF (v := .one (bC false)) rfl rfl) ?_
        refine ol_put rfl rfl rfl (q_move (v := .one (bC false)) rfl) ?_
        refine ol_put rfl rfl rfl (q_move (v := .one (iC .i64 n1)) rfl) ?_
        by_cases c32 : n1 = 4
        · replace h := ifT c32 h
          refine ol_put rfl rfl rfl (q_bin rfl rfl (p_eql_t _ _ _ _ _ c32) rfl) ?_
          refine ol_put rfl rfl rfl (q_move (v := .one (bC true)) rfl) ?_
          refine ol_put rfl rfl rfl (q_move (v := .one (iC .i64 n2)) rfl) ?_
          refine ol_put rfl rfl rfl (q_move (v := .one (iC .i64 n3)) rfl) ?_
          by_cases c33 : n2 ≠ n3
          · replace h := ifT c33 h
            refine ol_put rfl rfl rfl (q_bin rfl rfl (p_neq_t _ _ _ _ _ c33) rfl) ?_
            refine ol_put rfl rfl rfl (q_pickT (v := .one (bC true)) rfl rfl) ?_
            refine ol_put rfl rfl rfl (q_pickF (v := .one (bC true)) rfl rfl) ?_
            refine ol_put rfl rfl rfl (q_assign (v := .one (bC true)) rfl) ?_
            refine ol_end ?_
            refine E_seq ?_
            refine L_ret ?_
            obtain rfl := Option.some.inj h
            exact E_endF (.inr rfl) (res_tmp rfl res_nil) (vw_cons (vd_one vc_v) vw_nil) (fun h hb => own_p) rfl rfl
          · replace h := ifF c33 h
            refine ol_put rfl rfl rfl (q_bin rfl rfl (p_neq_f _ _ _ _ _ c33) rfl) ?_
            refine ol_put rfl rfl rfl (q_pickT (v := .one (bC false)) rfl rfl) ?_
            refine ol_put rfl rfl rfl (q_pickF (v := .one (bC false)) rfl rfl) ?_
            refine ol_put rfl rfl rfl (q_assign (v := .one (bC false)) rfl) ?_
            refine ol_end ?_
            refine E_seq ?_
            refine L_ret ?_
            obtain rfl := Option.some.inj h
            exact E_endF (.inr rfl) (res_tmp rfl res_nil) (vw_cons (vd_one vc_v) vw_nil) (fun h hb => own_p) rfl rfl
        · replace h := ifF c32 h
          refine ol_put rfl rfl rfl (q_bin rfl rfl (p_eql_f _ _ _ _ _ c32) rfl) ?_
          refine ol_put rfl rfl rfl (q_move (v := .one (bC false)) rfl) ?_
          refine ol_skip rfl rfl rfl ?_
          refine ol_skip rfl rfl rfl ?_
          refine ol_skip rfl rfl rfl ?_
          refine ol_put rfl rfl rfl (q_pickF (v := .one (bC false)) rfl rfl) ?_
          refine ol_put rfl rfl rfl (q_pickF (v := .one (bC false)) rfl rfl) ?_
          refine ol_put rfl rfl rfl (q_assign (v := .one (bC false)) rfl) ?_
          refine ol_end ?_
          refine E_seq ?_
          refine L_ret ?_
          obtain rfl := Option.some.inj h
          exact E_endF (.inr rfl) (res_tmp rfl res_nil) (vw_cons (vd_one vc_v) vw_nil) (fun h hb => own_p) rfl rfl

noncomputable def fold_Where_b1 (n3 : Int) (n4 : Int) (s9 : Sl (Int × Int)) (a : Int × (List (Int × Int))) : Option ((Int × (List (Int × Int))) ⊕ ((List (Int × Int)) ⊕ (Int × (Sl (Int × Int))))) :=
  match a with
  | (n51, l52) => (if n51 < ((s9.l.length : Nat) : Int) then ((atS 2 s9 n51).bind fun (n59, n60) => ((fold_Holds n3 n60 n4).bind fun b63 => (if b63 = true then ((app l52 ([(n59, n60)] : List (Int × Int))).bind fun _ => some (.inl ((IntKind.i64.wrap (n51 + 1)), (l52 ++ ([(n59, n60)] : List (Int × Int)))))) else some (.inl ((IntKind.i64.wrap (n51 + 1)), l52))))) else some (.inr (.inl l52)))
noncomputable def fold_Where (a0 : Int × (Sl (Int × Int))) (n3 : Int) (n4 : Int) : Option ((Int × (Sl (Int × Int)))) :=
  match a0 with
  | (n1, s2) => ((fold_sure (n1, s2)).bind fun (n8, s9) => ((loopO (fold_Where_b1 n3 n4 s9) (0, ([] : List (Int × Int)))).bind (Sum.elim (fun l67 => some (n8, (mo 2 l67))) (fun u => some u))))
theorem fold_Where_r (m : Nat) {a0 : Int × (Sl (Int × Int))} {n3 : Int} {n4 : Int} {out : (Int × (Sl (Int × Int)))} (h : fold_Where a0 n3 n4 = some out) : RunsP E1 (m + 4) 19 [.agg (r24 a0), .one (iT .i64 n3), .one (iT .i64 n4)] (.fresh, [.agg (r24 out)]) := by
  obtain ⟨n1, s2⟩ := a0
  refine fn_F rfl (by rw [E1_fn]; exact show fiOf Try.prog 19 = _ by unfold fiOf; rw [Try.func19]; unfold Try.f19; rfl) rfl ?_
  dsimp only
  unfold fold_Where at h
  refine L_seq ?_
  refine L_ops ?_
  refine ol_new rfl rfl rfl (q_box ty25 rfl (cs := [iC .i64 n1, .p false (Sl.t r33 s2)]) rfl rfl) (fun k5 => ?_)
  refine ol_new rfl rfl rfl (q_alloc ty25 (row := [iC .i64 0, .p true (Sl.t r33 (⟨false, 0, []⟩ : Sl (Int × Int)))]) rfl rfl) (fun k6 => ?_)
  refine ol_end ?_
  refine E_seq ?_
  refine L_seq ?_
  refine L_ops ?_
  refine ol_put rfl rfl rfl (q_loadP (v := .agg [iC .i64 n1, .p false (Sl.t r33 s2)]) 1 rfl sz25 rfl rfl rfl rfl) ?_
  obtain ⟨⟨n8, s9⟩, h7, h⟩ := bindS h
  refine ol_putX rfl rfl rfl (q_callX (v := fun fr10 => .agg [iC .i64 n8, .p fr10 (Sl.t r33 s9)]) (args := [.agg [iC .i64 n1, .p false (Sl.t r33 s2)]]) (fold_sure_r (m + 0) h7) rfl rfl (vw_cons (vd_agg (vc_cons vc_v (vc_cons vc_s vc_nil))) vw_nil) rfl rfl (fun fr => rfl)) (fun fr10 => ?_)
  refine ol_wr rfl rfl (q_store (es' := [[iC .i64 n8, .p fr10 (Sl.t r33 s9)]]) 1 rfl rfl rfl sz25 rfl rfl rfl rfl rfl) rfl ?_
  refine ol_end ?_
  refine E_seq ?_
  refine L_seq ?_
  refine L_ops ?_
  refine ol_put rfl rfl rfl (q_fieldP rfl fa25_0 rfl) ?_
  refine ol_put rfl rfl rfl (q_loadP (v := .one (iC .i64 n8)) 1 rfl sz3 rfl rfl rfl rfl) ?_
  refine ol_put rfl rfl rfl (q_build (cs := [iC .i64 n8, .p true (Sl.t r33 (⟨false, 0, []⟩ : Sl (Int × Int)))]) ty25 rfl pl25 rfl) ?_
  refine ol_new rfl rfl rfl (q_alloc ty25 (row := [iC .i64 0, .p true (Sl.t r33 (⟨false, 0, []⟩ : Sl (Int × Int)))]) rfl rfl) (fun k11 => ?_)
  refine ol_wr rfl rfl (q_store (es' := [[iC .i64 n8, .p true (Sl.t r33 (⟨false, 0, []⟩ : Sl (Int × Int)))]]) 0 rfl rfl rfl sz25 rfl rfl rfl rfl rfl) rfl ?_
  refine ol_end ?_
  refine E_seq ?_
  refine L_seq ?_
  refine L_seq ?_
  refine L_ops ?_
  refine ol_put rfl rfl rfl (q_fieldP rfl fa25_1 rfl) ?_
  refine ol_put rfl rfl rfl (q_loadP (v := .one (.p fr10 (Sl.t r33 s9))) 2 rfl sz23 rfl rfl rfl rfl) ?_
  refine ol_put rfl rfl rfl (q_lenS rfl ty23 rfl rfl rfl rfl) ?_
  refine ol_put rfl rfl rfl (q_move (v := .one (iC .i64 0)) rfl) ?_
  refine ol_end ?_
  refine E_seq ?_
  refine L_block ?_
  let S1 : (Int × (List (Int × Int))) → Nat → (Nat → D) → Nat → D := fun a kt g => ups g [(1, .one (iC .i64 n3)), (2, .one (iC .i64 n4)), (6, .one (.ptr k6 0 0)), (7, .one (.ptr k11 0 0)), (16, .one (.p fr10 (Sl.t r33 s9))), (17, .one (iC .i64 ((s9.l.length : Nat) : Int))), (18, .one (iC .i64 a.1))]
  let SL1 : (Int × (List (Int × Int))) → Nat → BL := fun a kt => ([(k6, 2, [[iC .i64 0, .p true (Sl.t r33 (⟨false, 0, []⟩ : Sl (Int × Int)))]]), (k11, 2, [[iC .i64 n8, moC a.2 kt]])] ++ moL r33 2 a.2 kt : BL)
  let Sx1 : (List (Int × Int)) → Nat → (Nat → D) → Nat → D := fun a kt g => ups g [(6, .one (.ptr k6 0 0)), (7, .one (.ptr k11 0 0))]
  let SLx1 : (List (Int × Int)) → Nat → BL := fun a kt => ([(k6, 2, [[iC .i64 0, .p true (Sl.t r33 (⟨false, 0, []⟩ : Sl (Int × Int)))]]), (k11, 2, [[iC .i64 n8, moC a kt]])] ++ moL r33 2 a kt : BL)
  let G1 : (Int × (Sl (Int × Int))) → Ex → St → Prop := fun u => endQ E1 [.cell 6 25] (.fresh, [.agg (r24 u)])
  let J1 : ((List (Int × Int)) ⊕ (Int × (Sl (Int × Int)))) → Ex → St → Prop := JX 35 0 Sx1 SLx1 G1
  refine L_loopS (fold_Where_b1 n3 n4 s9) S1 SL1 J1 JX_n (0, ([] : List (Int × Int))) h 0 (ups_self ⟨rfl, rfl, rfl, rfl, rfl, rfl, rfl, trivial⟩) [1, 0] (by decide) rfl ?_ ?_
  · rintro ⟨n51, l52⟩ k53 g out h
    change fold_Where_b1 n3 n4 s9 (n51, l52) = some out at h
    unfold fold_Where_b1 at h
    rcases l52 with _ | ⟨y54, t55⟩
    · skip
      refine L_seq ?_
      refine L_ops ?_
      by_cases c56 : n51 < ((s9.l.length : Nat) : Int)
      · replace h := ifT c56 h
        refine ol_put rfl rfl rfl (q_bin rfl rfl (p_lss_t _ _ _ _ _ c56) rfl) ?_
        refine ol_end ?_
        refine E_seq ?_
        refine L_seq ?_
        refine L_condT rfl ?_
        refine L_skip ?_
        refine E_seq ?_
        refine L_seq ?_
        refine L_block ?_
        refine L_seq ?_
        refine L_ops ?_
        obtain ⟨⟨n59, n60⟩, h58, h⟩ := bindS h
        obtain ⟨h58a, h58b, h58⟩ := atS_some h58
        refine ol_put rfl rfl rfl (q_ixS rfl rfl h58a h58 (el23.trans (congrArg some h58b.symm))) ?_
        refine ol_put rfl rfl rfl (q_loadI (v := .agg [iC .i64 n59, iC .i64 n60]) rfl sz34 (map_get h58) rfl rfl) ?_
        refine ol_new rfl rfl rfl (q_alloc ty34 (row := [iC .i64 0, iC .i64 0]) rfl rfl) (fun k61 => ?_)
        refine ol_wr rfl rfl (q_store (es' := [[iC .i64 n59, iC .i64 n60]]) 0 rfl rfl rfl sz34 rfl rfl rfl rfl rfl) rfl ?_
        refine ol_end ?_
        refine E_seq ?_
        refine L_seq ?_
        refine L_ops ?_
        refine ol_put rfl rfl rfl (q_move (v := .one (iC .i64 n3)) rfl) ?_
        refine ol_put rfl rfl rfl (q_fieldP rfl fa34_1 rfl) ?_
        refine ol_put rfl rfl rfl (q_loadP (v := .one (iC .i64 n60)) 0 rfl sz2 rfl rfl rfl rfl) ?_
        refine ol_put rfl rfl rfl (q_move (v := .one (iC .i64 n4)) rfl) ?_
        obtain ⟨b63, h62, h⟩ := bindS h
        refine ol_put rfl rfl rfl (q_callF (v := .one (bC b63)) (args := [.one (iC .i64 n3), .one (iC .i64 n60), .one (iC .i64 n4)]) (fold_Holds_r (m + 2) h62) rfl rfl (vw_cons (vd_one vc_v) (vw_cons (vd_one vc_v) (vw_cons (vd_one vc_v) vw_nil))) rfl rfl) ?_
        refine ol_end ?_
        refine E_seq ?_
        rcases b63 with _ | _
        · replace h := ifF (by decide) h
          refine L_condF rfl ?_
          refine L_skip ?_
          refine E_blkN ?_
          refine E_seq ?_
          refine L_ops ?_
          refine ol_put rfl rfl rfl (q_bin rfl rfl (p_add _ _ _ _ _ _ _) rfl) ?_
          refine ol_put rfl rfl rfl (q_move (v := .one (iC .i64 (IntKind.i64.wrap (n51 + 1)))) rfl) ?_
          refine ol_end ?_
          obtain rfl := Option.some.inj h
          exact E_next 0 (ups_self ⟨rfl, rfl, rfl, rfl, rfl, rfl, rfl, trivial⟩) [1, 2] (by decide) rfl
        · replace h := ifT (by decide) h
          refine L_condT rfl ?_
          refine L_ops ?_
          refine ol_put rfl rfl rfl (q_fieldP rfl fa25_1 rfl) ?_
          refine ol_put rfl rfl rfl (q_loadP (v := .one (.p true (Sl.t r33 (mo 2 ([] : List (Int × Int)))))) 2 rfl sz23 rfl rfl rfl rfl) ?_
          refine ol_put rfl rfl rfl (q_loadP (v := .agg [iC .i64 n59, iC .i64 n60]) 0 rfl sz34 rfl rfl rfl rfl) ?_
          refine ol_new rfl rfl rfl (q_bslice (cs := [iC .i64 n59, iC .i64 n60]) (es := (([(n59, n60)] : List (Int × Int))).map (rowC r33)) ty23 rfl ty34 rfl rfl rfl rfl rfl) (fun k64 => ?_)
          obtain ⟨_, h65, h⟩ := bindS h
          obtain ⟨h65b, rfl⟩ := app_some h65
          refine ol_new rfl rfl rfl (q_app0 (xs := ((([] : List (Int × Int)) ++ ([(n59, n60)] : List (Int × Int)))).map (rowC r33)) rfl rfl (el_ownM 0 rfl) ⟨_, _, rfl⟩ (by simp [bound]) rfl el23 ty23 rfl rfl rfl rfl rfl) (fun k66 => ?_)
          refine ol_put rfl rfl rfl (q_fieldP rfl fa25_1 rfl) ?_
          refine ol_wr rfl rfl (q_store (es' := [[iC .i64 n8, .own k66 0 ((([] : List (Int × Int)) ++ ([(n59, n60)] : List (Int × Int)))).length]]) 4 rfl rfl rfl sz23 rfl rfl rfl rfl rfl) rfl ?_
          refine ol_end ?_
          refine E_blkN ?_
          refine E_seq ?_
          refine L_ops ?_
          refine ol_put rfl rfl rfl (q_bin rfl rfl (p_add _ _ _ _ _ _ _) rfl) ?_
          refine ol_put rfl rfl rfl (q_move (v := .one (iC .i64 (IntKind.i64.wrap (n51 + 1)))) rfl) ?_
          refine ol_end ?_
          obtain rfl := Option.some.inj h
          exact E_next k66 (ups_self ⟨rfl, rfl, rfl, rfl, rfl, rfl, rfl, trivial⟩) [3, 4, 0] (by decide) rfl
      · replace h := ifF c56 h
        refine ol_put rfl rfl rfl (q_bin rfl rfl (p_lss_f _ _ _ _ _ c56) rfl) ?_
        refine ol_end ?_
        refine E_seq ?_
        refine L_seq ?_
        refine L_condF rfl ?_
        refine L_exit ?_
        refine E_seqX ?_
        obtain rfl := Option.some.inj h
        exact E_out (E_exit 0 (ups_self ⟨rfl, rfl, trivial⟩) [0, 1] (by decide) rfl)
    · skip
      refine L_seq ?_
      refine L_ops ?_
      by_cases c56 : n51 < ((s9.l.length : Nat) : Int)
      · replace h := ifT c56 h
        refine ol_put rfl rfl rfl (q_bin rfl rfl (p_lss_t _ _ _ _ _ c56) rfl) ?_
        refine ol_end ?_
        refine E_seq ?_
        refine L_seq ?_
        refine L_condT rfl ?_
        refine L_skip ?_
        refine E_seq ?_
        refine L_seq ?_
        refine L_block ?_
        refine L_seq ?_
        refine L_ops ?_
        obtain ⟨⟨n59, n60⟩, h58, h⟩ := bindS h
        obtain ⟨h58a, h58b, h58⟩ := atS_some h58
        refine ol_put rfl rfl rfl (q_ixS rfl rfl h58a h58 (el23.trans (congrArg some h58b.symm))) ?_
        refine ol_put rfl rfl rfl (q_loadI (v := .agg [iC .i64 n59, iC .i64 n60]) rfl sz34 (map_get h58) rfl rfl) ?_
        refine ol_new rfl rfl rfl (q_alloc ty34 (row := [iC .i64 0, iC .i64 0]) rfl rfl) (fun k61 => ?_)
        refine ol_wr rfl rfl (q_store (es' := [[iC .i64 n59, iC .i64 n60]]) 0 rfl rfl rfl sz34 rfl rfl rfl rfl rfl) rfl ?_
        refine ol_end ?_
        refine E_seq ?_
        refine L_seq ?_
        refine L_ops ?_
        refine ol_put rfl rfl rfl (q_move (v := .one (iC .i64 n3)) rfl) ?_
        refine ol_put rfl rfl rfl (q_fieldP rfl fa34_1 rfl) ?_
        refine ol_put rfl rfl rfl (q_loadP (v := .one (iC .i64 n60)) 0 rfl sz2 rfl rfl rfl rfl) ?_
        refine ol_put rfl rfl rfl (q_move (v := .one (iC .i64 n4)) rfl) ?_
        obtain ⟨b63, h62, h⟩ := bindS h
        refine ol_put rfl rfl rfl (q_callF (v := .one (bC b63)) (args := [.one (iC .i64 n3), .one (iC .i64 n60), .one (iC .i64 n4)]) (fold_Holds_r (m + 2) h62) rfl rfl (vw_cons (vd_one vc_v) (vw_cons (vd_one vc_v) (vw_cons (vd_one vc_v) vw_nil))) rfl rfl) ?_
        refine ol_end ?_
        refine E_seq ?_
        rcases b63 with _ | _
        · replace h := ifF (by decide) h
          refine L_condF rfl ?_
          refine L_skip ?_
          refine E_blkN ?_
          refine E_seq ?_
          refine L_ops ?_
          refine ol_put rfl rfl rfl (q_bin rfl rfl (p_add _ _ _ _ _ _ _) rfl) ?_
          refine ol_put rfl rfl rfl (q_move (v := .one (iC .i64 (IntKind.i64.wrap (n51 + 1)))) rfl) ?_
          refine ol_end ?_
          obtain rfl := Option.some.inj h
          exact E_next k53 (ups_self ⟨rfl, rfl, rfl, rfl, rfl, rfl, rfl, trivial⟩) [1, 2, 3] (by decide) rfl
        · replace h := ifT (by decide) h
          refine L_condT rfl ?_
          refine L_ops ?_
          refine ol_put rfl rfl rfl (q_fieldP rfl fa25_1 rfl) ?_
          refine ol_put rfl rfl rfl (q_loadP (v := .one (.own k53 0 ((y54 :: t55)).length)) 2 rfl sz23 rfl rfl rfl rfl) ?_
          refine ol_put rfl rfl rfl (q_loadP (v := .agg [iC .i64 n59, iC .i64 n60]) 0 rfl sz34 rfl rfl rfl rfl) ?_
          refine ol_new rfl rfl rfl (q_bslice (cs := [iC .i64 n59, iC .i64 n60]) (es := (([(n59, n60)] : List (Int × Int))).map (rowC r33)) ty23 rfl ty34 rfl rfl rfl rfl rfl) (fun k64 => ?_)
          obtain ⟨_, h65, h⟩ := bindS h
          obtain ⟨h65b, rfl⟩ := app_some h65
          refine ol_app rfl rfl rfl (q_app 4 rfl rfl (el_ownM 0 rfl) rfl rfl h65 (fun y => rfl) el23 ty23 rfl rfl rfl rfl rfl) rfl (fun k66 => ?_)
          refine ol_put rfl rfl rfl (q_fieldP rfl fa25_1 rfl) ?_
          refine ol_wr rfl rfl (q_store (es' := [[iC .i64 n8, .own k66 0 (((y54 :: t55) ++ ([(n59, n60)] : List (Int × Int)))).length]]) 4 rfl rfl rfl sz23 rfl rfl rfl rfl rfl) rfl ?_
          refine ol_end ?_
          refine E_blkN ?_
          refine E_seq ?_
          refine L_ops ?_
          refine ol_put rfl rfl rfl (q_bin rfl rfl (p_add _ _ _ _ _ _ _) rfl) ?_
          refine ol_put rfl rfl rfl (q_move (v := .one (iC .i64 (IntKind.i64.wrap (n51 + 1)))) rfl) ?_
          refine ol_end ?_
          obtain rfl := Option.some.inj h
          exact E_next k66 (ups_self ⟨rfl, rfl, rfl, rfl, rfl, rfl, rfl, trivial⟩) [3, 4, 0] (by decide) rfl
      · replace h := ifF c56 h
        refine ol_put rfl rfl rfl (q_bin rfl rfl (p_lss_f _ _ _ _ _ c56) rfl) ?_
        refine ol_end ?_
        refine E_seq ?_
        refine L_seq ?_
        refine L_condF rfl ?_
        refine L_exit ?_
        refine E_seqX ?_
        obtain rfl := Option.some.inj h
        exact E_out (E_exit k53 (ups_self ⟨rfl, rfl, trivial⟩) [0, 1, 2] (by decide) rfl)
  · rintro (l67 | u) h
    · refine J_x (fun k68 g => ?_)
      replace h := elimL h
      rcases l67 with _ | ⟨y69, t70⟩
      · skip
        refine E_blkH ?_
        refine E_seq ?_
        refine L_seq ?_
        refine L_ops ?_
        refine ol_put rfl rfl rfl (q_loadP (v := .agg [iC .i64 n8, .p true (Sl.t r33 (mo 2 ([] : List (Int × Int))))]) 1 rfl sz25 rfl rfl rfl rfl) ?_
        refine ol_wr rfl rfl (q_store (es' := [[iC .i64 n8, .p true (Sl.t r33 (mo 2 ([] : List (Int × Int))))]]) 0 rfl rfl rfl sz25 rfl rfl rfl rfl rfl) rfl ?_
        refine ol_end ?_
        refine E_seq ?_
        refine L_ret ?_
        obtain rfl := Option.some.inj h
        exact E_endF (.inr rfl) (res_cell (d := .agg [iC .i64 n8, .p true (Sl.t r33 (mo 2 ([] : List (Int × Int))))]) 0 rfl sz25 rfl rfl rfl rfl res_nil) (vw_cons (vd_agg (vc_cons vc_v (vc_cons vc_s vc_nil))) vw_nil) (fun h hb => own_agg) rfl rfl
      · skip
        refine E_blkH ?_
        refine E_seq ?_
        refine L_seq ?_
        refine L_ops ?_
        refine ol_put rfl rfl rfl (q_loadP (v := .agg [iC .i64 n8, .own k68 0 ((y69 :: t70)).length]) 1 rfl sz25 rfl rfl rfl rfl) ?_
        refine ol_wr rfl rfl (q_store (es' := [[iC .i64 n8, .own k68 0 ((y69 :: t70)).length]]) 0 rfl rfl rfl sz25 rfl rfl rfl rfl rfl) rfl ?_
        refine ol_end ?_
        refine E_seq ?_
        refine L_ret ?_
        obtain rfl := Option.some.inj h
        exact E_endF (.inr rfl) (res_cell (d := .agg [iC .i64 n8, .own k68 0 ((y69 :: t70)).length]) 0 rfl sz25 rfl rfl rfl rfl res_nil) (vw_cons (vd_agg (vc_cons vc_v (vc_cons (vc_own (r := r33) 2 rfl (fun x h m => rfl)) vc_nil))) vw_nil) (fun h hb => own_agg) rfl rfl
    · obtain rfl := Option.some.inj (elimR h)
      exact J_up (fun s hs => hs)

noncomputable def ref12_Where_b1 (n3 : Int) (n4 : Int) (s9 : Sl (Int × Int)) (a : Int × (List (Int × Int))) : Option ((Int × (List (Int × Int))) ⊕ ((List (Int × Int)) ⊕ (Int × (Sl (Int × Int))))) :=
  match a with
  | (n72, l73) => (if n72 < ((s9.l.length : Nat) : Int) then ((atS 2 s9 n72).bind fun (n80, n81) => ((ref12_Holds n3 n81 n4).bind fun b83 => (if b83 = true then ((atS 2 s9 n72).bind fun (n92, n93) => ((app l73 ([(n92, n93)] : List (Int × Int))).bind fun _ => some (.inl ((IntKind.i64.wrap (n72 + 1)), (l73 ++ ([(n92, n93)] : List (Int × Int))))))) else some (.inl ((IntKind.i64.wrap (n72 + 1)), l73))))) else some (.inr (.inl l73)))
noncomputable def ref12_Where (a0 : Int × (Sl (Int × Int))) (n3 : Int) (n4 : Int) : Option ((Int × (Sl (Int × Int)))) :=
  match a0 with
  | (n1, s2) => ((ref09_Sure (n1, s2)).bind fun (n8, s9) => ((loopO (ref12_Where_b1 n3 n4 s9) (0, ([] : List (Int × Int)))).bind (Sum.elim (fun l95 => some (n8, (mo 2 l95))) (fun u => some u))))
theorem ref12_Where_r (m : Nat) {a0 : Int × (Sl (Int × Int))} {n3 : Int} {n4 : Int} {out : (Int × (Sl (Int × Int)))} (h : ref12_Where a0 n3 n4 = some out) : RunsP E1 (m + 3) 20 [.agg (r24 a0), .one (iT .i64 n3), .one (iT .i64 n4)] (.fresh, [.agg (r24 out)]) := by
  obtain ⟨n1, s2⟩ := a0
  refine fn_F rfl (by rw [E1_fn]; exact show fiOf Try.prog 20 = _ by unfold fiOf; rw [Try.func20]; unfold Try.f20; rfl) rfl ?_
  dsimp only
  unfold ref12_Where at h
  refine L_seq ?_
  refine L_ops ?_
  refine ol_new rfl rfl rfl (q_box ty25 rfl (cs := [iC .i64 n1, .p false (Sl.t r33 s2)]) rfl rfl) (fun k5 => ?_)
  refine ol_new rfl rfl rfl (q_alloc ty25 (row := [iC .i64 0, .p true (Sl.t r33 (⟨false, 0, []⟩ : Sl (Int × Int)))]) rfl rfl) (fun k6 => ?_)
  refine ol_end ?_
  refine E_seq ?_
  refine L_seq ?_
  refine L_ops ?_
  refine ol_put rfl rfl rfl (q_loadP (v := .agg [iC .i64 n1, .p false (Sl.t r33 s2)]) 1 rfl sz25 rfl rfl rfl rfl) ?_
  obtain ⟨⟨n8, s9⟩, h7, h⟩ := bindS h
  refine ol_putX rfl rfl rfl (q_callX (v := fun fr10 => .agg [iC .i64 n8, .p fr10 (Sl.t r33 s9)]) (args := [.agg [iC .i64 n1, .p false (Sl.t r33 s2)]]) (ref09_Sure_r (m + 0) h7) rfl rfl (vw_cons (vd_agg (vc_cons vc_v (vc_cons vc_s vc_nil))) vw_nil) rfl rfl (fun fr => rfl)) (fun fr10 => ?_)
  refine ol_wr rfl rfl (q_store (es' := [[iC .i64 n8, .p fr10 (Sl.t r33 s9)]]) 1 rfl rfl rfl sz25 rfl rfl rfl rfl rfl) rfl ?_
  refine ol_end ?_
  refine E_seq ?_
  refine L_seq ?_
  refine L_ops ?_
  refine ol_put rfl rfl rfl (q_fieldP rfl fa25_0 rfl) ?_
  refine ol_put rfl rfl rfl (q_loadP (v := .one (iC .i64 n8)) 1 rfl sz3 rfl rfl rfl rfl) ?_
  refine ol_put rfl rfl rfl (q_build (cs := [iC .i64 n8, .p true (Sl.t r33 (⟨false, 0, []⟩ : Sl (Int × Int)))]) ty25 rfl pl25 rfl) ?_
  refine ol_new rfl rfl rfl (q_alloc ty25 (row := [iC .i64 0, .p true (Sl.t r33 (⟨false, 0, []⟩ : Sl (Int × Int)))]) rfl rfl) (fun k11 => ?_)
  refine ol_wr rfl rfl (q_store (es' := [[iC .i64 n8, .p true (Sl.t r33 (⟨false, 0, []⟩ : Sl (Int × Int)))]]) 0 rfl rfl rfl sz25 rfl rfl rfl rfl rfl) rfl ?_
  refine ol_end ?_
  refine E_seq ?_
  refine L_seq ?_
  refine L_seq ?_
  refine L_ops ?_
  refine ol_put rfl rfl rfl (q_assign (v := .one (iC .i64 0)) rfl) ?_
  refine ol_end ?_
  refine E_seq ?_
  refine L_block ?_
  let S1 : (Int × (List (Int × Int))) → Nat → (Nat → D) → Nat → D := fun a kt g => ups g [(1, .one (iC .i64 n3)), (2, .one (iC .i64 n4)), (3, .one (.ptr k5 0 0)), (6, .one (.ptr k6 0 0)), (7, .one (.ptr k11 0 0)), (8, .one (iC .i64 a.1))]
  let SL1 : (Int × (List (Int × Int))) → Nat → BL := fun a kt => ([(k5, 2, [[iC .i64 n8, .p fr10 (Sl.t r33 s9)]]), (k6, 2, [[iC .i64 0, .p true (Sl.t r33 (⟨false, 0, []⟩ : Sl (Int × Int)))]]), (k11, 2, [[iC .i64 n8, moC a.2 kt]])] ++ moL r33 2 a.2 kt : BL)
  let Sx1 : (List (Int × Int)) → Nat → (Nat → D) → Nat → D := fun a kt g => ups g [(6, .one (.ptr k6 0 0)), (7, .one (.ptr k11 0 0))]
  let SLx1 : (List (Int × Int)) → Nat → BL := fun a kt => ([(k6, 2, [[iC .i64 0, .p true (Sl.t r33 (⟨false, 0, []⟩ : Sl (Int × Int)))]]), (k11, 2, [[iC .i64 n8, moC a kt]])] ++ moL r33 2 a kt : BL)
  let G1 : (Int × (Sl (Int × Int))) → Ex → St → Prop := fun u => endQ E1 [.cell 6 25] (.fresh, [.agg (r24 u)])
  let J1 : ((List (Int × Int)) ⊕ (Int × (Sl (Int × Int)))) → Ex → St → Prop := JX 41 0 Sx1 SLx1 G1
  refine L_loopS (ref12_Where_b1 n3 n4 s9) S1 SL1 J1 JX_n (0, ([] : List (Int × Int))) h 0 (ups_self ⟨rfl, rfl, rfl, rfl, rfl, rfl, trivial⟩) [2, 1, 0] (by decide) rfl ?_ ?_
  · rintro ⟨n72, l73⟩ k74 g out h
    change ref12_Where_b1 n3 n4 s9 (n72, l73) = some out at h
    unfold ref12_Where_b1 at h
    rcases l73 with _ | ⟨y75, t76⟩
    · skip
      refine L_seq ?_
      refine L_seq ?_
      refine L_ops ?_
      refine ol_put rfl rfl rfl (q_move (v := .one (iC .i64 n72)) rfl) ?_
      refine ol_put rfl rfl rfl (q_fieldP rfl fa25_1 rfl) ?_
      refine ol_put rfl rfl rfl (q_loadP (v := .one (.p fr10 (Sl.t r33 s9))) 0 rfl sz23 rfl rfl rfl rfl) ?_
      refine ol_put rfl rfl rfl (q_lenS rfl ty23 rfl rfl rfl rfl) ?_
      by_cases c77 : n72 < ((s9.l.length : Nat) : Int)
      · replace h := ifT c77 h
        refine ol_put rfl rfl rfl (q_bin rfl rfl (p_lss_t _ _ _ _ _ c77) rfl) ?_
        refine ol_end ?_
        refine E_seq ?_
        refine L_condT rfl ?_
        refine L_skip ?_
        refine E_seq ?_
        refine L_seq ?_
        refine L_block ?_
        refine L_seq ?_
        refine L_ops ?_
        refine ol_put rfl rfl rfl (q_move (v := .one (iC .i64 n3)) rfl) ?_
        refine ol_put rfl rfl rfl (q_fieldP rfl fa25_1 rfl) ?_
        refine ol_put rfl rfl rfl (q_loadP (v := .one (.p fr10 (Sl.t r33 s9))) 0 rfl sz23 rfl rfl rfl rfl) ?_
        refine ol_put rfl rfl rfl (q_move (v := .one (iC .i64 n72)) rfl) ?_
        obtain ⟨⟨n80, n81⟩, h79, h⟩ := bindS h
        obtain ⟨h79a, h79b, h79⟩ := atS_some h79
        refine ol_put rfl rfl rfl (q_ixS rfl rfl h79a h79 (el23.trans (congrArg some h79b.symm))) ?_
        refine ol_put rfl rfl rfl (q_fieldI rfl fa34_1 rfl) ?_
        refine ol_put rfl rfl rfl (q_loadI (v := .one (iC .i64 n81)) rfl sz2 (map_get h79) rfl rfl) ?_
        refine ol_put rfl rfl rfl (q_move (v := .one (iC .i64 n4)) rfl) ?_
        obtain ⟨b83, h82, h⟩ := bindS h
        refine ol_put rfl rfl rfl (q_callF (v := .one (bC b83)) (args := [.one (iC .i64 n3), .one (iC .i64 n81), .one (iC .i64 n4)]) (ref12_Holds_r (m + 1) h82) rfl rfl (vw_cons (vd_one vc_v) (vw_cons (vd_one vc_v) (vw_cons (vd_one vc_v) vw_nil))) rfl rfl) ?_
        refine ol_end ?_
        refine E_seq ?_
        rcases b83 with _ | _
        · replace h := ifF (by decide) h
          refine L_condF rfl ?_
          refine L_skip ?_
          refine E_blkN ?_
          refine E_seq ?_
          refine L_ops ?_
          refine ol_put rfl rfl rfl (q_move (v := .one (iC .i64 n72)) rfl) ?_
          refine ol_put rfl rfl rfl (q_bin rfl rfl (p_add _ _ _ _ _ _ _) rfl) ?_
          refine ol_put rfl rfl rfl (q_assign (v := .one (iC .i64 (IntKind.i64.wrap (n72 + 1)))) rfl) ?_
          refine ol_end ?_
          obtain rfl := Option.some.inj h
          exact E_next 0 (ups_self ⟨rfl, rfl, rfl, rfl, rfl, rfl, trivial⟩) [0, 1, 2] (by decide) rfl
        · replace h := ifT (by decide) h
          refine L_condT rfl ?_
          refine L_norm (L2 := ([(k5, 2, [[iC .i64 n8, .p fr10 (Sl.t r33 s9)]]), (k6, 2, [[iC .i64 0, .p true (Sl.t r33 (⟨false, 0, []⟩ : Sl (Int × Int)))]]), (k11, 2, [[iC .i64 n8, .p true (Sl.t r33 (mo 2 ([] : List (Int × Int))))]])] : BL)) [0, 1, 2] (by decide) rfl ?_
          refine L_turn 11 rfl [[], [], [], [], [], [], [], [], [], [], [k11]] [false, false, false, false, false, false, false, true, true, false, false] [[2, 3, 4, 5, 6, 7], [2, 3, 4, 5, 6, 7], [0, 1, 4], [0, 1, 4], [0, 1, 2, 3], [0, 1], [0, 1], [0, 1], [], [], []] (by kernel_rfl) (by kernel_rfl) ?_ (fun bb84 hlt hnd => ?_)
          · intro bb84 hlt hnd
            have e0_bb84 : k5 < bb84 := key_lt hlt 0 rfl
            have e1_bb84 : k6 < bb84 := key_lt hlt 1 rfl
            have e2_bb84 : k11 < bb84 := key_lt hlt 2 rfl
            have d2_0_bb84 : k11 ≠ k5 := key_ne hnd 2 0 rfl rfl rfl
            have d2_1_bb84 : k11 ≠ k6 := key_ne hnd 2 1 rfl rfl rfl
            exact ⟨by simp <;> omega, by simp <;> omega⟩
          have e0_bb84 : k5 < bb84 := key_lt hlt 0 rfl
          have e1_bb84 : k6 < bb84 := key_lt hlt 1 rfl
          have e2_bb84 : k11 < bb84 := key_lt hlt 2 rfl
          have d2_0_bb84 : k11 ≠ k5 := key_ne hnd 2 0 rfl rfl rfl
          have d2_1_bb84 : k11 ≠ k6 := key_ne hnd 2 1 rfl rfl rfl
          clear hlt hnd
          refine tn_put rfl rfl rfl [0, 1, 2] (by decide) rfl (hmc (by simp [turnsOf] <;> omega) (hmc (by simp [turnsOf] <;> omega) (hmc (by simp [turnsOf] <;> omega) hmn))) rfl (q_fieldP rfl fa25_1 rfl) ?_
          refine tn_put rfl rfl rfl [0, 1, 2] (by decide) rfl (hmc (by simp [turnsOf] <;> omega) (hmc (by simp [turnsOf] <;> omega) (hmc (by simp [turnsOf] <;> omega) hmn))) rfl (q_loadP (v := .one (.p true (Sl.t r33 (mo 2 ([] : List (Int × Int)))))) 2 rfl sz23 rfl rfl rfl rfl) ?_
          refine tn_put rfl rfl rfl [0, 1, 2] (by decide) rfl (hm0 rfl) rfl (q_fieldP rfl fa25_1 rfl) ?_
          refine tn_put rfl rfl rfl [0, 1, 2] (by decide) rfl (hm0 rfl) rfl (q_loadP (v := .one (.p fr10 (Sl.t r33 s9))) 0 rfl sz23 rfl rfl rfl rfl) ?_
          refine tn_put rfl rfl rfl [0, 1, 2] (by decide) rfl (hm0 rfl) rfl (q_move (v := .one (iC .i64 n72)) rfl) ?_
          obtain ⟨⟨n92, n93⟩, h91, h⟩ := bindS h
          obtain ⟨h91a, h91b, h91⟩ := atS_some h91
          refine tn_put rfl rfl rfl [0, 1, 2] (by decide) rfl (hm0 rfl) rfl (q_ixS rfl rfl h91a h91 (el23.trans (congrArg some h91b.symm))) ?_
          refine tn_put rfl rfl rfl [0, 1, 2] (by decide) rfl (hm0 rfl) rfl (q_loadI (v := .agg [iC .i64 n92, iC .i64 n93]) rfl sz34 (map_get h91) rfl rfl) ?_
          refine tn_new rfl rfl rfl [0, 1, 2] (by decide) rfl (hm0 rfl) rfl rfl (hkc (by omega) (hkc (by omega) (hkc (by omega) hkn))) (q_bslice (cs := [iC .i64 n92, iC .i64 n93]) (es := (([(n92, n93)] : List (Int × Int))).map (rowC r33)) ty23 rfl ty34 rfl rfl rfl rfl rfl) ?_
          obtain ⟨_, h94, h⟩ := bindS h
          obtain ⟨h94b, rfl⟩ := app_some h94
          refine tn_new rfl rfl rfl [0, 1, 2, 3] (by decide) rfl (hm0 rfl) rfl rfl (hkc (by omega) (hkc (by omega) (hkc (by omega) (hkc (by omega) hkn)))) (q_app0 (xs := ((([] : List (Int × Int)) ++ ([(n92, n93)] : List (Int × Int)))).map (rowC r33)) rfl rfl (el_ownM 0 rfl) ⟨_, _, rfl⟩ (by simp [bound]) rfl el23 ty23 rfl rfl rfl rfl rfl) ?_
          refine tn_put rfl rfl rfl [0, 1, 2, 3, 4] (by decide) rfl (hm0 rfl) rfl (q_fieldP rfl fa25_1 rfl) ?_
          refine tn_wr rfl rfl [0, 1, 2, 3, 4] (by decide) rfl (hm0 rfl) rfl (q_store (es' := [[iC .i64 n8, .own (bb84 + 8) 0 ((([] : List (Int × Int)) ++ ([(n92, n93)] : List (Int × Int)))).length]]) 4 rfl rfl rfl sz23 rfl rfl rfl rfl rfl) (q := 4) rfl rfl ?_
          refine tn_end ?_
          refine E_blkN ?_
          refine E_seq ?_
          refine L_ops ?_
          refine ol_put rfl rfl rfl (q_move (v := .one (iC .i64 n72)) rfl) ?_
          refine ol_put rfl rfl rfl (q_bin rfl rfl (p_add _ _ _ _ _ _ _) rfl) ?_
          refine ol_put rfl rfl rfl (q_assign (v := .one (iC .i64 (IntKind.i64.wrap (n72 + 1)))) rfl) ?_
          refine ol_end ?_
          obtain rfl := Option.some.inj h
          exact E_next (bb84 + 8) (ups_self ⟨rfl, rfl, rfl, rfl, rfl, rfl, trivial⟩) [2, 3, 4, 0] (by decide) rfl
      · replace h := ifF c77 h
        refine ol_put rfl rfl rfl (q_bin rfl rfl (p_lss_f _ _ _ _ _ c77) rfl) ?_
        refine ol_end ?_
        refine E_seq ?_
        refine L_condF rfl ?_
        refine L_exit ?_
        refine E_seqX ?_
        obtain rfl := Option.some.inj h
        exact E_out (E_exit 0 (ups_self ⟨rfl, rfl, trivial⟩) [1, 2] (by decide) rfl)
    · skip
      refine L_seq ?_
      refine L_seq ?_
      refine L_ops ?_
      refine ol_put rfl rfl rfl (q_move (v := .one (iC .i64 n72)) rfl) ?_
      refine ol_put rfl rfl rfl (q_fieldP rfl fa25_1 rfl) ?_
      refine ol_put rfl rfl rfl (q_loadP (v := .one (.p fr10 (Sl.t r33 s9))) 0 rfl sz23 rfl rfl rfl rfl) ?_
      refine ol_put rfl rfl rfl (q_lenS rfl ty23 rfl rfl rfl rfl) ?_
      by_cases c77 : n72 < ((s9.l.length : Nat) : Int)
      · replace h := ifT c77 h
        refine ol_put rfl rfl rfl (q_bin rfl rfl (p_lss_t _ _ _ _ _ c77) rfl) ?_
        refine ol_end ?_
        refine E_seq ?_
        refine L_condT rfl ?_
        refine L_skip ?_
        refine E_seq ?_
        refine L_seq ?_
        refine L_block ?_
        refine L_seq ?_
        refine L_ops ?_
        refine ol_put rfl rfl rfl (q_move (v := .one (iC .i64 n3)) rfl) ?_
        refine ol_put rfl rfl rfl (q_fieldP rfl fa25_1 rfl) ?_
        refine ol_put rfl rfl rfl (q_loadP (v := .one (.p fr10 (Sl.t r33 s9))) 0 rfl sz23 rfl rfl rfl rfl) ?_
        refine ol_put rfl rfl rfl (q_move (v := .one (iC .i64 n72)) rfl) ?_
        obtain ⟨⟨n80, n81⟩, h79, h⟩ := bindS h
        obtain ⟨h79a, h79b, h79⟩ := atS_some h79
        refine ol_put rfl rfl rfl (q_ixS rfl rfl h79a h79 (el23.trans (congrArg some h79b.symm))) ?_
        refine ol_put rfl rfl rfl (q_fieldI rfl fa34_1 rfl) ?_
        refine ol_put rfl rfl rfl (q_loadI (v := .one (iC .i64 n81)) rfl sz2 (map_get h79) rfl rfl) ?_
        refine ol_put rfl rfl rfl (q_move (v := .one (iC .i64 n4)) rfl) ?_
        obtain ⟨b83, h82, h⟩ := bindS h
        refine ol_put rfl rfl rfl (q_callF (v := .one (bC b83)) (args := [.one (iC .i64 n3), .one (iC .i64 n81), .one (iC .i64 n4)]) (ref12_Holds_r (m + 1) h82) rfl rfl (vw_cons (vd_one vc_v) (vw_cons (vd_one vc_v) (vw_cons (vd_one vc_v) vw_nil))) rfl rfl) ?_
        refine ol_end ?_
        refine E_seq ?_
        rcases b83 with _ | _
        · replace h := ifF (by decide) h
          refine L_condF rfl ?_
          refine L_skip ?_
          refine E_blkN ?_
          refine E_seq ?_
          refine L_ops ?_
          refine ol_put rfl rfl rfl (q_move (v := .one (iC .i64 n72)) rfl) ?_
          refine ol_put rfl rfl rfl (q_bin rfl rfl (p_add _ _ _ _ _ _ _) rfl) ?_
          refine ol_put rfl rfl rfl (q_assign (v := .one (iC .i64 (IntKind.i64.wrap (n72 + 1)))) rfl) ?_
          refine ol_end ?_
          obtain rfl := Option.some.inj h
          exact E_next k74 (ups_self ⟨rfl, rfl, rfl, rfl, rfl, rfl, trivial⟩) [0, 1, 2, 3] (by decide) rfl
        · replace h := ifT (by decide) h
          refine L_condT rfl ?_
          refine L_norm (L2 := ([(k5, 2, [[iC .i64 n8, .p fr10 (Sl.t r33 s9)]]), (k6, 2, [[iC .i64 0, .p true (Sl.t r33 (⟨false, 0, []⟩ : Sl (Int × Int)))]]), (k11, 2, [[iC .i64 n8, .own k74 0 ((y75 :: t76)).length]]), (k74, 2, ((y75 :: t76)).map (rowC r33))] : BL)) [0, 1, 2, 3] (by decide) rfl ?_
          refine L_turn 11 rfl [[], [], [], [], [], [], [], [], [k74], [], [k11]] [false, false, false, false, false, false, false, true, true, false, false] [[2, 3, 4, 5, 6, 7], [2, 3, 4, 5, 6, 7], [0, 1, 4], [0, 1, 4], [0, 1, 2, 3], [0, 1], [0, 1], [0, 1], [], [], []] (by kernel_rfl) (by kernel_rfl) ?_ (fun bb84 hlt hnd => ?_)
          · intro bb84 hlt hnd
            have e0_bb84 : k5 < bb84 := key_lt hlt 0 rfl
            have e1_bb84 : k6 < bb84 := key_lt hlt 1 rfl
            have e2_bb84 : k11 < bb84 := key_lt hlt 2 rfl
            have e3_bb84 : k74 < bb84 := key_lt hlt 3 rfl
            have d2_0_bb84 : k11 ≠ k5 := key_ne hnd 2 0 rfl rfl rfl
            have d2_1_bb84 : k11 ≠ k6 := key_ne hnd 2 1 rfl rfl rfl
            have d2_3_bb84 : k11 ≠ k74 := key_ne hnd 2 3 rfl rfl rfl
            have d3_0_bb84 : k74 ≠ k5 := key_ne hnd 3 0 rfl rfl rfl
            have d3_1_bb84 : k74 ≠ k6 := key_ne hnd 3 1 rfl rfl rfl
            have d3_2_bb84 : k74 ≠ k11 := key_ne hnd 3 2 rfl rfl rfl
            exact ⟨by simp <;> omega, by simp <;> omega⟩
          have e0_bb84 : k5 < bb84 := key_lt hlt 0 rfl
          have e1_bb84 : k6 < bb84 := key_lt hlt 1 rfl
          have e2_bb84 : k11 < bb84 := key_lt hlt 2 rfl
          have e3_bb84 : k74 < bb84 := key_lt hlt 3 rfl
          have d2_0_bb84 : k11 ≠ k5 := key_ne hnd 2 0 rfl rfl rfl
          have d2_1_bb84 : k11 ≠ k6 := key_ne hnd 2 1 rfl rfl rfl
          have d2_3_bb84 : k11 ≠ k74 := key_ne hnd 2 3 rfl rfl rfl
          have d3_0_bb84 : k74 ≠ k5 := key_ne hnd 3 0 rfl rfl rfl
          have d3_1_bb84 : k74 ≠ k6 := key_ne hnd 3 1 rfl rfl rfl
          have d3_2_bb84 : k74 ≠ k11 := key_ne hnd 3 2 rfl rfl rfl
          clear hlt hnd
          refine tn_put rfl rfl rfl [0, 1, 2, 3] (by decide) rfl (hmc (by simp [turnsOf] <;> omega) (hmc (by simp [turnsOf] <;> omega) (hmc (by simp [turnsOf] <;> omega) (hmc (by simp [turnsOf] <;> omega) hmn)))) rfl (q_fieldP rfl fa25_1 rfl) ?_
          refine tn_put rfl rfl rfl [0, 1, 2, 3] (by decide) rfl (hmc (by simp [turnsOf] <;> omega) (hmc (by simp [turnsOf] <;> omega) (hmc (by simp [turnsOf] <;> omega) (hmc (by simp [turnsOf] <;> omega) hmn)))) rfl (q_loadP (v := .one (.own k74 0 ((y75 :: t76)).length)) 2 rfl sz23 rfl rfl rfl rfl) ?_
          refine tn_put rfl rfl rfl [0, 1, 2, 3] (by decide) rfl (hm0 rfl) rfl (q_fieldP rfl fa25_1 rfl) ?_
          refine tn_put rfl rfl rfl [0, 1, 2, 3] (by decide) rfl (hm0 rfl) rfl (q_loadP (v := .one (.p fr10 (Sl.t r33 s9))) 0 rfl sz23 rfl rfl rfl rfl) ?_
          refine tn_put rfl rfl rfl [0, 1, 2, 3] (by decide) rfl (hm0 rfl) rfl (q_move (v := .one (iC .i64 n72)) rfl) ?_
          obtain ⟨⟨n92, n93⟩, h91, h⟩ := bindS h
          obtain ⟨h91a, h91b, h91⟩ := atS_some h91
          refine tn_put rfl rfl rfl [0, 1, 2, 3] (by decide) rfl (hm0 rfl) rfl (q_ixS rfl rfl h91a h91 (el23.trans (congrArg some h91b.symm))) ?_
          refine tn_put rfl rfl rfl [0, 1, 2, 3] (by decide) rfl (hm0 rfl) rfl (q_loadI (v := .agg [iC .i64 n92, iC .i64 n93]) rfl sz34 (map_get h91) rfl rfl) ?_
          refine tn_new rfl rfl rfl [0, 1, 2, 3] (by decide) rfl (hm0 rfl) rfl rfl (hkc (by omega) (hkc (by omega) (hkc (by omega) (hkc (by omega) hkn)))) (q_bslice (cs := [iC .i64 n92, iC .i64 n93]) (es := (([(n92, n93)] : List (Int × Int))).map (rowC r33)) ty23 rfl ty34 rfl rfl rfl rfl rfl) ?_
          obtain ⟨_, h94, h⟩ := bindS h
          obtain ⟨h94b, rfl⟩ := app_some h94
          refine tn_app rfl rfl rfl [0, 1, 2, 3, 4] (by decide) rfl (hm0 rfl) rfl rfl (hkc (by omega) (hkc (by omega) (hkc (by omega) (hkc (by omega) (hkc (by omega) hkn))))) (q_app 4 rfl rfl (el_ownM 0 rfl) rfl rfl h94 (fun y => rfl) el23 ty23 rfl rfl rfl rfl rfl) (q := 4) rfl rfl ?_
          refine tn_put rfl rfl rfl [0, 1, 2, 3, 4] (by decide) rfl (hm0 rfl) rfl (q_fieldP rfl fa25_1 rfl) ?_
          refine tn_wr rfl rfl [0, 1, 2, 3, 4] (by decide) rfl (hm0 rfl) rfl (q_store (es' := [[iC .i64 n8, .own (bb84 + 8) 0 (((y75 :: t76) ++ ([(n92, n93)] : List (Int × Int)))).length]]) 4 rfl rfl rfl sz23 rfl rfl rfl rfl rfl) (q := 4) rfl rfl ?_
          refine tn_end ?_
          refine E_blkN ?_
          refine E_seq ?_
          refine L_ops ?_
          refine ol_put rfl rfl rfl (q_move (v := .one (iC .i64 n72)) rfl) ?_
          refine ol_put rfl rfl rfl (q_bin rfl rfl (p_add _ _ _ _ _ _ _) rfl) ?_
          refine ol_put rfl rfl rfl (q_assign (v := .one (iC .i64 (IntKind.i64.wrap (n72 + 1)))) rfl) ?_
          refine ol_end ?_
          obtain rfl := Option.some.inj h
          exact E_next (bb84 + 8) (ups_self ⟨rfl, rfl, rfl, rfl, rfl, rfl, trivial⟩) [2, 3, 4, 0] (by decide) rfl
      · replace h := ifF c77 h
        refine ol_put rfl rfl rfl (q_bin rfl rfl (p_lss_f _ _ _ _ _ c77) rfl) ?_
        refine ol_end ?_
        refine E_seq ?_
        refine L_condF rfl ?_
        refine L_exit ?_
        refine E_seqX ?_
        obtain rfl := Option.some.inj h
        exact E_out (E_exit k74 (ups_self ⟨rfl, rfl, trivial⟩) [1, 2, 3] (by decide) rfl)
  · rintro (l95 | u) h
    · refine J_x (fun k96 g => ?_)
      replace h := elimL h
      rcases l95 with _ | ⟨y97, t98⟩
      · skip
        refine E_blkH ?_
        refine E_seq ?_
        refine L_seq ?_
        refine L_ops ?_
        refine ol_put rfl rfl rfl (q_loadP (v := .agg [iC .i64 n8, .p true (Sl.t r33 (mo 2 ([] : List (Int × Int))))]) 1 rfl sz25 rfl rfl rfl rfl) ?_
        refine ol_wr rfl rfl (q_store (es' := [[iC .i64 n8, .p true (Sl.t r33 (mo 2 ([] : List (Int × Int))))]]) 0 rfl rfl rfl sz25 rfl rfl rfl rfl rfl) rfl ?_
        refine ol_end ?_
        refine E_seq ?_
        refine L_ret ?_
        obtain rfl := Option.some.inj h
        exact E_endF (.inr rfl) (res_cell (d := .agg [iC .i64 n8, .p true (Sl.t r33 (mo 2 ([] : List (Int × Int))))]) 0 rfl sz25 rfl rfl rfl rfl res_nil) (vw_cons (vd_agg (vc_cons vc_v (vc_cons vc_s vc_nil))) vw_nil) (fun h hb => own_agg) rfl rfl
      · skip
        refine E_blkH ?_
        refine E_seq ?_
        refine L_seq ?_
        refine L_ops ?_
        refine ol_put rfl rfl rfl (q_loadP (v := .agg [iC .i64 n8, .own k96 0 ((y97 :: t98)).length]) 1 rfl sz25 rfl rfl rfl rfl) ?_
        refine ol_wr rfl rfl (q_store (es' := [[iC .i64 n8, .own k96 0 ((y97 :: t98)).length]]) 0 rfl rfl rfl sz25 rfl rfl rfl rfl rfl) rfl ?_
        refine ol_end ?_
        refine E_seq ?_
        refine L_ret ?_
        obtain rfl := Option.some.inj h
        exact E_endF (.inr rfl) (res_cell (d := .agg [iC .i64 n8, .own k96 0 ((y97 :: t98)).length]) 0 rfl sz25 rfl rfl rfl rfl res_nil) (vw_cons (vd_agg (vc_cons vc_v (vc_cons (vc_own (r := r33) 2 rfl (fun x h m => rfl)) vc_nil))) vw_nil) (fun h hb => own_agg) rfl rfl
    · obtain rfl := Option.some.inj (elimR h)
      exact J_up (fun s hs => hs)

noncomputable def ref07_SameItems_b1 (s1 : Sl (Int × Int)) (s2 : Sl (Int × Int)) (n25 : Int) : Option (Int ⊕ (Unit ⊕ Bool)) :=
  (if n25 < ((s1.l.length : Nat) : Int) then ((atS 2 s1 n25).bind fun (n29, n30) => ((atS 2 s2 n25).bind fun (n33, n34) => (if n29 = n33 ∧ n30 = n34 then some (.inl (IntKind.i64.wrap (n25 + 1))) else some (.inr (.inr false))))) else some (.inr (.inl ())))
noncomputable def ref07_SameItems (s1 : Sl (Int × Int)) (s2 : Sl (Int × Int)) : Option (Bool) :=
  (if ((s1.l.length : Nat) : Int) ≠ ((s2.l.length : Nat) : Int) then some false else ((loopO (ref07_SameItems_b1 s1 s2) 0).bind (Sum.elim (fun _ => some true) (fun u => some u))))
theorem ref07_SameItems_r (m : Nat) {s1 : Sl (Int × Int)} {s2 : Sl (Int × Int)} {out : Bool} (h : ref07_SameItems s1 s2 = some out) : RunsP E1 (m + 1) 47 [.one (Sl.t r33 s1), .one (Sl.t r33 s2)] (.fresh, [.one (bT out)]) := by
  refine fn_F rfl (by rw [E1_fn]; exact show fiOf Try.prog 47 = _ by unfold fiOf; rw [Try.func47]; unfold Try.f47; rfl) rfl ?_
  dsimp only
  unfold ref07_SameItems at h
  refine L_seq ?_
  refine L_ops ?_
  refine ol_put rfl rfl rfl (q_assign (v := .one (bC false)) rfl) ?_
  refine ol_end ?_
  refine E_seq ?_
  refine L_seq ?_
  refine L_seq ?_
  refine L_ops ?_
  refine ol_put rfl rfl rfl (q_move (v := .one (.p false (Sl.t r33 s1))) rfl) ?_
  refine ol_put rfl rfl rfl (q_lenS rfl ty23 rfl rfl rfl rfl) ?_
  refine ol_put rfl rfl rfl (q_move (v := .one (.p false (Sl.t r33 s2))) rfl) ?_
  refine ol_put rfl rfl rfl (q_lenS rfl ty23 rfl rfl rfl rfl) ?_
  by_cases c3 : ((s1.l.length : Nat) : Int) ≠ ((s2.l.length : Nat) : Int)
  · replace h := ifT c3 h
    refine ol_put rfl rfl rfl (q_bin rfl rfl (p_neq_t _ _ _ _ _ c3) rfl) ?_
    refine ol_end ?_
    refine E_seq ?_
    refine L_condT rfl ?_
    refine L_seq ?_
    refine L_ops ?_
    refine ol_put rfl rfl rfl (q_assign (v := .one (bC false)) rfl) ?_
    refine ol_end ?_
    refine E_seq ?_
    refine L_ret ?_
    refine E_seqR ?_
    obtain rfl := Option.some.inj h
    exact E_endF (.inr rfl) (res_tmp rfl res_nil) (vw_cons (vd_one vc_v) vw_nil) (fun h hb => own_p) rfl rfl
  · replace h := ifF c3 h
    refine ol_put rfl rfl rfl (q_bin rfl rfl (p_neq_f _ _ _ _ _ c3) rfl) ?_
    refine ol_end ?_
    refine E_seq ?_
    refine L_condF rfl ?_
    refine L_skip ?_
    refine E_seq ?_
    refine L_seq ?_
    refine L_seq ?_
    refine L_ops ?_
    refine ol_put rfl rfl rfl (q_assign (v := .one (iC .i64 0)) rfl) ?_
    refine ol_end ?_
    refine E_seq ?_
    refine L_block ?_
    let S1 : Int → Unit → (Nat → D) → Nat → D := fun a kt g => ups g [(0, .one (.p false (Sl.t r33 s1))), (1, .one (.p false (Sl.t r33 s2))), (5, .one (iC .i64 a))]
    let SL1 : Int → Unit → BL := fun a kt => ([] : BL)
    let Sx1 : Unit → Unit → (Nat → D) → Nat → D := fun a kt g => ups g []
    let SLx1 : Unit → Unit → BL := fun a kt => ([] : BL)
    let G1 : Bool → Ex → St → Prop := fun u => endQ E1 [.tmp 4] (.fresh, [.one (bT u)])
    let J1 : (Unit ⊕ Bool) → Ex → St → Prop := JX 26 0 Sx1 SLx1 G1
    refine L_loopS (ref07_SameItems_b1 s1 s2) S1 SL1 J1 JX_n 0 h () (ups_self ⟨rfl, rfl, rfl, trivial⟩) [] (by decide) rfl ?_ ?_
    · rintro n25 _ g out h
      change ref07_SameItems_b1 s1 s2 n25 = some out at h
      unfold ref07_SameItems_b1 at h
      refine L_seq ?_
      refine L_seq ?_
      refine L_ops ?_
      refine ol_put rfl rfl rfl (q_move (v := .one (iC .i64 n25)) rfl) ?_
      refine ol_put rfl rfl rfl (q_move (v := .one (.p false (Sl.t r33 s1))) rfl) ?_
      refine ol_put rfl rfl rfl (q_lenS rfl ty23 rfl rfl rfl rfl) ?_
      by_cases c26 : n25 < ((s1.l.length : Nat) : Int)
      · replace h := ifT c26 h
        refine ol_put rfl rfl rfl (q_bin rfl rfl (p_lss_t _ _ _ _ _ c26) rfl) ?_
        refine ol_end ?_
        refine E_seq ?_
        refine L_condT rfl ?_
        refine L_skip ?_
        refine E_seq ?_
        refine L_seq ?_
        refine L_block ?_
        refine L_seq ?_
        refine L_still (by kernel_rfl) ?_
        refine st_put rfl rfl rfl (q_move (v := .one (.p false (Sl.t r33 s1))) rfl) ?_
        refine st_put rfl rfl rfl (q_move (v := .one (iC .i64 n25)) rfl) ?_
        obtain ⟨⟨n29, n30⟩, h28, h⟩ := bindS h
        obtain ⟨h28a, h28b, h28⟩ := atS_some h28
        refine st_put rfl rfl rfl (q_ixS rfl rfl h28a h28 (el23.trans (congrArg some h28b.symm))) ?_
        refine st_put rfl rfl rfl (q_loadI (v := .agg [iC .i64 n29, iC .i64 n30]) rfl sz34 (map_get h28) rfl rfl) ?_
        refine st_put rfl rfl rfl (q_move (v := .one (.p false (Sl.t r33 s2))) rfl) ?_
        refine st_put rfl rfl rfl (q_move (v := .one (iC .i64 n25)) rfl) ?_
        obtain ⟨⟨n33, n34⟩, h32, h⟩ := bindS h
        obtain ⟨h32a, h32b, h32⟩ := atS_some h32
        refine st_put rfl rfl rfl (q_ixS rfl rfl h32a h32 (el23.trans (congrArg some h32b.symm))) ?_
        refine st_put rfl rfl rfl (q_loadI (v := .agg [iC .i64 n33, iC .i64 n34]) rfl sz34 (map_get h32) rfl rfl) ?_
        by_cases c35 : n29 = n33 ∧ n30 = n34
        · replace h := ifT c35 h
          refine st_put rfl rfl rfl (q_binA rfl rfl (by rfl) (by rfl) (eqneqA34_t _ _ c35) rfl) ?_
          refine st_end ?_
          refine E_seq ?_
          refine L_condF rfl ?_
          refine L_skip ?_
          refine E_blkN ?_
          refine E_seq ?_
          refine L_ops ?_
          refine ol_put rfl rfl rfl (q_move (v := .one (iC .i64 n25)) rfl) ?_
          refine ol_put rfl rfl rfl (q_bin rfl rfl (p_add _ _ _ _ _ _ _) rfl) ?_
          refine ol_put rfl rfl rfl (q_assign (v := .one (iC .i64 (IntKind.i64.wrap (n25 + 1)))) rfl) ?_
          refine ol_end ?_
          obtain rfl := Option.some.inj h
          exact E_next () (ups_self ⟨rfl, rfl, rfl, trivial⟩) [] (by decide) rfl
        · replace h := ifF c35 h
          refine st_put rfl rfl rfl (q_binA rfl rfl (by rfl) (by rfl) (eqneqA34_f _ _ c35) rfl) ?_
          refine st_end ?_
          refine E_seq ?_
          refine L_condT rfl ?_
          refine L_seq ?_
          refine L_ops ?_
          refine ol_put rfl rfl rfl (q_assign (v := .one (bC false)) rfl) ?_
          refine ol_end ?_
          refine E_seq ?_
          refine L_ret ?_
          refine E_blkR ?_
          refine E_seqR ?_
          obtain rfl := Option.some.inj h
          exact E_out (E_up (E_endF (.inr rfl) (res_tmp rfl res_nil) (vw_cons (vd_one vc_v) vw_nil) (fun h hb => own_p) rfl rfl))
      · replace h := ifF c26 h
        refine ol_put rfl rfl rfl (q_bin rfl rfl (p_lss_f _ _ _ _ _ c26) rfl) ?_
        refine ol_end ?_
        refine E_seq ?_
        refine L_condF rfl ?_
        refine L_exit ?_
        refine E_seqX ?_
        obtain rfl := Option.some.inj h
        exact E_out (E_exit () (ups_self trivial) [] (by decide) rfl)
    · rintro (_ | u) h
      · refine J_x (fun kt g => ?_)
        replace h := elimL h
        refine E_blkH ?_
        refine E_seq ?_
        refine L_seq ?_
        refine L_ops ?_
        refine ol_put rfl rfl rfl (q_assign (v := .one (bC true)) rfl) ?_
        refine ol_end ?_
        refine E_seq ?_
        refine L_ret ?_
        obtain rfl := Option.some.inj h
        exact E_endF (.inr rfl) (res_tmp rfl res_nil) (vw_cons (vd_one vc_v) vw_nil) (fun h hb => own_p) rfl rfl
      · obtain rfl := Option.some.inj (elimR h)
        exact J_up (fun s hs => hs)

noncomputable def ref09_Same (a0 : Int × (Sl (Int × Int))) (a1 : Int × (Sl (Int × Int))) : Option (Bool) :=
  match a0, a1 with
  | (n1, s2), (n3, s4) => (if n1 = n3 then ((ref07_SameItems s2 s4).bind fun b9 => some b9) else some false)
theorem ref09_Same_r (m : Nat) {a0 : Int × (Sl (Int × Int))} {a1 : Int × (Sl (Int × Int))} {out : Bool} (h : ref09_Same a0 a1 = some out) : RunsP E1 (m + 2) 18 [.agg (r24 a0), .agg (r24 a1)] (.fresh, [.one (bT out)]) := by
  obtain ⟨n1, s2⟩ := a0
  obtain ⟨n3, s4⟩ := a1
  refine fn_F rfl (by rw [E1_fn]; exact show fiOf Try.prog 18 = _ by unfold fiOf; rw [Try.func18]; unfold Try.f18; rfl) rfl ?_
  dsimp only
  unfold ref09_Same at h
  refine L_seq ?_
  refine L_ops ?_
  refine ol_new rfl rfl rfl (q_box ty25 rfl (cs := [iC .i64 n1, .p false (Sl.t r33 s2)]) rfl rfl) (fun k5 => ?_)
  refine ol_new rfl rfl rfl (q_box ty25 rfl (cs := [iC .i64 n3, .p false (Sl.t r33 s4)]) rfl rfl) (fun k6 => ?_)
  refine ol_put rfl rfl rfl (q_assign (v := .one (bC false)) rfl) ?_
  refine ol_end ?_
  refine E_seq ?_
  refine L_seq ?_
  refine L_ops ?_
  refine ol_put rfl rfl rfl (q_fieldP rfl fa25_0 rfl) ?_
  refine ol_put rfl rfl rfl (q_loadP (v := .one (iC .i64 n1)) 1 rfl sz3 rfl rfl rfl rfl) ?_
  refine ol_put rfl rfl rfl (q_fieldP rfl fa25_0 rfl) ?_
  refine ol_put rfl rfl rfl (q_loadP (v := .one (iC .i64 n3)) 0 rfl sz3 rfl rfl rfl rfl) ?_
  by_cases c7 : n1 = n3
  · replace h := ifT c7 h
    refine ol_put rfl rfl rfl (q_bin rfl rfl (p_eql_t _ _ _ _ _ c7) rfl) ?_
    refine ol_put rfl rfl rfl (q_move (v := .one (bC true)) rfl) ?_
    refine ol_put rfl rfl rfl (q_fieldP rfl fa25_1 rfl) ?_
    refine ol_put rfl rfl rfl (q_loadP (v := .one (.p false (Sl.t r33 s2))) 1 rfl sz23 rfl rfl rfl rfl) ?_
    refine ol_put rfl rfl rfl (q_fieldP rfl fa25_1 rfl) ?_
    refine ol_put rfl rfl rfl (q_loadP (v := .one (.p false (Sl.t r33 s4))) 0 rfl sz23 rfl rfl rfl rfl) ?_
    obtain ⟨b9, h8, h⟩ := bindS h
    refine ol_put rfl rfl rfl (q_callF (v := .one (bC b9)) (args := [.one (.p false (Sl.t r33 s2)), .one (.p false (Sl.t r33 s4))]) (ref07_SameItems_r (m + 0) h8) rfl rfl (vw_cons (vd_one vc_s) (vw_cons (vd_one vc_s) vw_nil)) rfl rfl) ?_
    refine ol_put rfl rfl rfl (q_pickT (v := .one (bC b9)) rfl rfl) ?_
    refine ol_put rfl rfl rfl (q_assign (v := .one (bC b9)) rfl) ?_
    refine ol_end ?_
    refine E_seq ?_
    refine L_ret ?_
    obtain rfl := Option.some.inj h
    exact E_endF (.inr rfl) (res_tmp rfl res_nil) (vw_cons (vd_one vc_v) vw_nil) (fun h hb => own_p) rfl rfl
  · replace h := ifF c7 h
    refine ol_put rfl rfl rfl (q_bin rfl rfl (p_eql_f _ _ _ _ _ c7) rfl) ?_
    refine ol_put rfl rfl rfl (q_move (v := .one (bC false)) rfl) ?_
    refine ol_skip rfl rfl rfl ?_
    refine ol_skip rfl rfl rfl ?_
    refine ol_skip rfl rfl rfl ?_
    refine ol_skip rfl rfl rfl ?_
    refine ol_skip rfl rfl rfl ?_
    refine ol_put rfl rfl rfl (q_pickF (v := .one (bC false)) rfl rfl) ?_
    refine ol_put rfl rfl rfl (q_assign (v := .one (bC false)) rfl) ?_
    refine ol_end ?_
    refine E_seq ?_
    refine L_ret ?_
    obtain rfl := Option.some.inj h
    exact E_endF (.inr rfl) (res_tmp rfl res_nil) (vw_cons (vd_one vc_v) vw_nil) (fun h hb => own_p) rfl rfl
end Ev
end Go.Proofs.Ytioagbejilllfaa
