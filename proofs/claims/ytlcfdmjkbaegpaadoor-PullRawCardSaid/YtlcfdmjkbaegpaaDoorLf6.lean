/- Functions of the program as functions on data, and that they are. -/
import Derived.Test.YtlcfdmjkbaegpaaDoorLf1
import Derived.Test.YtlcfdmjkbaegpaaDoorLy1
namespace Go.Proofs.YtlcfdmjkbaegpaaDoor
namespace Ev
open Go
set_option linter.unusedVariables false
set_option linter.unusedSimpArgs false
set_option maxRecDepth 100000
set_option maxHeartbeats 1000000
attribute [local irreducible] OpsL StL TnL WpL EndL
noncomputable def ref07_Right_b2 (n2 : Int) (s3 : Sl (Int)) (s4 : Sl (Int)) (n149 : Int) (n195 : Int) : Option (Int ⊕ (Unit ⊕ (Int ⊕ (Unit ⊕ Bool)))) :=
  ((atS 1 s3 (IntKind.i64.wrap (n149 + 1))).bind fun n198 => (if n195 < n198 then ((atS 1 s4 n195).bind fun n202 => (if n202 < 0 then some (.inr (.inr (.inr (.inr false)))) else (if n202 ≥ n2 then some (.inr (.inr (.inr (.inr false)))) else ((atS 1 s3 n149).bind fun n207 => (if n195 > n207 then ((atS 1 s4 (IntKind.i64.wrap (n195 - 1))).bind fun n211 => (if n202 ≤ n211 then some (.inr (.inr (.inr (.inr false)))) else some (.inl (IntKind.i64.wrap (n195 + 1))))) else some (.inl (IntKind.i64.wrap (n195 + 1)))))))) else some (.inr (.inl ()))))
noncomputable def ref07_Right_b1 (n1 : Int) (n2 : Int) (s3 : Sl (Int)) (s4 : Sl (Int)) (n149 : Int) : Option (Int ⊕ (Unit ⊕ Bool)) :=
  (if n149 < n1 then ((atS 1 s3 n149).bind fun n153 => ((atS 1 s3 (IntKind.i64.wrap (n149 + 1))).bind fun n156 => (if n153 > n156 then some (.inr (.inr false)) else (if n153 < 0 then some (.inr (.inr false)) else (if n156 > ((s4.l.length : Nat) : Int) then some (.inr (.inr false)) else ((loopO (ref07_Right_b2 n2 s3 s4 n149) n153).bind (Sum.elim (fun _ => some (.inl (IntKind.i64.wrap (n149 + 1)))) (fun u => some u)))))))) else some (.inr (.inl ())))
noncomputable def ref07_Right (a0 : Int × Int × Sl (Int) × Sl (Int) × Sl (Int)) : Option (Bool) :=
  match a0 with
  | (n1, n2, s3, s4, s5) => (if n1 < 0 then some false else (if n1 > 4096 then some false else (if n2 < 0 then some false else (if n2 > 4096 then some false else (if ((s3.l.length : Nat) : Int) ≠ (IntKind.i64.wrap (n1 + 1)) then some false else (if ((s4.l.length : Nat) : Int) ≠ ((s5.l.length : Nat) : Int) then some false else (if ((s4.l.length : Nat) : Int) > 65536 then some false else ((atS 1 s3 0).bind fun n16 => (if n16 ≠ 0 then some false else ((atS 1 s3 n1).bind fun n20 => (if n20 ≠ ((s4.l.length : Nat) : Int) then some false else ((loopO (ref07_Right_b1 n1 n2 s3 s4) 0).bind (Sum.elim (fun _ => some true) (fun u => some u))))))))))))))
theorem ref07_Right_r (m : Nat) {a0 : Int × Int × Sl (Int) × Sl (Int) × Sl (Int)} {out : Bool} (h : ref07_Right a0 = some out) : RunsP E1 (m + 1) 74 [.agg (r32 a0)] (.fresh, [.one (bT out)]) := by
  obtain ⟨n1, n2, s3, s4, s5⟩ := a0
  refine fn_F rfl (by rw [E1_fn]; exact show fiOf Tryd.prog 74 = _ by unfold fiOf; rw [Tryd.func74]; unfold Tryd.f74; rfl) rfl ?_
  dsimp only
  unfold ref07_Right at h
  refine L_seq ?_
  refine L_ops ?_
  refine ol_new rfl rfl rfl (q_box ty33 rfl (cs := [iC .i64 n1, iC .i64 n2, .p false (Sl.t r3 s3), .p false (Sl.t r3 s4), .p false (Sl.t r2 s5)]) rfl rfl) (fun k6 => ?_)
  refine ol_put rfl rfl rfl (q_assign (v := .one (bC false)) rfl) ?_
  refine ol_end ?_
  refine E_seq ?_
  refine L_seq ?_
  refine L_seq ?_
  refine L_ops ?_
  refine ol_put rfl rfl rfl (q_fieldP rfl fa33_0 rfl) ?_
  refine ol_put rfl rfl rfl (q_loadP (v := .one (iC .i64 n1)) 0 rfl sz3 rfl rfl rfl rfl) ?_
  by_cases c7 : n1 < 0
  · replace h := ifT c7 h
    refine ol_put rfl rfl rfl (q_bin rfl rfl (p_lss_t _ _ _ _ _ c7) rfl) ?_
    refine ol_put rfl rfl rfl (q_move (v := .one (bC true)) rfl) ?_
    refine ol_skip rfl rfl rfl ?_
    refine ol_skip rfl rfl rfl ?_
    refine ol_skip rfl rfl rfl ?_
    refine ol_put rfl rfl rfl (q_pickT (v := .one (bC true)) rfl rfl) ?_
    refine ol_put rfl rfl rfl (q_move (v := .one (bC true)) rfl) ?_
    refine ol_skip rfl rfl rfl ?_
    refine ol_skip rfl rfl rfl ?_
    refine ol_skip rfl rfl rfl ?_
    refine ol_put rfl rfl rfl (q_pickT (v := .one (bC true)) rfl rfl) ?_
    refine ol_put rfl rfl rfl (q_move (v := .one (bC true)) rfl) ?_
    refine ol_skip rfl rfl rfl ?_
    refine ol_skip rfl rfl rfl ?_
    refine ol_skip rfl rfl rfl ?_
    refine ol_put rfl rfl rfl (q_pickT (v := .one (bC true)) rfl rfl) ?_
    refine ol_put rfl rfl rfl (q_move (v := .one (bC true)) rfl) ?_
    refine ol_skip rfl rfl rfl ?_
    refine ol_skip rfl rfl rfl ?_
    refine ol_skip rfl rfl rfl ?_
    refine ol_skip rfl rfl rfl ?_
    refine ol_skip rfl rfl rfl ?_
    refine ol_skip rfl rfl rfl ?_
    refine ol_skip rfl rfl rfl ?_
    refine ol_put rfl rfl rfl (q_pickT (v := .one (bC true)) rfl rfl) ?_
    refine ol_put rfl rfl rfl (q_move (v := .one (bC true)) rfl) ?_
    refine ol_skip rfl rfl rfl ?_
    refine ol_skip rfl rfl rfl ?_
    refine ol_skip rfl rfl rfl ?_
    refine ol_skip rfl rfl rfl ?_
    refine ol_skip rfl rfl rfl ?_
    refine ol_skip rfl rfl rfl ?_
    refine ol_skip rfl rfl rfl ?_
    refine ol_put rfl rfl rfl (q_pickT (v := .one (bC true)) rfl rfl) ?_
    refine ol_put rfl rfl rfl (q_move (v := .one (bC true)) rfl) ?_
    refine ol_skip rfl rfl rfl ?_
    refine ol_skip rfl rfl rfl ?_
    refine ol_skip rfl rfl rfl ?_
    refine ol_skip rfl rfl rfl ?_
    refine ol_put rfl rfl rfl (q_pickT (v := .one (bC true)) rfl rfl) ?_
    refine ol_end ?_
    refine E_seq ?_
    refine L_condT rfl ?_
    refine L_seq ?_
    refine L_ops ?_
    refine ol_put rfl rfl rfl (q_assign (v := .one (bC false)) rfl) ?_
    refine ol_end ?_
    refine E_seq ?_
    refine L_ret ?_
    refine E_seqR ?_
    obtain rfl := Option.some.inj h
    exact E_endF (.inr rfl) (res_tmp rfl res_nil) (vw_cons (vd_one vc_v) vw_nil) (fun h hb => own_p) rfl rfl
  · replace h := ifF c7 h
    refine ol_put rfl rfl rfl (q_bin rfl rfl (p_lss_f _ _ _ _ _ c7) rfl) ?_
    refine ol_put rfl rfl rfl (q_move (v := .one (bC false)) rfl) ?_
    refine ol_put rfl rfl rfl (q_fieldP rfl fa33_0 rfl) ?_
    refine ol_put rfl rfl rfl (q_loadP (v := .one (iC .i64 n1)) 0 rfl sz3 rfl rfl rfl rfl) ?_
    by_cases c8 : n1 > 4096
    · replace h := ifT c8 h
      refine ol_put rfl rfl rfl (q_bin rfl rfl (p_gtr_t _ _ _ _ _ c8) rfl) ?_
      refine ol_put rfl rfl rfl (q_pickF (v := .one (bC true)) rfl rfl) ?_
      refine ol_put rfl rfl rfl (q_move (v := .one (bC true)) rfl) ?_
      refine ol_skip rfl rfl rfl ?_
      refine ol_skip rfl rfl rfl ?_
      refine ol_skip rfl rfl rfl ?_
      refine ol_put rfl rfl rfl (q_pickT (v := .one (bC true)) rfl rfl) ?_
      refine ol_put rfl rfl rfl (q_move (v := .one (bC true)) rfl) ?_
      refine ol_skip rfl rfl rfl ?_
      refine ol_skip rfl rfl rfl ?_
      refine ol_skip rfl rfl rfl ?_
      refine ol_put rfl rfl rfl (q_pickT (v := .one (bC true)) rfl rfl) ?_
      refine ol_put rfl rfl rfl (q_move (v := .one (bC true)) rfl) ?_
      refine ol_skip rfl rfl rfl ?_
      refine ol_skip rfl rfl rfl ?_
      refine ol_skip rfl rfl rfl ?_
      refine ol_skip rfl rfl rfl ?_
      refine ol_skip rfl rfl rfl ?_
      refine ol_skip rfl rfl rfl ?_
      refine ol_skip rfl rfl rfl ?_
      refine ol_put rfl rfl rfl (q_pickT (v := .one (bC true)) rfl rfl) ?_
      refine ol_put rfl rfl rfl (q_move (v := .one (bC true)) rfl) ?_
      refine ol_skip rfl rfl rfl ?_
      refine ol_skip rfl rfl rfl ?_
      refine ol_skip rfl rfl rfl ?_
      refine ol_skip rfl rfl rfl ?_
      refine ol_skip rfl rfl rfl ?_
      refine ol_skip rfl rfl rfl ?_
      refine ol_skip rfl rfl rfl ?_
      refine ol_put rfl rfl rfl (q_pickT (v := .one (bC true)) rfl rfl) ?_
      refine ol_put rfl rfl rfl (q_move (v := .one (bC true)) rfl) ?_
      refine ol_skip rfl rfl rfl ?_
      refine ol_skip rfl rfl rfl ?_
      refine ol_skip rfl rfl rfl ?_
      refine ol_skip rfl rfl rfl ?_
      refine ol_put rfl rfl rfl (q_pickT (v := .one (bC true)) rfl rfl) ?_
      refine ol_end ?_
      refine E_seq ?_
      refine L_condT rfl ?_
      refine L_seq ?_
      refine L_ops ?_
      refine ol_put rfl rfl rfl (q_assign (v := .one (bC false)) rfl) ?_
      refine ol_end ?_
      refine E_seq ?_
      refine L_ret ?_
      refine E_seqR ?_
      obtain rfl := Option.some.inj h
      exact E_endF (.inr rfl) (res_tmp rfl res_nil) (vw_cons (vd_one vc_v) vw_nil) (fun h hb => own_p) rfl rfl
    · replace h := ifF c8 h
      refine ol_put rfl rfl rfl (q_bin rfl rfl (p_gtr_f _ _ _ _ _ c8) rfl) ?_
      refine ol_put rfl rfl rfl (q_pickF (v := .one (bC false)) rfl rfl) ?_
      refine ol_put rfl rfl rfl (q_move (v := .one (bC false)) rfl) ?_
      refine ol_put rfl rfl rfl (q_fieldP rfl fa33_1 rfl) ?_
      refine ol_put rfl rfl rfl (q_loadP (v := .one (iC .i64 n2)) 0 rfl sz3 rfl rfl rfl rfl) ?_
      by_cases c9 : n2 < 0
      · replace h := ifT c9 h
        refine ol_put rfl rfl rfl (q_bin rfl rfl (p_lss_t _ _ _ _ _ c9) rfl) ?_
        refine ol_put rfl rfl rfl (q_pickF (v := .one (bC true)) rfl rfl) ?_
        refine ol_put rfl rfl rfl (q_move (v := .one (bC true)) rfl) ?_
        refine ol_skip rfl rfl rfl ?_
        refine ol_skip rfl rfl rfl ?_
        refine ol_skip rfl rfl rfl ?_
        refine ol_put rfl rfl rfl (q_pickT (v := .one (bC true)) rfl rfl) ?_
        refine ol_put rfl rfl rfl (q_move (v := .one (bC true)) rfl) ?_
        refine ol_skip rfl rfl rfl ?_
        refine ol_skip rfl rfl rfl ?_
        refine ol_skip rfl rfl rfl ?_
        refine ol_skip rfl rfl rfl ?_
        refine ol_skip rfl rfl rfl ?_
        refine ol_skip rfl rfl rfl ?_
        refine ol_skip rfl rfl rfl ?_
        refine ol_put rfl rfl rfl (q_pickT (v := .one (bC true)) rfl rfl) ?_
        refine ol_put rfl rfl rfl (q_move (v := .one (bC true)) rfl) ?_
        refine ol_skip rfl rfl rfl ?_
        refine ol_skip rfl rfl rfl ?_
        refine ol_skip rfl rfl rfl ?_
        refine ol_skip rfl rfl rfl ?_
        refine ol_skip rfl rfl rfl ?_
        refine ol_skip rfl rfl rfl ?_
        refine ol_skip rfl rfl rfl ?_
        refine ol_put rfl rfl rfl (q_pickT (v := .one (bC true)) rfl rfl) ?_
        refine ol_put rfl rfl rfl (q_move (v := .one (bC true)) rfl) ?_
        refine ol_skip rfl rfl rfl ?_
        refine ol_skip rfl rfl rfl ?_
        refine ol_skip rfl rfl rfl ?_
        refine ol_skip rfl rfl rfl ?_
        refine ol_put rfl rfl rfl (q_pickT (v := .one (bC true)) rfl rfl) ?_
        refine ol_end ?_
        refine E_seq ?_
        refine L_condT rfl ?_
        refine L_seq ?_
        refine L_ops ?_
        refine ol_put rfl rfl rfl (q_assign (v := .one (bC false)) rfl) ?_
        refine ol_end ?_
        refine E_seq ?_
        refine L_ret ?_
        refine E_seqR ?_
        obtain rfl := Option.some.inj h
        exact E_endF (.inr rfl) (res_tmp rfl res_nil) (vw_cons (vd_one vc_v) vw_nil) (fun h hb => own_p) rfl rfl
      · replace h := ifF c9 h
        refine ol_put rfl rfl rfl (q_bin rfl rfl (p_lss_f _ _ _ _ _ c9) rfl) ?_
        refine ol_put rfl rfl rfl (q_pickF (v := .one (bC false)) rfl rfl) ?_
        refine ol_put rfl rfl rfl (q_move (v := .one (bC false)) rfl) ?_
        refine ol_put rfl rfl rfl (q_fieldP rfl fa33_1 rfl) ?_
        refine ol_put rfl rfl rfl (q_loadP (v := .one (iC .i64 n2)) 0 rfl sz3 rfl rfl rfl rfl) ?_
        by_cases c10 : n2 > 4096
        · replace h := ifT c10 h
          refine ol_put rfl rfl rfl (q_bin rfl rfl (p_gtr_t _ _ _ _ _ c10) rfl) ?_
          refine ol_put rfl rfl rfl (q_pickF (v := .one (bC true)) rfl rfl) ?_
          refine ol_put rfl rfl rfl (q_move (v := .one (bC true)) rfl) ?_
          refine ol_skip rfl rfl rfl ?_
          refine ol_skip rfl rfl rfl ?_
          refine ol_skip rfl rfl rfl ?_
          refine ol_skip rfl rfl rfl ?_
          refine ol_skip rfl rfl rfl ?_
          refine ol_skip rfl rfl rfl ?_
          refine ol_skip rfl rfl rfl ?_
          refine ol_put rfl rfl rfl (q_pickT (v := .one (bC true)) rfl rfl) ?_
          refine ol_put rfl rfl rfl (q_move (v := .one (bC true)) rfl) ?_
          refine ol_skip rfl rfl rfl ?_
          refine ol_skip rfl rfl rfl ?_
          refine ol_skip rfl rfl rfl ?_
          refine ol_skip rfl rfl rfl ?_
          refine ol_skip rfl rfl rfl ?_
          refine ol_skip rfl rfl rfl ?_
          refine ol_skip rfl rfl rfl ?_
          refine ol_put rfl rfl rfl (q_pickT (v := .one (bC true)) rfl rfl) ?_
          refine ol_put rfl rfl rfl (q_move (v := .one (bC true)) rfl) ?_
          refine ol_skip rfl rfl rfl ?_
          refine ol_skip rfl rfl rfl ?_
          refine ol_skip rfl rfl rfl ?_
          refine ol_skip rfl rfl rfl ?_
          refine ol_put rfl rfl rfl (q_pickT (v := .one (bC true)) rfl rfl) ?_
          refine ol_end ?_
          refine E_seq ?_
          refine L_condT rfl ?_
          refine L_seq ?_
          refine L_ops ?_
          refine ol_put rfl rfl rfl (q_assign (v := .one (bC false)) rfl) ?_
          refine ol_end ?_
          refine E_seq ?_
          refine L_ret ?_
          refine E_seqR ?_
          obtain rfl := Option.some.inj h
          exact E_endF (.inr rfl) (res_tmp rfl res_nil) (vw_cons (vd_one vc_v) vw_nil) (fun h hb => own_p) rfl rfl
        · replace h := ifF c10 h
          refine ol_put rfl rfl rfl (q_bin rfl rfl (p_gtr_f _ _ _ _ _ c10) rfl) ?_
          refine ol_put rfl rfl rfl (q_pickF (v := .one (bC false)) rfl rfl) ?_
          refine ol_put rfl rfl rfl (q_move (v := .one (bC false)) rfl) ?_
          refine ol_put rfl rfl rfl (q_fieldP rfl fa33_2 rfl) ?_
          refine ol_put rfl rfl rfl (q_loadP (v := .one (.p false (Sl.t r3 s3))) 0 rfl sz30 rfl rfl rfl rfl) ?_
          refine ol_put rfl rfl rfl (q_lenS rfl ty30 rfl rfl rfl rfl) ?_
          refine ol_put rfl rfl rfl (q_fieldP rfl fa33_0 rfl) ?_
          refine ol_put rfl rfl rfl (q_loadP (v := .one (iC .i64 n1)) 0 rfl sz3 rfl rfl rfl rfl) ?_
          refine ol_put rfl rfl rfl (q_bin rfl rfl (p_add _ _ _ _ _ _ _) rfl) ?_
          by_cases c11 : ((s3.l.length : Nat) : Int) ≠ (IntKind.i64.wrap (n1 + 1))
          · replace h := ifT c11 h
            refine ol_put rfl rfl rfl (q_bin rfl rfl (p_neq_t _ _ _ _ _ c11) rfl) ?_
            refine ol_put rfl rfl rfl (q_pickF (v := .one (bC true)) rfl rfl) ?_
            refine ol_put rfl rfl rfl (q_move (v := .one (bC true)) rfl) ?_
            refine ol_skip rfl rfl rfl ?_
            refine ol_skip rfl rfl rfl ?_
            refine ol_skip rfl rfl rfl ?_
            refine ol_skip rfl rfl rfl ?_
            refine ol_skip rfl rfl rfl ?_
            refine ol_skip rfl rfl rfl ?_
            refine ol_skip rfl rfl rfl ?_
            refine ol_put rfl rfl rfl (q_pickT (v := .one (bC true)) rfl rfl) ?_
            refine ol_put rfl rfl rfl (q_move (v := .one (bC true)) rfl) ?_
            refine ol_skip rfl rfl rfl ?_
            refine ol_skip rfl rfl rfl ?_
            refine ol_skip rfl rfl rfl ?_
            refine ol_skip rfl rfl rfl ?_
            refine ol_put rfl rfl rfl (q_pickT (v := .one (bC true)) rfl rfl) ?_
            refine ol_end ?_
            refine E_seq ?_
            refine L_condT rfl ?_
            refine L_seq ?_
            refine L_ops ?_
            refine ol_put rfl rfl rfl (q_assign (v := .one (bC false)) rfl) ?_
            refine ol_end ?_
            refine E_seq ?_
            refine L_ret ?_
            refine E_seqR ?_
            obtain rfl := Option.some.inj h
            exact E_endF (.inr rfl) (res_tmp rfl res_nil) (vw_cons (vd_one vc_v) vw_nil) (fun h hb => own_p) rfl rfl
          · replace h := ifF c11 h
            refine ol_put rfl rfl rfl (q_bin rfl rfl (p_neq_f _ _ _ _ _ c11) rfl) ?_
            refine ol_put rfl rfl rfl (q_pickF (v := .one (bC false)) rfl rfl) ?_
            refine ol_put rfl rfl rfl (q_move (v := .one (bC false)) rfl) ?_
            refine ol_put rfl rfl rfl (q_fieldP rfl fa33_3 rfl) ?_
            refine ol_put rfl rfl rfl (q_loadP (v := .one (.p false (Sl.t r3 s4))) 0 rfl sz30 rfl rfl rfl rfl) ?_
            refine ol_put rfl rfl rfl (q_lenS rfl ty30 rfl rfl rfl rfl) ?_
            refine ol_put rfl rfl rfl (q_fieldP rfl fa33_4 rfl) ?_
            refine ol_put rfl rfl rfl (q_loadP (v := .one (.p false (Sl.t r2 s5))) 0 rfl sz31 rfl rfl rfl rfl) ?_
            refine ol_put rfl rfl rfl (q_lenS rfl ty31 rfl rfl rfl rfl) ?_
            by_cases c12 : ((s4.l.length : Nat) : Int) ≠ ((s5.l.length : Nat) : Int)
            · replace h := ifT c12 h
              refine ol_put rfl rfl rfl (q_bin rfl rfl (p_neq_t _ _ _ _ _ c12) rfl) ?_
              refine ol_put rfl rfl rfl (q_pickF (v := .one (bC true)) rfl rfl) ?_
              refine ol_put rfl rfl rfl (q_move (v := .one (bC true)) rfl) ?_
              refine ol_skip rfl rfl rfl ?_
              refine ol_skip rfl rfl rfl ?_
              refine ol_skip rfl rfl rfl ?_
              refine ol_skip rfl rfl rfl ?_
              refine ol_put rfl rfl rfl (q_pickT (v := .one (bC true)) rfl rfl) ?_
              refine ol_end ?_
              refine E_seq ?_
              refine L_condT rfl ?_
              refine L_seq ?_
              refine L_ops ?_
              refine ol_put rfl rfl rfl (q_assign (v := .one (bC false)) rfl) ?_
              refine ol_end ?_
              refine E_seq ?_
              refine L_ret ?_
              refine E_seqR ?_
              obtain rfl := Option.some.inj h
              exact E_endF (.inr rfl) (res_tmp rfl res_nil) (vw_cons (vd_one vc_v) vw_nil) (fun h hb => own_p) rfl rfl
            · replace h := ifF c12 h
              refine ol_put rfl rfl rfl (q_bin rfl rfl (p_neq_f _ _ _ _ _ c12) rfl) ?_
              refine ol_put rfl rfl rfl (q_pickF (v := .one (bC false)) rfl rfl) ?_
              refine ol_put rfl rfl rfl (q_move (v := .one (bC false)) rfl) ?_
              refine ol_put rfl rfl rfl (q_fieldP rfl fa33_3 rfl) ?_
              refine ol_put rfl rfl rfl (q_loadP (v := .one (.p false (Sl.t r3 s4))) 0 rfl sz30 rfl rfl rfl rfl) ?_
              refine ol_put rfl rfl rfl (q_lenS rfl ty30 rfl rfl rfl rfl) ?_
              by_cases c13 : ((s4.l.length : Nat) : Int) > 65536
              · replace h := ifT c13 h
                refine ol_put rfl rfl rfl (q_bin rfl rfl (p_gtr_t _ _ _ _ _ c13) rfl) ?_
                refine ol_put rfl rfl rfl (q_pickF (v := .one (bC true)) rfl rfl) ?_
                refine ol_end ?_
                refine E_seq ?_
                refine L_condT rfl ?_
                refine L_seq ?_
                refine L_ops ?_
                refine ol_put rfl rfl rfl (q_assign (v := .one (bC false)) rfl) ?_
                refine ol_end ?_
                refine E_seq ?_
                refine L_ret ?_
                refine E_seqR ?_
                obtain rfl := Option.some.inj h
                exact E_endF (.inr rfl) (res_tmp rfl res_nil) (vw_cons (vd_one vc_v) vw_nil) (fun h hb => own_p) rfl rfl
              · replace h := ifF c13 h
                refine ol_put rfl rfl rfl (q_bin rfl rfl (p_gtr_f _ _ _ _ _ c13) rfl) ?_
                refine ol_put rfl rfl rfl (q_pickF (v := .one (bC false)) rfl rfl) ?_
                refine ol_end ?_
                refine E_seq ?_
                refine L_condF rfl ?_
                refine L_skip ?_
                refine E_seq ?_
                refine L_seq ?_
                refine L_seq ?_
                refine L_still (by kernel_rfl) ?_
                refine st_put rfl rfl rfl (q_fieldP rfl fa33_2 rfl) ?_
                refine st_put rfl rfl rfl (q_loadP (v := .one (.p false (Sl.t r3 s3))) 0 rfl sz30 rfl rfl rfl rfl) ?_
                obtain ⟨n16, h15, h⟩ := bindS h
                obtain ⟨h15a, h15b, h15⟩ := atS_some h15
                refine st_put rfl rfl rfl (q_ixS rfl rfl h15a h15 (el30.trans (congrArg some h15b.symm))) ?_
                refine st_put rfl rfl rfl (q_loadI (v := .one (iC .i64 n16)) rfl sz3 (map_get h15) rfl rfl) ?_
                by_cases c17 : n16 ≠ 0
                · replace h := ifT c17 h
                  refine st_put rfl rfl rfl (q_bin rfl rfl (p_neq_t _ _ _ _ _ c17) rfl) ?_
                  refine st_put rfl rfl rfl (q_move (v := .one (bC true)) rfl) ?_
                  refine st_skip rfl rfl rfl ?_
                  refine st_skip rfl rfl rfl ?_
                  refine st_skip rfl rfl rfl ?_
                  refine st_skip rfl rfl rfl ?_
                  refine st_skip rfl rfl rfl ?_
                  refine st_skip rfl rfl rfl ?_
                  refine st_skip rfl rfl rfl ?_
                  refine st_skip rfl rfl rfl ?_
                  refine st_skip rfl rfl rfl ?_
                  refine st_skip rfl rfl rfl ?_
                  refine st_put rfl rfl rfl (q_pickT (v := .one (bC true)) rfl rfl) ?_
                  refine st_end ?_
                  refine E_seq ?_
                  refine L_condT rfl ?_
                  refine L_seq ?_
                  refine L_ops ?_
                  refine ol_put rfl rfl rfl (q_assign (v := .one (bC false)) rfl) ?_
                  refine ol_end ?_
                  refine E_seq ?_
                  refine L_ret ?_
                  refine E_seqR ?_
                  obtain rfl := Option.some.inj h
                  exact E_endF (.inr rfl) (res_tmp rfl res_nil) (vw_cons (vd_one vc_v) vw_nil) (fun h hb => own_p) rfl rfl
                · replace h := ifF c17 h
                  refine st_put rfl rfl rfl (q_bin rfl rfl (p_neq_f _ _ _ _ _ c17) rfl) ?_
                  refine st_put rfl rfl rfl (q_move (v := .one (bC false)) rfl) ?_
                  refine st_put rfl rfl rfl (q_fieldP rfl fa33_2 rfl) ?_
                  refine st_put rfl rfl rfl (q_loadP (v := .one (.p false (Sl.t r3 s3))) 0 rfl sz30 rfl rfl rfl rfl) ?_
                  refine st_put rfl rfl rfl (q_fieldP rfl fa33_0 rfl) ?_
                  refine st_put rfl rfl rfl (q_loadP (v := .one (iC .i64 n1)) 0 rfl sz3 rfl rfl rfl rfl) ?_
                  obtain ⟨n20, h19, h⟩ := bindS h
                  obtain ⟨h19a, h19b, h19⟩ := atS_some h19
                  refine st_put rfl rfl rfl (q_ixS rfl rfl h19a h19 (el30.trans (congrArg some h19b.symm))) ?_
                  refine st_put rfl rfl rfl (q_loadI (v := .one (iC .i64 n20)) rfl sz3 (map_get h19) rfl rfl) ?_
                  refine st_put rfl rfl rfl (q_fieldP rfl fa33_3 rfl) ?_
                  refine st_put rfl rfl rfl (q_loadP (v := .one (.p false (Sl.t r3 s4))) 0 rfl sz30 rfl rfl rfl rfl) ?_
                  refine st_put rfl rfl rfl (q_lenS rfl ty30 rfl rfl rfl rfl) ?_
                  by_cases c21 : n20 ≠ ((s4.l.length : Nat) : Int)
                  · replace h := ifT c21 h
                    refine st_put rfl rfl rfl (q_bin rfl rfl (p_neq_t _ _ _ _ _ c21) rfl) ?_
                    refine st_put rfl rfl rfl (q_pickF (v := .one (bC true)) rfl rfl) ?_
                    refine st_end ?_
                    refine E_seq ?_
                    refine L_condT rfl ?_
                    refine L_seq ?_
                    refine L_ops ?_
                    refine ol_put rfl rfl rfl (q_assign (v := .one (bC false)) rfl) ?_
                    refine ol_end ?_
                    refine E_seq ?_
                    refine L_ret ?_
                    refine E_seqR ?_
                    obtain rfl := Option.some.inj h
                    exact E_endF (.inr rfl) (res_tmp rfl res_nil) (vw_cons (vd_one vc_v) vw_nil) (fun h hb => own_p) rfl rfl
                  · replace h := ifF c21 h
                    refine st_put rfl rfl rfl (q_bin rfl rfl (p_neq_f _ _ _ _ _ c21) rfl) ?_
                    refine st_put rfl rfl rfl (q_pickF (v := .one (bC false)) rfl rfl) ?_
                    refine st_end ?_
                    refine E_seq ?_
                    refine L_condF rfl ?_
                    refine L_skip ?_
                    refine E_seq ?_
                    refine L_seq ?_
                    refine L_seq ?_
                    refine L_ops ?_
                    refine ol_put rfl rfl rfl (q_assign (v := .one (iC .i64 0)) rfl) ?_
                    refine ol_end ?_
                    refine E_seq ?_
                    refine L_block ?_
                    let S1 : Int → Unit → (Nat → D) → Nat → D := fun a kt g => ups g [(1, .one (.ptr k6 0 0)), (3, .one (iC .i64 a))]
                    let SL1 : Int → Unit → BL := fun a kt => ([[(k6, 5, [[iC .i64 n1, iC .i64 n2, .p false (Sl.t r3 s3), .p false (Sl.t r3 s4), .p false (Sl.t r2 s5)]])]] : BL)
                    let G1 : Bool → Ex → St → Prop := fun u => endQ E1 [.tmp 2] (.fresh, [.one (bT u)])
                    let Sx1 : Unit → Unit → (Nat → D) → Nat → D := fun a kt g => ups g []
                    let SLx1 : Unit → Unit → BL := fun a kt => ([] : BL)
                    let J1 : (Unit ⊕ Bool) → Ex → St → Prop := JX 156 0 Sx1 SLx1 G1
                    refine L_loopS (ref07_Right_b1 n1 n2 s3 s4) S1 SL1 J1 JX_n 0 h () (ups_self ⟨rfl, rfl, trivial⟩) [0] (by decide) rfl ?_ ?_
                    · rintro n149 _ g out h
                      change ref07_Right_b1 n1 n2 s3 s4 n149 = some out at h
                      unfold ref07_Right_b1 at h
                      refine L_seq ?_
                      refine L_seq ?_
                      refine L_ops ?_
                      refine ol_put rfl rfl rfl (q_move (v := .one (iC .i64 n149)) rfl) ?_
                      refine ol_put rfl rfl rfl (q_fieldP rfl fa33_0 rfl) ?_
                      refine ol_put rfl rfl rfl (q_loadP (v := .one (iC .i64 n1)) 0 rfl sz3 rfl rfl rfl rfl) ?_
                      by_cases c150 : n149 < n1
                      · replace h := ifT c150 h
                        refine ol_put rfl rfl rfl (q_bin rfl rfl (p_lss_t _ _ _ _ _ c150) rfl) ?_
                        refine ol_end ?_
                        refine E_seq ?_
                        refine L_condT rfl ?_
                        refine L_skip ?_
                        refine E_seq ?_
                        refine L_seq ?_
                        refine L_block ?_
                        refine L_seq ?_
                        refine L_seq ?_
                        refine L_still (by kernel_rfl) ?_
                        refine st_put rfl rfl rfl (q_fieldP rfl fa33_2 rfl) ?_
                        refine st_put rfl rfl rfl (q_loadP (v := .one (.p false (Sl.t r3 s3))) 0 rfl sz30 rfl rfl rfl rfl) ?_
                        refine st_put rfl rfl rfl (q_move (v := .one (iC .i64 n149)) rfl) ?_
                        obtain ⟨n153, h152, h⟩ := bindS h
                        obtain ⟨h152a, h152b, h152⟩ := atS_some h152
                        refine st_put rfl rfl rfl (q_ixS rfl rfl h152a h152 (el30.trans (congrArg some h152b.symm))) ?_
                        refine st_put rfl rfl rfl (q_loadI (v := .one (iC .i64 n153)) rfl sz3 (map_get h152) rfl rfl) ?_
                        refine st_put rfl rfl rfl (q_fieldP rfl fa33_2 rfl) ?_
                        refine st_put rfl rfl rfl (q_loadP (v := .one (.p false (Sl.t r3 s3))) 0 rfl sz30 rfl rfl rfl rfl) ?_
                        refine st_put rfl rfl rfl (q_move (v := .one (iC .i64 n149)) rfl) ?_
                        refine st_put rfl rfl rfl (q_bin rfl rfl (p_add _ _ _ _ _ _ _) rfl) ?_
                        obtain ⟨n156, h155, h⟩ := bindS h
                        obtain ⟨h155a, h155b, h155⟩ := atS_some h155
                        refine st_put rfl rfl rfl (q_ixS rfl rfl h155a h155 (el30.trans (congrArg some h155b.symm))) ?_
                        refine st_put rfl rfl rfl (q_loadI (v := .one (iC .i64 n156)) rfl sz3 (map_get h155) rfl rfl) ?_
                        by_cases c157 : n153 > n156
                        · replace h := ifT c157 h
                          refine st_put rfl rfl rfl (q_bin rfl rfl (p_gtr_t _ _ _ _ _ c157) rfl) ?_
                          refine st_put rfl rfl rfl (q_move (v := .one (bC true)) rfl) ?_
                          refine st_skip rfl rfl rfl ?_
                          refine st_skip rfl rfl rfl ?_
                          refine st_skip rfl rfl rfl ?_
                          refine st_skip rfl rfl rfl ?_
                          refine st_skip rfl rfl rfl ?_
                          refine st_skip rfl rfl rfl ?_
                          refine st_put rfl rfl rfl (q_pickT (v := .one (bC true)) rfl rfl) ?_
                          refine st_put rfl rfl rfl (q_move (v := .one (bC true)) rfl) ?_
                          refine st_skip rfl rfl rfl ?_
                          refine st_skip rfl rfl rfl ?_
                          refine st_skip rfl rfl rfl ?_
                          refine st_skip rfl rfl rfl ?_
                          refine st_skip rfl rfl rfl ?_
                          refine st_skip rfl rfl rfl ?_
                          refine st_skip rfl rfl rfl ?_
                          refine st_skip rfl rfl rfl ?_
                          refine st_skip rfl rfl rfl ?_
                          refine st_skip rfl rfl rfl ?_
                          refine st_put rfl rfl rfl (q_pickT (v := .one (bC true)) rfl rfl) ?_
                          refine st_end ?_
                          refine E_seq ?_
                          refine L_condT rfl ?_
                          refine L_seq ?_
                          refine L_ops ?_
                          refine ol_put rfl rfl rfl (q_assign (v := .one (bC false)) rfl) ?_
                          refine ol_end ?_
                          refine E_seq ?_
                          refine L_ret ?_
                          refine E_seqR ?_
                          refine E_blkR ?_
                          refine E_seqR ?_
                          obtain rfl := Option.some.inj h
                          exact E_out (E_up (E_endF (.inr rfl) (res_tmp rfl res_nil) (vw_cons (vd_one vc_v) vw_nil) (fun h hb => own_p) rfl rfl))
                        · replace h := ifF c157 h
                          refine st_put rfl rfl rfl (q_bin rfl rfl (p_gtr_f _ _ _ _ _ c157) rfl) ?_
                          refine st_put rfl rfl rfl (q_move (v := .one (bC false)) rfl) ?_
                          refine st_put rfl rfl rfl (q_fieldP rfl fa33_2 rfl) ?_
                          refine st_put rfl rfl rfl (q_loadP (v := .one (.p false (Sl.t r3 s3))) 0 rfl sz30 rfl rfl rfl rfl) ?_
                          refine st_put rfl rfl rfl (q_move (v := .one (iC .i64 n149)) rfl) ?_
                          refine st_put rfl rfl rfl (q_ixS rfl rfl h152a h152 (el30.trans (congrArg some h152b.symm))) ?_
                          refine st_put rfl rfl rfl (q_loadI (v := .one (iC .i64 n153)) rfl sz3 (map_get h152) rfl rfl) ?_
                          by_cases c158 : n153 < 0
                          · replace h := ifT c158 h
                            refine st_put rfl rfl rfl (q_bin rfl rfl (p_lss_t _ _ _ _ _ c158) rfl) ?_
                            refine st_put rfl rfl rfl (q_pickF (v := .one (bC true)) rfl rfl) ?_
                            refine st_put rfl rfl rfl (q_move (v := .one (bC true)) rfl) ?_
                            refine st_skip rfl rfl rfl ?_
                            refine st_skip rfl rfl rfl ?_
                            refine st_skip rfl rfl rfl ?_
                            refine st_skip rfl rfl rfl ?_
                            refine st_skip rfl rfl rfl ?_
                            refine st_skip rfl rfl rfl ?_
                            refine st_skip rfl rfl rfl ?_
                            refine st_skip rfl rfl rfl ?_
                            refine st_skip rfl rfl rfl ?_
                            refine st_skip rfl rfl rfl ?_
                            refine st_put rfl rfl rfl (q_pickT (v := .one (bC true)) rfl rfl) ?_
                            refine st_end ?_
                            refine E_seq ?_
                            refine L_condT rfl ?_
                            refine L_seq ?_
                            refine L_ops ?_
                            refine ol_put rfl rfl rfl (q_assign (v := .one (bC false)) rfl) ?_
                            refine ol_end ?_
                            refine E_seq ?_
                            refine L_ret ?_
                            refine E_seqR ?_
                            refine E_blkR ?_
                            refine E_seqR ?_
                            obtain rfl := Option.some.inj h
                            exact E_out (E_up (E_endF (.inr rfl) (res_tmp rfl res_nil) (vw_cons (vd_one vc_v) vw_nil) (fun h hb => own_p) rfl rfl))
                          · replace h := ifF c158 h
                            refine st_put rfl rfl rfl (q_bin rfl rfl (p_lss_f _ _ _ _ _ c158) rfl) ?_
                            refine st_put rfl rfl rfl (q_pickF (v := .one (bC false)) rfl rfl) ?_
                            refine st_put rfl rfl rfl (q_move (v := .one (bC false)) rfl) ?_
                            refine st_put rfl rfl rfl (q_fieldP rfl fa33_2 rfl) ?_
                            refine st_put rfl rfl rfl (q_loadP (v := .one (.p false (Sl.t r3 s3))) 0 rfl sz30 rfl rfl rfl rfl) ?_
                            refine st_put rfl rfl rfl (q_move (v := .one (iC .i64 n149)) rfl) ?_
                            refine st_put rfl rfl rfl (q_bin rfl rfl (p_add _ _ _ _ _ _ _) rfl) ?_
                            refine st_put rfl rfl rfl (q_ixS rfl rfl h155a h155 (el30.trans (congrArg some h155b.symm))) ?_
                            refine st_put rfl rfl rfl (q_loadI (v := .one (iC .i64 n156)) rfl sz3 (map_get h155) rfl rfl) ?_
                            refine st_put rfl rfl rfl (q_fieldP rfl fa33_3 rfl) ?_
                            refine st_put rfl rfl rfl (q_loadP (v := .one (.p false (Sl.t r3 s4))) 0 rfl sz30 rfl rfl rfl rfl) ?_
                            refine st_put rfl rfl rfl (q_lenS rfl ty30 rfl rfl rfl rfl) ?_
                            by_cases c159 : n156 > ((s4.l.length : Nat) : Int)
                            · replace h := ifT c159 h
                              refine st_put rfl rfl rfl (q_bin rfl rfl (p_gtr_t _ _ _ _ _ c159) rfl) ?_
                              refine st_put rfl rfl rfl (q_pickF (v := .one (bC true)) rfl rfl) ?_
                              refine st_end ?_
                              refine E_seq ?_
                              refine L_condT rfl ?_
                              refine L_seq ?_
                              refine L_ops ?_
                              refine ol_put rfl rfl rfl (q_assign (v := .one (bC false)) rfl) ?_
                              refine ol_end ?_
                              refine E_seq ?_
                              refine L_ret ?_
                              refine E_seqR ?_
                              refine E_blkR ?_
                              refine E_seqR ?_
                              obtain rfl := Option.some.inj h
                              exact E_out (E_up (E_endF (.inr rfl) (res_tmp rfl res_nil) (vw_cons (vd_one vc_v) vw_nil) (fun h hb => own_p) rfl rfl))
                            · replace h := ifF c159 h
                              refine st_put rfl rfl rfl (q_bin rfl rfl (p_gtr_f _ _ _ _ _ c159) rfl) ?_
                              refine st_put rfl rfl rfl (q_pickF (v := .one (bC false)) rfl rfl) ?_
                              refine st_end ?_
                              refine E_seq ?_
                              refine L_condF rfl ?_
                              refine L_skip ?_
                              refine E_seq ?_
                              refine L_seq ?_
                              refine L_ops ?_
                              refine ol_put rfl rfl rfl (q_fieldP rfl fa33_2 rfl) ?_
                              refine ol_put rfl rfl rfl (q_loadP (v := .one (.p false (Sl.t r3 s3))) 0 rfl sz30 rfl rfl rfl rfl) ?_
                              refine ol_put rfl rfl rfl (q_move (v := .one (iC .i64 n149)) rfl) ?_
                              refine ol_put rfl rfl rfl (q_ixS rfl rfl h152a h152 (el30.trans (congrArg some h152b.symm))) ?_
                              refine ol_put rfl rfl rfl (q_loadI (v := .one (iC .i64 n153)) rfl sz3 (map_get h152) rfl rfl) ?_
                              refine ol_put rfl rfl rfl (q_assign (v := .one (iC .i64 n153)) rfl) ?_
                              refine ol_end ?_
                              refine E_seq ?_
                              refine L_block ?_
                              let S2 : Int → Unit → (Nat → D) → Nat → D := fun a kt g => ups g [(1, .one (.ptr k6 0 0)), (3, .one (iC .i64 n149)), (4, .one (iC .i64 a)), (83, .one (.ptr k6 0 2)), (84, .one (.p false (Sl.t r3 s3))), (85, .one (iC .i64 n149)), (87, .one (iC .i64 n153)), (88, .one (bC false)), (91, .one (.ptr k6 0 2)), (92, .one (.p false (Sl.t r3 s3))), (93, .one (iC .i64 n149)), (94, .one (iC .i64 (IntKind.i64.wrap (n149 + 1)))), (96, .one (iC .i64 n156)), (97, .one (.ptr k6 0 3)), (98, .one (.p false (Sl.t r3 s4))), (99, .one (iC .i64 ((s4.l.length : Nat) : Int))), (100, .one (bC false))]
                              let SL2 : Int → Unit → BL := fun a kt => ([[(k6, 5, [[iC .i64 n1, iC .i64 n2, .p false (Sl.t r3 s3), .p false (Sl.t r3 s4), .p false (Sl.t r2 s5)]])]] : BL)
                              let G2 : (Int ⊕ (Unit ⊕ Bool)) → Ex → St → Prop := LQ 156 S1 SL1 J1
                              let Sx2 : Unit → Unit → (Nat → D) → Nat → D := fun a kt g => ups g [(1, .one (.ptr k6 0 0)), (3, .one (iC .i64 n149)), (83, .one (.ptr k6 0 2)), (84, .one (.p false (Sl.t r3 s3))), (85, .one (iC .i64 n149)), (87, .one (iC .i64 n153)), (88, .one (bC false)), (91, .one (.ptr k6 0 2)), (92, .one (.p false (Sl.t r3 s3))), (93, .one (iC .i64 n149)), (94, .one (iC .i64 (IntKind.i64.wrap (n149 + 1)))), (96, .one (iC .i64 n156)), (97, .one (.ptr k6 0 3)), (98, .one (.p false (Sl.t r3 s4))), (99, .one (iC .i64 ((s4.l.length : Nat) : Int))), (100, .one (bC false))]
                              let SLx2 : Unit → Unit → BL := fun a kt => ([[(k6, 5, [[iC .i64 n1, iC .i64 n2, .p false (Sl.t r3 s3), .p false (Sl.t r3 s4), .p false (Sl.t r2 s5)]])]] : BL)
                              let J2 : (Unit ⊕ (Int ⊕ (Unit ⊕ Bool))) → Ex → St → Prop := JX 156 2 Sx2 SLx2 G2
                              refine L_loopS (ref07_Right_b2 n2 s3 s4 n149) S2 SL2 J2 JX_n n153 h () (ups_self ⟨rfl, rfl, rfl, rfl, rfl, rfl, rfl, rfl, rfl, rfl, rfl, rfl, rfl, rfl, rfl, rfl, rfl, trivial⟩) [0] (by decide) rfl ?_ ?_
                              · rintro n195 _ g out h
                                change ref07_Right_b2 n2 s3 s4 n149 n195 = some out at h
                                unfold ref07_Right_b2 at h
                                refine L_seq ?_
                                refine L_seq ?_
                                refine L_ops ?_
                                refine ol_put rfl rfl rfl (q_move (v := .one (iC .i64 n195)) rfl) ?_
                                refine ol_put rfl rfl rfl (q_fieldP rfl fa33_2 rfl) ?_
                                refine ol_put rfl rfl rfl (q_loadP (v := .one (.p false (Sl.t r3 s3))) 0 rfl sz30 rfl rfl rfl rfl) ?_
                                refine ol_put rfl rfl rfl (q_move (v := .one (iC .i64 n149)) rfl) ?_
                                refine ol_put rfl rfl rfl (q_bin rfl rfl (p_add _ _ _ _ _ _ _) rfl) ?_
                                obtain ⟨n198, h197, h⟩ := bindS h
                                obtain ⟨h197a, h197b, h197⟩ := atS_some h197
                                refine ol_put rfl rfl rfl (q_ixS rfl rfl h197a h197 (el30.trans (congrArg some h197b.symm))) ?_
                                refine ol_put rfl rfl rfl (q_loadI (v := .one (iC .i64 n198)) rfl sz3 (map_get h197) rfl rfl) ?_
                                by_cases c199 : n195 < n198
                                · replace h := ifT c199 h
                                  refine ol_put rfl rfl rfl (q_bin rfl rfl (p_lss_t _ _ _ _ _ c199) rfl) ?_
                                  refine ol_end ?_
                                  refine E_seq ?_
                                  refine L_condT rfl ?_
                                  refine L_skip ?_
                                  refine E_seq ?_
                                  refine L_seq ?_
                                  refine L_block ?_
                                  refine L_seq ?_
                                  refine L_still (by kernel_rfl) ?_
                                  refine st_put rfl rfl rfl (q_fieldP rfl fa33_3 rfl) ?_
                                  refine st_put rfl rfl rfl (q_loadP (v := .one (.p false (Sl.t r3 s4))) 0 rfl sz30 rfl rfl rfl rfl) ?_
                                  refine st_put rfl rfl rfl (q_move (v := .one (iC .i64 n195)) rfl) ?_
                                  obtain ⟨n202, h201, h⟩ := bindS h
                                  obtain ⟨h201a, h201b, h201⟩ := atS_some h201
                                  refine st_put rfl rfl rfl (q_ixS rfl rfl h201a h201 (el30.trans (congrArg some h201b.symm))) ?_
                                  refine st_put rfl rfl rfl (q_loadI (v := .one (iC .i64 n202)) rfl sz3 (map_get h201) rfl rfl) ?_
                                  by_cases c203 : n202 < 0
                                  · replace h := ifT c203 h
                                    refine st_put rfl rfl rfl (q_bin rfl rfl (p_lss_t _ _ _ _ _ c203) rfl) ?_
                                    refine st_put rfl rfl rfl (q_move (v := .one (bC true)) rfl) ?_
                                    refine st_skip rfl rfl rfl ?_
                                    refine st_skip rfl rfl rfl ?_
                                    refine st_skip rfl rfl rfl ?_
                                    refine st_skip rfl rfl rfl ?_
                                    refine st_skip rfl rfl rfl ?_
                                    refine st_skip rfl rfl rfl ?_
                                    refine st_skip rfl rfl rfl ?_
                                    refine st_skip rfl rfl rfl ?_
                                    refine st_put rfl rfl rfl (q_pickT (v := .one (bC true)) rfl rfl) ?_
                                    refine st_put rfl rfl rfl (q_move (v := .one (bC true)) rfl) ?_
                                    refine st_skip rfl rfl rfl ?_
                                    refine st_skip rfl rfl rfl ?_
                                    refine st_skip rfl rfl rfl ?_
                                    refine st_skip rfl rfl rfl ?_
                                    refine st_skip rfl rfl rfl ?_
                                    refine st_skip rfl rfl rfl ?_
                                    refine st_skip rfl rfl rfl ?_
                                    refine st_skip rfl rfl rfl ?_
                                    refine st_skip rfl rfl rfl ?_
                                    refine st_skip rfl rfl rfl ?_
                                    refine st_skip rfl rfl rfl ?_
                                    refine st_skip rfl rfl rfl ?_
                                    refine st_skip rfl rfl rfl ?_
                                    refine st_skip rfl rfl rfl ?_
                                    refine st_skip rfl rfl rfl ?_
                                    refine st_skip rfl rfl rfl ?_
                                    refine st_skip rfl rfl rfl ?_
                                    refine st_skip rfl rfl rfl ?_
                                    refine st_skip rfl rfl rfl ?_
                                    refine st_skip rfl rfl rfl ?_
                                    refine st_skip rfl rfl rfl ?_
                                    refine st_put rfl rfl rfl (q_pickT (v := .one (bC true)) rfl rfl) ?_
                                    refine st_end ?_
                                    refine E_seq ?_
                                    refine L_condT rfl ?_
                                    refine L_seq ?_
                                    refine L_ops ?_
                                    refine ol_put rfl rfl rfl (q_assign (v := .one (bC false)) rfl) ?_
                                    refine ol_end ?_
                                    refine E_seq ?_
                                    refine L_ret ?_
                                    refine E_blkR ?_
                                    refine E_seqR ?_
                                    obtain rfl := Option.some.inj h
                                    exact E_out (E_up (E_out (E_up (E_endF (.inr rfl) (res_tmp rfl res_nil) (vw_cons (vd_one vc_v) vw_nil) (fun h hb => own_p) rfl rfl))))
                                  · replace h := ifF c203 h
                                    refine st_put rfl rfl rfl (q_bin rfl rfl (p_lss_f _ _ _ _ _ c203) rfl) ?_
                                    refine st_put rfl rfl rfl (q_move (v := .one (bC false)) rfl) ?_
                                    refine st_put rfl rfl rfl (q_fieldP rfl fa33_3 rfl) ?_
                                    refine st_put rfl rfl rfl (q_loadP (v := .one (.p false (Sl.t r3 s4))) 0 rfl sz30 rfl rfl rfl rfl) ?_
                                    refine st_put rfl rfl rfl (q_move (v := .one (iC .i64 n195)) rfl) ?_
                                    refine st_put rfl rfl rfl (q_ixS rfl rfl h201a h201 (el30.trans (congrArg some h201b.symm))) ?_
                                    refine st_put rfl rfl rfl (q_loadI (v := .one (iC .i64 n202)) rfl sz3 (map_get h201) rfl rfl) ?_
                                    refine st_put rfl rfl rfl (q_fieldP rfl fa33_1 rfl) ?_
                                    refine st_put rfl rfl rfl (q_loadP (v := .one (iC .i64 n2)) 0 rfl sz3 rfl rfl rfl rfl) ?_
                                    by_cases c204 : n202 ≥ n2
                                    · replace h := ifT c204 h
                                      refine st_put rfl rfl rfl (q_bin rfl rfl (p_geq_t _ _ _ _ _ c204) rfl) ?_
                                      refine st_put rfl rfl rfl (q_pickF (v := .one (bC true)) rfl rfl) ?_
                                      refine st_put rfl rfl rfl (q_move (v := .one (bC true)) rfl) ?_
                                      refine st_skip rfl rfl rfl ?_
                                      refine st_skip rfl rfl rfl ?_
                                      refine st_skip rfl rfl rfl ?_
                                      refine st_skip rfl rfl rfl ?_
                                      refine st_skip rfl rfl rfl ?_
                                      refine st_skip rfl rfl rfl ?_
                                      refine st_skip rfl rfl rfl ?_
                                      refine st_skip rfl rfl rfl ?_
                                      refine st_skip rfl rfl rfl ?_
                                      refine st_skip rfl rfl rfl ?_
                                      refine st_skip rfl rfl rfl ?_
                                      refine st_skip rfl rfl rfl ?_
                                      refine st_skip rfl rfl rfl ?_
                                      refine st_skip rfl rfl rfl ?_
                                      refine st_skip rfl rfl rfl ?_
                                      refine st_skip rfl rfl rfl ?_
                                      refine st_skip rfl rfl rfl ?_
                                      refine st_skip rfl rfl rfl ?_
                                      refine st_skip rfl rfl rfl ?_
                                      refine st_skip rfl rfl rfl ?_
                                      refine st_skip rfl rfl rfl ?_
                                      refine st_put rfl rfl rfl (q_pickT (v := .one (bC true)) rfl rfl) ?_
                                      refine st_end ?_
                                      refine E_seq ?_
                                      refine L_condT rfl ?_
                                      refine L_seq ?_
                                      refine L_ops ?_
                                      refine ol_put rfl rfl rfl (q_assign (v := .one (bC false)) rfl) ?_
                                      refine ol_end ?_
                                      refine E_seq ?_
                                      refine L_ret ?_
                                      refine E_blkR ?_
                                      refine E_seqR ?_
                                      obtain rfl := Option.some.inj h
                                      exact E_out (E_up (E_out (E_up (E_endF (.inr rfl) (res_tmp rfl res_nil) (vw_cons (vd_one vc_v) vw_nil) (fun h hb => own_p) rfl rfl))))
                                    · replace h := ifF c204 h
                                      refine st_put rfl rfl rfl (q_bin rfl rfl (p_geq_f _ _ _ _ _ c204) rfl) ?_
                                      refine st_put rfl rfl rfl (q_pickF (v := .one (bC false)) rfl rfl) ?_
                                      refine st_put rfl rfl rfl (q_move (v := .one (bC false)) rfl) ?_
                                      refine st_put rfl rfl rfl (q_move (v := .one (iC .i64 n195)) rfl) ?_
                                      refine st_put rfl rfl rfl (q_fieldP rfl fa33_2 rfl) ?_
                                      refine st_put rfl rfl rfl (q_loadP (v := .one (.p false (Sl.t r3 s3))) 0 rfl sz30 rfl rfl rfl rfl) ?_
                                      refine st_put rfl rfl rfl (q_move (v := .one (iC .i64 n149)) rfl) ?_
                                      obtain ⟨n207, h206, h⟩ := bindS h
                                      obtain ⟨h206a, h206b, h206⟩ := atS_some h206
                                      refine st_put rfl rfl rfl (q_ixS rfl rfl h206a h206 (el30.trans (congrArg some h206b.symm))) ?_
                                      refine st_put rfl rfl rfl (q_loadI (v := .one (iC .i64 n207)) rfl sz3 (map_get h206) rfl rfl) ?_
                                      by_cases c208 : n195 > n207
                                      · replace h := ifT c208 h
                                        refine st_put rfl rfl rfl (q_bin rfl rfl (p_gtr_t _ _ _ _ _ c208) rfl) ?_
                                        refine st_put rfl rfl rfl (q_move (v := .one (bC true)) rfl) ?_
                                        refine st_put rfl rfl rfl (q_fieldP rfl fa33_3 rfl) ?_
                                        refine st_put rfl rfl rfl (q_loadP (v := .one (.p false (Sl.t r3 s4))) 0 rfl sz30 rfl rfl rfl rfl) ?_
                                        refine st_put rfl rfl rfl (q_move (v := .one (iC .i64 n195)) rfl) ?_
                                        refine st_put rfl rfl rfl (q_ixS rfl rfl h201a h201 (el30.trans (congrArg some h201b.symm))) ?_
                                        refine st_put rfl rfl rfl (q_loadI (v := .one (iC .i64 n202)) rfl sz3 (map_get h201) rfl rfl) ?_
                                        refine st_put rfl rfl rfl (q_fieldP rfl fa33_3 rfl) ?_
                                        refine st_put rfl rfl rfl (q_loadP (v := .one (.p false (Sl.t r3 s4))) 0 rfl sz30 rfl rfl rfl rfl) ?_
                                        refine st_put rfl rfl rfl (q_move (v := .one (iC .i64 n195)) rfl) ?_
                                        refine st_put rfl rfl rfl (q_bin rfl rfl (p_sub _ _ _ _ _ _ _) rfl) ?_
                                        obtain ⟨n211, h210, h⟩ := bindS h
                                        obtain ⟨h210a, h210b, h210⟩ := atS_some h210
                                        refine st_put rfl rfl rfl (q_ixS rfl rfl h210a h210 (el30.trans (congrArg some h210b.symm))) ?_
                                        refine st_put rfl rfl rfl (q_loadI (v := .one (iC .i64 n211)) rfl sz3 (map_get h210) rfl rfl) ?_
                                        by_cases c212 : n202 ≤ n211
                                        · replace h := ifT c212 h
                                          refine st_put rfl rfl rfl (q_bin rfl rfl (p_leq_t _ _ _ _ _ c212) rfl) ?_
                                          refine st_put rfl rfl rfl (q_pickT (v := .one (bC true)) rfl rfl) ?_
                                          refine st_put rfl rfl rfl (q_pickF (v := .one (bC true)) rfl rfl) ?_
                                          refine st_end ?_
                                          refine E_seq ?_
                                          refine L_condT rfl ?_
                                          refine L_seq ?_
                                          refine L_ops ?_
                                          refine ol_put rfl rfl rfl (q_assign (v := .one (bC false)) rfl) ?_
                                          refine ol_end ?_
                                          refine E_seq ?_
                                          refine L_ret ?_
                                          refine E_blkR ?_
                                          refine E_seqR ?_
                                          obtain rfl := Option.some.inj h
                                          exact E_out (E_up (E_out (E_up (E_endF (.inr rfl) (res_tmp rfl res_nil) (vw_cons (vd_one vc_v) vw_nil) (fun h hb => own_p) rfl rfl))))
                                        · replace h := ifF c212 h
                                          refine st_put rfl rfl rfl (q_bin rfl rfl (p_leq_f _ _ _ _ _ c212) rfl) ?_
                                          refine st_put rfl rfl rfl (q_pickT (v := .one (bC false)) rfl rfl) ?_
                                          refine st_put rfl rfl rfl (q_pickF (v := .one (bC false)) rfl rfl) ?_
                                          refine st_end ?_
                                          refine E_seq ?_
                                          refine L_condF rfl ?_
                                          refine L_skip ?_
                                          refine E_blkN ?_
                                          refine E_seq ?_
                                          refine L_ops ?_
                                          refine ol_put rfl rfl rfl (q_move (v := .one (iC .i64 n195)) rfl) ?_
                                          refine ol_put rfl rfl rfl (q_bin rfl rfl (p_add _ _ _ _ _ _ _) rfl) ?_
                                          refine ol_put rfl rfl rfl (q_assign (v := .one (iC .i64 (IntKind.i64.wrap (n195 + 1)))) rfl) ?_
                                          refine ol_end ?_
                                          obtain rfl := Option.some.inj h
                                          exact E_next () (ups_self ⟨rfl, rfl, rfl, rfl, rfl, rfl, rfl, rfl, rfl, rfl, rfl, rfl, rfl, rfl, rfl, rfl, rfl, trivial⟩) [0] (by decide) rfl
                                      · replace h := ifF c208 h
                                        refine st_put rfl rfl rfl (q_bin rfl rfl (p_gtr_f _ _ _ _ _ c208) rfl) ?_
                                        refine st_put rfl rfl rfl (q_move (v := .one (bC false)) rfl) ?_
                                        refine st_skip rfl rfl rfl ?_
                                        refine st_skip rfl rfl rfl ?_
                                        refine st_skip rfl rfl rfl ?_
                                        refine st_skip rfl rfl rfl ?_
                                        refine st_skip rfl rfl rfl ?_
                                        refine st_skip rfl rfl rfl ?_
                                        refine st_skip rfl rfl rfl ?_
                                        refine st_skip rfl rfl rfl ?_
                                        refine st_skip rfl rfl rfl ?_
                                        refine st_skip rfl rfl rfl ?_
                                        refine st_skip rfl rfl rfl ?_
                                        refine st_skip rfl rfl rfl ?_
                                        refine st_put rfl rfl rfl (q_pickF (v := .one (bC false)) rfl rfl) ?_
                                        refine st_put rfl rfl rfl (q_pickF (v := .one (bC false)) rfl rfl) ?_
                                        refine st_end ?_
                                        refine E_seq ?_
                                        refine L_condF rfl ?_
                                        refine L_skip ?_
                                        refine E_blkN ?_
                                        refine E_seq ?_
                                        refine L_ops ?_
                                        refine ol_put rfl rfl rfl (q_move (v := .one (iC .i64 n195)) rfl) ?_
                                        refine ol_put rfl rfl rfl (q_bin rfl rfl (p_add _ _ _ _ _ _ _) rfl) ?_
                                        refine ol_put rfl rfl rfl (q_assign (v := .one (iC .i64 (IntKind.i64.wrap (n195 + 1)))) rfl) ?_
                                        refine ol_end ?_
                                        obtain rfl := Option.some.inj h
                                        exact E_next () (ups_self ⟨rfl, rfl, rfl, rfl, rfl, rfl, rfl, rfl, rfl, rfl, rfl, rfl, rfl, rfl, rfl, rfl, rfl, trivial⟩) [0] (by decide) rfl
                                · replace h := ifF c199 h
                                  refine ol_put rfl rfl rfl (q_bin rfl rfl (p_lss_f _ _ _ _ _ c199) rfl) ?_
                                  refine ol_end ?_
                                  refine E_seq ?_
                                  refine L_condF rfl ?_
                                  refine L_exit ?_
                                  refine E_seqX ?_
                                  obtain rfl := Option.some.inj h
                                  refine E_out ?_
                                  exact (E_exit () (ups_self ⟨rfl, rfl, rfl, rfl, rfl, rfl, rfl, rfl, rfl, rfl, rfl, rfl, rfl, rfl, rfl, rfl, trivial⟩) [0] (by decide) rfl)
                              · rintro (_ | u) h
                                · refine J_x (fun kt g => ?_)
                                  replace h := elimL h
                                  refine E_blkH ?_
                                  refine E_blkN ?_
                                  refine E_seq ?_
                                  refine L_ops ?_
                                  refine ol_put rfl rfl rfl (q_move (v := .one (iC .i64 n149)) rfl) ?_
                                  refine ol_put rfl rfl rfl (q_bin rfl rfl (p_add _ _ _ _ _ _ _) rfl) ?_
                                  refine ol_put rfl rfl rfl (q_assign (v := .one (iC .i64 (IntKind.i64.wrap (n149 + 1)))) rfl) ?_
                                  refine ol_end ?_
                                  obtain rfl := Option.some.inj h
                                  exact E_next () (ups_self ⟨rfl, rfl, trivial⟩) [0] (by decide) rfl
                                · obtain rfl := Option.some.inj (elimR h)
                                  exact J_up (fun s hs => hs)
                      · replace h := ifF c150 h
                        refine ol_put rfl rfl rfl (q_bin rfl rfl (p_lss_f _ _ _ _ _ c150) rfl) ?_
                        refine ol_end ?_
                        refine E_seq ?_
                        refine L_condF rfl ?_
                        refine L_exit ?_
                        refine E_seqX ?_
                        obtain rfl := Option.some.inj h
                        refine E_out ?_
                        exact (E_exit () (ups_self trivial) [] (by decide) rfl)
                    · rintro (_ | u) h
                      · refine J_x (fun kt g => ?_)
                        replace h := elimL h
                        refine E_blkH ?_
                        refine E_seq ?_
                        refine L_seq ?_
                        refine L_ops ?_
                        refine ol_put rfl rfl rfl (q_assign (v := .one (bC true)) rfl) ?_
                        refine ol_end ?_
                        refine E_seq ?_
                        refine L_ret ?_
                        obtain rfl := Option.some.inj h
                        exact E_endF (.inr rfl) (res_tmp rfl res_nil) (vw_cons (vd_one vc_v) vw_nil) (fun h hb => own_p) rfl rfl
                      · obtain rfl := Option.some.inj (elimR h)
                        exact J_up (fun s hs => hs)

noncomputable def ref07_Sure (a0 : Int × Int × Sl (Int) × Sl (Int) × Sl (Int)) : Option ((Int × Int × Sl (Int) × Sl (Int) × Sl (Int))) :=
  match a0 with
  | (n1, n2, s3, s4, s5) => ((ref07_Right (n1, n2, s3, s4, s5)).bind fun b9 => (if b9 = true then some (n1, n2, s3, s4, s5) else ((lenOk (IntKind.i64.wrap (0 + 1))).bind fun _ => some (0, 0, (⟨true, 1, (List.replicate (IntKind.i64.wrap (0 + 1)).toNat (0 : Int))⟩ : Sl (Int)), (⟨false, 0, []⟩ : Sl (Int)), (⟨false, 0, []⟩ : Sl (Int))))))
theorem ref07_Sure_r (m : Nat) {a0 : Int × Int × Sl (Int) × Sl (Int) × Sl (Int)} {out : (Int × Int × Sl (Int) × Sl (Int) × Sl (Int))} (h : ref07_Sure a0 = some out) : RunsX E1 (m + 2) 42 [.agg (r32 a0)] [.agg (r32 out)] := by
  obtain ⟨n1, n2, s3, s4, s5⟩ := a0
  refine fn_X rfl (by rw [E1_fn]; exact show fiOf Tryd.prog 42 = _ by unfold fiOf; rw [Tryd.func42]; unfold Tryd.f42; rfl) rfl ?_
  dsimp only
  unfold ref07_Sure at h
  refine L_seq ?_
  refine L_ops ?_
  refine ol_new rfl rfl rfl (q_box ty33 rfl (cs := [iC .i64 n1, iC .i64 n2, .p false (Sl.t r3 s3), .p false (Sl.t r3 s4), .p false (Sl.t r2 s5)]) rfl rfl) (fun k6 => ?_)
  refine ol_new rfl rfl rfl (q_alloc ty33 (row := [iC .i64 0, iC .i64 0, .p true (Sl.t r3 (⟨false, 0, []⟩ : Sl (Int))), .p true (Sl.t r3 (⟨false, 0, []⟩ : Sl (Int))), .p true (Sl.t r2 (⟨false, 0, []⟩ : Sl (Int)))]) rfl rfl) (fun k7 => ?_)
  refine ol_end ?_
  refine E_seq ?_
  refine L_seq ?_
  refine L_seq ?_
  refine L_ops ?_
  refine ol_put rfl rfl rfl (q_loadP (v := .agg [iC .i64 n1, iC .i64 n2, .p false (Sl.t r3 s3), .p false (Sl.t r3 s4), .p false (Sl.t r2 s5)]) 1 rfl sz33 rfl rfl rfl rfl) ?_
  obtain ⟨b9, h8, h⟩ := bindS h
  refine ol_put rfl rfl rfl (q_callF (v := .one (bC b9)) (args := [.agg [iC .i64 n1, iC .i64 n2, .p false (Sl.t r3 s3), .p false (Sl.t r3 s4), .p false (Sl.t r2 s5)]]) (ref07_Right_r (m + 0) h8) rfl rfl (vw_cons (vd_agg (vc_cons vc_v (vc_cons vc_v (vc_cons vc_s (vc_cons vc_s (vc_cons vc_s vc_nil)))))) vw_nil) rfl rfl) ?_
  refine ol_end ?_
  refine E_seq ?_
  rcases b9 with _ | _
  · replace h := ifF (by decide) h
    refine L_condF rfl ?_
    refine L_skip ?_
    refine E_seq ?_
    refine L_seq ?_
    refine L_ops ?_
    refine ol_scallN (args := [.one (iC .i64 0), .one (iC .i64 0)]) rfl rfl rfl ax60 (by rw [E1_fn]; exact show fiOf Tryd.prog 60 = _ by unfold fiOf; rw [Tryd.func60]; unfold Tryd.f60; rfl) rfl rfl rfl ?_
    dsimp only
    refine L_seq ?_
    refine L_ops ?_
    refine ol_new rfl rfl rfl (q_alloc ty33 (row := [iC .i64 0, iC .i64 0, .p true (Sl.t r3 (⟨false, 0, []⟩ : Sl (Int))), .p true (Sl.t r3 (⟨false, 0, []⟩ : Sl (Int))), .p true (Sl.t r2 (⟨false, 0, []⟩ : Sl (Int)))]) rfl rfl) (fun k10 => ?_)
    refine ol_end ?_
    refine E_seq ?_
    refine L_seq ?_
    refine L_ops ?_
    refine ol_put rfl rfl rfl (q_move (v := .one (iC .i64 0)) rfl) ?_
    refine ol_put rfl rfl rfl (q_move (v := .one (iC .i64 0)) rfl) ?_
    refine ol_put rfl rfl rfl (q_move (v := .one (iC .i64 0)) rfl) ?_
    refine ol_put rfl rfl rfl (q_bin rfl rfl (p_add _ _ _ _ _ _ _) rfl) ?_
    obtain ⟨u11, h12, h⟩ := bindS h
    refine ol_new rfl rfl rfl (q_mkslice (r := rowC r3) (a := (0 : Int)) ty30 rfl ty3 rfl rfl (lenOk_some h12).1 (lenOk_some h12).2 rfl rfl) (fun k13 => ?_)
    refine ol_put rfl rfl rfl (q_build (cs := [iC .i64 0, iC .i64 0, .own k13 0 ((List.replicate (IntKind.i64.wrap (0 + 1)).toNat (0 : Int))).length, .p true (Sl.t r3 (⟨false, 0, []⟩ : Sl (Int))), .p true (Sl.t r2 (⟨false, 0, []⟩ : Sl (Int)))]) ty33 rfl pl33 rfl) ?_
    refine ol_wr rfl rfl (q_store (es' := [[iC .i64 0, iC .i64 0, .own k13 0 ((List.replicate (IntKind.i64.wrap (0 + 1)).toNat (0 : Int))).length, .p true (Sl.t r3 (⟨false, 0, []⟩ : Sl (Int))), .p true (Sl.t r2 (⟨false, 0, []⟩ : Sl (Int)))]]) 1 rfl rfl rfl sz33 rfl rfl rfl rfl rfl) rfl ?_
    refine ol_end ?_
    refine E_seq ?_
    refine L_ret ?_
    refine E_call (v := .agg [iC .i64 0, iC .i64 0, .own k13 0 ((List.replicate (IntKind.i64.wrap (0 + 1)).toNat (0 : Int))).length, .p true (Sl.t r3 (⟨false, 0, []⟩ : Sl (Int))), .p true (Sl.t r2 (⟨false, 0, []⟩ : Sl (Int)))]) (.inr rfl) (res_cell (d := .agg [iC .i64 0, iC .i64 0, .own k13 0 ((List.replicate (IntKind.i64.wrap (0 + 1)).toNat (0 : Int))).length, .p true (Sl.t r3 (⟨false, 0, []⟩ : Sl (Int))), .p true (Sl.t r2 (⟨false, 0, []⟩ : Sl (Int)))]) 1 rfl sz33 rfl rfl rfl rfl res_nil) rfl ?_
    refine ol_wr rfl rfl (q_store (es' := [[iC .i64 0, iC .i64 0, .own k13 0 ((List.replicate (IntKind.i64.wrap (0 + 1)).toNat (0 : Int))).length, .p true (Sl.t r3 (⟨false, 0, []⟩ : Sl (Int))), .p true (Sl.t r2 (⟨false, 0, []⟩ : Sl (Int)))]]) 2 rfl rfl rfl sz33 rfl rfl rfl rfl rfl) rfl ?_
    refine ol_end ?_
    refine E_seq ?_
    refine L_ret ?_
    obtain rfl := Option.some.inj h
    exact E_endX (.inr rfl) (res_cell (d := .agg [iC .i64 0, iC .i64 0, .own k13 0 ((List.replicate (IntKind.i64.wrap (0 + 1)).toNat (0 : Int))).length, .p true (Sl.t r3 (⟨false, 0, []⟩ : Sl (Int))), .p true (Sl.t r2 (⟨false, 0, []⟩ : Sl (Int)))]) 2 rfl sz33 rfl rfl rfl rfl res_nil) (vw_cons (vd_agg (vc_cons vc_v (vc_cons vc_v (vc_cons (vc_own (r := r3) 0 rfl (fun x h m => rfl)) (vc_cons vc_s (vc_cons vc_s vc_nil)))))) vw_nil) (fun h hb => own_agg) rfl
  · replace h := ifT (by decide) h
    refine L_condT rfl ?_
    refine L_seq ?_
    refine L_ops ?_
    refine ol_put rfl rfl rfl (q_loadP (v := .agg [iC .i64 n1, iC .i64 n2, .p false (Sl.t r3 s3), .p false (Sl.t r3 s4), .p false (Sl.t r2 s5)]) 1 rfl sz33 rfl rfl rfl rfl) ?_
    refine ol_wr rfl rfl (q_store (es' := [[iC .i64 n1, iC .i64 n2, .p false (Sl.t r3 s3), .p false (Sl.t r3 s4), .p false (Sl.t r2 s5)]]) 0 rfl rfl rfl sz33 rfl rfl rfl rfl rfl) rfl ?_
    refine ol_end ?_
    refine E_seq ?_
    refine L_ret ?_
    refine E_seqR ?_
    obtain rfl := Option.some.inj h
    exact E_endX (.inr rfl) (res_cell (d := .agg [iC .i64 n1, iC .i64 n2, .p false (Sl.t r3 s3), .p false (Sl.t r3 s4), .p false (Sl.t r2 s5)]) 0 rfl sz33 rfl rfl rfl rfl res_nil) (vw_cons (vd_agg (vc_cons vc_v (vc_cons vc_v (vc_cons vc_s (vc_cons vc_s (vc_cons vc_s vc_nil)))))) vw_nil) (fun h hb => own_agg) rfl

noncomputable def ref03_Has (s1 : Sl (Int)) (n2 : Int) : Option (Bool) :=
  (if n2 ≥ 0 then ((divO .i64 n2 64).bind fun n4 => (if n4 < ((s1.l.length : Nat) : Int) then ((atS 1 s1 n4).bind fun n9 => ((modO n2 64).bind fun n10 => ((shr1 .u64 n9 (IntKind.u64.wrap n10)).bind fun n12 => (if (andI .u64 n12 1) = 1 then some true else some false)))) else some false)) else some false)
theorem ref03_Has_r (m : Nat) {s1 : Sl (Int)} {n2 : Int} {out : Bool} (h : ref03_Has s1 n2 = some out) : RunsP E1 (m + 1) 45 [.one (Sl.t r60 s1), .one (iT .i64 n2)] (.fresh, [.one (bT out)]) := by
  refine fn_F rfl (by rw [E1_fn]; exact show fiOf Tryd.prog 45 = _ by unfold fiOf; rw [Tryd.func45]; unfold Tryd.f45; rfl) rfl ?_
  dsimp only
  unfold ref03_Has at h
  refine L_seq ?_
  refine L_ops ?_
  refine ol_put rfl rfl rfl (q_assign (v := .one (bC false)) rfl) ?_
  refine ol_end ?_
  refine E_seq ?_
  refine L_seq ?_
  refine L_ops ?_
  refine ol_put rfl rfl rfl (q_move (v := .one (iC .i64 n2)) rfl) ?_
  by_cases c3 : n2 ≥ 0
  · replace h := ifT c3 h
    refine ol_put rfl rfl rfl (q_bin rfl rfl (p_geq_t _ _ _ _ _ c3) rfl) ?_
    refine ol_put rfl rfl rfl (q_move (v := .one (bC true)) rfl) ?_
    refine ol_put rfl rfl rfl (q_move (v := .one (iC .i64 n2)) rfl) ?_
    obtain ⟨n4, h5, h⟩ := bindS h
    refine ol_put rfl rfl rfl (q_bin rfl rfl (divO_p h5) rfl) ?_
    refine ol_put rfl rfl rfl (q_move (v := .one (.p false (Sl.t r60 s1))) rfl) ?_
    refine ol_put rfl rfl rfl (q_lenS rfl ty26 rfl rfl rfl rfl) ?_
    by_cases c6 : n4 < ((s1.l.length : Nat) : Int)
    · replace h := ifT c6 h
      refine ol_put rfl rfl rfl (q_bin rfl rfl (p_lss_t _ _ _ _ _ c6) rfl) ?_
      refine ol_put rfl rfl rfl (q_pickT (v := .one (bC true)) rfl rfl) ?_
      refine ol_put rfl rfl rfl (q_move (v := .one (bC true)) rfl) ?_
      refine ol_put rfl rfl rfl (q_move (v := .one (.p false (Sl.t r60 s1))) rfl) ?_
      refine ol_put rfl rfl rfl (q_move (v := .one (iC .i64 n2)) rfl) ?_
      refine ol_put rfl rfl rfl (q_bin rfl rfl (divO_p h5) rfl) ?_
      obtain ⟨n9, h8, h⟩ := bindS h
      obtain ⟨h8a, h8b, h8⟩ := atS_some h8
      refine ol_put rfl rfl rfl (q_ixS rfl rfl h8a h8 (el26.trans (congrArg some h8b.symm))) ?_
      refine ol_put rfl rfl rfl (q_loadI (v := .one (iC .u64 n9)) rfl sz60 (map_get h8) rfl rfl) ?_
      refine ol_put rfl rfl rfl (q_move (v := .one (iC .i64 n2)) rfl) ?_
      obtain ⟨n10, h11, h⟩ := bindS h
      refine ol_put rfl rfl rfl (q_bin rfl rfl (modO_p h11) rfl) ?_
      refine ol_put rfl rfl rfl (q_conv rfl (cv3_110_i64 _) rfl) ?_
      obtain ⟨n12, h13, h⟩ := bindS h
      refine ol_put rfl rfl rfl (q_bin rfl rfl (p_shr h13) rfl) ?_
      refine ol_put rfl rfl rfl (q_bin rfl rfl (p_and _ _ _ _ _ _ _) rfl) ?_
      by_cases c14 : (andI .u64 n12 1) = 1
      · replace h := ifT c14 h
        refine ol_put rfl rfl rfl (q_bin rfl rfl (p_eql_t _ _ _ _ _ c14) rfl) ?_
        refine ol_put rfl rfl rfl (q_pickT (v := .one (bC true)) rfl rfl) ?_
        refine ol_put rfl rfl rfl (q_assign (v := .one (bC true)) rfl) ?_
        refine ol_end ?_
        refine E_seq ?_
        refine L_ret ?_
        obtain rfl := Option.some.inj h
        exact E_endF (.inr rfl) (res_tmp rfl res_nil) (vw_cons (vd_one vc_v) vw_nil) (fun h hb => own_p) rfl rfl
      · replace h := ifF c14 h
        refine ol_put rfl rfl rfl (q_bin rfl rfl (p_eql_f _ _ _ _ _ c14) rfl) ?_
        refine ol_put rfl rfl rfl (q_pickT (v := .one (bC false)) rfl rfl) ?_
        refine ol_put rfl rfl rfl (q_assign (v := .one (bC false)) rfl) ?_
        refine ol_end ?_
        refine E_seq ?_
        refine L_ret ?_
        obtain rfl := Option.some.inj h
        exact E_endF (.inr rfl) (res_tmp rfl res_nil) (vw_cons (vd_one vc_v) vw_nil) (fun h hb => own_p) rfl rfl
    · replace h := ifF c6 h
      refine ol_put rfl rfl rfl (q_bin rfl rfl (p_lss_f _ _ _ _ _ c6) rfl) ?_
      refine ol_put rfl rfl rfl (q_pickT (v := .one (bC false)) rfl rfl) ?_
      refine ol_put rfl rfl rfl (q_move (v := .one (bC false)) rfl) ?_
      refine ol_skip rfl rfl rfl ?_
      refine ol_skip rfl rfl rfl ?_
      refine ol_skip rfl rfl rfl ?_
      refine ol_skip rfl rfl rfl ?_
      refine ol_skip rfl rfl rfl ?_
      refine ol_skip rfl rfl rfl ?_
      refine ol_skip rfl rfl rfl ?_
      refine ol_skip rfl rfl rfl ?_
      refine ol_skip rfl rfl rfl ?_
      refine ol_skip rfl rfl rfl ?_
      refine ol_skip rfl rfl rfl ?_
      refine ol_put rfl rfl rfl (q_pickF (v := .one (bC false)) rfl rfl) ?_
      refine ol_put rfl rfl rfl (q_assign (v := .one (bC false)) rfl) ?_
      refine ol_end ?_
      refine E_seq ?_
      refine L_ret ?_
      obtain rfl := Option.some.inj h
      exact E_endF (.inr rfl) (res_tmp rfl res_nil) (vw_cons (vd_one vc_v) vw_nil) (fun h hb => own_p) rfl rfl
  · replace h := ifF c3 h
    refine ol_put rfl rfl rfl (q_bin rfl rfl (p_geq_f _ _ _ _ _ c3) rfl) ?_
    refine ol_put rfl rfl rfl (q_move (v := .one (bC false)) rfl) ?_
    refine ol_skip rfl rfl rfl ?_
    refine ol_skip rfl rfl rfl ?_
    refine ol_skip rfl rfl rfl ?_
    refine ol_skip rfl rfl rfl ?_
    refine ol_skip rfl rfl rfl ?_
    refine ol_put rfl rfl rfl (q_pickF (v := .one (bC false)) rfl rfl) ?_
    refine ol_put rfl rfl rfl (q_move (v := .one (bC false)) rfl) ?_
    refine ol_skip rfl rfl rfl ?_
    refine ol_skip rfl rfl rfl ?_
    refine ol_skip rfl rfl rfl ?_
    refine ol_skip rfl rfl rfl ?_
    refine ol_skip rfl rfl rfl ?_
    refine ol_skip rfl rfl rfl ?_
    refine ol_skip rfl rfl rfl ?_
    refine ol_skip rfl rfl rfl ?_
    refine ol_skip rfl rfl rfl ?_
    refine ol_skip rfl rfl rfl ?_
    refine ol_skip rfl rfl rfl ?_
    refine ol_put rfl rfl rfl (q_pickF (v := .one (bC false)) rfl rfl) ?_
    refine ol_put rfl rfl rfl (q_assign (v := .one (bC false)) rfl) ?_
    refine ol_end ?_
    refine E_seq ?_
    refine L_ret ?_
    obtain rfl := Option.some.inj h
    exact E_endF (.inr rfl) (res_tmp rfl res_nil) (vw_cons (vd_one vc_v) vw_nil) (fun h hb => own_p) rfl rfl

noncomputable def ref03_List_b1 (s1 : Sl (Int)) (a : List (Int) × Int) : Option ((List (Int) × Int) ⊕ ((List (Int)) ⊕ (List (Int)))) :=
  match a with
  | (l27, n28) => (if n28 < (IntKind.i64.wrap (64 * ((s1.l.length : Nat) : Int))) then ((ref03_Has s1 n28).bind fun b32 => (if b32 = true then ((app l27 ([n28] : List (Int))).bind fun _ => some (.inl ((l27 ++ ([n28] : List (Int))), (IntKind.i64.wrap (n28 + 1))))) else some (.inl (l27, (IntKind.i64.wrap (n28 + 1)))))) else some (.inr (.inl l27)))
noncomputable def ref03_List (s1 : Sl (Int)) : Option (List (Int)) :=
  ((loopO (ref03_List_b1 s1) (([] : List (Int)), 0)).bind (Sum.elim (fun l36 => some l36) (fun u => some u)))
theorem ref03_List_r (m : Nat) {s1 : Sl (Int)} {out : List (Int)} (h : ref03_List s1 = some out) : RunsP E1 (m + 2) 76 [.one (Sl.t r60 s1)] (resM 1 r3 out) := by
  refine fn_M rfl (by rw [E1_fn]; exact show fiOf Tryd.prog 76 = _ by unfold fiOf; rw [Tryd.func76]; unfold Tryd.f76; rfl) rfl ?_
  dsimp only
  unfold ref03_List at h
  refine L_seq ?_
  refine L_ops ?_
  refine ol_put rfl rfl rfl (q_assign (v := .one (.p true (Sl.t r3 (⟨false, 0, []⟩ : Sl (Int))))) rfl) ?_
  refine ol_end ?_
  refine E_seq ?_
  refine L_seq ?_
  refine L_ops ?_
  refine ol_put rfl rfl rfl (q_assign (v := .one (.p true (Sl.t r3 (⟨false, 0, []⟩ : Sl (Int))))) rfl) ?_
  refine ol_end ?_
  refine E_seq ?_
  refine L_seq ?_
  refine L_seq ?_
  refine L_ops ?_
  refine ol_put rfl rfl rfl (q_assign (v := .one (iC .i64 0)) rfl) ?_
  refine ol_end ?_
  refine E_seq ?_
  refine L_block ?_
  refine L_addM (α := Int) r3 1 ?_
  let S1 : (List (Int) × Int) → Nat → (Nat → D) → Nat → D := fun a kt g => ups g [(0, .one (.p false (Sl.t r60 s1))), (3, .one (moC a.1 kt)), (4, .one (iC .i64 a.2))]
  let SL1 : (List (Int) × Int) → Nat → BL := fun a kt => ([moL r3 1 a.1 kt] : BL)
  let G1 : (List (Int)) → Ex → St → Prop := fun u => endQ E1 [.tmp 2] (resM 1 r3 u)
  let Sx1 : (List (Int)) → Nat → (Nat → D) → Nat → D := fun a kt g => ups g [(3, .one (moC a kt))]
  let SLx1 : (List (Int)) → Nat → BL := fun a kt => ([moL r3 1 a kt] : BL)
  let J1 : ((List (Int)) ⊕ (List (Int))) → Ex → St → Prop := JX 20 0 Sx1 SLx1 G1
  refine L_loopS (ref03_List_b1 s1) S1 SL1 J1 JX_n (([] : List (Int)), 0) h 1025 (ups_self ⟨rfl, rfl, rfl, trivial⟩) [0] (by decide) rfl ?_ ?_
  · rintro ⟨l27, n28⟩ k29 g out h
    change ref03_List_b1 s1 (l27, n28) = some out at h
    unfold ref03_List_b1 at h
    refine L_seq ?_
    refine L_seq ?_
    refine L_ops ?_
    refine ol_put rfl rfl rfl (q_move (v := .one (iC .i64 n28)) rfl) ?_
    refine ol_put rfl rfl rfl (q_move (v := .one (.p false (Sl.t r60 s1))) rfl) ?_
    refine ol_put rfl rfl rfl (q_lenS rfl ty26 rfl rfl rfl rfl) ?_
    refine ol_put rfl rfl rfl (q_bin rfl rfl (p_mul _ _ _ _ _ _ _) rfl) ?_
    by_cases c30 : n28 < (IntKind.i64.wrap (64 * ((s1.l.length : Nat) : Int)))
    · replace h := ifT c30 h
      refine ol_put rfl rfl rfl (q_bin rfl rfl (p_lss_t _ _ _ _ _ c30) rfl) ?_
      refine ol_end ?_
      refine E_seq ?_
      refine L_condT rfl ?_
      refine L_skip ?_
      refine E_seq ?_
      refine L_seq ?_
      refine L_block ?_
      refine L_seq ?_
      refine L_ops ?_
      refine ol_put rfl rfl rfl (q_move (v := .one (.p false (Sl.t r60 s1))) rfl) ?_
      refine ol_put rfl rfl rfl (q_move (v := .one (iC .i64 n28)) rfl) ?_
      obtain ⟨b32, h31, h⟩ := bindS h
      refine ol_put rfl rfl rfl (q_callF (v := .one (bC b32)) (args := [.one (.p false (Sl.t r60 s1)), .one (iC .i64 n28)]) (ref03_Has_r (m + 0) h31) rfl rfl (vw_cons (vd_one vc_s) (vw_cons (vd_one vc_v) vw_nil)) rfl rfl) ?_
      refine ol_end ?_
      refine E_seq ?_
      rcases b32 with _ | _
      · replace h := ifF (by decide) h
        refine L_condF rfl ?_
        refine L_skip ?_
        refine E_blkN ?_
        refine E_seq ?_
        refine L_ops ?_
        refine ol_put rfl rfl rfl (q_move (v := .one (iC .i64 n28)) rfl) ?_
        refine ol_put rfl rfl rfl (q_bin rfl rfl (p_add _ _ _ _ _ _ _) rfl) ?_
        refine ol_put rfl rfl rfl (q_assign (v := .one (iC .i64 (IntKind.i64.wrap (n28 + 1)))) rfl) ?_
        refine ol_end ?_
        obtain rfl := Option.some.inj h
        exact E_next k29 (ups_self ⟨rfl, rfl, rfl, trivial⟩) [0] (by decide) rfl
      · replace h := ifT (by decide) h
        refine L_condT rfl ?_
        refine L_ops ?_
        refine ol_put rfl rfl rfl (q_move (v := .one (moC l27 k29)) rfl) ?_
        refine ol_put rfl rfl rfl (q_move (v := .one (iC .i64 n28)) rfl) ?_
        refine ol_new rfl rfl rfl (q_bslice (cs := [iC .i64 n28]) (es := (([n28] : List (Int))).map (rowC r3)) ty30 rfl ty3 rfl rfl rfl rfl rfl) (fun k33 => ?_)
        obtain ⟨_, h34, h⟩ := bindS h
        obtain ⟨h34b, rfl⟩ := app_some h34
        refine ol_appM (r := r3) (l := l27) (ys := ([n28] : List (Int))) 1 rfl rfl rfl rfl rfl rfl (el_ownM (l := ([n28] : List (Int))) 0 rfl) rfl h34 (fun y => rfl) el30 ty30 rfl rfl rfl rfl rfl (fun k35 => ?_)
        refine ol_put rfl rfl rfl (q_assign (v := .one (moC (l27 ++ ([n28] : List (Int))) k35)) rfl) ?_
        refine ol_end ?_
        refine E_blkN ?_
        refine E_seq ?_
        refine L_ops ?_
        refine ol_put rfl rfl rfl (q_move (v := .one (iC .i64 n28)) rfl) ?_
        refine ol_put rfl rfl rfl (q_bin rfl rfl (p_add _ _ _ _ _ _ _) rfl) ?_
        refine ol_put rfl rfl rfl (q_assign (v := .one (iC .i64 (IntKind.i64.wrap (n28 + 1)))) rfl) ?_
        refine ol_end ?_
        obtain rfl := Option.some.inj h
        exact E_next k35 (ups_self ⟨rfl, rfl, rfl, trivial⟩) [0] (by decide) rfl
    · replace h := ifF c30 h
      refine ol_put rfl rfl rfl (q_bin rfl rfl (p_lss_f _ _ _ _ _ c30) rfl) ?_
      refine ol_end ?_
      refine E_seq ?_
      refine L_condF rfl ?_
      refine L_exit ?_
      refine E_seqX ?_
      obtain rfl := Option.some.inj h
      refine E_out ?_
      exact (E_exit k29 (ups_self ⟨rfl, trivial⟩) [0] (by decide) rfl)
  · rintro (l36 | u) h
    · refine J_x (fun k37 g => ?_)
      replace h := elimL h
      refine E_blkH ?_
      refine E_seq ?_
      refine L_seq ?_
      refine L_ops ?_
      refine ol_put rfl rfl rfl (q_move (v := .one (moC l36 k37)) rfl) ?_
      refine ol_put rfl rfl rfl (q_assign (v := .one (moC l36 k37)) rfl) ?_
      refine ol_end ?_
      refine E_seq ?_
      refine L_ret ?_
      obtain rfl := Option.some.inj h
      exact E_endM (r := r3) 0 (.inr rfl) (res_tmp rfl res_nil) rfl (fun x h m => rfl) (fun x => rfl)
    · obtain rfl := Option.some.inj (elimR h)
      exact J_up (fun s hs => hs)

noncomputable def ref03_Right (s1 : Sl (Int)) (n2 : Int) : Option (Bool) :=
  (if n2 < 0 then some false else (if n2 > 4096 then some false else ((ref03_words n2).bind fun n6 => (if ((s1.l.length : Nat) : Int) ≠ n6 then some false else ((ref03_List s1).bind fun s9 => (if ((s9.length : Nat) : Int) = 0 then some true else ((atS 1 (mo 1 s9) (IntKind.i64.wrap (((s9.length : Nat) : Int) - 1))).bind fun n14 => (if n14 < n2 then some true else some false))))))))
theorem ref03_Right_r (m : Nat) {s1 : Sl (Int)} {n2 : Int} {out : Bool} (h : ref03_Right s1 n2 = some out) : RunsP E1 (m + 3) 93 [.one (Sl.t r60 s1), .one (iT .i64 n2)] (.fresh, [.one (bT out)]) := by
  refine fn_F rfl (by rw [E1_fn]; exact show fiOf Tryd.prog 93 = _ by unfold fiOf; rw [Tryd.func93]; unfold Tryd.f93; rfl) rfl ?_
  dsimp only
  unfold ref03_Right at h
  refine L_seq ?_
  refine L_ops ?_
  refine ol_put rfl rfl rfl (q_assign (v := .one (bC false)) rfl) ?_
  refine ol_end ?_
  refine E_seq ?_
  refine L_seq ?_
  refine L_seq ?_
  refine L_ops ?_
  refine ol_put rfl rfl rfl (q_move (v := .one (iC .i64 n2)) rfl) ?_
  by_cases c3 : n2 < 0
  · replace h := ifT c3 h
    refine ol_put rfl rfl rfl (q_bin rfl rfl (p_lss_t _ _ _ _ _ c3) rfl) ?_
    refine ol_put rfl rfl rfl (q_move (v := .one (bC true)) rfl) ?_
    refine ol_skip rfl rfl rfl ?_
    refine ol_skip rfl rfl rfl ?_
    refine ol_put rfl rfl rfl (q_pickT (v := .one (bC true)) rfl rfl) ?_
    refine ol_put rfl rfl rfl (q_move (v := .one (bC true)) rfl) ?_
    refine ol_skip rfl rfl rfl ?_
    refine ol_skip rfl rfl rfl ?_
    refine ol_skip rfl rfl rfl ?_
    refine ol_skip rfl rfl rfl ?_
    refine ol_skip rfl rfl rfl ?_
    refine ol_put rfl rfl rfl (q_pickT (v := .one (bC true)) rfl rfl) ?_
    refine ol_end ?_
    refine E_seq ?_
    refine L_condT rfl ?_
    refine L_seq ?_
    refine L_ops ?_
    refine ol_put rfl rfl rfl (q_assign (v := .one (bC false)) rfl) ?_
    refine ol_end ?_
    refine E_seq ?_
    refine L_ret ?_
    refine E_seqR ?_
    obtain rfl := Option.some.inj h
    exact E_endF (.inr rfl) (res_tmp rfl res_nil) (vw_cons (vd_one vc_v) vw_nil) (fun h hb => own_p) rfl rfl
  · replace h := ifF c3 h
    refine ol_put rfl rfl rfl (q_bin rfl rfl (p_lss_f _ _ _ _ _ c3) rfl) ?_
    refine ol_put rfl rfl rfl (q_move (v := .one (bC false)) rfl) ?_
    refine ol_put rfl rfl rfl (q_move (v := .one (iC .i64 n2)) rfl) ?_
    by_cases c4 : n2 > 4096
    · replace h := ifT c4 h
      refine ol_put rfl rfl rfl (q_bin rfl rfl (p_gtr_t _ _ _ _ _ c4) rfl) ?_
      refine ol_put rfl rfl rfl (q_pickF (v := .one (bC true)) rfl rfl) ?_
      refine ol_put rfl rfl rfl (q_move (v := .one (bC true)) rfl) ?_
      refine ol_skip rfl rfl rfl ?_
      refine ol_skip rfl rfl rfl ?_
      refine ol_skip rfl rfl rfl ?_
      refine ol_skip rfl rfl rfl ?_
      refine ol_skip rfl rfl rfl ?_
      refine ol_put rfl rfl rfl (q_pickT (v := .one (bC true)) rfl rfl) ?_
      refine ol_end ?_
      refine E_seq ?_
      refine L_condT rfl ?_
      refine L_seq ?_
      refine L_ops ?_
      refine ol_put rfl rfl rfl (q_assign (v := .one (bC false)) rfl) ?_
      refine ol_end ?_
      refine E_seq ?_
      refine L_ret ?_
      refine E_seqR ?_
      obtain rfl := Option.some.inj h
      exact E_endF (.inr rfl) (res_tmp rfl res_nil) (vw_cons (vd_one vc_v) vw_nil) (fun h hb => own_p) rfl rfl
    · replace h := ifF c4 h
      refine ol_put rfl rfl rfl (q_bin rfl rfl (p_gtr_f _ _ _ _ _ c4) rfl) ?_
      refine ol_put rfl rfl rfl (q_pickF (v := .one (bC false)) rfl rfl) ?_
      refine ol_put rfl rfl rfl (q_move (v := .one (bC false)) rfl) ?_
      refine ol_put rfl rfl rfl (q_move (v := .one (.p false (Sl.t r60 s1))) rfl) ?_
      refine ol_put rfl rfl rfl (q_lenS rfl ty26 rfl rfl rfl rfl) ?_
      refine ol_put rfl rfl rfl (q_move (v := .one (iC .i64 n2)) rfl) ?_
      obtain ⟨n6, h5, h⟩ := bindS h
      refine ol_put rfl rfl rfl (q_callF (v := .one (iC .i64 n6)) (args := [.one (iC .i64 n2)]) (ref03_words_r (m + 1) h5) rfl rfl (vw_cons (vd_one vc_v) vw_nil) rfl rfl) ?_
      by_cases c7 : ((s1.l.length : Nat) : Int) ≠ n6
      · replace h := ifT c7 h
        refine ol_put rfl rfl rfl (q_bin rfl rfl (p_neq_t _ _ _ _ _ c7) rfl) ?_
        refine ol_put rfl rfl rfl (q_pickF (v := .one (bC true)) rfl rfl) ?_
        refine ol_end ?_
        refine E_seq ?_
        refine L_condT rfl ?_
        refine L_seq ?_
        refine L_ops ?_
        refine ol_put rfl rfl rfl (q_assign (v := .one (bC false)) rfl) ?_
        refine ol_end ?_
        refine E_seq ?_
        refine L_ret ?_
        refine E_seqR ?_
        obtain rfl := Option.some.inj h
        exact E_endF (.inr rfl) (res_tmp rfl res_nil) (vw_cons (vd_one vc_v) vw_nil) (fun h hb => own_p) rfl rfl
      · replace h := ifF c7 h
        refine ol_put rfl rfl rfl (q_bin rfl rfl (p_neq_f _ _ _ _ _ c7) rfl) ?_
        refine ol_put rfl rfl rfl (q_pickF (v := .one (bC false)) rfl rfl) ?_
        refine ol_end ?_
        refine E_seq ?_
        refine L_condF rfl ?_
        refine L_skip ?_
        refine E_seq ?_
        refine L_seq ?_
        refine L_ops ?_
        refine ol_put rfl rfl rfl (q_move (v := .one (.p false (Sl.t r60 s1))) rfl) ?_
        obtain ⟨s9, h8, h⟩ := bindS h
        refine ol_callM (r := r3) (l := s9) (args := [.one (.p false (Sl.t r60 s1))]) (ref03_List_r (m + 0) h8) rfl rfl rfl rfl rfl rfl (vw_cons (vd_one vc_s) vw_nil) rfl (fun k10 => ?_)
        refine ol_put rfl rfl rfl (q_assign (v := .one (moC s9 k10)) rfl) ?_
        refine ol_end ?_
        refine E_seq ?_
        refine L_seq ?_
        refine L_ops ?_
        refine ol_put rfl rfl rfl (q_move (v := .one (moC s9 k10)) rfl) ?_
        refine ol_put rfl rfl rfl (q_lenM (l := s9) rfl ty30 rfl rfl rfl rfl) ?_
        by_cases c11 : ((s9.length : Nat) : Int) = 0
        · replace h := ifT c11 h
          refine ol_put rfl rfl rfl (q_bin rfl rfl (p_eql_t _ _ _ _ _ c11) rfl) ?_
          refine ol_put rfl rfl rfl (q_move (v := .one (bC true)) rfl) ?_
          refine ol_skip rfl rfl rfl ?_
          refine ol_skip rfl rfl rfl ?_
          refine ol_skip rfl rfl rfl ?_
          refine ol_skip rfl rfl rfl ?_
          refine ol_skip rfl rfl rfl ?_
          refine ol_skip rfl rfl rfl ?_
          refine ol_skip rfl rfl rfl ?_
          refine ol_skip rfl rfl rfl ?_
          refine ol_put rfl rfl rfl (q_pickT (v := .one (bC true)) rfl rfl) ?_
          refine ol_put rfl rfl rfl (q_assign (v := .one (bC true)) rfl) ?_
          refine ol_end ?_
          refine E_seq ?_
          refine L_ret ?_
          obtain rfl := Option.some.inj h
          exact E_endF (.inr rfl) (res_tmp rfl res_nil) (vw_cons (vd_one vc_v) vw_nil) (fun h hb => own_p) rfl rfl
        · replace h := ifF c11 h
          refine ol_put rfl rfl rfl (q_bin rfl rfl (p_eql_f _ _ _ _ _ c11) rfl) ?_
          refine ol_put rfl rfl rfl (q_move (v := .one (bC false)) rfl) ?_
          refine ol_put rfl rfl rfl (q_move (v := .one (moC s9 k10)) rfl) ?_
          refine ol_put rfl rfl rfl (q_move (v := .one (moC s9 k10)) rfl) ?_
          refine ol_put rfl rfl rfl (q_lenM (l := s9) rfl ty30 rfl rfl rfl rfl) ?_
          refine ol_put rfl rfl rfl (q_bin rfl rfl (p_sub _ _ _ _ _ _ _) rfl) ?_
          obtain ⟨n14, h13, h⟩ := bindS h
          obtain ⟨h13a, h13⟩ := atM_some h13
          refine ol_put rfl rfl rfl (q_ixM (r := r3) 0 rfl rfl h13a h13 rfl el30) ?_
          refine ol_put rfl rfl rfl (q_loadP (v := .one (iC .i64 n14)) 0 rfl sz3 (segM (r := r3) rfl h13) (map_get h13) rfl rfl) ?_
          refine ol_put rfl rfl rfl (q_move (v := .one (iC .i64 n2)) rfl) ?_
          by_cases c15 : n14 < n2
          · replace h := ifT c15 h
            refine ol_put rfl rfl rfl (q_bin rfl rfl (p_lss_t _ _ _ _ _ c15) rfl) ?_
            refine ol_put rfl rfl rfl (q_pickF (v := .one (bC true)) rfl rfl) ?_
            refine ol_put rfl rfl rfl (q_assign (v := .one (bC true)) rfl) ?_
            refine ol_end ?_
            refine E_seq ?_
            refine L_ret ?_
            obtain rfl := Option.some.inj h
            exact E_endF (.inr rfl) (res_tmp rfl res_nil) (vw_cons (vd_one vc_v) vw_nil) (fun h hb => own_p) rfl rfl
          · replace h := ifF c15 h
            refine ol_put rfl rfl rfl (q_bin rfl rfl (p_lss_f _ _ _ _ _ c15) rfl) ?_
            refine ol_put rfl rfl rfl (q_pickF (v := .one (bC false)) rfl rfl) ?_
            refine ol_put rfl rfl rfl (q_assign (v := .one (bC false)) rfl) ?_
            refine ol_end ?_
            refine E_seq ?_
            refine L_ret ?_
            obtain rfl := Option.some.inj h
            exact E_endF (.inr rfl) (res_tmp rfl res_nil) (vw_cons (vd_one vc_v) vw_nil) (fun h hb => own_p) rfl rfl

noncomputable def ref10_Right_b1 (n1 : Int) (s2 : Sl (Int)) (s3 : Sl (Int)) (n25 : Int) : Option (Int ⊕ (Unit ⊕ Bool)) :=
  (if n25 < n1 then ((ref03_Has s2 n25).bind fun b28 => (if b28 = true then some (.inl (IntKind.i64.wrap (n25 + 1))) else ((atS 1 s3 n25).bind fun n31 => (if n31 ≠ 0 then some (.inr (.inr false)) else some (.inl (IntKind.i64.wrap (n25 + 1))))))) else some (.inr (.inl ())))
noncomputable def ref10_Right (a0 : Int × Sl (Int) × Sl (Int)) : Option (Bool) :=
  match a0 with
  | (n1, s2, s3) => (if n1 < 0 then some false else (if n1 > 4096 then some false else ((ref03_Right s2 n1).bind fun b8 => (if b8 = true then (if ((s3.l.length : Nat) : Int) ≠ n1 then some false else ((loopO (ref10_Right_b1 n1 s2 s3) 0).bind (Sum.elim (fun _ => some true) (fun u => some u)))) else some false))))
theorem ref10_Right_r (m : Nat) {a0 : Int × Sl (Int) × Sl (Int)} {out : Bool} (h : ref10_Right a0 = some out) : RunsP E1 (m + 4) 75 [.agg (r35 a0)] (.fresh, [.one (bT out)]) := by
  obtain ⟨n1, s2, s3⟩ := a0
  refine fn_F rfl (by rw [E1_fn]; exact show fiOf Tryd.prog 75 = _ by unfold fiOf; rw [Tryd.func75]; unfold Tryd.f75; rfl) rfl ?_
  dsimp only
  unfold ref10_Right at h
  refine L_seq ?_
  refine L_ops ?_
  refine ol_new rfl rfl rfl (q_box ty36 rfl (cs := [iC .i64 n1, .p false (Sl.t r60 s2), .p false (Sl.t r2 s3)]) rfl rfl) (fun k4 => ?_)
  refine ol_put rfl rfl rfl (q_assign (v := .one (bC false)) rfl) ?_
  refine ol_end ?_
  refine E_seq ?_
  refine L_seq ?_
  refine L_seq ?_
  refine L_ops ?_
  refine ol_put rfl rfl rfl (q_fieldP rfl fa36_0 rfl) ?_
  refine ol_put rfl rfl rfl (q_loadP (v := .one (iC .i64 n1)) 0 rfl sz3 rfl rfl rfl rfl) ?_
  by_cases c5 : n1 < 0
  · replace h := ifT c5 h
    refine ol_put rfl rfl rfl (q_bin rfl rfl (p_lss_t _ _ _ _ _ c5) rfl) ?_
    refine ol_put rfl rfl rfl (q_move (v := .one (bC true)) rfl) ?_
    refine ol_skip rfl rfl rfl ?_
    refine ol_skip rfl rfl rfl ?_
    refine ol_skip rfl rfl rfl ?_
    refine ol_put rfl rfl rfl (q_pickT (v := .one (bC true)) rfl rfl) ?_
    refine ol_put rfl rfl rfl (q_move (v := .one (bC true)) rfl) ?_
    refine ol_skip rfl rfl rfl ?_
    refine ol_skip rfl rfl rfl ?_
    refine ol_skip rfl rfl rfl ?_
    refine ol_skip rfl rfl rfl ?_
    refine ol_skip rfl rfl rfl ?_
    refine ol_skip rfl rfl rfl ?_
    refine ol_put rfl rfl rfl (q_pickT (v := .one (bC true)) rfl rfl) ?_
    refine ol_put rfl rfl rfl (q_move (v := .one (bC true)) rfl) ?_
    refine ol_skip rfl rfl rfl ?_
    refine ol_skip rfl rfl rfl ?_
    refine ol_skip rfl rfl rfl ?_
    refine ol_skip rfl rfl rfl ?_
    refine ol_skip rfl rfl rfl ?_
    refine ol_skip rfl rfl rfl ?_
    refine ol_put rfl rfl rfl (q_pickT (v := .one (bC true)) rfl rfl) ?_
    refine ol_end ?_
    refine E_seq ?_
    refine L_condT rfl ?_
    refine L_seq ?_
    refine L_ops ?_
    refine ol_put rfl rfl rfl (q_assign (v := .one (bC false)) rfl) ?_
    refine ol_end ?_
    refine E_seq ?_
    refine L_ret ?_
    refine E_seqR ?_
    obtain rfl := Option.some.inj h
    exact E_endF (.inr rfl) (res_tmp rfl res_nil) (vw_cons (vd_one vc_v) vw_nil) (fun h hb => own_p) rfl rfl
  · replace h := ifF c5 h
    refine ol_put rfl rfl rfl (q_bin rfl rfl (p_lss_f _ _ _ _ _ c5) rfl) ?_
    refine ol_put rfl rfl rfl (q_move (v := .one (bC false)) rfl) ?_
    refine ol_put rfl rfl rfl (q_fieldP rfl fa36_0 rfl) ?_
    refine ol_put rfl rfl rfl (q_loadP (v := .one (iC .i64 n1)) 0 rfl sz3 rfl rfl rfl rfl) ?_
    by_cases c6 : n1 > 4096
    · replace h := ifT c6 h
      refine ol_put rfl rfl rfl (q_bin rfl rfl (p_gtr_t _ _ _ _ _ c6) rfl) ?_
      refine ol_put rfl rfl rfl (q_pickF (v := .one (bC true)) rfl rfl) ?_
      refine ol_put rfl rfl rfl (q_move (v := .one (bC true)) rfl) ?_
      refine ol_skip rfl rfl rfl ?_
      refine ol_skip rfl rfl rfl ?_
      refine ol_skip rfl rfl rfl ?_
      refine ol_skip rfl rfl rfl ?_
      refine ol_skip rfl rfl rfl ?_
      refine ol_skip rfl rfl rfl ?_
      refine ol_put rfl rfl rfl (q_pickT (v := .one (bC true)) rfl rfl) ?_
      refine ol_put rfl rfl rfl (q_move (v := .one (bC true)) rfl) ?_
      refine ol_skip rfl rfl rfl ?_
      refine ol_skip rfl rfl rfl ?_
      refine ol_skip rfl rfl rfl ?_
      refine ol_skip rfl rfl rfl ?_
      refine ol_skip rfl rfl rfl ?_
      refine ol_skip rfl rfl rfl ?_
      refine ol_put rfl rfl rfl (q_pickT (v := .one (bC true)) rfl rfl) ?_
      refine ol_end ?_
      refine E_seq ?_
      refine L_condT rfl ?_
      refine L_seq ?_
      refine L_ops ?_
      refine ol_put rfl rfl rfl (q_assign (v := .one (bC false)) rfl) ?_
      refine ol_end ?_
      refine E_seq ?_
      refine L_ret ?_
      refine E_seqR ?_
      obtain rfl := Option.some.inj h
      exact E_endF (.inr rfl) (res_tmp rfl res_nil) (vw_cons (vd_one vc_v) vw_nil) (fun h hb => own_p) rfl rfl
    · replace h := ifF c6 h
      refine ol_put rfl rfl rfl (q_bin rfl rfl (p_gtr_f _ _ _ _ _ c6) rfl) ?_
      refine ol_put rfl rfl rfl (q_pickF (v := .one (bC false)) rfl rfl) ?_
      refine ol_put rfl rfl rfl (q_move (v := .one (bC false)) rfl) ?_
      refine ol_put rfl rfl rfl (q_fieldP rfl fa36_1 rfl) ?_
      refine ol_put rfl rfl rfl (q_loadP (v := .one (.p false (Sl.t r60 s2))) 0 rfl sz26 rfl rfl rfl rfl) ?_
      refine ol_put rfl rfl rfl (q_fieldP rfl fa36_0 rfl) ?_
      refine ol_put rfl rfl rfl (q_loadP (v := .one (iC .i64 n1)) 0 rfl sz3 rfl rfl rfl rfl) ?_
      obtain ⟨b8, h7, h⟩ := bindS h
      refine ol_put rfl rfl rfl (q_callF (v := .one (bC b8)) (args := [.one (.p false (Sl.t r60 s2)), .one (iC .i64 n1)]) (ref03_Right_r (m + 0) h7) rfl rfl (vw_cons (vd_one vc_s) (vw_cons (vd_one vc_v) vw_nil)) rfl rfl) ?_
      rcases b8 with _ | _
      · replace h := ifF (by decide) h
        refine ol_put rfl rfl rfl (q_not rfl) ?_
        refine ol_put rfl rfl rfl (q_pickF (v := .one (bC true)) rfl rfl) ?_
        refine ol_put rfl rfl rfl (q_move (v := .one (bC true)) rfl) ?_
        refine ol_skip rfl rfl rfl ?_
        refine ol_skip rfl rfl rfl ?_
        refine ol_skip rfl rfl rfl ?_
        refine ol_skip rfl rfl rfl ?_
        refine ol_skip rfl rfl rfl ?_
        refine ol_skip rfl rfl rfl ?_
        refine ol_put rfl rfl rfl (q_pickT (v := .one (bC true)) rfl rfl) ?_
        refine ol_end ?_
        refine E_seq ?_
        refine L_condT rfl ?_
        refine L_seq ?_
        refine L_ops ?_
        refine ol_put rfl rfl rfl (q_assign (v := .one (bC false)) rfl) ?_
        refine ol_end ?_
        refine E_seq ?_
        refine L_ret ?_
        refine E_seqR ?_
        obtain rfl := Option.some.inj h
        exact E_endF (.inr rfl) (res_tmp rfl res_nil) (vw_cons (vd_one vc_v) vw_nil) (fun h hb => own_p) rfl rfl
      · replace h := ifT (by decide) h
        refine ol_put rfl rfl rfl (q_not rfl) ?_
        refine ol_put rfl rfl rfl (q_pickF (v := .one (bC false)) rfl rfl) ?_
        refine ol_put rfl rfl rfl (q_move (v := .one (bC false)) rfl) ?_
        refine ol_put rfl rfl rfl (q_fieldP rfl fa36_2 rfl) ?_
        refine ol_put rfl rfl rfl (q_loadP (v := .one (.p false (Sl.t r2 s3))) 0 rfl sz31 rfl rfl rfl rfl) ?_
        refine ol_put rfl rfl rfl (q_lenS rfl ty31 rfl rfl rfl rfl) ?_
        refine ol_put rfl rfl rfl (q_fieldP rfl fa36_0 rfl) ?_
        refine ol_put rfl rfl rfl (q_loadP (v := .one (iC .i64 n1)) 0 rfl sz3 rfl rfl rfl rfl) ?_
        by_cases c9 : ((s3.l.length : Nat) : Int) ≠ n1
        · replace h := ifT c9 h
          refine ol_put rfl rfl rfl (q_bin rfl rfl (p_neq_t _ _ _ _ _ c9) rfl) ?_
          refine ol_put rfl rfl rfl (q_pickF (v := .one (bC true)) rfl rfl) ?_
          refine ol_end ?_
          refine E_seq ?_
          refine L_condT rfl ?_
          refine L_seq ?_
          refine L_ops ?_
          refine ol_put rfl rfl rfl (q_assign (v := .one (bC false)) rfl) ?_
          refine ol_end ?_
          refine E_seq ?_
          refine L_ret ?_
          refine E_seqR ?_
          obtain rfl := Option.some.inj h
          exact E_endF (.inr rfl) (res_tmp rfl res_nil) (vw_cons (vd_one vc_v) vw_nil) (fun h hb => own_p) rfl rfl
        · replace h := ifF c9 h
          refine ol_put rfl rfl rfl (q_bin rfl rfl (p_neq_f _ _ _ _ _ c9) rfl) ?_
          refine ol_put rfl rfl rfl (q_pickF (v := .one (bC false)) rfl rfl) ?_
          refine ol_end ?_
          refine E_seq ?_
          refine L_condF rfl ?_
          refine L_skip ?_
          refine E_seq ?_
          refine L_seq ?_
          refine L_seq ?_
          refine L_ops ?_
          refine ol_put rfl rfl rfl (q_assign (v := .one (iC .i64 0)) rfl) ?_
          refine ol_end ?_
          refine E_seq ?_
          refine L_block ?_
          let S1 : Int → Unit → (Nat → D) → Nat → D := fun a kt g => ups g [(1, .one (.ptr k4 0 0)), (3, .one (iC .i64 a))]
          let SL1 : Int → Unit → BL := fun a kt => ([[(k4, 3, [[iC .i64 n1, .p false (Sl.t r60 s2), .p false (Sl.t r2 s3)]])]] : BL)
          let G1 : Bool → Ex → St → Prop := fun u => endQ E1 [.tmp 2] (.fresh, [.one (bT u)])
          let Sx1 : Unit → Unit → (Nat → D) → Nat → D := fun a kt g => ups g []
          let SLx1 : Unit → Unit → BL := fun a kt => ([] : BL)
          let J1 : (Unit ⊕ Bool) → Ex → St → Prop := JX 47 0 Sx1 SLx1 G1
          refine L_loopS (ref10_Right_b1 n1 s2 s3) S1 SL1 J1 JX_n 0 h () (ups_self ⟨rfl, rfl, trivial⟩) [0] (by decide) rfl ?_ ?_
          · rintro n25 _ g out h
            change ref10_Right_b1 n1 s2 s3 n25 = some out at h
            unfold ref10_Right_b1 at h
            refine L_seq ?_
            refine L_seq ?_
            refine L_ops ?_
            refine ol_put rfl rfl rfl (q_move (v := .one (iC .i64 n25)) rfl) ?_
            refine ol_put rfl rfl rfl (q_fieldP rfl fa36_0 rfl) ?_
            refine ol_put rfl rfl rfl (q_loadP (v := .one (iC .i64 n1)) 0 rfl sz3 rfl rfl rfl rfl) ?_
            by_cases c26 : n25 < n1
            · replace h := ifT c26 h
              refine ol_put rfl rfl rfl (q_bin rfl rfl (p_lss_t _ _ _ _ _ c26) rfl) ?_
              refine ol_end ?_
              refine E_seq ?_
              refine L_condT rfl ?_
              refine L_skip ?_
              refine E_seq ?_
              refine L_seq ?_
              refine L_block ?_
              refine L_seq ?_
              refine L_ops ?_
              refine ol_put rfl rfl rfl (q_fieldP rfl fa36_1 rfl) ?_
              refine ol_put rfl rfl rfl (q_loadP (v := .one (.p false (Sl.t r60 s2))) 0 rfl sz26 rfl rfl rfl rfl) ?_
              refine ol_put rfl rfl rfl (q_move (v := .one (iC .i64 n25)) rfl) ?_
              obtain ⟨b28, h27, h⟩ := bindS h
              refine ol_put rfl rfl rfl (q_callF (v := .one (bC b28)) (args := [.one (.p false (Sl.t r60 s2)), .one (iC .i64 n25)]) (ref03_Has_r (m + 2) h27) rfl rfl (vw_cons (vd_one vc_s) (vw_cons (vd_one vc_v) vw_nil)) rfl rfl) ?_
              rcases b28 with _ | _
              · replace h := ifF (by decide) h
                refine ol_put rfl rfl rfl (q_not rfl) ?_
                refine ol_put rfl rfl rfl (q_move (v := .one (bC true)) rfl) ?_
                refine ol_put rfl rfl rfl (q_fieldP rfl fa36_2 rfl) ?_
                refine ol_put rfl rfl rfl (q_loadP (v := .one (.p false (Sl.t r2 s3))) 0 rfl sz31 rfl rfl rfl rfl) ?_
                refine ol_put rfl rfl rfl (q_move (v := .one (iC .i64 n25)) rfl) ?_
                obtain ⟨n31, h30, h⟩ := bindS h
                obtain ⟨h30a, h30b, h30⟩ := atS_some h30
                refine ol_put rfl rfl rfl (q_ixS rfl rfl h30a h30 (el31.trans (congrArg some h30b.symm))) ?_
                refine ol_put rfl rfl rfl (q_loadI (v := .one (iC .i64 n31)) rfl sz2 (map_get h30) rfl rfl) ?_
                by_cases c32 : n31 ≠ 0
                · replace h := ifT c32 h
                  refine ol_put rfl rfl rfl (q_bin rfl rfl (p_neq_t _ _ _ _ _ c32) rfl) ?_
                  refine ol_put rfl rfl rfl (q_pickT (v := .one (bC true)) rfl rfl) ?_
                  refine ol_end ?_
                  refine E_seq ?_
                  refine L_condT rfl ?_
                  refine L_seq ?_
                  refine L_ops ?_
                  refine ol_put rfl rfl rfl (q_assign (v := .one (bC false)) rfl) ?_
                  refine ol_end ?_
                  refine E_seq ?_
                  refine L_ret ?_
                  refine E_blkR ?_
                  refine E_seqR ?_
                  obtain rfl := Option.some.inj h
                  exact E_out (E_up (E_endF (.inr rfl) (res_tmp rfl res_nil) (vw_cons (vd_one vc_v) vw_nil) (fun h hb => own_p) rfl rfl))
                · replace h := ifF c32 h
                  refine ol_put rfl rfl rfl (q_bin rfl rfl (p_neq_f _ _ _ _ _ c32) rfl) ?_
                  refine ol_put rfl rfl rfl (q_pickT (v := .one (bC false)) rfl rfl) ?_
                  refine ol_end ?_
                  refine E_seq ?_
                  refine L_condF rfl ?_
                  refine L_skip ?_
                  refine E_blkN ?_
                  refine E_seq ?_
                  refine L_ops ?_
                  refine ol_put rfl rfl rfl (q_move (v := .one (iC .i64 n25)) rfl) ?_
                  refine ol_put rfl rfl rfl (q_bin rfl rfl (p_add _ _ _ _ _ _ _) rfl) ?_
                  refine ol_put rfl rfl rfl (q_assign (v := .one (iC .i64 (IntKind.i64.wrap (n25 + 1)))) rfl) ?_
                  refine ol_end ?_
                  obtain rfl := Option.some.inj h
                  exact E_next () (ups_self ⟨rfl, rfl, trivial⟩) [0] (by decide) rfl
              · replace h := ifT (by decide) h
                refine ol_put rfl rfl rfl (q_not rfl) ?_
                refine ol_put rfl rfl rfl (q_move (v := .one (bC false)) rfl) ?_
                refine ol_skip rfl rfl rfl ?_
                refine ol_skip rfl rfl rfl ?_
                refine ol_skip rfl rfl rfl ?_
                refine ol_skip rfl rfl rfl ?_
                refine ol_skip rfl rfl rfl ?_
                refine ol_skip rfl rfl rfl ?_
                refine ol_put rfl rfl rfl (q_pickF (v := .one (bC false)) rfl rfl) ?_
                refine ol_end ?_
                refine E_seq ?_
                refine L_condF rfl ?_
                refine L_skip ?_
                refine E_blkN ?_
                refine E_seq ?_
                refine L_ops ?_
                refine ol_put rfl rfl rfl (q_move (v := .one (iC .i64 n25)) rfl) ?_
                refine ol_put rfl rfl rfl (q_bin rfl rfl (p_add _ _ _ _ _ _ _) rfl) ?_
                refine ol_put rfl rfl rfl (q_assign (v := .one (iC .i64 (IntKind.i64.wrap (n25 + 1)))) rfl) ?_
                refine ol_end ?_
                obtain rfl := Option.some.inj h
                exact E_next () (ups_self ⟨rfl, rfl, trivial⟩) [0] (by decide) rfl
            · replace h := ifF c26 h
              refine ol_put rfl rfl rfl (q_bin rfl rfl (p_lss_f _ _ _ _ _ c26) rfl) ?_
              refine ol_end ?_
              refine E_seq ?_
              refine L_condF rfl ?_
              refine L_exit ?_
              refine E_seqX ?_
              obtain rfl := Option.some.inj h
              refine E_out ?_
              exact (E_exit () (ups_self trivial) [] (by decide) rfl)
          · rintro (_ | u) h
            · refine J_x (fun kt g => ?_)
              replace h := elimL h
              refine E_blkH ?_
              refine E_seq ?_
              refine L_seq ?_
              refine L_ops ?_
              refine ol_put rfl rfl rfl (q_assign (v := .one (bC true)) rfl) ?_
              refine ol_end ?_
              refine E_seq ?_
              refine L_ret ?_
              obtain rfl := Option.some.inj h
              exact E_endF (.inr rfl) (res_tmp rfl res_nil) (vw_cons (vd_one vc_v) vw_nil) (fun h hb => own_p) rfl rfl
            · obtain rfl := Option.some.inj (elimR h)
              exact J_up (fun s hs => hs)

noncomputable def ref10_Back_b1 (s3 : Sl (Int)) (s10 : List (Int)) (a : Int × (List (Int × Int))) : Option ((Int × (List (Int × Int))) ⊕ ((List (Int × Int)) ⊕ (Int × (Sl (Int × Int))))) :=
  match a with
  | (n50, l51) => (if n50 < ((s10.length : Nat) : Int) then ((atS 1 (mo 1 s10) n50).bind fun n64 => ((atS 1 s3 n64).bind fun n67 => ((app l51 ([(n64, n67)] : List (Int × Int))).bind fun _ => some (.inl ((IntKind.i64.wrap (n50 + 1)), (l51 ++ ([(n64, n67)] : List (Int × Int)))))))) else some (.inr (.inl l51)))
noncomputable def ref10_Back (a0 : Int × Sl (Int) × Sl (Int)) : Option ((Int × (Sl (Int × Int)))) :=
  match a0 with
  | (n1, s2, s3) => ((ref10_Right (n1, s2, s3)).bind fun b7 => (if b7 = true then ((ref03_List s2).bind fun s10 => ((loopO (ref10_Back_b1 s3 s10) (0, ([] : List (Int × Int)))).bind (Sum.elim (fun l69 => some (n1, (mo 2 l69))) (fun u => some u)))) else some (0, (⟨false, 0, []⟩ : Sl (Int × Int)))))
theorem ref10_Back_r (m : Nat) {a0 : Int × Sl (Int) × Sl (Int)} {out : (Int × (Sl (Int × Int)))} (h : ref10_Back a0 = some out) : RunsP E1 (m + 5) 43 [.agg (r35 a0)] (.fresh, [.agg (r38 out)]) := by
  obtain ⟨n1, s2, s3⟩ := a0
  refine fn_F rfl (by rw [E1_fn]; exact show fiOf Tryd.prog 43 = _ by unfold fiOf; rw [Tryd.func43]; unfold Tryd.f43; rfl) rfl ?_
  dsimp only
  unfold ref10_Back at h
  refine L_seq ?_
  refine L_ops ?_
  refine ol_new rfl rfl rfl (q_box ty36 rfl (cs := [iC .i64 n1, .p false (Sl.t r60 s2), .p false (Sl.t r2 s3)]) rfl rfl) (fun k4 => ?_)
  refine ol_new rfl rfl rfl (q_alloc ty39 (row := [iC .i64 0, .p true (Sl.t r70 (⟨false, 0, []⟩ : Sl (Int × Int)))]) rfl rfl) (fun k5 => ?_)
  refine ol_end ?_
  refine E_seq ?_
  refine L_seq ?_
  refine L_seq ?_
  refine L_ops ?_
  refine ol_put rfl rfl rfl (q_loadP (v := .agg [iC .i64 n1, .p false (Sl.t r60 s2), .p false (Sl.t r2 s3)]) 1 rfl sz36 rfl rfl rfl rfl) ?_
  obtain ⟨b7, h6, h⟩ := bindS h
  refine ol_put rfl rfl rfl (q_callF (v := .one (bC b7)) (args := [.agg [iC .i64 n1, .p false (Sl.t r60 s2), .p false (Sl.t r2 s3)]]) (ref10_Right_r (m + 0) h6) rfl rfl (vw_cons (vd_agg (vc_cons vc_v (vc_cons vc_s (vc_cons vc_s vc_nil)))) vw_nil) rfl rfl) ?_
  rcases b7 with _ | _
  · replace h := ifF (by decide) h
    refine ol_put rfl rfl rfl (q_not rfl) ?_
    refine ol_end ?_
    refine E_seq ?_
    refine L_condT rfl ?_
    refine L_seq ?_
    refine L_ops ?_
    refine ol_put rfl rfl rfl (q_build (cs := [iC .i64 0, .p true (Sl.t r70 (⟨false, 0, []⟩ : Sl (Int × Int)))]) ty39 rfl pl39 rfl) ?_
    refine ol_wr rfl rfl (q_store (es' := [[iC .i64 0, .p true (Sl.t r70 (⟨false, 0, []⟩ : Sl (Int × Int)))]]) 0 rfl rfl rfl sz39 rfl rfl rfl rfl rfl) rfl ?_
    refine ol_end ?_
    refine E_seq ?_
    refine L_ret ?_
    refine E_seqR ?_
    obtain rfl := Option.some.inj h
    exact E_endF (.inr rfl) (res_cell (d := .agg [iC .i64 0, .p true (Sl.t r70 (⟨false, 0, []⟩ : Sl (Int × Int)))]) 0 rfl sz39 rfl rfl rfl rfl res_nil) (vw_cons (vd_agg (vc_cons vc_v (vc_cons vc_s vc_nil))) vw_nil) (fun h hb => own_agg) rfl rfl
  · replace h := ifT (by decide) h
    refine ol_put rfl rfl rfl (q_not rfl) ?_
    refine ol_end ?_
    refine E_seq ?_
    refine L_condF rfl ?_
    refine L_skip ?_
    refine E_seq ?_
    refine L_seq ?_
    refine L_ops ?_
    refine ol_put rfl rfl rfl (q_fieldP rfl fa36_0 rfl) ?_
    refine ol_put rfl rfl rfl (q_loadP (v := .one (iC .i64 n1)) 1 rfl sz3 rfl rfl rfl rfl) ?_
    refine ol_put rfl rfl rfl (q_build (cs := [iC .i64 n1, .p true (Sl.t r70 (⟨false, 0, []⟩ : Sl (Int × Int)))]) ty39 rfl pl39 rfl) ?_
    refine ol_new rfl rfl rfl (q_alloc ty39 (row := [iC .i64 0, .p true (Sl.t r70 (⟨false, 0, []⟩ : Sl (Int × Int)))]) rfl rfl) (fun k8 => ?_)
    refine ol_wr rfl rfl (q_store (es' := [[iC .i64 n1, .p true (Sl.t r70 (⟨false, 0, []⟩ : Sl (Int × Int)))]]) 0 rfl rfl rfl sz39 rfl rfl rfl rfl rfl) rfl ?_
    refine ol_end ?_
    refine E_seq ?_
    refine L_seq ?_
    refine L_ops ?_
    refine ol_put rfl rfl rfl (q_fieldP rfl fa36_1 rfl) ?_
    refine ol_put rfl rfl rfl (q_loadP (v := .one (.p false (Sl.t r60 s2))) 2 rfl sz26 rfl rfl rfl rfl) ?_
    obtain ⟨s10, h9, h⟩ := bindS h
    refine ol_callM (r := r3) (l := s10) (args := [.one (.p false (Sl.t r60 s2))]) (ref03_List_r (m + 2) h9) rfl rfl rfl rfl rfl rfl (vw_cons (vd_one vc_s) vw_nil) rfl (fun k11 => ?_)
    refine ol_put rfl rfl rfl (q_assign (v := .one (moC s10 k11)) rfl) ?_
    refine ol_end ?_
    refine E_seq ?_
    refine L_seq ?_
    refine L_seq ?_
    refine L_ops ?_
    refine ol_put rfl rfl rfl (q_assign (v := .one (iC .i64 0)) rfl) ?_
    refine ol_end ?_
    refine E_seq ?_
    refine L_block ?_
    refine L_addM (α := Int × Int) r70 2 ?_
    let S1 : (Int × (List (Int × Int))) → Nat → (Nat → D) → Nat → D := fun a kt g => ups g [(1, .one (.ptr k4 0 0)), (2, .one (.ptr k5 0 0)), (3, .one (.ptr k8 0 0)), (4, .one (moC s10 k11)), (5, .one (iC .i64 a.1))]
    let SL1 : (Int × (List (Int × Int))) → Nat → BL := fun a kt => ([[(k4, 3, [[iC .i64 n1, .p false (Sl.t r60 s2), .p false (Sl.t r2 s3)]])], [(k5, 2, [[iC .i64 0, .p true (Sl.t r70 (⟨false, 0, []⟩ : Sl (Int × Int)))]])], [(k8, 2, [[iC .i64 n1, moC a.2 kt]])], moL r3 1 s10 k11, moL r70 2 a.2 kt] : BL)
    let G1 : (Int × (Sl (Int × Int))) → Ex → St → Prop := fun u => endQ E1 [.cell 2 39] (.fresh, [.agg (r38 u)])
    let Sx1 : (List (Int × Int)) → Nat → (Nat → D) → Nat → D := fun a kt g => ups g [(2, .one (.ptr k5 0 0)), (3, .one (.ptr k8 0 0))]
    let SLx1 : (List (Int × Int)) → Nat → BL := fun a kt => ([[(k5, 2, [[iC .i64 0, .p true (Sl.t r70 (⟨false, 0, []⟩ : Sl (Int × Int)))]])], [(k8, 2, [[iC .i64 n1, moC a kt]])], moL r70 2 a kt] : BL)
    let J1 : ((List (Int × Int)) ⊕ (Int × (Sl (Int × Int)))) → Ex → St → Prop := JX 41 0 Sx1 SLx1 G1
    refine L_loopS (ref10_Back_b1 s3 s10) S1 SL1 J1 JX_n (0, ([] : List (Int × Int))) h 1048 (ups_self ⟨rfl, rfl, rfl, rfl, rfl, trivial⟩) [4, 3, 2, 1, 0] (by decide) rfl ?_ ?_
    · rintro ⟨n50, l51⟩ k52 g out h
      change ref10_Back_b1 s3 s10 (n50, l51) = some out at h
      unfold ref10_Back_b1 at h
      refine L_seq ?_
      refine L_seq ?_
      refine L_ops ?_
      refine ol_put rfl rfl rfl (q_move (v := .one (iC .i64 n50)) rfl) ?_
      refine ol_put rfl rfl rfl (q_move (v := .one (moC s10 k11)) rfl) ?_
      refine ol_put rfl rfl rfl (q_lenM (l := s10) rfl ty30 rfl rfl rfl rfl) ?_
      by_cases c53 : n50 < ((s10.length : Nat) : Int)
      · replace h := ifT c53 h
        refine ol_put rfl rfl rfl (q_bin rfl rfl (p_lss_t _ _ _ _ _ c53) rfl) ?_
        refine ol_end ?_
        refine E_seq ?_
        refine L_condT rfl ?_
        refine L_skip ?_
        refine E_seq ?_
        refine L_seq ?_
        refine L_block ?_
        refine L_norm (L2 := ([[(k4, 3, [[iC .i64 n1, .p false (Sl.t r60 s2), .p false (Sl.t r2 s3)]])], [(k5, 2, [[iC .i64 0, .p true (Sl.t r70 (⟨false, 0, []⟩ : Sl (Int × Int)))]])], [(k8, 2, [[iC .i64 n1, moC l51 k52]])], moL r3 1 s10 k11, moL r70 2 l51 k52] : BL)) [0, 1, 2, 3, 4] (by decide) rfl ?_
        refine L_turn 19 rfl [[], [], [], [], [], [], [], [], [], [], [], [], [], [], [], [], moK l51 k52, [], [k8]] [(false, []), (false, []), (false, []), (false, []), (false, []), (false, []), (false, []), (false, []), (false, []), (false, []), (false, []), (false, []), (false, []), (false, []), (false, []), (true, []), (true, []), (false, []), (false, [])] [[2, 3, 4, 5, 6, 7, 8, 9, 10, 11, 12, 13, 14, 15], [2, 3, 4, 5, 6, 7, 8, 9, 10, 11, 12, 13, 14, 15], [0, 1, 3, 6, 7, 8, 9, 10, 11, 12, 13], [0, 1, 2, 6, 7, 8, 9, 10, 11, 12, 13], [0, 1, 6, 7, 8, 9, 10, 11, 12, 13], [0, 1, 6, 7, 8, 9, 10, 11, 12, 13], [0, 1, 2, 3, 4, 5, 8, 9, 10, 11], [0, 1, 2, 3, 4, 5, 8, 9, 10, 11], [0, 1, 2, 3, 4, 5, 6, 7, 9], [0, 1, 2, 3, 4, 5, 6, 7, 8], [0, 1, 2, 3, 4, 5, 6, 7], [0, 1, 2, 3, 4, 5, 6, 7], [0, 1, 2, 3, 4, 5], [0, 1, 2, 3, 4, 5], [0, 1], [0, 1], [], [], []] (by kernel_rfl) (by kernel_rfl) (by kernel_rfl) ?_ (fun bb54 hlt hnd => ?_)
        · intro bb54 hlt hnd
          have e_k4 : k4 < bb54 := key_lt hlt 0 rfl
          have e_k5 : k5 < bb54 := key_lt hlt 1 rfl
          have e_k8 : k8 < bb54 := key_lt hlt 2 rfl
          have e_k11 : s10 = [] ∨ k11 < bb54 := key_ltM (r := r3) (w := 1) hlt 3 rfl
          have e_k52 : l51 = [] ∨ k52 < bb54 := key_ltM (r := r70) (w := 2) hlt 4 rfl
          have f_k52 := moK_lt e_k52
          have d_k8_k4 : k8 ≠ k4 := key_ne hnd 2 0 rfl rfl rfl
          have d_k8_k5 : k8 ≠ k5 := key_ne hnd 2 1 rfl rfl rfl
          have d_k52_k4 : k4 ∉ moK l51 k52 := key_neM (r := r70) (w := 2) hnd 4 0 rfl rfl rfl
          have g_k52_k4 := moK_ne d_k52_k4
          have d_k52_k5 : k5 ∉ moK l51 k52 := key_neM (r := r70) (w := 2) hnd 4 1 rfl rfl rfl
          have g_k52_k5 := moK_ne d_k52_k5
          have d_k52_k8 : k8 ∉ moK l51 k52 := key_neM (r := r70) (w := 2) hnd 4 2 rfl rfl rfl
          have g_k52_k8 := moK_ne d_k52_k8
          exact ⟨(by first | (simp [DJ]; done) | (simp [DJ]; omega) | (simp [DJ]; assumption) | (simp_all [DJ]; done) | (simp_all [DJ]; omega)), (by first | (simp [DJ]; done) | (simp [DJ]; omega) | (simp [DJ]; assumption) | (simp_all [DJ]; done) | (simp_all [DJ]; omega))⟩
        have e_k4 : k4 < bb54 := key_lt hlt 0 rfl
        have e_k5 : k5 < bb54 := key_lt hlt 1 rfl
        have e_k8 : k8 < bb54 := key_lt hlt 2 rfl
        have e_k11 : s10 = [] ∨ k11 < bb54 := key_ltM (r := r3) (w := 1) hlt 3 rfl
        have e_k52 : l51 = [] ∨ k52 < bb54 := key_ltM (r := r70) (w := 2) hlt 4 rfl
        have f_k52 := moK_lt e_k52
        have d_k8_k4 : k8 ≠ k4 := key_ne hnd 2 0 rfl rfl rfl
        have d_k8_k5 : k8 ≠ k5 := key_ne hnd 2 1 rfl rfl rfl
        have d_k52_k4 : k4 ∉ moK l51 k52 := key_neM (r := r70) (w := 2) hnd 4 0 rfl rfl rfl
        have g_k52_k4 := moK_ne d_k52_k4
        have d_k52_k5 : k5 ∉ moK l51 k52 := key_neM (r := r70) (w := 2) hnd 4 1 rfl rfl rfl
        have g_k52_k5 := moK_ne d_k52_k5
        have d_k52_k8 : k8 ∉ moK l51 k52 := key_neM (r := r70) (w := 2) hnd 4 2 rfl rfl rfl
        have g_k52_k8 := moK_ne d_k52_k8
        refine tn_put rfl rfl rfl [] (by decide) rfl hmn rfl (q_fieldP rfl fa39_1 rfl) ?_
        refine tn_put rfl rfl rfl [2] (by decide) rfl (hmc (nin_cons (ne_new (key_lt hlt 2 rfl)) nin_nil) hmn) rfl (q_loadP (v := .one (moC l51 k52)) 0 rfl sz25 rfl rfl rfl rfl) ?_
        refine tn_put rfl rfl rfl [] (by decide) rfl (hm0 rfl) rfl (q_move (v := .one (moC s10 k11)) rfl) ?_
        refine tn_put rfl rfl rfl [] (by decide) rfl (hm0 rfl) rfl (q_move (v := .one (iC .i64 n50)) rfl) ?_
        obtain ⟨n64, h63, h⟩ := bindS h
        obtain ⟨h63a, h63⟩ := atM_some h63
        refine tn_put rfl rfl rfl [3] (by decide) rfl (hm0 rfl) rfl (q_ixM (r := r3) 0 rfl rfl h63a h63 rfl el30) ?_
        refine tn_put rfl rfl rfl [3] (by decide) rfl (hm0 rfl) rfl (q_loadP (v := .one (iC .i64 n64)) 0 rfl sz3 (segM (r := r3) rfl h63) (map_get h63) rfl rfl) ?_
        refine tn_put rfl rfl rfl [] (by decide) rfl (hm0 rfl) rfl (q_fieldP rfl fa36_2 rfl) ?_
        refine tn_put rfl rfl rfl [0] (by decide) rfl (hm0 rfl) rfl (q_loadP (v := .one (.p false (Sl.t r2 s3))) 0 rfl sz31 rfl rfl rfl rfl) ?_
        refine tn_put rfl rfl rfl [] (by decide) rfl (hm0 rfl) rfl (q_move (v := .one (moC s10 k11)) rfl) ?_
        refine tn_put rfl rfl rfl [] (by decide) rfl (hm0 rfl) rfl (q_move (v := .one (iC .i64 n50)) rfl) ?_
        refine tn_put rfl rfl rfl [3] (by decide) rfl (hm0 rfl) rfl (q_ixM (r := r3) 0 rfl rfl h63a h63 rfl el30) ?_
        refine tn_put rfl rfl rfl [3] (by decide) rfl (hm0 rfl) rfl (q_loadP (v := .one (iC .i64 n64)) 0 rfl sz3 (segM (r := r3) rfl h63) (map_get h63) rfl rfl) ?_
        obtain ⟨n67, h66, h⟩ := bindS h
        obtain ⟨h66a, h66b, h66⟩ := atS_some h66
        refine tn_put rfl rfl rfl [] (by decide) rfl (hm0 rfl) rfl (q_ixS rfl rfl h66a h66 (el31.trans (congrArg some h66b.symm))) ?_
        refine tn_put rfl rfl rfl [] (by decide) rfl (hm0 rfl) rfl (q_loadI (v := .one (iC .i64 n67)) rfl sz2 (map_get h66) rfl rfl) ?_
        refine tn_put rfl rfl rfl [] (by decide) rfl (hm0 rfl) rfl (q_build (cs := [iC .i64 n64, iC .i64 n67]) ty71 rfl pl71 rfl) ?_
        refine tn_new rfl rfl rfl [] (by decide) rfl (hm0 rfl) rfl rfl (hkc (ne_new (key_lt hlt 0 rfl)) (hkc (ne_new (key_lt hlt 1 rfl)) (hkc (ne_new (key_lt hlt 2 rfl)) (hkM (e_k11.imp id fun h => by omega) (hkM (e_k52.imp id fun h => by omega) hkn))))) (q_bslice (cs := [iC .i64 n64, iC .i64 n67]) (es := (([(n64, n67)] : List (Int × Int))).map (rowC r70)) ty25 rfl ty71 rfl rfl rfl rfl rfl) ?_
        obtain ⟨_, h68, h⟩ := bindS h
        obtain ⟨h68b, rfl⟩ := app_some h68
        refine tn_appM (r := r70) (l := l51) 0 5 rfl rfl rfl rfl [5, 0] (by decide) rfl (hm0 rfl) rfl rfl (hkc (ne_add rfl) (hkc (ne_new (key_lt hlt 0 rfl)) (hkc (ne_new (key_lt hlt 1 rfl)) (hkc (ne_new (key_lt hlt 2 rfl)) (hkM (e_k11.imp id fun h => by omega) (hkM (e_k52.imp id fun h => by omega) hkn)))))) rfl rfl (el_ownM (l := ([(n64, n67)] : List (Int × Int))) 1 rfl) rfl rfl h68 (fun y => rfl) el25 ty25 rfl rfl rfl rfl rfl ?_
        refine tn_put rfl rfl rfl [] (by decide) rfl (hm0 rfl) rfl (q_fieldP rfl fa39_1 rfl) ?_
        refine tn_wr rfl rfl [4] (by decide) rfl (hm0 rfl) rfl (q_store (es' := [[iC .i64 n1, moC (l51 ++ ([(n64, n67)] : List (Int × Int))) (bb54 + 16)]]) 0 rfl rfl rfl sz25 rfl rfl rfl rfl rfl) (q := 4) rfl rfl ?_
        refine tn_end ?_
        refine E_blkN ?_
        refine E_seq ?_
        refine L_ops ?_
        refine ol_put rfl rfl rfl (q_move (v := .one (iC .i64 n50)) rfl) ?_
        refine ol_put rfl rfl rfl (q_bin rfl rfl (p_add _ _ _ _ _ _ _) rfl) ?_
        refine ol_put rfl rfl rfl (q_assign (v := .one (iC .i64 (IntKind.i64.wrap (n50 + 1)))) rfl) ?_
        refine ol_end ?_
        obtain rfl := Option.some.inj h
        exact E_next (bb54 + 16) (ups_self ⟨rfl, rfl, rfl, rfl, rfl, trivial⟩) [2, 3, 4, 5, 0] (by decide) rfl
      · replace h := ifF c53 h
        refine ol_put rfl rfl rfl (q_bin rfl rfl (p_lss_f _ _ _ _ _ c53) rfl) ?_
        refine ol_end ?_
        refine E_seq ?_
        refine L_condF rfl ?_
        refine L_exit ?_
        refine E_seqX ?_
        obtain rfl := Option.some.inj h
        refine E_out ?_
        exact (E_exit k52 (ups_self ⟨rfl, rfl, trivial⟩) [1, 2, 4] (by decide) rfl)
    · rintro (l69 | u) h
      · refine J_x (fun k70 g => ?_)
        replace h := elimL h
        refine E_blkH ?_
        refine E_seq ?_
        refine L_seq ?_
        refine L_ops ?_
        refine ol_put rfl rfl rfl (q_loadP (v := .agg [iC .i64 n1, moC l69 k70]) 1 rfl sz39 rfl rfl rfl rfl) ?_
        refine ol_wr rfl rfl (q_store (es' := [[iC .i64 n1, moC l69 k70]]) 0 rfl rfl rfl sz39 rfl rfl rfl rfl rfl) rfl ?_
        refine ol_end ?_
        refine E_seq ?_
        refine L_ret ?_
        obtain rfl := Option.some.inj h
        exact E_endF (.inr rfl) (res_cell (d := .agg [iC .i64 n1, moC l69 k70]) 0 rfl sz39 rfl rfl rfl rfl res_nil) (vw_cons (vd_agg (vc_cons vc_v (vc_cons (vc_M (r := r70) 2 rfl (fun x h m => rfl)) vc_nil))) vw_nil) (fun h hb => own_agg) rfl rfl
      · obtain rfl := Option.some.inj (elimR h)
        exact J_up (fun s hs => hs)

noncomputable def ref09_Get_b1 (n3 : Int) (s7 : Sl (Int × Int)) (n22 : Int) : Option (Int ⊕ (Unit ⊕ (Int × Bool))) :=
  (if n22 < ((s7.l.length : Nat) : Int) then ((atS 2 s7 n22).bind fun (n26, n27) => (if n26 = n3 then some (.inr (.inr (n27, true))) else some (.inl (IntKind.i64.wrap (n22 + 1))))) else some (.inr (.inl ())))
noncomputable def ref09_Get (a0 : Int × (Sl (Int × Int))) (n3 : Int) : Option (Int × Bool) :=
  match a0 with
  | (n1, s2) => ((ref09_Sure (n1, s2)).bind fun (n6, s7) => ((loopO (ref09_Get_b1 n3 s7) 0).bind (Sum.elim (fun _ => some (0, false)) (fun u => some u))))
theorem ref09_Get_r (m : Nat) {a0 : Int × (Sl (Int × Int))} {n3 : Int} {out : Int × Bool} (h : ref09_Get a0 n3 = some out) : RunsP E1 (m + 3) 26 [.agg (r38 a0), .one (iT .i64 n3)] (.fresh, [.one (iT .i64 out.1), .one (bT out.2)]) := by
  obtain ⟨n1, s2⟩ := a0
  refine fn_F rfl (by rw [E1_fn]; exact show fiOf Tryd.prog 26 = _ by unfold fiOf; rw [Tryd.func26]; unfold Tryd.f26; rfl) rfl ?_
  dsimp only
  unfold ref09_Get at h
  refine L_seq ?_
  refine L_ops ?_
  refine ol_new rfl rfl rfl (q_box ty39 rfl (cs := [iC .i64 n1, .p false (Sl.t r70 s2)]) rfl rfl) (fun k4 => ?_)
  refine ol_put rfl rfl rfl (q_assign (v := .one (iC .i64 0)) rfl) ?_
  refine ol_put rfl rfl rfl (q_assign (v := .one (bC false)) rfl) ?_
  refine ol_end ?_
  refine E_seq ?_
  refine L_seq ?_
  refine L_ops ?_
  refine ol_put rfl rfl rfl (q_loadP (v := .agg [iC .i64 n1, .p false (Sl.t r70 s2)]) 0 rfl sz39 rfl rfl rfl rfl) ?_
  obtain ⟨⟨n6, s7⟩, h5, h⟩ := bindS h
  refine ol_putX rfl rfl rfl (q_callX (v := fun fr8 => .agg [iC .i64 n6, .p fr8 (Sl.t r70 s7)]) (args := [.agg [iC .i64 n1, .p false (Sl.t r70 s2)]]) (ref09_Sure_r (m + 0) h5) rfl rfl (vw_cons (vd_agg (vc_cons vc_v (vc_cons vc_s vc_nil))) vw_nil) rfl rfl (fun fr => rfl)) (fun fr8 => ?_)
  refine ol_wr rfl rfl (q_store (es' := [[iC .i64 n6, .p fr8 (Sl.t r70 s7)]]) 0 rfl rfl rfl sz39 rfl rfl rfl rfl rfl) rfl ?_
  refine ol_end ?_
  refine E_seq ?_
  refine L_seq ?_
  refine L_seq ?_
  refine L_ops ?_
  refine ol_put rfl rfl rfl (q_assign (v := .one (iC .i64 0)) rfl) ?_
  refine ol_end ?_
  refine E_seq ?_
  refine L_block ?_
  let S1 : Int → Unit → (Nat → D) → Nat → D := fun a kt g => ups g [(1, .one (iC .i64 n3)), (2, .one (.ptr k4 0 0)), (6, .one (iC .i64 a))]
  let SL1 : Int → Unit → BL := fun a kt => ([[(k4, 2, [[iC .i64 n6, .p fr8 (Sl.t r70 s7)]])]] : BL)
  let G1 : (Int × Bool) → Ex → St → Prop := fun u => endQ E1 [.tmp 4, .tmp 5] (.fresh, [.one (iT .i64 u.1), .one (bT u.2)])
  let Sx1 : Unit → Unit → (Nat → D) → Nat → D := fun a kt g => ups g []
  let SLx1 : Unit → Unit → BL := fun a kt => ([] : BL)
  let J1 : (Unit ⊕ (Int × Bool)) → Ex → St → Prop := JX 30 0 Sx1 SLx1 G1
  refine L_loopS (ref09_Get_b1 n3 s7) S1 SL1 J1 JX_n 0 h () (ups_self ⟨rfl, rfl, rfl, trivial⟩) [0] (by decide) rfl ?_ ?_
  · rintro n22 _ g out h
    change ref09_Get_b1 n3 s7 n22 = some out at h
    unfold ref09_Get_b1 at h
    refine L_seq ?_
    refine L_seq ?_
    refine L_ops ?_
    refine ol_put rfl rfl rfl (q_move (v := .one (iC .i64 n22)) rfl) ?_
    refine ol_put rfl rfl rfl (q_fieldP rfl fa39_1 rfl) ?_
    refine ol_put rfl rfl rfl (q_loadP (v := .one (.p fr8 (Sl.t r70 s7))) 0 rfl sz25 rfl rfl rfl rfl) ?_
    refine ol_put rfl rfl rfl (q_lenS rfl ty25 rfl rfl rfl rfl) ?_
    by_cases c23 : n22 < ((s7.l.length : Nat) : Int)
    · replace h := ifT c23 h
      refine ol_put rfl rfl rfl (q_bin rfl rfl (p_lss_t _ _ _ _ _ c23) rfl) ?_
      refine ol_end ?_
      refine E_seq ?_
      refine L_condT rfl ?_
      refine L_skip ?_
      refine E_seq ?_
      refine L_seq ?_
      refine L_block ?_
      refine L_seq ?_
      refine L_ops ?_
      refine ol_put rfl rfl rfl (q_fieldP rfl fa39_1 rfl) ?_
      refine ol_put rfl rfl rfl (q_loadP (v := .one (.p fr8 (Sl.t r70 s7))) 0 rfl sz25 rfl rfl rfl rfl) ?_
      refine ol_put rfl rfl rfl (q_move (v := .one (iC .i64 n22)) rfl) ?_
      obtain ⟨⟨n26, n27⟩, h25, h⟩ := bindS h
      obtain ⟨h25a, h25b, h25⟩ := atS_some h25
      refine ol_put rfl rfl rfl (q_ixS rfl rfl h25a h25 (el25.trans (congrArg some h25b.symm))) ?_
      refine ol_put rfl rfl rfl (q_fieldI rfl fa71_0 rfl) ?_
      refine ol_put rfl rfl rfl (q_loadI (v := .one (iC .i64 n26)) rfl sz3 (map_get h25) rfl rfl) ?_
      refine ol_put rfl rfl rfl (q_move (v := .one (iC .i64 n3)) rfl) ?_
      by_cases c28 : n26 = n3
      · replace h := ifT c28 h
        refine ol_put rfl rfl rfl (q_bin rfl rfl (p_eql_t _ _ _ _ _ c28) rfl) ?_
        refine ol_end ?_
        refine E_seq ?_
        refine L_condT rfl ?_
        refine L_seq ?_
        refine L_ops ?_
        refine ol_put rfl rfl rfl (q_fieldP rfl fa39_1 rfl) ?_
        refine ol_put rfl rfl rfl (q_loadP (v := .one (.p fr8 (Sl.t r70 s7))) 0 rfl sz25 rfl rfl rfl rfl) ?_
        refine ol_put rfl rfl rfl (q_move (v := .one (iC .i64 n22)) rfl) ?_
        refine ol_put rfl rfl rfl (q_ixS rfl rfl h25a h25 (el25.trans (congrArg some h25b.symm))) ?_
        refine ol_put rfl rfl rfl (q_fieldI rfl fa71_1 rfl) ?_
        refine ol_put rfl rfl rfl (q_loadI (v := .one (iC .i64 n27)) rfl sz2 (map_get h25) rfl rfl) ?_
        refine ol_put rfl rfl rfl (q_assign (v := .one (iC .i64 n27)) rfl) ?_
        refine ol_put rfl rfl rfl (q_assign (v := .one (bC true)) rfl) ?_
        refine ol_end ?_
        refine E_seq ?_
        refine L_ret ?_
        refine E_blkR ?_
        refine E_seqR ?_
        obtain rfl := Option.some.inj h
        exact E_out (E_up (E_endF (.inr rfl) (res_tmp rfl (res_tmp rfl res_nil)) (vw_cons (vd_one vc_v) (vw_cons (vd_one vc_v) vw_nil)) (fun h hb => own_no2) rfl rfl))
      · replace h := ifF c28 h
        refine ol_put rfl rfl rfl (q_bin rfl rfl (p_eql_f _ _ _ _ _ c28) rfl) ?_
        refine ol_end ?_
        refine E_seq ?_
        refine L_condF rfl ?_
        refine L_skip ?_
        refine E_blkN ?_
        refine E_seq ?_
        refine L_ops ?_
        refine ol_put rfl rfl rfl (q_move (v := .one (iC .i64 n22)) rfl) ?_
        refine ol_put rfl rfl rfl (q_bin rfl rfl (p_add _ _ _ _ _ _ _) rfl) ?_
        refine ol_put rfl rfl rfl (q_assign (v := .one (iC .i64 (IntKind.i64.wrap (n22 + 1)))) rfl) ?_
        refine ol_end ?_
        obtain rfl := Option.some.inj h
        exact E_next () (ups_self ⟨rfl, rfl, rfl, trivial⟩) [0] (by decide) rfl
    · replace h := ifF c23 h
      refine ol_put rfl rfl rfl (q_bin rfl rfl (p_lss_f _ _ _ _ _ c23) rfl) ?_
      refine ol_end ?_
      refine E_seq ?_
      refine L_condF rfl ?_
      refine L_exit ?_
      refine E_seqX ?_
      obtain rfl := Option.some.inj h
      refine E_out ?_
      exact (E_exit () (ups_self trivial) [] (by decide) rfl)
  · rintro (_ | u) h
    · refine J_x (fun kt g => ?_)
      replace h := elimL h
      refine E_blkH ?_
      refine E_seq ?_
      refine L_seq ?_
      refine L_ops ?_
      refine ol_put rfl rfl rfl (q_assign (v := .one (iC .i64 0)) rfl) ?_
      refine ol_put rfl rfl rfl (q_assign (v := .one (bC false)) rfl) ?_
      refine ol_end ?_
      refine E_seq ?_
      refine L_ret ?_
      obtain rfl := Option.some.inj h
      exact E_endF (.inr rfl) (res_tmp rfl (res_tmp rfl res_nil)) (vw_cons (vd_one vc_v) (vw_cons (vd_one vc_v) vw_nil)) (fun h hb => own_no2) rfl rfl
    · obtain rfl := Option.some.inj (elimR h)
      exact J_up (fun s hs => hs)

noncomputable def ref01_Minus (a0 : Int × Int) : Option ((Int × Int)) :=
  match a0 with
  | (n1, n2) => ((ref01_Add ((complI .i64 n1), (complI .u64 n2)) (0, 1)).bind fun (n6, n7) => some (n6, n7))
theorem ref01_Minus_r (m : Nat) {a0 : Int × Int} {out : (Int × Int)} (h : ref01_Minus a0 = some out) : RunsP E1 (m + 2) 94 [.agg (r61 a0)] (.fresh, [.agg (r61 out)]) := by
  obtain ⟨n1, n2⟩ := a0
  refine fn_F rfl (by rw [E1_fn]; exact show fiOf Tryd.prog 94 = _ by unfold fiOf; rw [Tryd.func94]; unfold Tryd.f94; rfl) rfl ?_
  dsimp only
  unfold ref01_Minus at h
  refine L_seq ?_
  refine L_ops ?_
  refine ol_new rfl rfl rfl (q_box ty62 rfl (cs := [iC .i64 n1, iC .u64 n2]) rfl rfl) (fun k3 => ?_)
  refine ol_new rfl rfl rfl (q_alloc ty62 (row := [iC .i64 0, iC .u64 0]) rfl rfl) (fun k4 => ?_)
  refine ol_end ?_
  refine E_seq ?_
  refine L_seq ?_
  refine L_ops ?_
  refine ol_put rfl rfl rfl (q_fieldP rfl fa62_0 rfl) ?_
  refine ol_put rfl rfl rfl (q_loadP (v := .one (iC .i64 n1)) 1 rfl sz2 rfl rfl rfl rfl) ?_
  refine ol_put rfl rfl rfl (q_compl rfl) ?_
  refine ol_put rfl rfl rfl (q_fieldP rfl fa62_1 rfl) ?_
  refine ol_put rfl rfl rfl (q_loadP (v := .one (iC .u64 n2)) 1 rfl sz60 rfl rfl rfl rfl) ?_
  refine ol_put rfl rfl rfl (q_compl rfl) ?_
  refine ol_put rfl rfl rfl (q_build (cs := [iC .i64 (complI .i64 n1), iC .u64 (complI .u64 n2)]) ty62 rfl pl62 rfl) ?_
  refine ol_put rfl rfl rfl (q_build (cs := [iC .i64 0, iC .u64 1]) ty62 rfl pl62 rfl) ?_
  obtain ⟨⟨n6, n7⟩, h5, h⟩ := bindS h
  refine ol_put rfl rfl rfl (q_callF (v := .agg [iC .i64 n6, iC .u64 n7]) (args := [.agg [iC .i64 (complI .i64 n1), iC .u64 (complI .u64 n2)], .agg [iC .i64 0, iC .u64 1]]) (ref01_Add_r (m + 0) h5) rfl rfl (vw_cons (vd_agg (vc_cons vc_v (vc_cons vc_v vc_nil))) (vw_cons (vd_agg (vc_cons vc_v (vc_cons vc_v vc_nil))) vw_nil)) rfl rfl) ?_
  refine ol_wr rfl rfl (q_store (es' := [[iC .i64 n6, iC .u64 n7]]) 0 rfl rfl rfl sz62 rfl rfl rfl rfl rfl) rfl ?_
  refine ol_end ?_
  refine E_seq ?_
  refine L_ret ?_
  obtain rfl := Option.some.inj h
  exact E_endF (.inr rfl) (res_cell (d := .agg [iC .i64 n6, iC .u64 n7]) 0 rfl sz62 rfl rfl rfl rfl res_nil) (vw_cons (vd_agg (vc_cons vc_v (vc_cons vc_v vc_nil))) vw_nil) (fun h hb => own_agg) rfl rfl

noncomputable def ref01_Mul_b1 (a : Int × Int × Int × Int × Int) : Option ((Int × Int × Int × Int × Int) ⊕ ((Int × Int) ⊕ (Int × Int))) :=
  match a with
  | (n49, n50, n51, n52, n53) => (if n49 > 0 then ((modO n49 2).bind fun n55 => (if n55 = 1 then ((ref01_Add (n52, n53) (n50, n51)).bind fun (n59, n60) => ((ref01_Add (n50, n51) (n50, n51)).bind fun (n62, n63) => ((divO .u64 n49 2).bind fun n64 => some (.inl (n64, n62, n63, n59, n60))))) else ((ref01_Add (n50, n51) (n50, n51)).bind fun (n67, n68) => ((divO .u64 n49 2).bind fun n69 => some (.inl (n69, n67, n68, n52, n53)))))) else some (.inr (.inl (n52, n53))))
noncomputable def ref01_Mul_b2 (a : Int × Int × Int × Int × Int) : Option ((Int × Int × Int × Int × Int) ⊕ ((Int × Int) ⊕ (Int × Int))) :=
  match a with
  | (n116, n117, n118, n119, n120) => (if n116 > 0 then ((modO n116 2).bind fun n122 => (if n122 = 1 then ((ref01_Add (n119, n120) (n117, n118)).bind fun (n126, n127) => ((ref01_Add (n117, n118) (n117, n118)).bind fun (n129, n130) => ((divO .u64 n116 2).bind fun n131 => some (.inl (n131, n129, n130, n126, n127))))) else ((ref01_Add (n117, n118) (n117, n118)).bind fun (n134, n135) => ((divO .u64 n116 2).bind fun n136 => some (.inl (n136, n134, n135, n119, n120)))))) else some (.inr (.inl (n119, n120))))
noncomputable def ref01_Mul (n1 : Int) (n2 : Int) : Option ((Int × Int)) :=
  ((ref01_Of n1).bind fun (n5, n6) => (if n2 < 0 then ((loopO (ref01_Mul_b1) ((IntKind.u64.wrap (0 - (IntKind.u64.wrap n2))), n5, n6, 0, 0)).bind (Sum.elim (fun ⟨n71, n72⟩ => ((ref01_Minus (n71, n72)).bind fun (n74, n75) => some (n74, n75))) (fun u => some u))) else ((loopO (ref01_Mul_b2) ((IntKind.u64.wrap n2), n5, n6, 0, 0)).bind (Sum.elim (fun ⟨n138, n139⟩ => some (n138, n139)) (fun u => some u)))))
theorem ref01_Mul_r (m : Nat) {n1 : Int} {n2 : Int} {out : (Int × Int)} (h : ref01_Mul n1 n2 = some out) : RunsP E1 (m + 3) 80 [.one (iT .i64 n1), .one (iT .i64 n2)] (.fresh, [.agg (r61 out)]) := by
  refine fn_F rfl (by rw [E1_fn]; exact show fiOf Tryd.prog 80 = _ by unfold fiOf; rw [Tryd.func80]; unfold Tryd.f80; rfl) rfl ?_
  dsimp only
  unfold ref01_Mul at h
  refine L_seq ?_
  refine L_ops ?_
  refine ol_new rfl rfl rfl (q_alloc ty62 (row := [iC .i64 0, iC .u64 0]) rfl rfl) (fun k3 => ?_)
  refine ol_end ?_
  refine E_seq ?_
  refine L_seq ?_
  refine L_ops ?_
  refine ol_put rfl rfl rfl (q_move (v := .one (iC .i64 n1)) rfl) ?_
  obtain ⟨⟨n5, n6⟩, h4, h⟩ := bindS h
  refine ol_put rfl rfl rfl (q_callF (v := .agg [iC .i64 n5, iC .u64 n6]) (args := [.one (iC .i64 n1)]) (ref01_Of_r (m + 1) h4) rfl rfl (vw_cons (vd_one vc_v) vw_nil) rfl rfl) ?_
  refine ol_new rfl rfl rfl (q_alloc ty62 (row := [iC .i64 0, iC .u64 0]) rfl rfl) (fun k7 => ?_)
  refine ol_wr rfl rfl (q_store (es' := [[iC .i64 n5, iC .u64 n6]]) 0 rfl rfl rfl sz62 rfl rfl rfl rfl rfl) rfl ?_
  refine ol_end ?_
  refine E_seq ?_
  refine L_seq ?_
  refine L_ops ?_
  refine ol_put rfl rfl rfl (q_move (v := .one (iC .i64 n2)) rfl) ?_
  by_cases c8 : n2 < 0
  · replace h := ifT c8 h
    refine ol_put rfl rfl rfl (q_bin rfl rfl (p_lss_t _ _ _ _ _ c8) rfl) ?_
    refine ol_put rfl rfl rfl (q_assign (v := .one (bC true)) rfl) ?_
    refine ol_end ?_
    refine E_seq ?_
    refine L_seq ?_
    refine L_ops ?_
    refine ol_put rfl rfl rfl (q_move (v := .one (iC .i64 n2)) rfl) ?_
    refine ol_put rfl rfl rfl (q_conv rfl (cv2_60_i64 _) rfl) ?_
    refine ol_put rfl rfl rfl (q_assign (v := .one (iC .u64 (IntKind.u64.wrap n2))) rfl) ?_
    refine ol_end ?_
    refine E_seq ?_
    refine L_seq ?_
    refine L_seq ?_
    refine L_ops ?_
    refine ol_put rfl rfl rfl (q_move (v := .one (bC true)) rfl) ?_
    refine ol_end ?_
    refine E_seq ?_
    refine L_condT rfl ?_
    refine L_ops ?_
    refine ol_put rfl rfl rfl (q_move (v := .one (iC .u64 (IntKind.u64.wrap n2))) rfl) ?_
    refine ol_put rfl rfl rfl (q_neg rfl) ?_
    refine ol_put rfl rfl rfl (q_assign (v := .one (iC .u64 (IntKind.u64.wrap (0 - (IntKind.u64.wrap n2))))) rfl) ?_
    refine ol_end ?_
    refine E_seq ?_
    refine L_seq ?_
    refine L_ops ?_
    refine ol_new rfl rfl rfl (q_alloc ty62 (row := [iC .i64 0, iC .u64 0]) rfl rfl) (fun k9 => ?_)
    refine ol_end ?_
    refine E_seq ?_
    refine L_seq ?_
    refine L_block ?_
    let S1 : (Int × Int × Int × Int × Int) → Unit → (Nat → D) → Nat → D := fun a kt g => ups g [(4, .one (.ptr k3 0 0)), (5, .one (.ptr k7 0 0)), (6, .one (bC true)), (7, .one (iC .u64 a.1)), (8, .one (.ptr k9 0 0))]
    let SL1 : (Int × Int × Int × Int × Int) → Unit → BL := fun a kt => ([[(k3, 2, [[iC .i64 0, iC .u64 0]])], [(k7, 2, [[iC .i64 a.2.1, iC .u64 a.2.2.1]])], [(k9, 2, [[iC .i64 a.2.2.2.1, iC .u64 a.2.2.2.2]])]] : BL)
    let G1 : (Int × Int) → Ex → St → Prop := fun u => endQ E1 [.cell 4 62] (.fresh, [.agg (r61 u)])
    let Sx1 : (Int × Int) → Unit → (Nat → D) → Nat → D := fun a kt g => ups g [(4, .one (.ptr k3 0 0)), (6, .one (bC true)), (8, .one (.ptr k9 0 0))]
    let SLx1 : (Int × Int) → Unit → BL := fun a kt => ([[(k3, 2, [[iC .i64 0, iC .u64 0]])], [(k9, 2, [[iC .i64 a.1, iC .u64 a.2]])]] : BL)
    let J1 : ((Int × Int) ⊕ (Int × Int)) → Ex → St → Prop := JX 35 0 Sx1 SLx1 G1
    refine L_loopS (ref01_Mul_b1) S1 SL1 J1 JX_n ((IntKind.u64.wrap (0 - (IntKind.u64.wrap n2))), n5, n6, 0, 0) h () (ups_self ⟨rfl, rfl, rfl, rfl, rfl, trivial⟩) [2, 1, 0] (by decide) rfl ?_ ?_
    · rintro ⟨n49, n50, n51, n52, n53⟩ _ g out h
      change ref01_Mul_b1 (n49, n50, n51, n52, n53) = some out at h
      unfold ref01_Mul_b1 at h
      refine L_seq ?_
      refine L_seq ?_
      refine L_ops ?_
      refine ol_put rfl rfl rfl (q_move (v := .one (iC .u64 n49)) rfl) ?_
      by_cases c54 : n49 > 0
      · replace h := ifT c54 h
        refine ol_put rfl rfl rfl (q_bin rfl rfl (p_gtr_t _ _ _ _ _ c54) rfl) ?_
        refine ol_end ?_
        refine E_seq ?_
        refine L_condT rfl ?_
        refine L_skip ?_
        refine E_seq ?_
        refine L_block ?_
        refine L_seq ?_
        refine L_seq ?_
        refine L_ops ?_
        refine ol_put rfl rfl rfl (q_move (v := .one (iC .u64 n49)) rfl) ?_
        obtain ⟨n55, h56, h⟩ := bindS h
        refine ol_put rfl rfl rfl (q_bin rfl rfl (modO_p h56) rfl) ?_
        by_cases c57 : n55 = 1
        · replace h := ifT c57 h
          refine ol_put rfl rfl rfl (q_bin rfl rfl (p_eql_t _ _ _ _ _ c57) rfl) ?_
          refine ol_end ?_
          refine E_seq ?_
          refine L_condT rfl ?_
          refine L_ops ?_
          refine ol_put rfl rfl rfl (q_loadP (v := .agg [iC .i64 n52, iC .u64 n53]) 2 rfl sz62 rfl rfl rfl rfl) ?_
          refine ol_put rfl rfl rfl (q_loadP (v := .agg [iC .i64 n50, iC .u64 n51]) 1 rfl sz62 rfl rfl rfl rfl) ?_
          obtain ⟨⟨n59, n60⟩, h58, h⟩ := bindS h
          refine ol_put rfl rfl rfl (q_callF (v := .agg [iC .i64 n59, iC .u64 n60]) (args := [.agg [iC .i64 n52, iC .u64 n53], .agg [iC .i64 n50, iC .u64 n51]]) (ref01_Add_r (m + 1) h58) rfl rfl (vw_cons (vd_agg (vc_cons vc_v (vc_cons vc_v vc_nil))) (vw_cons (vd_agg (vc_cons vc_v (vc_cons vc_v vc_nil))) vw_nil)) rfl rfl) ?_
          refine ol_wr rfl rfl (q_store (es' := [[iC .i64 n59, iC .u64 n60]]) 2 rfl rfl rfl sz62 rfl rfl rfl rfl rfl) rfl ?_
          refine ol_end ?_
          refine E_seq ?_
          refine L_seq ?_
          refine L_ops ?_
          refine ol_put rfl rfl rfl (q_loadP (v := .agg [iC .i64 n50, iC .u64 n51]) 1 rfl sz62 rfl rfl rfl rfl) ?_
          refine ol_put rfl rfl rfl (q_loadP (v := .agg [iC .i64 n50, iC .u64 n51]) 1 rfl sz62 rfl rfl rfl rfl) ?_
          obtain ⟨⟨n62, n63⟩, h61, h⟩ := bindS h
          refine ol_put rfl rfl rfl (q_callF (v := .agg [iC .i64 n62, iC .u64 n63]) (args := [.agg [iC .i64 n50, iC .u64 n51], .agg [iC .i64 n50, iC .u64 n51]]) (ref01_Add_r (m + 1) h61) rfl rfl (vw_cons (vd_agg (vc_cons vc_v (vc_cons vc_v vc_nil))) (vw_cons (vd_agg (vc_cons vc_v (vc_cons vc_v vc_nil))) vw_nil)) rfl rfl) ?_
          refine ol_wr rfl rfl (q_store (es' := [[iC .i64 n62, iC .u64 n63]]) 1 rfl rfl rfl sz62 rfl rfl rfl rfl rfl) rfl ?_
          refine ol_end ?_
          refine E_seq ?_
          refine L_ops ?_
          refine ol_put rfl rfl rfl (q_move (v := .one (iC .u64 n49)) rfl) ?_
          obtain ⟨n64, h65, h⟩ := bindS h
          refine ol_put rfl rfl rfl (q_bin rfl rfl (divO_p h65) rfl) ?_
          refine ol_put rfl rfl rfl (q_assign (v := .one (iC .u64 n64)) rfl) ?_
          refine ol_end ?_
          refine E_blkN ?_
          obtain rfl := Option.some.inj h
          exact E_next () (ups_self ⟨rfl, rfl, rfl, rfl, rfl, trivial⟩) [0, 1, 2] (by decide) rfl
        · replace h := ifF c57 h
          refine ol_put rfl rfl rfl (q_bin rfl rfl (p_eql_f _ _ _ _ _ c57) rfl) ?_
          refine ol_end ?_
          refine E_seq ?_
          refine L_condF rfl ?_
          refine L_skip ?_
          refine E_seq ?_
          refine L_seq ?_
          refine L_ops ?_
          refine ol_put rfl rfl rfl (q_loadP (v := .agg [iC .i64 n50, iC .u64 n51]) 1 rfl sz62 rfl rfl rfl rfl) ?_
          refine ol_put rfl rfl rfl (q_loadP (v := .agg [iC .i64 n50, iC .u64 n51]) 1 rfl sz62 rfl rfl rfl rfl) ?_
          obtain ⟨⟨n67, n68⟩, h66, h⟩ := bindS h
          refine ol_put rfl rfl rfl (q_callF (v := .agg [iC .i64 n67, iC .u64 n68]) (args := [.agg [iC .i64 n50, iC .u64 n51], .agg [iC .i64 n50, iC .u64 n51]]) (ref01_Add_r (m + 1) h66) rfl rfl (vw_cons (vd_agg (vc_cons vc_v (vc_cons vc_v vc_nil))) (vw_cons (vd_agg (vc_cons vc_v (vc_cons vc_v vc_nil))) vw_nil)) rfl rfl) ?_
          refine ol_wr rfl rfl (q_store (es' := [[iC .i64 n67, iC .u64 n68]]) 1 rfl rfl rfl sz62 rfl rfl rfl rfl rfl) rfl ?_
          refine ol_end ?_
          refine E_seq ?_
          refine L_ops ?_
          refine ol_put rfl rfl rfl (q_move (v := .one (iC .u64 n49)) rfl) ?_
          obtain ⟨n69, h70, h⟩ := bindS h
          refine ol_put rfl rfl rfl (q_bin rfl rfl (divO_p h70) rfl) ?_
          refine ol_put rfl rfl rfl (q_assign (v := .one (iC .u64 n69)) rfl) ?_
          refine ol_end ?_
          refine E_blkN ?_
          obtain rfl := Option.some.inj h
          exact E_next () (ups_self ⟨rfl, rfl, rfl, rfl, rfl, trivial⟩) [0, 1, 2] (by decide) rfl
      · replace h := ifF c54 h
        refine ol_put rfl rfl rfl (q_bin rfl rfl (p_gtr_f _ _ _ _ _ c54) rfl) ?_
        refine ol_end ?_
        refine E_seq ?_
        refine L_condF rfl ?_
        refine L_exit ?_
        refine E_seqX ?_
        obtain rfl := Option.some.inj h
        refine E_out ?_
        exact (E_exit () (ups_self ⟨rfl, rfl, rfl, trivial⟩) [0, 2] (by decide) rfl)
    · rintro (⟨n71, n72⟩ | u) h
      · refine J_x (fun kt g => ?_)
        replace h := elimL h
        refine E_blkH ?_
        refine E_seq ?_
        refine L_seq ?_
        refine L_seq ?_
        refine L_ops ?_
        refine ol_put rfl rfl rfl (q_move (v := .one (bC true)) rfl) ?_
        refine ol_end ?_
        refine E_seq ?_
        refine L_condT rfl ?_
        refine L_seq ?_
        refine L_ops ?_
        refine ol_put rfl rfl rfl (q_loadP (v := .agg [iC .i64 n71, iC .u64 n72]) 1 rfl sz62 rfl rfl rfl rfl) ?_
        obtain ⟨⟨n74, n75⟩, h73, h⟩ := bindS h
        refine ol_put rfl rfl rfl (q_callF (v := .agg [iC .i64 n74, iC .u64 n75]) (args := [.agg [iC .i64 n71, iC .u64 n72]]) (ref01_Minus_r (m + 0) h73) rfl rfl (vw_cons (vd_agg (vc_cons vc_v (vc_cons vc_v vc_nil))) vw_nil) rfl rfl) ?_
        refine ol_wr rfl rfl (q_store (es' := [[iC .i64 n74, iC .u64 n75]]) 0 rfl rfl rfl sz62 rfl rfl rfl rfl rfl) rfl ?_
        refine ol_end ?_
        refine E_seq ?_
        refine L_ret ?_
        refine E_seqR ?_
        obtain rfl := Option.some.inj h
        exact E_endF (.inr rfl) (res_cell (d := .agg [iC .i64 n74, iC .u64 n75]) 0 rfl sz62 rfl rfl rfl rfl res_nil) (vw_cons (vd_agg (vc_cons vc_v (vc_cons vc_v vc_nil))) vw_nil) (fun h hb => own_agg) rfl rfl
      · obtain rfl := Option.some.inj (elimR h)
        exact J_up (fun s hs => hs)
  · replace h := ifF c8 h
    refine ol_put rfl rfl rfl (q_bin rfl rfl (p_lss_f _ _ _ _ _ c8) rfl) ?_
    refine ol_put rfl rfl rfl (q_assign (v := .one (bC false)) rfl) ?_
    refine ol_end ?_
    refine E_seq ?_
    refine L_seq ?_
    refine L_ops ?_
    refine ol_put rfl rfl rfl (q_move (v := .one (iC .i64 n2)) rfl) ?_
    refine ol_put rfl rfl rfl (q_conv rfl (cv2_60_i64 _) rfl) ?_
    refine ol_put rfl rfl rfl (q_assign (v := .one (iC .u64 (IntKind.u64.wrap n2))) rfl) ?_
    refine ol_end ?_
    refine E_seq ?_
    refine L_seq ?_
    refine L_seq ?_
    refine L_ops ?_
    refine ol_put rfl rfl rfl (q_move (v := .one (bC false)) rfl) ?_
    refine ol_end ?_
    refine E_seq ?_
    refine L_condF rfl ?_
    refine L_skip ?_
    refine E_seq ?_
    refine L_seq ?_
    refine L_ops ?_
    refine ol_new rfl rfl rfl (q_alloc ty62 (row := [iC .i64 0, iC .u64 0]) rfl rfl) (fun k76 => ?_)
    refine ol_end ?_
    refine E_seq ?_
    refine L_seq ?_
    refine L_block ?_
    let S2 : (Int × Int × Int × Int × Int) → Unit → (Nat → D) → Nat → D := fun a kt g => ups g [(4, .one (.ptr k3 0 0)), (5, .one (.ptr k7 0 0)), (6, .one (bC false)), (7, .one (iC .u64 a.1)), (8, .one (.ptr k76 0 0))]
    let SL2 : (Int × Int × Int × Int × Int) → Unit → BL := fun a kt => ([[(k3, 2, [[iC .i64 0, iC .u64 0]])], [(k7, 2, [[iC .i64 a.2.1, iC .u64 a.2.2.1]])], [(k76, 2, [[iC .i64 a.2.2.2.1, iC .u64 a.2.2.2.2]])]] : BL)
    let G2 : (Int × Int) → Ex → St → Prop := fun u => endQ E1 [.cell 4 62] (.fresh, [.agg (r61 u)])
    let Sx2 : (Int × Int) → Unit → (Nat → D) → Nat → D := fun a kt g => ups g [(4, .one (.ptr k3 0 0)), (6, .one (bC false)), (8, .one (.ptr k76 0 0))]
    let SLx2 : (Int × Int) → Unit → BL := fun a kt => ([[(k3, 2, [[iC .i64 0, iC .u64 0]])], [(k76, 2, [[iC .i64 a.1, iC .u64 a.2]])]] : BL)
    let J2 : ((Int × Int) ⊕ (Int × Int)) → Ex → St → Prop := JX 35 0 Sx2 SLx2 G2
    refine L_loopS (ref01_Mul_b2) S2 SL2 J2 JX_n ((IntKind.u64.wrap n2), n5, n6, 0, 0) h () (ups_self ⟨rfl, rfl, rfl, rfl, rfl, trivial⟩) [2, 1, 0] (by decide) rfl ?_ ?_
    · rintro ⟨n116, n117, n118, n119, n120⟩ _ g out h
      change ref01_Mul_b2 (n116, n117, n118, n119, n120) = some out at h
      unfold ref01_Mul_b2 at h
      refine L_seq ?_
      refine L_seq ?_
      refine L_ops ?_
      refine ol_put rfl rfl rfl (q_move (v := .one (iC .u64 n116)) rfl) ?_
      by_cases c121 : n116 > 0
      · replace h := ifT c121 h
        refine ol_put rfl rfl rfl (q_bin rfl rfl (p_gtr_t _ _ _ _ _ c121) rfl) ?_
        refine ol_end ?_
        refine E_seq ?_
        refine L_condT rfl ?_
        refine L_skip ?_
        refine E_seq ?_
        refine L_block ?_
        refine L_seq ?_
        refine L_seq ?_
        refine L_ops ?_
        refine ol_put rfl rfl rfl (q_move (v := .one (iC .u64 n116)) rfl) ?_
        obtain ⟨n122, h123, h⟩ := bindS h
        refine ol_put rfl rfl rfl (q_bin rfl rfl (modO_p h123) rfl) ?_
        by_cases c124 : n122 = 1
        · replace h := ifT c124 h
          refine ol_put rfl rfl rfl (q_bin rfl rfl (p_eql_t _ _ _ _ _ c124) rfl) ?_
          refine ol_end ?_
          refine E_seq ?_
          refine L_condT rfl ?_
          refine L_ops ?_
          refine ol_put rfl rfl rfl (q_loadP (v := .agg [iC .i64 n119, iC .u64 n120]) 2 rfl sz62 rfl rfl rfl rfl) ?_
          refine ol_put rfl rfl rfl (q_loadP (v := .agg [iC .i64 n117, iC .u64 n118]) 1 rfl sz62 rfl rfl rfl rfl) ?_
          obtain ⟨⟨n126, n127⟩, h125, h⟩ := bindS h
          refine ol_put rfl rfl rfl (q_callF (v := .agg [iC .i64 n126, iC .u64 n127]) (args := [.agg [iC .i64 n119, iC .u64 n120], .agg [iC .i64 n117, iC .u64 n118]]) (ref01_Add_r (m + 1) h125) rfl rfl (vw_cons (vd_agg (vc_cons vc_v (vc_cons vc_v vc_nil))) (vw_cons (vd_agg (vc_cons vc_v (vc_cons vc_v vc_nil))) vw_nil)) rfl rfl) ?_
          refine ol_wr rfl rfl (q_store (es' := [[iC .i64 n126, iC .u64 n127]]) 2 rfl rfl rfl sz62 rfl rfl rfl rfl rfl) rfl ?_
          refine ol_end ?_
          refine E_seq ?_
          refine L_seq ?_
          refine L_ops ?_
          refine ol_put rfl rfl rfl (q_loadP (v := .agg [iC .i64 n117, iC .u64 n118]) 1 rfl sz62 rfl rfl rfl rfl) ?_
          refine ol_put rfl rfl rfl (q_loadP (v := .agg [iC .i64 n117, iC .u64 n118]) 1 rfl sz62 rfl rfl rfl rfl) ?_
          obtain ⟨⟨n129, n130⟩, h128, h⟩ := bindS h
          refine ol_put rfl rfl rfl (q_callF (v := .agg [iC .i64 n129, iC .u64 n130]) (args := [.agg [iC .i64 n117, iC .u64 n118], .agg [iC .i64 n117, iC .u64 n118]]) (ref01_Add_r (m + 1) h128) rfl rfl (vw_cons (vd_agg (vc_cons vc_v (vc_cons vc_v vc_nil))) (vw_cons (vd_agg (vc_cons vc_v (vc_cons vc_v vc_nil))) vw_nil)) rfl rfl) ?_
          refine ol_wr rfl rfl (q_store (es' := [[iC .i64 n129, iC .u64 n130]]) 1 rfl rfl rfl sz62 rfl rfl rfl rfl rfl) rfl ?_
          refine ol_end ?_
          refine E_seq ?_
          refine L_ops ?_
          refine ol_put rfl rfl rfl (q_move (v := .one (iC .u64 n116)) rfl) ?_
          obtain ⟨n131, h132, h⟩ := bindS h
          refine ol_put rfl rfl rfl (q_bin rfl rfl (divO_p h132) rfl) ?_
          refine ol_put rfl rfl rfl (q_assign (v := .one (iC .u64 n131)) rfl) ?_
          refine ol_end ?_
          refine E_blkN ?_
          obtain rfl := Option.some.inj h
          exact E_next () (ups_self ⟨rfl, rfl, rfl, rfl, rfl, trivial⟩) [0, 1, 2] (by decide) rfl
        · replace h := ifF c124 h
          refine ol_put rfl rfl rfl (q_bin rfl rfl (p_eql_f _ _ _ _ _ c124) rfl) ?_
          refine ol_end ?_
          refine E_seq ?_
          refine L_condF rfl ?_
          refine L_skip ?_
          refine E_seq ?_
          refine L_seq ?_
          refine L_ops ?_
          refine ol_put rfl rfl rfl (q_loadP (v := .agg [iC .i64 n117, iC .u64 n118]) 1 rfl sz62 rfl rfl rfl rfl) ?_
          refine ol_put rfl rfl rfl (q_loadP (v := .agg [iC .i64 n117, iC .u64 n118]) 1 rfl sz62 rfl rfl rfl rfl) ?_
          obtain ⟨⟨n134, n135⟩, h133, h⟩ := bindS h
          refine ol_put rfl rfl rfl (q_callF (v := .agg [iC .i64 n134, iC .u64 n135]) (args := [.agg [iC .i64 n117, iC .u64 n118], .agg [iC .i64 n117, iC .u64 n118]]) (ref01_Add_r (m + 1) h133) rfl rfl (vw_cons (vd_agg (vc_cons vc_v (vc_cons vc_v vc_nil))) (vw_cons (vd_agg (vc_cons vc_v (vc_cons vc_v vc_nil))) vw_nil)) rfl rfl) ?_
          refine ol_wr rfl rfl (q_store (es' := [[iC .i64 n134, iC .u64 n135]]) 1 rfl rfl rfl sz62 rfl rfl rfl rfl rfl) rfl ?_
          refine ol_end ?_
          refine E_seq ?_
          refine L_ops ?_
          refine ol_put rfl rfl rfl (q_move (v := .one (iC .u64 n116)) rfl) ?_
          obtain ⟨n136, h137, h⟩ := bindS h
          refine ol_put rfl rfl rfl (q_bin rfl rfl (divO_p h137) rfl) ?_
          refine ol_put rfl rfl rfl (q_assign (v := .one (iC .u64 n136)) rfl) ?_
          refine ol_end ?_
          refine E_blkN ?_
          obtain rfl := Option.some.inj h
          exact E_next () (ups_self ⟨rfl, rfl, rfl, rfl, rfl, trivial⟩) [0, 1, 2] (by decide) rfl
      · replace h := ifF c121 h
        refine ol_put rfl rfl rfl (q_bin rfl rfl (p_gtr_f _ _ _ _ _ c121) rfl) ?_
        refine ol_end ?_
        refine E_seq ?_
        refine L_condF rfl ?_
        refine L_exit ?_
        refine E_seqX ?_
        obtain rfl := Option.some.inj h
        refine E_out ?_
        exact (E_exit () (ups_self ⟨rfl, rfl, rfl, trivial⟩) [0, 2] (by decide) rfl)
    · rintro (⟨n138, n139⟩ | u) h
      · refine J_x (fun kt g => ?_)
        replace h := elimL h
        refine E_blkH ?_
        refine E_seq ?_
        refine L_seq ?_
        refine L_seq ?_
        refine L_ops ?_
        refine ol_put rfl rfl rfl (q_move (v := .one (bC false)) rfl) ?_
        refine ol_end ?_
        refine E_seq ?_
        refine L_condF rfl ?_
        refine L_skip ?_
        refine E_seq ?_
        refine L_seq ?_
        refine L_ops ?_
        refine ol_put rfl rfl rfl (q_loadP (v := .agg [iC .i64 n138, iC .u64 n139]) 1 rfl sz62 rfl rfl rfl rfl) ?_
        refine ol_wr rfl rfl (q_store (es' := [[iC .i64 n138, iC .u64 n139]]) 0 rfl rfl rfl sz62 rfl rfl rfl rfl rfl) rfl ?_
        refine ol_end ?_
        refine E_seq ?_
        refine L_ret ?_
        obtain rfl := Option.some.inj h
        exact E_endF (.inr rfl) (res_cell (d := .agg [iC .i64 n138, iC .u64 n139]) 0 rfl sz62 rfl rfl rfl rfl res_nil) (vw_cons (vd_agg (vc_cons vc_v (vc_cons vc_v vc_nil))) vw_nil) (fun h hb => own_agg) rfl rfl
      · obtain rfl := Option.some.inj (elimR h)
        exact J_up (fun s hs => hs)

noncomputable def ref02_Mul (n1 : Int) (n2 : Int) (n3 : Int) : Option ((Int × Int)) :=
  (if n2 ≥ 4611686018427387904 then (if n1 = 1 then ((ref01_Of n2).bind fun (n8, n9) => ((ref01_Of n3).bind fun (n11, n12) => ((ref01_Add (n8, n9) (n11, n12)).bind fun (n14, n15) => ((ref01_Of 4611686018427387904).bind fun (n18, n19) => some (n18, n19))))) else (if n1 = 3 then ((ref01_Of 4611686018427387904).bind fun (n22, n23) => some (n22, n23)) else (if n1 = 4 then ((ref01_Of 4611686018427387904).bind fun (n26, n27) => some (n26, n27)) else (if n1 = 2 then (if n2 ≠ 0 then (if n3 ≠ 0 then ((ref02_truth true).bind fun (n32, n33) => some (n32, n33)) else ((ref02_truth false).bind fun (n35, n36) => some (n35, n36))) else ((ref02_truth false).bind fun (n38, n39) => some (n38, n39))) else (if n1 = 5 then ((ref01_Mul n2 n3).bind fun (n42, n43) => some (n42, n43)) else some (0, 0)))))) else (if n3 ≥ 4611686018427387904 then (if n1 = 1 then ((ref01_Of n2).bind fun (n47, n48) => ((ref01_Of n3).bind fun (n50, n51) => ((ref01_Add (n47, n48) (n50, n51)).bind fun (n53, n54) => ((ref01_Of 4611686018427387904).bind fun (n57, n58) => some (n57, n58))))) else (if n1 = 3 then ((ref01_Of 4611686018427387904).bind fun (n61, n62) => some (n61, n62)) else (if n1 = 4 then ((ref01_Of 4611686018427387904).bind fun (n65, n66) => some (n65, n66)) else (if n1 = 2 then (if n2 ≠ 0 then (if n3 ≠ 0 then ((ref02_truth true).bind fun (n71, n72) => some (n71, n72)) else ((ref02_truth false).bind fun (n74, n75) => some (n74, n75))) else ((ref02_truth false).bind fun (n77, n78) => some (n77, n78))) else (if n1 = 5 then ((ref01_Mul n2 n3).bind fun (n81, n82) => some (n81, n82)) else some (0, 0)))))) else (if n1 = 1 then ((ref01_Of n2).bind fun (n85, n86) => ((ref01_Of n3).bind fun (n88, n89) => ((ref01_Add (n85, n86) (n88, n89)).bind fun (n91, n92) => ((ref01_Of 4611686018427387904).bind fun (n95, n96) => ((ref01_Compare (n91, n92) (n95, n96)).bind fun n98 => (if n98 > 0 then some (n95, n96) else some (n91, n92))))))) else (if n1 = 3 then ((ref01_Of n2).bind fun (n102, n103) => some (n102, n103)) else (if n1 = 4 then ((ref01_Of n3).bind fun (n106, n107) => some (n106, n107)) else (if n1 = 2 then (if n2 ≠ 0 then (if n3 ≠ 0 then ((ref02_truth true).bind fun (n112, n113) => some (n112, n113)) else ((ref02_truth false).bind fun (n115, n116) => some (n115, n116))) else ((ref02_truth false).bind fun (n118, n119) => some (n118, n119))) else (if n1 = 5 then ((ref01_Mul n2 n3).bind fun (n122, n123) => some (n122, n123)) else some (0, 0))))))))
theorem ref02_Mul_r (m : Nat) {n1 : Int} {n2 : Int} {n3 : Int} {out : (Int × Int)} (h : ref02_Mul n1 n2 n3 = some out) : RunsP E1 (m + 4) 46 [.one (iT .i64 n1), .one (iT .i64 n2), .one (iT .i64 n3)] (.fresh, [.agg (r61 out)]) := by
  refine fn_F rfl (by rw [E1_fn]; exact show fiOf Tryd.prog 46 = _ by unfold fiOf; rw [Tryd.func46]; unfold Tryd.f46; rfl) rfl ?_
  dsimp only
  unfold ref02_Mul at h
  refine L_seq ?_
  refine L_ops ?_
  refine ol_new rfl rfl rfl (q_alloc ty62 (row := [iC .i64 0, iC .u64 0]) rfl rfl) (fun k4 => ?_)
  refine ol_end ?_
  refine E_seq ?_
  refine L_seq ?_
  refine L_ops ?_
  refine ol_put rfl rfl rfl (q_move (v := .one (iC .i64 n2)) rfl) ?_
  by_cases c5 : n2 ≥ 4611686018427387904
  · replace h := ifT c5 h
    refine ol_put rfl rfl rfl (q_bin rfl rfl (p_geq_t _ _ _ _ _ c5) rfl) ?_
    refine ol_put rfl rfl rfl (q_move (v := .one (bC true)) rfl) ?_
    refine ol_skip rfl rfl rfl ?_
    refine ol_skip rfl rfl rfl ?_
    refine ol_put rfl rfl rfl (q_pickT (v := .one (bC true)) rfl rfl) ?_
    refine ol_put rfl rfl rfl (q_assign (v := .one (bC true)) rfl) ?_
    refine ol_end ?_
    refine E_seq ?_
    refine L_seq ?_
    refine L_ops ?_
    refine ol_put rfl rfl rfl (q_move (v := .one (iC .i64 n1)) rfl) ?_
    refine ol_end ?_
    refine E_seq ?_
    refine L_block ?_
    refine L_seq ?_
    refine L_ops ?_
    by_cases c6 : n1 = 1
    · replace h := ifT c6 h
      refine ol_put rfl rfl rfl (q_bin rfl rfl (p_eql_t _ _ _ _ _ c6) rfl) ?_
      refine ol_put rfl rfl rfl (q_assign (v := .one (bC true)) rfl) ?_
      refine ol_end ?_
      refine E_seq ?_
      refine L_condT rfl ?_
      refine L_seq ?_
      refine L_ops ?_
      refine ol_put rfl rfl rfl (q_move (v := .one (iC .i64 n2)) rfl) ?_
      obtain ⟨⟨n8, n9⟩, h7, h⟩ := bindS h
      refine ol_put rfl rfl rfl (q_callF (v := .agg [iC .i64 n8, iC .u64 n9]) (args := [.one (iC .i64 n2)]) (ref01_Of_r (m + 2) h7) rfl rfl (vw_cons (vd_one vc_v) vw_nil) rfl rfl) ?_
      refine ol_put rfl rfl rfl (q_move (v := .one (iC .i64 n3)) rfl) ?_
      obtain ⟨⟨n11, n12⟩, h10, h⟩ := bindS h
      refine ol_put rfl rfl rfl (q_callF (v := .agg [iC .i64 n11, iC .u64 n12]) (args := [.one (iC .i64 n3)]) (ref01_Of_r (m + 2) h10) rfl rfl (vw_cons (vd_one vc_v) vw_nil) rfl rfl) ?_
      obtain ⟨⟨n14, n15⟩, h13, h⟩ := bindS h
      refine ol_put rfl rfl rfl (q_callF (v := .agg [iC .i64 n14, iC .u64 n15]) (args := [.agg [iC .i64 n8, iC .u64 n9], .agg [iC .i64 n11, iC .u64 n12]]) (ref01_Add_r (m + 2) h13) rfl rfl (vw_cons (vd_agg (vc_cons vc_v (vc_cons vc_v vc_nil))) (vw_cons (vd_agg (vc_cons vc_v (vc_cons vc_v vc_nil))) vw_nil)) rfl rfl) ?_
      refine ol_new rfl rfl rfl (q_alloc ty62 (row := [iC .i64 0, iC .u64 0]) rfl rfl) (fun k16 => ?_)
      refine ol_wr rfl rfl (q_store (es' := [[iC .i64 n14, iC .u64 n15]]) 0 rfl rfl rfl sz62 rfl rfl rfl rfl rfl) rfl ?_
      refine ol_end ?_
      refine E_seq ?_
      refine L_seq ?_
      refine L_seq ?_
      refine L_still (by kernel_rfl) ?_
      refine st_put rfl rfl rfl (q_move (v := .one (bC true)) rfl) ?_
      refine st_put rfl rfl rfl (q_move (v := .one (bC true)) rfl) ?_
      refine st_skip rfl rfl rfl ?_
      refine st_skip rfl rfl rfl ?_
      refine st_skip rfl rfl rfl ?_
      refine st_skip rfl rfl rfl ?_
      refine st_put rfl rfl rfl (q_pickT (v := .one (bC true)) rfl rfl) ?_
      refine st_end ?_
      refine E_seq ?_
      refine L_condT rfl ?_
      refine L_seq ?_
      refine L_ops ?_
      obtain ⟨⟨n18, n19⟩, h17, h⟩ := bindS h
      refine ol_put rfl rfl rfl (q_callF (v := .agg [iC .i64 n18, iC .u64 n19]) (args := [.one (iC .i64 4611686018427387904)]) (ref01_Of_r (m + 2) h17) rfl rfl (vw_cons (vd_one vc_v) vw_nil) rfl rfl) ?_
      refine ol_wr rfl rfl (q_store (es' := [[iC .i64 n18, iC .u64 n19]]) 1 rfl rfl rfl sz62 rfl rfl rfl rfl rfl) rfl ?_
      refine ol_end ?_
      refine E_seq ?_
      refine L_ret ?_
      refine E_seqR ?_
      refine E_blkR ?_
      obtain rfl := Option.some.inj h
      exact E_endF (.inr rfl) (res_cell (d := .agg [iC .i64 n18, iC .u64 n19]) 1 rfl sz62 rfl rfl rfl rfl res_nil) (vw_cons (vd_agg (vc_cons vc_v (vc_cons vc_v vc_nil))) vw_nil) (fun h hb => own_agg) rfl rfl
    · replace h := ifF c6 h
      refine ol_put rfl rfl rfl (q_bin rfl rfl (p_eql_f _ _ _ _ _ c6) rfl) ?_
      refine ol_put rfl rfl rfl (q_assign (v := .one (bC false)) rfl) ?_
      refine ol_end ?_
      refine E_seq ?_
      refine L_condF rfl ?_
      refine L_seq ?_
      refine L_ops ?_
      by_cases c20 : n1 = 3
      · replace h := ifT c20 h
        refine ol_put rfl rfl rfl (q_bin rfl rfl (p_eql_t _ _ _ _ _ c20) rfl) ?_
        refine ol_put rfl rfl rfl (q_assign (v := .one (bC true)) rfl) ?_
        refine ol_end ?_
        refine E_seq ?_
        refine L_condT rfl ?_
        refine L_seq ?_
        refine L_seq ?_
        refine L_ops ?_
        refine ol_put rfl rfl rfl (q_move (v := .one (bC true)) rfl) ?_
        refine ol_end ?_
        refine E_seq ?_
        refine L_condT rfl ?_
        refine L_seq ?_
        refine L_ops ?_
        obtain ⟨⟨n22, n23⟩, h21, h⟩ := bindS h
        refine ol_put rfl rfl rfl (q_callF (v := .agg [iC .i64 n22, iC .u64 n23]) (args := [.one (iC .i64 4611686018427387904)]) (ref01_Of_r (m + 2) h21) rfl rfl (vw_cons (vd_one vc_v) vw_nil) rfl rfl) ?_
        refine ol_wr rfl rfl (q_store (es' := [[iC .i64 n22, iC .u64 n23]]) 0 rfl rfl rfl sz62 rfl rfl rfl rfl rfl) rfl ?_
        refine ol_end ?_
        refine E_seq ?_
        refine L_ret ?_
        refine E_seqR ?_
        refine E_blkR ?_
        obtain rfl := Option.some.inj h
        exact E_endF (.inr rfl) (res_cell (d := .agg [iC .i64 n22, iC .u64 n23]) 0 rfl sz62 rfl rfl rfl rfl res_nil) (vw_cons (vd_agg (vc_cons vc_v (vc_cons vc_v vc_nil))) vw_nil) (fun h hb => own_agg) rfl rfl
      · replace h := ifF c20 h
        refine ol_put rfl rfl rfl (q_bin rfl rfl (p_eql_f _ _ _ _ _ c20) rfl) ?_
        refine ol_put rfl rfl rfl (q_assign (v := .one (bC false)) rfl) ?_
        refine ol_end ?_
        refine E_seq ?_
        refine L_condF rfl ?_
        refine L_seq ?_
        refine L_ops ?_
        by_cases c24 : n1 = 4
        · replace h := ifT c24 h
          refine ol_put rfl rfl rfl (q_bin rfl rfl (p_eql_t _ _ _ _ _ c24) rfl) ?_
          refine ol_put rfl rfl rfl (q_assign (v := .one (bC true)) rfl) ?_
          refine ol_end ?_
          refine E_seq ?_
          refine L_condT rfl ?_
          refine L_seq ?_
          refine L_seq ?_
          refine L_ops ?_
          refine ol_put rfl rfl rfl (q_move (v := .one (bC true)) rfl) ?_
          refine ol_end ?_
          refine E_seq ?_
          refine L_condT rfl ?_
          refine L_seq ?_
          refine L_ops ?_
          obtain ⟨⟨n26, n27⟩, h25, h⟩ := bindS h
          refine ol_put rfl rfl rfl (q_callF (v := .agg [iC .i64 n26, iC .u64 n27]) (args := [.one (iC .i64 4611686018427387904)]) (ref01_Of_r (m + 2) h25) rfl rfl (vw_cons (vd_one vc_v) vw_nil) rfl rfl) ?_
          refine ol_wr rfl rfl (q_store (es' := [[iC .i64 n26, iC .u64 n27]]) 0 rfl rfl rfl sz62 rfl rfl rfl rfl rfl) rfl ?_
          refine ol_end ?_
          refine E_seq ?_
          refine L_ret ?_
          refine E_seqR ?_
          refine E_blkR ?_
          obtain rfl := Option.some.inj h
          exact E_endF (.inr rfl) (res_cell (d := .agg [iC .i64 n26, iC .u64 n27]) 0 rfl sz62 rfl rfl rfl rfl res_nil) (vw_cons (vd_agg (vc_cons vc_v (vc_cons vc_v vc_nil))) vw_nil) (fun h hb => own_agg) rfl rfl
        · replace h := ifF c24 h
          refine ol_put rfl rfl rfl (q_bin rfl rfl (p_eql_f _ _ _ _ _ c24) rfl) ?_
          refine ol_put rfl rfl rfl (q_assign (v := .one (bC false)) rfl) ?_
          refine ol_end ?_
          refine E_seq ?_
          refine L_condF rfl ?_
          refine L_seq ?_
          refine L_ops ?_
          by_cases c28 : n1 = 2
          · replace h := ifT c28 h
            refine ol_put rfl rfl rfl (q_bin rfl rfl (p_eql_t _ _ _ _ _ c28) rfl) ?_
            refine ol_put rfl rfl rfl (q_assign (v := .one (bC true)) rfl) ?_
            refine ol_end ?_
            refine E_seq ?_
            refine L_condT rfl ?_
            refine L_seq ?_
            refine L_ops ?_
            refine ol_put rfl rfl rfl (q_move (v := .one (iC .i64 n2)) rfl) ?_
            by_cases c29 : n2 ≠ 0
            · replace h := ifT c29 h
              refine ol_put rfl rfl rfl (q_bin rfl rfl (p_neq_t _ _ _ _ _ c29) rfl) ?_
              refine ol_put rfl rfl rfl (q_move (v := .one (bC true)) rfl) ?_
              refine ol_put rfl rfl rfl (q_move (v := .one (iC .i64 n3)) rfl) ?_
              by_cases c30 : n3 ≠ 0
              · replace h := ifT c30 h
                refine ol_put rfl rfl rfl (q_bin rfl rfl (p_neq_t _ _ _ _ _ c30) rfl) ?_
                refine ol_put rfl rfl rfl (q_pickT (v := .one (bC true)) rfl rfl) ?_
                obtain ⟨⟨n32, n33⟩, h31, h⟩ := bindS h
                refine ol_put rfl rfl rfl (q_callF (v := .agg [iC .i64 n32, iC .u64 n33]) (args := [.one (bC true)]) (ref02_truth_r (m + 2) h31) rfl rfl (vw_cons (vd_one vc_v) vw_nil) rfl rfl) ?_
                refine ol_wr rfl rfl (q_store (es' := [[iC .i64 n32, iC .u64 n33]]) 0 rfl rfl rfl sz62 rfl rfl rfl rfl rfl) rfl ?_
                refine ol_end ?_
                refine E_seq ?_
                refine L_ret ?_
                refine E_blkR ?_
                obtain rfl := Option.some.inj h
                exact E_endF (.inr rfl) (res_cell (d := .agg [iC .i64 n32, iC .u64 n33]) 0 rfl sz62 rfl rfl rfl rfl res_nil) (vw_cons (vd_agg (vc_cons vc_v (vc_cons vc_v vc_nil))) vw_nil) (fun h hb => own_agg) rfl rfl
              · replace h := ifF c30 h
                refine ol_put rfl rfl rfl (q_bin rfl rfl (p_neq_f _ _ _ _ _ c30) rfl) ?_
                refine ol_put rfl rfl rfl (q_pickT (v := .one (bC false)) rfl rfl) ?_
                obtain ⟨⟨n35, n36⟩, h34, h⟩ := bindS h
                refine ol_put rfl rfl rfl (q_callF (v := .agg [iC .i64 n35, iC .u64 n36]) (args := [.one (bC false)]) (ref02_truth_r (m + 2) h34) rfl rfl (vw_cons (vd_one vc_v) vw_nil) rfl rfl) ?_
                refine ol_wr rfl rfl (q_store (es' := [[iC .i64 n35, iC .u64 n36]]) 0 rfl rfl rfl sz62 rfl rfl rfl rfl rfl) rfl ?_
                refine ol_end ?_
                refine E_seq ?_
                refine L_ret ?_
                refine E_blkR ?_
                obtain rfl := Option.some.inj h
                exact E_endF (.inr rfl) (res_cell (d := .agg [iC .i64 n35, iC .u64 n36]) 0 rfl sz62 rfl rfl rfl rfl res_nil) (vw_cons (vd_agg (vc_cons vc_v (vc_cons vc_v vc_nil))) vw_nil) (fun h hb => own_agg) rfl rfl
            · replace h := ifF c29 h
              refine ol_put rfl rfl rfl (q_bin rfl rfl (p_neq_f _ _ _ _ _ c29) rfl) ?_
              refine ol_put rfl rfl rfl (q_move (v := .one (bC false)) rfl) ?_
              refine ol_skip rfl rfl rfl ?_
              refine ol_skip rfl rfl rfl ?_
              refine ol_put rfl rfl rfl (q_pickF (v := .one (bC false)) rfl rfl) ?_
              obtain ⟨⟨n38, n39⟩, h37, h⟩ := bindS h
              refine ol_put rfl rfl rfl (q_callF (v := .agg [iC .i64 n38, iC .u64 n39]) (args := [.one (bC false)]) (ref02_truth_r (m + 2) h37) rfl rfl (vw_cons (vd_one vc_v) vw_nil) rfl rfl) ?_
              refine ol_wr rfl rfl (q_store (es' := [[iC .i64 n38, iC .u64 n39]]) 0 rfl rfl rfl sz62 rfl rfl rfl rfl rfl) rfl ?_
              refine ol_end ?_
              refine E_seq ?_
              refine L_ret ?_
              refine E_blkR ?_
              obtain rfl := Option.some.inj h
              exact E_endF (.inr rfl) (res_cell (d := .agg [iC .i64 n38, iC .u64 n39]) 0 rfl sz62 rfl rfl rfl rfl res_nil) (vw_cons (vd_agg (vc_cons vc_v (vc_cons vc_v vc_nil))) vw_nil) (fun h hb => own_agg) rfl rfl
          · replace h := ifF c28 h
            refine ol_put rfl rfl rfl (q_bin rfl rfl (p_eql_f _ _ _ _ _ c28) rfl) ?_
            refine ol_put rfl rfl rfl (q_assign (v := .one (bC false)) rfl) ?_
            refine ol_end ?_
            refine E_seq ?_
            refine L_condF rfl ?_
            refine L_seq ?_
            refine L_ops ?_
            by_cases c40 : n1 = 5
            · replace h := ifT c40 h
              refine ol_put rfl rfl rfl (q_bin rfl rfl (p_eql_t _ _ _ _ _ c40) rfl) ?_
              refine ol_put rfl rfl rfl (q_assign (v := .one (bC true)) rfl) ?_
              refine ol_end ?_
              refine E_seq ?_
              refine L_condT rfl ?_
              refine L_seq ?_
              refine L_ops ?_
              refine ol_put rfl rfl rfl (q_move (v := .one (iC .i64 n2)) rfl) ?_
              refine ol_put rfl rfl rfl (q_move (v := .one (iC .i64 n3)) rfl) ?_
              obtain ⟨⟨n42, n43⟩, h41, h⟩ := bindS h
              refine ol_put rfl rfl rfl (q_callF (v := .agg [iC .i64 n42, iC .u64 n43]) (args := [.one (iC .i64 n2), .one (iC .i64 n3)]) (ref01_Mul_r (m + 0) h41) rfl rfl (vw_cons (vd_one vc_v) (vw_cons (vd_one vc_v) vw_nil)) rfl rfl) ?_
              refine ol_wr rfl rfl (q_store (es' := [[iC .i64 n42, iC .u64 n43]]) 0 rfl rfl rfl sz62 rfl rfl rfl rfl rfl) rfl ?_
              refine ol_end ?_
              refine E_seq ?_
              refine L_ret ?_
              refine E_blkR ?_
              obtain rfl := Option.some.inj h
              exact E_endF (.inr rfl) (res_cell (d := .agg [iC .i64 n42, iC .u64 n43]) 0 rfl sz62 rfl rfl rfl rfl res_nil) (vw_cons (vd_agg (vc_cons vc_v (vc_cons vc_v vc_nil))) vw_nil) (fun h hb => own_agg) rfl rfl
            · replace h := ifF c40 h
              refine ol_put rfl rfl rfl (q_bin rfl rfl (p_eql_f _ _ _ _ _ c40) rfl) ?_
              refine ol_put rfl rfl rfl (q_assign (v := .one (bC false)) rfl) ?_
              refine ol_end ?_
              refine E_seq ?_
              refine L_condF rfl ?_
              refine L_seq ?_
              refine L_ops ?_
              refine ol_put rfl rfl rfl (q_build (cs := [iC .i64 0, iC .u64 0]) ty62 rfl pl62 rfl) ?_
              refine ol_wr rfl rfl (q_store (es' := [[iC .i64 0, iC .u64 0]]) 0 rfl rfl rfl sz62 rfl rfl rfl rfl rfl) rfl ?_
              refine ol_end ?_
              refine E_seq ?_
              refine L_ret ?_
              refine E_blkR ?_
              obtain rfl := Option.some.inj h
              exact E_endF (.inr rfl) (res_cell (d := .agg [iC .i64 0, iC .u64 0]) 0 rfl sz62 rfl rfl rfl rfl res_nil) (vw_cons (vd_agg (vc_cons vc_v (vc_cons vc_v vc_nil))) vw_nil) (fun h hb => own_agg) rfl rfl
  · replace h := ifF c5 h
    refine ol_put rfl rfl rfl (q_bin rfl rfl (p_geq_f _ _ _ _ _ c5) rfl) ?_
    refine ol_put rfl rfl rfl (q_move (v := .one (bC false)) rfl) ?_
    refine ol_put rfl rfl rfl (q_move (v := .one (iC .i64 n3)) rfl) ?_
    by_cases c44 : n3 ≥ 4611686018427387904
    · replace h := ifT c44 h
      refine ol_put rfl rfl rfl (q_bin rfl rfl (p_geq_t _ _ _ _ _ c44) rfl) ?_
      refine ol_put rfl rfl rfl (q_pickF (v := .one (bC true)) rfl rfl) ?_
      refine ol_put rfl rfl rfl (q_assign (v := .one (bC true)) rfl) ?_
      refine ol_end ?_
      refine E_seq ?_
      refine L_seq ?_
      refine L_ops ?_
      refine ol_put rfl rfl rfl (q_move (v := .one (iC .i64 n1)) rfl) ?_
      refine ol_end ?_
      refine E_seq ?_
      refine L_block ?_
      refine L_seq ?_
      refine L_ops ?_
      by_cases c45 : n1 = 1
      · replace h := ifT c45 h
        refine ol_put rfl rfl rfl (q_bin rfl rfl (p_eql_t _ _ _ _ _ c45) rfl) ?_
        refine ol_put rfl rfl rfl (q_assign (v := .one (bC true)) rfl) ?_
        refine ol_end ?_
        refine E_seq ?_
        refine L_condT rfl ?_
        refine L_seq ?_
        refine L_ops ?_
        refine ol_put rfl rfl rfl (q_move (v := .one (iC .i64 n2)) rfl) ?_
        obtain ⟨⟨n47, n48⟩, h46, h⟩ := bindS h
        refine ol_put rfl rfl rfl (q_callF (v := .agg [iC .i64 n47, iC .u64 n48]) (args := [.one (iC .i64 n2)]) (ref01_Of_r (m + 2) h46) rfl rfl (vw_cons (vd_one vc_v) vw_nil) rfl rfl) ?_
        refine ol_put rfl rfl rfl (q_move (v := .one (iC .i64 n3)) rfl) ?_
        obtain ⟨⟨n50, n51⟩, h49, h⟩ := bindS h
        refine ol_put rfl rfl rfl (q_callF (v := .agg [iC .i64 n50, iC .u64 n51]) (args := [.one (iC .i64 n3)]) (ref01_Of_r (m + 2) h49) rfl rfl (vw_cons (vd_one vc_v) vw_nil) rfl rfl) ?_
        obtain ⟨⟨n53, n54⟩, h52, h⟩ := bindS h
        refine ol_put rfl rfl rfl (q_callF (v := .agg [iC .i64 n53, iC .u64 n54]) (args := [.agg [iC .i64 n47, iC .u64 n48], .agg [iC .i64 n50, iC .u64 n51]]) (ref01_Add_r (m + 2) h52) rfl rfl (vw_cons (vd_agg (vc_cons vc_v (vc_cons vc_v vc_nil))) (vw_cons (vd_agg (vc_cons vc_v (vc_cons vc_v vc_nil))) vw_nil)) rfl rfl) ?_
        refine ol_new rfl rfl rfl (q_alloc ty62 (row := [iC .i64 0, iC .u64 0]) rfl rfl) (fun k55 => ?_)
        refine ol_wr rfl rfl (q_store (es' := [[iC .i64 n53, iC .u64 n54]]) 0 rfl rfl rfl sz62 rfl rfl rfl rfl rfl) rfl ?_
        refine ol_end ?_
        refine E_seq ?_
        refine L_seq ?_
        refine L_seq ?_
        refine L_still (by kernel_rfl) ?_
        refine st_put rfl rfl rfl (q_move (v := .one (bC true)) rfl) ?_
        refine st_put rfl rfl rfl (q_move (v := .one (bC true)) rfl) ?_
        refine st_skip rfl rfl rfl ?_
        refine st_skip rfl rfl rfl ?_
        refine st_skip rfl rfl rfl ?_
        refine st_skip rfl rfl rfl ?_
        refine st_put rfl rfl rfl (q_pickT (v := .one (bC true)) rfl rfl) ?_
        refine st_end ?_
        refine E_seq ?_
        refine L_condT rfl ?_
        refine L_seq ?_
        refine L_ops ?_
        obtain ⟨⟨n57, n58⟩, h56, h⟩ := bindS h
        refine ol_put rfl rfl rfl (q_callF (v := .agg [iC .i64 n57, iC .u64 n58]) (args := [.one (iC .i64 4611686018427387904)]) (ref01_Of_r (m + 2) h56) rfl rfl (vw_cons (vd_one vc_v) vw_nil) rfl rfl) ?_
        refine ol_wr rfl rfl (q_store (es' := [[iC .i64 n57, iC .u64 n58]]) 1 rfl rfl rfl sz62 rfl rfl rfl rfl rfl) rfl ?_
        refine ol_end ?_
        refine E_seq ?_
        refine L_ret ?_
        refine E_seqR ?_
        refine E_blkR ?_
        obtain rfl := Option.some.inj h
        exact E_endF (.inr rfl) (res_cell (d := .agg [iC .i64 n57, iC .u64 n58]) 1 rfl sz62 rfl rfl rfl rfl res_nil) (vw_cons (vd_agg (vc_cons vc_v (vc_cons vc_v vc_nil))) vw_nil) (fun h hb => own_agg) rfl rfl
      · replace h := ifF c45 h
        refine ol_put rfl rfl rfl (q_bin rfl rfl (p_eql_f _ _ _ _ _ c45) rfl) ?_
        refine ol_put rfl rfl rfl (q_assign (v := .one (bC false)) rfl) ?_
        refine ol_end ?_
        refine E_seq ?_
        refine L_condF rfl ?_
        refine L_seq ?_
        refine L_ops ?_
        by_cases c59 : n1 = 3
        · replace h := ifT c59 h
          refine ol_put rfl rfl rfl (q_bin rfl rfl (p_eql_t _ _ _ _ _ c59) rfl) ?_
          refine ol_put rfl rfl rfl (q_assign (v := .one (bC true)) rfl) ?_
          refine ol_end ?_
          refine E_seq ?_
          refine L_condT rfl ?_
          refine L_seq ?_
          refine L_seq ?_
          refine L_ops ?_
          refine ol_put rfl rfl rfl (q_move (v := .one (bC true)) rfl) ?_
          refine ol_end ?_
          refine E_seq ?_
          refine L_condT rfl ?_
          refine L_seq ?_
          refine L_ops ?_
          obtain ⟨⟨n61, n62⟩, h60, h⟩ := bindS h
          refine ol_put rfl rfl rfl (q_callF (v := .agg [iC .i64 n61, iC .u64 n62]) (args := [.one (iC .i64 4611686018427387904)]) (ref01_Of_r (m + 2) h60) rfl rfl (vw_cons (vd_one vc_v) vw_nil) rfl rfl) ?_
          refine ol_wr rfl rfl (q_store (es' := [[iC .i64 n61, iC .u64 n62]]) 0 rfl rfl rfl sz62 rfl rfl rfl rfl rfl) rfl ?_
          refine ol_end ?_
          refine E_seq ?_
          refine L_ret ?_
          refine E_seqR ?_
          refine E_blkR ?_
          obtain rfl := Option.some.inj h
          exact E_endF (.inr rfl) (res_cell (d := .agg [iC .i64 n61, iC .u64 n62]) 0 rfl sz62 rfl rfl rfl rfl res_nil) (vw_cons (vd_agg (vc_cons vc_v (vc_cons vc_v vc_nil))) vw_nil) (fun h hb => own_agg) rfl rfl
        · replace h := ifF c59 h
          refine ol_put rfl rfl rfl (q_bin rfl rfl (p_eql_f _ _ _ _ _ c59) rfl) ?_
          refine ol_put rfl rfl rfl (q_assign (v := .one (bC false)) rfl) ?_
          refine ol_end ?_
          refine E_seq ?_
          refine L_condF rfl ?_
          refine L_seq ?_
          refine L_ops ?_
          by_cases c63 : n1 = 4
          · replace h := ifT c63 h
            refine ol_put rfl rfl rfl (q_bin rfl rfl (p_eql_t _ _ _ _ _ c63) rfl) ?_
            refine ol_put rfl rfl rfl (q_assign (v := .one (bC true)) rfl) ?_
            refine ol_end ?_
            refine E_seq ?_
            refine L_condT rfl ?_
            refine L_seq ?_
            refine L_seq ?_
            refine L_ops ?_
            refine ol_put rfl rfl rfl (q_move (v := .one (bC true)) rfl) ?_
            refine ol_end ?_
            refine E_seq ?_
            refine L_condT rfl ?_
            refine L_seq ?_
            refine L_ops ?_
            obtain ⟨⟨n65, n66⟩, h64, h⟩ := bindS h
            refine ol_put rfl rfl rfl (q_callF (v := .agg [iC .i64 n65, iC .u64 n66]) (args := [.one (iC .i64 4611686018427387904)]) (ref01_Of_r (m + 2) h64) rfl rfl (vw_cons (vd_one vc_v) vw_nil) rfl rfl) ?_
            refine ol_wr rfl rfl (q_store (es' := [[iC .i64 n65, iC .u64 n66]]) 0 rfl rfl rfl sz62 rfl rfl rfl rfl rfl) rfl ?_
            refine ol_end ?_
            refine E_seq ?_
            refine L_ret ?_
            refine E_seqR ?_
            refine E_blkR ?_
            obtain rfl := Option.some.inj h
            exact E_endF (.inr rfl) (res_cell (d := .agg [iC .i64 n65, iC .u64 n66]) 0 rfl sz62 rfl rfl rfl rfl res_nil) (vw_cons (vd_agg (vc_cons vc_v (vc_cons vc_v vc_nil))) vw_nil) (fun h hb => own_agg) rfl rfl
          · replace h := ifF c63 h
            refine ol_put rfl rfl rfl (q_bin rfl rfl (p_eql_f _ _ _ _ _ c63) rfl) ?_
            refine ol_put rfl rfl rfl (q_assign (v := .one (bC false)) rfl) ?_
            refine ol_end ?_
            refine E_seq ?_
            refine L_condF rfl ?_
            refine L_seq ?_
            refine L_ops ?_
            by_cases c67 : n1 = 2
            · replace h := ifT c67 h
              refine ol_put rfl rfl rfl (q_bin rfl rfl (p_eql_t _ _ _ _ _ c67) rfl) ?_
              refine ol_put rfl rfl rfl (q_assign (v := .one (bC true)) rfl) ?_
              refine ol_end ?_
              refine E_seq ?_
              refine L_condT rfl ?_
              refine L_seq ?_
              refine L_ops ?_
              refine ol_put rfl rfl rfl (q_move (v := .one (iC .i64 n2)) rfl) ?_
              by_cases c68 : n2 ≠ 0
              · replace h := ifT c68 h
                refine ol_put rfl rfl rfl (q_bin rfl rfl (p_neq_t _ _ _ _ _ c68) rfl) ?_
                refine ol_put rfl rfl rfl (q_move (v := .one (bC true)) rfl) ?_
                refine ol_put rfl rfl rfl (q_move (v := .one (iC .i64 n3)) rfl) ?_
                by_cases c69 : n3 ≠ 0
                · replace h := ifT c69 h
                  refine ol_put rfl rfl rfl (q_bin rfl rfl (p_neq_t _ _ _ _ _ c69) rfl) ?_
                  refine ol_put rfl rfl rfl (q_pickT (v := .one (bC true)) rfl rfl) ?_
                  obtain ⟨⟨n71, n72⟩, h70, h⟩ := bindS h
                  refine ol_put rfl rfl rfl (q_callF (v := .agg [iC .i64 n71, iC .u64 n72]) (args := [.one (bC true)]) (ref02_truth_r (m + 2) h70) rfl rfl (vw_cons (vd_one vc_v) vw_nil) rfl rfl) ?_
                  refine ol_wr rfl rfl (q_store (es' := [[iC .i64 n71, iC .u64 n72]]) 0 rfl rfl rfl sz62 rfl rfl rfl rfl rfl) rfl ?_
                  refine ol_end ?_
                  refine E_seq ?_
                  refine L_ret ?_
                  refine E_blkR ?_
                  obtain rfl := Option.some.inj h
                  exact E_endF (.inr rfl) (res_cell (d := .agg [iC .i64 n71, iC .u64 n72]) 0 rfl sz62 rfl rfl rfl rfl res_nil) (vw_cons (vd_agg (vc_cons vc_v (vc_cons vc_v vc_nil))) vw_nil) (fun h hb => own_agg) rfl rfl
                · replace h := ifF c69 h
                  refine ol_put rfl rfl rfl (q_bin rfl rfl (p_neq_f _ _ _ _ _ c69) rfl) ?_
                  refine ol_put rfl rfl rfl (q_pickT (v := .one (bC false)) rfl rfl) ?_
                  obtain ⟨⟨n74, n75⟩, h73, h⟩ := bindS h
                  refine ol_put rfl rfl rfl (q_callF (v := .agg [iC .i64 n74, iC .u64 n75]) (args := [.one (bC false)]) (ref02_truth_r (m + 2) h73) rfl rfl (vw_cons (vd_one vc_v) vw_nil) rfl rfl) ?_
                  refine ol_wr rfl rfl (q_store (es' := [[iC .i64 n74, iC .u64 n75]]) 0 rfl rfl rfl sz62 rfl rfl rfl rfl rfl) rfl ?_
                  refine ol_end ?_
                  refine E_seq ?_
                  refine L_ret ?_
                  refine E_blkR ?_
                  obtain rfl := Option.some.inj h
                  exact E_endF (.inr rfl) (res_cell (d := .agg [iC .i64 n74, iC .u64 n75]) 0 rfl sz62 rfl rfl rfl rfl res_nil) (vw_cons (vd_agg (vc_cons vc_v (vc_cons vc_v vc_nil))) vw_nil) (fun h hb => own_agg) rfl rfl
              · replace h := ifF c68 h
                refine ol_put rfl rfl rfl (q_bin rfl rfl (p_neq_f _ _ _ _ _ c68) rfl) ?_
                refine ol_put rfl rfl rfl (q_move (v := .one (bC false)) rfl) ?_
                refine ol_skip rfl rfl rfl ?_
                refine ol_skip rfl rfl rfl ?_
                refine ol_put rfl rfl rfl (q_pickF (v := .one (bC false)) rfl rfl) ?_
                obtain ⟨⟨n77, n78⟩, h76, h⟩ := bindS h
                refine ol_put rfl rfl rfl (q_callF (v := .agg [iC .i64 n77, iC .u64 n78]) (args := [.one (bC false)]) (ref02_truth_r (m + 2) h76) rfl rfl (vw_cons (vd_one vc_v) vw_nil) rfl rfl) ?_
                refine ol_wr rfl rfl (q_store (es' := [[iC .i64 n77, iC .u64 n78]]) 0 rfl rfl rfl sz62 rfl rfl rfl rfl rfl) rfl ?_
                refine ol_end ?_
                refine E_seq ?_
                refine L_ret ?_
                refine E_blkR ?_
                obtain rfl := Option.some.inj h
                exact E_endF (.inr rfl) (res_cell (d := .agg [iC .i64 n77, iC .u64 n78]) 0 rfl sz62 rfl rfl rfl rfl res_nil) (vw_cons (vd_agg (vc_cons vc_v (vc_cons vc_v vc_nil))) vw_nil) (fun h hb => own_agg) rfl rfl
            · replace h := ifF c67 h
              refine ol_put rfl rfl rfl (q_bin rfl rfl (p_eql_f _ _ _ _ _ c67) rfl) ?_
              refine ol_put rfl rfl rfl (q_assign (v := .one (bC false)) rfl) ?_
              refine ol_end ?_
              refine E_seq ?_
              refine L_condF rfl ?_
              refine L_seq ?_
              refine L_ops ?_
              by_cases c79 : n1 = 5
              · replace h := ifT c79 h
                refine ol_put rfl rfl rfl (q_bin rfl rfl (p_eql_t _ _ _ _ _ c79) rfl) ?_
                refine ol_put rfl rfl rfl (q_assign (v := .one (bC true)) rfl) ?_
                refine ol_end ?_
                refine E_seq ?_
                refine L_condT rfl ?_
                refine L_seq ?_
                refine L_ops ?_
                refine ol_put rfl rfl rfl (q_move (v := .one (iC .i64 n2)) rfl) ?_
                refine ol_put rfl rfl rfl (q_move (v := .one (iC .i64 n3)) rfl) ?_
                obtain ⟨⟨n81, n82⟩, h80, h⟩ := bindS h
                refine ol_put rfl rfl rfl (q_callF (v := .agg [iC .i64 n81, iC .u64 n82]) (args := [.one (iC .i64 n2), .one (iC .i64 n3)]) (ref01_Mul_r (m + 0) h80) rfl rfl (vw_cons (vd_one vc_v) (vw_cons (vd_one vc_v) vw_nil)) rfl rfl) ?_
                refine ol_wr rfl rfl (q_store (es' := [[iC .i64 n81, iC .u64 n82]]) 0 rfl rfl rfl sz62 rfl rfl rfl rfl rfl) rfl ?_
                refine ol_end ?_
                refine E_seq ?_
                refine L_ret ?_
                refine E_blkR ?_
                obtain rfl := Option.some.inj h
                exact E_endF (.inr rfl) (res_cell (d := .agg [iC .i64 n81, iC .u64 n82]) 0 rfl sz62 rfl rfl rfl rfl res_nil) (vw_cons (vd_agg (vc_cons vc_v (vc_cons vc_v vc_nil))) vw_nil) (fun h hb => own_agg) rfl rfl
              · replace h := ifF c79 h
                refine ol_put rfl rfl rfl (q_bin rfl rfl (p_eql_f _ _ _ _ _ c79) rfl) ?_
                refine ol_put rfl rfl rfl (q_assign (v := .one (bC false)) rfl) ?_
                refine ol_end ?_
                refine E_seq ?_
                refine L_condF rfl ?_
                refine L_seq ?_
                refine L_ops ?_
                refine ol_put rfl rfl rfl (q_build (cs := [iC .i64 0, iC .u64 0]) ty62 rfl pl62 rfl) ?_
                refine ol_wr rfl rfl (q_store (es' := [[iC .i64 0, iC .u64 0]]) 0 rfl rfl rfl sz62 rfl rfl rfl rfl rfl) rfl ?_
                refine ol_end ?_
                refine E_seq ?_
                refine L_ret ?_
                refine E_blkR ?_
                obtain rfl := Option.some.inj h
                exact E_endF (.inr rfl) (res_cell (d := .agg [iC .i64 0, iC .u64 0]) 0 rfl sz62 rfl rfl rfl rfl res_nil) (vw_cons (vd_agg (vc_cons vc_v (vc_cons vc_v vc_nil))) vw_nil) (fun h hb => own_agg) rfl rfl
    · replace h := ifF c44 h
      refine ol_put rfl rfl rfl (q_bin rfl rfl (p_geq_f _ _ _ _ _ c44) rfl) ?_
      refine ol_put rfl rfl rfl (q_pickF (v := .one (bC false)) rfl rfl) ?_
      refine ol_put rfl rfl rfl (q_assign (v := .one (bC false)) rfl) ?_
      refine ol_end ?_
      refine E_seq ?_
      refine L_seq ?_
      refine L_ops ?_
      refine ol_put rfl rfl rfl (q_move (v := .one (iC .i64 n1)) rfl) ?_
      refine ol_end ?_
      refine E_seq ?_
      refine L_block ?_
      refine L_seq ?_
      refine L_ops ?_
      by_cases c83 : n1 = 1
      · replace h := ifT c83 h
        refine ol_put rfl rfl rfl (q_bin rfl rfl (p_eql_t _ _ _ _ _ c83) rfl) ?_
        refine ol_put rfl rfl rfl (q_assign (v := .one (bC true)) rfl) ?_
        refine ol_end ?_
        refine E_seq ?_
        refine L_condT rfl ?_
        refine L_seq ?_
        refine L_ops ?_
        refine ol_put rfl rfl rfl (q_move (v := .one (iC .i64 n2)) rfl) ?_
        obtain ⟨⟨n85, n86⟩, h84, h⟩ := bindS h
        refine ol_put rfl rfl rfl (q_callF (v := .agg [iC .i64 n85, iC .u64 n86]) (args := [.one (iC .i64 n2)]) (ref01_Of_r (m + 2) h84) rfl rfl (vw_cons (vd_one vc_v) vw_nil) rfl rfl) ?_
        refine ol_put rfl rfl rfl (q_move (v := .one (iC .i64 n3)) rfl) ?_
        obtain ⟨⟨n88, n89⟩, h87, h⟩ := bindS h
        refine ol_put rfl rfl rfl (q_callF (v := .agg [iC .i64 n88, iC .u64 n89]) (args := [.one (iC .i64 n3)]) (ref01_Of_r (m + 2) h87) rfl rfl (vw_cons (vd_one vc_v) vw_nil) rfl rfl) ?_
        obtain ⟨⟨n91, n92⟩, h90, h⟩ := bindS h
        refine ol_put rfl rfl rfl (q_callF (v := .agg [iC .i64 n91, iC .u64 n92]) (args := [.agg [iC .i64 n85, iC .u64 n86], .agg [iC .i64 n88, iC .u64 n89]]) (ref01_Add_r (m + 2) h90) rfl rfl (vw_cons (vd_agg (vc_cons vc_v (vc_cons vc_v vc_nil))) (vw_cons (vd_agg (vc_cons vc_v (vc_cons vc_v vc_nil))) vw_nil)) rfl rfl) ?_
        refine ol_new rfl rfl rfl (q_alloc ty62 (row := [iC .i64 0, iC .u64 0]) rfl rfl) (fun k93 => ?_)
        refine ol_wr rfl rfl (q_store (es' := [[iC .i64 n91, iC .u64 n92]]) 0 rfl rfl rfl sz62 rfl rfl rfl rfl rfl) rfl ?_
        refine ol_end ?_
        refine E_seq ?_
        refine L_seq ?_
        refine L_seq ?_
        refine L_still (by kernel_rfl) ?_
        refine st_put rfl rfl rfl (q_move (v := .one (bC false)) rfl) ?_
        refine st_put rfl rfl rfl (q_move (v := .one (bC false)) rfl) ?_
        refine st_put rfl rfl rfl (q_loadP (v := .agg [iC .i64 n91, iC .u64 n92]) 0 rfl sz62 rfl rfl rfl rfl) ?_
        obtain ⟨⟨n95, n96⟩, h94, h⟩ := bindS h
        refine st_put rfl rfl rfl (q_callF (v := .agg [iC .i64 n95, iC .u64 n96]) (args := [.one (iC .i64 4611686018427387904)]) (ref01_Of_r (m + 2) h94) rfl rfl (vw_cons (vd_one vc_v) vw_nil) rfl rfl) ?_
        obtain ⟨n98, h97, h⟩ := bindS h
        refine st_put rfl rfl rfl (q_callF (v := .one (iC .i64 n98)) (args := [.agg [iC .i64 n91, iC .u64 n92], .agg [iC .i64 n95, iC .u64 n96]]) (ref01_Compare_r (m + 2) h97) rfl rfl (vw_cons (vd_agg (vc_cons vc_v (vc_cons vc_v vc_nil))) (vw_cons (vd_agg (vc_cons vc_v (vc_cons vc_v vc_nil))) vw_nil)) rfl rfl) ?_
        by_cases c99 : n98 > 0
        · replace h := ifT c99 h
          refine st_put rfl rfl rfl (q_bin rfl rfl (p_gtr_t _ _ _ _ _ c99) rfl) ?_
          refine st_put rfl rfl rfl (q_pickF (v := .one (bC true)) rfl rfl) ?_
          refine st_end ?_
          refine E_seq ?_
          refine L_condT rfl ?_
          refine L_seq ?_
          refine L_ops ?_
          refine ol_put rfl rfl rfl (q_callF (v := .agg [iC .i64 n95, iC .u64 n96]) (args := [.one (iC .i64 4611686018427387904)]) (ref01_Of_r (m + 2) h94) rfl rfl (vw_cons (vd_one vc_v) vw_nil) rfl rfl) ?_
          refine ol_wr rfl rfl (q_store (es' := [[iC .i64 n95, iC .u64 n96]]) 1 rfl rfl rfl sz62 rfl rfl rfl rfl rfl) rfl ?_
          refine ol_end ?_
          refine E_seq ?_
          refine L_ret ?_
          refine E_seqR ?_
          refine E_blkR ?_
          obtain rfl := Option.some.inj h
          exact E_endF (.inr rfl) (res_cell (d := .agg [iC .i64 n95, iC .u64 n96]) 1 rfl sz62 rfl rfl rfl rfl res_nil) (vw_cons (vd_agg (vc_cons vc_v (vc_cons vc_v vc_nil))) vw_nil) (fun h hb => own_agg) rfl rfl
        · replace h := ifF c99 h
          refine st_put rfl rfl rfl (q_bin rfl rfl (p_gtr_f _ _ _ _ _ c99) rfl) ?_
          refine st_put rfl rfl rfl (q_pickF (v := .one (bC false)) rfl rfl) ?_
          refine st_end ?_
          refine E_seq ?_
          refine L_condF rfl ?_
          refine L_skip ?_
          refine E_seq ?_
          refine L_seq ?_
          refine L_ops ?_
          refine ol_put rfl rfl rfl (q_loadP (v := .agg [iC .i64 n91, iC .u64 n92]) 0 rfl sz62 rfl rfl rfl rfl) ?_
          refine ol_wr rfl rfl (q_store (es' := [[iC .i64 n91, iC .u64 n92]]) 1 rfl rfl rfl sz62 rfl rfl rfl rfl rfl) rfl ?_
          refine ol_end ?_
          refine E_seq ?_
          refine L_ret ?_
          refine E_blkR ?_
          obtain rfl := Option.some.inj h
          exact E_endF (.inr rfl) (res_cell (d := .agg [iC .i64 n91, iC .u64 n92]) 1 rfl sz62 rfl rfl rfl rfl res_nil) (vw_cons (vd_agg (vc_cons vc_v (vc_cons vc_v vc_nil))) vw_nil) (fun h hb => own_agg) rfl rfl
      · replace h := ifF c83 h
        refine ol_put rfl rfl rfl (q_bin rfl rfl (p_eql_f _ _ _ _ _ c83) rfl) ?_
        refine ol_put rfl rfl rfl (q_assign (v := .one (bC false)) rfl) ?_
        refine ol_end ?_
        refine E_seq ?_
        refine L_condF rfl ?_
        refine L_seq ?_
        refine L_ops ?_
        by_cases c100 : n1 = 3
        · replace h := ifT c100 h
          refine ol_put rfl rfl rfl (q_bin rfl rfl (p_eql_t _ _ _ _ _ c100) rfl) ?_
          refine ol_put rfl rfl rfl (q_assign (v := .one (bC true)) rfl) ?_
          refine ol_end ?_
          refine E_seq ?_
          refine L_condT rfl ?_
          refine L_seq ?_
          refine L_seq ?_
          refine L_ops ?_
          refine ol_put rfl rfl rfl (q_move (v := .one (bC false)) rfl) ?_
          refine ol_end ?_
          refine E_seq ?_
          refine L_condF rfl ?_
          refine L_skip ?_
          refine E_seq ?_
          refine L_seq ?_
          refine L_ops ?_
          refine ol_put rfl rfl rfl (q_move (v := .one (iC .i64 n2)) rfl) ?_
          obtain ⟨⟨n102, n103⟩, h101, h⟩ := bindS h
          refine ol_put rfl rfl rfl (q_callF (v := .agg [iC .i64 n102, iC .u64 n103]) (args := [.one (iC .i64 n2)]) (ref01_Of_r (m + 2) h101) rfl rfl (vw_cons (vd_one vc_v) vw_nil) rfl rfl) ?_
          refine ol_wr rfl rfl (q_store (es' := [[iC .i64 n102, iC .u64 n103]]) 0 rfl rfl rfl sz62 rfl rfl rfl rfl rfl) rfl ?_
          refine ol_end ?_
          refine E_seq ?_
          refine L_ret ?_
          refine E_blkR ?_
          obtain rfl := Option.some.inj h
          exact E_endF (.inr rfl) (res_cell (d := .agg [iC .i64 n102, iC .u64 n103]) 0 rfl sz62 rfl rfl rfl rfl res_nil) (vw_cons (vd_agg (vc_cons vc_v (vc_cons vc_v vc_nil))) vw_nil) (fun h hb => own_agg) rfl rfl
        · replace h := ifF c100 h
          refine ol_put rfl rfl rfl (q_bin rfl rfl (p_eql_f _ _ _ _ _ c100) rfl) ?_
          refine ol_put rfl rfl rfl (q_assign (v := .one (bC false)) rfl) ?_
          refine ol_end ?_
          refine E_seq ?_
          refine L_condF rfl ?_
          refine L_seq ?_
          refine L_ops ?_
          by_cases c104 : n1 = 4
          · replace h := ifT c104 h
            refine ol_put rfl rfl rfl (q_bin rfl rfl (p_eql_t _ _ _ _ _ c104) rfl) ?_
            refine ol_put rfl rfl rfl (q_assign (v := .one (bC true)) rfl) ?_
            refine ol_end ?_
            refine E_seq ?_
            refine L_condT rfl ?_
            refine L_seq ?_
            refine L_seq ?_
            refine L_ops ?_
            refine ol_put rfl rfl rfl (q_move (v := .one (bC false)) rfl) ?_
            refine ol_end ?_
            refine E_seq ?_
            refine L_condF rfl ?_
            refine L_skip ?_
            refine E_seq ?_
            refine L_seq ?_
            refine L_ops ?_
            refine ol_put rfl rfl rfl (q_move (v := .one (iC .i64 n3)) rfl) ?_
            obtain ⟨⟨n106, n107⟩, h105, h⟩ := bindS h
            refine ol_put rfl rfl rfl (q_callF (v := .agg [iC .i64 n106, iC .u64 n107]) (args := [.one (iC .i64 n3)]) (ref01_Of_r (m + 2) h105) rfl rfl (vw_cons (vd_one vc_v) vw_nil) rfl rfl) ?_
            refine ol_wr rfl rfl (q_store (es' := [[iC .i64 n106, iC .u64 n107]]) 0 rfl rfl rfl sz62 rfl rfl rfl rfl rfl) rfl ?_
            refine ol_end ?_
            refine E_seq ?_
            refine L_ret ?_
            refine E_blkR ?_
            obtain rfl := Option.some.inj h
            exact E_endF (.inr rfl) (res_cell (d := .agg [iC .i64 n106, iC .u64 n107]) 0 rfl sz62 rfl rfl rfl rfl res_nil) (vw_cons (vd_agg (vc_cons vc_v (vc_cons vc_v vc_nil))) vw_nil) (fun h hb => own_agg) rfl rfl
          · replace h := ifF c104 h
            refine ol_put rfl rfl rfl (q_bin rfl rfl (p_eql_f _ _ _ _ _ c104) rfl) ?_
            refine ol_put rfl rfl rfl (q_assign (v := .one (bC false)) rfl) ?_
            refine ol_end ?_
            refine E_seq ?_
            refine L_condF rfl ?_
            refine L_seq ?_
            refine L_ops ?_
            by_cases c108 : n1 = 2
            · replace h := ifT c108 h
              refine ol_put rfl rfl rfl (q_bin rfl rfl (p_eql_t _ _ _ _ _ c108) rfl) ?_
              refine ol_put rfl rfl rfl (q_assign (v := .one (bC true)) rfl) ?_
              refine ol_end ?_
              refine E_seq ?_
              refine L_condT rfl ?_
              refine L_seq ?_
              refine L_ops ?_
              refine ol_put rfl rfl rfl (q_move (v := .one (iC .i64 n2)) rfl) ?_
              by_cases c109 : n2 ≠ 0
              · replace h := ifT c109 h
                refine ol_put rfl rfl rfl (q_bin rfl rfl (p_neq_t _ _ _ _ _ c109) rfl) ?_
                refine ol_put rfl rfl rfl (q_move (v := .one (bC true)) rfl) ?_
                refine ol_put rfl rfl rfl (q_move (v := .one (iC .i64 n3)) rfl) ?_
                by_cases c110 : n3 ≠ 0
                · replace h := ifT c110 h
                  refine ol_put rfl rfl rfl (q_bin rfl rfl (p_neq_t _ _ _ _ _ c110) rfl) ?_
                  refine ol_put rfl rfl rfl (q_pickT (v := .one (bC true)) rfl rfl) ?_
                  obtain ⟨⟨n112, n113⟩, h111, h⟩ := bindS h
                  refine ol_put rfl rfl rfl (q_callF (v := .agg [iC .i64 n112, iC .u64 n113]) (args := [.one (bC true)]) (ref02_truth_r (m + 2) h111) rfl rfl (vw_cons (vd_one vc_v) vw_nil) rfl rfl) ?_
                  refine ol_wr rfl rfl (q_store (es' := [[iC .i64 n112, iC .u64 n113]]) 0 rfl rfl rfl sz62 rfl rfl rfl rfl rfl) rfl ?_
                  refine ol_end ?_
                  refine E_seq ?_
                  refine L_ret ?_
                  refine E_blkR ?_
                  obtain rfl := Option.some.inj h
                  exact E_endF (.inr rfl) (res_cell (d := .agg [iC .i64 n112, iC .u64 n113]) 0 rfl sz62 rfl rfl rfl rfl res_nil) (vw_cons (vd_agg (vc_cons vc_v (vc_cons vc_v vc_nil))) vw_nil) (fun h hb => own_agg) rfl rfl
                · replace h := ifF c110 h
                  refine ol_put rfl rfl rfl (q_bin rfl rfl (p_neq_f _ _ _ _ _ c110) rfl) ?_
                  refine ol_put rfl rfl rfl (q_pickT (v := .one (bC false)) rfl rfl) ?_
                  obtain ⟨⟨n115, n116⟩, h114, h⟩ := bindS h
                  refine ol_put rfl rfl rfl (q_callF (v := .agg [iC .i64 n115, iC .u64 n116]) (args := [.one (bC false)]) (ref02_truth_r (m + 2) h114) rfl rfl (vw_cons (vd_one vc_v) vw_nil) rfl rfl) ?_
                  refine ol_wr rfl rfl (q_store (es' := [[iC .i64 n115, iC .u64 n116]]) 0 rfl rfl rfl sz62 rfl rfl rfl rfl rfl) rfl ?_
                  refine ol_end ?_
                  refine E_seq ?_
                  refine L_ret ?_
                  refine E_blkR ?_
                  obtain rfl := Option.some.inj h
                  exact E_endF (.inr rfl) (res_cell (d := .agg [iC .i64 n115, iC .u64 n116]) 0 rfl sz62 rfl rfl rfl rfl res_nil) (vw_cons (vd_agg (vc_cons vc_v (vc_cons vc_v vc_nil))) vw_nil) (fun h hb => own_agg) rfl rfl
              · replace h := ifF c109 h
                refine ol_put rfl rfl rfl (q_bin rfl rfl (p_neq_f _ _ _ _ _ c109) rfl) ?_
                refine ol_put rfl rfl rfl (q_move (v := .one (bC false)) rfl) ?_
                refine ol_skip rfl rfl rfl ?_
                refine ol_skip rfl rfl rfl ?_
                refine ol_put rfl rfl rfl (q_pickF (v := .one (bC false)) rfl rfl) ?_
                obtain ⟨⟨n118, n119⟩, h117, h⟩ := bindS h
                refine ol_put rfl rfl rfl (q_callF (v := .agg [iC .i64 n118, iC .u64 n119]) (args := [.one (bC false)]) (ref02_truth_r (m + 2) h117) rfl rfl (vw_cons (vd_one vc_v) vw_nil) rfl rfl) ?_
                refine ol_wr rfl rfl (q_store (es' := [[iC .i64 n118, iC .u64 n119]]) 0 rfl rfl rfl sz62 rfl rfl rfl rfl rfl) rfl ?_
                refine ol_end ?_
                refine E_seq ?_
                refine L_ret ?_
                refine E_blkR ?_
                obtain rfl := Option.some.inj h
                exact E_endF (.inr rfl) (res_cell (d := .agg [iC .i64 n118, iC .u64 n119]) 0 rfl sz62 rfl rfl rfl rfl res_nil) (vw_cons (vd_agg (vc_cons vc_v (vc_cons vc_v vc_nil))) vw_nil) (fun h hb => own_agg) rfl rfl
            · replace h := ifF c108 h
              refine ol_put rfl rfl rfl (q_bin rfl rfl (p_eql_f _ _ _ _ _ c108) rfl) ?_
              refine ol_put rfl rfl rfl (q_assign (v := .one (bC false)) rfl) ?_
              refine ol_end ?_
              refine E_seq ?_
              refine L_condF rfl ?_
              refine L_seq ?_
              refine L_ops ?_
              by_cases c120 : n1 = 5
              · replace h := ifT c120 h
                refine ol_put rfl rfl rfl (q_bin rfl rfl (p_eql_t _ _ _ _ _ c120) rfl) ?_
                refine ol_put rfl rfl rfl (q_assign (v := .one (bC true)) rfl) ?_
                refine ol_end ?_
                refine E_seq ?_
                refine L_condT rfl ?_
                refine L_seq ?_
                refine L_ops ?_
                refine ol_put rfl rfl rfl (q_move (v := .one (iC .i64 n2)) rfl) ?_
                refine ol_put rfl rfl rfl (q_move (v := .one (iC .i64 n3)) rfl) ?_
                obtain ⟨⟨n122, n123⟩, h121, h⟩ := bindS h
                refine ol_put rfl rfl rfl (q_callF (v := .agg [iC .i64 n122, iC .u64 n123]) (args := [.one (iC .i64 n2), .one (iC .i64 n3)]) (ref01_Mul_r (m + 0) h121) rfl rfl (vw_cons (vd_one vc_v) (vw_cons (vd_one vc_v) vw_nil)) rfl rfl) ?_
                refine ol_wr rfl rfl (q_store (es' := [[iC .i64 n122, iC .u64 n123]]) 0 rfl rfl rfl sz62 rfl rfl rfl rfl rfl) rfl ?_
                refine ol_end ?_
                refine E_seq ?_
                refine L_ret ?_
                refine E_blkR ?_
                obtain rfl := Option.some.inj h
                exact E_endF (.inr rfl) (res_cell (d := .agg [iC .i64 n122, iC .u64 n123]) 0 rfl sz62 rfl rfl rfl rfl res_nil) (vw_cons (vd_agg (vc_cons vc_v (vc_cons vc_v vc_nil))) vw_nil) (fun h hb => own_agg) rfl rfl
              · replace h := ifF c120 h
                refine ol_put rfl rfl rfl (q_bin rfl rfl (p_eql_f _ _ _ _ _ c120) rfl) ?_
                refine ol_put rfl rfl rfl (q_assign (v := .one (bC false)) rfl) ?_
                refine ol_end ?_
                refine E_seq ?_
                refine L_condF rfl ?_
                refine L_seq ?_
                refine L_ops ?_
                refine ol_put rfl rfl rfl (q_build (cs := [iC .i64 0, iC .u64 0]) ty62 rfl pl62 rfl) ?_
                refine ol_wr rfl rfl (q_store (es' := [[iC .i64 0, iC .u64 0]]) 0 rfl rfl rfl sz62 rfl rfl rfl rfl rfl) rfl ?_
                refine ol_end ?_
                refine E_seq ?_
                refine L_ret ?_
                refine E_blkR ?_
                obtain rfl := Option.some.inj h
                exact E_endF (.inr rfl) (res_cell (d := .agg [iC .i64 0, iC .u64 0]) 0 rfl sz62 rfl rfl rfl rfl res_nil) (vw_cons (vd_agg (vc_cons vc_v (vc_cons vc_v vc_nil))) vw_nil) (fun h hb => own_agg) rfl rfl
end Ev
end Go.Proofs.YtlcfdmjkbaegpaaDoor
