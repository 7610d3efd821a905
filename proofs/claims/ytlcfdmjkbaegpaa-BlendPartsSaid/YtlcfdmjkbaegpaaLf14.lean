/- Functions of the program as functions on data, and that they are. -/
import Derived.Test.YtlcfdmjkbaegpaaLy1
namespace Go.Proofs.Ytlcfdmjkbaegpaa
namespace Ev
open Go
set_option linter.unusedVariables false
set_option linter.unusedSimpArgs false
set_option maxRecDepth 100000
set_option maxHeartbeats 1000000
attribute [local irreducible] OpsL StL TnL WpL EndL
noncomputable def ref03_word (s1 : Sl (Int)) (n2 : Int) : Option (Int) :=
  (if n2 < ((s1.l.length : Nat) : Int) then ((atS 1 s1 n2).bind fun n6 => some n6) else some 0)
theorem ref03_word_r (m : Nat) {s1 : Sl (Int)} {n2 : Int} {out : Int} (h : ref03_word s1 n2 = some out) : RunsP E1 (m + 1) 53 [.one (Sl.t r61 s1), .one (iT .i64 n2)] (.fresh, [.one (iT .u64 out)]) := by
  refine fn_F rfl (by rw [E1_fn]; exact show fiOf Try.prog 53 = _ by unfold fiOf; rw [Try.func53]; unfold Try.f53; rfl) rfl ?_
  dsimp only
  unfold ref03_word at h
  refine L_seq ?_
  refine L_ops ?_
  refine ol_put rfl rfl rfl (q_assign (v := .one (iC .u64 0)) rfl) ?_
  refine ol_end ?_
  refine E_seq ?_
  refine L_seq ?_
  refine L_seq ?_
  refine L_ops ?_
  refine ol_put rfl rfl rfl (q_move (v := .one (iC .i64 n2)) rfl) ?_
  refine ol_put rfl rfl rfl (q_move (v := .one (.p false (Sl.t r61 s1))) rfl) ?_
  refine ol_put rfl rfl rfl (q_lenS rfl ty33 rfl rfl rfl rfl) ?_
  by_cases c3 : n2 < ((s1.l.length : Nat) : Int)
  · replace h := ifT c3 h
    refine ol_put rfl rfl rfl (q_bin rfl rfl (p_lss_t _ _ _ _ _ c3) rfl) ?_
    refine ol_end ?_
    refine E_seq ?_
    refine L_condT rfl ?_
    refine L_seq ?_
    refine L_ops ?_
    refine ol_put rfl rfl rfl (q_move (v := .one (.p false (Sl.t r61 s1))) rfl) ?_
    refine ol_put rfl rfl rfl (q_move (v := .one (iC .i64 n2)) rfl) ?_
    obtain ⟨n6, h5, h⟩ := bindS h
    obtain ⟨h5a, h5b, h5⟩ := atS_some h5
    refine ol_put rfl rfl rfl (q_ixS rfl rfl h5a h5 (el33.trans (congrArg some h5b.symm))) ?_
    refine ol_put rfl rfl rfl (q_loadI (v := .one (iC .u64 n6)) rfl sz61 (map_get h5) rfl rfl) ?_
    refine ol_put rfl rfl rfl (q_assign (v := .one (iC .u64 n6)) rfl) ?_
    refine ol_end ?_
    refine E_seq ?_
    refine L_ret ?_
    refine E_seqR ?_
    obtain rfl := Option.some.inj h
    exact E_endF (.inr rfl) (res_tmp rfl res_nil) (vw_cons (vd_one vc_v) vw_nil) (fun h hb => own_p) rfl rfl
  · replace h := ifF c3 h
    refine ol_put rfl rfl rfl (q_bin rfl rfl (p_lss_f _ _ _ _ _ c3) rfl) ?_
    refine ol_end ?_
    refine E_seq ?_
    refine L_condF rfl ?_
    refine L_skip ?_
    refine E_seq ?_
    refine L_seq ?_
    refine L_ops ?_
    refine ol_put rfl rfl rfl (q_assign (v := .one (iC .u64 0)) rfl) ?_
    refine ol_end ?_
    refine E_seq ?_
    refine L_ret ?_
    obtain rfl := Option.some.inj h
    exact E_endF (.inr rfl) (res_tmp rfl res_nil) (vw_cons (vd_one vc_v) vw_nil) (fun h hb => own_p) rfl rfl

noncomputable def ref03_Both_b1 (s1 : Sl (Int)) (s2 : Sl (Int)) (a : List (Int) × Int) : Option ((List (Int) × Int) ⊕ ((List (Int)) ⊕ (List (Int)))) :=
  match a with
  | (l45, n46) => (if n46 < ((l45.length : Nat) : Int) then ((atS 1 s1 n46).bind fun n60 => ((ref03_word s2 n46).bind fun n62 => ((atL l45 n46).bind fun n65 => some (.inl ((l45.set n46.toNat (andI .u64 n60 n62)), (IntKind.i64.wrap (n46 + 1))))))) else some (.inr (.inl l45)))
noncomputable def ref03_Both (s1 : Sl (Int)) (s2 : Sl (Int)) : Option (List (Int)) :=
  ((lenOk ((s1.l.length : Nat) : Int)).bind fun _ => ((loopO (ref03_Both_b1 s1 s2) ((List.replicate ((s1.l.length : Nat) : Int).toNat (0 : Int)), 0)).bind (Sum.elim (fun l66 => some l66) (fun u => some u))))
theorem ref03_Both_r (m : Nat) {s1 : Sl (Int)} {s2 : Sl (Int)} {out : List (Int)} (h : ref03_Both s1 s2 = some out) : RunsP E1 (m + 2) 26 [.one (Sl.t r61 s1), .one (Sl.t r61 s2)] (.own, [.one (.s true 1 ((out).map r61))]) := by
  refine fn_O rfl (by rw [E1_fn]; exact show fiOf Try.prog 26 = _ by unfold fiOf; rw [Try.func26]; unfold Try.f26; rfl) rfl ?_
  dsimp only
  unfold ref03_Both at h
  refine L_seq ?_
  refine L_ops ?_
  refine ol_put rfl rfl rfl (q_assign (v := .one (.p true (Sl.t r61 (⟨false, 0, []⟩ : Sl (Int))))) rfl) ?_
  refine ol_end ?_
  refine E_seq ?_
  refine L_seq ?_
  refine L_ops ?_
  refine ol_put rfl rfl rfl (q_move (v := .one (.p false (Sl.t r61 s1))) rfl) ?_
  refine ol_put rfl rfl rfl (q_lenS rfl ty33 rfl rfl rfl rfl) ?_
  obtain ⟨u3, h4, h⟩ := bindS h
  refine ol_new rfl rfl rfl (q_mkslice (r := rowC r61) (a := (0 : Int)) ty33 rfl ty61 rfl rfl (lenOk_some h4).1 (lenOk_some h4).2 rfl rfl) (fun k5 => ?_)
  refine ol_put rfl rfl rfl (q_assign (v := .one (.own k5 0 ((List.replicate ((s1.l.length : Nat) : Int).toNat (0 : Int))).length)) rfl) ?_
  refine ol_end ?_
  refine E_seq ?_
  refine L_seq ?_
  refine L_seq ?_
  refine L_ops ?_
  refine ol_put rfl rfl rfl (q_assign (v := .one (iC .i64 0)) rfl) ?_
  refine ol_end ?_
  refine E_seq ?_
  refine L_block ?_
  let S1 : (List (Int) × Int) → Nat → (Nat → D) → Nat → D := fun a kt g => ups g [(0, .one (.p false (Sl.t r61 s1))), (1, .one (.p false (Sl.t r61 s2))), (5, .one (.own kt 0 (a.1).length)), (6, .one (iC .i64 a.2))]
  let SL1 : (List (Int) × Int) → Nat → BL := fun a kt => ([[(kt, 1, (a.1).map (rowC r61))]] : BL)
  let G1 : (List (Int)) → Ex → St → Prop := fun u => endQ E1 [.tmp 4] (.own, [.one (.s true 1 ((u).map r61))])
  let Sx1 : (List (Int)) → Nat → (Nat → D) → Nat → D := fun a kt g => ups g [(5, .one (.own kt 0 (a).length))]
  let SLx1 : (List (Int)) → Nat → BL := fun a kt => ([[(kt, 1, (a).map (rowC r61))]] : BL)
  let J1 : ((List (Int)) ⊕ (List (Int))) → Ex → St → Prop := JX 28 0 Sx1 SLx1 G1
  refine L_loopS (ref03_Both_b1 s1 s2) S1 SL1 J1 JX_n ((List.replicate ((s1.l.length : Nat) : Int).toNat (0 : Int)), 0) h k5 (ups_self ⟨rfl, rfl, rfl, rfl, trivial⟩) [0] (by decide) rfl ?_ ?_
  · rintro ⟨l45, n46⟩ k47 g out h
    change ref03_Both_b1 s1 s2 (l45, n46) = some out at h
    unfold ref03_Both_b1 at h
    refine L_seq ?_
    refine L_seq ?_
    refine L_ops ?_
    refine ol_put rfl rfl rfl (q_move (v := .one (iC .i64 n46)) rfl) ?_
    refine ol_put rfl rfl rfl (q_move (v := .one (.own k47 0 (l45).length)) rfl) ?_
    refine ol_put rfl rfl rfl (q_lenO rfl ty33 rfl rfl rfl rfl) ?_
    by_cases c48 : n46 < ((l45.length : Nat) : Int)
    · replace h := ifT c48 h
      refine ol_put rfl rfl rfl (q_bin rfl rfl (p_lss_t _ _ _ _ _ c48) rfl) ?_
      refine ol_end ?_
      refine E_seq ?_
      refine L_condT rfl ?_
      refine L_skip ?_
      refine E_seq ?_
      refine L_seq ?_
      refine L_block ?_
      refine L_norm (L2 := ([[(k47, 1, (l45).map (rowC r61))]] : BL)) [0] (by decide) rfl ?_
      refine L_turn 12 rfl [[], [], [], [], [], [], [], [], [], [], [], [k47]] [(false, []), (false, []), (false, []), (false, []), (false, []), (false, []), (false, []), (false, []), (false, []), (false, []), (false, []), (false, [])] [[1, 2, 3, 4, 5, 6, 7, 8, 9], [0, 2, 3, 4, 5, 6, 7, 8, 9], [0, 1, 3, 6, 7, 8], [0, 1, 2, 6, 7, 8], [0, 1, 6, 7, 8], [0, 1, 6, 7, 8], [0, 1, 2, 3, 4, 5, 7], [0, 1, 2, 3, 4, 5, 6], [0, 1, 2, 3, 4, 5], [0, 1], [], []] (by kernel_rfl) (by kernel_rfl) (by kernel_rfl) ?_ (fun bb49 hlt hnd => ?_)
      · intro bb49 hlt hnd
        exact ⟨⟨djE, ⟨djE, ⟨djE, ⟨djE, ⟨djE, ⟨djE, ⟨djE, ⟨djE, ⟨djE, ⟨djE, ⟨djE, ⟨djN, trivial⟩⟩⟩⟩⟩⟩⟩⟩⟩⟩⟩⟩, (ltO_cons ltK_nil (ltO_cons ltK_nil (ltO_cons ltK_nil (ltO_cons ltK_nil (ltO_cons ltK_nil (ltO_cons ltK_nil (ltO_cons ltK_nil (ltO_cons ltK_nil (ltO_cons ltK_nil (ltO_cons ltK_nil (ltO_cons ltK_nil (ltO_cons (ltK_cons (key_lt hlt 0 rfl) ltK_nil) ltO_nil))))))))))))⟩
      refine tn_put rfl rfl rfl [] (by decide) rfl (hm0 rfl) rfl (q_move (v := .one (.own k47 0 (l45).length)) rfl) ?_
      refine tn_put rfl rfl rfl [] (by decide) rfl (hm0 rfl) rfl (q_move (v := .one (iC .i64 n46)) rfl) ?_
      refine tn_put rfl rfl rfl [] (by decide) rfl (hm0 rfl) rfl (q_move (v := .one (.p false (Sl.t r61 s1))) rfl) ?_
      refine tn_put rfl rfl rfl [] (by decide) rfl (hm0 rfl) rfl (q_move (v := .one (iC .i64 n46)) rfl) ?_
      obtain ⟨n60, h59, h⟩ := bindS h
      obtain ⟨h59a, h59b, h59⟩ := atS_some h59
      refine tn_put rfl rfl rfl [] (by decide) rfl (hm0 rfl) rfl (q_ixS rfl rfl h59a h59 (el33.trans (congrArg some h59b.symm))) ?_
      refine tn_put rfl rfl rfl [] (by decide) rfl (hm0 rfl) rfl (q_loadI (v := .one (iC .u64 n60)) rfl sz61 (map_get h59) rfl rfl) ?_
      refine tn_put rfl rfl rfl [] (by decide) rfl (hm0 rfl) rfl (q_move (v := .one (.p false (Sl.t r61 s2))) rfl) ?_
      refine tn_put rfl rfl rfl [] (by decide) rfl (hm0 rfl) rfl (q_move (v := .one (iC .i64 n46)) rfl) ?_
      obtain ⟨n62, h61, h⟩ := bindS h
      refine tn_put rfl rfl rfl [] (by decide) rfl (hm0 rfl) rfl (q_callF (v := .one (iC .u64 n62)) (args := [.one (.p false (Sl.t r61 s2)), .one (iC .i64 n46)]) (ref03_word_r (m + 0) h61) rfl rfl (vw_cons (vd_one vc_s) (vw_cons (vd_one vc_v) vw_nil)) rfl rfl) ?_
      refine tn_put rfl rfl rfl [] (by decide) rfl (hm0 rfl) rfl (q_bin rfl rfl (p_and _ _ _ _ _ _ _) rfl) ?_
      obtain ⟨n65, h64, h⟩ := bindS h
      obtain ⟨h64a, h64⟩ := atL_some h64
      refine tn_put rfl rfl rfl [0] (by decide) rfl (hm0 rfl) rfl (q_ixO 0 rfl rfl h64a h64 rfl el33) ?_
      refine tn_wr rfl rfl [0] (by decide) rfl (hm0 rfl) rfl (q_store (e' := rowC r61 (andI .u64 n60 n62)) (es' := ((l45.set n46.toNat (andI .u64 n60 n62))).map (rowC r61)) 0 rfl rfl rfl sz61 rfl rfl (map_get h64) rfl map_set) (q := 0) rfl rfl ?_
      refine tn_re 5 (v := .one (.own k47 0 ((l45.set n46.toNat (andI .u64 n60 n62))).length)) (Eq.trans (b := .one (.own k47 0 (l45).length)) rfl (congrArg D.one own_setC)) ?_
      refine tn_re 11 (v := .one (.own k47 0 ((l45.set n46.toNat (andI .u64 n60 n62))).length)) (Eq.trans (b := .one (.own k47 0 (l45).length)) rfl (congrArg D.one own_setC)) ?_
      refine tn_re 16 (v := .one (.own k47 0 ((l45.set n46.toNat (andI .u64 n60 n62))).length)) (Eq.trans (b := .one (.own k47 0 (l45).length)) rfl (congrArg D.one own_setC)) ?_
      refine tn_end ?_
      refine E_blkN ?_
      refine E_seq ?_
      refine L_ops ?_
      refine ol_put rfl rfl rfl (q_move (v := .one (iC .i64 n46)) rfl) ?_
      refine ol_put rfl rfl rfl (q_bin rfl rfl (p_add _ _ _ _ _ _ _) rfl) ?_
      refine ol_put rfl rfl rfl (q_assign (v := .one (iC .i64 (IntKind.i64.wrap (n46 + 1)))) rfl) ?_
      refine ol_end ?_
      obtain rfl := Option.some.inj h
      exact E_next k47 (ups_self ⟨rfl, rfl, rfl, rfl, trivial⟩) [0] (by decide) rfl
    · replace h := ifF c48 h
      refine ol_put rfl rfl rfl (q_bin rfl rfl (p_lss_f _ _ _ _ _ c48) rfl) ?_
      refine ol_end ?_
      refine E_seq ?_
      refine L_condF rfl ?_
      refine L_exit ?_
      refine E_seqX ?_
      obtain rfl := Option.some.inj h
      refine E_out ?_
      exact (E_exit k47 (ups_self ⟨rfl, trivial⟩) [0] (by decide) rfl)
  · rintro (l66 | u) h
    · refine J_x (fun k67 g => ?_)
      replace h := elimL h
      refine E_blkH ?_
      refine E_seq ?_
      refine L_seq ?_
      refine L_ops ?_
      refine ol_put rfl rfl rfl (q_move (v := .one (.own k67 0 (l66).length)) rfl) ?_
      refine ol_put rfl rfl rfl (q_assign (v := .one (.own k67 0 (l66).length)) rfl) ?_
      refine ol_end ?_
      refine E_seq ?_
      refine L_ret ?_
      obtain rfl := Option.some.inj h
      exact E_endO (r := r61) 0 (.inr rfl) (res_tmp rfl res_nil) rfl (fun x h m => rfl) (fun x => rfl)
    · obtain rfl := Option.some.inj (elimR h)
      exact J_up (fun s hs => hs)
end Ev
end Go.Proofs.Ytlcfdmjkbaegpaa
