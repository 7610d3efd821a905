/- Functions of the program as functions on data, and that they are. -/
import Derived.Test.YtjomjfjbpcafhaaDoorEvZ
import Derived.Test.YtjomjfjbpcafhaaDoorLf5
import Derived.Test.YtjomjfjbpcafhaaDoorLy1
namespace Go.Proofs.YtjomjfjbpcafhaaDoor
namespace Ev
open Go
set_option linter.unusedVariables false
set_option linter.unusedSimpArgs false
set_option maxRecDepth 100000
set_option maxHeartbeats 1000000
attribute [local irreducible] OpsL StL TnL WpL EndL
noncomputable def ref09_Part_b1 (n3 : Int) (n4 : Int) (n8 : Int) (s9 : Sl (Int × Int)) (a : Int × (List (Int × Int))) : Option ((Int × (List (Int × Int))) ⊕ ((List (Int × Int)) ⊕ (Int × (Sl (Int × Int))))) :=
  match a with
  | (n39, l40) => (if n39 < ((s9.l.length : Nat) : Int) then ((atS 2 s9 n39).bind fun (n45, n46) => (if n45 ≥ (maxI n3 0) then (if n45 < (minI n4 n8) then ((app l40 ([((IntKind.i64.wrap (n45 - (maxI n3 0))), n46)] : List (Int × Int))).bind fun _ => some (.inl ((IntKind.i64.wrap (n39 + 1)), (l40 ++ ([((IntKind.i64.wrap (n45 - (maxI n3 0))), n46)] : List (Int × Int)))))) else some (.inl ((IntKind.i64.wrap (n39 + 1)), l40))) else some (.inl ((IntKind.i64.wrap (n39 + 1)), l40)))) else some (.inr (.inl l40)))
noncomputable def ref09_Part (a0 : Int × (Sl (Int × Int))) (n3 : Int) (n4 : Int) : Option ((Int × (Sl (Int × Int)))) :=
  match a0 with
  | (n1, s2) => ((ref09_Sure (n1, s2)).bind fun (n8, s9) => (if (minI n4 n8) ≤ (maxI n3 0) then some (0, (⟨false, 0, []⟩ : Sl (Int × Int))) else ((loopO (ref09_Part_b1 n3 n4 n8 s9) (0, ([] : List (Int × Int)))).bind (Sum.elim (fun l52 => some ((IntKind.i64.wrap ((minI n4 n8) - (maxI n3 0))), (mo 2 l52))) (fun u => some u)))))
theorem ref09_Part_r (m : Nat) {a0 : Int × (Sl (Int × Int))} {n3 : Int} {n4 : Int} {out : (Int × (Sl (Int × Int)))} (h : ref09_Part a0 n3 n4 = some out) : RunsP E1 (m + 3) 70 [.agg (r27 a0), .one (iT .i64 n3), .one (iT .i64 n4)] (.fresh, [.agg (r27 out)]) := by
 obtain ⟨n1, s2⟩ := a0
 refine fn_F rfl (by rw [E1_fn]; exact show fiOf Tryd.prog 70 = _ by unfold fiOf; rw [Tryd.func70]; unfold Tryd.f70; rfl) rfl ?_
 dsimp only
 unfold ref09_Part at h
 refine lS (lO ?_)
 refine ol_new rfl rfl rfl (q_box ty28 rfl (cs := [iI n1, sF r38 s2]) rfl rfl) (fun k5 => ?_)
 refine ol_new rfl rfl rfl (q_alloc ty28 (row := [iI 0, nC]) rfl rfl) (fun k6 => ?_)
 refine oN ?_
 refine pq (ql (.agg [iI n1, sF r38 s2]) 1 sz28) ?_
 obtain ⟨⟨n8, s9⟩, h7, h⟩ := bindS h
 refine ol_putX rfl rfl rfl (q_callX (v := fun fr10 => .agg [iI n8, .p fr10 (Sl.t r38 s9)]) (args := [.agg [iI n1, sF r38 s2]]) (ref09_Sure_r (m + 0) h7) rfl rfl (vw_cons (vd_agg (vc_cons vc_v (vc_cons vc_s vc_nil))) vw_nil) rfl rfl (fun fr => rfl)) (fun fr10 => ?_)
 refine ow [[iI n8, .p fr10 (Sl.t r38 s9)]] 1 sz28 ?_
 refine oE (eS (lS ?_))
 refine L_still (by kernel_rfl) ?_
 refine sq (qm (iO n3)) ?_
 refine sq ((q_minmax rfl rfl ty3 rfl rfl).2 rfl) ?_
 refine sq (qm (iO n4)) ?_
 refine sq (q_fieldP rfl fa28_0 rfl) ?_
 refine sq (ql (iO n8) 1 sz3) ?_
 refine sq ((q_minmax rfl rfl ty3 rfl rfl).1 rfl) ?_
 refine sq (qa (iO (maxI n3 0))) ?_
 refine sq (qa (iO (minI n4 n8))) ?_
 refine st_end (eS (lS (lS (lO ?_))))
 refine pq (qm (iO (minI n4 n8))) ?_
 refine pq (qm (iO (maxI n3 0))) ?_
 by_cases c11 : (minI n4 n8) ≤ (maxI n3 0)
 replace h := ifT c11 h
 refine pq (qb (p_leq_tZ c11)) ?_
 refine oE (eS (cT rfl (lS (lO ?_))))
 refine pq (q_build (cs := [iI 0, nC]) ty28 rfl pl28 rfl) ?_
 refine ow [[iI 0, nC]] 0 sz28 ?_
 refine oE (eS (lR (eR ?_)))
 obtain rfl := sj h
 exact E_endF (.inr rfl) (res_cell (d := .agg [iI 0, nC]) 0 rfl sz28 rfl rfl rfl rfl res_nil) (vw_cons (vd_agg (vc_cons vc_v (vc_cons vc_s vc_nil))) vw_nil) oG rfl rfl
 replace h := ifF c11 h
 refine pq (qb (p_leq_fZ c11)) ?_
 refine oE (eS (cF rfl (lK (eS (lS (lO ?_))))))
 refine pq (qm (iO (minI n4 n8))) ?_
 refine pq (qm (iO (maxI n3 0))) ?_
 refine pq (qb p_subY) ?_
 refine pq (q_build (cs := [iI (IntKind.i64.wrap ((minI n4 n8) - (maxI n3 0))), nC]) ty28 rfl pl28 rfl) ?_
 refine ol_new rfl rfl rfl (q_alloc ty28 (row := [iI 0, nC]) rfl rfl) (fun k12 => ?_)
 refine ow [[iI (IntKind.i64.wrap ((minI n4 n8) - (maxI n3 0))), nC]] 0 sz28 ?_
 refine oE (eS (lS (lS (lO ?_))))
 refine pq (qa (iO 0)) ?_
 refine oE (eS (lB ?_))
 refine L_addM (α := Int × Int) r38 2 ?_
 let S1 : (Int × (List (Int × Int))) → Nat → (Nat → D) → Nat → D := fun a kt g => ups g [(1, .one (iI (maxI n3 0))), (2, .one (iI (minI n4 n8))), (3, .one (.ptr k5 0 0)), (6, .one (.ptr k6 0 0)), (7, .one (.ptr k12 0 0)), (8, .one (iI a.1))]
 let SL1 : (Int × (List (Int × Int))) → Nat → BL := fun a kt => ([[(k5, 2, [[iI n8, .p fr10 (Sl.t r38 s9)]])], [(k6, 2, [[iI 0, nC]])], [(k12, 2, [[iI (IntKind.i64.wrap ((minI n4 n8) - (maxI n3 0))), moC a.2 kt]])], moL r38 2 a.2 kt] : BL)
 let G1 : (Int × (Sl (Int × Int))) → Ex → St → Prop := fun u => endQ E1 [.cell 6 28] (.fresh, [.agg (r27 u)])
 let Sx1 : (List (Int × Int)) → Nat → (Nat → D) → Nat → D := fun a kt g => ups g [(6, .one (.ptr k6 0 0)), (7, .one (.ptr k12 0 0))]
 let SLx1 : (List (Int × Int)) → Nat → BL := fun a kt => ([[(k6, 2, [[iI 0, nC]])], [(k12, 2, [[iI (IntKind.i64.wrap ((minI n4 n8) - (maxI n3 0))), moC a kt]])], moL r38 2 a kt] : BL)
 let J1 : ((List (Int × Int)) ⊕ (Int × (Sl (Int × Int)))) → Ex → St → Prop := JX 71 0 Sx1 SLx1 G1
 refine L_loopS (ref09_Part_b1 n3 n4 n8 s9) S1 SL1 J1 JX_n (0, ([] : List (Int × Int))) h 1037 (ups_self ⟨rfl, rfl, rfl, rfl, rfl, rfl, trivial⟩) [3, 2, 1, 0] (by decide) rfl ?_ ?_
 rintro ⟨n39, l40⟩ k41 g out h
 change ref09_Part_b1 n3 n4 n8 s9 (n39, l40) = some out at h
 unfold ref09_Part_b1 at h
 refine lS (lS (lO ?_))
 refine pq (qm (iO n39)) ?_
 refine pq (q_fieldP rfl fa28_1 rfl) ?_
 refine pq (ql (.one (.p fr10 (Sl.t r38 s9))) 0 sz26) ?_
 refine pq (q_lenS rfl ty26 rfl rfl rfl rfl) ?_
 by_cases c42 : n39 < ((s9.l.length : Nat) : Int)
 replace h := ifT c42 h
 refine pq (qb (p_lss_tZ c42)) ?_
 refine oE (eS (cT rfl (lK (eS (lS (lB (lS (lO ?_))))))))
 refine pq (q_fieldP rfl fa28_1 rfl) ?_
 refine pq (ql (.one (.p fr10 (Sl.t r38 s9))) 0 sz26) ?_
 refine pq (qm (iO n39)) ?_
 obtain ⟨⟨n45, n46⟩, h44, h⟩ := bindS h
 obtain ⟨h44a, h44b, h44⟩ := atS_some h44
 refine pq (q_ixS rfl rfl h44a h44 (el26.trans (congrArg some h44b.symm))) ?_
 refine pq (q_fieldI rfl fa39_0 rfl) ?_
 refine pq (q_loadI (v := iO n45) rfl sz3 (map_get h44) rfl rfl) ?_
 refine pq (qm (iO (maxI n3 0))) ?_
 by_cases c47 : n45 ≥ (maxI n3 0)
 replace h := ifT c47 h
 refine pq (qb (p_geq_tZ c47)) ?_
 refine pq (qm bt) ?_
 refine pq (q_fieldP rfl fa28_1 rfl) ?_
 refine pq (ql (.one (.p fr10 (Sl.t r38 s9))) 0 sz26) ?_
 refine pq (qm (iO n39)) ?_
 refine pq (q_ixS rfl rfl h44a h44 (el26.trans (congrArg some h44b.symm))) ?_
 refine pq (q_fieldI rfl fa39_0 rfl) ?_
 refine pq (q_loadI (v := iO n45) rfl sz3 (map_get h44) rfl rfl) ?_
 refine pq (qm (iO (minI n4 n8))) ?_
 by_cases c48 : n45 < (minI n4 n8)
 replace h := ifT c48 h
 refine pq (qb (p_lss_tZ c48)) ?_
 refine pq (qpt bt) ?_
 refine oE (eS (cT rfl ?_))
 refine L_norm (L2 := ([[(k5, 2, [[iI n8, .p fr10 (Sl.t r38 s9)]])], [(k6, 2, [[iI 0, nC]])], [(k12, 2, [[iI (IntKind.i64.wrap ((minI n4 n8) - (maxI n3 0))), moC l40 k41]])], moL r38 2 l40 k41] : BL)) [0, 1, 2, 3] (by decide) rfl ?_
 refine L_turn 21 rfl [[], [], [], [], [], [], [], [], [], [], [], [], [], [], [], [], [], [], moK l40 k41, [], [k12]] [(false, []), (false, []), (false, []), (false, []), (false, []), (false, []), (false, []), (false, []), (false, []), (false, []), (false, []), (false, []), (false, []), (false, []), (false, []), (false, []), (false, []), (true, []), (true, []), (false, []), (false, [])] [[2, 3, 4, 5, 6, 7, 8, 9, 10, 11, 12, 13, 14, 15, 16, 17], [2, 3, 4, 5, 6, 7, 8, 9, 10, 11, 12, 13, 14, 15, 16, 17], [0, 1, 4, 8, 10, 11, 12, 13, 14, 15], [0, 1, 4, 8, 10, 11, 12, 13, 14, 15], [0, 1, 2, 3, 8, 10, 11, 12, 13, 14, 15], [0, 1, 8, 10, 11, 12, 13, 14, 15], [0, 1, 8, 10, 11, 12, 13, 14, 15], [0, 1, 8, 10, 11, 12, 13, 14, 15], [0, 1, 2, 3, 4, 5, 6, 7, 10, 11, 12, 13, 14, 15], [0, 1, 10, 11, 12, 13, 14, 15], [0, 1, 2, 3, 4, 5, 6, 7, 8, 9, 12], [0, 1, 2, 3, 4, 5, 6, 7, 8, 9, 12], [0, 1, 2, 3, 4, 5, 6, 7, 8, 9, 10, 11], [0, 1, 2, 3, 4, 5, 6, 7, 8, 9], [0, 1, 2, 3, 4, 5, 6, 7, 8, 9], [0, 1, 2, 3, 4, 5, 6, 7, 8, 9], [0, 1], [0, 1], [], [], []] (by kernel_rfl) (by kernel_rfl) (by kernel_rfl) ?_ (fun bb49 hlt hnd => ?_)
 intro bb49 hlt hnd
 have e_k5 : k5 < bb49 := key_lt hlt 0 rfl
 have e_k6 : k6 < bb49 := key_lt hlt 1 rfl
 have e_k12 : k12 < bb49 := key_lt hlt 2 rfl
 have e_k41 : l40 = [] ∨ k41 < bb49 := key_ltM (r := r38) (w := 2) hlt 3 rfl
 have f_k41 := moK_lt e_k41
 have d_k12_k5 : k12 ≠ k5 := key_ne hnd 2 0 rfl rfl rfl
 have d_k12_k6 : k12 ≠ k6 := key_ne hnd 2 1 rfl rfl rfl
 have d_k41_k5 : k5 ∉ moK l40 k41 := key_neM (r := r38) (w := 2) hnd 3 0 rfl rfl rfl
 have g_k41_k5 := moK_ne d_k41_k5
 have d_k41_k6 : k6 ∉ moK l40 k41 := key_neM (r := r38) (w := 2) hnd 3 1 rfl rfl rfl
 have g_k41_k6 := moK_ne d_k41_k6
 have d_k41_k12 : k12 ∉ moK l40 k41 := key_neM (r := r38) (w := 2) hnd 3 2 rfl rfl rfl
 have g_k41_k12 := moK_ne d_k41_k12
 exact ⟨(by first | (simp [DJ]; done) | (simp [DJ]; omega) | (simp [DJ]; assumption) | (simp_all [DJ]; done) | (simp_all [DJ]; omega)), (by first | (simp [DJ]; done) | (simp [DJ]; omega) | (simp [DJ]; assumption) | (simp_all [DJ]; done) | (simp_all [DJ]; omega))⟩
 have e_k5 : k5 < bb49 := key_lt hlt 0 rfl
 have e_k6 : k6 < bb49 := key_lt hlt 1 rfl
 have e_k12 : k12 < bb49 := key_lt hlt 2 rfl
 have e_k41 : l40 = [] ∨ k41 < bb49 := key_ltM (r := r38) (w := 2) hlt 3 rfl
 have f_k41 := moK_lt e_k41
 have d_k12_k5 : k12 ≠ k5 := key_ne hnd 2 0 rfl rfl rfl
 have d_k12_k6 : k12 ≠ k6 := key_ne hnd 2 1 rfl rfl rfl
 have d_k41_k5 : k5 ∉ moK l40 k41 := key_neM (r := r38) (w := 2) hnd 3 0 rfl rfl rfl
 have g_k41_k5 := moK_ne d_k41_k5
 have d_k41_k6 : k6 ∉ moK l40 k41 := key_neM (r := r38) (w := 2) hnd 3 1 rfl rfl rfl
 have g_k41_k6 := moK_ne d_k41_k6
 have d_k41_k12 : k12 ∉ moK l40 k41 := key_neM (r := r38) (w := 2) hnd 3 2 rfl rfl rfl
 have g_k41_k12 := moK_ne d_k41_k12
 refine tq [] rfl hmn (q_fieldP rfl fa28_1 rfl) ?_
 refine tq [2] rfl (hmc (nin_cons (ne_new (key_lt hlt 2 rfl)) nin_nil) hmn) (ql (.one (moC l40 k41)) 0 sz26) ?_
 refine tq [] rfl (hm0 rfl) (q_fieldP rfl fa28_1 rfl) ?_
 refine tq [0] rfl (hm0 rfl) (ql (.one (.p fr10 (Sl.t r38 s9))) 0 sz26) ?_
 refine tq [] rfl (hm0 rfl) (qm (iO n39)) ?_
 refine tq [] rfl (hm0 rfl) (q_ixS rfl rfl h44a h44 (el26.trans (congrArg some h44b.symm))) ?_
 refine tq [] rfl (hm0 rfl) (q_fieldI rfl fa39_0 rfl) ?_
 refine tq [] rfl (hm0 rfl) (q_loadI (v := iO n45) rfl sz3 (map_get h44) rfl rfl) ?_
 refine tq [] rfl (hm0 rfl) (qm (iO (maxI n3 0))) ?_
 refine tn_put rfl rfl rfl [] (by decide) rfl (hm0 rfl) rfl (qb p_subY) ?_
 refine tq [] rfl (hm0 rfl) (q_fieldP rfl fa28_1 rfl) ?_
 refine tq [0] rfl (hm0 rfl) (ql (.one (.p fr10 (Sl.t r38 s9))) 0 sz26) ?_
 refine tq [] rfl (hm0 rfl) (qm (iO n39)) ?_
 refine tq [] rfl (hm0 rfl) (q_ixS rfl rfl h44a h44 (el26.trans (congrArg some h44b.symm))) ?_
 refine tq [] rfl (hm0 rfl) (q_fieldI rfl fa39_1 rfl) ?_
 refine tq [] rfl (hm0 rfl) (q_loadI (v := iO n46) rfl sz2 (map_get h44) rfl rfl) ?_
 refine tq [] rfl (hm0 rfl) (q_build (cs := [iI (IntKind.i64.wrap (n45 - (maxI n3 0))), iI n46]) ty39 rfl pl39 rfl) ?_
 refine tn_new rfl rfl rfl [] (by decide) rfl (hm0 rfl) rfl rfl (hkc (ne_new (key_lt hlt 0 rfl)) (hkc (ne_new (key_lt hlt 1 rfl)) (hkc (ne_new (key_lt hlt 2 rfl)) (hkM (e_k41.imp id fun h => by omega) hkn)))) (q_bslice (cs := [iI (IntKind.i64.wrap (n45 - (maxI n3 0))), iI n46]) (es := (([((IntKind.i64.wrap (n45 - (maxI n3 0))), n46)] : List (Int × Int))).map (rowC r38)) ty26 rfl ty39 rfl rfl rfl rfl rfl) ?_
 obtain ⟨_, h51, h⟩ := bindS h
 obtain ⟨h51b, rfl⟩ := app_some h51
 refine tn_appM (r := r38) (l := l40) 0 4 rfl rfl rfl rfl [4, 0] (by decide) rfl (hm0 rfl) rfl rfl (hkc (ne_add rfl) (hkc (ne_new (key_lt hlt 0 rfl)) (hkc (ne_new (key_lt hlt 1 rfl)) (hkc (ne_new (key_lt hlt 2 rfl)) (hkM (e_k41.imp id fun h => by omega) hkn))))) rfl rfl (el_ownM (l := ([((IntKind.i64.wrap (n45 - (maxI n3 0))), n46)] : List (Int × Int))) 1 rfl) rfl rfl h51 (fun y => rfl) el26 ty26 rfl rfl rfl rfl rfl ?_
 refine tq [] rfl (hm0 rfl) (q_fieldP rfl fa28_1 rfl) ?_
 refine tn_wr rfl rfl [4] (by decide) rfl (hm0 rfl) rfl (q_store (es' := [[iI (IntKind.i64.wrap ((minI n4 n8) - (maxI n3 0))), moC (l40 ++ ([((IntKind.i64.wrap (n45 - (maxI n3 0))), n46)] : List (Int × Int))) (bb49 + 18)]]) 0 rfl rfl rfl sz26 rfl rfl rfl rfl rfl) (q := 4) rfl rfl ?_
 refine tn_end (bN (eS (lO ?_)))
 refine pq (qm (iO n39)) ?_
 refine pq (qb p_addY) ?_
 refine pq (qa (iO (IntKind.i64.wrap (n39 + 1)))) ?_
 refine oE ?_
 obtain rfl := sj h
 exact E_next (bb49 + 18) (ups_self ⟨rfl, rfl, rfl, rfl, rfl, rfl, trivial⟩) [2, 3, 4, 0] (by decide) rfl
 replace h := ifF c48 h
 refine pq (qb (p_lss_fZ c48)) ?_
 refine pq (qpt bf) ?_
 refine oE (eS (cF rfl (lK (bN (eS (lO ?_))))))
 refine pq (qm (iO n39)) ?_
 refine pq (qb p_addY) ?_
 refine pq (qa (iO (IntKind.i64.wrap (n39 + 1)))) ?_
 refine oE ?_
 obtain rfl := sj h
 exact E_next k41 (ups_self ⟨rfl, rfl, rfl, rfl, rfl, rfl, trivial⟩) [0, 1, 2, 3] (by decide) rfl
 replace h := ifF c47 h
 refine pq (qb (p_geq_fZ c47)) ?_
 refine pq (qm bf) ?_
 iterate 8 refine os ?_
 refine pq (qpf bf) ?_
 refine oE (eS (cF rfl (lK (bN (eS (lO ?_))))))
 refine pq (qm (iO n39)) ?_
 refine pq (qb p_addY) ?_
 refine pq (qa (iO (IntKind.i64.wrap (n39 + 1)))) ?_
 refine oE ?_
 obtain rfl := sj h
 exact E_next k41 (ups_self ⟨rfl, rfl, rfl, rfl, rfl, rfl, trivial⟩) [0, 1, 2, 3] (by decide) rfl
 replace h := ifF c42 h
 refine pq (qb (p_lss_fZ c42)) ?_
 refine oE (eS (cF rfl (L_exit ?_)))
 refine E_seqX ?_
 obtain rfl := sj h
 refine E_out ?_
 exact (E_exit k41 (ups_self ⟨rfl, rfl, trivial⟩) [1, 2, 3] (by decide) rfl)
 rintro (l52 | u) h
 refine J_x (fun k53 g => ?_)
 replace h := elimL h
 refine bH (eS (lS (lO ?_)))
 refine pq (ql (.agg [iI (IntKind.i64.wrap ((minI n4 n8) - (maxI n3 0))), moC l52 k53]) 1 sz28) ?_
 refine ow [[iI (IntKind.i64.wrap ((minI n4 n8) - (maxI n3 0))), moC l52 k53]] 0 sz28 ?_
 refine oE (eS (lR ?_))
 obtain rfl := sj h
 exact E_endF (.inr rfl) (res_cell (d := .agg [iI (IntKind.i64.wrap ((minI n4 n8) - (maxI n3 0))), moC l52 k53]) 0 rfl sz28 rfl rfl rfl rfl res_nil) (vw_cons (vd_agg (vc_cons vc_v (vc_cons (vc_M (r := r38) 2 rfl (fun x h m => rfl)) vc_nil))) vw_nil) oG rfl rfl
 obtain rfl := Option.some.inj (elimR h)
 exact J_up (fun s hs => hs)

noncomputable def ref10_Part (a0 : Int × Sl (Int) × Sl (Int)) (n4 : Int) (n5 : Int) : Option ((Int × Sl (Int) × Sl (Int))) :=
  match a0 with
  | (n1, s2, s3) => ((ref10_Back (n1, s2, s3)).bind fun (n9, s10) => ((ref09_Part (n9, s10) n4 n5).bind fun (n12, s13) => ((ref10_Of (n12, s13)).bind fun (n15, s16, s17) => some (n15, s16, s17))))
theorem ref10_Part_r (m : Nat) {a0 : Int × Sl (Int) × Sl (Int)} {n4 : Int} {n5 : Int} {out : (Int × Sl (Int) × Sl (Int))} (h : ref10_Part a0 n4 n5 = some out) : RunsP E1 (m + 6) 33 [.agg (r24 a0), .one (iT .i64 n4), .one (iT .i64 n5)] (.fresh, [.agg (r24 out)]) := by
 obtain ⟨n1, s2, s3⟩ := a0
 refine fn_F rfl (by rw [E1_fn]; exact show fiOf Tryd.prog 33 = _ by unfold fiOf; rw [Tryd.func33]; unfold Tryd.f33; rfl) rfl ?_
 dsimp only
 unfold ref10_Part at h
 refine lS (lO ?_)
 refine ol_new rfl rfl rfl (q_box ty25 rfl (cs := [iI n1, sF r85 s2, sF r2 s3]) rfl rfl) (fun k6 => ?_)
 refine ol_new rfl rfl rfl (q_alloc ty25 (row := [iI 0, nC, nC]) rfl rfl) (fun k7 => ?_)
 refine oN ?_
 refine pq (ql (.agg [iI n1, sF r85 s2, sF r2 s3]) 1 sz25) ?_
 obtain ⟨⟨n9, s10⟩, h8, h⟩ := bindS h
 refine pq (qc (.agg [iI n9, sC r38 s10]) [.agg [iI n1, sF r85 s2, sF r2 s3]] (ref10_Back_r (m + 0) h8) (vw_cons (vd_agg (vc_cons vc_v (vc_cons vc_s (vc_cons vc_s vc_nil)))) vw_nil)) ?_
 refine pq (qm (iO n4)) ?_
 refine pq (qm (iO n5)) ?_
 obtain ⟨⟨n12, s13⟩, h11, h⟩ := bindS h
 refine pq (qc (.agg [iI n12, sC r38 s13]) [.agg [iI n9, sC r38 s10], iO n4, iO n5] (ref09_Part_r (m + 2) h11) (vw_cons (vd_agg (vc_cons vc_v (vc_cons vc_s vc_nil))) (vw_cons (vd_one vc_v) (vw_cons (vd_one vc_v) vw_nil)))) ?_
 obtain ⟨⟨n15, s16, s17⟩, h14, h⟩ := bindS h
 refine pq (qc (.agg [iI n15, sC r85 s16, sC r2 s17]) [.agg [iI n12, sC r38 s13]] (ref10_Of_r (m + 1) h14) (vw_cons (vd_agg (vc_cons vc_v (vc_cons vc_s vc_nil))) vw_nil)) ?_
 refine ow [[iI n15, sC r85 s16, sC r2 s17]] 0 sz25 ?_
 refine oE (eS (lR ?_))
 obtain rfl := sj h
 exact E_endF (.inr rfl) (res_cell (d := .agg [iI n15, sC r85 s16, sC r2 s17]) 0 rfl sz25 rfl rfl rfl rfl res_nil) (vw_cons (vd_agg (vc_cons vc_v (vc_cons vc_s (vc_cons vc_s vc_nil)))) vw_nil) oG rfl rfl
end Ev
end Go.Proofs.YtjomjfjbpcafhaaDoor
