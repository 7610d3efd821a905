/- Functions of the program as functions on data, and that they are. -/
import Derived.Test.YtjomjfjbpcafhaaDoorEvZ
import Derived.Test.YtjomjfjbpcafhaaDoorLf1
import Derived.Test.YtjomjfjbpcafhaaDoorLf2
import Derived.Test.YtjomjfjbpcafhaaDoorLf5
import Derived.Test.YtjomjfjbpcafhaaDoorLy1
namespace Go.Proofs.YtjomjfjbpcafhaaDoor
namespace Ev
open Go
set_option linter.unusedVariables false
set_option linter.unusedSimpArgs false
set_option maxRecDepth 100000
set_option maxHeartbeats 1000000
attribute [local irreducible] OpsL StL TnL WpL EndL
noncomputable def ref09_Put_b1 (n3 : Int) (s9 : Sl (Int × Int)) (a : Int × (List (Int × Int))) : Option ((Int × (List (Int × Int))) ⊕ ((List (Int × Int)) ⊕ (Int × (Sl (Int × Int))))) :=
  match a with
  | (n37, l38) => (if n37 < ((s9.l.length : Nat) : Int) then ((atS 2 s9 n37).bind fun (n43, n44) => (if n43 ≠ n3 then ((app l38 ([(n43, n44)] : List (Int × Int))).bind fun _ => some (.inl ((IntKind.i64.wrap (n37 + 1)), (l38 ++ ([(n43, n44)] : List (Int × Int)))))) else some (.inl ((IntKind.i64.wrap (n37 + 1)), l38)))) else some (.inr (.inl l38)))
noncomputable def ref09_Put_b2 (n3 : Int) (s9 : Sl (Int × Int)) (a : Int × (List (Int × Int))) : Option ((Int × (List (Int × Int))) ⊕ ((List (Int × Int)) ⊕ (Int × (Sl (Int × Int))))) :=
  match a with
  | (n76, l77) => (if n76 < ((s9.l.length : Nat) : Int) then ((atS 2 s9 n76).bind fun (n82, n83) => (if n82 ≠ n3 then ((app l77 ([(n82, n83)] : List (Int × Int))).bind fun _ => some (.inl ((IntKind.i64.wrap (n76 + 1)), (l77 ++ ([(n82, n83)] : List (Int × Int)))))) else some (.inl ((IntKind.i64.wrap (n76 + 1)), l77)))) else some (.inr (.inl l77)))
noncomputable def ref09_Put_b3 (n3 : Int) (n4 : Int) (s9 : Sl (Int × Int)) (a : Bool × Int × (List (Int × Int))) : Option ((Bool × Int × (List (Int × Int))) ⊕ ((Bool × (List (Int × Int))) ⊕ (Int × (Sl (Int × Int))))) :=
  match a with
  | (b140, n141, l142) => (if n141 < ((s9.l.length : Nat) : Int) then (if b140 = true then ((atS 2 s9 n141).bind fun (n163, n164) => (if n163 ≠ n3 then ((app l142 ([(n163, n164)] : List (Int × Int))).bind fun _ => some (.inl (true, (IntKind.i64.wrap (n141 + 1)), (l142 ++ ([(n163, n164)] : List (Int × Int)))))) else some (.inl (true, (IntKind.i64.wrap (n141 + 1)), l142)))) else ((atS 2 s9 n141).bind fun (n147, n148) => (if n147 ≥ n3 then ((app l142 ([(n3, n4)] : List (Int × Int))).bind fun _ => (if n147 ≠ n3 then ((app (l142 ++ ([(n3, n4)] : List (Int × Int))) ([(n147, n148)] : List (Int × Int))).bind fun _ => some (.inl (true, (IntKind.i64.wrap (n141 + 1)), ((l142 ++ ([(n3, n4)] : List (Int × Int))) ++ ([(n147, n148)] : List (Int × Int)))))) else some (.inl (true, (IntKind.i64.wrap (n141 + 1)), (l142 ++ ([(n3, n4)] : List (Int × Int))))))) else (if n147 ≠ n3 then ((app l142 ([(n147, n148)] : List (Int × Int))).bind fun _ => some (.inl (false, (IntKind.i64.wrap (n141 + 1)), (l142 ++ ([(n147, n148)] : List (Int × Int)))))) else some (.inl (false, (IntKind.i64.wrap (n141 + 1)), l142)))))) else some (.inr (.inl (b140, l142))))
noncomputable def ref09_Put (a0 : Int × (Sl (Int × Int))) (n3 : Int) (n4 : Int) : Option ((Int × (Sl (Int × Int)))) :=
  match a0 with
  | (n1, s2) => ((ref09_Sure (n1, s2)).bind fun (n8, s9) => (if n3 < 0 then ((loopO (ref09_Put_b1 n3 s9) (0, ([] : List (Int × Int)))).bind (Sum.elim (fun l49 => some (n8, (mo 2 l49))) (fun u => some u))) else (if n3 ≥ n8 then ((loopO (ref09_Put_b2 n3 s9) (0, ([] : List (Int × Int)))).bind (Sum.elim (fun l88 => some (n8, (mo 2 l88))) (fun u => some u))) else ((loopO (ref09_Put_b3 n3 n4 s9) (false, 0, ([] : List (Int × Int)))).bind (Sum.elim (fun ⟨b169, l170⟩ => (if b169 = true then some (n8, (mo 2 l170)) else ((app l170 ([(n3, n4)] : List (Int × Int))).bind fun _ => some (n8, (mo 2 (l170 ++ ([(n3, n4)] : List (Int × Int)))))))) (fun u => some u))))))
theorem ref09_Put_r (m : Nat) {a0 : Int × (Sl (Int × Int))} {n3 : Int} {n4 : Int} {out : (Int × (Sl (Int × Int)))} (h : ref09_Put a0 n3 n4 = some out) : RunsP E1 (m + 3) 64 [.agg (r27 a0), .one (iT .i64 n3), .one (iT .i64 n4)] (.fresh, [.agg (r27 out)]) := by
 obtain ⟨n1, s2⟩ := a0
 refine fn_F rfl (by rw [E1_fn]; exact show fiOf Tryd.prog 64 = _ by unfold fiOf; rw [Tryd.func64]; unfold Tryd.f64; rfl) rfl ?_
 dsimp only
 unfold ref09_Put at h
 refine lS (lO ?_)
 refine ol_new rfl rfl rfl (q_box ty28 rfl (cs := [iI n1, sF r38 s2]) rfl rfl) (fun k5 => ?_)
 refine ol_new rfl rfl rfl (q_alloc ty28 (row := [iI 0, nC]) rfl rfl) (fun k6 => ?_)
 refine oN ?_
 refine pq (ql (.agg [iI n1, sF r38 s2]) 1 sz28) ?_
 obtain ⟨⟨n8, s9⟩, h7, h⟩ := bindS h
 refine ol_putX rfl rfl rfl (q_callX (v := fun fr10 => .agg [iI n8, .p fr10 (Sl.t r38 s9)]) (args := [.agg [iI n1, sF r38 s2]]) (ref09_Sure_r (m + 0) h7) rfl rfl (vw_cons (vd_agg (vc_cons vc_v (vc_cons vc_s vc_nil))) vw_nil) rfl rfl (fun fr => rfl)) (fun fr10 => ?_)
 refine ow [[iI n8, .p fr10 (Sl.t r38 s9)]] 1 sz28 ?_
 refine oN ?_
 refine pq (q_fieldP rfl fa28_0 rfl) ?_
 refine pq (ql (iO n8) 1 sz3) ?_
 refine pq (q_build (cs := [iI n8, nC]) ty28 rfl pl28 rfl) ?_
 refine ol_new rfl rfl rfl (q_alloc ty28 (row := [iI 0, nC]) rfl rfl) (fun k11 => ?_)
 refine ow [[iI n8, nC]] 0 sz28 ?_
 refine oN ?_
 refine pq (qm (iO n3)) ?_
 by_cases c12 : n3 < 0
 replace h := ifT c12 h
 refine pq (qb (p_lss_tZ c12)) ?_
 refine pq (qm bt) ?_
 iterate 4 refine os ?_
 refine pq (qpt bt) ?_
 refine pq (qa bt) ?_
 refine oE (eS (lS (lS (lO ?_))))
 refine pq (qa (iO 0)) ?_
 refine oE (eS (lB ?_))
 refine L_addM (α := Int × Int) r38 2 ?_
 let S1 : (Int × (List (Int × Int))) → Nat → (Nat → D) → Nat → D := fun a kt g => ups g [(1, iO n3), (2, iO n4), (3, .one (.ptr k5 0 0)), (6, .one (.ptr k6 0 0)), (7, .one (.ptr k11 0 0)), (8, bt), (9, .one (iI a.1))]
 let SL1 : (Int × (List (Int × Int))) → Nat → BL := fun a kt => ([[(k5, 2, [[iI n8, .p fr10 (Sl.t r38 s9)]])], [(k6, 2, [[iI 0, nC]])], [(k11, 2, [[iI n8, moC a.2 kt]])], moL r38 2 a.2 kt] : BL)
 let G1 : (Int × (Sl (Int × Int))) → Ex → St → Prop := fun u => endQ E1 [.cell 6 28] (.fresh, [.agg (r27 u)])
 let Sx1 : (List (Int × Int)) → Nat → (Nat → D) → Nat → D := fun a kt g => ups g [(1, iO n3), (2, iO n4), (6, .one (.ptr k6 0 0)), (7, .one (.ptr k11 0 0)), (8, bt)]
 let SLx1 : (List (Int × Int)) → Nat → BL := fun a kt => ([[(k6, 2, [[iI 0, nC]])], [(k11, 2, [[iI n8, moC a kt]])], moL r38 2 a kt] : BL)
 let J1 : ((List (Int × Int)) ⊕ (Int × (Sl (Int × Int)))) → Ex → St → Prop := JX 79 0 Sx1 SLx1 G1
 refine L_loopS (ref09_Put_b1 n3 s9) S1 SL1 J1 JX_n (0, ([] : List (Int × Int))) h 1035 (ups_self ⟨rfl, rfl, rfl, rfl, rfl, rfl, rfl, trivial⟩) [3, 2, 1, 0] (by decide) rfl ?_ ?_
 rintro ⟨n37, l38⟩ k39 g out h
 change ref09_Put_b1 n3 s9 (n37, l38) = some out at h
 unfold ref09_Put_b1 at h
 refine lS (lS (lO ?_))
 refine pq (qm (iO n37)) ?_
 refine pq (q_fieldP rfl fa28_1 rfl) ?_
 refine pq (ql (.one (.p fr10 (Sl.t r38 s9))) 0 sz26) ?_
 refine pq (q_lenS rfl ty26 rfl rfl rfl rfl) ?_
 by_cases c40 : n37 < ((s9.l.length : Nat) : Int)
 replace h := ifT c40 h
 refine pq (qb (p_lss_tZ c40)) ?_
 refine oE (eS (cT rfl (lK (eS (lS (lB (lS (lS (lO ?_)))))))))
 refine pq (qm bt) ?_
 refine pq (q_not rfl) ?_
 refine pq (qm bf) ?_
 iterate 8 refine os ?_
 refine pq (qpf bf) ?_
 refine oE (eS (cF rfl (lK (eS (lS (lO ?_))))))
 refine pq (q_fieldP rfl fa28_1 rfl) ?_
 refine pq (ql (.one (.p fr10 (Sl.t r38 s9))) 0 sz26) ?_
 refine pq (qm (iO n37)) ?_
 obtain ⟨⟨n43, n44⟩, h42, h⟩ := bindS h
 obtain ⟨h42a, h42b, h42⟩ := atS_some h42
 refine pq (q_ixS rfl rfl h42a h42 (el26.trans (congrArg some h42b.symm))) ?_
 refine pq (q_fieldI rfl fa39_0 rfl) ?_
 refine pq (q_loadI (v := iO n43) rfl sz3 (map_get h42) rfl rfl) ?_
 refine pq (qm (iO n3)) ?_
 by_cases c45 : n43 ≠ n3
 replace h := ifT c45 h
 refine pq (qb (p_neq_tZ c45)) ?_
 refine oE (eS (cT rfl ?_))
 refine L_norm (L2 := ([[(k5, 2, [[iI n8, .p fr10 (Sl.t r38 s9)]])], [(k6, 2, [[iI 0, nC]])], [(k11, 2, [[iI n8, moC l38 k39]])], moL r38 2 l38 k39] : BL)) [0, 1, 2, 3] (by decide) rfl ?_
 refine L_turn 11 rfl [[], [], [], [], [], [], [], [], moK l38 k39, [], [k11]] [(false, []), (false, []), (false, []), (false, []), (false, []), (false, []), (false, []), (true, []), (true, []), (false, []), (false, [])] [[2, 3, 4, 5, 6, 7], [2, 3, 4, 5, 6, 7], [0, 1, 4], [0, 1, 4], [0, 1, 2, 3], [0, 1], [0, 1], [0, 1], [], [], []] (by kernel_rfl) (by kernel_rfl) (by kernel_rfl) ?_ (fun bb46 hlt hnd => ?_)
 intro bb46 hlt hnd
 have e_k5 : k5 < bb46 := key_lt hlt 0 rfl
 have e_k6 : k6 < bb46 := key_lt hlt 1 rfl
 have e_k11 : k11 < bb46 := key_lt hlt 2 rfl
 have e_k39 : l38 = [] ∨ k39 < bb46 := key_ltM (r := r38) (w := 2) hlt 3 rfl
 have f_k39 := moK_lt e_k39
 have d_k11_k5 : k11 ≠ k5 := key_ne hnd 2 0 rfl rfl rfl
 have d_k11_k6 : k11 ≠ k6 := key_ne hnd 2 1 rfl rfl rfl
 have d_k39_k5 : k5 ∉ moK l38 k39 := key_neM (r := r38) (w := 2) hnd 3 0 rfl rfl rfl
 have g_k39_k5 := moK_ne d_k39_k5
 have d_k39_k6 : k6 ∉ moK l38 k39 := key_neM (r := r38) (w := 2) hnd 3 1 rfl rfl rfl
 have g_k39_k6 := moK_ne d_k39_k6
 have d_k39_k11 : k11 ∉ moK l38 k39 := key_neM (r := r38) (w := 2) hnd 3 2 rfl rfl rfl
 have g_k39_k11 := moK_ne d_k39_k11
 exact ⟨(by first | (simp [DJ]; done) | (simp [DJ]; omega) | (simp [DJ]; assumption) | (simp_all [DJ]; done) | (simp_all [DJ]; omega)), (by first | (simp [DJ]; done) | (simp [DJ]; omega) | (simp [DJ]; assumption) | (simp_all [DJ]; done) | (simp_all [DJ]; omega))⟩
 have e_k5 : k5 < bb46 := key_lt hlt 0 rfl
 have e_k6 : k6 < bb46 := key_lt hlt 1 rfl
 have e_k11 : k11 < bb46 := key_lt hlt 2 rfl
 have e_k39 : l38 = [] ∨ k39 < bb46 := key_ltM (r := r38) (w := 2) hlt 3 rfl
 have f_k39 := moK_lt e_k39
 have d_k11_k5 : k11 ≠ k5 := key_ne hnd 2 0 rfl rfl rfl
 have d_k11_k6 : k11 ≠ k6 := key_ne hnd 2 1 rfl rfl rfl
 have d_k39_k5 : k5 ∉ moK l38 k39 := key_neM (r := r38) (w := 2) hnd 3 0 rfl rfl rfl
 have g_k39_k5 := moK_ne d_k39_k5
 have d_k39_k6 : k6 ∉ moK l38 k39 := key_neM (r := r38) (w := 2) hnd 3 1 rfl rfl rfl
 have g_k39_k6 := moK_ne d_k39_k6
 have d_k39_k11 : k11 ∉ moK l38 k39 := key_neM (r := r38) (w := 2) hnd 3 2 rfl rfl rfl
 have g_k39_k11 := moK_ne d_k39_k11
 refine tq [] rfl hmn (q_fieldP rfl fa28_1 rfl) ?_
 refine tq [2] rfl (hmc (nin_cons (ne_new (key_lt hlt 2 rfl)) nin_nil) hmn) (ql (.one (moC l38 k39)) 0 sz26) ?_
 refine tq [] rfl (hm0 rfl) (q_fieldP rfl fa28_1 rfl) ?_
 refine tq [0] rfl (hm0 rfl) (ql (.one (.p fr10 (Sl.t r38 s9))) 0 sz26) ?_
 refine tq [] rfl (hm0 rfl) (qm (iO n37)) ?_
 refine tq [] rfl (hm0 rfl) (q_ixS rfl rfl h42a h42 (el26.trans (congrArg some h42b.symm))) ?_
 refine tq [] rfl (hm0 rfl) (q_loadI (v := .agg [iI n43, iI n44]) rfl sz39 (map_get h42) rfl rfl) ?_
 refine tn_new rfl rfl rfl [] (by decide) rfl (hm0 rfl) rfl rfl (hkc (ne_new (key_lt hlt 0 rfl)) (hkc (ne_new (key_lt hlt 1 rfl)) (hkc (ne_new (key_lt hlt 2 rfl)) (hkM (e_k39.imp id fun h => by omega) hkn)))) (q_bslice (cs := [iI n43, iI n44]) (es := (([(n43, n44)] : List (Int × Int))).map (rowC r38)) ty26 rfl ty39 rfl rfl rfl rfl rfl) ?_
 obtain ⟨_, h48, h⟩ := bindS h
 obtain ⟨h48b, rfl⟩ := app_some h48
 refine tn_appM (r := r38) (l := l38) 0 4 rfl rfl rfl rfl [4, 0] (by decide) rfl (hm0 rfl) rfl rfl (hkc (ne_add rfl) (hkc (ne_new (key_lt hlt 0 rfl)) (hkc (ne_new (key_lt hlt 1 rfl)) (hkc (ne_new (key_lt hlt 2 rfl)) (hkM (e_k39.imp id fun h => by omega) hkn))))) rfl rfl (el_ownM (l := ([(n43, n44)] : List (Int × Int))) 1 rfl) rfl rfl h48 (fun y => rfl) el26 ty26 rfl rfl rfl rfl rfl ?_
 refine tq [] rfl (hm0 rfl) (q_fieldP rfl fa28_1 rfl) ?_
 refine tn_wr rfl rfl [4] (by decide) rfl (hm0 rfl) rfl (q_store (es' := [[iI n8, moC (l38 ++ ([(n43, n44)] : List (Int × Int))) (bb46 + 8)]]) 0 rfl rfl rfl sz26 rfl rfl rfl rfl rfl) (q := 4) rfl rfl ?_
 refine tn_end (bN (eS (lO ?_)))
 refine pq (qm (iO n37)) ?_
 refine pq (qb p_addY) ?_
 refine pq (qa (iO (IntKind.i64.wrap (n37 + 1)))) ?_
 refine oE ?_
 obtain rfl := sj h
 exact E_next (bb46 + 8) (ups_self ⟨rfl, rfl, rfl, rfl, rfl, rfl, rfl, trivial⟩) [2, 3, 4, 0] (by decide) rfl
 replace h := ifF c45 h
 refine pq (qb (p_neq_fZ c45)) ?_
 refine oE (eS (cF rfl (lK (bN (eS (lO ?_))))))
 refine pq (qm (iO n37)) ?_
 refine pq (qb p_addY) ?_
 refine pq (qa (iO (IntKind.i64.wrap (n37 + 1)))) ?_
 refine oE ?_
 obtain rfl := sj h
 exact E_next k39 (ups_self ⟨rfl, rfl, rfl, rfl, rfl, rfl, rfl, trivial⟩) [0, 1, 2, 3] (by decide) rfl
 replace h := ifF c40 h
 refine pq (qb (p_lss_fZ c40)) ?_
 refine oE (eS (cF rfl (L_exit ?_)))
 refine E_seqX ?_
 obtain rfl := sj h
 refine E_out ?_
 exact (E_exit k39 (ups_self ⟨rfl, rfl, rfl, rfl, rfl, trivial⟩) [1, 2, 3] (by decide) rfl)
 rintro (l49 | u) h
 refine J_x (fun k50 g => ?_)
 replace h := elimL h
 refine bH (eS (lS (lS (lO ?_))))
 refine pq (qm bt) ?_
 refine pq (q_not rfl) ?_
 refine oE (eS (cF rfl (lK (eS (lS (lO ?_))))))
 refine pq (ql (.agg [iI n8, moC l49 k50]) 1 sz28) ?_
 refine ow [[iI n8, moC l49 k50]] 0 sz28 ?_
 refine oE (eS (lR ?_))
 obtain rfl := sj h
 exact E_endF (.inr rfl) (res_cell (d := .agg [iI n8, moC l49 k50]) 0 rfl sz28 rfl rfl rfl rfl res_nil) (vw_cons (vd_agg (vc_cons vc_v (vc_cons (vc_M (r := r38) 2 rfl (fun x h m => rfl)) vc_nil))) vw_nil) oG rfl rfl
 obtain rfl := Option.some.inj (elimR h)
 exact J_up (fun s hs => hs)
 replace h := ifF c12 h
 refine pq (qb (p_lss_fZ c12)) ?_
 refine pq (qm bf) ?_
 refine pq (qm (iO n3)) ?_
 refine pq (q_fieldP rfl fa28_0 rfl) ?_
 refine pq (ql (iO n8) 2 sz3) ?_
 by_cases c51 : n3 ≥ n8
 replace h := ifT c51 h
 refine pq (qb (p_geq_tZ c51)) ?_
 refine pq (qpf bt) ?_
 refine pq (qa bt) ?_
 refine oE (eS (lS (lS (lO ?_))))
 refine pq (qa (iO 0)) ?_
 refine oE (eS (lB ?_))
 refine L_addM (α := Int × Int) r38 2 ?_
 let S2 : (Int × (List (Int × Int))) → Nat → (Nat → D) → Nat → D := fun a kt g => ups g [(1, iO n3), (2, iO n4), (3, .one (.ptr k5 0 0)), (6, .one (.ptr k6 0 0)), (7, .one (.ptr k11 0 0)), (8, bt), (9, .one (iI a.1))]
 let SL2 : (Int × (List (Int × Int))) → Nat → BL := fun a kt => ([[(k5, 2, [[iI n8, .p fr10 (Sl.t r38 s9)]])], [(k6, 2, [[iI 0, nC]])], [(k11, 2, [[iI n8, moC a.2 kt]])], moL r38 2 a.2 kt] : BL)
 let G2 : (Int × (Sl (Int × Int))) → Ex → St → Prop := fun u => endQ E1 [.cell 6 28] (.fresh, [.agg (r27 u)])
 let Sx2 : (List (Int × Int)) → Nat → (Nat → D) → Nat → D := fun a kt g => ups g [(1, iO n3), (2, iO n4), (6, .one (.ptr k6 0 0)), (7, .one (.ptr k11 0 0)), (8, bt)]
 let SLx2 : (List (Int × Int)) → Nat → BL := fun a kt => ([[(k6, 2, [[iI 0, nC]])], [(k11, 2, [[iI n8, moC a kt]])], moL r38 2 a kt] : BL)
 let J2 : ((List (Int × Int)) ⊕ (Int × (Sl (Int × Int)))) → Ex → St → Prop := JX 79 0 Sx2 SLx2 G2
 refine L_loopS (ref09_Put_b2 n3 s9) S2 SL2 J2 JX_n (0, ([] : List (Int × Int))) h 1074 (ups_self ⟨rfl, rfl, rfl, rfl, rfl, rfl, rfl, trivial⟩) [3, 2, 1, 0] (by decide) rfl ?_ ?_
 rintro ⟨n76, l77⟩ k78 g out h
 change ref09_Put_b2 n3 s9 (n76, l77) = some out at h
 unfold ref09_Put_b2 at h
 refine lS (lS (lO ?_))
 refine pq (qm (iO n76)) ?_
 refine pq (q_fieldP rfl fa28_1 rfl) ?_
 refine pq (ql (.one (.p fr10 (Sl.t r38 s9))) 0 sz26) ?_
 refine pq (q_lenS rfl ty26 rfl rfl rfl rfl) ?_
 by_cases c79 : n76 < ((s9.l.length : Nat) : Int)
 replace h := ifT c79 h
 refine pq (qb (p_lss_tZ c79)) ?_
 refine oE (eS (cT rfl (lK (eS (lS (lB (lS (lS (lO ?_)))))))))
 refine pq (qm bt) ?_
 refine pq (q_not rfl) ?_
 refine pq (qm bf) ?_
 iterate 8 refine os ?_
 refine pq (qpf bf) ?_
 refine oE (eS (cF rfl (lK (eS (lS (lO ?_))))))
 refine pq (q_fieldP rfl fa28_1 rfl) ?_
 refine pq (ql (.one (.p fr10 (Sl.t r38 s9))) 0 sz26) ?_
 refine pq (qm (iO n76)) ?_
 obtain ⟨⟨n82, n83⟩, h81, h⟩ := bindS h
 obtain ⟨h81a, h81b, h81⟩ := atS_some h81
 refine pq (q_ixS rfl rfl h81a h81 (el26.trans (congrArg some h81b.symm))) ?_
 refine pq (q_fieldI rfl fa39_0 rfl) ?_
 refine pq (q_loadI (v := iO n82) rfl sz3 (map_get h81) rfl rfl) ?_
 refine pq (qm (iO n3)) ?_
 by_cases c84 : n82 ≠ n3
 replace h := ifT c84 h
 refine pq (qb (p_neq_tZ c84)) ?_
 refine oE (eS (cT rfl ?_))
 refine L_norm (L2 := ([[(k5, 2, [[iI n8, .p fr10 (Sl.t r38 s9)]])], [(k6, 2, [[iI 0, nC]])], [(k11, 2, [[iI n8, moC l77 k78]])], moL r38 2 l77 k78] : BL)) [0, 1, 2, 3] (by decide) rfl ?_
 refine L_turn 11 rfl [[], [], [], [], [], [], [], [], moK l77 k78, [], [k11]] [(false, []), (false, []), (false, []), (false, []), (false, []), (false, []), (false, []), (true, []), (true, []), (false, []), (false, [])] [[2, 3, 4, 5, 6, 7], [2, 3, 4, 5, 6, 7], [0, 1, 4], [0, 1, 4], [0, 1, 2, 3], [0, 1], [0, 1], [0, 1], [], [], []] (by kernel_rfl) (by kernel_rfl) (by kernel_rfl) ?_ (fun bb85 hlt hnd => ?_)
 intro bb85 hlt hnd
 have e_k5 : k5 < bb85 := key_lt hlt 0 rfl
 have e_k6 : k6 < bb85 := key_lt hlt 1 rfl
 have e_k11 : k11 < bb85 := key_lt hlt 2 rfl
 have e_k78 : l77 = [] ∨ k78 < bb85 := key_ltM (r := r38) (w := 2) hlt 3 rfl
 have f_k78 := moK_lt e_k78
 have d_k11_k5 : k11 ≠ k5 := key_ne hnd 2 0 rfl rfl rfl
 have d_k11_k6 : k11 ≠ k6 := key_ne hnd 2 1 rfl rfl rfl
 have d_k78_k5 : k5 ∉ moK l77 k78 := key_neM (r := r38) (w := 2) hnd 3 0 rfl rfl rfl
 have g_k78_k5 := moK_ne d_k78_k5
 have d_k78_k6 : k6 ∉ moK l77 k78 := key_neM (r := r38) (w := 2) hnd 3 1 rfl rfl rfl
 have g_k78_k6 := moK_ne d_k78_k6
 have d_k78_k11 : k11 ∉ moK l77 k78 := key_neM (r := r38) (w := 2) hnd 3 2 rfl rfl rfl
 have g_k78_k11 := moK_ne d_k78_k11
 exact ⟨(by first | (simp [DJ]; done) | (simp [DJ]; omega) | (simp [DJ]; assumption) | (simp_all [DJ]; done) | (simp_all [DJ]; omega)), (by first | (simp [DJ]; done) | (simp [DJ]; omega) | (simp [DJ]; assumption) | (simp_all [DJ]; done) | (simp_all [DJ]; omega))⟩
 have e_k5 : k5 < bb85 := key_lt hlt 0 rfl
 have e_k6 : k6 < bb85 := key_lt hlt 1 rfl
 have e_k11 : k11 < bb85 := key_lt hlt 2 rfl
 have e_k78 : l77 = [] ∨ k78 < bb85 := key_ltM (r := r38) (w := 2) hlt 3 rfl
 have f_k78 := moK_lt e_k78
 have d_k11_k5 : k11 ≠ k5 := key_ne hnd 2 0 rfl rfl rfl
 have d_k11_k6 : k11 ≠ k6 := key_ne hnd 2 1 rfl rfl rfl
 have d_k78_k5 : k5 ∉ moK l77 k78 := key_neM (r := r38) (w := 2) hnd 3 0 rfl rfl rfl
 have g_k78_k5 := moK_ne d_k78_k5
 have d_k78_k6 : k6 ∉ moK l77 k78 := key_neM (r := r38) (w := 2) hnd 3 1 rfl rfl rfl
 have g_k78_k6 := moK_ne d_k78_k6
 have d_k78_k11 : k11 ∉ moK l77 k78 := key_neM (r := r38) (w := 2) hnd 3 2 rfl rfl rfl
 have g_k78_k11 := moK_ne d_k78_k11
 refine tq [] rfl hmn (q_fieldP rfl fa28_1 rfl) ?_
 refine tq [2] rfl (hmc (nin_cons (ne_new (key_lt hlt 2 rfl)) nin_nil) hmn) (ql (.one (moC l77 k78)) 0 sz26) ?_
 refine tq [] rfl (hm0 rfl) (q_fieldP rfl fa28_1 rfl) ?_
 refine tq [0] rfl (hm0 rfl) (ql (.one (.p fr10 (Sl.t r38 s9))) 0 sz26) ?_
 refine tq [] rfl (hm0 rfl) (qm (iO n76)) ?_
 refine tq [] rfl (hm0 rfl) (q_ixS rfl rfl h81a h81 (el26.trans (congrArg some h81b.symm))) ?_
 refine tq [] rfl (hm0 rfl) (q_loadI (v := .agg [iI n82, iI n83]) rfl sz39 (map_get h81) rfl rfl) ?_
 refine tn_new rfl rfl rfl [] (by decide) rfl (hm0 rfl) rfl rfl (hkc (ne_new (key_lt hlt 0 rfl)) (hkc (ne_new (key_lt hlt 1 rfl)) (hkc (ne_new (key_lt hlt 2 rfl)) (hkM (e_k78.imp id fun h => by omega) hkn)))) (q_bslice (cs := [iI n82, iI n83]) (es := (([(n82, n83)] : List (Int × Int))).map (rowC r38)) ty26 rfl ty39 rfl rfl rfl rfl rfl) ?_
 obtain ⟨_, h87, h⟩ := bindS h
 obtain ⟨h87b, rfl⟩ := app_some h87
 refine tn_appM (r := r38) (l := l77) 0 4 rfl rfl rfl rfl [4, 0] (by decide) rfl (hm0 rfl) rfl rfl (hkc (ne_add rfl) (hkc (ne_new (key_lt hlt 0 rfl)) (hkc (ne_new (key_lt hlt 1 rfl)) (hkc (ne_new (key_lt hlt 2 rfl)) (hkM (e_k78.imp id fun h => by omega) hkn))))) rfl rfl (el_ownM (l := ([(n82, n83)] : List (Int × Int))) 1 rfl) rfl rfl h87 (fun y => rfl) el26 ty26 rfl rfl rfl rfl rfl ?_
 refine tq [] rfl (hm0 rfl) (q_fieldP rfl fa28_1 rfl) ?_
 refine tn_wr rfl rfl [4] (by decide) rfl (hm0 rfl) rfl (q_store (es' := [[iI n8, moC (l77 ++ ([(n82, n83)] : List (Int × Int))) (bb85 + 8)]]) 0 rfl rfl rfl sz26 rfl rfl rfl rfl rfl) (q := 4) rfl rfl ?_
 refine tn_end (bN (eS (lO ?_)))
 refine pq (qm (iO n76)) ?_
 refine pq (qb p_addY) ?_
 refine pq (qa (iO (IntKind.i64.wrap (n76 + 1)))) ?_
 refine oE ?_
 obtain rfl := sj h
 exact E_next (bb85 + 8) (ups_self ⟨rfl, rfl, rfl, rfl, rfl, rfl, rfl, trivial⟩) [2, 3, 4, 0] (by decide) rfl
 replace h := ifF c84 h
 refine pq (qb (p_neq_fZ c84)) ?_
 refine oE (eS (cF rfl (lK (bN (eS (lO ?_))))))
 refine pq (qm (iO n76)) ?_
 refine pq (qb p_addY) ?_
 refine pq (qa (iO (IntKind.i64.wrap (n76 + 1)))) ?_
 refine oE ?_
 obtain rfl := sj h
 exact E_next k78 (ups_self ⟨rfl, rfl, rfl, rfl, rfl, rfl, rfl, trivial⟩) [0, 1, 2, 3] (by decide) rfl
 replace h := ifF c79 h
 refine pq (qb (p_lss_fZ c79)) ?_
 refine oE (eS (cF rfl (L_exit ?_)))
 refine E_seqX ?_
 obtain rfl := sj h
 refine E_out ?_
 exact (E_exit k78 (ups_self ⟨rfl, rfl, rfl, rfl, rfl, trivial⟩) [1, 2, 3] (by decide) rfl)
 rintro (l88 | u) h
 refine J_x (fun k89 g => ?_)
 replace h := elimL h
 refine bH (eS (lS (lS (lO ?_))))
 refine pq (qm bt) ?_
 refine pq (q_not rfl) ?_
 refine oE (eS (cF rfl (lK (eS (lS (lO ?_))))))
 refine pq (ql (.agg [iI n8, moC l88 k89]) 1 sz28) ?_
 refine ow [[iI n8, moC l88 k89]] 0 sz28 ?_
 refine oE (eS (lR ?_))
 obtain rfl := sj h
 exact E_endF (.inr rfl) (res_cell (d := .agg [iI n8, moC l88 k89]) 0 rfl sz28 rfl rfl rfl rfl res_nil) (vw_cons (vd_agg (vc_cons vc_v (vc_cons (vc_M (r := r38) 2 rfl (fun x h m => rfl)) vc_nil))) vw_nil) oG rfl rfl
 obtain rfl := Option.some.inj (elimR h)
 exact J_up (fun s hs => hs)
 replace h := ifF c51 h
 refine pq (qb (p_geq_fZ c51)) ?_
 refine pq (qpf bf) ?_
 refine pq (qa bf) ?_
 refine oE (eS (lS (lS (lO ?_))))
 refine pq (qa (iO 0)) ?_
 refine oE (eS (lB ?_))
 refine L_addM (α := Int × Int) r38 2 ?_
 let S3 : (Bool × Int × (List (Int × Int))) → Nat → (Nat → D) → Nat → D := fun a kt g => ups g [(1, iO n3), (2, iO n4), (3, .one (.ptr k5 0 0)), (6, .one (.ptr k6 0 0)), (7, .one (.ptr k11 0 0)), (8, .one (bC a.1)), (9, .one (iI a.2.1))]
 let SL3 : (Bool × Int × (List (Int × Int))) → Nat → BL := fun a kt => ([[(k5, 2, [[iI n8, .p fr10 (Sl.t r38 s9)]])], [(k6, 2, [[iI 0, nC]])], [(k11, 2, [[iI n8, moC a.2.2 kt]])], moL r38 2 a.2.2 kt] : BL)
 let G3 : (Int × (Sl (Int × Int))) → Ex → St → Prop := fun u => endQ E1 [.cell 6 28] (.fresh, [.agg (r27 u)])
 let Sx3 : (Bool × (List (Int × Int))) → Nat → (Nat → D) → Nat → D := fun a kt g => ups g [(1, iO n3), (2, iO n4), (6, .one (.ptr k6 0 0)), (7, .one (.ptr k11 0 0)), (8, .one (bC a.1))]
 let SLx3 : (Bool × (List (Int × Int))) → Nat → BL := fun a kt => ([[(k6, 2, [[iI 0, nC]])], [(k11, 2, [[iI n8, moC a.2 kt]])], moL r38 2 a.2 kt] : BL)
 let J3 : ((Bool × (List (Int × Int))) ⊕ (Int × (Sl (Int × Int)))) → Ex → St → Prop := JX 79 0 Sx3 SLx3 G3
 refine L_loopS (ref09_Put_b3 n3 n4 s9) S3 SL3 J3 JX_n (false, 0, ([] : List (Int × Int))) h 1138 (ups_self ⟨rfl, rfl, rfl, rfl, rfl, rfl, rfl, trivial⟩) [3, 2, 1, 0] (by decide) rfl ?_ ?_
 rintro ⟨b140, n141, l142⟩ k143 g out h
 change ref09_Put_b3 n3 n4 s9 (b140, n141, l142) = some out at h
 unfold ref09_Put_b3 at h
 refine lS (lS (lO ?_))
 refine pq (qm (iO n141)) ?_
 refine pq (q_fieldP rfl fa28_1 rfl) ?_
 refine pq (ql (.one (.p fr10 (Sl.t r38 s9))) 0 sz26) ?_
 refine pq (q_lenS rfl ty26 rfl rfl rfl rfl) ?_
 by_cases c144 : n141 < ((s9.l.length : Nat) : Int)
 replace h := ifT c144 h
 refine pq (qb (p_lss_tZ c144)) ?_
 refine oE (eS (cT rfl (lK (eS (lS (lB (lS (lS (lO ?_)))))))))
 refine pq (qm (bO b140)) ?_
 rcases b140 with _ | _
 replace h := wF h
 refine pq (q_not rfl) ?_
 refine pq (qm bt) ?_
 refine pq (q_fieldP rfl fa28_1 rfl) ?_
 refine pq (ql (.one (.p fr10 (Sl.t r38 s9))) 0 sz26) ?_
 refine pq (qm (iO n141)) ?_
 obtain ⟨⟨n147, n148⟩, h146, h⟩ := bindS h
 obtain ⟨h146a, h146b, h146⟩ := atS_some h146
 refine pq (q_ixS rfl rfl h146a h146 (el26.trans (congrArg some h146b.symm))) ?_
 refine pq (q_fieldI rfl fa39_0 rfl) ?_
 refine pq (q_loadI (v := iO n147) rfl sz3 (map_get h146) rfl rfl) ?_
 refine pq (qm (iO n3)) ?_
 by_cases c149 : n147 ≥ n3
 replace h := ifT c149 h
 refine pq (qb (p_geq_tZ c149)) ?_
 refine pq (qpt bt) ?_
 refine oE (eS (cT rfl (lS (lO ?_))))
 refine pq (q_fieldP rfl fa28_1 rfl) ?_
 refine pq (ql (.one (moC l142 k143)) 2 sz26) ?_
 refine pq (qm (iO n3)) ?_
 refine pq (qm (iO n4)) ?_
 refine pq (q_build (cs := [iI n3, iI n4]) ty39 rfl pl39 rfl) ?_
 refine ol_new rfl rfl rfl (q_bslice (cs := [iI n3, iI n4]) (es := (([(n3, n4)] : List (Int × Int))).map (rowC r38)) ty26 rfl ty39 rfl rfl rfl rfl rfl) (fun k150 => ?_)
 obtain ⟨_, h151, h⟩ := bindS h
 obtain ⟨h151b, rfl⟩ := app_some h151
 refine ol_appM (r := r38) (l := l142) (ys := ([(n3, n4)] : List (Int × Int))) 4 rfl rfl rfl rfl rfl rfl (el_ownM (l := ([(n3, n4)] : List (Int × Int))) 0 rfl) rfl h151 (fun y => rfl) el26 ty26 rfl rfl rfl rfl rfl (fun k152 => ?_)
 refine pq (q_fieldP rfl fa28_1 rfl) ?_
 refine ow [[iI n8, moC (l142 ++ ([(n3, n4)] : List (Int × Int))) k152]] 4 sz26 ?_
 refine oR ?_
 refine pq (qa bt) ?_
 refine oN ?_
 refine pq (q_fieldP rfl fa28_1 rfl) ?_
 refine pq (ql (.one (.p fr10 (Sl.t r38 s9))) 2 sz26) ?_
 refine pq (qm (iO n141)) ?_
 refine pq (q_ixS rfl rfl h146a h146 (el26.trans (congrArg some h146b.symm))) ?_
 refine pq (q_fieldI rfl fa39_0 rfl) ?_
 refine pq (q_loadI (v := iO n147) rfl sz3 (map_get h146) rfl rfl) ?_
 refine pq (qm (iO n3)) ?_
 by_cases c153 : n147 ≠ n3
 replace h := ifT c153 h
 refine pq (qb (p_neq_tZ c153)) ?_
 refine oE (eS (cT rfl ?_))
 refine L_norm (L2 := ([moL r38 2 (l142 ++ ([(n3, n4)] : List (Int × Int))) k152, [(k5, 2, [[iI n8, .p fr10 (Sl.t r38 s9)]])], [(k6, 2, [[iI 0, nC]])], [(k11, 2, [[iI n8, moC (l142 ++ ([(n3, n4)] : List (Int × Int))) k152]])]] : BL)) [0, 2, 3, 4] (by decide) rfl ?_
 refine L_turn 11 rfl [[], [], [], [], [], [], [], [], moK (l142 ++ ([(n3, n4)] : List (Int × Int))) k152, [], [k11]] [(false, []), (false, []), (false, []), (false, []), (false, []), (false, []), (false, []), (true, []), (true, []), (false, []), (false, [])] [[2, 3, 4, 5, 6, 7], [2, 3, 4, 5, 6, 7], [0, 1, 4], [0, 1, 4], [0, 1, 2, 3], [0, 1], [0, 1], [0, 1], [], [], []] (by kernel_rfl) (by kernel_rfl) (by kernel_rfl) ?_ (fun bb154 hlt hnd => ?_)
 intro bb154 hlt hnd
 have e_k152 : (l142 ++ ([(n3, n4)] : List (Int × Int))) = [] ∨ k152 < bb154 := key_ltM (r := r38) (w := 2) hlt 0 rfl
 have f_k152 := moK_lt e_k152
 have e_k5 : k5 < bb154 := key_lt hlt 1 rfl
 have e_k6 : k6 < bb154 := key_lt hlt 2 rfl
 have e_k11 : k11 < bb154 := key_lt hlt 3 rfl
 have d_k152_k5 : k5 ∉ moK (l142 ++ ([(n3, n4)] : List (Int × Int))) k152 := key_neM (r := r38) (w := 2) hnd 0 1 rfl rfl rfl
 have g_k152_k5 := moK_ne d_k152_k5
 have d_k152_k6 : k6 ∉ moK (l142 ++ ([(n3, n4)] : List (Int × Int))) k152 := key_neM (r := r38) (w := 2) hnd 0 2 rfl rfl rfl
 have g_k152_k6 := moK_ne d_k152_k6
 have d_k152_k11 : k11 ∉ moK (l142 ++ ([(n3, n4)] : List (Int × Int))) k152 := key_neM (r := r38) (w := 2) hnd 0 3 rfl rfl rfl
 have g_k152_k11 := moK_ne d_k152_k11
 have d_k11_k5 : k11 ≠ k5 := key_ne hnd 3 1 rfl rfl rfl
 have d_k11_k6 : k11 ≠ k6 := key_ne hnd 3 2 rfl rfl rfl
 exact ⟨(by first | (simp [DJ]; done) | (simp [DJ]; omega) | (simp [DJ]; assumption) | (simp_all [DJ]; done) | (simp_all [DJ]; omega)), (by first | (simp [DJ]; done) | (simp [DJ]; omega) | (simp [DJ]; assumption) | (simp_all [DJ]; done) | (simp_all [DJ]; omega))⟩
 have e_k152 : (l142 ++ ([(n3, n4)] : List (Int × Int))) = [] ∨ k152 < bb154 := key_ltM (r := r38) (w := 2) hlt 0 rfl
 have f_k152 := moK_lt e_k152
 have e_k5 : k5 < bb154 := key_lt hlt 1 rfl
 have e_k6 : k6 < bb154 := key_lt hlt 2 rfl
 have e_k11 : k11 < bb154 := key_lt hlt 3 rfl
 have d_k152_k5 : k5 ∉ moK (l142 ++ ([(n3, n4)] : List (Int × Int))) k152 := key_neM (r := r38) (w := 2) hnd 0 1 rfl rfl rfl
 have g_k152_k5 := moK_ne d_k152_k5
 have d_k152_k6 : k6 ∉ moK (l142 ++ ([(n3, n4)] : List (Int × Int))) k152 := key_neM (r := r38) (w := 2) hnd 0 2 rfl rfl rfl
 have g_k152_k6 := moK_ne d_k152_k6
 have d_k152_k11 : k11 ∉ moK (l142 ++ ([(n3, n4)] : List (Int × Int))) k152 := key_neM (r := r38) (w := 2) hnd 0 3 rfl rfl rfl
 have g_k152_k11 := moK_ne d_k152_k11
 have d_k11_k5 : k11 ≠ k5 := key_ne hnd 3 1 rfl rfl rfl
 have d_k11_k6 : k11 ≠ k6 := key_ne hnd 3 2 rfl rfl rfl
 refine tq [] rfl hmn (q_fieldP rfl fa28_1 rfl) ?_
 refine tq [3] rfl (hmc (nin_cons (ne_new (key_lt hlt 3 rfl)) nin_nil) hmn) (ql (.one (moC (l142 ++ ([(n3, n4)] : List (Int × Int))) k152)) 0 sz26) ?_
 refine tq [] rfl (hm0 rfl) (q_fieldP rfl fa28_1 rfl) ?_
 refine tq [1] rfl (hm0 rfl) (ql (.one (.p fr10 (Sl.t r38 s9))) 0 sz26) ?_
 refine tq [] rfl (hm0 rfl) (qm (iO n141)) ?_
 refine tq [] rfl (hm0 rfl) (q_ixS rfl rfl h146a h146 (el26.trans (congrArg some h146b.symm))) ?_
 refine tq [] rfl (hm0 rfl) (q_loadI (v := .agg [iI n147, iI n148]) rfl sz39 (map_get h146) rfl rfl) ?_
 refine tn_new rfl rfl rfl [] (by decide) rfl (hm0 rfl) rfl rfl (hkM (e_k152.imp id fun h => by omega) (hkc (ne_new (key_lt hlt 1 rfl)) (hkc (ne_new (key_lt hlt 2 rfl)) (hkc (ne_new (key_lt hlt 3 rfl)) hkn)))) (q_bslice (cs := [iI n147, iI n148]) (es := (([(n147, n148)] : List (Int × Int))).map (rowC r38)) ty26 rfl ty39 rfl rfl rfl rfl rfl) ?_
 obtain ⟨_, h156, h⟩ := bindS h
 obtain ⟨h156b, rfl⟩ := app_some h156
 refine tn_appM (r := r38) (l := (l142 ++ ([(n3, n4)] : List (Int × Int)))) 0 1 rfl rfl rfl rfl [1, 0] (by decide) rfl (hm0 rfl) rfl rfl (hkc (ne_add rfl) (hkM (e_k152.imp id fun h => by omega) (hkc (ne_new (key_lt hlt 1 rfl)) (hkc (ne_new (key_lt hlt 2 rfl)) (hkc (ne_new (key_lt hlt 3 rfl)) hkn))))) rfl rfl (el_ownM (l := ([(n147, n148)] : List (Int × Int))) 1 rfl) rfl rfl h156 (fun y => rfl) el26 ty26 rfl rfl rfl rfl rfl ?_
 refine tq [] rfl (hm0 rfl) (q_fieldP rfl fa28_1 rfl) ?_
 refine tn_wr rfl rfl [4] (by decide) rfl (hm0 rfl) rfl (q_store (es' := [[iI n8, moC ((l142 ++ ([(n3, n4)] : List (Int × Int))) ++ ([(n147, n148)] : List (Int × Int))) (bb154 + 8)]]) 0 rfl rfl rfl sz26 rfl rfl rfl rfl rfl) (q := 4) rfl rfl ?_
 refine tn_end (bN (eS (lO ?_)))
 refine pq (qm (iO n141)) ?_
 refine pq (qb p_addY) ?_
 refine pq (qa (iO (IntKind.i64.wrap (n141 + 1)))) ?_
 refine oE ?_
 obtain rfl := sj h
 exact E_next (bb154 + 8) (ups_self ⟨rfl, rfl, rfl, rfl, rfl, rfl, rfl, trivial⟩) [2, 3, 4, 0] (by decide) rfl
 replace h := ifF c153 h
 refine pq (qb (p_neq_fZ c153)) ?_
 refine oE (eS (cF rfl (lK (bN (eS (lO ?_))))))
 refine pq (qm (iO n141)) ?_
 refine pq (qb p_addY) ?_
 refine pq (qa (iO (IntKind.i64.wrap (n141 + 1)))) ?_
 refine oE ?_
 obtain rfl := sj h
 exact E_next k152 (ups_self ⟨rfl, rfl, rfl, rfl, rfl, rfl, rfl, trivial⟩) [2, 3, 4, 0] (by decide) rfl
 replace h := ifF c149 h
 refine pq (qb (p_geq_fZ c149)) ?_
 refine pq (qpt bf) ?_
 refine oE (eS (cF rfl (lK (eS (lS (lO ?_))))))
 refine pq (q_fieldP rfl fa28_1 rfl) ?_
 refine pq (ql (.one (.p fr10 (Sl.t r38 s9))) 0 sz26) ?_
 refine pq (qm (iO n141)) ?_
 refine pq (q_ixS rfl rfl h146a h146 (el26.trans (congrArg some h146b.symm))) ?_
 refine pq (q_fieldI rfl fa39_0 rfl) ?_
 refine pq (q_loadI (v := iO n147) rfl sz3 (map_get h146) rfl rfl) ?_
 refine pq (qm (iO n3)) ?_
 by_cases c157 : n147 ≠ n3
 replace h := ifT c157 h
 refine pq (qb (p_neq_tZ c157)) ?_
 refine oE (eS (cT rfl ?_))
 refine L_norm (L2 := ([[(k5, 2, [[iI n8, .p fr10 (Sl.t r38 s9)]])], [(k6, 2, [[iI 0, nC]])], [(k11, 2, [[iI n8, moC l142 k143]])], moL r38 2 l142 k143] : BL)) [0, 1, 2, 3] (by decide) rfl ?_
 refine L_turn 11 rfl [[], [], [], [], [], [], [], [], moK l142 k143, [], [k11]] [(false, []), (false, []), (false, []), (false, []), (false, []), (false, []), (false, []), (true, []), (true, []), (false, []), (false, [])] [[2, 3, 4, 5, 6, 7], [2, 3, 4, 5, 6, 7], [0, 1, 4], [0, 1, 4], [0, 1, 2, 3], [0, 1], [0, 1], [0, 1], [], [], []] (by kernel_rfl) (by kernel_rfl) (by kernel_rfl) ?_ (fun bb158 hlt hnd => ?_)
 intro bb158 hlt hnd
 have e_k5 : k5 < bb158 := key_lt hlt 0 rfl
 have e_k6 : k6 < bb158 := key_lt hlt 1 rfl
 have e_k11 : k11 < bb158 := key_lt hlt 2 rfl
 have e_k143 : l142 = [] ∨ k143 < bb158 := key_ltM (r := r38) (w := 2) hlt 3 rfl
 have f_k143 := moK_lt e_k143
 have d_k11_k5 : k11 ≠ k5 := key_ne hnd 2 0 rfl rfl rfl
 have d_k11_k6 : k11 ≠ k6 := key_ne hnd 2 1 rfl rfl rfl
 have d_k143_k5 : k5 ∉ moK l142 k143 := key_neM (r := r38) (w := 2) hnd 3 0 rfl rfl rfl
 have g_k143_k5 := moK_ne d_k143_k5
 have d_k143_k6 : k6 ∉ moK l142 k143 := key_neM (r := r38) (w := 2) hnd 3 1 rfl rfl rfl
 have g_k143_k6 := moK_ne d_k143_k6
 have d_k143_k11 : k11 ∉ moK l142 k143 := key_neM (r := r38) (w := 2) hnd 3 2 rfl rfl rfl
 have g_k143_k11 := moK_ne d_k143_k11
 exact ⟨(by first | (simp [DJ]; done) | (simp [DJ]; omega) | (simp [DJ]; assumption) | (simp_all [DJ]; done) | (simp_all [DJ]; omega)), (by first | (simp [DJ]; done) | (simp [DJ]; omega) | (simp [DJ]; assumption) | (simp_all [DJ]; done) | (simp_all [DJ]; omega))⟩
 have e_k5 : k5 < bb158 := key_lt hlt 0 rfl
 have e_k6 : k6 < bb158 := key_lt hlt 1 rfl
 have e_k11 : k11 < bb158 := key_lt hlt 2 rfl
 have e_k143 : l142 = [] ∨ k143 < bb158 := key_ltM (r := r38) (w := 2) hlt 3 rfl
 have f_k143 := moK_lt e_k143
 have d_k11_k5 : k11 ≠ k5 := key_ne hnd 2 0 rfl rfl rfl
 have d_k11_k6 : k11 ≠ k6 := key_ne hnd 2 1 rfl rfl rfl
 have d_k143_k5 : k5 ∉ moK l142 k143 := key_neM (r := r38) (w := 2) hnd 3 0 rfl rfl rfl
 have g_k143_k5 := moK_ne d_k143_k5
 have d_k143_k6 : k6 ∉ moK l142 k143 := key_neM (r := r38) (w := 2) hnd 3 1 rfl rfl rfl
 have g_k143_k6 := moK_ne d_k143_k6
 have d_k143_k11 : k11 ∉ moK l142 k143 := key_neM (r := r38) (w := 2) hnd 3 2 rfl rfl rfl
 have g_k143_k11 := moK_ne d_k143_k11
 refine tq [] rfl hmn (q_fieldP rfl fa28_1 rfl) ?_
 refine tq [2] rfl (hmc (nin_cons (ne_new (key_lt hlt 2 rfl)) nin_nil) hmn) (ql (.one (moC l142 k143)) 0 sz26) ?_
 refine tq [] rfl (hm0 rfl) (q_fieldP rfl fa28_1 rfl) ?_
 refine tq [0] rfl (hm0 rfl) (ql (.one (.p fr10 (Sl.t r38 s9))) 0 sz26) ?_
 refine tq [] rfl (hm0 rfl) (qm (iO n141)) ?_
 refine tq [] rfl (hm0 rfl) (q_ixS rfl rfl h146a h146 (el26.trans (congrArg some h146b.symm))) ?_
 refine tq [] rfl (hm0 rfl) (q_loadI (v := .agg [iI n147, iI n148]) rfl sz39 (map_get h146) rfl rfl) ?_
 refine tn_new rfl rfl rfl [] (by decide) rfl (hm0 rfl) rfl rfl (hkc (ne_new (key_lt hlt 0 rfl)) (hkc (ne_new (key_lt hlt 1 rfl)) (hkc (ne_new (key_lt hlt 2 rfl)) (hkM (e_k143.imp id fun h => by omega) hkn)))) (q_bslice (cs := [iI n147, iI n148]) (es := (([(n147, n148)] : List (Int × Int))).map (rowC r38)) ty26 rfl ty39 rfl rfl rfl rfl rfl) ?_
 obtain ⟨_, h160, h⟩ := bindS h
 obtain ⟨h160b, rfl⟩ := app_some h160
 refine tn_appM (r := r38) (l := l142) 0 4 rfl rfl rfl rfl [4, 0] (by decide) rfl (hm0 rfl) rfl rfl (hkc (ne_add rfl) (hkc (ne_new (key_lt hlt 0 rfl)) (hkc (ne_new (key_lt hlt 1 rfl)) (hkc (ne_new (key_lt hlt 2 rfl)) (hkM (e_k143.imp id fun h => by omega) hkn))))) rfl rfl (el_ownM (l := ([(n147, n148)] : List (Int × Int))) 1 rfl) rfl rfl h160 (fun y => rfl) el26 ty26 rfl rfl rfl rfl rfl ?_
 refine tq [] rfl (hm0 rfl) (q_fieldP rfl fa28_1 rfl) ?_
 refine tn_wr rfl rfl [4] (by decide) rfl (hm0 rfl) rfl (q_store (es' := [[iI n8, moC (l142 ++ ([(n147, n148)] : List (Int × Int))) (bb158 + 8)]]) 0 rfl rfl rfl sz26 rfl rfl rfl rfl rfl) (q := 4) rfl rfl ?_
 refine tn_end (bN (eS (lO ?_)))
 refine pq (qm (iO n141)) ?_
 refine pq (qb p_addY) ?_
 refine pq (qa (iO (IntKind.i64.wrap (n141 + 1)))) ?_
 refine oE ?_
 obtain rfl := sj h
 exact E_next (bb158 + 8) (ups_self ⟨rfl, rfl, rfl, rfl, rfl, rfl, rfl, trivial⟩) [2, 3, 4, 0] (by decide) rfl
 replace h := ifF c157 h
 refine pq (qb (p_neq_fZ c157)) ?_
 refine oE (eS (cF rfl (lK (bN (eS (lO ?_))))))
 refine pq (qm (iO n141)) ?_
 refine pq (qb p_addY) ?_
 refine pq (qa (iO (IntKind.i64.wrap (n141 + 1)))) ?_
 refine oE ?_
 obtain rfl := sj h
 exact E_next k143 (ups_self ⟨rfl, rfl, rfl, rfl, rfl, rfl, rfl, trivial⟩) [0, 1, 2, 3] (by decide) rfl
 replace h := wT h
 refine pq (q_not rfl) ?_
 refine pq (qm bf) ?_
 iterate 8 refine os ?_
 refine pq (qpf bf) ?_
 refine oE (eS (cF rfl (lK (eS (lS (lO ?_))))))
 refine pq (q_fieldP rfl fa28_1 rfl) ?_
 refine pq (ql (.one (.p fr10 (Sl.t r38 s9))) 0 sz26) ?_
 refine pq (qm (iO n141)) ?_
 obtain ⟨⟨n163, n164⟩, h162, h⟩ := bindS h
 obtain ⟨h162a, h162b, h162⟩ := atS_some h162
 refine pq (q_ixS rfl rfl h162a h162 (el26.trans (congrArg some h162b.symm))) ?_
 refine pq (q_fieldI rfl fa39_0 rfl) ?_
 refine pq (q_loadI (v := iO n163) rfl sz3 (map_get h162) rfl rfl) ?_
 refine pq (qm (iO n3)) ?_
 by_cases c165 : n163 ≠ n3
 replace h := ifT c165 h
 refine pq (qb (p_neq_tZ c165)) ?_
 refine oE (eS (cT rfl ?_))
 refine L_norm (L2 := ([[(k5, 2, [[iI n8, .p fr10 (Sl.t r38 s9)]])], [(k6, 2, [[iI 0, nC]])], [(k11, 2, [[iI n8, moC l142 k143]])], moL r38 2 l142 k143] : BL)) [0, 1, 2, 3] (by decide) rfl ?_
 refine L_turn 11 rfl [[], [], [], [], [], [], [], [], moK l142 k143, [], [k11]] [(false, []), (false, []), (false, []), (false, []), (false, []), (false, []), (false, []), (true, []), (true, []), (false, []), (false, [])] [[2, 3, 4, 5, 6, 7], [2, 3, 4, 5, 6, 7], [0, 1, 4], [0, 1, 4], [0, 1, 2, 3], [0, 1], [0, 1], [0, 1], [], [], []] (by kernel_rfl) (by kernel_rfl) (by kernel_rfl) ?_ (fun bb166 hlt hnd => ?_)
 intro bb166 hlt hnd
 have e_k5 : k5 < bb166 := key_lt hlt 0 rfl
 have e_k6 : k6 < bb166 := key_lt hlt 1 rfl
 have e_k11 : k11 < bb166 := key_lt hlt 2 rfl
 have e_k143 : l142 = [] ∨ k143 < bb166 := key_ltM (r := r38) (w := 2) hlt 3 rfl
 have f_k143 := moK_lt e_k143
 have d_k11_k5 : k11 ≠ k5 := key_ne hnd 2 0 rfl rfl rfl
 have d_k11_k6 : k11 ≠ k6 := key_ne hnd 2 1 rfl rfl rfl
 have d_k143_k5 : k5 ∉ moK l142 k143 := key_neM (r := r38) (w := 2) hnd 3 0 rfl rfl rfl
 have g_k143_k5 := moK_ne d_k143_k5
 have d_k143_k6 : k6 ∉ moK l142 k143 := key_neM (r := r38) (w := 2) hnd 3 1 rfl rfl rfl
 have g_k143_k6 := moK_ne d_k143_k6
 have d_k143_k11 : k11 ∉ moK l142 k143 := key_neM (r := r38) (w := 2) hnd 3 2 rfl rfl rfl
 have g_k143_k11 := moK_ne d_k143_k11
 exact ⟨(by first | (simp [DJ]; done) | (simp [DJ]; omega) | (simp [DJ]; assumption) | (simp_all [DJ]; done) | (simp_all [DJ]; omega)), (by first | (simp [DJ]; done) | (simp [DJ]; omega) | (simp [DJ]; assumption) | (simp_all [DJ]; done) | (simp_all [DJ]; omega))⟩
 have e_k5 : k5 < bb166 := key_lt hlt 0 rfl
 have e_k6 : k6 < bb166 := key_lt hlt 1 rfl
 have e_k11 : k11 < bb166 := key_lt hlt 2 rfl
 have e_k143 : l142 = [] ∨ k143 < bb166 := key_ltM (r := r38) (w := 2) hlt 3 rfl
 have f_k143 := moK_lt e_k143
 have d_k11_k5 : k11 ≠ k5 := key_ne hnd 2 0 rfl rfl rfl
 have d_k11_k6 : k11 ≠ k6 := key_ne hnd 2 1 rfl rfl rfl
 have d_k143_k5 : k5 ∉ moK l142 k143 := key_neM (r := r38) (w := 2) hnd 3 0 rfl rfl rfl
 have g_k143_k5 := moK_ne d_k143_k5
 have d_k143_k6 : k6 ∉ moK l142 k143 := key_neM (r := r38) (w := 2) hnd 3 1 rfl rfl rfl
 have g_k143_k6 := moK_ne d_k143_k6
 have d_k143_k11 : k11 ∉ moK l142 k143 := key_neM (r := r38) (w := 2) hnd 3 2 rfl rfl rfl
 have g_k143_k11 := moK_ne d_k143_k11
 refine tq [] rfl hmn (q_fieldP rfl fa28_1 rfl) ?_
 refine tq [2] rfl (hmc (nin_cons (ne_new (key_lt hlt 2 rfl)) nin_nil) hmn) (ql (.one (moC l142 k143)) 0 sz26) ?_
 refine tq [] rfl (hm0 rfl) (q_fieldP rfl fa28_1 rfl) ?_
 refine tq [0] rfl (hm0 rfl) (ql (.one (.p fr10 (Sl.t r38 s9))) 0 sz26) ?_
 refine tq [] rfl (hm0 rfl) (qm (iO n141)) ?_
 refine tq [] rfl (hm0 rfl) (q_ixS rfl rfl h162a h162 (el26.trans (congrArg some h162b.symm))) ?_
 refine tq [] rfl (hm0 rfl) (q_loadI (v := .agg [iI n163, iI n164]) rfl sz39 (map_get h162) rfl rfl) ?_
 refine tn_new rfl rfl rfl [] (by decide) rfl (hm0 rfl) rfl rfl (hkc (ne_new (key_lt hlt 0 rfl)) (hkc (ne_new (key_lt hlt 1 rfl)) (hkc (ne_new (key_lt hlt 2 rfl)) (hkM (e_k143.imp id fun h => by omega) hkn)))) (q_bslice (cs := [iI n163, iI n164]) (es := (([(n163, n164)] : List (Int × Int))).map (rowC r38)) ty26 rfl ty39 rfl rfl rfl rfl rfl) ?_
 obtain ⟨_, h168, h⟩ := bindS h
 obtain ⟨h168b, rfl⟩ := app_some h168
 refine tn_appM (r := r38) (l := l142) 0 4 rfl rfl rfl rfl [4, 0] (by decide) rfl (hm0 rfl) rfl rfl (hkc (ne_add rfl) (hkc (ne_new (key_lt hlt 0 rfl)) (hkc (ne_new (key_lt hlt 1 rfl)) (hkc (ne_new (key_lt hlt 2 rfl)) (hkM (e_k143.imp id fun h => by omega) hkn))))) rfl rfl (el_ownM (l := ([(n163, n164)] : List (Int × Int))) 1 rfl) rfl rfl h168 (fun y => rfl) el26 ty26 rfl rfl rfl rfl rfl ?_
 refine tq [] rfl (hm0 rfl) (q_fieldP rfl fa28_1 rfl) ?_
 refine tn_wr rfl rfl [4] (by decide) rfl (hm0 rfl) rfl (q_store (es' := [[iI n8, moC (l142 ++ ([(n163, n164)] : List (Int × Int))) (bb166 + 8)]]) 0 rfl rfl rfl sz26 rfl rfl rfl rfl rfl) (q := 4) rfl rfl ?_
 refine tn_end (bN (eS (lO ?_)))
 refine pq (qm (iO n141)) ?_
 refine pq (qb p_addY) ?_
 refine pq (qa (iO (IntKind.i64.wrap (n141 + 1)))) ?_
 refine oE ?_
 obtain rfl := sj h
 exact E_next (bb166 + 8) (ups_self ⟨rfl, rfl, rfl, rfl, rfl, rfl, rfl, trivial⟩) [2, 3, 4, 0] (by decide) rfl
 replace h := ifF c165 h
 refine pq (qb (p_neq_fZ c165)) ?_
 refine oE (eS (cF rfl (lK (bN (eS (lO ?_))))))
 refine pq (qm (iO n141)) ?_
 refine pq (qb p_addY) ?_
 refine pq (qa (iO (IntKind.i64.wrap (n141 + 1)))) ?_
 refine oE ?_
 obtain rfl := sj h
 exact E_next k143 (ups_self ⟨rfl, rfl, rfl, rfl, rfl, rfl, rfl, trivial⟩) [0, 1, 2, 3] (by decide) rfl
 replace h := ifF c144 h
 refine pq (qb (p_lss_fZ c144)) ?_
 refine oE (eS (cF rfl (L_exit ?_)))
 refine E_seqX ?_
 obtain rfl := sj h
 refine E_out ?_
 exact (E_exit k143 (ups_self ⟨rfl, rfl, rfl, rfl, rfl, trivial⟩) [1, 2, 3] (by decide) rfl)
 rintro (⟨b169, l170⟩ | u) h
 refine J_x (fun k171 g => ?_)
 replace h := elimL h
 refine bH (eS (lS (lS (lO ?_))))
 refine pq (qm (bO b169)) ?_
 rcases b169 with _ | _
 replace h := wF h
 refine pq (q_not rfl) ?_
 refine oE (eS (cT rfl (lO ?_)))
 refine pq (q_fieldP rfl fa28_1 rfl) ?_
 refine pq (ql (.one (moC l170 k171)) 1 sz26) ?_
 refine pq (qm (iO n3)) ?_
 refine pq (qm (iO n4)) ?_
 refine pq (q_build (cs := [iI n3, iI n4]) ty39 rfl pl39 rfl) ?_
 refine ol_new rfl rfl rfl (q_bslice (cs := [iI n3, iI n4]) (es := (([(n3, n4)] : List (Int × Int))).map (rowC r38)) ty26 rfl ty39 rfl rfl rfl rfl rfl) (fun k172 => ?_)
 obtain ⟨_, h173, h⟩ := bindS h
 obtain ⟨h173b, rfl⟩ := app_some h173
 refine ol_appM (r := r38) (l := l170) (ys := ([(n3, n4)] : List (Int × Int))) 3 rfl rfl rfl rfl rfl rfl (el_ownM (l := ([(n3, n4)] : List (Int × Int))) 0 rfl) rfl h173 (fun y => rfl) el26 ty26 rfl rfl rfl rfl rfl (fun k174 => ?_)
 refine pq (q_fieldP rfl fa28_1 rfl) ?_
 refine ow [[iI n8, moC (l170 ++ ([(n3, n4)] : List (Int × Int))) k174]] 3 sz26 ?_
 refine oN ?_
 refine pq (ql (.agg [iI n8, moC (l170 ++ ([(n3, n4)] : List (Int × Int))) k174]) 3 sz28) ?_
 refine ow [[iI n8, moC (l170 ++ ([(n3, n4)] : List (Int × Int))) k174]] 2 sz28 ?_
 refine oE (eS (lR ?_))
 obtain rfl := sj h
 exact E_endF (.inr rfl) (res_cell (d := .agg [iI n8, moC (l170 ++ ([(n3, n4)] : List (Int × Int))) k174]) 2 rfl sz28 rfl rfl rfl rfl res_nil) (vw_cons (vd_agg (vc_cons vc_v (vc_cons (vc_M (r := r38) 0 rfl (fun x h m => rfl)) vc_nil))) vw_nil) oG rfl rfl
 replace h := wT h
 refine pq (q_not rfl) ?_
 refine oE (eS (cF rfl (lK (eS (lS (lO ?_))))))
 refine pq (ql (.agg [iI n8, moC l170 k171]) 1 sz28) ?_
 refine ow [[iI n8, moC l170 k171]] 0 sz28 ?_
 refine oE (eS (lR ?_))
 obtain rfl := sj h
 exact E_endF (.inr rfl) (res_cell (d := .agg [iI n8, moC l170 k171]) 0 rfl sz28 rfl rfl rfl rfl res_nil) (vw_cons (vd_agg (vc_cons vc_v (vc_cons (vc_M (r := r38) 2 rfl (fun x h m => rfl)) vc_nil))) vw_nil) oG rfl rfl
 obtain rfl := Option.some.inj (elimR h)
 exact J_up (fun s hs => hs)

noncomputable def ref10_Set (a0 : Int × Sl (Int) × Sl (Int)) (n4 : Int) (n5 : Int) : Option ((Int × Sl (Int) × Sl (Int))) :=
  match a0 with
  | (n1, s2, s3) => ((ref10_Back (n1, s2, s3)).bind fun (n9, s10) => ((ref09_Put (n9, s10) n4 n5).bind fun (n12, s13) => ((ref10_Of (n12, s13)).bind fun (n15, s16, s17) => some (n15, s16, s17))))
theorem ref10_Set_r (m : Nat) {a0 : Int × Sl (Int) × Sl (Int)} {n4 : Int} {n5 : Int} {out : (Int × Sl (Int) × Sl (Int))} (h : ref10_Set a0 n4 n5 = some out) : RunsP E1 (m + 6) 25 [.agg (r24 a0), .one (iT .i64 n4), .one (iT .i64 n5)] (.fresh, [.agg (r24 out)]) := by
 obtain ⟨n1, s2, s3⟩ := a0
 refine fn_F rfl (by rw [E1_fn]; exact show fiOf Tryd.prog 25 = _ by unfold fiOf; rw [Tryd.func25]; unfold Tryd.f25; rfl) rfl ?_
 dsimp only
 unfold ref10_Set at h
 refine lS (lO ?_)
 refine ol_new rfl rfl rfl (q_box ty25 rfl (cs := [iI n1, sF r85 s2, sF r2 s3]) rfl rfl) (fun k6 => ?_)
 refine ol_new rfl rfl rfl (q_alloc ty25 (row := [iI 0, nC, nC]) rfl rfl) (fun k7 => ?_)
 refine oN ?_
 refine pq (ql (.agg [iI n1, sF r85 s2, sF r2 s3]) 1 sz25) ?_
 obtain ⟨⟨n9, s10⟩, h8, h⟩ := bindS h
 refine pq (qc (.agg [iI n9, sC r38 s10]) [.agg [iI n1, sF r85 s2, sF r2 s3]] (ref10_Back_r (m + 0) h8) (vw_cons (vd_agg (vc_cons vc_v (vc_cons vc_s (vc_cons vc_s vc_nil)))) vw_nil)) ?_
 refine pq (qm (iO n4)) ?_
 refine pq (qm (iO n5)) ?_
 obtain ⟨⟨n12, s13⟩, h11, h⟩ := bindS h
 refine pq (qc (.agg [iI n12, sC r38 s13]) [.agg [iI n9, sC r38 s10], iO n4, iO n5] (ref09_Put_r (m + 2) h11) (vw_cons (vd_agg (vc_cons vc_v (vc_cons vc_s vc_nil))) (vw_cons (vd_one vc_v) (vw_cons (vd_one vc_v) vw_nil)))) ?_
 obtain ⟨⟨n15, s16, s17⟩, h14, h⟩ := bindS h
 refine pq (qc (.agg [iI n15, sC r85 s16, sC r2 s17]) [.agg [iI n12, sC r38 s13]] (ref10_Of_r (m + 1) h14) (vw_cons (vd_agg (vc_cons vc_v (vc_cons vc_s vc_nil))) vw_nil)) ?_
 refine ow [[iI n15, sC r85 s16, sC r2 s17]] 0 sz25 ?_
 refine oE (eS (lR ?_))
 obtain rfl := sj h
 exact E_endF (.inr rfl) (res_cell (d := .agg [iI n15, sC r85 s16, sC r2 s17]) 0 rfl sz25 rfl rfl rfl rfl res_nil) (vw_cons (vd_agg (vc_cons vc_v (vc_cons vc_s (vc_cons vc_s vc_nil)))) vw_nil) oG rfl rfl

noncomputable def flags_Drop (s1 : Sl (Int)) (n2 : Int) : Option (List (Int)) :=
  ((flags_clone s1).bind fun s4 => ((flags_within s1 n2).bind fun b7 => (if b7 = true then ((divO .i64 n2 64).bind fun n16 => ((atL s4 n16).bind fun n20 => ((flags_bit n2).bind fun n22 => some (s4.set n16.toNat (andNotI .u64 n20 n22))))) else some s4)))
theorem flags_Drop_r (m : Nat) {s1 : Sl (Int)} {n2 : Int} {out : List (Int)} (h : flags_Drop s1 n2 = some out) : RunsP E1 (m + 2) 65 [.one (Sl.t r85 s1), .one (iT .i64 n2)] (.own, [.one (.s true 1 ((out).map r85))]) := by
 refine fn_O rfl (by rw [E1_fn]; exact show fiOf Tryd.prog 65 = _ by unfold fiOf; rw [Tryd.func65]; unfold Tryd.f65; rfl) rfl ?_
 dsimp only
 unfold flags_Drop at h
 refine lS (lO ?_)
 refine pq (qa (.one nC)) ?_
 refine oN ?_
 refine pq (qm (.one (sF r85 s1))) ?_
 obtain ⟨s4, h3, h⟩ := bindS h
 refine ol_new rfl rfl rfl (q_callO (args := [.one (sF r85 s1)]) (flags_clone_r (m + 0) h3) rfl rfl (vw_cons (vd_one vc_s) vw_nil) rfl) (fun k5 => ?_)
 refine pq (qa (.one (.own k5 0 (s4).length))) ?_
 refine oE (eS (lS (lS (lO ?_))))
 refine pq (qm (.one (sF r85 s1))) ?_
 refine pq (qm (iO n2)) ?_
 obtain ⟨b7, h6, h⟩ := bindS h
 refine pq (qc (bO b7) [.one (sF r85 s1), iO n2] (flags_within_r (m + 0) h6) (vw_cons (vd_one vc_s) (vw_cons (vd_one vc_v) vw_nil))) ?_
 refine oE (eS ?_)
 rcases b7 with _ | _
 replace h := wF h
 refine cF rfl (lK (eS (lS (lO ?_))))
 refine pq (qm (.one (.own k5 0 (s4).length))) ?_
 refine pq (qa (.one (.own k5 0 (s4).length))) ?_
 refine oE (eS (lR ?_))
 obtain rfl := sj h
 exact E_endO (r := r85) 0 (.inr rfl) (res_tmp rfl res_nil) rfl (fun x h m => rfl) (fun x => rfl)
 replace h := wT h
 refine cT rfl ?_
 refine L_norm (L2 := ([[(k5, 1, (s4).map (rowC r85))]] : BL)) [0] (by decide) rfl ?_
 refine L_turn 10 rfl [[], [], [], [], [], [], [], [], [], [k5]] [(false, []), (false, []), (false, []), (false, []), (false, []), (false, []), (false, []), (false, []), (false, []), (false, [])] [[1, 2, 5, 6], [0, 5, 6], [0, 5, 6], [5, 6], [5, 6], [0, 1, 2, 3, 4], [0, 1, 2, 3, 4], [], [], []] (by kernel_rfl) (by kernel_rfl) (by kernel_rfl) ?_ (fun bb8 hlt hnd => ?_)
 intro bb8 hlt hnd
 exact ⟨⟨djE, ⟨djE, ⟨djE, ⟨djE, ⟨djE, ⟨djE, ⟨djE, ⟨djE, ⟨djE, ⟨djN, trivial⟩⟩⟩⟩⟩⟩⟩⟩⟩⟩, (ltO_cons ltK_nil (ltO_cons ltK_nil (ltO_cons ltK_nil (ltO_cons ltK_nil (ltO_cons ltK_nil (ltO_cons ltK_nil (ltO_cons ltK_nil (ltO_cons ltK_nil (ltO_cons ltK_nil (ltO_cons (ltK_cons (key_lt hlt 0 rfl) ltK_nil) ltO_nil))))))))))⟩
 refine tq [] rfl (hm0 rfl) (qm (.one (.own k5 0 (s4).length))) ?_
 refine tq [] rfl (hm0 rfl) (qm (iO n2)) ?_
 obtain ⟨n16, h17, h⟩ := bindS h
 refine tq [] rfl (hm0 rfl) (q_bin rfl rfl (divO_p h17) rfl) ?_
 obtain ⟨n20, h19, h⟩ := bindS h
 obtain ⟨h19a, h19⟩ := atL_some h19
 refine tq [0] rfl (hm0 rfl) (q_ixO 0 rfl rfl h19a h19 rfl el22) ?_
 refine tq [0] rfl (hm0 rfl) (q_loadP (v := .one (uI n20)) 0 rfl sz85 rfl (map_get h19) rfl rfl) ?_
 refine tq [] rfl (hm0 rfl) (qm (iO n2)) ?_
 obtain ⟨n22, h21, h⟩ := bindS h
 refine tq [] rfl (hm0 rfl) (qc (.one (uI n22)) [iO n2] (flags_bit_r (m + 0) h21) (vw_cons (vd_one vc_v) vw_nil)) ?_
 refine tq [] rfl (hm0 rfl) (q_bin rfl rfl (p_andNot _ _ _ _ _ _ _) rfl) ?_
 refine tq [0] rfl (hm0 rfl) (q_ixO 0 rfl rfl h19a h19 rfl el22) ?_
 refine tn_wr rfl rfl [0] (by decide) rfl (hm0 rfl) rfl (q_store (e' := rowC r85 (andNotI .u64 n20 n22)) (es' := ((s4.set n16.toNat (andNotI .u64 n20 n22))).map (rowC r85)) 0 rfl rfl rfl sz85 rfl rfl (map_get h19) rfl map_set) (q := 0) rfl rfl ?_
 refine tn_re 7 (v := .one (.own k5 0 ((s4.set n16.toNat (andNotI .u64 n20 n22))).length)) (Eq.trans (b := .one (.own k5 0 (s4).length)) rfl (congrArg D.one own_setC)) ?_
 refine tn_re 5 (v := .one (.own k5 0 ((s4.set n16.toNat (andNotI .u64 n20 n22))).length)) (Eq.trans (b := .one (.own k5 0 (s4).length)) rfl (congrArg D.one own_setC)) ?_
 refine tn_re 11 (v := .one (.own k5 0 ((s4.set n16.toNat (andNotI .u64 n20 n22))).length)) (Eq.trans (b := .one (.own k5 0 (s4).length)) rfl (congrArg D.one own_setC)) ?_
 refine tn_end (eS (lS (lO ?_)))
 refine pq (qm (.one (.own k5 0 ((s4.set n16.toNat (andNotI .u64 n20 n22))).length))) ?_
 refine pq (qa (.one (.own k5 0 ((s4.set n16.toNat (andNotI .u64 n20 n22))).length))) ?_
 refine oE (eS (lR ?_))
 obtain rfl := sj h
 exact E_endO (r := r85) 0 (.inr rfl) (res_tmp rfl res_nil) rfl (fun x h m => rfl) (fun x => rfl)

noncomputable def devec_Drop (a0 : Int × Sl (Int) × Sl (Int)) (n4 : Int) : Option ((Int × Sl (Int) × Sl (Int))) :=
  match a0 with
  | (n1, s2, s3) => ((devec_sure (n1, s2, s3)).bind fun (n8, s9, s10) => ((lenOk ((s9.l.length : Nat) : Int)).bind fun _ => ((lenOk ((s10.l.length : Nat) : Int)).bind fun _ => ((cpL (List.replicate ((s9.l.length : Nat) : Int).toNat (0 : Int)) s9.l).bind fun l24 => ((cpL (List.replicate ((s10.l.length : Nat) : Int).toNat (0 : Int)) s10.l).bind fun l26 => (if n4 ≥ 0 then (if n4 < n8 then ((flags_Drop (⟨true, 1, l24⟩ : Sl (Int)) n4).bind fun s31 => ((atL l26 n4).bind fun n35 => some (n8, (⟨true, 1, s31⟩ : Sl (Int)), (⟨true, 1, (l26.set n4.toNat 0)⟩ : Sl (Int))))) else some (n8, (⟨true, 1, l24⟩ : Sl (Int)), (⟨true, 1, l26⟩ : Sl (Int)))) else some (n8, (⟨true, 1, l24⟩ : Sl (Int)), (⟨true, 1, l26⟩ : Sl (Int)))))))))
theorem devec_Drop_r (m : Nat) {a0 : Int × Sl (Int) × Sl (Int)} {n4 : Int} {out : (Int × Sl (Int) × Sl (Int))} (h : devec_Drop a0 n4 = some out) : RunsP E1 (m + 7) 26 [.agg (r24 a0), .one (iT .i64 n4)] (.fresh, [.agg (r24 out)]) := by
 obtain ⟨n1, s2, s3⟩ := a0
 refine fn_F rfl (by rw [E1_fn]; exact show fiOf Tryd.prog 26 = _ by unfold fiOf; rw [Tryd.func26]; unfold Tryd.f26; rfl) rfl ?_
 dsimp only
 unfold devec_Drop at h
 refine lS (lO ?_)
 refine ol_new rfl rfl rfl (q_box ty25 rfl (cs := [iI n1, sF r85 s2, sF r2 s3]) rfl rfl) (fun k5 => ?_)
 refine ol_new rfl rfl rfl (q_alloc ty25 (row := [iI 0, nC, nC]) rfl rfl) (fun k6 => ?_)
 refine oN ?_
 refine pq (ql (.agg [iI n1, sF r85 s2, sF r2 s3]) 1 sz25) ?_
 obtain ⟨⟨n8, s9, s10⟩, h7, h⟩ := bindS h
 refine ol_putX rfl rfl rfl (q_callX (v := fun fr11 => .agg [iI n8, .p fr11 (Sl.t r85 s9), .p fr11 (Sl.t r2 s10)]) (args := [.agg [iI n1, sF r85 s2, sF r2 s3]]) (devec_sure_r (m + 0) h7) rfl rfl (vw_cons (vd_agg (vc_cons vc_v (vc_cons vc_s (vc_cons vc_s vc_nil)))) vw_nil) rfl rfl (fun fr => rfl)) (fun fr11 => ?_)
 refine ol_scallN (args := [.agg [iI n8, .p fr11 (Sl.t r85 s9), .p fr11 (Sl.t r2 s10)]]) rfl rfl rfl ax62 (by rw [E1_fn]; exact show fiOf Tryd.prog 62 = _ by unfold fiOf; rw [Tryd.func62]; unfold Tryd.f62; rfl) rfl rfl rfl ?_
 dsimp only
 refine lS (lO ?_)
 refine ol_new rfl rfl rfl (q_box ty25 rfl (cs := [iI n8, .p fr11 (Sl.t r85 s9), .p fr11 (Sl.t r2 s10)]) rfl rfl) (fun k12 => ?_)
 refine ol_new rfl rfl rfl (q_alloc ty25 (row := [iI 0, nC, nC]) rfl rfl) (fun k13 => ?_)
 refine oE (eS (lS ?_))
 refine L_norm (L2 := ([[(k13, 3, [[iI 0, nC, nC]])], [(k12, 3, [[iI n8, .p fr11 (Sl.t r85 s9), .p fr11 (Sl.t r2 s10)]])], [(k6, 3, [[iI 0, nC, nC]])]] : BL)) [0, 1, 2] (by decide) rfl ?_
 refine L_turn 13 rfl [[], [], [], [], [], [], [], [], [], [], [], [], []] [(false, []), (false, []), (false, []), (false, []), (false, []), (true, []), (false, []), (false, []), (false, []), (true, []), (false, []), (true, []), (false, [11])] [[2, 3, 4, 5, 6, 7, 8, 9, 11], [2, 3, 4, 5, 6, 7, 8, 9, 11], [0, 1, 6, 7, 8, 9, 11], [0, 1, 6, 7, 8, 9, 11], [0, 1, 6, 7, 8, 9, 11], [0, 1, 6, 7, 8, 9, 11], [0, 1, 2, 3, 4, 5, 11], [0, 1, 2, 3, 4, 5, 11], [0, 1, 2, 3, 4, 5, 11], [0, 1, 2, 3, 4, 5, 11], [11], [0, 1, 2, 3, 4, 5, 6, 7, 8, 9, 10], []] (by kernel_rfl) (by kernel_rfl) (by kernel_rfl) ?_ (fun bb14 hlt hnd => ?_)
 intro bb14 hlt hnd
 exact ⟨⟨djE, ⟨djE, ⟨djE, ⟨djE, ⟨djE, ⟨djE, ⟨djE, ⟨djE, ⟨djE, ⟨djE, ⟨djE, ⟨djE, ⟨djE, trivial⟩⟩⟩⟩⟩⟩⟩⟩⟩⟩⟩⟩⟩, (ltO_cons ltK_nil (ltO_cons ltK_nil (ltO_cons ltK_nil (ltO_cons ltK_nil (ltO_cons ltK_nil (ltO_cons ltK_nil (ltO_cons ltK_nil (ltO_cons ltK_nil (ltO_cons ltK_nil (ltO_cons ltK_nil (ltO_cons ltK_nil (ltO_cons ltK_nil (ltO_cons ltK_nil ltO_nil)))))))))))))⟩
 refine tq [] rfl hmn (q_fieldP rfl fa25_0 rfl) ?_
 refine tq [1] rfl (hmc (nin_cons (ne_new (key_lt hlt 1 rfl)) (nin_cons (ne_new (key_lt hlt 1 rfl)) (nin_cons (ne_new (key_lt hlt 1 rfl)) nin_nil))) hmn) (ql (iO n8) 0 sz3) ?_
 refine tq [] rfl hmn (q_fieldP rfl fa25_1 rfl) ?_
 refine tq [1] rfl (hmc (nin_cons (ne_new (key_lt hlt 1 rfl)) (nin_cons (ne_new (key_lt hlt 1 rfl)) nin_nil)) hmn) (ql (.one (.p fr11 (Sl.t r85 s9))) 0 sz22) ?_
 refine tq [] rfl hmn (q_lenS rfl ty22 rfl rfl rfl rfl) ?_
 obtain ⟨u19, h20, h⟩ := bindS h
 refine tn_new rfl rfl rfl [] (by decide) rfl hmn rfl rfl (hkc (ne_new (key_lt hlt 0 rfl)) (hkc (ne_new (key_lt hlt 1 rfl)) (hkc (ne_new (key_lt hlt 2 rfl)) hkn))) (q_mkslice (r := rowC r85) (a := (0 : Int)) ty22 rfl ty85 rfl rfl (lenOk_some h20).1 (lenOk_some h20).2 rfl rfl) ?_
 refine tq [] rfl hmn (q_fieldP rfl fa25_2 rfl) ?_
 refine tq [2] rfl (hmc (nin_cons (ne_new (key_lt hlt 1 rfl)) (nin_cons (ne_new (key_lt hlt 1 rfl)) nin_nil)) hmn) (ql (.one (.p fr11 (Sl.t r2 s10))) 0 sz23) ?_
 refine tq [] rfl hmn (q_lenS rfl ty23 rfl rfl rfl rfl) ?_
 obtain ⟨u21, h22, h⟩ := bindS h
 refine tn_new rfl rfl rfl [] (by decide) rfl hmn rfl rfl (hkc (ne_add rfl) (hkc (ne_new (key_lt hlt 0 rfl)) (hkc (ne_new (key_lt hlt 1 rfl)) (hkc (ne_new (key_lt hlt 2 rfl)) hkn)))) (q_mkslice (r := rowC r2) (a := (0 : Int)) ty23 rfl ty2 rfl rfl (lenOk_some h22).1 (lenOk_some h22).2 rfl rfl) ?_
 refine tq [] rfl hmn (q_build (cs := [iI n8, .own (bb14 + 5) 0 ((List.replicate ((s9.l.length : Nat) : Int).toNat (0 : Int))).length, .own (bb14 + 9) 0 ((List.replicate ((s10.l.length : Nat) : Int).toNat (0 : Int))).length]) ty25 rfl pl25 rfl) ?_
 refine tn_new rfl rfl rfl [] (by decide) rfl hmn rfl rfl (hkc (ne_add rfl) (hkc (ne_add rfl) (hkc (ne_new (key_lt hlt 0 rfl)) (hkc (ne_new (key_lt hlt 1 rfl)) (hkc (ne_new (key_lt hlt 2 rfl)) hkn))))) (q_alloc ty25 (row := [iI 0, nC, nC]) rfl rfl) ?_
 refine tn_wr rfl rfl [0] (by decide) rfl (hm0 rfl) rfl (q_store (es' := [[iI n8, .own (bb14 + 5) 0 ((List.replicate ((s9.l.length : Nat) : Int).toNat (0 : Int))).length, .own (bb14 + 9) 0 ((List.replicate ((s10.l.length : Nat) : Int).toNat (0 : Int))).length]]) 0 rfl rfl rfl sz25 rfl rfl rfl rfl rfl) (q := 0) rfl rfl ?_
 refine tn_end (eS (lS (lO ?_)))
 refine pq (q_fieldP rfl fa25_1 rfl) ?_
 refine pq (ql (.one (.own (bb14 + 5) 0 ((List.replicate ((s9.l.length : Nat) : Int).toNat (0 : Int))).length)) 0 sz22) ?_
 refine pq (q_fieldP rfl fa25_1 rfl) ?_
 refine pq (ql (.one (.p fr11 (Sl.t r85 s9))) 4 sz22) ?_
 obtain ⟨l24, h23, h⟩ := bindS h
 refine ol_wrD rfl rfl rfl (q_copy (r := rowC r85) (l := (List.replicate ((s9.l.length : Nat) : Int).toNat (0 : Int))) (m := s9.l) 2 rfl rfl (el_dat (fr := fr11) (r := r85) (fun x => rfl)) rfl rfl h23 (fun y => rfl) el22 ty22 rfl rfl rfl rfl rfl) rfl ?_
 refine ol_re 9 (v := .one (.own (bb14 + 5) 0 (l24).length)) (Eq.trans (b := .one (.own (bb14 + 5) 0 ((List.replicate ((s9.l.length : Nat) : Int).toNat (0 : Int))).length)) rfl (congrArg D.one (own_cpC h23))) ?_
 refine ol_re 16 (v := .one (.own (bb14 + 5) 0 (l24).length)) (Eq.trans (b := .one (.own (bb14 + 5) 0 ((List.replicate ((s9.l.length : Nat) : Int).toNat (0 : Int))).length)) rfl (congrArg D.one (own_cpC h23))) ?_
 refine ol_reS 0 (s' := [((bb14 + 11), 3, [[iI n8, .own (bb14 + 5) 0 (l24).length, .own (bb14 + 9) 0 ((List.replicate ((s10.l.length : Nat) : Int).toNat (0 : Int))).length]])]) rfl (congrArg (fun z => ([((bb14 + 11), 3, [[iI n8, z, .own (bb14 + 9) 0 ((List.replicate ((s10.l.length : Nat) : Int).toNat (0 : Int))).length]])] : List B1)) (own_cpC h23)) ?_
 refine oN ?_
 refine pq (q_fieldP rfl fa25_2 rfl) ?_
 refine pq (ql (.one (.own (bb14 + 9) 0 ((List.replicate ((s10.l.length : Nat) : Int).toNat (0 : Int))).length)) 0 sz23) ?_
 refine pq (q_fieldP rfl fa25_2 rfl) ?_
 refine pq (ql (.one (.p fr11 (Sl.t r2 s10))) 4 sz23) ?_
 obtain ⟨l26, h25, h⟩ := bindS h
 refine ol_wrD rfl rfl rfl (q_copy (r := rowC r2) (l := (List.replicate ((s10.l.length : Nat) : Int).toNat (0 : Int))) (m := s10.l) 1 rfl rfl (el_dat (fr := fr11) (r := r2) (fun x => rfl)) rfl rfl h25 (fun y => rfl) el23 ty23 rfl rfl rfl rfl rfl) rfl ?_
 refine ol_re 13 (v := .one (.own (bb14 + 9) 0 (l26).length)) (Eq.trans (b := .one (.own (bb14 + 9) 0 ((List.replicate ((s10.l.length : Nat) : Int).toNat (0 : Int))).length)) rfl (congrArg D.one (own_cpC h25))) ?_
 refine ol_re 21 (v := .one (.own (bb14 + 9) 0 (l26).length)) (Eq.trans (b := .one (.own (bb14 + 9) 0 ((List.replicate ((s10.l.length : Nat) : Int).toNat (0 : Int))).length)) rfl (congrArg D.one (own_cpC h25))) ?_
 refine ol_reS 0 (s' := [((bb14 + 11), 3, [[iI n8, .own (bb14 + 5) 0 (l24).length, .own (bb14 + 9) 0 (l26).length]])]) rfl (congrArg (fun z => ([((bb14 + 11), 3, [[iI n8, .own (bb14 + 5) 0 (l24).length, z]])] : List B1)) (own_cpC h25)) ?_
 refine oN ?_
 refine pq (ql (.agg [iI n8, .own (bb14 + 5) 0 (l24).length, .own (bb14 + 9) 0 (l26).length]) 0 sz25) ?_
 refine ow [[iI n8, .own (bb14 + 5) 0 (l24).length, .own (bb14 + 9) 0 (l26).length]] 3 sz25 ?_
 refine oE (eS (lR ?_))
 refine E_call (v := .agg [iI n8, .own (bb14 + 5) 0 (l24).length, .own (bb14 + 9) 0 (l26).length]) (.inr rfl) (res_cell (d := .agg [iI n8, .own (bb14 + 5) 0 (l24).length, .own (bb14 + 9) 0 (l26).length]) 3 rfl sz25 rfl rfl rfl rfl res_nil) rfl ?_
 refine ol_new rfl rfl rfl (q_alloc ty25 (row := [iI 0, nC, nC]) rfl rfl) (fun k27 => ?_)
 refine ow [[iI n8, .own (bb14 + 5) 0 (l24).length, .own (bb14 + 9) 0 (l26).length]] 0 sz25 ?_
 refine oE (eS (lS (lS (lO ?_))))
 refine pq (qm (iO n4)) ?_
 by_cases c28 : n4 ≥ 0
 replace h := ifT c28 h
 refine pq (qb (p_geq_tZ c28)) ?_
 refine pq (qm bt) ?_
 refine pq (qm (iO n4)) ?_
 refine pq (q_fieldP rfl fa25_0 rfl) ?_
 refine pq (ql (iO n8) 0 sz3) ?_
 by_cases c29 : n4 < n8
 replace h := ifT c29 h
 refine pq (qb (p_lss_tZ c29)) ?_
 refine pq (qpt bt) ?_
 refine oE (eS (cT rfl (lS (lO ?_))))
 refine pq (q_fieldP rfl fa25_1 rfl) ?_
 refine pq (ql (.one (.own (bb14 + 5) 0 (l24).length)) 0 sz22) ?_
 refine pq (qm (iO n4)) ?_
 obtain ⟨s31, h30, h⟩ := bindS h
 refine ol_new rfl rfl rfl (q_callO (args := [.one (.own (bb14 + 5) 0 (l24).length), iO n4]) (flags_Drop_r (m + 4) h30) rfl rfl (vw_cons (vd_one (vc_own (r := r85) 3 rfl (fun x h m => rfl))) (vw_cons (vd_one vc_v) vw_nil)) rfl) (fun k32 => ?_)
 refine pq (q_fieldP rfl fa25_1 rfl) ?_
 refine ow [[iI n8, .own k32 0 (s31).length, .own (bb14 + 9) 0 (l26).length]] 1 sz22 ?_
 refine oR ?_
 refine pq (q_fieldP rfl fa25_2 rfl) ?_
 refine pq (ql (.one (.own (bb14 + 9) 0 (l26).length)) 1 sz23) ?_
 refine pq (qm (iO n4)) ?_
 obtain ⟨n35, h34, h⟩ := bindS h
 obtain ⟨h34a, h34⟩ := atL_some h34
 refine pq (q_ixO 3 rfl rfl h34a h34 rfl el23) ?_
 refine ol_wr rfl rfl (q_store (e' := rowC r2 0) (es' := ((l26.set n4.toNat 0)).map (rowC r2)) 3 rfl rfl rfl sz2 rfl rfl (map_get h34) rfl map_set) rfl ?_
 refine ol_re 23 (v := .one (.own (bb14 + 9) 0 ((l26.set n4.toNat 0)).length)) (Eq.trans (b := .one (.own (bb14 + 9) 0 (l26).length)) rfl (congrArg D.one own_setC)) ?_
 refine ol_reS 1 (s' := [(k27, 3, [[iI n8, .own k32 0 (s31).length, .own (bb14 + 9) 0 ((l26.set n4.toNat 0)).length]])]) rfl (congrArg (fun z => ([(k27, 3, [[iI n8, .own k32 0 (s31).length, z]])] : List B1)) own_setC) ?_
 refine ol_reS 2 (s' := [((bb14 + 11), 3, [[iI n8, .own (bb14 + 5) 0 (l24).length, .own (bb14 + 9) 0 ((l26.set n4.toNat 0)).length]])]) rfl (congrArg (fun z => ([((bb14 + 11), 3, [[iI n8, .own (bb14 + 5) 0 (l24).length, z]])] : List B1)) own_setC) ?_
 refine ol_reS 5 (s' := [(k13, 3, [[iI n8, .own (bb14 + 5) 0 (l24).length, .own (bb14 + 9) 0 ((l26.set n4.toNat 0)).length]])]) rfl (congrArg (fun z => ([(k13, 3, [[iI n8, .own (bb14 + 5) 0 (l24).length, z]])] : List B1)) own_setC) ?_
 refine oN ?_
 refine pq (ql (.agg [iI n8, .own k32 0 (s31).length, .own (bb14 + 9) 0 ((l26.set n4.toNat 0)).length]) 1 sz25) ?_
 refine ow [[iI n8, .own k32 0 (s31).length, .own (bb14 + 9) 0 ((l26.set n4.toNat 0)).length]] 7 sz25 ?_
 refine oE (eS (lR ?_))
 obtain rfl := sj h
 exact E_endF (.inr rfl) (res_cell (d := .agg [iI n8, .own k32 0 (s31).length, .own (bb14 + 9) 0 ((l26.set n4.toNat 0)).length]) 7 rfl sz25 rfl rfl rfl rfl res_nil) (vw_cons (vd_agg (vc_cons vc_v (vc_cons (vc_own (r := r85) 0 rfl (fun x h m => rfl)) (vc_cons (vc_own (r := r2) 3 rfl (fun x h m => rfl)) vc_nil)))) vw_nil) oG rfl rfl
 replace h := ifF c29 h
 refine pq (qb (p_lss_fZ c29)) ?_
 refine pq (qpt bf) ?_
 refine oE (eS (cF rfl (lK (eS (lS (lO ?_))))))
 refine pq (ql (.agg [iI n8, .own (bb14 + 5) 0 (l24).length, .own (bb14 + 9) 0 (l26).length]) 0 sz25) ?_
 refine ow [[iI n8, .own (bb14 + 5) 0 (l24).length, .own (bb14 + 9) 0 (l26).length]] 6 sz25 ?_
 refine oE (eS (lR ?_))
 obtain rfl := sj h
 exact E_endF (.inr rfl) (res_cell (d := .agg [iI n8, .own (bb14 + 5) 0 (l24).length, .own (bb14 + 9) 0 (l26).length]) 6 rfl sz25 rfl rfl rfl rfl res_nil) (vw_cons (vd_agg (vc_cons vc_v (vc_cons (vc_own (r := r85) 3 rfl (fun x h m => rfl)) (vc_cons (vc_own (r := r2) 2 rfl (fun x h m => rfl)) vc_nil)))) vw_nil) oG rfl rfl
 replace h := ifF c28 h
 refine pq (qb (p_geq_fZ c28)) ?_
 refine pq (qm bf) ?_
 iterate 4 refine os ?_
 refine pq (qpf bf) ?_
 refine oE (eS (cF rfl (lK (eS (lS (lO ?_))))))
 refine pq (ql (.agg [iI n8, .own (bb14 + 5) 0 (l24).length, .own (bb14 + 9) 0 (l26).length]) 0 sz25) ?_
 refine ow [[iI n8, .own (bb14 + 5) 0 (l24).length, .own (bb14 + 9) 0 (l26).length]] 6 sz25 ?_
 refine oE (eS (lR ?_))
 obtain rfl := sj h
 exact E_endF (.inr rfl) (res_cell (d := .agg [iI n8, .own (bb14 + 5) 0 (l24).length, .own (bb14 + 9) 0 (l26).length]) 6 rfl sz25 rfl rfl rfl rfl res_nil) (vw_cons (vd_agg (vc_cons vc_v (vc_cons (vc_own (r := r85) 3 rfl (fun x h m => rfl)) (vc_cons (vc_own (r := r2) 2 rfl (fun x h m => rfl)) vc_nil)))) vw_nil) oG rfl rfl

noncomputable def ref09_Drop_b1 (n3 : Int) (s8 : Sl (Int × Int)) (a : Int × (List (Int × Int))) : Option ((Int × (List (Int × Int))) ⊕ ((List (Int × Int)) ⊕ (Int × (Sl (Int × Int))))) :=
  match a with
  | (n35, l36) => (if n35 < ((s8.l.length : Nat) : Int) then ((atS 2 s8 n35).bind fun (n41, n42) => (if n41 ≠ n3 then ((app l36 ([(n41, n42)] : List (Int × Int))).bind fun _ => some (.inl ((IntKind.i64.wrap (n35 + 1)), (l36 ++ ([(n41, n42)] : List (Int × Int)))))) else some (.inl ((IntKind.i64.wrap (n35 + 1)), l36)))) else some (.inr (.inl l36)))
noncomputable def ref09_Drop (a0 : Int × (Sl (Int × Int))) (n3 : Int) : Option ((Int × (Sl (Int × Int)))) :=
  match a0 with
  | (n1, s2) => ((ref09_Sure (n1, s2)).bind fun (n7, s8) => ((loopO (ref09_Drop_b1 n3 s8) (0, ([] : List (Int × Int)))).bind (Sum.elim (fun l47 => some (n7, (mo 2 l47))) (fun u => some u))))
theorem ref09_Drop_r (m : Nat) {a0 : Int × (Sl (Int × Int))} {n3 : Int} {out : (Int × (Sl (Int × Int)))} (h : ref09_Drop a0 n3 = some out) : RunsP E1 (m + 3) 66 [.agg (r27 a0), .one (iT .i64 n3)] (.fresh, [.agg (r27 out)]) := by
 obtain ⟨n1, s2⟩ := a0
 refine fn_F rfl (by rw [E1_fn]; exact show fiOf Tryd.prog 66 = _ by unfold fiOf; rw [Tryd.func66]; unfold Tryd.f66; rfl) rfl ?_
 dsimp only
 unfold ref09_Drop at h
 refine lS (lO ?_)
 refine ol_new rfl rfl rfl (q_box ty28 rfl (cs := [iI n1, sF r38 s2]) rfl rfl) (fun k4 => ?_)
 refine ol_new rfl rfl rfl (q_alloc ty28 (row := [iI 0, nC]) rfl rfl) (fun k5 => ?_)
 refine oN ?_
 refine pq (ql (.agg [iI n1, sF r38 s2]) 1 sz28) ?_
 obtain ⟨⟨n7, s8⟩, h6, h⟩ := bindS h
 refine ol_putX rfl rfl rfl (q_callX (v := fun fr9 => .agg [iI n7, .p fr9 (Sl.t r38 s8)]) (args := [.agg [iI n1, sF r38 s2]]) (ref09_Sure_r (m + 0) h6) rfl rfl (vw_cons (vd_agg (vc_cons vc_v (vc_cons vc_s vc_nil))) vw_nil) rfl rfl (fun fr => rfl)) (fun fr9 => ?_)
 refine ow [[iI n7, .p fr9 (Sl.t r38 s8)]] 1 sz28 ?_
 refine oN ?_
 refine pq (q_fieldP rfl fa28_0 rfl) ?_
 refine pq (ql (iO n7) 1 sz3) ?_
 refine pq (q_build (cs := [iI n7, nC]) ty28 rfl pl28 rfl) ?_
 refine ol_new rfl rfl rfl (q_alloc ty28 (row := [iI 0, nC]) rfl rfl) (fun k10 => ?_)
 refine ow [[iI n7, nC]] 0 sz28 ?_
 refine oE (eS (lS (lS (lO ?_))))
 refine pq (qa (iO 0)) ?_
 refine oE (eS (lB ?_))
 refine L_addM (α := Int × Int) r38 2 ?_
 let S1 : (Int × (List (Int × Int))) → Nat → (Nat → D) → Nat → D := fun a kt g => ups g [(1, iO n3), (2, .one (.ptr k4 0 0)), (4, .one (.ptr k5 0 0)), (5, .one (.ptr k10 0 0)), (6, .one (iI a.1))]
 let SL1 : (Int × (List (Int × Int))) → Nat → BL := fun a kt => ([[(k4, 2, [[iI n7, .p fr9 (Sl.t r38 s8)]])], [(k5, 2, [[iI 0, nC]])], [(k10, 2, [[iI n7, moC a.2 kt]])], moL r38 2 a.2 kt] : BL)
 let G1 : (Int × (Sl (Int × Int))) → Ex → St → Prop := fun u => endQ E1 [.cell 4 28] (.fresh, [.agg (r27 u)])
 let Sx1 : (List (Int × Int)) → Nat → (Nat → D) → Nat → D := fun a kt g => ups g [(4, .one (.ptr k5 0 0)), (5, .one (.ptr k10 0 0))]
 let SLx1 : (List (Int × Int)) → Nat → BL := fun a kt => ([[(k5, 2, [[iI 0, nC]])], [(k10, 2, [[iI n7, moC a kt]])], moL r38 2 a kt] : BL)
 let J1 : ((List (Int × Int)) ⊕ (Int × (Sl (Int × Int)))) → Ex → St → Prop := JX 38 0 Sx1 SLx1 G1
 refine L_loopS (ref09_Drop_b1 n3 s8) S1 SL1 J1 JX_n (0, ([] : List (Int × Int))) h 1033 (ups_self ⟨rfl, rfl, rfl, rfl, rfl, trivial⟩) [3, 2, 1, 0] (by decide) rfl ?_ ?_
 rintro ⟨n35, l36⟩ k37 g out h
 change ref09_Drop_b1 n3 s8 (n35, l36) = some out at h
 unfold ref09_Drop_b1 at h
 refine lS (lS (lO ?_))
 refine pq (qm (iO n35)) ?_
 refine pq (q_fieldP rfl fa28_1 rfl) ?_
 refine pq (ql (.one (.p fr9 (Sl.t r38 s8))) 0 sz26) ?_
 refine pq (q_lenS rfl ty26 rfl rfl rfl rfl) ?_
 by_cases c38 : n35 < ((s8.l.length : Nat) : Int)
 replace h := ifT c38 h
 refine pq (qb (p_lss_tZ c38)) ?_
 refine oE (eS (cT rfl (lK (eS (lS (lB (lS (lO ?_))))))))
 refine pq (q_fieldP rfl fa28_1 rfl) ?_
 refine pq (ql (.one (.p fr9 (Sl.t r38 s8))) 0 sz26) ?_
 refine pq (qm (iO n35)) ?_
 obtain ⟨⟨n41, n42⟩, h40, h⟩ := bindS h
 obtain ⟨h40a, h40b, h40⟩ := atS_some h40
 refine pq (q_ixS rfl rfl h40a h40 (el26.trans (congrArg some h40b.symm))) ?_
 refine pq (q_fieldI rfl fa39_0 rfl) ?_
 refine pq (q_loadI (v := iO n41) rfl sz3 (map_get h40) rfl rfl) ?_
 refine pq (qm (iO n3)) ?_
 by_cases c43 : n41 ≠ n3
 replace h := ifT c43 h
 refine pq (qb (p_neq_tZ c43)) ?_
 refine oE (eS (cT rfl ?_))
 refine L_norm (L2 := ([[(k4, 2, [[iI n7, .p fr9 (Sl.t r38 s8)]])], [(k5, 2, [[iI 0, nC]])], [(k10, 2, [[iI n7, moC l36 k37]])], moL r38 2 l36 k37] : BL)) [0, 1, 2, 3] (by decide) rfl ?_
 refine L_turn 11 rfl [[], [], [], [], [], [], [], [], moK l36 k37, [], [k10]] [(false, []), (false, []), (false, []), (false, []), (false, []), (false, []), (false, []), (true, []), (true, []), (false, []), (false, [])] [[2, 3, 4, 5, 6, 7], [2, 3, 4, 5, 6, 7], [0, 1, 4], [0, 1, 4], [0, 1, 2, 3], [0, 1], [0, 1], [0, 1], [], [], []] (by kernel_rfl) (by kernel_rfl) (by kernel_rfl) ?_ (fun bb44 hlt hnd => ?_)
 intro bb44 hlt hnd
 have e_k4 : k4 < bb44 := key_lt hlt 0 rfl
 have e_k5 : k5 < bb44 := key_lt hlt 1 rfl
 have e_k10 : k10 < bb44 := key_lt hlt 2 rfl
 have e_k37 : l36 = [] ∨ k37 < bb44 := key_ltM (r := r38) (w := 2) hlt 3 rfl
 have f_k37 := moK_lt e_k37
 have d_k10_k4 : k10 ≠ k4 := key_ne hnd 2 0 rfl rfl rfl
 have d_k10_k5 : k10 ≠ k5 := key_ne hnd 2 1 rfl rfl rfl
 have d_k37_k4 : k4 ∉ moK l36 k37 := key_neM (r := r38) (w := 2) hnd 3 0 rfl rfl rfl
 have g_k37_k4 := moK_ne d_k37_k4
 have d_k37_k5 : k5 ∉ moK l36 k37 := key_neM (r := r38) (w := 2) hnd 3 1 rfl rfl rfl
 have g_k37_k5 := moK_ne d_k37_k5
 have d_k37_k10 : k10 ∉ moK l36 k37 := key_neM (r := r38) (w := 2) hnd 3 2 rfl rfl rfl
 have g_k37_k10 := moK_ne d_k37_k10
 exact ⟨(by first | (simp [DJ]; done) | (simp [DJ]; omega) | (simp [DJ]; assumption) | (simp_all [DJ]; done) | (simp_all [DJ]; omega)), (by first | (simp [DJ]; done) | (simp [DJ]; omega) | (simp [DJ]; assumption) | (simp_all [DJ]; done) | (simp_all [DJ]; omega))⟩
 have e_k4 : k4 < bb44 := key_lt hlt 0 rfl
 have e_k5 : k5 < bb44 := key_lt hlt 1 rfl
 have e_k10 : k10 < bb44 := key_lt hlt 2 rfl
 have e_k37 : l36 = [] ∨ k37 < bb44 := key_ltM (r := r38) (w := 2) hlt 3 rfl
 have f_k37 := moK_lt e_k37
 have d_k10_k4 : k10 ≠ k4 := key_ne hnd 2 0 rfl rfl rfl
 have d_k10_k5 : k10 ≠ k5 := key_ne hnd 2 1 rfl rfl rfl
 have d_k37_k4 : k4 ∉ moK l36 k37 := key_neM (r := r38) (w := 2) hnd 3 0 rfl rfl rfl
 have g_k37_k4 := moK_ne d_k37_k4
 have d_k37_k5 : k5 ∉ moK l36 k37 := key_neM (r := r38) (w := 2) hnd 3 1 rfl rfl rfl
 have g_k37_k5 := moK_ne d_k37_k5
 have d_k37_k10 : k10 ∉ moK l36 k37 := key_neM (r := r38) (w := 2) hnd 3 2 rfl rfl rfl
 have g_k37_k10 := moK_ne d_k37_k10
 refine tq [] rfl hmn (q_fieldP rfl fa28_1 rfl) ?_
 refine tq [2] rfl (hmc (nin_cons (ne_new (key_lt hlt 2 rfl)) nin_nil) hmn) (ql (.one (moC l36 k37)) 0 sz26) ?_
 refine tq [] rfl (hm0 rfl) (q_fieldP rfl fa28_1 rfl) ?_
 refine tq [0] rfl (hm0 rfl) (ql (.one (.p fr9 (Sl.t r38 s8))) 0 sz26) ?_
 refine tq [] rfl (hm0 rfl) (qm (iO n35)) ?_
 refine tq [] rfl (hm0 rfl) (q_ixS rfl rfl h40a h40 (el26.trans (congrArg some h40b.symm))) ?_
 refine tq [] rfl (hm0 rfl) (q_loadI (v := .agg [iI n41, iI n42]) rfl sz39 (map_get h40) rfl rfl) ?_
 refine tn_new rfl rfl rfl [] (by decide) rfl (hm0 rfl) rfl rfl (hkc (ne_new (key_lt hlt 0 rfl)) (hkc (ne_new (key_lt hlt 1 rfl)) (hkc (ne_new (key_lt hlt 2 rfl)) (hkM (e_k37.imp id fun h => by omega) hkn)))) (q_bslice (cs := [iI n41, iI n42]) (es := (([(n41, n42)] : List (Int × Int))).map (rowC r38)) ty26 rfl ty39 rfl rfl rfl rfl rfl) ?_
 obtain ⟨_, h46, h⟩ := bindS h
 obtain ⟨h46b, rfl⟩ := app_some h46
 refine tn_appM (r := r38) (l := l36) 0 4 rfl rfl rfl rfl [4, 0] (by decide) rfl (hm0 rfl) rfl rfl (hkc (ne_add rfl) (hkc (ne_new (key_lt hlt 0 rfl)) (hkc (ne_new (key_lt hlt 1 rfl)) (hkc (ne_new (key_lt hlt 2 rfl)) (hkM (e_k37.imp id fun h => by omega) hkn))))) rfl rfl (el_ownM (l := ([(n41, n42)] : List (Int × Int))) 1 rfl) rfl rfl h46 (fun y => rfl) el26 ty26 rfl rfl rfl rfl rfl ?_
 refine tq [] rfl (hm0 rfl) (q_fieldP rfl fa28_1 rfl) ?_
 refine tn_wr rfl rfl [4] (by decide) rfl (hm0 rfl) rfl (q_store (es' := [[iI n7, moC (l36 ++ ([(n41, n42)] : List (Int × Int))) (bb44 + 8)]]) 0 rfl rfl rfl sz26 rfl rfl rfl rfl rfl) (q := 4) rfl rfl ?_
 refine tn_end (bN (eS (lO ?_)))
 refine pq (qm (iO n35)) ?_
 refine pq (qb p_addY) ?_
 refine pq (qa (iO (IntKind.i64.wrap (n35 + 1)))) ?_
 refine oE ?_
 obtain rfl := sj h
 exact E_next (bb44 + 8) (ups_self ⟨rfl, rfl, rfl, rfl, rfl, trivial⟩) [2, 3, 4, 0] (by decide) rfl
 replace h := ifF c43 h
 refine pq (qb (p_neq_fZ c43)) ?_
 refine oE (eS (cF rfl (lK (bN (eS (lO ?_))))))
 refine pq (qm (iO n35)) ?_
 refine pq (qb p_addY) ?_
 refine pq (qa (iO (IntKind.i64.wrap (n35 + 1)))) ?_
 refine oE ?_
 obtain rfl := sj h
 exact E_next k37 (ups_self ⟨rfl, rfl, rfl, rfl, rfl, trivial⟩) [0, 1, 2, 3] (by decide) rfl
 replace h := ifF c38 h
 refine pq (qb (p_lss_fZ c38)) ?_
 refine oE (eS (cF rfl (L_exit ?_)))
 refine E_seqX ?_
 obtain rfl := sj h
 refine E_out ?_
 exact (E_exit k37 (ups_self ⟨rfl, rfl, trivial⟩) [1, 2, 3] (by decide) rfl)
 rintro (l47 | u) h
 refine J_x (fun k48 g => ?_)
 replace h := elimL h
 refine bH (eS (lS (lO ?_)))
 refine pq (ql (.agg [iI n7, moC l47 k48]) 1 sz28) ?_
 refine ow [[iI n7, moC l47 k48]] 0 sz28 ?_
 refine oE (eS (lR ?_))
 obtain rfl := sj h
 exact E_endF (.inr rfl) (res_cell (d := .agg [iI n7, moC l47 k48]) 0 rfl sz28 rfl rfl rfl rfl res_nil) (vw_cons (vd_agg (vc_cons vc_v (vc_cons (vc_M (r := r38) 2 rfl (fun x h m => rfl)) vc_nil))) vw_nil) oG rfl rfl
 obtain rfl := Option.some.inj (elimR h)
 exact J_up (fun s hs => hs)

noncomputable def ref10_Drop (a0 : Int × Sl (Int) × Sl (Int)) (n4 : Int) : Option ((Int × Sl (Int) × Sl (Int))) :=
  match a0 with
  | (n1, s2, s3) => ((ref10_Back (n1, s2, s3)).bind fun (n8, s9) => ((ref09_Drop (n8, s9) n4).bind fun (n11, s12) => ((ref10_Of (n11, s12)).bind fun (n14, s15, s16) => some (n14, s15, s16))))
theorem ref10_Drop_r (m : Nat) {a0 : Int × Sl (Int) × Sl (Int)} {n4 : Int} {out : (Int × Sl (Int) × Sl (Int))} (h : ref10_Drop a0 n4 = some out) : RunsP E1 (m + 6) 27 [.agg (r24 a0), .one (iT .i64 n4)] (.fresh, [.agg (r24 out)]) := by
 obtain ⟨n1, s2, s3⟩ := a0
 refine fn_F rfl (by rw [E1_fn]; exact show fiOf Tryd.prog 27 = _ by unfold fiOf; rw [Tryd.func27]; unfold Tryd.f27; rfl) rfl ?_
 dsimp only
 unfold ref10_Drop at h
 refine lS (lO ?_)
 refine ol_new rfl rfl rfl (q_box ty25 rfl (cs := [iI n1, sF r85 s2, sF r2 s3]) rfl rfl) (fun k5 => ?_)
 refine ol_new rfl rfl rfl (q_alloc ty25 (row := [iI 0, nC, nC]) rfl rfl) (fun k6 => ?_)
 refine oN ?_
 refine pq (ql (.agg [iI n1, sF r85 s2, sF r2 s3]) 1 sz25) ?_
 obtain ⟨⟨n8, s9⟩, h7, h⟩ := bindS h
 refine pq (qc (.agg [iI n8, sC r38 s9]) [.agg [iI n1, sF r85 s2, sF r2 s3]] (ref10_Back_r (m + 0) h7) (vw_cons (vd_agg (vc_cons vc_v (vc_cons vc_s (vc_cons vc_s vc_nil)))) vw_nil)) ?_
 refine pq (qm (iO n4)) ?_
 obtain ⟨⟨n11, s12⟩, h10, h⟩ := bindS h
 refine pq (qc (.agg [iI n11, sC r38 s12]) [.agg [iI n8, sC r38 s9], iO n4] (ref09_Drop_r (m + 2) h10) (vw_cons (vd_agg (vc_cons vc_v (vc_cons vc_s vc_nil))) (vw_cons (vd_one vc_v) vw_nil))) ?_
 obtain ⟨⟨n14, s15, s16⟩, h13, h⟩ := bindS h
 refine pq (qc (.agg [iI n14, sC r85 s15, sC r2 s16]) [.agg [iI n11, sC r38 s12]] (ref10_Of_r (m + 1) h13) (vw_cons (vd_agg (vc_cons vc_v (vc_cons vc_s vc_nil))) vw_nil)) ?_
 refine ow [[iI n14, sC r85 s15, sC r2 s16]] 0 sz25 ?_
 refine oE (eS (lR ?_))
 obtain rfl := sj h
 exact E_endF (.inr rfl) (res_cell (d := .agg [iI n14, sC r85 s15, sC r2 s16]) 0 rfl sz25 rfl rfl rfl rfl res_nil) (vw_cons (vd_agg (vc_cons vc_v (vc_cons vc_s (vc_cons vc_s vc_nil)))) vw_nil) oG rfl rfl

noncomputable def ref10_Count (a0 : Int × Sl (Int) × Sl (Int)) : Option (Int) :=
  match a0 with
  | (n1, s2, s3) => ((ref10_Back (n1, s2, s3)).bind fun (n6, s7) => some ((s7.l.length : Nat) : Int))
theorem ref10_Count_r (m : Nat) {a0 : Int × Sl (Int) × Sl (Int)} {out : Int} (h : ref10_Count a0 = some out) : RunsP E1 (m + 6) 29 [.agg (r24 a0)] (.fresh, [.one (iT .i64 out)]) := by
 obtain ⟨n1, s2, s3⟩ := a0
 refine fn_F rfl (by rw [E1_fn]; exact show fiOf Tryd.prog 29 = _ by unfold fiOf; rw [Tryd.func29]; unfold Tryd.f29; rfl) rfl ?_
 dsimp only
 unfold ref10_Count at h
 refine lS (lO ?_)
 refine ol_new rfl rfl rfl (q_box ty25 rfl (cs := [iI n1, sF r85 s2, sF r2 s3]) rfl rfl) (fun k4 => ?_)
 refine pq (qa (iO 0)) ?_
 refine oN ?_
 refine pq (ql (.agg [iI n1, sF r85 s2, sF r2 s3]) 0 sz25) ?_
 obtain ⟨⟨n6, s7⟩, h5, h⟩ := bindS h
 refine pq (qc (.agg [iI n6, sC r38 s7]) [.agg [iI n1, sF r85 s2, sF r2 s3]] (ref10_Back_r (m + 0) h5) (vw_cons (vd_agg (vc_cons vc_v (vc_cons vc_s (vc_cons vc_s vc_nil)))) vw_nil)) ?_
 refine pq (q_fieldV (v := .one (sC r38 s7)) rfl fa28_1 rfl rfl) ?_
 refine pq (q_lenS rfl ty26 rfl rfl rfl rfl) ?_
 refine pq (qa (iO ((s7.l.length : Nat) : Int))) ?_
 refine oE (eS (lR ?_))
 obtain rfl := sj h
 exact eF1

noncomputable def ref10_Only_b1 (s4 : Sl (Int)) (s9 : Sl (Int × Int)) (a : Int × (List (Int × Int))) : Option ((Int × (List (Int × Int))) ⊕ ((List (Int × Int)) ⊕ (Int × Sl (Int) × Sl (Int)))) :=
  match a with
  | (n51, l52) => (if n51 < ((s9.l.length : Nat) : Int) then ((atS 2 s9 n51).bind fun (n57, n58) => ((ref03_Has s4 n57).bind fun b60 => (if b60 = true then ((app l52 ([(n57, n58)] : List (Int × Int))).bind fun _ => some (.inl ((IntKind.i64.wrap (n51 + 1)), (l52 ++ ([(n57, n58)] : List (Int × Int)))))) else some (.inl ((IntKind.i64.wrap (n51 + 1)), l52))))) else some (.inr (.inl l52)))
noncomputable def ref10_Only (a0 : Int × Sl (Int) × Sl (Int)) (s4 : Sl (Int)) : Option ((Int × Sl (Int) × Sl (Int))) :=
  match a0 with
  | (n1, s2, s3) => ((ref10_Back (n1, s2, s3)).bind fun (n8, s9) => ((loopO (ref10_Only_b1 s4 s9) (0, ([] : List (Int × Int)))).bind (Sum.elim (fun l64 => ((ref10_Of (n8, (mo 2 l64))).bind fun (n67, s68, s69) => some (n67, s68, s69))) (fun u => some u))))
theorem ref10_Only_r (m : Nat) {a0 : Int × Sl (Int) × Sl (Int)} {s4 : Sl (Int)} {out : (Int × Sl (Int) × Sl (Int))} (h : ref10_Only a0 s4 = some out) : RunsP E1 (m + 6) 31 [.agg (r24 a0), .one (Sl.t r85 s4)] (.fresh, [.agg (r24 out)]) := by
 obtain ⟨n1, s2, s3⟩ := a0
 refine fn_F rfl (by rw [E1_fn]; exact show fiOf Tryd.prog 31 = _ by unfold fiOf; rw [Tryd.func31]; unfold Tryd.f31; rfl) rfl ?_
 dsimp only
 unfold ref10_Only at h
 refine lS (lO ?_)
 refine ol_new rfl rfl rfl (q_box ty25 rfl (cs := [iI n1, sF r85 s2, sF r2 s3]) rfl rfl) (fun k5 => ?_)
 refine ol_new rfl rfl rfl (q_alloc ty25 (row := [iI 0, nC, nC]) rfl rfl) (fun k6 => ?_)
 refine oN ?_
 refine pq (ql (.agg [iI n1, sF r85 s2, sF r2 s3]) 1 sz25) ?_
 obtain ⟨⟨n8, s9⟩, h7, h⟩ := bindS h
 refine pq (qc (.agg [iI n8, sC r38 s9]) [.agg [iI n1, sF r85 s2, sF r2 s3]] (ref10_Back_r (m + 0) h7) (vw_cons (vd_agg (vc_cons vc_v (vc_cons vc_s (vc_cons vc_s vc_nil)))) vw_nil)) ?_
 refine ol_new rfl rfl rfl (q_alloc ty28 (row := [iI 0, nC]) rfl rfl) (fun k10 => ?_)
 refine ow [[iI n8, sC r38 s9]] 0 sz28 ?_
 refine oN ?_
 refine pq (q_fieldP rfl fa28_0 rfl) ?_
 refine pq (ql (iO n8) 0 sz3) ?_
 refine pq (q_build (cs := [iI n8, nC]) ty28 rfl pl28 rfl) ?_
 refine ol_new rfl rfl rfl (q_alloc ty28 (row := [iI 0, nC]) rfl rfl) (fun k11 => ?_)
 refine ow [[iI n8, nC]] 0 sz28 ?_
 refine oE (eS (lS (lS (lO ?_))))
 refine pq (qa (iO 0)) ?_
 refine oE (eS (lB ?_))
 refine L_addM (α := Int × Int) r38 2 ?_
 let S1 : (Int × (List (Int × Int))) → Nat → (Nat → D) → Nat → D := fun a kt g => ups g [(1, .one (sF r85 s4)), (4, .one (.ptr k6 0 0)), (5, .one (.ptr k10 0 0)), (6, .one (.ptr k11 0 0)), (7, .one (iI a.1))]
 let SL1 : (Int × (List (Int × Int))) → Nat → BL := fun a kt => ([[(k6, 3, [[iI 0, nC, nC]])], [(k10, 2, [[iI n8, sC r38 s9]])], [(k11, 2, [[iI n8, moC a.2 kt]])], moL r38 2 a.2 kt] : BL)
 let G1 : (Int × Sl (Int) × Sl (Int)) → Ex → St → Prop := fun u => endQ E1 [.cell 4 25] (.fresh, [.agg (r24 u)])
 let Sx1 : (List (Int × Int)) → Nat → (Nat → D) → Nat → D := fun a kt g => ups g [(4, .one (.ptr k6 0 0)), (6, .one (.ptr k11 0 0))]
 let SLx1 : (List (Int × Int)) → Nat → BL := fun a kt => ([[(k6, 3, [[iI 0, nC, nC]])], [(k11, 2, [[iI n8, moC a kt]])], moL r38 2 a kt] : BL)
 let J1 : ((List (Int × Int)) ⊕ (Int × Sl (Int) × Sl (Int))) → Ex → St → Prop := JX 40 0 Sx1 SLx1 G1
 refine L_loopS (ref10_Only_b1 s4 s9) S1 SL1 J1 JX_n (0, ([] : List (Int × Int))) h 1049 (ups_self ⟨rfl, rfl, rfl, rfl, rfl, trivial⟩) [3, 2, 1, 0] (by decide) rfl ?_ ?_
 rintro ⟨n51, l52⟩ k53 g out h
 change ref10_Only_b1 s4 s9 (n51, l52) = some out at h
 unfold ref10_Only_b1 at h
 refine lS (lS (lO ?_))
 refine pq (qm (iO n51)) ?_
 refine pq (q_fieldP rfl fa28_1 rfl) ?_
 refine pq (ql (.one (sC r38 s9)) 1 sz26) ?_
 refine pq (q_lenS rfl ty26 rfl rfl rfl rfl) ?_
 by_cases c54 : n51 < ((s9.l.length : Nat) : Int)
 replace h := ifT c54 h
 refine pq (qb (p_lss_tZ c54)) ?_
 refine oE (eS (cT rfl (lK (eS (lS (lB (lS (lO ?_))))))))
 refine pq (qm (.one (sF r85 s4))) ?_
 refine pq (q_fieldP rfl fa28_1 rfl) ?_
 refine pq (ql (.one (sC r38 s9)) 1 sz26) ?_
 refine pq (qm (iO n51)) ?_
 obtain ⟨⟨n57, n58⟩, h56, h⟩ := bindS h
 obtain ⟨h56a, h56b, h56⟩ := atS_some h56
 refine pq (q_ixS rfl rfl h56a h56 (el26.trans (congrArg some h56b.symm))) ?_
 refine pq (q_fieldI rfl fa39_0 rfl) ?_
 refine pq (q_loadI (v := iO n57) rfl sz3 (map_get h56) rfl rfl) ?_
 obtain ⟨b60, h59, h⟩ := bindS h
 refine pq (qc (bO b60) [.one (sF r85 s4), iO n57] (ref03_Has_r (m + 4) h59) (vw_cons (vd_one vc_s) (vw_cons (vd_one vc_v) vw_nil))) ?_
 refine oE (eS ?_)
 rcases b60 with _ | _
 replace h := wF h
 refine cF rfl (lK (bN (eS (lO ?_))))
 refine pq (qm (iO n51)) ?_
 refine pq (qb p_addY) ?_
 refine pq (qa (iO (IntKind.i64.wrap (n51 + 1)))) ?_
 refine oE ?_
 obtain rfl := sj h
 exact E_next k53 (ups_self ⟨rfl, rfl, rfl, rfl, rfl, trivial⟩) [0, 1, 2, 3] (by decide) rfl
 replace h := wT h
 refine cT rfl ?_
 refine L_norm (L2 := ([[(k6, 3, [[iI 0, nC, nC]])], [(k10, 2, [[iI n8, sC r38 s9]])], [(k11, 2, [[iI n8, moC l52 k53]])], moL r38 2 l52 k53] : BL)) [0, 1, 2, 3] (by decide) rfl ?_
 refine L_turn 11 rfl [[], [], [], [], [], [], [], [], moK l52 k53, [], [k11]] [(false, []), (false, []), (false, []), (false, []), (false, []), (false, []), (false, []), (true, []), (true, []), (false, []), (false, [])] [[2, 3, 4, 5, 6, 7], [2, 3, 4, 5, 6, 7], [0, 1, 4], [0, 1, 4], [0, 1, 2, 3], [0, 1], [0, 1], [0, 1], [], [], []] (by kernel_rfl) (by kernel_rfl) (by kernel_rfl) ?_ (fun bb61 hlt hnd => ?_)
 intro bb61 hlt hnd
 have e_k6 : k6 < bb61 := key_lt hlt 0 rfl
 have e_k10 : k10 < bb61 := key_lt hlt 1 rfl
 have e_k11 : k11 < bb61 := key_lt hlt 2 rfl
 have e_k53 : l52 = [] ∨ k53 < bb61 := key_ltM (r := r38) (w := 2) hlt 3 rfl
 have f_k53 := moK_lt e_k53
 have d_k11_k6 : k11 ≠ k6 := key_ne hnd 2 0 rfl rfl rfl
 have d_k11_k10 : k11 ≠ k10 := key_ne hnd 2 1 rfl rfl rfl
 have d_k53_k6 : k6 ∉ moK l52 k53 := key_neM (r := r38) (w := 2) hnd 3 0 rfl rfl rfl
 have g_k53_k6 := moK_ne d_k53_k6
 have d_k53_k10 : k10 ∉ moK l52 k53 := key_neM (r := r38) (w := 2) hnd 3 1 rfl rfl rfl
 have g_k53_k10 := moK_ne d_k53_k10
 have d_k53_k11 : k11 ∉ moK l52 k53 := key_neM (r := r38) (w := 2) hnd 3 2 rfl rfl rfl
 have g_k53_k11 := moK_ne d_k53_k11
 exact ⟨(by first | (simp [DJ]; done) | (simp [DJ]; omega) | (simp [DJ]; assumption) | (simp_all [DJ]; done) | (simp_all [DJ]; omega)), (by first | (simp [DJ]; done) | (simp [DJ]; omega) | (simp [DJ]; assumption) | (simp_all [DJ]; done) | (simp_all [DJ]; omega))⟩
 have e_k6 : k6 < bb61 := key_lt hlt 0 rfl
 have e_k10 : k10 < bb61 := key_lt hlt 1 rfl
 have e_k11 : k11 < bb61 := key_lt hlt 2 rfl
 have e_k53 : l52 = [] ∨ k53 < bb61 := key_ltM (r := r38) (w := 2) hlt 3 rfl
 have f_k53 := moK_lt e_k53
 have d_k11_k6 : k11 ≠ k6 := key_ne hnd 2 0 rfl rfl rfl
 have d_k11_k10 : k11 ≠ k10 := key_ne hnd 2 1 rfl rfl rfl
 have d_k53_k6 : k6 ∉ moK l52 k53 := key_neM (r := r38) (w := 2) hnd 3 0 rfl rfl rfl
 have g_k53_k6 := moK_ne d_k53_k6
 have d_k53_k10 : k10 ∉ moK l52 k53 := key_neM (r := r38) (w := 2) hnd 3 1 rfl rfl rfl
 have g_k53_k10 := moK_ne d_k53_k10
 have d_k53_k11 : k11 ∉ moK l52 k53 := key_neM (r := r38) (w := 2) hnd 3 2 rfl rfl rfl
 have g_k53_k11 := moK_ne d_k53_k11
 refine tq [] rfl hmn (q_fieldP rfl fa28_1 rfl) ?_
 refine tq [2] rfl (hmc (nin_cons (ne_new (key_lt hlt 2 rfl)) nin_nil) hmn) (ql (.one (moC l52 k53)) 0 sz26) ?_
 refine tq [] rfl (hm0 rfl) (q_fieldP rfl fa28_1 rfl) ?_
 refine tq [1] rfl (hm0 rfl) (ql (.one (sC r38 s9)) 0 sz26) ?_
 refine tq [] rfl (hm0 rfl) (qm (iO n51)) ?_
 refine tq [] rfl (hm0 rfl) (q_ixS rfl rfl h56a h56 (el26.trans (congrArg some h56b.symm))) ?_
 refine tq [] rfl (hm0 rfl) (q_loadI (v := .agg [iI n57, iI n58]) rfl sz39 (map_get h56) rfl rfl) ?_
 refine tn_new rfl rfl rfl [] (by decide) rfl (hm0 rfl) rfl rfl (hkc (ne_new (key_lt hlt 0 rfl)) (hkc (ne_new (key_lt hlt 1 rfl)) (hkc (ne_new (key_lt hlt 2 rfl)) (hkM (e_k53.imp id fun h => by omega) hkn)))) (q_bslice (cs := [iI n57, iI n58]) (es := (([(n57, n58)] : List (Int × Int))).map (rowC r38)) ty26 rfl ty39 rfl rfl rfl rfl rfl) ?_
 obtain ⟨_, h63, h⟩ := bindS h
 obtain ⟨h63b, rfl⟩ := app_some h63
 refine tn_appM (r := r38) (l := l52) 0 4 rfl rfl rfl rfl [4, 0] (by decide) rfl (hm0 rfl) rfl rfl (hkc (ne_add rfl) (hkc (ne_new (key_lt hlt 0 rfl)) (hkc (ne_new (key_lt hlt 1 rfl)) (hkc (ne_new (key_lt hlt 2 rfl)) (hkM (e_k53.imp id fun h => by omega) hkn))))) rfl rfl (el_ownM (l := ([(n57, n58)] : List (Int × Int))) 1 rfl) rfl rfl h63 (fun y => rfl) el26 ty26 rfl rfl rfl rfl rfl ?_
 refine tq [] rfl (hm0 rfl) (q_fieldP rfl fa28_1 rfl) ?_
 refine tn_wr rfl rfl [4] (by decide) rfl (hm0 rfl) rfl (q_store (es' := [[iI n8, moC (l52 ++ ([(n57, n58)] : List (Int × Int))) (bb61 + 8)]]) 0 rfl rfl rfl sz26 rfl rfl rfl rfl rfl) (q := 4) rfl rfl ?_
 refine tn_end (bN (eS (lO ?_)))
 refine pq (qm (iO n51)) ?_
 refine pq (qb p_addY) ?_
 refine pq (qa (iO (IntKind.i64.wrap (n51 + 1)))) ?_
 refine oE ?_
 obtain rfl := sj h
 exact E_next (bb61 + 8) (ups_self ⟨rfl, rfl, rfl, rfl, rfl, trivial⟩) [2, 3, 4, 0] (by decide) rfl
 replace h := ifF c54 h
 refine pq (qb (p_lss_fZ c54)) ?_
 refine oE (eS (cF rfl (L_exit ?_)))
 refine E_seqX ?_
 obtain rfl := sj h
 refine E_out ?_
 exact (E_exit k53 (ups_self ⟨rfl, rfl, trivial⟩) [0, 2, 3] (by decide) rfl)
 rintro (l64 | u) h
 refine J_x (fun k65 g => ?_)
 replace h := elimL h
 refine bH (eS (lS (lO ?_)))
 refine pq (ql (.agg [iI n8, moC l64 k65]) 1 sz28) ?_
 obtain ⟨⟨n67, s68, s69⟩, h66, h⟩ := bindS h
 refine pq (qc (.agg [iI n67, sC r85 s68, sC r2 s69]) [.agg [iI n8, moC l64 k65]] (ref10_Of_r (m + 1) h66) (vw_cons (vd_agg (vc_cons vc_v (vc_cons (vc_M (r := r38) 2 rfl (fun x h m => rfl)) vc_nil))) vw_nil)) ?_
 refine ow [[iI n67, sC r85 s68, sC r2 s69]] 0 sz25 ?_
 refine oE (eS (lR ?_))
 obtain rfl := sj h
 exact E_endF (.inr rfl) (res_cell (d := .agg [iI n67, sC r85 s68, sC r2 s69]) 0 rfl sz25 rfl rfl rfl rfl res_nil) (vw_cons (vd_agg (vc_cons vc_v (vc_cons vc_s (vc_cons vc_s vc_nil)))) vw_nil) oG rfl rfl
 obtain rfl := Option.some.inj (elimR h)
 exact J_up (fun s hs => hs)

noncomputable def flags_Part_b2 (n2 : Int) (n3 : Int) (n225 : Int) (a : Int × List (Int)) : Option ((Int × List (Int)) ⊕ ((List (Int)) ⊕ ((List (Int)) ⊕ Empty))) :=
  match a with
  | (n302, l303) => (if n302 ≠ 0 then ((TZ n302).bind fun n307 => (if (IntKind.i64.wrap ((IntKind.i64.wrap (n225 * 64)) + n307)) ≥ n3 then some (.inr (.inl l303)) else (if (IntKind.i64.wrap ((IntKind.i64.wrap (n225 * 64)) + n307)) ≥ (maxI n2 0) then ((flags_within (⟨true, 1, l303⟩ : Sl (Int)) (IntKind.i64.wrap ((IntKind.i64.wrap ((IntKind.i64.wrap (n225 * 64)) + n307)) - (maxI n2 0)))).bind fun b311 => (if b311 = true then ((divO .i64 (IntKind.i64.wrap ((IntKind.i64.wrap ((IntKind.i64.wrap (n225 * 64)) + n307)) - (maxI n2 0))) 64).bind fun n320 => ((atL l303 n320).bind fun n324 => ((flags_bit (IntKind.i64.wrap ((IntKind.i64.wrap ((IntKind.i64.wrap (n225 * 64)) + n307)) - (maxI n2 0)))).bind fun n326 => some (.inl ((andI .u64 n302 (IntKind.u64.wrap (n302 - 1))), (l303.set n320.toNat (orI .u64 n324 n326))))))) else some (.inl ((andI .u64 n302 (IntKind.u64.wrap (n302 - 1))), l303)))) else some (.inl ((andI .u64 n302 (IntKind.u64.wrap (n302 - 1))), l303))))) else some (.inr (.inr (.inl l303))))
noncomputable def flags_Part_b1 (s1 : Sl (Int)) (n2 : Int) (n3 : Int) (a : Int × List (Int)) : Option ((Int × List (Int)) ⊕ ((List (Int)) ⊕ ((List (Int)) ⊕ Empty))) :=
  match a with
  | (n225, l226) => (if n225 < ((s1.l.length : Nat) : Int) then ((atS 1 s1 n225).bind fun n231 => ((loopO (flags_Part_b2 n2 n3 n225) (n231, l226)).bind ((Sum.elim (fun l327 => some (.inr (.inl l327))) (Sum.elim (fun l329 => some (.inl ((IntKind.i64.wrap (n225 + 1)), l329))) (fun u => u.elim)))))) else some (.inr (.inr (.inl l226))))
noncomputable def flags_Part (s1 : Sl (Int)) (n2 : Int) (n3 : Int) : Option (List (Int)) :=
  (if n3 ≤ (maxI n2 0) then ((flags_New 0).bind fun s8 => some s8) else ((flags_New (IntKind.i64.wrap (n3 - (maxI n2 0)))).bind fun s11 => ((loopO (flags_Part_b1 s1 n2 n3) (0, s11)).bind ((Sum.elim (fun l331 => some l331) (Sum.elim (fun l333 => some l333) (fun u => u.elim)))))))
theorem flags_Part_r (m : Nat) {s1 : Sl (Int)} {n2 : Int} {n3 : Int} {out : List (Int)} (h : flags_Part s1 n2 n3 = some out) : RunsP E1 (m + 3) 69 [.one (Sl.t r85 s1), .one (iT .i64 n2), .one (iT .i64 n3)] (.own, [.one (.s true 1 ((out).map r85))]) := by
 refine fn_O rfl (by rw [E1_fn]; exact show fiOf Tryd.prog 69 = _ by unfold fiOf; rw [Tryd.func69]; unfold Tryd.f69; rfl) rfl ?_
 dsimp only
 unfold flags_Part at h
 refine lS (lO ?_)
 refine ol_new rfl rfl rfl (q_box ty3 rfl (cs := [iI n2]) rfl rfl) (fun k4 => ?_)
 refine ol_new rfl rfl rfl (q_box ty3 rfl (cs := [iI n3]) rfl rfl) (fun k5 => ?_)
 refine pq (qa (.one nC)) ?_
 refine oN ?_
 refine pq (ql (iO n2) 1 sz3) ?_
 refine pq ((q_minmax rfl rfl ty3 rfl rfl).2 rfl) ?_
 refine ow [[iI (maxI n2 0)]] 1 sz3 ?_
 refine oE (eS (lS (lS (lO ?_))))
 refine pq (ql (iO n3) 0 sz3) ?_
 refine pq (ql (iO (maxI n2 0)) 1 sz3) ?_
 by_cases c6 : n3 ≤ (maxI n2 0)
 replace h := ifT c6 h
 refine pq (qb (p_leq_tZ c6)) ?_
 refine oE (eS (cT rfl (lS (lO ?_))))
 obtain ⟨s8, h7, h⟩ := bindS h
 refine ol_new rfl rfl rfl (q_callO (args := [iO 0]) (flags_New_r (m + 0) h7) rfl rfl (vw_cons (vd_one vc_v) vw_nil) rfl) (fun k9 => ?_)
 refine pq (qa (.one (.own k9 0 (s8).length))) ?_
 refine oE (eS (lR (eR ?_)))
 obtain rfl := sj h
 exact E_endO (r := r85) 0 (.inr rfl) (res_tmp rfl res_nil) rfl (fun x h m => rfl) (fun x => rfl)
 replace h := ifF c6 h
 refine pq (qb (p_leq_fZ c6)) ?_
 refine oE (eS (cF rfl (lK (eS (lS (lO ?_))))))
 refine pq (ql (iO n3) 0 sz3) ?_
 refine pq (ql (iO (maxI n2 0)) 1 sz3) ?_
 refine pq (qb p_subY) ?_
 obtain ⟨s11, h10, h⟩ := bindS h
 refine ol_new rfl rfl rfl (q_callO (args := [.one (iI (IntKind.i64.wrap (n3 - (maxI n2 0))))]) (flags_New_r (m + 0) h10) rfl rfl (vw_cons (vd_one vc_v) vw_nil) rfl) (fun k12 => ?_)
 refine ol_new rfl rfl rfl (q_alloc ty22 (row := [nC]) rfl rfl) (fun k13 => ?_)
 refine ow [[.own k12 0 (s11).length]] 0 sz22 ?_
 refine oE (eS (lS (lS (lO ?_))))
 refine pq (qm (.one (sF r85 s1))) ?_
 refine ol_scallN (args := [.one (sF r85 s1)]) rfl rfl rfl ax94 (by rw [E1_fn]; exact show fiOf Tryd.prog 94 = _ by unfold fiOf; rw [Tryd.func94]; unfold Tryd.f94; rfl) rfl rfl rfl ?_
 dsimp only
 refine lS (lO ?_)
 refine ol_new rfl rfl rfl (q_box ty22 rfl (cs := [sF r85 s1]) rfl rfl) (fun k14 => ?_)
 refine pq (qa (.one (.p true (.v .nilFunc)))) ?_
 refine oN ?_
 refine pq (q_mkfun rfl rfl) ?_
 refine pq (qa (.one (.clo (.func 103) [] [.ptr k14 0 0]))) ?_
 refine oE (eS (lR ?_))
 refine E_call (v := .one (.clo (.func 103) [] [.ptr k14 0 0])) (.inr rfl) (res_tmp (d := .one (.clo (.func 103) [] [.ptr k14 0 0])) rfl res_nil) rfl ?_
 refine oE (eS (lB ?_))
 refine L_range rfl (by rw [E1_fn]; exact show fiOf Tryd.prog 103 = _ by unfold fiOf; rw [Tryd.func103]; unfold Tryd.f103; rfl) rfl rfl (fun k15 => ?_)
 dsimp only
 refine lS (lO ?_)
 refine pq (ql (.one (sF r85 s1)) 1 sz22) ?_
 refine pq (q_lenS rfl ty22 rfl rfl rfl rfl) ?_
 refine pq (qm (iO 0)) ?_
 refine oE (eS (lB ?_))
 let S1 : (Int × List (Int)) → Nat → (Nat → D) → Nat → D := fun a kt g => ups g [(0, .one (.yld k15)), (5, .one (sF r85 s1)), (6, .one (iI ((s1.l.length : Nat) : Int))), (7, .one (iI a.1))]
 let SL1 : (Int × List (Int)) → Nat → BL := fun a kt => ([[(k15, 0, [])], [(k4, 1, [[iI (maxI n2 0)]])], [(k5, 1, [[iI n3]])], [(k13, 1, [[.own kt 0 (a.2).length]])], [(kt, 1, (a.2).map (rowC r85))]] : BL)
 let G1 : Empty → Ex → St → Prop := fun u => u.elim
 let Sx1_1 : (List (Int)) → Nat → (Nat → D) → Nat → D := fun a kt g => ups g []
 let SLx1_1 : (List (Int)) → Nat → BL := fun a kt => ([[(k4, 1, [[iI (maxI n2 0)]])], [(k5, 1, [[iI n3]])], [(k13, 1, [[.own kt 0 (a).length]])], [(k15, 0, [])], [(kt, 1, (a).map (rowC r85))]] : BL)
 let Sx1_0 : (List (Int)) → Nat → (Nat → D) → Nat → D := fun a kt g => ups g []
 let SLx1_0 : (List (Int)) → Nat → BL := fun a kt => ([[(k4, 1, [[iI (maxI n2 0)]])], [(k5, 1, [[iI n3]])], [(k13, 1, [[.own kt 0 (a).length]])], [(k15, 0, [[], []])], [(kt, 1, (a).map (rowC r85))]] : BL)
 let J1 : ((List (Int)) ⊕ ((List (Int)) ⊕ Empty)) → Ex → St → Prop := JE 27 .ret Sx1_0 SLx1_0 (JE 27 (.exit 0) Sx1_1 SLx1_1 (JU G1))
 refine L_loopS (flags_Part_b1 s1 n2 n3) S1 SL1 J1 (JE_n rfl (JE_n rfl (JU_n))) (0, s11) h k12 (ups_self ⟨rfl, rfl, rfl, rfl, trivial⟩) [0, 5, 4, 2, 3] (by decide) rfl ?_ ?_
 rintro ⟨n225, l226⟩ k227 g out h
 change flags_Part_b1 s1 n2 n3 (n225, l226) = some out at h
 unfold flags_Part_b1 at h
 refine lS (lO ?_)
 by_cases c228 : n225 < ((s1.l.length : Nat) : Int)
 replace h := ifT c228 h
 refine pq (qb (p_lss_tZ c228)) ?_
 refine oE (eS (lS (cT rfl (lK (eS (lS (lB (lS (lO ?_)))))))))
 refine pq (qm (iO n225)) ?_
 obtain ⟨n231, h230, h⟩ := bindS h
 obtain ⟨h230a, h230b, h230⟩ := atS_some h230
 refine pq (q_ixS rfl rfl h230a h230 (el22.trans (congrArg some h230b.symm))) ?_
 refine pq (q_loadI (v := .one (uI n231)) rfl sz85 (map_get h230) rfl rfl) ?_
 refine pq (qa (iO n225)) ?_
 refine pq (qa (.one (uI n231))) ?_
 refine oE (eS (lB ?_))
 let S2 : (Int × List (Int)) → Nat → (Nat → D) → Nat → D := fun a kt g => ups g [(0, .one (.yld k15)), (3, iO n225), (4, .one (uI a.1)), (5, .one (sF r85 s1)), (6, .one (iI ((s1.l.length : Nat) : Int))), (7, iO n225)]
 let SL2 : (Int × List (Int)) → Nat → BL := fun a kt => ([[(k15, 0, [])], [(k4, 1, [[iI (maxI n2 0)]])], [(k5, 1, [[iI n3]])], [(k13, 1, [[.own kt 0 (a.2).length]])], [(kt, 1, (a.2).map (rowC r85))]] : BL)
 let G2 : Empty → Ex → St → Prop := fun u => u.elim
 let Sx2_1 : (List (Int)) → Nat → (Nat → D) → Nat → D := fun a kt g => ups g [(0, .one (.yld k15)), (5, .one (sF r85 s1)), (6, .one (iI ((s1.l.length : Nat) : Int))), (7, iO n225)]
 let SLx2_1 : (List (Int)) → Nat → BL := fun a kt => ([[(k15, 0, [])], [(k4, 1, [[iI (maxI n2 0)]])], [(k5, 1, [[iI n3]])], [(k13, 1, [[.own kt 0 (a).length]])], [(kt, 1, (a).map (rowC r85))]] : BL)
 let Sx2_0 : (List (Int)) → Nat → (Nat → D) → Nat → D := fun a kt g => ups g []
 let SLx2_0 : (List (Int)) → Nat → BL := fun a kt => ([[(k4, 1, [[iI (maxI n2 0)]])], [(k5, 1, [[iI n3]])], [(k13, 1, [[.own kt 0 (a).length]])], [(k15, 0, [[], []])], [(kt, 1, (a).map (rowC r85))]] : BL)
 let J2 : ((List (Int)) ⊕ ((List (Int)) ⊕ Empty)) → Ex → St → Prop := JE 27 .ret Sx2_0 SLx2_0 (JE 27 (.exit 2) Sx2_1 SLx2_1 (JU G2))
 refine L_loopS (flags_Part_b2 n2 n3 n225) S2 SL2 J2 (JE_n rfl (JE_n rfl (JU_n))) (n231, l226) h k227 (ups_self ⟨rfl, rfl, rfl, rfl, rfl, rfl, trivial⟩) [0, 1, 2, 3, 4] (by decide) rfl ?_ ?_
 rintro ⟨n302, l303⟩ k304 g out h
 change flags_Part_b2 n2 n3 n225 (n302, l303) = some out at h
 unfold flags_Part_b2 at h
 refine lS (lS (lO ?_))
 refine pq (qm (.one (uI n302))) ?_
 by_cases c305 : n302 ≠ 0
 replace h := ifT c305 h
 refine pq (qb (p_neq_tZ c305)) ?_
 refine oE (eS (cT rfl (lK (eS (lS (lB (lS (lO ?_))))))))
 refine pq (qm (.one (.yld k15))) ?_
 refine pq (qm (iO n225)) ?_
 refine pq (qb p_mulY) ?_
 refine pq (qm (.one (uI n302))) ?_
 obtain ⟨n307, h306, h⟩ := bindS h
 refine pq (qc (iO n307) [.one (uI n302)] (TZ_r (m + 0) h306) (vw_cons (vd_one vc_v) vw_nil)) ?_
 refine pq (qb p_addY) ?_
 refine ol_yield (args := [.one (iI (IntKind.i64.wrap ((IntKind.i64.wrap (n225 * 64)) + n307)))]) (p := 0) rfl rfl rfl rfl rfl rfl rfl rfl rfl ?_
 refine lO ?_
 refine pq (qa (.one (iI (IntKind.i64.wrap ((IntKind.i64.wrap (n225 * 64)) + n307))))) ?_
 refine oE ?_
 refine E_asg ?_
 refine lB (lS (lS (lO ?_)))
 refine pq (qm (.one (iI (IntKind.i64.wrap ((IntKind.i64.wrap (n225 * 64)) + n307))))) ?_
 refine pq (ql (iO n3) 2 sz3) ?_
 by_cases c308 : (IntKind.i64.wrap ((IntKind.i64.wrap (n225 * 64)) + n307)) ≥ n3
 replace h := ifT c308 h
 refine pq (qb (p_geq_tZ c308)) ?_
 refine oE (eS (cT rfl (L_exit ?_)))
 refine E_seqX ?_
 refine E_blkX rfl ?_
 refine E_roundX (p := 0) (es := [[], []]) rfl rfl rfl rfl ?_
 refine pq (q_not rfl) ?_
 refine oE (eS (cT rfl (lR (bR (eR ?_)))))
 obtain rfl := sj h
 refine E_out ?_
 exact (E_je k304 (ups_self trivial) [1, 2, 3, 0, 4] (by decide) rfl)
 replace h := ifF c308 h
 refine pq (qb (p_geq_fZ c308)) ?_
 refine oE (eS (cF rfl (lK (eS (lS (lO ?_))))))
 refine pq (qm (.one (iI (IntKind.i64.wrap ((IntKind.i64.wrap (n225 * 64)) + n307))))) ?_
 refine pq (ql (iO (maxI n2 0)) 1 sz3) ?_
 by_cases c309 : (IntKind.i64.wrap ((IntKind.i64.wrap (n225 * 64)) + n307)) ≥ (maxI n2 0)
 replace h := ifT c309 h
 refine pq (qb (p_geq_tZ c309)) ?_
 refine pq (qm bt) ?_
 refine pq (ql (.one (.own k304 0 (l303).length)) 3 sz22) ?_
 refine pq (qm (.one (iI (IntKind.i64.wrap ((IntKind.i64.wrap (n225 * 64)) + n307))))) ?_
 refine pq (ql (iO (maxI n2 0)) 1 sz3) ?_
 refine pq (qb p_subY) ?_
 obtain ⟨b311, h310, h⟩ := bindS h
 refine pq (qc (bO b311) [.one (.own k304 0 (l303).length), .one (iI (IntKind.i64.wrap ((IntKind.i64.wrap ((IntKind.i64.wrap (n225 * 64)) + n307)) - (maxI n2 0))))] (flags_within_r (m + 1) h310) (vw_cons (vd_one (vc_own (r := r85) 4 rfl (fun x h m => rfl))) (vw_cons (vd_one vc_v) vw_nil))) ?_
 refine pq (qpt (bO b311)) ?_
 refine oE (eS ?_)
 rcases b311 with _ | _
 replace h := wF h
 refine cF rfl (lK (bN ?_))
 refine E_roundN (p := 0) rfl ?_
 refine pq (q_not rfl) ?_
 refine oE (eS (cF rfl (lK (bN (eS (lO ?_))))))
 refine pq (qm (.one (uI n302))) ?_
 refine pq (qm (.one (uI n302))) ?_
 refine pq (qb p_subY) ?_
 refine pq (q_bin rfl rfl (p_and _ _ _ _ _ _ _) rfl) ?_
 refine pq (qa (.one (uI (andI .u64 n302 (IntKind.u64.wrap (n302 - 1)))))) ?_
 refine oE ?_
 obtain rfl := sj h
 exact E_next k304 (ups_self ⟨rfl, rfl, rfl, rfl, rfl, rfl, trivial⟩) [0, 1, 2, 3, 4] (by decide) rfl
 replace h := wT h
 refine cT rfl ?_
 refine L_norm (L2 := ([[(k15, 0, [])], [(k4, 1, [[iI (maxI n2 0)]])], [(k5, 1, [[iI n3]])], [(k13, 1, [[.own k304 0 (l303).length]])], [(k304, 1, (l303).map (rowC r85))]] : BL)) [0, 1, 2, 3, 4] (by decide) rfl ?_
 refine L_turn 14 rfl [[], [], [], [], [], [], [], [], [], [], [], [], [], [k304]] [(false, []), (false, []), (false, []), (false, []), (false, []), (false, []), (false, []), (false, []), (false, []), (false, []), (false, []), (false, []), (false, []), (false, [])] [[1, 2, 3, 4, 7, 8, 9, 10], [0, 2, 7, 8, 9, 10], [0, 1, 7, 8, 9, 10], [0, 7, 8, 9, 10], [0, 7, 8, 9, 10], [7, 8, 9, 10], [7, 8, 9, 10], [0, 1, 2, 3, 4, 5, 6, 8], [0, 1, 2, 3, 4, 5, 6, 7], [0, 1, 2, 3, 4, 5, 6], [0, 1, 2, 3, 4, 5, 6], [], [], []] (by kernel_rfl) (by kernel_rfl) (by kernel_rfl) ?_ (fun bb312 hlt hnd => ?_)
 intro bb312 hlt hnd
 exact ⟨⟨djE, ⟨djE, ⟨djE, ⟨djE, ⟨djE, ⟨djE, ⟨djE, ⟨djE, ⟨djE, ⟨djE, ⟨djE, ⟨djE, ⟨djE, ⟨djN, trivial⟩⟩⟩⟩⟩⟩⟩⟩⟩⟩⟩⟩⟩⟩, (ltO_cons ltK_nil (ltO_cons ltK_nil (ltO_cons ltK_nil (ltO_cons ltK_nil (ltO_cons ltK_nil (ltO_cons ltK_nil (ltO_cons ltK_nil (ltO_cons ltK_nil (ltO_cons ltK_nil (ltO_cons ltK_nil (ltO_cons ltK_nil (ltO_cons ltK_nil (ltO_cons ltK_nil (ltO_cons (ltK_cons (key_lt hlt 4 rfl) ltK_nil) ltO_nil))))))))))))))⟩
 refine tq [3] rfl (hm0 rfl) (ql (.one (.own k304 0 (l303).length)) 0 sz22) ?_
 refine tq [] rfl (hm0 rfl) (qm (.one (iI (IntKind.i64.wrap ((IntKind.i64.wrap (n225 * 64)) + n307))))) ?_
 refine tq [1] rfl (hm0 rfl) (ql (iO (maxI n2 0)) 0 sz3) ?_
 refine tn_put rfl rfl rfl [] (by decide) rfl (hm0 rfl) rfl (qb p_subY) ?_
 obtain ⟨n320, h321, h⟩ := bindS h
 refine tq [] rfl (hm0 rfl) (q_bin rfl rfl (divO_p h321) rfl) ?_
 obtain ⟨n324, h323, h⟩ := bindS h
 obtain ⟨h323a, h323⟩ := atL_some h323
 refine tq [4] rfl (hm0 rfl) (q_ixO 0 rfl rfl h323a h323 rfl el22) ?_
 refine tq [4] rfl (hm0 rfl) (q_loadP (v := .one (uI n324)) 0 rfl sz85 rfl (map_get h323) rfl rfl) ?_
 refine tq [] rfl (hm0 rfl) (qm (.one (iI (IntKind.i64.wrap ((IntKind.i64.wrap (n225 * 64)) + n307))))) ?_
 refine tq [1] rfl (hm0 rfl) (ql (iO (maxI n2 0)) 0 sz3) ?_
 refine tn_put rfl rfl rfl [] (by decide) rfl (hm0 rfl) rfl (qb p_subY) ?_
 obtain ⟨n326, h325, h⟩ := bindS h
 refine tq [] rfl (hm0 rfl) (qc (.one (uI n326)) [.one (iI (IntKind.i64.wrap ((IntKind.i64.wrap ((IntKind.i64.wrap (n225 * 64)) + n307)) - (maxI n2 0))))] (flags_bit_r (m + 1) h325) (vw_cons (vd_one vc_v) vw_nil)) ?_
 refine tq [] rfl (hm0 rfl) (q_bin rfl rfl (p_or _ _ _ _ _ _ _) rfl) ?_
 refine tq [4] rfl (hm0 rfl) (q_ixO 0 rfl rfl h323a h323 rfl el22) ?_
 refine tn_wr rfl rfl [4] (by decide) rfl (hm0 rfl) rfl (q_store (e' := rowC r85 (orI .u64 n324 n326)) (es' := ((l303.set n320.toNat (orI .u64 n324 n326))).map (rowC r85)) 0 rfl rfl rfl sz85 rfl rfl (map_get h323) rfl map_set) (q := 4) rfl rfl ?_
 refine tn_re 29 (v := .one (.own k304 0 ((l303.set n320.toNat (orI .u64 n324 n326))).length)) (Eq.trans (b := .one (.own k304 0 (l303).length)) rfl (congrArg D.one own_setC)) ?_
 refine tn_re 35 (v := .one (.own k304 0 ((l303.set n320.toNat (orI .u64 n324 n326))).length)) (Eq.trans (b := .one (.own k304 0 (l303).length)) rfl (congrArg D.one own_setC)) ?_
 refine tn_reS 3 (s' := [(k13, 1, [[.own k304 0 ((l303.set n320.toNat (orI .u64 n324 n326))).length]])]) rfl (congrArg (fun z => ([(k13, 1, [[z]])] : List B1)) own_setC) ?_
 refine tn_end (bN ?_)
 refine E_roundN (p := 0) rfl ?_
 refine pq (q_not rfl) ?_
 refine oE (eS (cF rfl (lK (bN (eS (lO ?_))))))
 refine pq (qm (.one (uI n302))) ?_
 refine pq (qm (.one (uI n302))) ?_
 refine pq (qb p_subY) ?_
 refine pq (q_bin rfl rfl (p_and _ _ _ _ _ _ _) rfl) ?_
 refine pq (qa (.one (uI (andI .u64 n302 (IntKind.u64.wrap (n302 - 1)))))) ?_
 refine oE ?_
 obtain rfl := sj h
 exact E_next k304 (ups_self ⟨rfl, rfl, rfl, rfl, rfl, rfl, trivial⟩) [0, 1, 2, 3, 4] (by decide) rfl
 replace h := ifF c309 h
 refine pq (qb (p_geq_fZ c309)) ?_
 refine pq (qm bf) ?_
 iterate 5 refine os ?_
 refine pq (qpf bf) ?_
 refine oE (eS (cF rfl (lK (bN ?_))))
 refine E_roundN (p := 0) rfl ?_
 refine pq (q_not rfl) ?_
 refine oE (eS (cF rfl (lK (bN (eS (lO ?_))))))
 refine pq (qm (.one (uI n302))) ?_
 refine pq (qm (.one (uI n302))) ?_
 refine pq (qb p_subY) ?_
 refine pq (q_bin rfl rfl (p_and _ _ _ _ _ _ _) rfl) ?_
 refine pq (qa (.one (uI (andI .u64 n302 (IntKind.u64.wrap (n302 - 1)))))) ?_
 refine oE ?_
 obtain rfl := sj h
 exact E_next k304 (ups_self ⟨rfl, rfl, rfl, rfl, rfl, rfl, trivial⟩) [0, 1, 2, 3, 4] (by decide) rfl
 replace h := ifF c305 h
 refine pq (qb (p_neq_fZ c305)) ?_
 refine oE (eS (cF rfl (L_exit ?_)))
 refine E_seqX ?_
 obtain rfl := sj h
 refine E_out ?_
 exact E_js ((E_je k304 (ups_self ⟨rfl, rfl, rfl, rfl, trivial⟩) [0, 1, 2, 3, 4] (by decide) rfl))
 rintro (l327 | l329 | u) h
 refine J_e (fun k328 g => ?_)
 replace h := elimL h
 refine bR (bR (eR ?_))
 obtain rfl := sj h
 refine E_out ?_
 exact (E_je k328 (ups_self trivial) [0, 1, 2, 3, 4] (by decide) rfl)
 refine J_s (J_e (fun k330 g => ?_))
 replace h := elimL (elimR h)
 refine bH (bN (eS (lO ?_)))
 refine pq (qb p_addY) ?_
 refine pq (qm (iO (IntKind.i64.wrap (n225 + 1)))) ?_
 refine oE ?_
 obtain rfl := sj h
 exact E_next k330 (ups_self ⟨rfl, rfl, rfl, rfl, trivial⟩) [0, 1, 2, 3, 4] (by decide) rfl
 exact u.elim
 replace h := ifF c228 h
 refine pq (qb (p_lss_fZ c228)) ?_
 refine oE (eS (lS (cF rfl (L_exit ?_))))
 refine E_seqX ?_
 obtain rfl := sj h
 refine E_out ?_
 exact E_js ((E_je k227 (ups_self trivial) [1, 2, 3, 0, 4] (by decide) rfl))
 rintro (l331 | l333 | u) h
 refine J_e (fun k332 g => ?_)
 replace h := elimL h
 refine bR ?_
 refine E_range (p := 3) (.inr rfl) rfl ?_
 refine bH (eS (lS (lO ?_)))
 refine pq (ql (.one (.own k332 0 (l331).length)) 2 sz22) ?_
 refine pq (qa (.one (.own k332 0 (l331).length))) ?_
 refine oE (eS (lR ?_))
 obtain rfl := sj h
 exact E_endO (r := r85) 4 (.inr rfl) (res_tmp rfl res_nil) rfl (fun x h m => rfl) (fun x => rfl)
 refine J_s (J_e (fun k334 g => ?_))
 replace h := elimL (elimR h)
 refine bH ?_
 refine E_range (p := 3) (.inl rfl) rfl ?_
 refine bN (eS (lS (lO ?_)))
 refine pq (ql (.one (.own k334 0 (l333).length)) 2 sz22) ?_
 refine pq (qa (.one (.own k334 0 (l333).length))) ?_
 refine oE (eS (lR ?_))
 obtain rfl := sj h
 exact E_endO (r := r85) 4 (.inr rfl) (res_tmp rfl res_nil) rfl (fun x h m => rfl) (fun x => rfl)
 exact u.elim

noncomputable def devec_Part (a0 : Int × Sl (Int) × Sl (Int)) (n4 : Int) (n5 : Int) : Option ((Int × Sl (Int) × Sl (Int))) :=
  match a0 with
  | (n1, s2, s3) => ((devec_sure (n1, s2, s3)).bind fun (n9, s10, s11) => (if (minI n5 n9) ≤ (maxI n4 0) then some (0, (⟨false, 0, []⟩ : Sl (Int)), (⟨false, 0, []⟩ : Sl (Int))) else (if (IntKind.i64.wrap ((minI n5 n9) - (maxI n4 0))) < 0 then ((flags_Part s10 (maxI n4 0) (minI n5 n9)).bind fun s18 => ((cutS 1 s11 (maxI n4 0) (minI n5 n9)).bind fun s23 => some (0, (⟨true, 1, s18⟩ : Sl (Int)), (⟨false, 0, []⟩ : Sl (Int))))) else (if (IntKind.i64.wrap ((minI n5 n9) - (maxI n4 0))) > 4096 then ((flags_Part s10 (maxI n4 0) (minI n5 n9)).bind fun s28 => ((cutS 1 s11 (maxI n4 0) (minI n5 n9)).bind fun s33 => some (0, (⟨true, 1, s28⟩ : Sl (Int)), (⟨false, 0, []⟩ : Sl (Int))))) else ((flags_New (IntKind.i64.wrap ((minI n5 n9) - (maxI n4 0)))).bind fun s41 => ((lenOk (IntKind.i64.wrap ((minI n5 n9) - (maxI n4 0)))).bind fun _ => ((flags_Part s10 (maxI n4 0) (minI n5 n9)).bind fun s46 => ((cutS 1 s11 (maxI n4 0) (minI n5 n9)).bind fun s53 => ((cpL (List.replicate (IntKind.i64.wrap ((minI n5 n9) - (maxI n4 0))).toNat (0 : Int)) s53.l).bind fun l56 => some ((IntKind.i64.wrap ((minI n5 n9) - (maxI n4 0))), (⟨true, 1, s46⟩ : Sl (Int)), (⟨true, 1, l56⟩ : Sl (Int))))))))))))
theorem devec_Part_r (m : Nat) {a0 : Int × Sl (Int) × Sl (Int)} {n4 : Int} {n5 : Int} {out : (Int × Sl (Int) × Sl (Int))} (h : devec_Part a0 n4 n5 = some out) : RunsP E1 (m + 7) 32 [.agg (r24 a0), .one (iT .i64 n4), .one (iT .i64 n5)] (.fresh, [.agg (r24 out)]) := by
 obtain ⟨n1, s2, s3⟩ := a0
 refine fn_F rfl (by rw [E1_fn]; exact show fiOf Tryd.prog 32 = _ by unfold fiOf; rw [Tryd.func32]; unfold Tryd.f32; rfl) rfl ?_
 dsimp only
 unfold devec_Part at h
 refine lS (lO ?_)
 refine ol_new rfl rfl rfl (q_box ty25 rfl (cs := [iI n1, sF r85 s2, sF r2 s3]) rfl rfl) (fun k6 => ?_)
 refine ol_new rfl rfl rfl (q_alloc ty25 (row := [iI 0, nC, nC]) rfl rfl) (fun k7 => ?_)
 refine oN ?_
 refine pq (ql (.agg [iI n1, sF r85 s2, sF r2 s3]) 1 sz25) ?_
 obtain ⟨⟨n9, s10, s11⟩, h8, h⟩ := bindS h
 refine ol_putX rfl rfl rfl (q_callX (v := fun fr12 => .agg [iI n9, .p fr12 (Sl.t r85 s10), .p fr12 (Sl.t r2 s11)]) (args := [.agg [iI n1, sF r85 s2, sF r2 s3]]) (devec_sure_r (m + 0) h8) rfl rfl (vw_cons (vd_agg (vc_cons vc_v (vc_cons vc_s (vc_cons vc_s vc_nil)))) vw_nil) rfl rfl (fun fr => rfl)) (fun fr12 => ?_)
 refine ow [[iI n9, .p fr12 (Sl.t r85 s10), .p fr12 (Sl.t r2 s11)]] 1 sz25 ?_
 refine oE (eS (lS ?_))
 refine L_still (by kernel_rfl) ?_
 refine sq (qm (iO n4)) ?_
 refine sq ((q_minmax rfl rfl ty3 rfl rfl).2 rfl) ?_
 refine sq (qm (iO n5)) ?_
 refine sq (q_fieldP rfl fa25_0 rfl) ?_
 refine sq (ql (iO n9) 1 sz3) ?_
 refine sq ((q_minmax rfl rfl ty3 rfl rfl).1 rfl) ?_
 refine sq (qa (iO (maxI n4 0))) ?_
 refine sq (qa (iO (minI n5 n9))) ?_
 refine st_end (eS (lS (lS (lO ?_))))
 refine pq (qm (iO (minI n5 n9))) ?_
 refine pq (qm (iO (maxI n4 0))) ?_
 by_cases c13 : (minI n5 n9) ≤ (maxI n4 0)
 replace h := ifT c13 h
 refine pq (qb (p_leq_tZ c13)) ?_
 refine oE (eS (cT rfl (lS (lO ?_))))
 refine pq (q_build (cs := [iI 0, nC, nC]) ty25 rfl pl25 rfl) ?_
 refine ow [[iI 0, nC, nC]] 0 sz25 ?_
 refine oE (eS (lR (eR ?_)))
 obtain rfl := sj h
 exact E_endF (.inr rfl) (res_cell (d := .agg [iI 0, nC, nC]) 0 rfl sz25 rfl rfl rfl rfl res_nil) (vw_cons (vd_agg (vc_cons vc_v (vc_cons vc_s (vc_cons vc_s vc_nil)))) vw_nil) oG rfl rfl
 replace h := ifF c13 h
 refine pq (qb (p_leq_fZ c13)) ?_
 refine oE (eS (cF rfl (lK (eS (lS (lO ?_))))))
 refine pq (qm (iO (minI n5 n9))) ?_
 refine pq (qm (iO (maxI n4 0))) ?_
 refine pq (qb p_subY) ?_
 refine ol_scallN (args := [.one (iI (IntKind.i64.wrap ((minI n5 n9) - (maxI n4 0))))]) rfl rfl rfl ax20 (by rw [E1_fn]; exact show fiOf Tryd.prog 20 = _ by unfold fiOf; rw [Tryd.func20]; unfold Tryd.f20; rfl) rfl rfl rfl ?_
 dsimp only
 refine lS (lO ?_)
 refine ol_new rfl rfl rfl (q_alloc ty25 (row := [iI 0, nC, nC]) rfl rfl) (fun k14 => ?_)
 refine oE (eS (lS (lS (lO ?_))))
 refine pq (qm (.one (iI (IntKind.i64.wrap ((minI n5 n9) - (maxI n4 0)))))) ?_
 by_cases c15 : (IntKind.i64.wrap ((minI n5 n9) - (maxI n4 0))) < 0
 replace h := ifT c15 h
 refine pq (qb (p_lss_tZ c15)) ?_
 refine pq (qm bt) ?_
 iterate 2 refine os ?_
 refine pq (qpt bt) ?_
 refine oE (eS (cT rfl (lS (lO ?_))))
 refine pq (q_build (cs := [iI 0, nC, nC]) ty25 rfl pl25 rfl) ?_
 refine ow [[iI 0, nC, nC]] 0 sz25 ?_
 refine oE (eS (lR (eR ?_)))
 refine E_call (v := .agg [iI 0, nC, nC]) (.inr rfl) (res_cell (d := .agg [iI 0, nC, nC]) 0 rfl sz25 rfl rfl rfl rfl res_nil) rfl ?_
 refine ol_new rfl rfl rfl (q_alloc ty25 (row := [iI 0, nC, nC]) rfl rfl) (fun k16 => ?_)
 refine ow [[iI 0, nC, nC]] 0 sz25 ?_
 refine oN ?_
 refine pq (q_fieldP rfl fa25_1 rfl) ?_
 refine pq (ql (.one (.p fr12 (Sl.t r85 s10))) 3 sz22) ?_
 refine pq (qm (iO (maxI n4 0))) ?_
 refine pq (qm (iO (minI n5 n9))) ?_
 obtain ⟨s18, h17, h⟩ := bindS h
 refine ol_new rfl rfl rfl (q_callO (args := [.one (.p fr12 (Sl.t r85 s10)), .one (iI (maxI n4 0)), .one (iI (minI n5 n9))]) (flags_Part_r (m + 3) h17) rfl rfl (vw_cons (vd_one vc_s) (vw_cons (vd_one vc_v) (vw_cons (vd_one vc_v) vw_nil))) rfl) (fun k19 => ?_)
 refine pq (q_fieldP rfl fa25_1 rfl) ?_
 refine ow [[iI 0, .own k19 0 (s18).length, nC]] 1 sz22 ?_
 refine oE (eS (lS ?_))
 refine L_norm (L2 := ([[(k19, 1, (s18).map (rowC r85))], [(k16, 3, [[iI 0, .own k19 0 (s18).length, nC]])], [(k7, 3, [[iI 0, nC, nC]])], [(k6, 3, [[iI n9, .p fr12 (Sl.t r85 s10), .p fr12 (Sl.t r2 s11)]])]] : BL)) [0, 1, 3, 4] (by decide) rfl ?_
 refine L_turn 8 rfl [[], [], [], [], [], [], [], []] [(false, []), (false, []), (false, []), (false, []), (false, []), (false, []), (false, []), (false, [])] [[2, 3, 4, 5, 6], [2, 3, 4, 5, 6], [0, 1, 4, 5], [0, 1, 4, 5], [0, 1, 2, 3, 5], [0, 1, 2, 3, 4], [0, 1], []] (by kernel_rfl) (by kernel_rfl) (by kernel_rfl) ?_ (fun bb20 hlt hnd => ?_)
 intro bb20 hlt hnd
 exact ⟨⟨djE, ⟨djE, ⟨djE, ⟨djE, ⟨djE, ⟨djE, ⟨djE, ⟨djE, trivial⟩⟩⟩⟩⟩⟩⟩⟩, (ltO_cons ltK_nil (ltO_cons ltK_nil (ltO_cons ltK_nil (ltO_cons ltK_nil (ltO_cons ltK_nil (ltO_cons ltK_nil (ltO_cons ltK_nil (ltO_cons ltK_nil ltO_nil))))))))⟩
 refine tq [] rfl (hm0 rfl) (q_fieldP rfl fa25_2 rfl) ?_
 refine tq [1] rfl (hm0 rfl) (ql (.one nC) 0 sz23) ?_
 refine tq [] rfl (hm0 rfl) (q_fieldP rfl fa25_2 rfl) ?_
 refine tq [3] rfl (hm0 rfl) (ql (.one (.p fr12 (Sl.t r2 s11))) 0 sz23) ?_
 refine tq [] rfl (hm0 rfl) (qm (iO (maxI n4 0))) ?_
 refine tq [] rfl (hm0 rfl) (qm (iO (minI n5 n9))) ?_
 obtain ⟨s23, h24, h⟩ := bindS h
 refine tq [] rfl (hm0 rfl) (q_sliceS (r := r2) h24 rfl ty23 rfl ty2 (no_some rfl (cutS_some h24).1.1 _) (no_some rfl (Int.le_trans (cutS_some h24).1.1 (cutS_some h24).1.2.1) _)) ?_
 refine tq [] rfl (hm0 rfl) (q_copy0 rfl rfl (el_dat (fr := fr12) (r := r2) (fun x => rfl)) el23 ty23 rfl rfl rfl rfl rfl) ?_
 refine tn_end (eS (lS (lO ?_)))
 refine pq (ql (.agg [iI 0, .own k19 0 (s18).length, nC]) 1 sz25) ?_
 refine ow [[iI 0, .own k19 0 (s18).length, nC]] 2 sz25 ?_
 refine oE (eS (lR ?_))
 obtain rfl := sj h
 exact E_endF (.inr rfl) (res_cell (d := .agg [iI 0, .own k19 0 (s18).length, nC]) 2 rfl sz25 rfl rfl rfl rfl res_nil) (vw_cons (vd_agg (vc_cons vc_v (vc_cons (vc_own (r := r85) 0 rfl (fun x h m => rfl)) (vc_cons vc_s vc_nil)))) vw_nil) oG rfl rfl
 replace h := ifF c15 h
 refine pq (qb (p_lss_fZ c15)) ?_
 refine pq (qm bf) ?_
 refine pq (qm (.one (iI (IntKind.i64.wrap ((minI n5 n9) - (maxI n4 0)))))) ?_
 by_cases c25 : (IntKind.i64.wrap ((minI n5 n9) - (maxI n4 0))) > 4096
 replace h := ifT c25 h
 refine pq (qb (p_gtr_tZ c25)) ?_
 refine pq (qpf bt) ?_
 refine oE (eS (cT rfl (lS (lO ?_))))
 refine pq (q_build (cs := [iI 0, nC, nC]) ty25 rfl pl25 rfl) ?_
 refine ow [[iI 0, nC, nC]] 0 sz25 ?_
 refine oE (eS (lR (eR ?_)))
 refine E_call (v := .agg [iI 0, nC, nC]) (.inr rfl) (res_cell (d := .agg [iI 0, nC, nC]) 0 rfl sz25 rfl rfl rfl rfl res_nil) rfl ?_
 refine ol_new rfl rfl rfl (q_alloc ty25 (row := [iI 0, nC, nC]) rfl rfl) (fun k26 => ?_)
 refine ow [[iI 0, nC, nC]] 0 sz25 ?_
 refine oN ?_
 refine pq (q_fieldP rfl fa25_1 rfl) ?_
 refine pq (ql (.one (.p fr12 (Sl.t r85 s10))) 3 sz22) ?_
 refine pq (qm (iO (maxI n4 0))) ?_
 refine pq (qm (iO (minI n5 n9))) ?_
 obtain ⟨s28, h27, h⟩ := bindS h
 refine ol_new rfl rfl rfl (q_callO (args := [.one (.p fr12 (Sl.t r85 s10)), .one (iI (maxI n4 0)), .one (iI (minI n5 n9))]) (flags_Part_r (m + 3) h27) rfl rfl (vw_cons (vd_one vc_s) (vw_cons (vd_one vc_v) (vw_cons (vd_one vc_v) vw_nil))) rfl) (fun k29 => ?_)
 refine pq (q_fieldP rfl fa25_1 rfl) ?_
 refine ow [[iI 0, .own k29 0 (s28).length, nC]] 1 sz22 ?_
 refine oE (eS (lS ?_))
 refine L_norm (L2 := ([[(k29, 1, (s28).map (rowC r85))], [(k26, 3, [[iI 0, .own k29 0 (s28).length, nC]])], [(k7, 3, [[iI 0, nC, nC]])], [(k6, 3, [[iI n9, .p fr12 (Sl.t r85 s10), .p fr12 (Sl.t r2 s11)]])]] : BL)) [0, 1, 3, 4] (by decide) rfl ?_
 refine L_turn 8 rfl [[], [], [], [], [], [], [], []] [(false, []), (false, []), (false, []), (false, []), (false, []), (false, []), (false, []), (false, [])] [[2, 3, 4, 5, 6], [2, 3, 4, 5, 6], [0, 1, 4, 5], [0, 1, 4, 5], [0, 1, 2, 3, 5], [0, 1, 2, 3, 4], [0, 1], []] (by kernel_rfl) (by kernel_rfl) (by kernel_rfl) ?_ (fun bb30 hlt hnd => ?_)
 intro bb30 hlt hnd
 exact ⟨⟨djE, ⟨djE, ⟨djE, ⟨djE, ⟨djE, ⟨djE, ⟨djE, ⟨djE, trivial⟩⟩⟩⟩⟩⟩⟩⟩, (ltO_cons ltK_nil (ltO_cons ltK_nil (ltO_cons ltK_nil (ltO_cons ltK_nil (ltO_cons ltK_nil (ltO_cons ltK_nil (ltO_cons ltK_nil (ltO_cons ltK_nil ltO_nil))))))))⟩
 refine tq [] rfl (hm0 rfl) (q_fieldP rfl fa25_2 rfl) ?_
 refine tq [1] rfl (hm0 rfl) (ql (.one nC) 0 sz23) ?_
 refine tq [] rfl (hm0 rfl) (q_fieldP rfl fa25_2 rfl) ?_
 refine tq [3] rfl (hm0 rfl) (ql (.one (.p fr12 (Sl.t r2 s11))) 0 sz23) ?_
 refine tq [] rfl (hm0 rfl) (qm (iO (maxI n4 0))) ?_
 refine tq [] rfl (hm0 rfl) (qm (iO (minI n5 n9))) ?_
 obtain ⟨s33, h34, h⟩ := bindS h
 refine tq [] rfl (hm0 rfl) (q_sliceS (r := r2) h34 rfl ty23 rfl ty2 (no_some rfl (cutS_some h34).1.1 _) (no_some rfl (Int.le_trans (cutS_some h34).1.1 (cutS_some h34).1.2.1) _)) ?_
 refine tq [] rfl (hm0 rfl) (q_copy0 rfl rfl (el_dat (fr := fr12) (r := r2) (fun x => rfl)) el23 ty23 rfl rfl rfl rfl rfl) ?_
 refine tn_end (eS (lS (lO ?_)))
 refine pq (ql (.agg [iI 0, .own k29 0 (s28).length, nC]) 1 sz25) ?_
 refine ow [[iI 0, .own k29 0 (s28).length, nC]] 2 sz25 ?_
 refine oE (eS (lR ?_))
 obtain rfl := sj h
 exact E_endF (.inr rfl) (res_cell (d := .agg [iI 0, .own k29 0 (s28).length, nC]) 2 rfl sz25 rfl rfl rfl rfl res_nil) (vw_cons (vd_agg (vc_cons vc_v (vc_cons (vc_own (r := r85) 0 rfl (fun x h m => rfl)) (vc_cons vc_s vc_nil)))) vw_nil) oG rfl rfl
 replace h := ifF c25 h
 refine pq (qb (p_gtr_fZ c25)) ?_
 refine pq (qpf bf) ?_
 refine oE (eS (cF rfl (lK (eS (lS ?_)))))
 refine L_norm (L2 := ([[(k14, 3, [[iI 0, nC, nC]])], [(k7, 3, [[iI 0, nC, nC]])], [(k6, 3, [[iI n9, .p fr12 (Sl.t r85 s10), .p fr12 (Sl.t r2 s11)]])]] : BL)) [0, 1, 2] (by decide) rfl ?_
 refine L_turn 7 rfl [[], [], [], [], [], [], [k14]] [(false, []), (false, []), (true, []), (false, []), (true, []), (false, []), (false, [])] [[1, 2, 3, 4], [0, 3, 4], [0, 3, 4], [0, 1, 2], [0, 1, 2], [], []] (by kernel_rfl) (by kernel_rfl) (by kernel_rfl) ?_ (fun bb35 hlt hnd => ?_)
 intro bb35 hlt hnd
 exact ⟨⟨djE, ⟨djE, ⟨djE, ⟨djE, ⟨djE, ⟨djE, ⟨djN, trivial⟩⟩⟩⟩⟩⟩⟩, (ltO_cons ltK_nil (ltO_cons ltK_nil (ltO_cons ltK_nil (ltO_cons ltK_nil (ltO_cons ltK_nil (ltO_cons ltK_nil (ltO_cons (ltK_cons (key_lt hlt 0 rfl) ltK_nil) ltO_nil)))))))⟩
 refine tq [] rfl hmn (qm (.one (iI (IntKind.i64.wrap ((minI n5 n9) - (maxI n4 0)))))) ?_
 refine tq [] rfl hmn (qm (.one (iI (IntKind.i64.wrap ((minI n5 n9) - (maxI n4 0)))))) ?_
 obtain ⟨s41, h40, h⟩ := bindS h
 refine tn_new rfl rfl rfl [] (by decide) rfl hmn rfl rfl (hkc (ne_new (key_lt hlt 0 rfl)) (hkc (ne_new (key_lt hlt 1 rfl)) (hkc (ne_new (key_lt hlt 2 rfl)) hkn))) (q_callO (args := [.one (iI (IntKind.i64.wrap ((minI n5 n9) - (maxI n4 0))))]) (flags_New_r (m + 3) h40) rfl rfl (vw_cons (vd_one vc_v) vw_nil) rfl) ?_
 refine tq [] rfl hmn (qm (.one (iI (IntKind.i64.wrap ((minI n5 n9) - (maxI n4 0)))))) ?_
 obtain ⟨u42, h43, h⟩ := bindS h
 refine tn_new rfl rfl rfl [] (by decide) rfl hmn rfl rfl (hkc (ne_add rfl) (hkc (ne_new (key_lt hlt 0 rfl)) (hkc (ne_new (key_lt hlt 1 rfl)) (hkc (ne_new (key_lt hlt 2 rfl)) hkn)))) (q_mkslice (r := rowC r2) (a := (0 : Int)) ty23 rfl ty2 rfl rfl (lenOk_some h43).1 (lenOk_some h43).2 rfl rfl) ?_
 refine tq [] rfl (hm0 rfl) (q_build (cs := [iI (IntKind.i64.wrap ((minI n5 n9) - (maxI n4 0))), .own (bb35 + 2) 0 (s41).length, .own (bb35 + 4) 0 ((List.replicate (IntKind.i64.wrap ((minI n5 n9) - (maxI n4 0))).toNat (0 : Int))).length]) ty25 rfl pl25 rfl) ?_
 refine tn_wr rfl rfl [2] (by decide) rfl (hm0 rfl) rfl (q_store (es' := [[iI (IntKind.i64.wrap ((minI n5 n9) - (maxI n4 0))), .own (bb35 + 2) 0 (s41).length, .own (bb35 + 4) 0 ((List.replicate (IntKind.i64.wrap ((minI n5 n9) - (maxI n4 0))).toNat (0 : Int))).length]]) 0 rfl rfl rfl sz25 rfl rfl rfl rfl rfl) (q := 2) rfl rfl ?_
 refine tn_end (eS (lR ?_))
 refine E_call (v := .agg [iI (IntKind.i64.wrap ((minI n5 n9) - (maxI n4 0))), .own (bb35 + 2) 0 (s41).length, .own (bb35 + 4) 0 ((List.replicate (IntKind.i64.wrap ((minI n5 n9) - (maxI n4 0))).toNat (0 : Int))).length]) (.inr rfl) (res_cell (d := .agg [iI (IntKind.i64.wrap ((minI n5 n9) - (maxI n4 0))), .own (bb35 + 2) 0 (s41).length, .own (bb35 + 4) 0 ((List.replicate (IntKind.i64.wrap ((minI n5 n9) - (maxI n4 0))).toNat (0 : Int))).length]) 2 rfl sz25 rfl rfl rfl rfl res_nil) rfl ?_
 refine ol_new rfl rfl rfl (q_alloc ty25 (row := [iI 0, nC, nC]) rfl rfl) (fun k44 => ?_)
 refine ow [[iI (IntKind.i64.wrap ((minI n5 n9) - (maxI n4 0))), .own (bb35 + 2) 0 (s41).length, .own (bb35 + 4) 0 ((List.replicate (IntKind.i64.wrap ((minI n5 n9) - (maxI n4 0))).toNat (0 : Int))).length]] 0 sz25 ?_
 refine oN ?_
 refine pq (q_fieldP rfl fa25_1 rfl) ?_
 refine pq (ql (.one (.p fr12 (Sl.t r85 s10))) 5 sz22) ?_
 refine pq (qm (iO (maxI n4 0))) ?_
 refine pq (qm (iO (minI n5 n9))) ?_
 obtain ⟨s46, h45, h⟩ := bindS h
 refine ol_new rfl rfl rfl (q_callO (args := [.one (.p fr12 (Sl.t r85 s10)), .one (iI (maxI n4 0)), .one (iI (minI n5 n9))]) (flags_Part_r (m + 3) h45) rfl rfl (vw_cons (vd_one vc_s) (vw_cons (vd_one vc_v) (vw_cons (vd_one vc_v) vw_nil))) rfl) (fun k47 => ?_)
 refine pq (q_fieldP rfl fa25_1 rfl) ?_
 refine ow [[iI (IntKind.i64.wrap ((minI n5 n9) - (maxI n4 0))), .own k47 0 (s46).length, .own (bb35 + 4) 0 ((List.replicate (IntKind.i64.wrap ((minI n5 n9) - (maxI n4 0))).toNat (0 : Int))).length]] 1 sz22 ?_
 refine oE (eS (lS ?_))
 refine L_norm (L2 := ([[(k47, 1, (s46).map (rowC r85))], [(k44, 3, [[iI (IntKind.i64.wrap ((minI n5 n9) - (maxI n4 0))), .own k47 0 (s46).length, .own (bb35 + 4) 0 ((List.replicate (IntKind.i64.wrap ((minI n5 n9) - (maxI n4 0))).toNat (0 : Int))).length]])], [((bb35 + 4), 1, ((List.replicate (IntKind.i64.wrap ((minI n5 n9) - (maxI n4 0))).toNat (0 : Int))).map (rowC r2))], [(k7, 3, [[iI 0, nC, nC]])], [(k6, 3, [[iI n9, .p fr12 (Sl.t r85 s10), .p fr12 (Sl.t r2 s11)]])]] : BL)) [0, 1, 2, 5, 6] (by decide) rfl ?_
 refine L_turn 8 rfl [[], [], [], [], [], [], [], [(bb35 + 4)]] [(false, []), (false, []), (false, []), (false, []), (false, []), (false, []), (false, []), (false, [])] [[2, 3, 4, 5, 6], [2, 3, 4, 5, 6], [0, 1, 4, 5], [0, 1, 4, 5], [0, 1, 2, 3, 5], [0, 1, 2, 3, 4], [0, 1], []] (by kernel_rfl) (by kernel_rfl) (by kernel_rfl) ?_ (fun bb48 hlt hnd => ?_)
 intro bb48 hlt hnd
 exact ⟨⟨djE, ⟨djE, ⟨djE, ⟨djE, ⟨djE, ⟨djE, ⟨djE, ⟨djN, trivial⟩⟩⟩⟩⟩⟩⟩⟩, (ltO_cons ltK_nil (ltO_cons ltK_nil (ltO_cons ltK_nil (ltO_cons ltK_nil (ltO_cons ltK_nil (ltO_cons ltK_nil (ltO_cons ltK_nil (ltO_cons (ltK_cons (key_lt hlt 2 rfl) ltK_nil) ltO_nil))))))))⟩
 refine tq [] rfl (hm0 rfl) (q_fieldP rfl fa25_2 rfl) ?_
 refine tq [1] rfl (hm0 rfl) (ql (.one (.own (bb35 + 4) 0 ((List.replicate (IntKind.i64.wrap ((minI n5 n9) - (maxI n4 0))).toNat (0 : Int))).length)) 0 sz23) ?_
 refine tq [] rfl (hm0 rfl) (q_fieldP rfl fa25_2 rfl) ?_
 refine tq [4] rfl (hm0 rfl) (ql (.one (.p fr12 (Sl.t r2 s11))) 0 sz23) ?_
 refine tq [] rfl (hm0 rfl) (qm (iO (maxI n4 0))) ?_
 refine tq [] rfl (hm0 rfl) (qm (iO (minI n5 n9))) ?_
 obtain ⟨s53, h54, h⟩ := bindS h
 refine tq [] rfl (hm0 rfl) (q_sliceS (r := r2) h54 rfl ty23 rfl ty2 (no_some rfl (cutS_some h54).1.1 _) (no_some rfl (Int.le_trans (cutS_some h54).1.1 (cutS_some h54).1.2.1) _)) ?_
 obtain ⟨l56, h55, h⟩ := bindS h
 refine tn_wrD rfl rfl rfl [2] (by decide) rfl (hm0 rfl) rfl (q_copy (r := rowC r2) (l := (List.replicate (IntKind.i64.wrap ((minI n5 n9) - (maxI n4 0))).toNat (0 : Int))) (m := s53.l) 0 rfl rfl (el_dat (fr := fr12) (r := r2) (fun x => rfl)) rfl rfl h55 (fun y => rfl) el23 ty23 rfl rfl rfl rfl rfl) (q := 2) rfl rfl ?_
 refine tn_re 31 (v := .one (.own (bb35 + 4) 0 (l56).length)) (Eq.trans (b := .one (.own (bb35 + 4) 0 ((List.replicate (IntKind.i64.wrap ((minI n5 n9) - (maxI n4 0))).toNat (0 : Int))).length)) rfl (congrArg D.one (own_cpC h55))) ?_
 refine tn_reS 1 (s' := [(k44, 3, [[iI (IntKind.i64.wrap ((minI n5 n9) - (maxI n4 0))), .own k47 0 (s46).length, .own (bb35 + 4) 0 (l56).length]])]) rfl (congrArg (fun z => ([(k44, 3, [[iI (IntKind.i64.wrap ((minI n5 n9) - (maxI n4 0))), .own k47 0 (s46).length, z]])] : List B1)) (own_cpC h55)) ?_
 refine tn_end (eS (lS (lO ?_)))
 refine pq (ql (.agg [iI (IntKind.i64.wrap ((minI n5 n9) - (maxI n4 0))), .own k47 0 (s46).length, .own (bb35 + 4) 0 (l56).length]) 1 sz25) ?_
 refine ow [[iI (IntKind.i64.wrap ((minI n5 n9) - (maxI n4 0))), .own k47 0 (s46).length, .own (bb35 + 4) 0 (l56).length]] 3 sz25 ?_
 refine oE (eS (lR ?_))
 obtain rfl := sj h
 exact E_endF (.inr rfl) (res_cell (d := .agg [iI (IntKind.i64.wrap ((minI n5 n9) - (maxI n4 0))), .own k47 0 (s46).length, .own (bb35 + 4) 0 (l56).length]) 3 rfl sz25 rfl rfl rfl rfl res_nil) (vw_cons (vd_agg (vc_cons vc_v (vc_cons (vc_own (r := r85) 0 rfl (fun x h m => rfl)) (vc_cons (vc_own (r := r2) 2 rfl (fun x h m => rfl)) vc_nil)))) vw_nil) oG rfl rfl
end Ev
end Go.Proofs.YtjomjfjbpcafhaaDoor
