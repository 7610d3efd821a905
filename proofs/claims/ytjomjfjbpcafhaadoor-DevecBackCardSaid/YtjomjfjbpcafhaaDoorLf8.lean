/- Functions of the program as functions on data, and that they are. -/
import Derived.Test.YtjomjfjbpcafhaaDoorEvZ
import Derived.Test.YtjomjfjbpcafhaaDoorLf1
import Derived.Test.YtjomjfjbpcafhaaDoorLy1
import Derived.Test.YtjomjfjbpcafhaaDoorLy2
namespace Go.Proofs.YtjomjfjbpcafhaaDoor
namespace Ev
open Go
set_option linter.unusedVariables false
set_option linter.unusedSimpArgs false
set_option maxRecDepth 100000
set_option maxHeartbeats 1000000
attribute [local irreducible] OpsL StL TnL WpL EndL
noncomputable def devec_Back_b1 (s8 : Sl (Int)) (s9 : Sl (Int)) (a : Int × (List (Int × Int))) : Option ((Int × (List (Int × Int))) ⊕ ((List (Int × Int)) ⊕ Empty)) :=
 match a with
 | (n48, l49) => (if n48 < ((s9.l.length : Nat) : Int) then ((atS 1 s9 n48).bind fun n54 => ((flags_Has s8 n48).bind fun b56 => (if b56 = true then ((app l49 ([(n48, n54)] : List (Int × Int))).bind fun _ => some (.inl ((IntKind.i64.wrap (n48 + 1)), (l49 ++ ([(n48, n54)] : List (Int × Int)))))) else some (.inl ((IntKind.i64.wrap (n48 + 1)), l49))))) else some (.inr (.inl l49)))
noncomputable def devec_Back (a0 : Int × Sl (Int) × Sl (Int)) : Option ((Int × (Sl (Int × Int)))) :=
 match a0 with
 | (n1, s2, s3) => ((devec_sure (n1, s2, s3)).bind fun (n7, s8, s9) => ((loopO (devec_Back_b1 s8 s9) (0, ([] : List (Int × Int)))).bind (Sum.elim (fun l60 => some (n7, (mo 2 l60))) (fun u => u.elim))))
theorem devec_Back_r (m : Nat) {a0 : Int × Sl (Int) × Sl (Int)} {out : (Int × (Sl (Int × Int)))} (h : devec_Back a0 = some out) : RunsP E1 (m + 7) 15 [.agg (r24 a0)] (.fresh, [.agg (r27 out)]) := by
 obtain ⟨n1, s2, s3⟩ := a0
 refine fn_F rfl (by rw [E1_fn]; exact show fiOf Tryd.prog 15 = _ by unfold fiOf; rw [Tryd.func15]; unfold Tryd.f15; rfl) rfl ?_
 dsimp only
 unfold devec_Back at h
 refine lS (lO ?_)
 refine ol_new rfl rfl rfl (q_box ty25 rfl (cs := [iI n1, sF r85 s2, sF r2 s3]) rfl rfl) (fun k4 => ?_)
 refine ol_new rfl rfl rfl (q_alloc ty28 (row := [iI 0, nC]) rfl rfl) (fun k5 => ?_)
 refine oN ?_
 refine pq (ql (.agg [iI n1, sF r85 s2, sF r2 s3]) 1 sz25) ?_
 obtain ⟨⟨n7, s8, s9⟩, h6, h⟩ := bindS h
 refine ol_putX rfl rfl rfl (q_callX (v := fun fr10 => .agg [iI n7, .p fr10 (Sl.t r85 s8), .p fr10 (Sl.t r2 s9)]) (args := [.agg [iI n1, sF r85 s2, sF r2 s3]]) (devec_sure_r (m + 0) h6) rfl rfl (vw_cons (vd_agg (vc_cons vc_v (vc_cons vc_s (vc_cons vc_s vc_nil)))) vw_nil) rfl rfl (fun fr => rfl)) (fun fr10 => ?_)
 refine ow [[iI n7, .p fr10 (Sl.t r85 s8), .p fr10 (Sl.t r2 s9)]] 1 sz25 ?_
 refine oN ?_
 refine pq (q_fieldP rfl fa25_0 rfl) ?_
 refine pq (ql (iO n7) 1 sz3) ?_
 refine pq (q_build (cs := [iI n7, nC]) ty28 rfl pl28 rfl) ?_
 refine ol_new rfl rfl rfl (q_alloc ty28 (row := [iI 0, nC]) rfl rfl) (fun k11 => ?_)
 refine ow [[iI n7, nC]] 0 sz28 ?_
 refine oE (eS (lS (lS (lO ?_))))
 refine pq (ql (.agg [iI n7, .p fr10 (Sl.t r85 s8), .p fr10 (Sl.t r2 s9)]) 2 sz25) ?_
 refine ol_scallN (args := [.agg [iI n7, .p fr10 (Sl.t r85 s8), .p fr10 (Sl.t r2 s9)]]) rfl rfl rfl ax50 (by rw [E1_fn]; exact show fiOf Tryd.prog 50 = _ by unfold fiOf; rw [Tryd.func50]; unfold Tryd.f50; rfl) rfl rfl rfl ?_
 dsimp only
 refine lS (lO ?_)
 refine ol_new rfl rfl rfl (q_box ty25 rfl (cs := [iI n7, .p fr10 (Sl.t r85 s8), .p fr10 (Sl.t r2 s9)]) rfl rfl) (fun k12 => ?_)
 refine pq (qa (.one (.p true (.v .nilFunc)))) ?_
 refine oN ?_
 refine pq (q_mkfun rfl rfl) ?_
 refine pq (qa (.one (.clo (.func 88) [] [.ptr k12 0 0]))) ?_
 refine oE (eS (lR ?_))
 refine E_call (v := .one (.clo (.func 88) [] [.ptr k12 0 0])) (.inr rfl) (res_tmp (d := .one (.clo (.func 88) [] [.ptr k12 0 0])) rfl res_nil) rfl ?_
 refine oE (eS (lB ?_))
 refine L_range rfl (by rw [E1_fn]; exact show fiOf Tryd.prog 88 = _ by unfold fiOf; rw [Tryd.func88]; unfold Tryd.f88; rfl) rfl rfl (fun k13 => ?_)
 dsimp only
 refine lS (lO ?_)
 refine pq (q_fieldP rfl fa25_2 rfl) ?_
 refine pq (ql (.one (.p fr10 (Sl.t r2 s9))) 1 sz23) ?_
 refine pq (q_lenS rfl ty23 rfl rfl rfl rfl) ?_
 refine pq (qm (iO 0)) ?_
 refine oE (eS (lB ?_))
 refine L_addM (α := Int × Int) r38 2 ?_
 let S1 : (Int × (List (Int × Int))) → Nat → (Nat → D) → Nat → D := fun a kt g => ups g [(0, .one (.yld k13)), (1, .one (.ptr k12 0 0)), (6, .one (.p fr10 (Sl.t r2 s9))), (7, .one (iI ((s9.l.length : Nat) : Int))), (8, .one (iI a.1))]
 let SL1 : (Int × (List (Int × Int))) → Nat → BL := fun a kt => ([[(k13, 0, [])], [(k12, 3, [[iI n7, .p fr10 (Sl.t r85 s8), .p fr10 (Sl.t r2 s9)]])], [(k5, 2, [[iI 0, nC]])], [(k11, 2, [[iI n7, moC a.2 kt]])], moL r38 2 a.2 kt] : BL)
 let G1 : Empty → Ex → St → Prop := fun u => u.elim
 let Sx1 : (List (Int × Int)) → Nat → (Nat → D) → Nat → D := fun a kt g => ups g []
 let SLx1 : (List (Int × Int)) → Nat → BL := fun a kt => ([[(k5, 2, [[iI 0, nC]])], [(k11, 2, [[iI n7, moC a kt]])], [(k13, 0, [])], moL r38 2 a kt] : BL)
 let J1 : ((List (Int × Int)) ⊕ Empty) → Ex → St → Prop := JX 25 0 Sx1 SLx1 G1
 refine L_loopS (devec_Back_b1 s8 s9) S1 SL1 J1 JX_n (0, ([] : List (Int × Int))) h 1046 (ups_self ⟨rfl, rfl, rfl, rfl, rfl, trivial⟩) [1, 2, 4, 3, 0] (by decide) rfl ?_ ?_
 rintro ⟨n48, l49⟩ k50 g out h
 change devec_Back_b1 s8 s9 (n48, l49) = some out at h
 unfold devec_Back_b1 at h
 refine lS (lO ?_)
 by_cases c51 : n48 < ((s9.l.length : Nat) : Int)
 replace h := ifT c51 h
 refine pq (qb (p_lss_tZ c51)) ?_
 refine oE (eS (lS (cT rfl (lK (eS (lS (lB (lS (lO ?_)))))))))
 refine pq (qm (iO n48)) ?_
 obtain ⟨n54, h53, h⟩ := bindS h
 obtain ⟨h53a, h53b, h53⟩ := atS_some h53
 refine pq (q_ixS rfl rfl h53a h53 (el23.trans (congrArg some h53b.symm))) ?_
 refine pq (q_loadI (v := iO n54) rfl sz2 (map_get h53) rfl rfl) ?_
 refine pq (qa (iO n48)) ?_
 refine pq (qa (iO n54)) ?_
 refine oN ?_
 refine pq (q_fieldP rfl fa25_1 rfl) ?_
 refine pq (ql (.one (.p fr10 (Sl.t r85 s8))) 1 sz22) ?_
 refine pq (qm (iO n48)) ?_
 obtain ⟨b56, h55, h⟩ := bindS h
 refine pq (qc (bO b56) [.one (.p fr10 (Sl.t r85 s8)), iO n48] (flags_Has_r (m + 3) h55) (vw_cons (vd_one vc_s) (vw_cons (vd_one vc_v) vw_nil))) ?_
 refine pq (qm (bO b56)) ?_
 rcases b56 with _ | _
 replace h := wF h
 iterate 5 refine os ?_
 refine pq (qpf bf) ?_
 refine oE (eS (cF rfl (lK (bN (eS (lO ?_))))))
 refine pq (qb p_addY) ?_
 refine pq (qm (iO (IntKind.i64.wrap (n48 + 1)))) ?_
 refine oE ?_
 obtain rfl := sj h
 exact E_next k50 (ups_self ⟨rfl, rfl, rfl, rfl, rfl, trivial⟩) [0, 1, 2, 3, 4] (by decide) rfl
 replace h := wT h
 refine pq (qm (.one (.yld k13))) ?_
 refine pq (qm (iO n48)) ?_
 refine pq (qm (iO n54)) ?_
 refine ol_yield (args := [iO n48, iO n54]) (p := 0) rfl rfl rfl rfl rfl rfl rfl rfl rfl ?_
 refine lS (lO ?_)
 refine pq (qa (iO n48)) ?_
 refine oR ?_
 refine pq (qa (iO n54)) ?_
 refine oE ?_
 refine E_asg ?_
 refine lB (lO ?_)
 refine pq (q_fieldP rfl fa28_1 rfl) ?_
 refine pq (ql (.one (moC l49 k50)) 3 sz26) ?_
 refine pq (qm (iO n48)) ?_
 refine pq (qm (iO n54)) ?_
 refine pq (q_build (cs := [iI n48, iI n54]) ty39 rfl pl39 rfl) ?_
 refine ol_new rfl rfl rfl (q_bslice (cs := [iI n48, iI n54]) (es := (([(n48, n54)] : List (Int × Int))).map (rowC r38)) ty26 rfl ty39 rfl rfl rfl rfl rfl) (fun k57 => ?_)
 obtain ⟨_, h58, h⟩ := bindS h
 obtain ⟨h58b, rfl⟩ := app_some h58
 refine ol_appM (r := r38) (l := l49) (ys := ([(n48, n54)] : List (Int × Int))) 5 rfl rfl rfl rfl rfl rfl (el_ownM (l := ([(n48, n54)] : List (Int × Int))) 0 rfl) rfl h58 (fun y => rfl) el26 ty26 rfl rfl rfl rfl rfl (fun k59 => ?_)
 refine pq (q_fieldP rfl fa28_1 rfl) ?_
 refine ow [[iI n7, moC (l49 ++ ([(n48, n54)] : List (Int × Int))) k59]] 5 sz26 ?_
 refine oE (bN ?_)
 refine E_roundN (p := 2) rfl ?_
 refine pq (q_not rfl) ?_
 refine pq (qpt bf) ?_
 refine oE (eS (cF rfl (lK (bN (eS (lO ?_))))))
 refine pq (qb p_addY) ?_
 refine pq (qm (iO (IntKind.i64.wrap (n48 + 1)))) ?_
 refine oE ?_
 obtain rfl := sj h
 exact E_next k59 (ups_self ⟨rfl, rfl, rfl, rfl, rfl, trivial⟩) [2, 3, 4, 5, 0] (by decide) rfl
 replace h := ifF c51 h
 refine pq (qb (p_lss_fZ c51)) ?_
 refine oE (eS (lS (cF rfl (L_exit ?_))))
 refine E_seqX ?_
 obtain rfl := sj h
 refine E_out ?_
 exact (E_exit k50 (ups_self trivial) [2, 3, 0, 4] (by decide) rfl)
 rintro (l60 | u) h
 refine J_x (fun k61 g => ?_)
 replace h := elimL h
 refine bH ?_
 refine E_range (p := 2) (.inl rfl) rfl ?_
 refine bN (eS (lS (lO ?_)))
 refine pq (ql (.agg [iI n7, moC l60 k61]) 1 sz28) ?_
 refine ow [[iI n7, moC l60 k61]] 0 sz28 ?_
 refine oE (eS (lR ?_))
 obtain rfl := sj h
 exact E_endF (.inr rfl) (res_cell (d := .agg [iI n7, moC l60 k61]) 0 rfl sz28 rfl rfl rfl rfl res_nil) (vw_cons (vd_agg (vc_cons vc_v (vc_cons (vc_M (r := r38) 3 rfl (fun x h m => rfl)) vc_nil))) vw_nil) oG rfl rfl
 exact u.elim
noncomputable def ref07_SameItems_b1 (s1 : Sl (Int × Int)) (s2 : Sl (Int × Int)) (n25 : Int) : Option (Int ⊕ (Unit ⊕ Bool)) :=
 (if n25 < ((s1.l.length : Nat) : Int) then ((atS 2 s1 n25).bind fun (n29, n30) => ((atS 2 s2 n25).bind fun (n33, n34) => (if n29 = n33 ∧ n30 = n34 then some (.inl (IntKind.i64.wrap (n25 + 1))) else some (.inr (.inr false))))) else some (.inr (.inl ())))
noncomputable def ref07_SameItems (s1 : Sl (Int × Int)) (s2 : Sl (Int × Int)) : Option (Bool) :=
 (if ((s1.l.length : Nat) : Int) ≠ ((s2.l.length : Nat) : Int) then some false else ((loopO (ref07_SameItems_b1 s1 s2) 0).bind (Sum.elim (fun _ => some true) (fun u => some u))))
theorem ref07_SameItems_r (m : Nat) {s1 : Sl (Int × Int)} {s2 : Sl (Int × Int)} {out : Bool} (h : ref07_SameItems s1 s2 = some out) : RunsP E1 (m + 1) 48 [.one (Sl.t r38 s1), .one (Sl.t r38 s2)] (.fresh, [.one (bT out)]) := by
 refine fn_F rfl (by rw [E1_fn]; exact show fiOf Tryd.prog 48 = _ by unfold fiOf; rw [Tryd.func48]; unfold Tryd.f48; rfl) rfl ?_
 dsimp only
 unfold ref07_SameItems at h
 refine lS (lO ?_)
 refine pq (qa bf) ?_
 refine oE (eS (lS (lS (lO ?_))))
 refine pq (qm (.one (sF r38 s1))) ?_
 refine pq (q_lenS rfl ty26 rfl rfl rfl rfl) ?_
 refine pq (qm (.one (sF r38 s2))) ?_
 refine pq (q_lenS rfl ty26 rfl rfl rfl rfl) ?_
 by_cases c3 : ((s1.l.length : Nat) : Int) ≠ ((s2.l.length : Nat) : Int)
 replace h := ifT c3 h
 refine pq (qb (p_neq_tZ c3)) ?_
 refine oE (eS (cT rfl (lS (lO ?_))))
 refine pq (qa bf) ?_
 refine oE (eS (lR (eR ?_)))
 obtain rfl := sj h
 exact eF1
 replace h := ifF c3 h
 refine pq (qb (p_neq_fZ c3)) ?_
 refine oE (eS (cF rfl (lK (eS (lS (lS (lO ?_)))))))
 refine pq (qa (iO 0)) ?_
 refine oE (eS (lB ?_))
 let S1 : Int → Unit → (Nat → D) → Nat → D := fun a kt g => ups g [(0, .one (sF r38 s1)), (1, .one (sF r38 s2)), (5, iO a)]
 let SL1 : Int → Unit → BL := fun a kt => ([] : BL)
 let G1 : Bool → Ex → St → Prop := fun u => endQ E1 [.tmp 4] (.fresh, [.one (bT u)])
 let Sx1 : Unit → Unit → (Nat → D) → Nat → D := fun a kt g => ups g []
 let SLx1 : Unit → Unit → BL := fun a kt => ([] : BL)
 let J1 : (Unit ⊕ Bool) → Ex → St → Prop := JX 26 0 Sx1 SLx1 G1
 refine L_loopS (ref07_SameItems_b1 s1 s2) S1 SL1 J1 JX_n 0 h () (ups_self ⟨rfl, rfl, rfl, trivial⟩) [] (by decide) rfl ?_ ?_
 rintro n25 _ g out h
 change ref07_SameItems_b1 s1 s2 n25 = some out at h
 unfold ref07_SameItems_b1 at h
 refine lS (lS (lO ?_))
 refine pq (qm (iO n25)) ?_
 refine pq (qm (.one (sF r38 s1))) ?_
 refine pq (q_lenS rfl ty26 rfl rfl rfl rfl) ?_
 by_cases c26 : n25 < ((s1.l.length : Nat) : Int)
 replace h := ifT c26 h
 refine pq (qb (p_lss_tZ c26)) ?_
 refine oE (eS (cT rfl (lK (eS (lS (lB (lS ?_)))))))
 refine L_still (by kernel_rfl) ?_
 refine sq (qm (.one (sF r38 s1))) ?_
 refine sq (qm (iO n25)) ?_
 obtain ⟨⟨n29, n30⟩, h28, h⟩ := bindS h
 obtain ⟨h28a, h28b, h28⟩ := atS_some h28
 refine sq (q_ixS rfl rfl h28a h28 (el26.trans (congrArg some h28b.symm))) ?_
 refine sq (q_loadI (v := .agg [iI n29, iI n30]) rfl sz39 (map_get h28) rfl rfl) ?_
 refine sq (qm (.one (sF r38 s2))) ?_
 refine sq (qm (iO n25)) ?_
 obtain ⟨⟨n33, n34⟩, h32, h⟩ := bindS h
 obtain ⟨h32a, h32b, h32⟩ := atS_some h32
 refine sq (q_ixS rfl rfl h32a h32 (el26.trans (congrArg some h32b.symm))) ?_
 refine sq (q_loadI (v := .agg [iI n33, iI n34]) rfl sz39 (map_get h32) rfl rfl) ?_
 by_cases c35 : n29 = n33 ∧ n30 = n34
 replace h := ifT c35 h
 refine sq (q_binA rfl rfl (by rfl) (by rfl) (eqneqA39_t _ _ c35) rfl) ?_
 refine st_end (eS (cF rfl (lK (bN (eS (lO ?_))))))
 refine pq (qm (iO n25)) ?_
 refine pq (qb p_addY) ?_
 refine pq (qa (iO (IntKind.i64.wrap (n25 + 1)))) ?_
 refine oE ?_
 obtain rfl := sj h
 exact E_next () (ups_self ⟨rfl, rfl, rfl, trivial⟩) [] (by decide) rfl
 replace h := ifF c35 h
 refine sq (q_binA rfl rfl (by rfl) (by rfl) (eqneqA39_f _ _ c35) rfl) ?_
 refine st_end (eS (cT rfl (lS (lO ?_))))
 refine pq (qa bf) ?_
 refine oE (eS (lR (bR (eR ?_))))
 obtain rfl := sj h
 exact E_out (E_up (eF1))
 replace h := ifF c26 h
 refine pq (qb (p_lss_fZ c26)) ?_
 refine oE (eS (cF rfl (L_exit ?_)))
 refine E_seqX ?_
 obtain rfl := sj h
 refine E_out ?_
 exact (E_exit () (ups_self trivial) [] (by decide) rfl)
 rintro (_ | u) h
 refine J_x (fun kt g => ?_)
 replace h := elimL h
 refine bH (eS (lS (lO ?_)))
 refine pq (qa bt) ?_
 refine oE (eS (lR ?_))
 obtain rfl := sj h
 exact eF1
 obtain rfl := Option.some.inj (elimR h)
 exact J_up (fun s hs => hs)
noncomputable def ref09_Same (a0 : Int × (Sl (Int × Int))) (a1 : Int × (Sl (Int × Int))) : Option (Bool) :=
 match a0, a1 with
 | (n1, s2), (n3, s4) => (if n1 = n3 then ((ref07_SameItems s2 s4).bind fun b9 => some b9) else some false)
theorem ref09_Same_r (m : Nat) {a0 : Int × (Sl (Int × Int))} {a1 : Int × (Sl (Int × Int))} {out : Bool} (h : ref09_Same a0 a1 = some out) : RunsP E1 (m + 2) 14 [.agg (r27 a0), .agg (r27 a1)] (.fresh, [.one (bT out)]) := by
 obtain ⟨n1, s2⟩ := a0
 obtain ⟨n3, s4⟩ := a1
 refine fn_F rfl (by rw [E1_fn]; exact show fiOf Tryd.prog 14 = _ by unfold fiOf; rw [Tryd.func14]; unfold Tryd.f14; rfl) rfl ?_
 dsimp only
 unfold ref09_Same at h
 refine lS (lO ?_)
 refine ol_new rfl rfl rfl (q_box ty28 rfl (cs := [iI n1, sF r38 s2]) rfl rfl) (fun k5 => ?_)
 refine ol_new rfl rfl rfl (q_box ty28 rfl (cs := [iI n3, sF r38 s4]) rfl rfl) (fun k6 => ?_)
 refine pq (qa bf) ?_
 refine oN ?_
 refine pq (q_fieldP rfl fa28_0 rfl) ?_
 refine pq (ql (iO n1) 1 sz3) ?_
 refine pq (q_fieldP rfl fa28_0 rfl) ?_
 refine pq (ql (iO n3) 0 sz3) ?_
 by_cases c7 : n1 = n3
 replace h := ifT c7 h
 refine pq (qb (p_eql_tZ c7)) ?_
 refine pq (qm bt) ?_
 refine pq (q_fieldP rfl fa28_1 rfl) ?_
 refine pq (ql (.one (sF r38 s2)) 1 sz26) ?_
 refine pq (q_fieldP rfl fa28_1 rfl) ?_
 refine pq (ql (.one (sF r38 s4)) 0 sz26) ?_
 obtain ⟨b9, h8, h⟩ := bindS h
 refine pq (qc (bO b9) [.one (sF r38 s2), .one (sF r38 s4)] (ref07_SameItems_r (m + 0) h8) (vw_cons (vd_one vc_s) (vw_cons (vd_one vc_s) vw_nil))) ?_
 refine pq (qpt (bO b9)) ?_
 refine pq (qa (bO b9)) ?_
 refine oE (eS (lR ?_))
 obtain rfl := sj h
 exact eF1
 replace h := ifF c7 h
 refine pq (qb (p_eql_fZ c7)) ?_
 refine pq (qm bf) ?_
 iterate 5 refine os ?_
 refine pq (qpf bf) ?_
 refine pq (qa bf) ?_
 refine oE (eS (lR ?_))
 obtain rfl := sj h
 exact eF1
noncomputable def slices_Equal_uint64_uint64_b1 (s1 : Sl (Int)) (s2 : Sl (Int)) (n21 : Int) : Option (Int ⊕ (Unit ⊕ Bool)) :=
 (if n21 < ((s1.l.length : Nat) : Int) then ((atS 1 s1 n21).bind fun n25 => ((atS 1 s2 n21).bind fun n28 => (if n25 ≠ n28 then some (.inr (.inr false)) else some (.inl (IntKind.i64.wrap (n21 + 1)))))) else some (.inr (.inl ())))
noncomputable def slices_Equal_uint64_uint64 (s1 : Sl (Int)) (s2 : Sl (Int)) : Option (Bool) :=
 (if ((s1.l.length : Nat) : Int) ≠ ((s2.l.length : Nat) : Int) then some false else ((loopO (slices_Equal_uint64_uint64_b1 s1 s2) 0).bind (Sum.elim (fun _ => some true) (fun u => some u))))
theorem slices_Equal_uint64_uint64_r (m : Nat) {s1 : Sl (Int)} {s2 : Sl (Int)} {out : Bool} (h : slices_Equal_uint64_uint64 s1 s2 = some out) : RunsP E1 (m + 1) 72 [.one (Sl.t r85 s1), .one (Sl.t r85 s2)] (.fresh, [.one (bT out)]) := by
 refine fn_F rfl (by rw [E1_fn]; exact show fiOf Tryd.prog 72 = _ by unfold fiOf; rw [Tryd.func72]; unfold Tryd.f72; rfl) rfl ?_
 dsimp only
 unfold slices_Equal_uint64_uint64 at h
 refine lS (lO ?_)
 refine pq (qa bf) ?_
 refine oE (eS (lS (lS (lO ?_))))
 refine pq (qm (.one (sF r85 s1))) ?_
 refine pq (q_lenS rfl ty22 rfl rfl rfl rfl) ?_
 refine pq (qm (.one (sF r85 s2))) ?_
 refine pq (q_lenS rfl ty22 rfl rfl rfl rfl) ?_
 by_cases c3 : ((s1.l.length : Nat) : Int) ≠ ((s2.l.length : Nat) : Int)
 replace h := ifT c3 h
 refine pq (qb (p_neq_tZ c3)) ?_
 refine oE (eS (cT rfl (lS (lO ?_))))
 refine pq (qa bf) ?_
 refine oE (eS (lR (eR ?_)))
 obtain rfl := sj h
 exact eF1
 replace h := ifF c3 h
 refine pq (qb (p_neq_fZ c3)) ?_
 refine oE (eS (cF rfl (lK (eS (lS (lS (lO ?_)))))))
 refine pq (qm (.one (sF r85 s1))) ?_
 refine pq (q_lenS rfl ty22 rfl rfl rfl rfl) ?_
 refine pq (qm (iO 0)) ?_
 refine oE (eS (lB ?_))
 let S1 : Int → Unit → (Nat → D) → Nat → D := fun a kt g => ups g [(0, .one (sF r85 s1)), (1, .one (sF r85 s2)), (12, .one (iI ((s1.l.length : Nat) : Int))), (13, iO a)]
 let SL1 : Int → Unit → BL := fun a kt => ([] : BL)
 let G1 : Bool → Ex → St → Prop := fun u => endQ E1 [.tmp 4] (.fresh, [.one (bT u)])
 let Sx1 : Unit → Unit → (Nat → D) → Nat → D := fun a kt g => ups g []
 let SLx1 : Unit → Unit → BL := fun a kt => ([] : BL)
 let J1 : (Unit ⊕ Bool) → Ex → St → Prop := JX 26 0 Sx1 SLx1 G1
 refine L_loopS (slices_Equal_uint64_uint64_b1 s1 s2) S1 SL1 J1 JX_n 0 h () (ups_self ⟨rfl, rfl, rfl, rfl, trivial⟩) [] (by decide) rfl ?_ ?_
 rintro n21 _ g out h
 change slices_Equal_uint64_uint64_b1 s1 s2 n21 = some out at h
 unfold slices_Equal_uint64_uint64_b1 at h
 refine lS (lO ?_)
 by_cases c22 : n21 < ((s1.l.length : Nat) : Int)
 replace h := ifT c22 h
 refine pq (qb (p_lss_tZ c22)) ?_
 refine oE (eS (lS (cT rfl (lK (eS (lS (lB (lS (lO ?_)))))))))
 refine pq (qm (iO n21)) ?_
 refine pq (qa (iO n21)) ?_
 refine oE (eS (lS ?_))
 refine L_still (by kernel_rfl) ?_
 refine sq (qm (.one (sF r85 s1))) ?_
 refine sq (qm (iO n21)) ?_
 obtain ⟨n25, h24, h⟩ := bindS h
 obtain ⟨h24a, h24b, h24⟩ := atS_some h24
 refine sq (q_ixS rfl rfl h24a h24 (el22.trans (congrArg some h24b.symm))) ?_
 refine sq (q_loadI (v := .one (uI n25)) rfl sz85 (map_get h24) rfl rfl) ?_
 refine sq (qm (.one (sF r85 s2))) ?_
 refine sq (qm (iO n21)) ?_
 obtain ⟨n28, h27, h⟩ := bindS h
 obtain ⟨h27a, h27b, h27⟩ := atS_some h27
 refine sq (q_ixS rfl rfl h27a h27 (el22.trans (congrArg some h27b.symm))) ?_
 refine sq (q_loadI (v := .one (uI n28)) rfl sz85 (map_get h27) rfl rfl) ?_
 by_cases c29 : n25 ≠ n28
 replace h := ifT c29 h
 refine sq (qb (p_neq_tZ c29)) ?_
 refine st_end (eS (cT rfl (lS (lO ?_))))
 refine pq (qa bf) ?_
 refine oE (eS (lR (bR (eR ?_))))
 obtain rfl := sj h
 exact E_out (E_up (eF1))
 replace h := ifF c29 h
 refine sq (qb (p_neq_fZ c29)) ?_
 refine st_end (eS (cF rfl (lK (bN (eS (lO ?_))))))
 refine pq (qb p_addY) ?_
 refine pq (qm (iO (IntKind.i64.wrap (n21 + 1)))) ?_
 refine oE ?_
 obtain rfl := sj h
 exact E_next () (ups_self ⟨rfl, rfl, rfl, rfl, trivial⟩) [] (by decide) rfl
 replace h := ifF c22 h
 refine pq (qb (p_lss_fZ c22)) ?_
 refine oE (eS (lS (cF rfl (L_exit ?_))))
 refine E_seqX ?_
 obtain rfl := sj h
 refine E_out ?_
 exact (E_exit () (ups_self trivial) [] (by decide) rfl)
 rintro (_ | u) h
 refine J_x (fun kt g => ?_)
 replace h := elimL h
 refine bH (eS (lS (lO ?_)))
 refine pq (qa bt) ?_
 refine oE (eS (lR ?_))
 obtain rfl := sj h
 exact eF1
 obtain rfl := Option.some.inj (elimR h)
 exact J_up (fun s hs => hs)
noncomputable def slices_Equal_int64_int64_b1 (s1 : Sl (Int)) (s2 : Sl (Int)) (n21 : Int) : Option (Int ⊕ (Unit ⊕ Bool)) :=
 (if n21 < ((s1.l.length : Nat) : Int) then ((atS 1 s1 n21).bind fun n25 => ((atS 1 s2 n21).bind fun n28 => (if n25 ≠ n28 then some (.inr (.inr false)) else some (.inl (IntKind.i64.wrap (n21 + 1)))))) else some (.inr (.inl ())))
noncomputable def slices_Equal_int64_int64 (s1 : Sl (Int)) (s2 : Sl (Int)) : Option (Bool) :=
 (if ((s1.l.length : Nat) : Int) ≠ ((s2.l.length : Nat) : Int) then some false else ((loopO (slices_Equal_int64_int64_b1 s1 s2) 0).bind (Sum.elim (fun _ => some true) (fun u => some u))))
theorem slices_Equal_int64_int64_r (m : Nat) {s1 : Sl (Int)} {s2 : Sl (Int)} {out : Bool} (h : slices_Equal_int64_int64 s1 s2 = some out) : RunsP E1 (m + 1) 73 [.one (Sl.t r2 s1), .one (Sl.t r2 s2)] (.fresh, [.one (bT out)]) := by
 refine fn_F rfl (by rw [E1_fn]; exact show fiOf Tryd.prog 73 = _ by unfold fiOf; rw [Tryd.func73]; unfold Tryd.f73; rfl) rfl ?_
 dsimp only
 unfold slices_Equal_int64_int64 at h
 refine lS (lO ?_)
 refine pq (qa bf) ?_
 refine oE (eS (lS (lS (lO ?_))))
 refine pq (qm (.one (sF r2 s1))) ?_
 refine pq (q_lenS rfl ty23 rfl rfl rfl rfl) ?_
 refine pq (qm (.one (sF r2 s2))) ?_
 refine pq (q_lenS rfl ty23 rfl rfl rfl rfl) ?_
 by_cases c3 : ((s1.l.length : Nat) : Int) ≠ ((s2.l.length : Nat) : Int)
 replace h := ifT c3 h
 refine pq (qb (p_neq_tZ c3)) ?_
 refine oE (eS (cT rfl (lS (lO ?_))))
 refine pq (qa bf) ?_
 refine oE (eS (lR (eR ?_)))
 obtain rfl := sj h
 exact eF1
 replace h := ifF c3 h
 refine pq (qb (p_neq_fZ c3)) ?_
 refine oE (eS (cF rfl (lK (eS (lS (lS (lO ?_)))))))
 refine pq (qm (.one (sF r2 s1))) ?_
 refine pq (q_lenS rfl ty23 rfl rfl rfl rfl) ?_
 refine pq (qm (iO 0)) ?_
 refine oE (eS (lB ?_))
 let S1 : Int → Unit → (Nat → D) → Nat → D := fun a kt g => ups g [(0, .one (sF r2 s1)), (1, .one (sF r2 s2)), (12, .one (iI ((s1.l.length : Nat) : Int))), (13, iO a)]
 let SL1 : Int → Unit → BL := fun a kt => ([] : BL)
 let G1 : Bool → Ex → St → Prop := fun u => endQ E1 [.tmp 4] (.fresh, [.one (bT u)])
 let Sx1 : Unit → Unit → (Nat → D) → Nat → D := fun a kt g => ups g []
 let SLx1 : Unit → Unit → BL := fun a kt => ([] : BL)
 let J1 : (Unit ⊕ Bool) → Ex → St → Prop := JX 26 0 Sx1 SLx1 G1
 refine L_loopS (slices_Equal_int64_int64_b1 s1 s2) S1 SL1 J1 JX_n 0 h () (ups_self ⟨rfl, rfl, rfl, rfl, trivial⟩) [] (by decide) rfl ?_ ?_
 rintro n21 _ g out h
 change slices_Equal_int64_int64_b1 s1 s2 n21 = some out at h
 unfold slices_Equal_int64_int64_b1 at h
 refine lS (lO ?_)
 by_cases c22 : n21 < ((s1.l.length : Nat) : Int)
 replace h := ifT c22 h
 refine pq (qb (p_lss_tZ c22)) ?_
 refine oE (eS (lS (cT rfl (lK (eS (lS (lB (lS (lO ?_)))))))))
 refine pq (qm (iO n21)) ?_
 refine pq (qa (iO n21)) ?_
 refine oE (eS (lS ?_))
 refine L_still (by kernel_rfl) ?_
 refine sq (qm (.one (sF r2 s1))) ?_
 refine sq (qm (iO n21)) ?_
 obtain ⟨n25, h24, h⟩ := bindS h
 obtain ⟨h24a, h24b, h24⟩ := atS_some h24
 refine sq (q_ixS rfl rfl h24a h24 (el23.trans (congrArg some h24b.symm))) ?_
 refine sq (q_loadI (v := iO n25) rfl sz2 (map_get h24) rfl rfl) ?_
 refine sq (qm (.one (sF r2 s2))) ?_
 refine sq (qm (iO n21)) ?_
 obtain ⟨n28, h27, h⟩ := bindS h
 obtain ⟨h27a, h27b, h27⟩ := atS_some h27
 refine sq (q_ixS rfl rfl h27a h27 (el23.trans (congrArg some h27b.symm))) ?_
 refine sq (q_loadI (v := iO n28) rfl sz2 (map_get h27) rfl rfl) ?_
 by_cases c29 : n25 ≠ n28
 replace h := ifT c29 h
 refine sq (qb (p_neq_tZ c29)) ?_
 refine st_end (eS (cT rfl (lS (lO ?_))))
 refine pq (qa bf) ?_
 refine oE (eS (lR (bR (eR ?_))))
 obtain rfl := sj h
 exact E_out (E_up (eF1))
 replace h := ifF c29 h
 refine sq (qb (p_neq_fZ c29)) ?_
 refine st_end (eS (cF rfl (lK (bN (eS (lO ?_))))))
 refine pq (qb p_addY) ?_
 refine pq (qm (iO (IntKind.i64.wrap (n21 + 1)))) ?_
 refine oE ?_
 obtain rfl := sj h
 exact E_next () (ups_self ⟨rfl, rfl, rfl, rfl, trivial⟩) [] (by decide) rfl
 replace h := ifF c22 h
 refine pq (qb (p_lss_fZ c22)) ?_
 refine oE (eS (lS (cF rfl (L_exit ?_))))
 refine E_seqX ?_
 obtain rfl := sj h
 refine E_out ?_
 exact (E_exit () (ups_self trivial) [] (by decide) rfl)
 rintro (_ | u) h
 refine J_x (fun kt g => ?_)
 replace h := elimL h
 refine bH (eS (lS (lO ?_)))
 refine pq (qa bt) ?_
 refine oE (eS (lR ?_))
 obtain rfl := sj h
 exact eF1
 obtain rfl := Option.some.inj (elimR h)
 exact J_up (fun s hs => hs)
noncomputable def devec_Same (a0 : Int × Sl (Int) × Sl (Int)) (a1 : Int × Sl (Int) × Sl (Int)) : Option (Bool) :=
 match a0, a1 with
 | (n1, s2, s3), (n4, s5, s6) => ((devec_sure (n1, s2, s3)).bind fun (n21, s22, s23) => ((devec_sure (n4, s5, s6)).bind fun (n26, s27, s28) => (if n21 = n26 then ((slices_Equal_uint64_uint64 s22 s27).bind fun b32 => (if b32 = true then ((slices_Equal_int64_int64 s23 s28).bind fun b34 => some b34) else some false)) else some false)))
theorem devec_Same_r (m : Nat) {a0 : Int × Sl (Int) × Sl (Int)} {a1 : Int × Sl (Int) × Sl (Int)} {out : Bool} (h : devec_Same a0 a1 = some out) : RunsP E1 (m + 7) 35 [.agg (r24 a0), .agg (r24 a1)] (.fresh, [.one (bT out)]) := by
 obtain ⟨n1, s2, s3⟩ := a0
 obtain ⟨n4, s5, s6⟩ := a1
 refine fn_F rfl (by rw [E1_fn]; exact show fiOf Tryd.prog 35 = _ by unfold fiOf; rw [Tryd.func35]; unfold Tryd.f35; rfl) rfl ?_
 dsimp only
 unfold devec_Same at h
 refine lS (lO ?_)
 refine ol_new rfl rfl rfl (q_box ty25 rfl (cs := [iI n1, sF r85 s2, sF r2 s3]) rfl rfl) (fun k7 => ?_)
 refine ol_new rfl rfl rfl (q_box ty25 rfl (cs := [iI n4, sF r85 s5, sF r2 s6]) rfl rfl) (fun k8 => ?_)
 refine pq (qa bf) ?_
 refine oE (eS (lS ?_))
 refine L_norm (L2 := ([[(k8, 3, [[iI n4, sF r85 s5, sF r2 s6]])], [(k7, 3, [[iI n1, sF r85 s2, sF r2 s3]])]] : BL)) [0, 1] (by decide) rfl ?_
 refine L_turn 6 rfl [[], [], [], [], [k7], [k8]] [(false, []), (false, []), (false, []), (false, []), (false, []), (false, [])] [[2], [2], [0, 1], [], [], []] (by kernel_rfl) (by kernel_rfl) (by kernel_rfl) ?_ (fun bb9 hlt hnd => ?_)
 intro bb9 hlt hnd
 exact ⟨⟨djE, ⟨djE, ⟨djE, ⟨djE, ⟨djN, ⟨djN, trivial⟩⟩⟩⟩⟩⟩, (ltO_cons ltK_nil (ltO_cons ltK_nil (ltO_cons ltK_nil (ltO_cons ltK_nil (ltO_cons (ltK_cons (key_lt hlt 1 rfl) ltK_nil) (ltO_cons (ltK_cons (key_lt hlt 0 rfl) ltK_nil) ltO_nil))))))⟩
 refine tq [1] rfl (hm0 rfl) (ql (.agg [iI n1, sF r85 s2, sF r2 s3]) 0 sz25) ?_
 obtain ⟨⟨n21, s22, s23⟩, h20, h⟩ := bindS h
 refine tn_putX rfl rfl rfl [] (by decide) rfl (hm0 rfl) rfl (q_callX (v := fun fr24 => .agg [iI n21, .p fr24 (Sl.t r85 s22), .p fr24 (Sl.t r2 s23)]) (args := [.agg [iI n1, sF r85 s2, sF r2 s3]]) (devec_sure_r (m + 0) h20) rfl rfl (vw_cons (vd_agg (vc_cons vc_v (vc_cons vc_s (vc_cons vc_s vc_nil)))) vw_nil) rfl rfl (fun fr => rfl)) (fun fr24 => ?_)
 refine tq [0] rfl (hm0 rfl) (ql (.agg [iI n4, sF r85 s5, sF r2 s6]) 0 sz25) ?_
 obtain ⟨⟨n26, s27, s28⟩, h25, h⟩ := bindS h
 refine tn_putX rfl rfl rfl [] (by decide) rfl (hm0 rfl) rfl (q_callX (v := fun fr29 => .agg [iI n26, .p fr29 (Sl.t r85 s27), .p fr29 (Sl.t r2 s28)]) (args := [.agg [iI n4, sF r85 s5, sF r2 s6]]) (devec_sure_r (m + 0) h25) rfl rfl (vw_cons (vd_agg (vc_cons vc_v (vc_cons vc_s (vc_cons vc_s vc_nil)))) vw_nil) rfl rfl (fun fr => rfl)) (fun fr29 => ?_)
 refine tn_wr rfl rfl [1] (by decide) rfl (hm0 rfl) rfl (q_store (es' := [[iI n21, .p fr24 (Sl.t r85 s22), .p fr24 (Sl.t r2 s23)]]) 0 rfl rfl rfl sz25 rfl rfl rfl rfl rfl) (q := 1) rfl rfl ?_
 refine tn_wr rfl rfl [0] (by decide) rfl (hm0 rfl) rfl (q_store (es' := [[iI n26, .p fr29 (Sl.t r85 s27), .p fr29 (Sl.t r2 s28)]]) 0 rfl rfl rfl sz25 rfl rfl rfl rfl rfl) (q := 0) rfl rfl ?_
 refine tn_end (eS (lS (lO ?_)))
 refine pq (q_fieldP rfl fa25_0 rfl) ?_
 refine pq (ql (iO n21) 1 sz3) ?_
 refine pq (q_fieldP rfl fa25_0 rfl) ?_
 refine pq (ql (iO n26) 0 sz3) ?_
 by_cases c30 : n21 = n26
 replace h := ifT c30 h
 refine pq (qb (p_eql_tZ c30)) ?_
 refine pq (qm bt) ?_
 refine pq (q_fieldP rfl fa25_1 rfl) ?_
 refine pq (ql (.one (.p fr24 (Sl.t r85 s22))) 1 sz22) ?_
 refine pq (q_fieldP rfl fa25_1 rfl) ?_
 refine pq (ql (.one (.p fr29 (Sl.t r85 s27))) 0 sz22) ?_
 obtain ⟨b32, h31, h⟩ := bindS h
 refine pq (qc (bO b32) [.one (.p fr24 (Sl.t r85 s22)), .one (.p fr29 (Sl.t r85 s27))] (slices_Equal_uint64_uint64_r (m + 5) h31) (vw_cons (vd_one vc_s) (vw_cons (vd_one vc_s) vw_nil))) ?_
 refine pq (qpt (bO b32)) ?_
 refine pq (qm (bO b32)) ?_
 rcases b32 with _ | _
 replace h := wF h
 iterate 5 refine os ?_
 refine pq (qpf bf) ?_
 refine pq (qa bf) ?_
 refine oE (eS (lR ?_))
 obtain rfl := sj h
 exact eF1
 replace h := wT h
 refine pq (q_fieldP rfl fa25_2 rfl) ?_
 refine pq (ql (.one (.p fr24 (Sl.t r2 s23))) 1 sz23) ?_
 refine pq (q_fieldP rfl fa25_2 rfl) ?_
 refine pq (ql (.one (.p fr29 (Sl.t r2 s28))) 0 sz23) ?_
 obtain ⟨b34, h33, h⟩ := bindS h
 refine pq (qc (bO b34) [.one (.p fr24 (Sl.t r2 s23)), .one (.p fr29 (Sl.t r2 s28))] (slices_Equal_int64_int64_r (m + 5) h33) (vw_cons (vd_one vc_s) (vw_cons (vd_one vc_s) vw_nil))) ?_
 refine pq (qpt (bO b34)) ?_
 refine pq (qa (bO b34)) ?_
 refine oE (eS (lR ?_))
 obtain rfl := sj h
 exact eF1
 replace h := ifF c30 h
 refine pq (qb (p_eql_fZ c30)) ?_
 refine pq (qm bf) ?_
 iterate 5 refine os ?_
 refine pq (qpf bf) ?_
 refine pq (qm bf) ?_
 iterate 5 refine os ?_
 refine pq (qpf bf) ?_
 refine pq (qa bf) ?_
 refine oE (eS (lR ?_))
 obtain rfl := sj h
 exact eF1
end Ev
end Go.Proofs.YtjomjfjbpcafhaaDoor
