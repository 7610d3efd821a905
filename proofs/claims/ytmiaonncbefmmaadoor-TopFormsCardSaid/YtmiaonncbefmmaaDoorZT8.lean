/- Texts of a claim, joined. -/
import Derived.Test.YtmiaonncbefmmaaDoorZT7
import Derived.Test.YtmiaonncbefmmaaDoorZT6
set_option linter.unusedVariables false
set_option linter.unusedSimpArgs false
section
namespace Go.Proofs.YtmiaonncbefmmaaDoor
namespace Ev
open Go
set_option linter.unusedVariables false
set_option linter.unusedSimpArgs false
set_option maxRecDepth 100000
set_option maxHeartbeats 1000000
attribute [local irreducible] OpsL StL TnL WpL EndL
noncomputable def spvec_Places_b1 (s6 : Sl (Int × Int)) (a : List (Int) × Int) : Option ((List (Int) × Int) ⊕ ((List (Int)) ⊕ (List (Int)))) :=
 match a with
 | (l31, n32) => (if n32 < ((s6.l.length : Nat) : Int) then ((atS 2 s6 n32).bind fun (n37, n38) => ((app l31 ([n37] : List (Int))).bind fun _ => some (.inl ((l31 ++ ([n37] : List (Int))), (IntKind.i64.wrap (n32 + 1)))))) else some (.inr (.inl l31)))
noncomputable def spvec_Places (a0 : Int × (Sl (Int × Int))) : Option (List (Int)) :=
 match a0 with
 | (n1, s2) => ((spvec_sure (n1, s2)).bind fun (n5, s6) => ((loopO (spvec_Places_b1 s6) (([] : List (Int)), 0)).bind (Sum.elim (fun l43 => some l43) (fun u => some u))))
theorem spvec_Places_r (m : Nat) {a0 : Int × (Sl (Int × Int))} {out : List (Int)} (h : spvec_Places a0 = some out) : RunsP E1 (m + 4) 18 [.agg (r24 a0)] (resM 1 r3 out) := by
 obtain ⟨n1, s2⟩ := a0
 refine fn_M rfl (by rw [E1_fn]; exact show fiOf Tryd.prog 18 = _ by unfold fiOf; rw [Tryd.func18]; unfold Tryd.f18; rfl) rfl ?_
 dsimp only
 unfold spvec_Places at h
 refine lS (lO ?_)
 refine ol_new rfl rfl rfl (q_box ty25 rfl (cs := [iI n1, sF r44 s2]) rfl rfl) (fun k3 => ?_)
 refine pq (qa (.one nC)) ?_
 refine oN ?_
 refine pq (qa (.one nC)) ?_
 refine oE (eS (lS (lS (lO ?_))))
 refine pq (ql (.agg [iI n1, sF r44 s2]) 0 sz25) ?_
 obtain ⟨⟨n5, s6⟩, h4, h⟩ := bindS h
 refine ol_putX rfl rfl rfl (q_callX (v := fun fr7 => .agg [iI n5, .p fr7 (Sl.t r44 s6)]) (args := [.agg [iI n1, sF r44 s2]]) (spvec_sure_r (m + 0) h4) rfl rfl (vw_cons (vd_agg (vc_cons vc_v (vc_cons vc_s vc_nil))) vw_nil) rfl rfl (fun fr => rfl)) (fun fr7 => ?_)
 refine pq (q_fieldV (v := .one (.p fr7 (Sl.t r44 s6))) rfl fa25_1 rfl rfl) ?_
 refine pq (q_lenS rfl ty22 rfl rfl rfl rfl) ?_
 refine pq (qm (iO 0)) ?_
 refine oE (eS (lB ?_))
 refine L_addM (α := Int) r3 1 ?_
 let S1 : (List (Int) × Int) → Nat → (Nat → D) → Nat → D := fun a kt g => ups g [(3, .one (moC a.1 kt)), (8, .one (.p fr7 (Sl.t r44 s6))), (9, .one (iI ((s6.l.length : Nat) : Int))), (10, .one (iI a.2))]
 let SL1 : (List (Int) × Int) → Nat → BL := fun a kt => ([moL r3 1 a.1 kt] : BL)
 let G1 : (List (Int)) → Ex → St → Prop := fun u => endQ E1 [.tmp 2] (resM 1 r3 u)
 let Sx1 : (List (Int)) → Nat → (Nat → D) → Nat → D := fun a kt g => ups g [(3, .one (moC a kt))]
 let SLx1 : (List (Int)) → Nat → BL := fun a kt => ([moL r3 1 a kt] : BL)
 let J1 : ((List (Int)) ⊕ (List (Int))) → Ex → St → Prop := JX 21 0 Sx1 SLx1 G1
 refine L_loopS (spvec_Places_b1 s6) S1 SL1 J1 JX_n (([] : List (Int)), 0) h 1029 (ups_self ⟨rfl, rfl, rfl, rfl, trivial⟩) [0] (by decide) rfl ?_ ?_
 rintro ⟨l31, n32⟩ k33 g out h
 change spvec_Places_b1 s6 (l31, n32) = some out at h
 unfold spvec_Places_b1 at h
 refine lS (lO ?_)
 by_cases c34 : n32 < ((s6.l.length : Nat) : Int)
 replace h := ifT c34 h
 refine pq (qb (p_lss_tZ c34)) ?_
 refine oE (eS (lS (cT rfl (lK (eS (lS (lB (lS (lO ?_)))))))))
 obtain ⟨⟨n37, n38⟩, h36, h⟩ := bindS h
 obtain ⟨h36a, h36b, h36⟩ := atS_some h36
 refine pq (q_ixS rfl rfl h36a h36 (el22.trans (congrArg some h36b.symm))) ?_
 refine pq (q_loadI (v := .agg [iI n37, iI n38]) rfl sz45 (map_get h36) rfl rfl) ?_
 refine ol_new rfl rfl rfl (q_alloc ty45 (row := [iI 0, iI 0]) rfl rfl) (fun k39 => ?_)
 refine ow [[iI n37, iI n38]] 0 sz45 ?_
 refine oR ?_
 refine pq (qm (.one (moC l31 k33))) ?_
 refine pq (q_fieldP rfl fa45_0 rfl) ?_
 refine pq (ql (iO n37) 0 sz3) ?_
 refine ol_new rfl rfl rfl (q_bslice (cs := [iI n37]) (es := (([n37] : List (Int))).map (rowC r3)) ty51 rfl ty3 rfl rfl rfl rfl rfl) (fun k40 => ?_)
 obtain ⟨_, h41, h⟩ := bindS h
 obtain ⟨h41b, rfl⟩ := app_some h41
 refine ol_appM (r := r3) (l := l31) (ys := ([n37] : List (Int))) 2 rfl rfl rfl rfl rfl rfl (el_ownM (l := ([n37] : List (Int))) 0 rfl) rfl h41 (fun y => rfl) el51 ty51 rfl rfl rfl rfl rfl (fun k42 => ?_)
 refine pq (qa (.one (moC (l31 ++ ([n37] : List (Int))) k42))) ?_
 refine oE (bN (eS (lO ?_)))
 refine pq (qb p_addY) ?_
 refine pq (qm (iO (IntKind.i64.wrap (n32 + 1)))) ?_
 refine oE ?_
 obtain rfl := sj h
 exact E_next k42 (ups_self ⟨rfl, rfl, rfl, rfl, trivial⟩) [0] (by decide) rfl
 replace h := ifF c34 h
 refine pq (qb (p_lss_fZ c34)) ?_
 refine oE (eS (lS (cF rfl (L_exit ?_))))
 refine E_seqX ?_
 obtain rfl := sj h
 refine E_out ?_
 exact (E_exit k33 (ups_self ⟨rfl, trivial⟩) [0] (by decide) rfl)
 rintro (l43 | u) h
 refine J_x (fun k44 g => ?_)
 replace h := elimL h
 refine bH (eS (lS (lO ?_)))
 refine pq (qm (.one (moC l43 k44))) ?_
 refine pq (qa (.one (moC l43 k44))) ?_
 refine oE (eS (lR ?_))
 obtain rfl := sj h
 exact E_endM (r := r3) 0 (.inr rfl) (res_tmp rfl res_nil) rfl (fun x h m => rfl) (fun x => rfl)
 obtain rfl := Option.some.inj (elimR h)
 exact J_up (fun s hs => hs)
noncomputable def flags_bit (n1 : Int) : Option (Int) :=
 ((modO n1 64).bind fun n2 => ((shl1 .u64 1 (IntKind.u64.wrap n2)).bind fun n4 => some n4))
theorem flags_bit_r (m : Nat) {n1 : Int} {out : Int} (h : flags_bit n1 = some out) : RunsP E1 (m + 1) 32 [.one (iT .i64 n1)] (.fresh, [.one (iT .u64 out)]) := by
 refine fn_F rfl (by rw [E1_fn]; exact show fiOf Tryd.prog 32 = _ by unfold fiOf; rw [Tryd.func32]; unfold Tryd.f32; rfl) rfl ?_
 dsimp only
 unfold flags_bit at h
 refine lS (lO ?_)
 refine pq (qa (.one (uI 0))) ?_
 refine oN ?_
 refine pq (qm (iO n1)) ?_
 obtain ⟨n2, h3, h⟩ := bindS h
 refine pq (q_bin rfl rfl (modO_p h3) rfl) ?_
 refine pq (q_conv rfl (cv3_91_i64 _) rfl) ?_
 obtain ⟨n4, h5, h⟩ := bindS h
 refine pq (q_bin rfl rfl (p_shl h5) rfl) ?_
 refine pq (qa (.one (uI n4))) ?_
 refine oE (eS (lR ?_))
 obtain rfl := sj h
 exact eF1
noncomputable def flags_Of_b1 (n1 : Int) (s2 : Sl (Int)) (a : List (Int) × Int) : Option ((List (Int) × Int) ⊕ ((List (Int)) ⊕ (List (Int)))) :=
 match a with
 | (l53, n54) => (if n54 < ((s2.l.length : Nat) : Int) then ((atS 1 s2 n54).bind fun n59 => (if n59 ≥ 0 then (if n59 < n1 then (if n59 < 4096 then ((divO .i64 n59 64).bind fun n71 => ((atL l53 n71).bind fun n75 => ((flags_bit n59).bind fun n77 => some (.inl ((l53.set n71.toNat (orI .u64 n75 n77)), (IntKind.i64.wrap (n54 + 1))))))) else some (.inl (l53, (IntKind.i64.wrap (n54 + 1))))) else some (.inl (l53, (IntKind.i64.wrap (n54 + 1))))) else some (.inl (l53, (IntKind.i64.wrap (n54 + 1)))))) else some (.inr (.inl l53)))
noncomputable def flags_Of (n1 : Int) (s2 : Sl (Int)) : Option (List (Int)) :=
 ((flags_New n1).bind fun s4 => ((loopO (flags_Of_b1 n1 s2) (s4, 0)).bind (Sum.elim (fun l78 => some l78) (fun u => some u))))
theorem flags_Of_r (m : Nat) {n1 : Int} {s2 : Sl (Int)} {out : List (Int)} (h : flags_Of n1 s2 = some out) : RunsP E1 (m + 3) 17 [.one (iT .i64 n1), .one (Sl.t r3 s2)] (.own, [.one (.s true 1 ((out).map r66))]) := by
 refine fn_O rfl (by rw [E1_fn]; exact show fiOf Tryd.prog 17 = _ by unfold fiOf; rw [Tryd.func17]; unfold Tryd.f17; rfl) rfl ?_
 dsimp only
 unfold flags_Of at h
 refine lS (lO ?_)
 refine pq (qa (.one nC)) ?_
 refine oN ?_
 refine pq (qm (iO n1)) ?_
 obtain ⟨s4, h3, h⟩ := bindS h
 refine ol_new rfl rfl rfl (q_callO (args := [iO n1]) (flags_New_r (m + 0) h3) rfl rfl (vw_cons (vd_one vc_v) vw_nil) rfl) (fun k5 => ?_)
 refine pq (qa (.one (.own k5 0 (s4).length))) ?_
 refine oE (eS (lS (lS (lO ?_))))
 refine pq (qm (.one (sF r3 s2))) ?_
 refine pq (q_lenS rfl ty51 rfl rfl rfl rfl) ?_
 refine pq (qm (iO 0)) ?_
 refine oE (eS (lB ?_))
 let S1 : (List (Int) × Int) → Nat → (Nat → D) → Nat → D := fun a kt g => ups g [(0, iO n1), (5, .one (.own kt 0 (a.1).length)), (10, .one (sF r3 s2)), (11, .one (iI ((s2.l.length : Nat) : Int))), (12, .one (iI a.2))]
 let SL1 : (List (Int) × Int) → Nat → BL := fun a kt => ([[(kt, 1, (a.1).map (rowC r66))]] : BL)
 let G1 : (List (Int)) → Ex → St → Prop := fun u => endQ E1 [.tmp 4] (.own, [.one (.s true 1 ((u).map r66))])
 let Sx1 : (List (Int)) → Nat → (Nat → D) → Nat → D := fun a kt g => ups g [(5, .one (.own kt 0 (a).length))]
 let SLx1 : (List (Int)) → Nat → BL := fun a kt => ([[(kt, 1, (a).map (rowC r66))]] : BL)
 let J1 : ((List (Int)) ⊕ (List (Int))) → Ex → St → Prop := JX 38 0 Sx1 SLx1 G1
 refine L_loopS (flags_Of_b1 n1 s2) S1 SL1 J1 JX_n (s4, 0) h k5 (ups_self ⟨rfl, rfl, rfl, rfl, rfl, trivial⟩) [0] (by decide) rfl ?_ ?_
 rintro ⟨l53, n54⟩ k55 g out h
 change flags_Of_b1 n1 s2 (l53, n54) = some out at h
 unfold flags_Of_b1 at h
 refine lS (lO ?_)
 by_cases c56 : n54 < ((s2.l.length : Nat) : Int)
 replace h := ifT c56 h
 refine pq (qb (p_lss_tZ c56)) ?_
 refine oE (eS (lS (cT rfl (lK (eS (lS (lB (lS (lO ?_)))))))))
 obtain ⟨n59, h58, h⟩ := bindS h
 obtain ⟨h58a, h58b, h58⟩ := atS_some h58
 refine pq (q_ixS rfl rfl h58a h58 (el51.trans (congrArg some h58b.symm))) ?_
 refine pq (q_loadI (v := iO n59) rfl sz3 (map_get h58) rfl rfl) ?_
 refine pq (qa (iO n59)) ?_
 refine oN ?_
 refine pq (qm (iO n59)) ?_
 by_cases c60 : n59 ≥ 0
 replace h := ifT c60 h
 refine pq (qb (p_geq_tZ c60)) ?_
 refine pq (qm bt) ?_
 refine pq (qm (iO n59)) ?_
 refine pq (qm (iO n1)) ?_
 by_cases c61 : n59 < n1
 replace h := ifT c61 h
 refine pq (qb (p_lss_tZ c61)) ?_
 refine pq (qpt bt) ?_
 refine pq (qm bt) ?_
 refine pq (qm (iO n59)) ?_
 by_cases c62 : n59 < 4096
 replace h := ifT c62 h
 refine pq (qb (p_lss_tZ c62)) ?_
 refine pq (qpt bt) ?_
 refine oE (eS (cT rfl ?_))
 refine L_norm (L2 := ([[(k55, 1, (l53).map (rowC r66))]] : BL)) [0] (by decide) rfl ?_
 refine L_turn 10 rfl [[], [], [], [], [], [], [], [], [], [k55]] [(false, []), (false, []), (false, []), (false, []), (false, []), (false, []), (false, []), (false, []), (false, []), (false, [])] [[1, 2, 5, 6], [0, 5, 6], [0, 5, 6], [5, 6], [5, 6], [0, 1, 2, 3, 4], [0, 1, 2, 3, 4], [], [], []] (by kernel_rfl) (by kernel_rfl) (by kernel_rfl) ?_ (fun bb63 hlt hnd => ?_)
 intro bb63 hlt hnd
 exact ⟨⟨djE, ⟨djE, ⟨djE, ⟨djE, ⟨djE, ⟨djE, ⟨djE, ⟨djE, ⟨djE, ⟨djN, trivial⟩⟩⟩⟩⟩⟩⟩⟩⟩⟩, (ltO_cons ltK_nil (ltO_cons ltK_nil (ltO_cons ltK_nil (ltO_cons ltK_nil (ltO_cons ltK_nil (ltO_cons ltK_nil (ltO_cons ltK_nil (ltO_cons ltK_nil (ltO_cons ltK_nil (ltO_cons (ltK_cons (key_lt hlt 0 rfl) ltK_nil) ltO_nil))))))))))⟩
 refine tq [] rfl (hm0 rfl) (qm (.one (.own k55 0 (l53).length))) ?_
 refine tq [] rfl (hm0 rfl) (qm (iO n59)) ?_
 obtain ⟨n71, h72, h⟩ := bindS h
 refine tq [] rfl (hm0 rfl) (q_bin rfl rfl (divO_p h72) rfl) ?_
 obtain ⟨n75, h74, h⟩ := bindS h
 obtain ⟨h74a, h74⟩ := atL_some h74
 refine tq [0] rfl (hm0 rfl) (q_ixO 0 rfl rfl h74a h74 rfl el27) ?_
 refine tq [0] rfl (hm0 rfl) (q_loadP (v := .one (uI n75)) 0 rfl sz66 rfl (map_get h74) rfl rfl) ?_
 refine tq [] rfl (hm0 rfl) (qm (iO n59)) ?_
 obtain ⟨n77, h76, h⟩ := bindS h
 refine tq [] rfl (hm0 rfl) (qc (.one (uI n77)) [iO n59] (flags_bit_r (m + 1) h76) (vw_cons (vd_one vc_v) vw_nil)) ?_
 refine tq [] rfl (hm0 rfl) (q_bin rfl rfl (p_or _ _ _ _ _ _ _) rfl) ?_
 refine tq [0] rfl (hm0 rfl) (q_ixO 0 rfl rfl h74a h74 rfl el27) ?_
 refine tn_wr rfl rfl [0] (by decide) rfl (hm0 rfl) rfl (q_store (e' := rowC r66 (orI .u64 n75 n77)) (es' := ((l53.set n71.toNat (orI .u64 n75 n77))).map (rowC r66)) 0 rfl rfl rfl sz66 rfl rfl (map_get h74) rfl map_set) (q := 0) rfl rfl ?_
 refine tn_re 5 (v := .one (.own k55 0 ((l53.set n71.toNat (orI .u64 n75 n77))).length)) (Eq.trans (b := .one (.own k55 0 (l53).length)) rfl (congrArg D.one own_setC)) ?_
 refine tn_re 27 (v := .one (.own k55 0 ((l53.set n71.toNat (orI .u64 n75 n77))).length)) (Eq.trans (b := .one (.own k55 0 (l53).length)) rfl (congrArg D.one own_setC)) ?_
 refine tn_end (bN (eS (lO ?_)))
 refine pq (qb p_addY) ?_
 refine pq (qm (iO (IntKind.i64.wrap (n54 + 1)))) ?_
 refine oE ?_
 obtain rfl := sj h
 exact E_next k55 (ups_self ⟨rfl, rfl, rfl, rfl, rfl, trivial⟩) [0] (by decide) rfl
 replace h := ifF c62 h
 refine pq (qb (p_lss_fZ c62)) ?_
 refine pq (qpt bf) ?_
 refine oE (eS (cF rfl (lK (bN (eS (lO ?_))))))
 refine pq (qb p_addY) ?_
 refine pq (qm (iO (IntKind.i64.wrap (n54 + 1)))) ?_
 refine oE ?_
 obtain rfl := sj h
 exact E_next k55 (ups_self ⟨rfl, rfl, rfl, rfl, rfl, trivial⟩) [0] (by decide) rfl
 replace h := ifF c61 h
 refine pq (qb (p_lss_fZ c61)) ?_
 refine pq (qpt bf) ?_
 refine pq (qm bf) ?_
 iterate 2 refine os ?_
 refine pq (qpf bf) ?_
 refine oE (eS (cF rfl (lK (bN (eS (lO ?_))))))
 refine pq (qb p_addY) ?_
 refine pq (qm (iO (IntKind.i64.wrap (n54 + 1)))) ?_
 refine oE ?_
 obtain rfl := sj h
 exact E_next k55 (ups_self ⟨rfl, rfl, rfl, rfl, rfl, trivial⟩) [0] (by decide) rfl
 replace h := ifF c60 h
 refine pq (qb (p_geq_fZ c60)) ?_
 refine pq (qm bf) ?_
 iterate 3 refine os ?_
 refine pq (qpf bf) ?_
 refine pq (qm bf) ?_
 iterate 2 refine os ?_
 refine pq (qpf bf) ?_
 refine oE (eS (cF rfl (lK (bN (eS (lO ?_))))))
 refine pq (qb p_addY) ?_
 refine pq (qm (iO (IntKind.i64.wrap (n54 + 1)))) ?_
 refine oE ?_
 obtain rfl := sj h
 exact E_next k55 (ups_self ⟨rfl, rfl, rfl, rfl, rfl, trivial⟩) [0] (by decide) rfl
 replace h := ifF c56 h
 refine pq (qb (p_lss_fZ c56)) ?_
 refine oE (eS (lS (cF rfl (L_exit ?_))))
 refine E_seqX ?_
 obtain rfl := sj h
 refine E_out ?_
 exact (E_exit k55 (ups_self ⟨rfl, trivial⟩) [0] (by decide) rfl)
 rintro (l78 | u) h
 refine J_x (fun k79 g => ?_)
 replace h := elimL h
 refine bH (eS (lS (lO ?_)))
 refine pq (qm (.one (.own k79 0 (l78).length))) ?_
 refine pq (qa (.one (.own k79 0 (l78).length))) ?_
 refine oE (eS (lR ?_))
 obtain rfl := sj h
 exact E_endO (r := r66) 0 (.inr rfl) (res_tmp rfl res_nil) rfl (fun x h m => rfl) (fun x => rfl)
 obtain rfl := Option.some.inj (elimR h)
 exact J_up (fun s hs => hs)
noncomputable def devec_Of_b1 (s2 : Sl (Int × Int)) (_a : Unit) : Option (Unit ⊕ (Unit ⊕ (Int × Sl (Int) × Sl (Int)))) :=
 (if (0 : Int) < ((s2.l.length : Nat) : Int) then ((atS 2 s2 0).bind fun (n32, n33) => ((atS 1 (⟨false, 0, []⟩ : Sl (Int)) n32).bind fun n37 => none)) else some (.inr (.inl ())))
noncomputable def devec_Of_b2 (s2 : Sl (Int × Int)) (_a : Unit) : Option (Unit ⊕ (Unit ⊕ (Int × Sl (Int) × Sl (Int)))) :=
 (if (0 : Int) < ((s2.l.length : Nat) : Int) then ((atS 2 s2 0).bind fun (n55, n56) => ((atS 1 (⟨false, 0, []⟩ : Sl (Int)) n55).bind fun n60 => none)) else some (.inr (.inl ())))
noncomputable def devec_Of_b3 (s2 : Sl (Int × Int)) (_a : Unit) : Option (Unit ⊕ (Unit ⊕ (Int × Sl (Int) × Sl (Int)))) :=
 (if (0 : Int) < ((s2.l.length : Nat) : Int) then ((atS 2 s2 0).bind fun (n85, n86) => ((atS 1 (⟨false, 0, []⟩ : Sl (Int)) n85).bind fun n90 => none)) else some (.inr (.inl ())))
noncomputable def devec_Of_b4 (s2 : Sl (Int × Int)) (_a : Unit) : Option (Unit ⊕ (Unit ⊕ (Int × Sl (Int) × Sl (Int)))) :=
 (if (0 : Int) < ((s2.l.length : Nat) : Int) then ((atS 2 s2 0).bind fun (n108, n109) => ((atS 1 (⟨false, 0, []⟩ : Sl (Int)) n108).bind fun n113 => none)) else some (.inr (.inl ())))
noncomputable def devec_Of_b5 (s2 : Sl (Int × Int)) (a : Int × List (Int)) : Option ((Int × List (Int)) ⊕ ((List (Int)) ⊕ (Int × Sl (Int) × Sl (Int)))) :=
 match a with
 | (n155, l156) => (if n155 < ((s2.l.length : Nat) : Int) then ((atS 2 s2 n155).bind fun (n161, n162) => ((atL l156 n161).bind fun n166 => some (.inl ((IntKind.i64.wrap (n155 + 1)), (l156.set n161.toNat n162))))) else some (.inr (.inl l156)))
noncomputable def devec_Of_b6 (s2 : Sl (Int × Int)) (a : Int × List (Int)) : Option ((Int × List (Int)) ⊕ ((List (Int)) ⊕ (Int × Sl (Int) × Sl (Int)))) :=
 match a with
 | (n195, l196) => (if n195 < ((s2.l.length : Nat) : Int) then ((atS 2 s2 n195).bind fun (n201, n202) => ((atL l196 n201).bind fun n206 => some (.inl ((IntKind.i64.wrap (n195 + 1)), (l196.set n201.toNat n202))))) else some (.inr (.inl l196)))
noncomputable def devec_Of (a0 : Int × (Sl (Int × Int))) : Option ((Int × Sl (Int) × Sl (Int))) :=
 match a0 with
 | (n1, s2) => ((spvec_Right (n1, s2)).bind fun b6 => (if b6 = true then (if n1 < 0 then ((spvec_Places (n1, s2)).bind fun s12 => (match s12 with | [] => ((flags_Of n1 (⟨false, 0, []⟩ : Sl (Int))).bind fun s19 => ((loopO (devec_Of_b1 s2) ()).bind (Sum.elim (fun _ => some (0, (⟨true, 1, s19⟩ : Sl (Int)), (⟨false, 0, []⟩ : Sl (Int)))) (fun u => some u)))) | y13 :: t14 => ((flags_Of n1 (⟨true, 1, (y13 :: t14)⟩ : Sl (Int))).bind fun s42 => ((loopO (devec_Of_b2 s2) ()).bind (Sum.elim (fun _ => some (0, (⟨true, 1, s42⟩ : Sl (Int)), (⟨false, 0, []⟩ : Sl (Int)))) (fun u => some u)))))) else (if n1 > 4096 then ((spvec_Places (n1, s2)).bind fun s65 => (match s65 with | [] => ((flags_Of n1 (⟨false, 0, []⟩ : Sl (Int))).bind fun s72 => ((loopO (devec_Of_b3 s2) ()).bind (Sum.elim (fun _ => some (0, (⟨true, 1, s72⟩ : Sl (Int)), (⟨false, 0, []⟩ : Sl (Int)))) (fun u => some u)))) | y66 :: t67 => ((flags_Of n1 (⟨true, 1, (y66 :: t67)⟩ : Sl (Int))).bind fun s95 => ((loopO (devec_Of_b4 s2) ()).bind (Sum.elim (fun _ => some (0, (⟨true, 1, s95⟩ : Sl (Int)), (⟨false, 0, []⟩ : Sl (Int)))) (fun u => some u)))))) else ((flags_New n1).bind fun s120 => ((lenOk n1).bind fun _ => ((spvec_Places (n1, s2)).bind fun s126 => (match s126 with | [] => ((flags_Of n1 (⟨false, 0, []⟩ : Sl (Int))).bind fun s133 => ((loopO (devec_Of_b5 s2) (0, (List.replicate n1.toNat (0 : Int)))).bind (Sum.elim (fun l167 => some (n1, (⟨true, 1, s133⟩ : Sl (Int)), (⟨true, 1, l167⟩ : Sl (Int)))) (fun u => some u)))) | y127 :: t128 => ((flags_Of n1 (⟨true, 1, (y127 :: t128)⟩ : Sl (Int))).bind fun s173 => ((loopO (devec_Of_b6 s2) (0, (List.replicate n1.toNat (0 : Int)))).bind (Sum.elim (fun l207 => some (n1, (⟨true, 1, s173⟩ : Sl (Int)), (⟨true, 1, l207⟩ : Sl (Int)))) (fun u => some u)))))))))) else some (0, (⟨false, 0, []⟩ : Sl (Int)), (⟨false, 0, []⟩ : Sl (Int)))))
theorem devec_Of_r (m : Nat) {a0 : Int × (Sl (Int × Int))} {out : (Int × Sl (Int) × Sl (Int))} (h : devec_Of a0 = some out) : RunsP E1 (m + 5) 5 [.agg (r24 a0)] (.fresh, [.agg (r29 out)]) := by
 obtain ⟨n1, s2⟩ := a0
 refine fn_F rfl (by rw [E1_fn]; exact show fiOf Tryd.prog 5 = _ by unfold fiOf; rw [Tryd.func5]; unfold Tryd.f5; rfl) rfl ?_
 dsimp only
 unfold devec_Of at h
 refine lS (lO ?_)
 refine ol_new rfl rfl rfl (q_box ty25 rfl (cs := [iI n1, sF r44 s2]) rfl rfl) (fun k3 => ?_)
 refine ol_new rfl rfl rfl (q_alloc ty30 (row := [iI 0, nC, nC]) rfl rfl) (fun k4 => ?_)
 refine oE (eS (lS (lS (lO ?_))))
 refine pq (ql (.agg [iI n1, sF r44 s2]) 1 sz25) ?_
 obtain ⟨b6, h5, h⟩ := bindS h
 refine pq (qc (bO b6) [.agg [iI n1, sF r44 s2]] (spvec_Right_r (m + 2) h5) (vw_cons (vd_agg (vc_cons vc_v (vc_cons vc_s vc_nil))) vw_nil)) ?_
 rcases b6 with _ | _
 replace h := wF h
 refine pq (q_not rfl) ?_
 refine oE (eS (cT rfl (lS (lO ?_))))
 refine pq (q_build (cs := [iI 0, nC, nC]) ty30 rfl pl30 rfl) ?_
 refine ow [[iI 0, nC, nC]] 0 sz30 ?_
 refine oE (eS (lR (eR ?_)))
 obtain rfl := sj h
 exact E_endF (.inr rfl) (res_cell (d := .agg [iI 0, nC, nC]) 0 rfl sz30 rfl rfl rfl rfl res_nil) (vw_cons (vd_agg (vc_cons vc_v (vc_cons vc_s (vc_cons vc_s vc_nil)))) vw_nil) oG rfl rfl
 replace h := wT h
 refine pq (q_not rfl) ?_
 refine oE (eS (cF rfl (lK (eS (lS (lO ?_))))))
 refine pq (q_fieldP rfl fa25_0 rfl) ?_
 refine pq (ql (iO n1) 1 sz3) ?_
 refine ol_scallN (args := [iO n1]) rfl rfl rfl ax16 (by rw [E1_fn]; exact show fiOf Tryd.prog 16 = _ by unfold fiOf; rw [Tryd.func16]; unfold Tryd.f16; rfl) rfl rfl rfl ?_
 dsimp only
 refine lS (lO ?_)
 refine ol_new rfl rfl rfl (q_alloc ty30 (row := [iI 0, nC, nC]) rfl rfl) (fun k7 => ?_)
 refine oE (eS (lS (lS (lO ?_))))
 refine pq (qm (iO n1)) ?_
 by_cases c8 : n1 < 0
 replace h := ifT c8 h
 refine pq (qb (p_lss_tZ c8)) ?_
 refine pq (qm bt) ?_
 iterate 2 refine os ?_
 refine pq (qpt bt) ?_
 refine oE (eS (cT rfl (lS (lO ?_))))
 refine pq (q_build (cs := [iI 0, nC, nC]) ty30 rfl pl30 rfl) ?_
 refine ow [[iI 0, nC, nC]] 0 sz30 ?_
 refine oE (eS (lR (eR ?_)))
 refine E_call (v := .agg [iI 0, nC, nC]) (.inr rfl) (res_cell (d := .agg [iI 0, nC, nC]) 0 rfl sz30 rfl rfl rfl rfl res_nil) rfl ?_
 refine ol_new rfl rfl rfl (q_alloc ty30 (row := [iI 0, nC, nC]) rfl rfl) (fun k9 => ?_)
 refine ow [[iI 0, nC, nC]] 0 sz30 ?_
 refine oE (eS (lS ?_))
 obtain ⟨s12, h11, h⟩ := bindS h
 rcases s12 with _ | ⟨y13, t14⟩
 dsimp only at h
 refine L_norm (L2 := ([[(k9, 3, [[iI 0, nC, nC]])], [(k4, 3, [[iI 0, nC, nC]])], [(k3, 2, [[iI n1, sF r44 s2]])]] : BL)) [0, 2, 3] (by decide) rfl ?_
 refine L_turn 7 rfl [[], [], [], [], [], [], [k9]] [(false, []), (false, []), (false, []), (false, []), (true, []), (false, []), (false, [])] [[2, 3], [2, 3], [0, 1], [0, 1], [], [], []] (by kernel_rfl) (by kernel_rfl) (by kernel_rfl) ?_ (fun bb15 hlt hnd => ?_)
 intro bb15 hlt hnd
 exact ⟨⟨djE, ⟨djE, ⟨djE, ⟨djE, ⟨djE, ⟨djE, ⟨djN, trivial⟩⟩⟩⟩⟩⟩⟩, (ltO_cons ltK_nil (ltO_cons ltK_nil (ltO_cons ltK_nil (ltO_cons ltK_nil (ltO_cons ltK_nil (ltO_cons ltK_nil (ltO_cons (ltK_cons (key_lt hlt 0 rfl) ltK_nil) ltO_nil)))))))⟩
 refine tq [] rfl (hm0 rfl) (q_fieldP rfl fa25_0 rfl) ?_
 refine tq [2] rfl (hm0 rfl) (ql (iO n1) 0 sz3) ?_
 refine tq [2] rfl (hm0 rfl) (ql (.agg [iI n1, sF r44 s2]) 0 sz25) ?_
 refine tq [] rfl (hm0 rfl) (qc (.one nC) [.agg [iI n1, sF r44 s2]] (spvec_Places_r (m + 0) h11) (vw_cons (vd_agg (vc_cons vc_v (vc_cons vc_s vc_nil))) vw_nil)) ?_
 obtain ⟨s19, h18, h⟩ := bindS h
 refine tn_new rfl rfl rfl [] (by decide) rfl (hm0 rfl) rfl rfl (hkc (ne_new (key_lt hlt 0 rfl)) (hkc (ne_new (key_lt hlt 1 rfl)) (hkc (ne_new (key_lt hlt 2 rfl)) hkn))) (q_callO (args := [iO n1, .one nC]) (flags_Of_r (m + 1) h18) rfl rfl (vw_cons (vd_one vc_v) (vw_cons (vd_one vc_s) vw_nil)) rfl) ?_
 refine tq [] rfl (hm0 rfl) (q_fieldP rfl fa30_1 rfl) ?_
 refine tn_wr rfl rfl [1] (by decide) rfl (hm0 rfl) rfl (q_store (es' := [[iI 0, .own (bb15 + 4) 0 (s19).length, nC]]) 0 rfl rfl rfl sz27 rfl rfl rfl rfl rfl) (q := 1) rfl rfl ?_
 refine tn_end (eS (lS (lS (lO ?_))))
 refine pq (q_fieldP rfl fa25_1 rfl) ?_
 refine pq (ql (.one (sF r44 s2)) 3 sz22) ?_
 refine pq (q_lenS rfl ty22 rfl rfl rfl rfl) ?_
 refine pq (qm (iO 0)) ?_
 refine oE (eS (lB ?_))
 let S1 : Unit → Unit → (Nat → D) → Nat → D := fun a kt g => ups g [(2, .one (.ptr k4 0 0)), (3, .one (.ptr k9 0 0)), (20, .one (sF r44 s2)), (21, .one (iI ((s2.l.length : Nat) : Int))), (22, iO 0)]
 let SL1 : Unit → Unit → BL := fun a kt => ([[(k4, 3, [[iI 0, nC, nC]])], [(k9, 3, [[iI 0, .own (bb15 + 4) 0 (s19).length, nC]])], [((bb15 + 4), 1, (s19).map (rowC r66))]] : BL)
 let G1 : (Int × Sl (Int) × Sl (Int)) → Ex → St → Prop := fun u => endQ E1 [.cell 2 30] (.fresh, [.agg (r29 u)])
 let Sx1 : Unit → Unit → (Nat → D) → Nat → D := fun a kt g => ups g [(2, .one (.ptr k4 0 0)), (3, .one (.ptr k9 0 0))]
 let SLx1 : Unit → Unit → BL := fun a kt => ([[(k4, 3, [[iI 0, nC, nC]])], [(k9, 3, [[iI 0, .own (bb15 + 4) 0 (s19).length, nC]])], [((bb15 + 4), 1, (s19).map (rowC r66))]] : BL)
 let J1 : (Unit ⊕ (Int × Sl (Int) × Sl (Int))) → Ex → St → Prop := JX 35 0 Sx1 SLx1 G1
 refine L_loopS (devec_Of_b1 s2) S1 SL1 J1 JX_n () h () (ups_self ⟨rfl, rfl, rfl, rfl, rfl, trivial⟩) [2, 1, 0] (by decide) rfl ?_ ?_
 rintro _ _ g out h
 change devec_Of_b1 s2 () = some out at h
 unfold devec_Of_b1 at h
 refine lS (lO ?_)
 by_cases c29 : (0 : Int) < ((s2.l.length : Nat) : Int)
 replace h := ifT c29 h
 refine pq (qb (p_lss_tZ c29)) ?_
 refine oE (eS (lS (cT rfl (lK (eS (lS (lB (lS (lO ?_)))))))))
 obtain ⟨⟨n32, n33⟩, h31, h⟩ := bindS h
 obtain ⟨h31a, h31b, h31⟩ := atS_some h31
 refine pq (q_ixS rfl rfl h31a h31 (el22.trans (congrArg some h31b.symm))) ?_
 refine pq (q_loadI (v := .agg [iI n32, iI n33]) rfl sz45 (map_get h31) rfl rfl) ?_
 refine ol_new rfl rfl rfl (q_alloc ty45 (row := [iI 0, iI 0]) rfl rfl) (fun k34 => ?_)
 refine ow [[iI n32, iI n33]] 0 sz45 ?_
 refine oR ?_
 refine pq (q_fieldP rfl fa30_2 rfl) ?_
 refine pq (ql (.one nC) 2 sz28) ?_
 refine pq (q_fieldP rfl fa45_0 rfl) ?_
 refine pq (ql (iO n32) 0 sz3) ?_
 refine pq (q_fieldP rfl fa45_1 rfl) ?_
 refine pq (ql (iO n33) 0 sz2) ?_
 obtain ⟨n37, h36, h⟩ := bindS h
 exact (atS_nil h36).elim
 replace h := ifF c29 h
 refine pq (qb (p_lss_fZ c29)) ?_
 refine oE (eS (lS (cF rfl (L_exit ?_))))
 refine E_seqX ?_
 obtain rfl := sj h
 refine E_out ?_
 exact (E_exit () (ups_self ⟨rfl, rfl, trivial⟩) [0, 1, 2] (by decide) rfl)
 rintro (_ | u) h
 refine J_x (fun kt g => ?_)
 replace h := elimL h
 refine bH (eS (lS (lO ?_)))
 refine pq (ql (.agg [iI 0, .own (bb15 + 4) 0 (s19).length, nC]) 1 sz30) ?_
 refine ow [[iI 0, .own (bb15 + 4) 0 (s19).length, nC]] 0 sz30 ?_
 refine oE (eS (lR ?_))
 obtain rfl := sj h
 exact E_endF (.inr rfl) (res_cell (d := .agg [iI 0, .own (bb15 + 4) 0 (s19).length, nC]) 0 rfl sz30 rfl rfl rfl rfl res_nil) (vw_cons (vd_agg (vc_cons vc_v (vc_cons (vc_own (r := r66) 2 rfl (fun x h m => rfl)) (vc_cons vc_s vc_nil)))) vw_nil) oG rfl rfl
 obtain rfl := Option.some.inj (elimR h)
 exact J_up (fun s hs => hs)
 dsimp only at h
 refine L_norm (L2 := ([[(k9, 3, [[iI 0, nC, nC]])], [(k4, 3, [[iI 0, nC, nC]])], [(k3, 2, [[iI n1, sF r44 s2]])]] : BL)) [0, 2, 3] (by decide) rfl ?_
 refine L_turn 7 rfl [[], [], [], [], [], [], [k9]] [(false, []), (false, []), (false, []), (true, []), (true, []), (false, []), (false, [])] [[2, 3], [2, 3], [0, 1], [0, 1], [], [], []] (by kernel_rfl) (by kernel_rfl) (by kernel_rfl) ?_ (fun bb38 hlt hnd => ?_)
 intro bb38 hlt hnd
 exact ⟨⟨djE, ⟨djE, ⟨djE, ⟨djE, ⟨djE, ⟨djE, ⟨djN, trivial⟩⟩⟩⟩⟩⟩⟩, (ltO_cons ltK_nil (ltO_cons ltK_nil (ltO_cons ltK_nil (ltO_cons ltK_nil (ltO_cons ltK_nil (ltO_cons ltK_nil (ltO_cons (ltK_cons (key_lt hlt 0 rfl) ltK_nil) ltO_nil)))))))⟩
 refine tq [] rfl hmn (q_fieldP rfl fa25_0 rfl) ?_
 refine tq [2] rfl (hmc (nin_cons (ne_new (key_lt hlt 2 rfl)) nin_nil) hmn) (ql (iO n1) 0 sz3) ?_
 refine tq [2] rfl (hm0 rfl) (ql (.agg [iI n1, sF r44 s2]) 0 sz25) ?_
 refine tn_new rfl rfl rfl [] (by decide) rfl (hm0 rfl) rfl rfl (hkc (ne_new (key_lt hlt 0 rfl)) (hkc (ne_new (key_lt hlt 1 rfl)) (hkc (ne_new (key_lt hlt 2 rfl)) hkn))) (q_callO (r := r3) (l := (y13 :: t14)) (args := [.agg [iI n1, sF r44 s2]]) (spvec_Places_r (m + 0) h11) rfl rfl (vw_cons (vd_agg (vc_cons vc_v (vc_cons vc_s vc_nil))) vw_nil) rfl) ?_
 obtain ⟨s42, h41, h⟩ := bindS h
 refine tn_new rfl rfl rfl [0] (by decide) rfl (hm0 rfl) rfl rfl (hkc (ne_add rfl) (hkc (ne_new (key_lt hlt 0 rfl)) (hkc (ne_new (key_lt hlt 1 rfl)) (hkc (ne_new (key_lt hlt 2 rfl)) hkn)))) (q_callO (args := [iO n1, .one (.own (bb38 + 3) 0 ((y13 :: t14)).length)]) (flags_Of_r (m + 1) h41) rfl rfl (vw_cons (vd_one vc_v) (vw_cons (vd_one (vc_own (r := r3) 0 rfl (fun x h m => rfl))) vw_nil)) rfl) ?_
 refine tq [] rfl (hm0 rfl) (q_fieldP rfl fa30_1 rfl) ?_
 refine tn_wr rfl rfl [2] (by decide) rfl (hm0 rfl) rfl (q_store (es' := [[iI 0, .own (bb38 + 4) 0 (s42).length, nC]]) 0 rfl rfl rfl sz27 rfl rfl rfl rfl rfl) (q := 2) rfl rfl ?_
 refine tn_end (eS (lS (lS (lO ?_))))
 refine pq (q_fieldP rfl fa25_1 rfl) ?_
 refine pq (ql (.one (sF r44 s2)) 4 sz22) ?_
 refine pq (q_lenS rfl ty22 rfl rfl rfl rfl) ?_
 refine pq (qm (iO 0)) ?_
 refine oE (eS (lB ?_))
 let S2 : Unit → Unit → (Nat → D) → Nat → D := fun a kt g => ups g [(2, .one (.ptr k4 0 0)), (3, .one (.ptr k9 0 0)), (20, .one (sF r44 s2)), (21, .one (iI ((s2.l.length : Nat) : Int))), (22, iO 0)]
 let SL2 : Unit → Unit → BL := fun a kt => ([[(k4, 3, [[iI 0, nC, nC]])], [(k9, 3, [[iI 0, .own (bb38 + 4) 0 (s42).length, nC]])], [((bb38 + 4), 1, (s42).map (rowC r66))]] : BL)
 let G2 : (Int × Sl (Int) × Sl (Int)) → Ex → St → Prop := fun u => endQ E1 [.cell 2 30] (.fresh, [.agg (r29 u)])
 let Sx2 : Unit → Unit → (Nat → D) → Nat → D := fun a kt g => ups g [(2, .one (.ptr k4 0 0)), (3, .one (.ptr k9 0 0))]
 let SLx2 : Unit → Unit → BL := fun a kt => ([[(k4, 3, [[iI 0, nC, nC]])], [(k9, 3, [[iI 0, .own (bb38 + 4) 0 (s42).length, nC]])], [((bb38 + 4), 1, (s42).map (rowC r66))]] : BL)
 let J2 : (Unit ⊕ (Int × Sl (Int) × Sl (Int))) → Ex → St → Prop := JX 35 0 Sx2 SLx2 G2
 refine L_loopS (devec_Of_b2 s2) S2 SL2 J2 JX_n () h () (ups_self ⟨rfl, rfl, rfl, rfl, rfl, trivial⟩) [3, 2, 0] (by decide) rfl ?_ ?_
 rintro _ _ g out h
 change devec_Of_b2 s2 () = some out at h
 unfold devec_Of_b2 at h
 refine lS (lO ?_)
 by_cases c52 : (0 : Int) < ((s2.l.length : Nat) : Int)
 replace h := ifT c52 h
 refine pq (qb (p_lss_tZ c52)) ?_
 refine oE (eS (lS (cT rfl (lK (eS (lS (lB (lS (lO ?_)))))))))
 obtain ⟨⟨n55, n56⟩, h54, h⟩ := bindS h
 obtain ⟨h54a, h54b, h54⟩ := atS_some h54
 refine pq (q_ixS rfl rfl h54a h54 (el22.trans (congrArg some h54b.symm))) ?_
 refine pq (q_loadI (v := .agg [iI n55, iI n56]) rfl sz45 (map_get h54) rfl rfl) ?_
 refine ol_new rfl rfl rfl (q_alloc ty45 (row := [iI 0, iI 0]) rfl rfl) (fun k57 => ?_)
 refine ow [[iI n55, iI n56]] 0 sz45 ?_
 refine oR ?_
 refine pq (q_fieldP rfl fa30_2 rfl) ?_
 refine pq (ql (.one nC) 2 sz28) ?_
 refine pq (q_fieldP rfl fa45_0 rfl) ?_
 refine pq (ql (iO n55) 0 sz3) ?_
 refine pq (q_fieldP rfl fa45_1 rfl) ?_
 refine pq (ql (iO n56) 0 sz2) ?_
 obtain ⟨n60, h59, h⟩ := bindS h
 exact (atS_nil h59).elim
 replace h := ifF c52 h
 refine pq (qb (p_lss_fZ c52)) ?_
 refine oE (eS (lS (cF rfl (L_exit ?_))))
 refine E_seqX ?_
 obtain rfl := sj h
 refine E_out ?_
 exact (E_exit () (ups_self ⟨rfl, rfl, trivial⟩) [0, 1, 2] (by decide) rfl)
 rintro (_ | u) h
 refine J_x (fun kt g => ?_)
 replace h := elimL h
 refine bH (eS (lS (lO ?_)))
 refine pq (ql (.agg [iI 0, .own (bb38 + 4) 0 (s42).length, nC]) 1 sz30) ?_
 refine ow [[iI 0, .own (bb38 + 4) 0 (s42).length, nC]] 0 sz30 ?_
 refine oE (eS (lR ?_))
 obtain rfl := sj h
 exact E_endF (.inr rfl) (res_cell (d := .agg [iI 0, .own (bb38 + 4) 0 (s42).length, nC]) 0 rfl sz30 rfl rfl rfl rfl res_nil) (vw_cons (vd_agg (vc_cons vc_v (vc_cons (vc_own (r := r66) 2 rfl (fun x h m => rfl)) (vc_cons vc_s vc_nil)))) vw_nil) oG rfl rfl
 obtain rfl := Option.some.inj (elimR h)
 exact J_up (fun s hs => hs)
 replace h := ifF c8 h
 refine pq (qb (p_lss_fZ c8)) ?_
 refine pq (qm bf) ?_
 refine pq (qm (iO n1)) ?_
 by_cases c61 : n1 > 4096
 replace h := ifT c61 h
 refine pq (qb (p_gtr_tZ c61)) ?_
 refine pq (qpf bt) ?_
 refine oE (eS (cT rfl (lS (lO ?_))))
 refine pq (q_build (cs := [iI 0, nC, nC]) ty30 rfl pl30 rfl) ?_
 refine ow [[iI 0, nC, nC]] 0 sz30 ?_
 refine oE (eS (lR (eR ?_)))
 refine E_call (v := .agg [iI 0, nC, nC]) (.inr rfl) (res_cell (d := .agg [iI 0, nC, nC]) 0 rfl sz30 rfl rfl rfl rfl res_nil) rfl ?_
 refine ol_new rfl rfl rfl (q_alloc ty30 (row := [iI 0, nC, nC]) rfl rfl) (fun k62 => ?_)
 refine ow [[iI 0, nC, nC]] 0 sz30 ?_
 refine oE (eS (lS ?_))
 obtain ⟨s65, h64, h⟩ := bindS h
 rcases s65 with _ | ⟨y66, t67⟩
 dsimp only at h
 refine L_norm (L2 := ([[(k62, 3, [[iI 0, nC, nC]])], [(k4, 3, [[iI 0, nC, nC]])], [(k3, 2, [[iI n1, sF r44 s2]])]] : BL)) [0, 2, 3] (by decide) rfl ?_
 refine L_turn 7 rfl [[], [], [], [], [], [], [k62]] [(false, []), (false, []), (false, []), (false, []), (true, []), (false, []), (false, [])] [[2, 3], [2, 3], [0, 1], [0, 1], [], [], []] (by kernel_rfl) (by kernel_rfl) (by kernel_rfl) ?_ (fun bb68 hlt hnd => ?_)
 intro bb68 hlt hnd
 exact ⟨⟨djE, ⟨djE, ⟨djE, ⟨djE, ⟨djE, ⟨djE, ⟨djN, trivial⟩⟩⟩⟩⟩⟩⟩, (ltO_cons ltK_nil (ltO_cons ltK_nil (ltO_cons ltK_nil (ltO_cons ltK_nil (ltO_cons ltK_nil (ltO_cons ltK_nil (ltO_cons (ltK_cons (key_lt hlt 0 rfl) ltK_nil) ltO_nil)))))))⟩
 refine tq [] rfl (hm0 rfl) (q_fieldP rfl fa25_0 rfl) ?_
 refine tq [2] rfl (hm0 rfl) (ql (iO n1) 0 sz3) ?_
 refine tq [2] rfl (hm0 rfl) (ql (.agg [iI n1, sF r44 s2]) 0 sz25) ?_
 refine tq [] rfl (hm0 rfl) (qc (.one nC) [.agg [iI n1, sF r44 s2]] (spvec_Places_r (m + 0) h64) (vw_cons (vd_agg (vc_cons vc_v (vc_cons vc_s vc_nil))) vw_nil)) ?_
 obtain ⟨s72, h71, h⟩ := bindS h
 refine tn_new rfl rfl rfl [] (by decide) rfl (hm0 rfl) rfl rfl (hkc (ne_new (key_lt hlt 0 rfl)) (hkc (ne_new (key_lt hlt 1 rfl)) (hkc (ne_new (key_lt hlt 2 rfl)) hkn))) (q_callO (args := [iO n1, .one nC]) (flags_Of_r (m + 1) h71) rfl rfl (vw_cons (vd_one vc_v) (vw_cons (vd_one vc_s) vw_nil)) rfl) ?_
 refine tq [] rfl (hm0 rfl) (q_fieldP rfl fa30_1 rfl) ?_
 refine tn_wr rfl rfl [1] (by decide) rfl (hm0 rfl) rfl (q_store (es' := [[iI 0, .own (bb68 + 4) 0 (s72).length, nC]]) 0 rfl rfl rfl sz27 rfl rfl rfl rfl rfl) (q := 1) rfl rfl ?_
 refine tn_end (eS (lS (lS (lO ?_))))
 refine pq (q_fieldP rfl fa25_1 rfl) ?_
 refine pq (ql (.one (sF r44 s2)) 3 sz22) ?_
 refine pq (q_lenS rfl ty22 rfl rfl rfl rfl) ?_
 refine pq (qm (iO 0)) ?_
 refine oE (eS (lB ?_))
 let S3 : Unit → Unit → (Nat → D) → Nat → D := fun a kt g => ups g [(2, .one (.ptr k4 0 0)), (3, .one (.ptr k62 0 0)), (20, .one (sF r44 s2)), (21, .one (iI ((s2.l.length : Nat) : Int))), (22, iO 0)]
 let SL3 : Unit → Unit → BL := fun a kt => ([[(k4, 3, [[iI 0, nC, nC]])], [(k62, 3, [[iI 0, .own (bb68 + 4) 0 (s72).length, nC]])], [((bb68 + 4), 1, (s72).map (rowC r66))]] : BL)
 let G3 : (Int × Sl (Int) × Sl (Int)) → Ex → St → Prop := fun u => endQ E1 [.cell 2 30] (.fresh, [.agg (r29 u)])
 let Sx3 : Unit → Unit → (Nat → D) → Nat → D := fun a kt g => ups g [(2, .one (.ptr k4 0 0)), (3, .one (.ptr k62 0 0))]
 let SLx3 : Unit → Unit → BL := fun a kt => ([[(k4, 3, [[iI 0, nC, nC]])], [(k62, 3, [[iI 0, .own (bb68 + 4) 0 (s72).length, nC]])], [((bb68 + 4), 1, (s72).map (rowC r66))]] : BL)
 let J3 : (Unit ⊕ (Int × Sl (Int) × Sl (Int))) → Ex → St → Prop := JX 35 0 Sx3 SLx3 G3
 refine L_loopS (devec_Of_b3 s2) S3 SL3 J3 JX_n () h () (ups_self ⟨rfl, rfl, rfl, rfl, rfl, trivial⟩) [2, 1, 0] (by decide) rfl ?_ ?_
 rintro _ _ g out h
 change devec_Of_b3 s2 () = some out at h
 unfold devec_Of_b3 at h
 refine lS (lO ?_)
 by_cases c82 : (0 : Int) < ((s2.l.length : Nat) : Int)
 replace h := ifT c82 h
 refine pq (qb (p_lss_tZ c82)) ?_
 refine oE (eS (lS (cT rfl (lK (eS (lS (lB (lS (lO ?_)))))))))
 obtain ⟨⟨n85, n86⟩, h84, h⟩ := bindS h
 obtain ⟨h84a, h84b, h84⟩ := atS_some h84
 refine pq (q_ixS rfl rfl h84a h84 (el22.trans (congrArg some h84b.symm))) ?_
 refine pq (q_loadI (v := .agg [iI n85, iI n86]) rfl sz45 (map_get h84) rfl rfl) ?_
 refine ol_new rfl rfl rfl (q_alloc ty45 (row := [iI 0, iI 0]) rfl rfl) (fun k87 => ?_)
 refine ow [[iI n85, iI n86]] 0 sz45 ?_
 refine oR ?_
 refine pq (q_fieldP rfl fa30_2 rfl) ?_
 refine pq (ql (.one nC) 2 sz28) ?_
 refine pq (q_fieldP rfl fa45_0 rfl) ?_
 refine pq (ql (iO n85) 0 sz3) ?_
 refine pq (q_fieldP rfl fa45_1 rfl) ?_
 refine pq (ql (iO n86) 0 sz2) ?_
 obtain ⟨n90, h89, h⟩ := bindS h
 exact (atS_nil h89).elim
 replace h := ifF c82 h
 refine pq (qb (p_lss_fZ c82)) ?_
 refine oE (eS (lS (cF rfl (L_exit ?_))))
 refine E_seqX ?_
 obtain rfl := sj h
 refine E_out ?_
 exact (E_exit () (ups_self ⟨rfl, rfl, trivial⟩) [0, 1, 2] (by decide) rfl)
 rintro (_ | u) h
 refine J_x (fun kt g => ?_)
 replace h := elimL h
 refine bH (eS (lS (lO ?_)))
 refine pq (ql (.agg [iI 0, .own (bb68 + 4) 0 (s72).length, nC]) 1 sz30) ?_
 refine ow [[iI 0, .own (bb68 + 4) 0 (s72).length, nC]] 0 sz30 ?_
 refine oE (eS (lR ?_))
 obtain rfl := sj h
 exact E_endF (.inr rfl) (res_cell (d := .agg [iI 0, .own (bb68 + 4) 0 (s72).length, nC]) 0 rfl sz30 rfl rfl rfl rfl res_nil) (vw_cons (vd_agg (vc_cons vc_v (vc_cons (vc_own (r := r66) 2 rfl (fun x h m => rfl)) (vc_cons vc_s vc_nil)))) vw_nil) oG rfl rfl
 obtain rfl := Option.some.inj (elimR h)
 exact J_up (fun s hs => hs)
 dsimp only at h
 refine L_norm (L2 := ([[(k62, 3, [[iI 0, nC, nC]])], [(k4, 3, [[iI 0, nC, nC]])], [(k3, 2, [[iI n1, sF r44 s2]])]] : BL)) [0, 2, 3] (by decide) rfl ?_
 refine L_turn 7 rfl [[], [], [], [], [], [], [k62]] [(false, []), (false, []), (false, []), (true, []), (true, []), (false, []), (false, [])] [[2, 3], [2, 3], [0, 1], [0, 1], [], [], []] (by kernel_rfl) (by kernel_rfl) (by kernel_rfl) ?_ (fun bb91 hlt hnd => ?_)
 intro bb91 hlt hnd
 exact ⟨⟨djE, ⟨djE, ⟨djE, ⟨djE, ⟨djE, ⟨djE, ⟨djN, trivial⟩⟩⟩⟩⟩⟩⟩, (ltO_cons ltK_nil (ltO_cons ltK_nil (ltO_cons ltK_nil (ltO_cons ltK_nil (ltO_cons ltK_nil (ltO_cons ltK_nil (ltO_cons (ltK_cons (key_lt hlt 0 rfl) ltK_nil) ltO_nil)))))))⟩
 refine tq [] rfl hmn (q_fieldP rfl fa25_0 rfl) ?_
 refine tq [2] rfl (hmc (nin_cons (ne_new (key_lt hlt 2 rfl)) nin_nil) hmn) (ql (iO n1) 0 sz3) ?_
 refine tq [2] rfl (hm0 rfl) (ql (.agg [iI n1, sF r44 s2]) 0 sz25) ?_
 refine tn_new rfl rfl rfl [] (by decide) rfl (hm0 rfl) rfl rfl (hkc (ne_new (key_lt hlt 0 rfl)) (hkc (ne_new (key_lt hlt 1 rfl)) (hkc (ne_new (key_lt hlt 2 rfl)) hkn))) (q_callO (r := r3) (l := (y66 :: t67)) (args := [.agg [iI n1, sF r44 s2]]) (spvec_Places_r (m + 0) h64) rfl rfl (vw_cons (vd_agg (vc_cons vc_v (vc_cons vc_s vc_nil))) vw_nil) rfl) ?_
 obtain ⟨s95, h94, h⟩ := bindS h
 refine tn_new rfl rfl rfl [0] (by decide) rfl (hm0 rfl) rfl rfl (hkc (ne_add rfl) (hkc (ne_new (key_lt hlt 0 rfl)) (hkc (ne_new (key_lt hlt 1 rfl)) (hkc (ne_new (key_lt hlt 2 rfl)) hkn)))) (q_callO (args := [iO n1, .one (.own (bb91 + 3) 0 ((y66 :: t67)).length)]) (flags_Of_r (m + 1) h94) rfl rfl (vw_cons (vd_one vc_v) (vw_cons (vd_one (vc_own (r := r3) 0 rfl (fun x h m => rfl))) vw_nil)) rfl) ?_
 refine tq [] rfl (hm0 rfl) (q_fieldP rfl fa30_1 rfl) ?_
 refine tn_wr rfl rfl [2] (by decide) rfl (hm0 rfl) rfl (q_store (es' := [[iI 0, .own (bb91 + 4) 0 (s95).length, nC]]) 0 rfl rfl rfl sz27 rfl rfl rfl rfl rfl) (q := 2) rfl rfl ?_
 refine tn_end (eS (lS (lS (lO ?_))))
 refine pq (q_fieldP rfl fa25_1 rfl) ?_
 refine pq (ql (.one (sF r44 s2)) 4 sz22) ?_
 refine pq (q_lenS rfl ty22 rfl rfl rfl rfl) ?_
 refine pq (qm (iO 0)) ?_
 refine oE (eS (lB ?_))
 let S4 : Unit → Unit → (Nat → D) → Nat → D := fun a kt g => ups g [(2, .one (.ptr k4 0 0)), (3, .one (.ptr k62 0 0)), (20, .one (sF r44 s2)), (21, .one (iI ((s2.l.length : Nat) : Int))), (22, iO 0)]
 let SL4 : Unit → Unit → BL := fun a kt => ([[(k4, 3, [[iI 0, nC, nC]])], [(k62, 3, [[iI 0, .own (bb91 + 4) 0 (s95).length, nC]])], [((bb91 + 4), 1, (s95).map (rowC r66))]] : BL)
 let G4 : (Int × Sl (Int) × Sl (Int)) → Ex → St → Prop := fun u => endQ E1 [.cell 2 30] (.fresh, [.agg (r29 u)])
 let Sx4 : Unit → Unit → (Nat → D) → Nat → D := fun a kt g => ups g [(2, .one (.ptr k4 0 0)), (3, .one (.ptr k62 0 0))]
 let SLx4 : Unit → Unit → BL := fun a kt => ([[(k4, 3, [[iI 0, nC, nC]])], [(k62, 3, [[iI 0, .own (bb91 + 4) 0 (s95).length, nC]])], [((bb91 + 4), 1, (s95).map (rowC r66))]] : BL)
 let J4 : (Unit ⊕ (Int × Sl (Int) × Sl (Int))) → Ex → St → Prop := JX 35 0 Sx4 SLx4 G4
 refine L_loopS (devec_Of_b4 s2) S4 SL4 J4 JX_n () h () (ups_self ⟨rfl, rfl, rfl, rfl, rfl, trivial⟩) [3, 2, 0] (by decide) rfl ?_ ?_
 rintro _ _ g out h
 change devec_Of_b4 s2 () = some out at h
 unfold devec_Of_b4 at h
 refine lS (lO ?_)
 by_cases c105 : (0 : Int) < ((s2.l.length : Nat) : Int)
 replace h := ifT c105 h
 refine pq (qb (p_lss_tZ c105)) ?_
 refine oE (eS (lS (cT rfl (lK (eS (lS (lB (lS (lO ?_)))))))))
 obtain ⟨⟨n108, n109⟩, h107, h⟩ := bindS h
 obtain ⟨h107a, h107b, h107⟩ := atS_some h107
 refine pq (q_ixS rfl rfl h107a h107 (el22.trans (congrArg some h107b.symm))) ?_
 refine pq (q_loadI (v := .agg [iI n108, iI n109]) rfl sz45 (map_get h107) rfl rfl) ?_
 refine ol_new rfl rfl rfl (q_alloc ty45 (row := [iI 0, iI 0]) rfl rfl) (fun k110 => ?_)
 refine ow [[iI n108, iI n109]] 0 sz45 ?_
 refine oR ?_
 refine pq (q_fieldP rfl fa30_2 rfl) ?_
 refine pq (ql (.one nC) 2 sz28) ?_
 refine pq (q_fieldP rfl fa45_0 rfl) ?_
 refine pq (ql (iO n108) 0 sz3) ?_
 refine pq (q_fieldP rfl fa45_1 rfl) ?_
 refine pq (ql (iO n109) 0 sz2) ?_
 obtain ⟨n113, h112, h⟩ := bindS h
 exact (atS_nil h112).elim
 replace h := ifF c105 h
 refine pq (qb (p_lss_fZ c105)) ?_
 refine oE (eS (lS (cF rfl (L_exit ?_))))
 refine E_seqX ?_
 obtain rfl := sj h
 refine E_out ?_
 exact (E_exit () (ups_self ⟨rfl, rfl, trivial⟩) [0, 1, 2] (by decide) rfl)
 rintro (_ | u) h
 refine J_x (fun kt g => ?_)
 replace h := elimL h
 refine bH (eS (lS (lO ?_)))
 refine pq (ql (.agg [iI 0, .own (bb91 + 4) 0 (s95).length, nC]) 1 sz30) ?_
 refine ow [[iI 0, .own (bb91 + 4) 0 (s95).length, nC]] 0 sz30 ?_
 refine oE (eS (lR ?_))
 obtain rfl := sj h
 exact E_endF (.inr rfl) (res_cell (d := .agg [iI 0, .own (bb91 + 4) 0 (s95).length, nC]) 0 rfl sz30 rfl rfl rfl rfl res_nil) (vw_cons (vd_agg (vc_cons vc_v (vc_cons (vc_own (r := r66) 2 rfl (fun x h m => rfl)) (vc_cons vc_s vc_nil)))) vw_nil) oG rfl rfl
 obtain rfl := Option.some.inj (elimR h)
 exact J_up (fun s hs => hs)
 replace h := ifF c61 h
 refine pq (qb (p_gtr_fZ c61)) ?_
 refine pq (qpf bf) ?_
 refine oE (eS (cF rfl (lK (eS (lS ?_)))))
 refine L_norm (L2 := ([[(k7, 3, [[iI 0, nC, nC]])], [(k4, 3, [[iI 0, nC, nC]])], [(k3, 2, [[iI n1, sF r44 s2]])]] : BL)) [0, 1, 2] (by decide) rfl ?_
 refine L_turn 7 rfl [[], [], [], [], [], [], [k7]] [(false, []), (false, []), (true, []), (false, []), (true, []), (false, []), (false, [])] [[1, 2, 3, 4], [0, 3, 4], [0, 3, 4], [0, 1, 2], [0, 1, 2], [], []] (by kernel_rfl) (by kernel_rfl) (by kernel_rfl) ?_ (fun bb114 hlt hnd => ?_)
 intro bb114 hlt hnd
 exact ⟨⟨djE, ⟨djE, ⟨djE, ⟨djE, ⟨djE, ⟨djE, ⟨djN, trivial⟩⟩⟩⟩⟩⟩⟩, (ltO_cons ltK_nil (ltO_cons ltK_nil (ltO_cons ltK_nil (ltO_cons ltK_nil (ltO_cons ltK_nil (ltO_cons ltK_nil (ltO_cons (ltK_cons (key_lt hlt 0 rfl) ltK_nil) ltO_nil)))))))⟩
 refine tq [] rfl hmn (qm (iO n1)) ?_
 refine tq [] rfl hmn (qm (iO n1)) ?_
 obtain ⟨s120, h119, h⟩ := bindS h
 refine tn_new rfl rfl rfl [] (by decide) rfl hmn rfl rfl (hkc (ne_new (key_lt hlt 0 rfl)) (hkc (ne_new (key_lt hlt 1 rfl)) (hkc (ne_new (key_lt hlt 2 rfl)) hkn))) (q_callO (args := [iO n1]) (flags_New_r (m + 1) h119) rfl rfl (vw_cons (vd_one vc_v) vw_nil) rfl) ?_
 refine tq [] rfl hmn (qm (iO n1)) ?_
 obtain ⟨u121, h122, h⟩ := bindS h
 refine tn_new rfl rfl rfl [] (by decide) rfl hmn rfl rfl (hkc (ne_add rfl) (hkc (ne_new (key_lt hlt 0 rfl)) (hkc (ne_new (key_lt hlt 1 rfl)) (hkc (ne_new (key_lt hlt 2 rfl)) hkn)))) (q_mkslice (r := rowC r2) (a := (0 : Int)) ty28 rfl ty2 rfl rfl (lenOk_some h122).1 (lenOk_some h122).2 rfl rfl) ?_
 refine tq [] rfl (hm0 rfl) (q_build (cs := [iI n1, .own (bb114 + 2) 0 (s120).length, .own (bb114 + 4) 0 ((List.replicate n1.toNat (0 : Int))).length]) ty30 rfl pl30 rfl) ?_
 refine tn_wr rfl rfl [2] (by decide) rfl (hm0 rfl) rfl (q_store (es' := [[iI n1, .own (bb114 + 2) 0 (s120).length, .own (bb114 + 4) 0 ((List.replicate n1.toNat (0 : Int))).length]]) 0 rfl rfl rfl sz30 rfl rfl rfl rfl rfl) (q := 2) rfl rfl ?_
 refine tn_end (eS (lR ?_))
 refine E_call (v := .agg [iI n1, .own (bb114 + 2) 0 (s120).length, .own (bb114 + 4) 0 ((List.replicate n1.toNat (0 : Int))).length]) (.inr rfl) (res_cell (d := .agg [iI n1, .own (bb114 + 2) 0 (s120).length, .own (bb114 + 4) 0 ((List.replicate n1.toNat (0 : Int))).length]) 2 rfl sz30 rfl rfl rfl rfl res_nil) rfl ?_
 refine ol_new rfl rfl rfl (q_alloc ty30 (row := [iI 0, nC, nC]) rfl rfl) (fun k123 => ?_)
 refine ow [[iI n1, .own (bb114 + 2) 0 (s120).length, .own (bb114 + 4) 0 ((List.replicate n1.toNat (0 : Int))).length]] 0 sz30 ?_
 refine oE (eS (lS ?_))
 obtain ⟨s126, h125, h⟩ := bindS h
 rcases s126 with _ | ⟨y127, t128⟩
 dsimp only at h
 refine L_norm (L2 := ([[(k123, 3, [[iI n1, .own (bb114 + 2) 0 (s120).length, .own (bb114 + 4) 0 ((List.replicate n1.toNat (0 : Int))).length]])], [((bb114 + 4), 1, ((List.replicate n1.toNat (0 : Int))).map (rowC r2))], [((bb114 + 2), 1, (s120).map (rowC r66))], [(k4, 3, [[iI 0, nC, nC]])], [(k3, 2, [[iI n1, sF r44 s2]])]] : BL)) [0, 1, 2, 4, 5] (by decide) rfl ?_
 refine L_turn 7 rfl [[], [], [], [], [], [], [k123]] [(false, []), (false, []), (false, []), (false, []), (true, []), (false, []), (false, [])] [[2, 3], [2, 3], [0, 1], [0, 1], [], [], []] (by kernel_rfl) (by kernel_rfl) (by kernel_rfl) ?_ (fun bb129 hlt hnd => ?_)
 intro bb129 hlt hnd
 exact ⟨⟨djE, ⟨djE, ⟨djE, ⟨djE, ⟨djE, ⟨djE, ⟨djN, trivial⟩⟩⟩⟩⟩⟩⟩, (ltO_cons ltK_nil (ltO_cons ltK_nil (ltO_cons ltK_nil (ltO_cons ltK_nil (ltO_cons ltK_nil (ltO_cons ltK_nil (ltO_cons (ltK_cons (key_lt hlt 0 rfl) ltK_nil) ltO_nil)))))))⟩
 refine tq [] rfl (hm0 rfl) (q_fieldP rfl fa25_0 rfl) ?_
 refine tq [4] rfl (hm0 rfl) (ql (iO n1) 0 sz3) ?_
 refine tq [4] rfl (hm0 rfl) (ql (.agg [iI n1, sF r44 s2]) 0 sz25) ?_
 refine tq [] rfl (hm0 rfl) (qc (.one nC) [.agg [iI n1, sF r44 s2]] (spvec_Places_r (m + 0) h125) (vw_cons (vd_agg (vc_cons vc_v (vc_cons vc_s vc_nil))) vw_nil)) ?_
 obtain ⟨s133, h132, h⟩ := bindS h
 refine tn_new rfl rfl rfl [] (by decide) rfl (hm0 rfl) rfl rfl (hkc (ne_new (key_lt hlt 0 rfl)) (hkc (ne_new (key_lt hlt 1 rfl)) (hkc (ne_new (key_lt hlt 2 rfl)) (hkc (ne_new (key_lt hlt 3 rfl)) (hkc (ne_new (key_lt hlt 4 rfl)) hkn))))) (q_callO (args := [iO n1, .one nC]) (flags_Of_r (m + 1) h132) rfl rfl (vw_cons (vd_one vc_v) (vw_cons (vd_one vc_s) vw_nil)) rfl) ?_
 refine tq [] rfl (hm0 rfl) (q_fieldP rfl fa30_1 rfl) ?_
 refine tn_wr rfl rfl [1] (by decide) rfl (hm0 rfl) rfl (q_store (es' := [[iI n1, .own (bb129 + 4) 0 (s133).length, .own (bb114 + 4) 0 ((List.replicate n1.toNat (0 : Int))).length]]) 0 rfl rfl rfl sz27 rfl rfl rfl rfl rfl) (q := 1) rfl rfl ?_
 refine tn_end (eS (lS (lS (lO ?_))))
 refine pq (q_fieldP rfl fa25_1 rfl) ?_
 refine pq (ql (.one (sF r44 s2)) 5 sz22) ?_
 refine pq (q_lenS rfl ty22 rfl rfl rfl rfl) ?_
 refine pq (qm (iO 0)) ?_
 refine oE (eS (lB ?_))
 let S5 : (Int × List (Int)) → Nat → (Nat → D) → Nat → D := fun a kt g => ups g [(2, .one (.ptr k4 0 0)), (3, .one (.ptr k123 0 0)), (20, .one (sF r44 s2)), (21, .one (iI ((s2.l.length : Nat) : Int))), (22, .one (iI a.1))]
 let SL5 : (Int × List (Int)) → Nat → BL := fun a kt => ([[(k4, 3, [[iI 0, nC, nC]])], [(k123, 3, [[iI n1, .own (bb129 + 4) 0 (s133).length, .own kt 0 (a.2).length]])], [((bb129 + 4), 1, (s133).map (rowC r66))], [(kt, 1, (a.2).map (rowC r2))]] : BL)
 let G5 : (Int × Sl (Int) × Sl (Int)) → Ex → St → Prop := fun u => endQ E1 [.cell 2 30] (.fresh, [.agg (r29 u)])
 let Sx5 : (List (Int)) → Nat → (Nat → D) → Nat → D := fun a kt g => ups g [(2, .one (.ptr k4 0 0)), (3, .one (.ptr k123 0 0))]
 let SLx5 : (List (Int)) → Nat → BL := fun a kt => ([[(k4, 3, [[iI 0, nC, nC]])], [(k123, 3, [[iI n1, .own (bb129 + 4) 0 (s133).length, .own kt 0 (a).length]])], [((bb129 + 4), 1, (s133).map (rowC r66))], [(kt, 1, (a).map (rowC r2))]] : BL)
 let J5 : ((List (Int)) ⊕ (Int × Sl (Int) × Sl (Int))) → Ex → St → Prop := JX 35 0 Sx5 SLx5 G5
 refine L_loopS (devec_Of_b5 s2) S5 SL5 J5 JX_n (0, (List.replicate n1.toNat (0 : Int))) h (bb114 + 4) (ups_self ⟨rfl, rfl, rfl, rfl, rfl, trivial⟩) [4, 1, 0, 2] (by decide) rfl ?_ ?_
 rintro ⟨n155, l156⟩ k157 g out h
 change devec_Of_b5 s2 (n155, l156) = some out at h
 unfold devec_Of_b5 at h
 refine lS (lO ?_)
 by_cases c158 : n155 < ((s2.l.length : Nat) : Int)
 replace h := ifT c158 h
 refine pq (qb (p_lss_tZ c158)) ?_
 refine oE (eS (lS (cT rfl (lK (eS (lS (lB (lS (lO ?_)))))))))
 obtain ⟨⟨n161, n162⟩, h160, h⟩ := bindS h
 obtain ⟨h160a, h160b, h160⟩ := atS_some h160
 refine pq (q_ixS rfl rfl h160a h160 (el22.trans (congrArg some h160b.symm))) ?_
 refine pq (q_loadI (v := .agg [iI n161, iI n162]) rfl sz45 (map_get h160) rfl rfl) ?_
 refine ol_new rfl rfl rfl (q_alloc ty45 (row := [iI 0, iI 0]) rfl rfl) (fun k163 => ?_)
 refine ow [[iI n161, iI n162]] 0 sz45 ?_
 refine oR ?_
 refine pq (q_fieldP rfl fa30_2 rfl) ?_
 refine pq (ql (.one (.own k157 0 (l156).length)) 2 sz28) ?_
 refine pq (q_fieldP rfl fa45_0 rfl) ?_
 refine pq (ql (iO n161) 0 sz3) ?_
 refine pq (q_fieldP rfl fa45_1 rfl) ?_
 refine pq (ql (iO n162) 0 sz2) ?_
 obtain ⟨n166, h165, h⟩ := bindS h
 obtain ⟨h165a, h165⟩ := atL_some h165
 refine pq (q_ixO 4 rfl rfl h165a h165 rfl el28) ?_
 refine ol_wr rfl rfl (q_store (e' := rowC r2 n162) (es' := ((l156.set n161.toNat n162)).map (rowC r2)) 4 rfl rfl rfl sz2 rfl rfl (map_get h165) rfl map_set) rfl ?_
 refine ol_re 27 (v := .one (.own k157 0 ((l156.set n161.toNat n162)).length)) (Eq.trans (b := .one (.own k157 0 (l156).length)) rfl (congrArg D.one own_setC)) ?_
 refine ol_reS 2 (s' := [(k123, 3, [[iI n1, .own (bb129 + 4) 0 (s133).length, .own k157 0 ((l156.set n161.toNat n162)).length]])]) rfl (congrArg (fun z => ([(k123, 3, [[iI n1, .own (bb129 + 4) 0 (s133).length, z]])] : List B1)) own_setC) ?_
 refine oE (bN (eS (lO ?_)))
 refine pq (qb p_addY) ?_
 refine pq (qm (iO (IntKind.i64.wrap (n155 + 1)))) ?_
 refine oE ?_
 obtain rfl := sj h
 exact E_next k157 (ups_self ⟨rfl, rfl, rfl, rfl, rfl, trivial⟩) [1, 2, 3, 4] (by decide) rfl
 replace h := ifF c158 h
 refine pq (qb (p_lss_fZ c158)) ?_
 refine oE (eS (lS (cF rfl (L_exit ?_))))
 refine E_seqX ?_
 obtain rfl := sj h
 refine E_out ?_
 exact (E_exit k157 (ups_self ⟨rfl, rfl, trivial⟩) [0, 1, 2, 3] (by decide) rfl)
 rintro (l167 | u) h
 refine J_x (fun k168 g => ?_)
 replace h := elimL h
 refine bH (eS (lS (lO ?_)))
 refine pq (ql (.agg [iI n1, .own (bb129 + 4) 0 (s133).length, .own k168 0 (l167).length]) 1 sz30) ?_
 refine ow [[iI n1, .own (bb129 + 4) 0 (s133).length, .own k168 0 (l167).length]] 0 sz30 ?_
 refine oE (eS (lR ?_))
 obtain rfl := sj h
 exact E_endF (.inr rfl) (res_cell (d := .agg [iI n1, .own (bb129 + 4) 0 (s133).length, .own k168 0 (l167).length]) 0 rfl sz30 rfl rfl rfl rfl res_nil) (vw_cons (vd_agg (vc_cons vc_v (vc_cons (vc_own (r := r66) 2 rfl (fun x h m => rfl)) (vc_cons (vc_own (r := r2) 3 rfl (fun x h m => rfl)) vc_nil)))) vw_nil) oG rfl rfl
 obtain rfl := Option.some.inj (elimR h)
 exact J_up (fun s hs => hs)
 dsimp only at h
 refine L_norm (L2 := ([[(k123, 3, [[iI n1, .own (bb114 + 2) 0 (s120).length, .own (bb114 + 4) 0 ((List.replicate n1.toNat (0 : Int))).length]])], [((bb114 + 4), 1, ((List.replicate n1.toNat (0 : Int))).map (rowC r2))], [((bb114 + 2), 1, (s120).map (rowC r66))], [(k4, 3, [[iI 0, nC, nC]])], [(k3, 2, [[iI n1, sF r44 s2]])]] : BL)) [0, 1, 2, 4, 5] (by decide) rfl ?_
 refine L_turn 7 rfl [[], [], [], [], [], [], [k123]] [(false, []), (false, []), (false, []), (true, []), (true, []), (false, []), (false, [])] [[2, 3], [2, 3], [0, 1], [0, 1], [], [], []] (by kernel_rfl) (by kernel_rfl) (by kernel_rfl) ?_ (fun bb169 hlt hnd => ?_)
 intro bb169 hlt hnd
 exact ⟨⟨djE, ⟨djE, ⟨djE, ⟨djE, ⟨djE, ⟨djE, ⟨djN, trivial⟩⟩⟩⟩⟩⟩⟩, (ltO_cons ltK_nil (ltO_cons ltK_nil (ltO_cons ltK_nil (ltO_cons ltK_nil (ltO_cons ltK_nil (ltO_cons ltK_nil (ltO_cons (ltK_cons (key_lt hlt 0 rfl) ltK_nil) ltO_nil)))))))⟩
 refine tq [] rfl hmn (q_fieldP rfl fa25_0 rfl) ?_
 refine tq [4] rfl (hmc (nin_cons (ne_new (key_lt hlt 4 rfl)) nin_nil) hmn) (ql (iO n1) 0 sz3) ?_
 refine tq [4] rfl (hm0 rfl) (ql (.agg [iI n1, sF r44 s2]) 0 sz25) ?_
 refine tn_new rfl rfl rfl [] (by decide) rfl (hm0 rfl) rfl rfl (hkc (ne_new (key_lt hlt 0 rfl)) (hkc (ne_new (key_lt hlt 1 rfl)) (hkc (ne_new (key_lt hlt 2 rfl)) (hkc (ne_new (key_lt hlt 3 rfl)) (hkc (ne_new (key_lt hlt 4 rfl)) hkn))))) (q_callO (r := r3) (l := (y127 :: t128)) (args := [.agg [iI n1, sF r44 s2]]) (spvec_Places_r (m + 0) h125) rfl rfl (vw_cons (vd_agg (vc_cons vc_v (vc_cons vc_s vc_nil))) vw_nil) rfl) ?_
 obtain ⟨s173, h172, h⟩ := bindS h
 refine tn_new rfl rfl rfl [0] (by decide) rfl (hm0 rfl) rfl rfl (hkc (ne_add rfl) (hkc (ne_new (key_lt hlt 0 rfl)) (hkc (ne_new (key_lt hlt 1 rfl)) (hkc (ne_new (key_lt hlt 2 rfl)) (hkc (ne_new (key_lt hlt 3 rfl)) (hkc (ne_new (key_lt hlt 4 rfl)) hkn)))))) (q_callO (args := [iO n1, .one (.own (bb169 + 3) 0 ((y127 :: t128)).length)]) (flags_Of_r (m + 1) h172) rfl rfl (vw_cons (vd_one vc_v) (vw_cons (vd_one (vc_own (r := r3) 0 rfl (fun x h m => rfl))) vw_nil)) rfl) ?_
 refine tq [] rfl (hm0 rfl) (q_fieldP rfl fa30_1 rfl) ?_
 refine tn_wr rfl rfl [2] (by decide) rfl (hm0 rfl) rfl (q_store (es' := [[iI n1, .own (bb169 + 4) 0 (s173).length, .own (bb114 + 4) 0 ((List.replicate n1.toNat (0 : Int))).length]]) 0 rfl rfl rfl sz27 rfl rfl rfl rfl rfl) (q := 2) rfl rfl ?_
 refine tn_end (eS (lS (lS (lO ?_))))
 refine pq (q_fieldP rfl fa25_1 rfl) ?_
 refine pq (ql (.one (sF r44 s2)) 6 sz22) ?_
 refine pq (q_lenS rfl ty22 rfl rfl rfl rfl) ?_
 refine pq (qm (iO 0)) ?_
 refine oE (eS (lB ?_))
 let S6 : (Int × List (Int)) → Nat → (Nat → D) → Nat → D := fun a kt g => ups g [(2, .one (.ptr k4 0 0)), (3, .one (.ptr k123 0 0)), (20, .one (sF r44 s2)), (21, .one (iI ((s2.l.length : Nat) : Int))), (22, .one (iI a.1))]
 let SL6 : (Int × List (Int)) → Nat → BL := fun a kt => ([[(k4, 3, [[iI 0, nC, nC]])], [(k123, 3, [[iI n1, .own (bb169 + 4) 0 (s173).length, .own kt 0 (a.2).length]])], [((bb169 + 4), 1, (s173).map (rowC r66))], [(kt, 1, (a.2).map (rowC r2))]] : BL)
 let G6 : (Int × Sl (Int) × Sl (Int)) → Ex → St → Prop := fun u => endQ E1 [.cell 2 30] (.fresh, [.agg (r29 u)])
 let Sx6 : (List (Int)) → Nat → (Nat → D) → Nat → D := fun a kt g => ups g [(2, .one (.ptr k4 0 0)), (3, .one (.ptr k123 0 0))]
 let SLx6 : (List (Int)) → Nat → BL := fun a kt => ([[(k4, 3, [[iI 0, nC, nC]])], [(k123, 3, [[iI n1, .own (bb169 + 4) 0 (s173).length, .own kt 0 (a).length]])], [((bb169 + 4), 1, (s173).map (rowC r66))], [(kt, 1, (a).map (rowC r2))]] : BL)
 let J6 : ((List (Int)) ⊕ (Int × Sl (Int) × Sl (Int))) → Ex → St → Prop := JX 35 0 Sx6 SLx6 G6
 refine L_loopS (devec_Of_b6 s2) S6 SL6 J6 JX_n (0, (List.replicate n1.toNat (0 : Int))) h (bb114 + 4) (ups_self ⟨rfl, rfl, rfl, rfl, rfl, trivial⟩) [5, 2, 0, 3] (by decide) rfl ?_ ?_
 rintro ⟨n195, l196⟩ k197 g out h
 change devec_Of_b6 s2 (n195, l196) = some out at h
 unfold devec_Of_b6 at h
 refine lS (lO ?_)
 by_cases c198 : n195 < ((s2.l.length : Nat) : Int)
 replace h := ifT c198 h
 refine pq (qb (p_lss_tZ c198)) ?_
 refine oE (eS (lS (cT rfl (lK (eS (lS (lB (lS (lO ?_)))))))))
 obtain ⟨⟨n201, n202⟩, h200, h⟩ := bindS h
 obtain ⟨h200a, h200b, h200⟩ := atS_some h200
 refine pq (q_ixS rfl rfl h200a h200 (el22.trans (congrArg some h200b.symm))) ?_
 refine pq (q_loadI (v := .agg [iI n201, iI n202]) rfl sz45 (map_get h200) rfl rfl) ?_
 refine ol_new rfl rfl rfl (q_alloc ty45 (row := [iI 0, iI 0]) rfl rfl) (fun k203 => ?_)
 refine ow [[iI n201, iI n202]] 0 sz45 ?_
 refine oR ?_
 refine pq (q_fieldP rfl fa30_2 rfl) ?_
 refine pq (ql (.one (.own k197 0 (l196).length)) 2 sz28) ?_
 refine pq (q_fieldP rfl fa45_0 rfl) ?_
 refine pq (ql (iO n201) 0 sz3) ?_
 refine pq (q_fieldP rfl fa45_1 rfl) ?_
 refine pq (ql (iO n202) 0 sz2) ?_
 obtain ⟨n206, h205, h⟩ := bindS h
 obtain ⟨h205a, h205⟩ := atL_some h205
 refine pq (q_ixO 4 rfl rfl h205a h205 rfl el28) ?_
 refine ol_wr rfl rfl (q_store (e' := rowC r2 n202) (es' := ((l196.set n201.toNat n202)).map (rowC r2)) 4 rfl rfl rfl sz2 rfl rfl (map_get h205) rfl map_set) rfl ?_
 refine ol_re 27 (v := .one (.own k197 0 ((l196.set n201.toNat n202)).length)) (Eq.trans (b := .one (.own k197 0 (l196).length)) rfl (congrArg D.one own_setC)) ?_
 refine ol_reS 2 (s' := [(k123, 3, [[iI n1, .own (bb169 + 4) 0 (s173).length, .own k197 0 ((l196.set n201.toNat n202)).length]])]) rfl (congrArg (fun z => ([(k123, 3, [[iI n1, .own (bb169 + 4) 0 (s173).length, z]])] : List B1)) own_setC) ?_
 refine oE (bN (eS (lO ?_)))
 refine pq (qb p_addY) ?_
 refine pq (qm (iO (IntKind.i64.wrap (n195 + 1)))) ?_
 refine oE ?_
 obtain rfl := sj h
 exact E_next k197 (ups_self ⟨rfl, rfl, rfl, rfl, rfl, trivial⟩) [1, 2, 3, 4] (by decide) rfl
 replace h := ifF c198 h
 refine pq (qb (p_lss_fZ c198)) ?_
 refine oE (eS (lS (cF rfl (L_exit ?_))))
 refine E_seqX ?_
 obtain rfl := sj h
 refine E_out ?_
 exact (E_exit k197 (ups_self ⟨rfl, rfl, trivial⟩) [0, 1, 2, 3] (by decide) rfl)
 rintro (l207 | u) h
 refine J_x (fun k208 g => ?_)
 replace h := elimL h
 refine bH (eS (lS (lO ?_)))
 refine pq (ql (.agg [iI n1, .own (bb169 + 4) 0 (s173).length, .own k208 0 (l207).length]) 1 sz30) ?_
 refine ow [[iI n1, .own (bb169 + 4) 0 (s173).length, .own k208 0 (l207).length]] 0 sz30 ?_
 refine oE (eS (lR ?_))
 obtain rfl := sj h
 exact E_endF (.inr rfl) (res_cell (d := .agg [iI n1, .own (bb169 + 4) 0 (s173).length, .own k208 0 (l207).length]) 0 rfl sz30 rfl rfl rfl rfl res_nil) (vw_cons (vd_agg (vc_cons vc_v (vc_cons (vc_own (r := r66) 2 rfl (fun x h m => rfl)) (vc_cons (vc_own (r := r2) 3 rfl (fun x h m => rfl)) vc_nil)))) vw_nil) oG rfl rfl
 obtain rfl := Option.some.inj (elimR h)
 exact J_up (fun s hs => hs)
noncomputable def spvec_find_b1 (s2 : Sl (Int × Int)) (n3 : Int) (a : Int × Int) : Option ((Int × Int) ⊕ (Int ⊕ Empty)) :=
 match a with
 | (n33, n34) => (if n33 < n34 then ((shr1 .u64 (IntKind.u64.wrap (IntKind.i64.wrap (n33 + n34))) 1).bind fun n36 => ((atS 2 s2 (IntKind.i64.wrap n36)).bind fun (n40, n41) => (if n40 ≥ n3 then some (.inl (n33, (IntKind.i64.wrap n36))) else some (.inl ((IntKind.i64.wrap ((IntKind.i64.wrap n36) + 1)), n34))))) else some (.inr (.inl n33)))
noncomputable def spvec_find (a0 : Int × (Sl (Int × Int))) (n3 : Int) : Option (Int × Bool) :=
 match a0 with
 | (n1, s2) => ((loopO (spvec_find_b1 s2 n3) (0, ((s2.l.length : Nat) : Int))).bind (Sum.elim (fun n43 => (if n43 < ((s2.l.length : Nat) : Int) then ((atS 2 s2 n43).bind fun (n47, n48) => (if n47 = n3 then some (n43, true) else some (n43, false))) else some (n43, false))) (fun u => u.elim)))
theorem spvec_find_r (m : Nat) {a0 : Int × (Sl (Int × Int))} {n3 : Int} {out : Int × Bool} (h : spvec_find a0 n3 = some out) : RunsP E1 (m + 3) 20 [.agg (r24 a0), .one (iT .i64 n3)] (.fresh, [.one (iT .i64 out.1), .one (bT out.2)]) := by
 obtain ⟨n1, s2⟩ := a0
 refine fn_F rfl (by rw [E1_fn]; exact show fiOf Tryd.prog 20 = _ by unfold fiOf; rw [Tryd.func20]; unfold Tryd.f20; rfl) rfl ?_
 dsimp only
 unfold spvec_find at h
 refine lS (lO ?_)
 refine ol_new rfl rfl rfl (q_box ty25 rfl (cs := [iI n1, sF r44 s2]) rfl rfl) (fun k4 => ?_)
 refine ol_new rfl rfl rfl (q_box ty3 rfl (cs := [iI n3]) rfl rfl) (fun k5 => ?_)
 refine pq (qa (iO 0)) ?_
 refine pq (qa bf) ?_
 refine oN ?_
 refine pq (q_fieldP rfl fa25_1 rfl) ?_
 refine pq (ql (.one (sF r44 s2)) 1 sz22) ?_
 refine pq (q_lenS rfl ty22 rfl rfl rfl rfl) ?_
 refine pq (q_mkfun rfl rfl) ?_
 refine ol_scallN (args := [.one (iI ((s2.l.length : Nat) : Int)), .one (.clo (.func 34) [] [.ptr k4 0 0, .ptr k5 0 0])]) rfl rfl rfl ax33 (by rw [E1_fn]; exact show fiOf Tryd.prog 33 = _ by unfold fiOf; rw [Tryd.func33]; unfold Tryd.f33; rfl) rfl rfl rfl ?_
 dsimp only
 refine lS (lO ?_)
 refine pq (qa (iO 0)) ?_
 refine oN ?_
 refine pq (qm (iO ((s2.l.length : Nat) : Int))) ?_
 refine pq (qa (iO 0)) ?_
 refine pq (qa (iO ((s2.l.length : Nat) : Int))) ?_
 refine oE (eS (lS (lB ?_)))
 let S1 : (Int × Int) → Unit → (Nat → D) → Nat → D := fun a kt g => ups g [(1, .one (.clo (.func 34) [] [.ptr k4 0 0, .ptr k5 0 0])), (5, .one (iI a.1)), (6, .one (iI a.2))]
 let SL1 : (Int × Int) → Unit → BL := fun a kt => ([[(k4, 2, [[iI n1, sF r44 s2]])], [(k5, 1, [[iI n3]])]] : BL)
 let G1 : Empty → Ex → St → Prop := fun u => u.elim
 let Sx1 : Int → Unit → (Nat → D) → Nat → D := fun a kt g => ups g [(5, iO a)]
 let SLx1 : Int → Unit → BL := fun a kt => ([[(k4, 2, [[iI n1, sF r44 s2]])], [(k5, 1, [[iI n3]])]] : BL)
 let J1 : (Int ⊕ Empty) → Ex → St → Prop := JX 26 0 Sx1 SLx1 G1
 refine L_loopS (spvec_find_b1 s2 n3) S1 SL1 J1 JX_n (0, ((s2.l.length : Nat) : Int)) h () (ups_self ⟨rfl, rfl, rfl, trivial⟩) [1, 0] (by decide) rfl ?_ ?_
 rintro ⟨n33, n34⟩ _ g out h
 change spvec_find_b1 s2 n3 (n33, n34) = some out at h
 unfold spvec_find_b1 at h
 refine lS (lS (lO ?_))
 refine pq (qm (iO n33)) ?_
 refine pq (qm (iO n34)) ?_
 by_cases c35 : n33 < n34
 replace h := ifT c35 h
 refine pq (qb (p_lss_tZ c35)) ?_
 refine oE (eS (cT rfl (lK (eS (lB (lS (lO ?_)))))))
 refine pq (qm (iO n33)) ?_
 refine pq (qm (iO n34)) ?_
 refine pq (qb p_addY) ?_
 refine pq (q_conv rfl (cv3_91_i64 _) rfl) ?_
 obtain ⟨n36, h37, h⟩ := bindS h
 refine pq (q_bin rfl rfl (p_shr h37) rfl) ?_
 refine pq (q_conv rfl (cv91_3_u64 _) rfl) ?_
 refine pq (qa (iO (IntKind.i64.wrap n36))) ?_
 refine oN ?_
 refine pq (qm (.one (.clo (.func 34) [] [.ptr k4 0 0, .ptr k5 0 0]))) ?_
 refine pq (qm (iO (IntKind.i64.wrap n36))) ?_
 refine ol_scall (args := [.one (iI (IntKind.i64.wrap n36)), .one (.ptr k4 0 0), .one (.ptr k5 0 0)]) rfl rfl rfl rfl (by rw [E1_fn]; exact show fiOf Tryd.prog 34 = _ by unfold fiOf; rw [Tryd.func34]; unfold Tryd.f34; rfl) rfl rfl rfl ?_
 dsimp only
 refine lS (lO ?_)
 refine pq (qa bf) ?_
 refine oE (eS (lS ?_))
 refine L_still (by kernel_rfl) ?_
 refine sq (q_fieldP rfl fa25_1 rfl) ?_
 refine sq (ql (.one (sF r44 s2)) 0 sz22) ?_
 refine sq (qm (iO (IntKind.i64.wrap n36))) ?_
 obtain ⟨⟨n40, n41⟩, h39, h⟩ := bindS h
 obtain ⟨h39a, h39b, h39⟩ := atS_some h39
 refine sq (q_ixS rfl rfl h39a h39 (el22.trans (congrArg some h39b.symm))) ?_
 refine sq (q_fieldI rfl fa45_0 rfl) ?_
 refine sq (q_loadI (v := iO n40) rfl sz3 (map_get h39) rfl rfl) ?_
 refine sq (ql (iO n3) 1 sz3) ?_
 by_cases c42 : n40 ≥ n3
 replace h := ifT c42 h
 refine sq (qb (p_geq_tZ c42)) ?_
 refine sq (qa bt) ?_
 refine st_end (eS (lR ?_))
 refine E_call (v := bt) (.inr rfl) (res_tmp (d := bt) rfl res_nil) rfl ?_
 refine pq (q_not rfl) ?_
 refine oE (eS (cF rfl (lO ?_)))
 refine pq (qm (iO (IntKind.i64.wrap n36))) ?_
 refine pq (qa (iO (IntKind.i64.wrap n36))) ?_
 refine oE (bN ?_)
 obtain rfl := sj h
 exact E_next () (ups_self ⟨rfl, rfl, rfl, trivial⟩) [0, 1] (by decide) rfl
 replace h := ifF c42 h
 refine sq (qb (p_geq_fZ c42)) ?_
 refine sq (qa bf) ?_
 refine st_end (eS (lR ?_))
 refine E_call (v := bf) (.inr rfl) (res_tmp (d := bf) rfl res_nil) rfl ?_
 refine pq (q_not rfl) ?_
 refine oE (eS (cT rfl (lO ?_)))
 refine pq (qm (iO (IntKind.i64.wrap n36))) ?_
 refine pq (qb p_addY) ?_
 refine pq (qa (.one (iI (IntKind.i64.wrap ((IntKind.i64.wrap n36) + 1))))) ?_
 refine oE (bN ?_)
 obtain rfl := sj h
 exact E_next () (ups_self ⟨rfl, rfl, rfl, trivial⟩) [0, 1] (by decide) rfl
 replace h := ifF c35 h
 refine pq (qb (p_lss_fZ c35)) ?_
 refine oE (eS (cF rfl (L_exit ?_)))
 refine E_seqX ?_
 obtain rfl := sj h
 refine E_out ?_
 exact (E_exit () (ups_self ⟨rfl, trivial⟩) [0, 1] (by decide) rfl)
 rintro (n43 | u) h
 refine J_x (fun kt g => ?_)
 replace h := elimL h
 refine bH (eS (lS (lO ?_)))
 refine pq (qm (iO n43)) ?_
 refine pq (qa (iO n43)) ?_
 refine oE (eS (lR ?_))
 refine E_call (v := iO n43) (.inr rfl) (res_tmp (d := iO n43) rfl res_nil) rfl ?_
 refine pq (qa (iO n43)) ?_
 refine oE (eS (lS ?_))
 refine L_still (by kernel_rfl) ?_
 refine sq (qm (iO n43)) ?_
 refine sq (qm (iO n43)) ?_
 refine sq (q_fieldP rfl fa25_1 rfl) ?_
 refine sq (ql (.one (sF r44 s2)) 0 sz22) ?_
 refine sq (q_lenS rfl ty22 rfl rfl rfl rfl) ?_
 by_cases c44 : n43 < ((s2.l.length : Nat) : Int)
 replace h := ifT c44 h
 refine sq (qb (p_lss_tZ c44)) ?_
 refine sq (qm bt) ?_
 refine sq (q_fieldP rfl fa25_1 rfl) ?_
 refine sq (ql (.one (sF r44 s2)) 0 sz22) ?_
 refine sq (qm (iO n43)) ?_
 obtain ⟨⟨n47, n48⟩, h46, h⟩ := bindS h
 obtain ⟨h46a, h46b, h46⟩ := atS_some h46
 refine sq (q_ixS rfl rfl h46a h46 (el22.trans (congrArg some h46b.symm))) ?_
 refine sq (q_fieldI rfl fa45_0 rfl) ?_
 refine sq (q_loadI (v := iO n47) rfl sz3 (map_get h46) rfl rfl) ?_
 refine sq (ql (iO n3) 1 sz3) ?_
 by_cases c49 : n47 = n3
 replace h := ifT c49 h
 refine sq (qb (p_eql_tZ c49)) ?_
 refine sq (qpt bt) ?_
 refine sq (qa (iO n43)) ?_
 refine sq (qa bt) ?_
 refine st_end (eS (lR ?_))
 obtain rfl := sj h
 exact E_endF (.inr rfl) (res_tmp rfl (res_tmp rfl res_nil)) (vw_cons (vd_one vc_v) (vw_cons (vd_one vc_v) vw_nil)) oW rfl rfl
 replace h := ifF c49 h
 refine sq (qb (p_eql_fZ c49)) ?_
 refine sq (qpt bf) ?_
 refine sq (qa (iO n43)) ?_
 refine sq (qa bf) ?_
 refine st_end (eS (lR ?_))
 obtain rfl := sj h
 exact E_endF (.inr rfl) (res_tmp rfl (res_tmp rfl res_nil)) (vw_cons (vd_one vc_v) (vw_cons (vd_one vc_v) vw_nil)) oW rfl rfl
 replace h := ifF c44 h
 refine sq (qb (p_lss_fZ c44)) ?_
 refine sq (qm bf) ?_
 iterate 8 refine ss ?_
 refine sq (qpf bf) ?_
 refine sq (qa (iO n43)) ?_
 refine sq (qa bf) ?_
 refine st_end (eS (lR ?_))
 obtain rfl := sj h
 exact E_endF (.inr rfl) (res_tmp rfl (res_tmp rfl res_nil)) (vw_cons (vd_one vc_v) (vw_cons (vd_one vc_v) vw_nil)) oW rfl rfl
 exact u.elim
noncomputable def spvec_moved_b1 (s1 : Sl (Int × Int)) (n2 : Int) (a : (List (Int × Int)) × Int) : Option (((List (Int × Int)) × Int) ⊕ ((List (Int × Int)) ⊕ (List (Int × Int)))) :=
 match a with
 | (l29, n30) => (if n30 < ((s1.l.length : Nat) : Int) then ((atS 2 s1 n30).bind fun (n35, n36) => ((atL l29 n30).bind fun (n40, n41) => some (.inl ((l29.set n30.toNat ((IntKind.i64.wrap (n35 + n2)), n36)), (IntKind.i64.wrap (n30 + 1)))))) else some (.inr (.inl l29)))
noncomputable def spvec_moved (s1 : Sl (Int × Int)) (n2 : Int) : Option ((List (Int × Int))) :=
 ((lenOk ((s1.l.length : Nat) : Int)).bind fun _ => ((loopO (spvec_moved_b1 s1 n2) ((List.replicate ((s1.l.length : Nat) : Int).toNat ((0, 0) : Int × Int)), 0)).bind (Sum.elim (fun l42 => some l42) (fun u => some u))))
theorem spvec_moved_r (m : Nat) {s1 : Sl (Int × Int)} {n2 : Int} {out : (List (Int × Int))} (h : spvec_moved s1 n2 = some out) : RunsP E1 (m + 1) 21 [.one (Sl.t r44 s1), .one (iT .i64 n2)] (.own, [.one (.s true 2 ((out).map r44))]) := by
 refine fn_O rfl (by rw [E1_fn]; exact show fiOf Tryd.prog 21 = _ by unfold fiOf; rw [Tryd.func21]; unfold Tryd.f21; rfl) rfl ?_
 dsimp only
 unfold spvec_moved at h
 refine lS (lO ?_)
 refine pq (qa (.one nC)) ?_
 refine oN ?_
 refine pq (qm (.one (sF r44 s1))) ?_
 refine pq (q_lenS rfl ty22 rfl rfl rfl rfl) ?_
 obtain ⟨u3, h4, h⟩ := bindS h
 refine ol_new rfl rfl rfl (q_mkslice (r := rowC r44) (a := ((0, 0) : Int × Int)) ty22 rfl ty45 rfl rfl (lenOk_some h4).1 (lenOk_some h4).2 rfl rfl) (fun k5 => ?_)
 refine pq (qa (.one (.own k5 0 ((List.replicate ((s1.l.length : Nat) : Int).toNat ((0, 0) : Int × Int))).length))) ?_
 refine oE (eS (lS (lS (lO ?_))))
 refine pq (qm (.one (sF r44 s1))) ?_
 refine pq (q_lenS rfl ty22 rfl rfl rfl rfl) ?_
 refine pq (qm (iO 0)) ?_
 refine oE (eS (lB ?_))
 let S1 : ((List (Int × Int)) × Int) → Nat → (Nat → D) → Nat → D := fun a kt g => ups g [(1, iO n2), (5, .one (.own kt 0 (a.1).length)), (11, .one (sF r44 s1)), (12, .one (iI ((s1.l.length : Nat) : Int))), (13, .one (iI a.2))]
 let SL1 : ((List (Int × Int)) × Int) → Nat → BL := fun a kt => ([[(kt, 2, (a.1).map (rowC r44))]] : BL)
 let G1 : (List (Int × Int)) → Ex → St → Prop := fun u => endQ E1 [.tmp 4] (.own, [.one (.s true 2 ((u).map r44))])
 let Sx1 : (List (Int × Int)) → Nat → (Nat → D) → Nat → D := fun a kt g => ups g [(5, .one (.own kt 0 (a).length))]
 let SLx1 : (List (Int × Int)) → Nat → BL := fun a kt => ([[(kt, 2, (a).map (rowC r44))]] : BL)
 let J1 : ((List (Int × Int)) ⊕ (List (Int × Int))) → Ex → St → Prop := JX 30 0 Sx1 SLx1 G1
 refine L_loopS (spvec_moved_b1 s1 n2) S1 SL1 J1 JX_n ((List.replicate ((s1.l.length : Nat) : Int).toNat ((0, 0) : Int × Int)), 0) h k5 (ups_self ⟨rfl, rfl, rfl, rfl, rfl, trivial⟩) [0] (by decide) rfl ?_ ?_
 rintro ⟨l29, n30⟩ k31 g out h
 change spvec_moved_b1 s1 n2 (l29, n30) = some out at h
 unfold spvec_moved_b1 at h
 refine lS (lO ?_)
 by_cases c32 : n30 < ((s1.l.length : Nat) : Int)
 replace h := ifT c32 h
 refine pq (qb (p_lss_tZ c32)) ?_
 refine oE (eS (lS (cT rfl (lK (eS (lS (lB (lS (lO ?_)))))))))
 refine pq (qm (iO n30)) ?_
 obtain ⟨⟨n35, n36⟩, h34, h⟩ := bindS h
 obtain ⟨h34a, h34b, h34⟩ := atS_some h34
 refine pq (q_ixS rfl rfl h34a h34 (el22.trans (congrArg some h34b.symm))) ?_
 refine pq (q_loadI (v := .agg [iI n35, iI n36]) rfl sz45 (map_get h34) rfl rfl) ?_
 refine ol_new rfl rfl rfl (q_alloc ty45 (row := [iI 0, iI 0]) rfl rfl) (fun k37 => ?_)
 refine pq (qa (iO n30)) ?_
 refine ow [[iI n35, iI n36]] 0 sz45 ?_
 refine oR ?_
 refine pq (qm (.one (.own k31 0 (l29).length))) ?_
 refine pq (qm (iO n30)) ?_
 refine pq (q_fieldP rfl fa45_0 rfl) ?_
 refine pq (ql (iO n35) 0 sz3) ?_
 refine pq (qm (iO n2)) ?_
 refine pq (qb p_addY) ?_
 refine pq (q_fieldP rfl fa45_1 rfl) ?_
 refine pq (ql (iO n36) 0 sz2) ?_
 refine pq (q_build (cs := [iI (IntKind.i64.wrap (n35 + n2)), iI n36]) ty45 rfl pl45 rfl) ?_
 obtain ⟨⟨n40, n41⟩, h39, h⟩ := bindS h
 obtain ⟨h39a, h39⟩ := atL_some h39
 refine pq (q_ixO 1 rfl rfl h39a h39 rfl el22) ?_
 refine ol_wr rfl rfl (q_store (e' := rowC r44 ((IntKind.i64.wrap (n35 + n2)), n36)) (es' := ((l29.set n30.toNat ((IntKind.i64.wrap (n35 + n2)), n36))).map (rowC r44)) 1 rfl rfl rfl sz45 rfl rfl (map_get h39) rfl map_set) rfl ?_
 refine ol_re 5 (v := .one (.own k31 0 ((l29.set n30.toNat ((IntKind.i64.wrap (n35 + n2)), n36))).length)) (Eq.trans (b := .one (.own k31 0 (l29).length)) rfl (congrArg D.one own_setC)) ?_
 refine ol_re 18 (v := .one (.own k31 0 ((l29.set n30.toNat ((IntKind.i64.wrap (n35 + n2)), n36))).length)) (Eq.trans (b := .one (.own k31 0 (l29).length)) rfl (congrArg D.one own_setC)) ?_
 refine oE (bN (eS (lO ?_)))
 refine pq (qb p_addY) ?_
 refine pq (qm (iO (IntKind.i64.wrap (n30 + 1)))) ?_
 refine oE ?_
 obtain rfl := sj h
 exact E_next k31 (ups_self ⟨rfl, rfl, rfl, rfl, rfl, trivial⟩) [1] (by decide) rfl
 replace h := ifF c32 h
 refine pq (qb (p_lss_fZ c32)) ?_
 refine oE (eS (lS (cF rfl (L_exit ?_))))
 refine E_seqX ?_
 obtain rfl := sj h
 refine E_out ?_
 exact (E_exit k31 (ups_self ⟨rfl, trivial⟩) [0] (by decide) rfl)
 rintro (l42 | u) h
 refine J_x (fun k43 g => ?_)
 replace h := elimL h
 refine bH (eS (lS (lO ?_)))
 refine pq (qm (.one (.own k43 0 (l42).length))) ?_
 refine pq (qa (.one (.own k43 0 (l42).length))) ?_
 refine oE (eS (lR ?_))
 obtain rfl := sj h
 exact E_endO (r := r44) 0 (.inr rfl) (res_tmp rfl res_nil) rfl (fun x h m => rfl) (fun x => rfl)
 obtain rfl := Option.some.inj (elimR h)
 exact J_up (fun s hs => hs)
noncomputable def spvec_Part (a0 : Int × (Sl (Int × Int))) (n3 : Int) (n4 : Int) : Option ((Int × (Sl (Int × Int)))) :=
 match a0 with
 | (n1, s2) => ((spvec_sure (n1, s2)).bind fun (n8, s9) => (if (minI n4 n8) ≤ (maxI n3 0) then some (0, (⟨false, 0, []⟩ : Sl (Int × Int))) else ((spvec_find (n8, s9) (maxI n3 0)).bind fun (n13, b14) => ((spvec_find (n8, s9) (minI n4 n8)).bind fun (n16, b17) => ((cutS 2 s9 n13 n16).bind fun s18 => ((spvec_moved s18 (IntKind.i64.wrap (0 - (maxI n3 0)))).bind fun s21 => some ((IntKind.i64.wrap ((minI n4 n8) - (maxI n3 0))), (⟨true, 2, s21⟩ : Sl (Int × Int)))))))))
theorem spvec_Part_r (m : Nat) {a0 : Int × (Sl (Int × Int))} {n3 : Int} {n4 : Int} {out : (Int × (Sl (Int × Int)))} (h : spvec_Part a0 n3 n4 = some out) : RunsP E1 (m + 4) 6 [.agg (r24 a0), .one (iT .i64 n3), .one (iT .i64 n4)] (.fresh, [.agg (r24 out)]) := by
 obtain ⟨n1, s2⟩ := a0
 refine fn_F rfl (by rw [E1_fn]; exact show fiOf Tryd.prog 6 = _ by unfold fiOf; rw [Tryd.func6]; unfold Tryd.f6; rfl) rfl ?_
 dsimp only
 unfold spvec_Part at h
 refine lS (lO ?_)
 refine ol_new rfl rfl rfl (q_box ty25 rfl (cs := [iI n1, sF r44 s2]) rfl rfl) (fun k5 => ?_)
 refine ol_new rfl rfl rfl (q_alloc ty25 (row := [iI 0, nC]) rfl rfl) (fun k6 => ?_)
 refine oN ?_
 refine pq (ql (.agg [iI n1, sF r44 s2]) 1 sz25) ?_
 obtain ⟨⟨n8, s9⟩, h7, h⟩ := bindS h
 refine ol_putX rfl rfl rfl (q_callX (v := fun fr10 => .agg [iI n8, .p fr10 (Sl.t r44 s9)]) (args := [.agg [iI n1, sF r44 s2]]) (spvec_sure_r (m + 0) h7) rfl rfl (vw_cons (vd_agg (vc_cons vc_v (vc_cons vc_s vc_nil))) vw_nil) rfl rfl (fun fr => rfl)) (fun fr10 => ?_)
 refine ow [[iI n8, .p fr10 (Sl.t r44 s9)]] 1 sz25 ?_
 refine oE (eS (lS ?_))
 refine L_still (by kernel_rfl) ?_
 refine sq (qm (iO n3)) ?_
 refine sq ((q_minmax rfl rfl ty3 rfl rfl).2 rfl) ?_
 refine sq (qm (iO n4)) ?_
 refine sq (q_fieldP rfl fa25_0 rfl) ?_
 refine sq (ql (iO n8) 1 sz3) ?_
 refine sq ((q_minmax rfl rfl ty3 rfl rfl).1 rfl) ?_
 refine sq (qa (iO (maxI n3 0))) ?_
 refine sq (qa (iO (minI n4 n8))) ?_
 refine st_end (eS (lS (lS (lO ?_))))
 refine pq (qm (iO (minI n4 n8))) ?_
 refine pq (qm (iO (maxI n3 0))) ?_
 by_cases c11 : (minI n4 n8) ≤ (maxI n3 0)
 replace h := ifT c11 h
 refine pq (qb (p_leq_tZ c11)) ?_
 refine oE (eS (cT rfl (lS (lO ?_))))
 refine pq (q_build (cs := [iI 0, nC]) ty25 rfl pl25 rfl) ?_
 refine ow [[iI 0, nC]] 0 sz25 ?_
 refine oE (eS (lR (eR ?_)))
 obtain rfl := sj h
 exact E_endF (.inr rfl) (res_cell (d := .agg [iI 0, nC]) 0 rfl sz25 rfl rfl rfl rfl res_nil) (vw_cons (vd_agg (vc_cons vc_v (vc_cons vc_s vc_nil))) vw_nil) oG rfl rfl
 replace h := ifF c11 h
 refine pq (qb (p_leq_fZ c11)) ?_
 refine oE (eS (cF rfl (lK (eS (lS (lO ?_))))))
 refine pq (ql (.agg [iI n8, .p fr10 (Sl.t r44 s9)]) 1 sz25) ?_
 refine pq (qm (iO (maxI n3 0))) ?_
 obtain ⟨⟨n13, b14⟩, h12, h⟩ := bindS h
 refine pq (qc (.tup [iO n13, bO b14]) [.agg [iI n8, .p fr10 (Sl.t r44 s9)], .one (iI (maxI n3 0))] (spvec_find_r (m + 0) h12) (vw_cons (vd_agg (vc_cons vc_v (vc_cons vc_s vc_nil))) (vw_cons (vd_one vc_v) vw_nil))) ?_
 refine pq (qm (.tup [iO n13, bO b14])) ?_
 refine pq (q_ext (v := iO n13) rfl rfl) ?_
 refine pq (q_ext (v := bO b14) rfl rfl) ?_
 refine pq (qa (iO n13)) ?_
 refine pq (qa (bO b14)) ?_
 refine oN ?_
 refine pq (ql (.agg [iI n8, .p fr10 (Sl.t r44 s9)]) 1 sz25) ?_
 refine pq (qm (iO (minI n4 n8))) ?_
 obtain ⟨⟨n16, b17⟩, h15, h⟩ := bindS h
 refine pq (qc (.tup [iO n16, bO b17]) [.agg [iI n8, .p fr10 (Sl.t r44 s9)], .one (iI (minI n4 n8))] (spvec_find_r (m + 0) h15) (vw_cons (vd_agg (vc_cons vc_v (vc_cons vc_s vc_nil))) (vw_cons (vd_one vc_v) vw_nil))) ?_
 refine pq (qm (.tup [iO n16, bO b17])) ?_
 refine pq (q_ext (v := iO n16) rfl rfl) ?_
 refine pq (q_ext (v := bO b17) rfl rfl) ?_
 refine pq (qa (iO n16)) ?_
 refine pq (qa (bO b17)) ?_
 refine oN ?_
 refine pq (qm (iO (minI n4 n8))) ?_
 refine pq (qm (iO (maxI n3 0))) ?_
 refine pq (qb p_subY) ?_
 refine pq (q_fieldP rfl fa25_1 rfl) ?_
 refine pq (ql (.one (.p fr10 (Sl.t r44 s9))) 1 sz22) ?_
 refine pq (qm (iO n13)) ?_
 refine pq (qm (iO n16)) ?_
 obtain ⟨s18, h19, h⟩ := bindS h
 refine pq (q_sliceS (r := r44) h19 rfl ty22 rfl ty45 (no_some rfl (cutS_some h19).1.1 _) (no_some rfl (Int.le_trans (cutS_some h19).1.1 (cutS_some h19).1.2.1) _)) ?_
 refine pq (qm (iO (maxI n3 0))) ?_
 refine pq (q_neg rfl) ?_
 obtain ⟨s21, h20, h⟩ := bindS h
 refine ol_new rfl rfl rfl (q_callO (args := [.one (.p fr10 (Sl.t r44 s18)), .one (iI (IntKind.i64.wrap (0 - (maxI n3 0))))]) (spvec_moved_r (m + 2) h20) rfl rfl (vw_cons (vd_one vc_s) (vw_cons (vd_one vc_v) vw_nil)) rfl) (fun k22 => ?_)
 refine pq (q_build (cs := [iI (IntKind.i64.wrap ((minI n4 n8) - (maxI n3 0))), .own k22 0 (s21).length]) ty25 rfl pl25 rfl) ?_
 refine ow [[iI (IntKind.i64.wrap ((minI n4 n8) - (maxI n3 0))), .own k22 0 (s21).length]] 1 sz25 ?_
 refine oE (eS (lR ?_))
 obtain rfl := sj h
 exact E_endF (.inr rfl) (res_cell (d := .agg [iI (IntKind.i64.wrap ((minI n4 n8) - (maxI n3 0))), .own k22 0 (s21).length]) 1 rfl sz25 rfl rfl rfl rfl res_nil) (vw_cons (vd_agg (vc_cons vc_v (vc_cons (vc_own (r := r44) 0 rfl (fun x h m => rfl)) vc_nil))) vw_nil) oG rfl rfl
noncomputable def flags_within (s1 : Sl (Int)) (n2 : Int) : Option (Bool) :=
 (if n2 ≥ 0 then ((divO .i64 n2 64).bind fun n4 => (if n4 < ((s1.l.length : Nat) : Int) then some true else some false)) else some false)
theorem flags_within_r (m : Nat) {s1 : Sl (Int)} {n2 : Int} {out : Bool} (h : flags_within s1 n2 = some out) : RunsP E1 (m + 1) 39 [.one (Sl.t r66 s1), .one (iT .i64 n2)] (.fresh, [.one (bT out)]) := by
 refine fn_F rfl (by rw [E1_fn]; exact show fiOf Tryd.prog 39 = _ by unfold fiOf; rw [Tryd.func39]; unfold Tryd.f39; rfl) rfl ?_
 dsimp only
 unfold flags_within at h
 refine lS (lO ?_)
 refine pq (qa bf) ?_
 refine oN ?_
 refine pq (qm (iO n2)) ?_
 by_cases c3 : n2 ≥ 0
 replace h := ifT c3 h
 refine pq (qb (p_geq_tZ c3)) ?_
 refine pq (qm bt) ?_
 refine pq (qm (iO n2)) ?_
 obtain ⟨n4, h5, h⟩ := bindS h
 refine pq (q_bin rfl rfl (divO_p h5) rfl) ?_
 refine pq (qm (.one (sF r66 s1))) ?_
 refine pq (q_lenS rfl ty27 rfl rfl rfl rfl) ?_
 by_cases c6 : n4 < ((s1.l.length : Nat) : Int)
 replace h := ifT c6 h
 refine pq (qb (p_lss_tZ c6)) ?_
 refine pq (qpt bt) ?_
 refine pq (qa bt) ?_
 refine oE (eS (lR ?_))
 obtain rfl := sj h
 exact eF1
 replace h := ifF c6 h
 refine pq (qb (p_lss_fZ c6)) ?_
 refine pq (qpt bf) ?_
 refine pq (qa bf) ?_
 refine oE (eS (lR ?_))
 obtain rfl := sj h
 exact eF1
 replace h := ifF c3 h
 refine pq (qb (p_geq_fZ c3)) ?_
 refine pq (qm bf) ?_
 iterate 5 refine os ?_
 refine pq (qpf bf) ?_
 refine pq (qa bf) ?_
 refine oE (eS (lR ?_))
 obtain rfl := sj h
 exact eF1
noncomputable def flags_Next_b2 (n6 : Int) (n46 : Int) (n50 : Int) (_a : Unit) : Option (Unit ⊕ (Int ⊕ (Unit ⊕ Empty))) :=
 (if n50 ≠ 0 then ((TZ n50).bind fun n56 => some (.inr (.inl (IntKind.i64.wrap ((IntKind.i64.wrap ((IntKind.i64.wrap (n6 + 1)) * 64)) + (IntKind.i64.wrap ((IntKind.i64.wrap (n46 * 64)) + n56))))))) else some (.inr (.inr (.inl ()))))
noncomputable def flags_Next_b1 (n6 : Int) (s19 : Sl (Int)) (n46 : Int) : Option (Int ⊕ (Int ⊕ (Unit ⊕ Empty))) :=
 (if n46 < ((s19.l.length : Nat) : Int) then ((atS 1 s19 n46).bind fun n50 => ((loopO (flags_Next_b2 n6 n46 n50) ()).bind ((Sum.elim (fun n57 => some (.inr (.inl n57))) (Sum.elim (fun _ => some (.inl (IntKind.i64.wrap (n46 + 1)))) (fun u => u.elim)))))) else some (.inr (.inr (.inl ()))))
noncomputable def flags_Next (s1 : Sl (Int)) (n2 : Int) : Option (Int) :=
 ((flags_within s1 (maxI n2 0)).bind fun b5 => (if b5 = true then ((divO .i64 (maxI n2 0) 64).bind fun n6 => ((atS 1 s1 n6).bind fun n10 => ((modO (maxI n2 0) 64).bind fun n11 => ((shr1 .u64 n10 (IntKind.u64.wrap n11)).bind fun n13 => (if n13 ≠ 0 then ((TZ n13).bind fun n17 => some (IntKind.i64.wrap ((maxI n2 0) + n17))) else ((cutS 1 s1 (IntKind.i64.wrap (n6 + 1)) ((s1.l.length : Nat) : Int)).bind fun s19 => ((loopO (flags_Next_b1 n6 s19) 0).bind ((Sum.elim (fun n58 => some n58) (Sum.elim (fun _ => some (-1)) (fun u => u.elim))))))))))) else some (-1)))
theorem flags_Next_r (m : Nat) {s1 : Sl (Int)} {n2 : Int} {out : Int} (h : flags_Next s1 n2 = some out) : RunsP E1 (m + 3) 51 [.one (Sl.t r66 s1), .one (iT .i64 n2)] (.fresh, [.one (iT .i64 out)]) := by
 refine fn_F rfl (by rw [E1_fn]; exact show fiOf Tryd.prog 51 = _ by unfold fiOf; rw [Tryd.func51]; unfold Tryd.f51; rfl) rfl ?_
 dsimp only
 unfold flags_Next at h
 refine lS (lO ?_)
 refine ol_new rfl rfl rfl (q_alloc ty3 (row := [iI 0]) rfl rfl) (fun k3 => ?_)
 refine oN ?_
 refine pq (qm (iO n2)) ?_
 refine pq ((q_minmax rfl rfl ty3 rfl rfl).2 rfl) ?_
 refine pq (qa (iO (maxI n2 0))) ?_
 refine oE (eS (lS (lS (lO ?_))))
 refine pq (qm (.one (sF r66 s1))) ?_
 refine pq (qm (iO (maxI n2 0))) ?_
 obtain ⟨b5, h4, h⟩ := bindS h
 refine pq (qc (bO b5) [.one (sF r66 s1), .one (iI (maxI n2 0))] (flags_within_r (m + 1) h4) (vw_cons (vd_one vc_s) (vw_cons (vd_one vc_v) vw_nil))) ?_
 rcases b5 with _ | _
 replace h := wF h
 refine pq (q_not rfl) ?_
 refine oE (eS (cT rfl (lS (lO ?_))))
 refine ow [[iI (-1)]] 0 sz3 ?_
 refine oE (eS (lR (eR ?_)))
 obtain rfl := sj h
 exact E_endF (.inr rfl) (res_cell (d := .one (iI (-1))) 0 rfl sz3 rfl rfl rfl rfl res_nil) (vw_cons (vd_one vc_v) vw_nil) oP rfl rfl
 replace h := wT h
 refine pq (q_not rfl) ?_
 refine oE (eS (cF rfl (lK (eS (lS (lS (lO ?_)))))))
 refine pq (qm (.one (sF r66 s1))) ?_
 refine pq (qm (iO (maxI n2 0))) ?_
 obtain ⟨n6, h7, h⟩ := bindS h
 refine pq (q_bin rfl rfl (divO_p h7) rfl) ?_
 obtain ⟨n10, h9, h⟩ := bindS h
 obtain ⟨h9a, h9b, h9⟩ := atS_some h9
 refine pq (q_ixS rfl rfl h9a h9 (el27.trans (congrArg some h9b.symm))) ?_
 refine pq (q_loadI (v := .one (uI n10)) rfl sz66 (map_get h9) rfl rfl) ?_
 refine pq (qm (iO (maxI n2 0))) ?_
 obtain ⟨n11, h12, h⟩ := bindS h
 refine pq (q_bin rfl rfl (modO_p h12) rfl) ?_
 refine pq (q_conv rfl (cv3_91_i64 _) rfl) ?_
 obtain ⟨n13, h14, h⟩ := bindS h
 refine pq (q_bin rfl rfl (p_shr h14) rfl) ?_
 refine pq (qa (.one (uI n13))) ?_
 refine oN ?_
 refine pq (qm (.one (uI n13))) ?_
 by_cases c15 : n13 ≠ 0
 replace h := ifT c15 h
 refine pq (qb (p_neq_tZ c15)) ?_
 refine oE (eS (cT rfl (lS (lO ?_))))
 refine pq (qm (iO (maxI n2 0))) ?_
 refine pq (qm (.one (uI n13))) ?_
 obtain ⟨n17, h16, h⟩ := bindS h
 refine pq (qc (iO n17) [.one (uI n13)] (TZ_r (m + 1) h16) (vw_cons (vd_one vc_v) vw_nil)) ?_
 refine pq (qb p_addY) ?_
 refine ow [[iI (IntKind.i64.wrap ((maxI n2 0) + n17))]] 0 sz3 ?_
 refine oE (eS (lR (eR ?_)))
 obtain rfl := sj h
 exact E_endF (.inr rfl) (res_cell (d := .one (iI (IntKind.i64.wrap ((maxI n2 0) + n17)))) 0 rfl sz3 rfl rfl rfl rfl res_nil) (vw_cons (vd_one vc_v) vw_nil) oP rfl rfl
 replace h := ifF c15 h
 refine pq (qb (p_neq_fZ c15)) ?_
 refine oE (eS (cF rfl (lK (eS (lS (lO ?_))))))
 refine pq (qm (iO (maxI n2 0))) ?_
 refine pq (q_bin rfl rfl (divO_p h7) rfl) ?_
 refine pq (qb p_addY) ?_
 refine ol_new rfl rfl rfl (q_alloc ty3 (row := [iI 0]) rfl rfl) (fun k18 => ?_)
 refine ow [[iI (IntKind.i64.wrap (n6 + 1))]] 0 sz3 ?_
 refine oE (eS (lS (lS (lO ?_))))
 refine pq (qm (.one (sF r66 s1))) ?_
 refine pq (ql (iO (IntKind.i64.wrap (n6 + 1))) 0 sz3) ?_
 obtain ⟨s19, h20, h⟩ := bindS h
 refine pq (q_sliceS (r := r66) h20 rfl ty27 rfl ty66 (no_some rfl (cutS_some h20).1.1 _) (no_none _)) ?_
 refine ol_scallN (args := [.one (sF r66 s19)]) rfl rfl rfl ax38 (by rw [E1_fn]; exact show fiOf Tryd.prog 38 = _ by unfold fiOf; rw [Tryd.func38]; unfold Tryd.f38; rfl) rfl rfl rfl ?_
 dsimp only
 refine lS (lO ?_)
 refine ol_new rfl rfl rfl (q_box ty27 rfl (cs := [sF r66 s19]) rfl rfl) (fun k21 => ?_)
 refine pq (qa (.one (.p true (.v .nilFunc)))) ?_
 refine oN ?_
 refine pq (q_mkfun rfl rfl) ?_
 refine pq (qa (.one (.clo (.func 46) [] [.ptr k21 0 0]))) ?_
 refine oE (eS (lR ?_))
 refine E_call (v := .one (.clo (.func 46) [] [.ptr k21 0 0])) (.inr rfl) (res_tmp (d := .one (.clo (.func 46) [] [.ptr k21 0 0])) rfl res_nil) rfl ?_
 refine oE (eS (lB ?_))
 refine L_range rfl (by rw [E1_fn]; exact show fiOf Tryd.prog 46 = _ by unfold fiOf; rw [Tryd.func46]; unfold Tryd.f46; rfl) rfl rfl (fun k22 => ?_)
 dsimp only
 refine lS (lO ?_)
 refine pq (ql (.one (sF r66 s19)) 1 sz27) ?_
 refine pq (q_lenS rfl ty27 rfl rfl rfl rfl) ?_
 refine pq (qm (iO 0)) ?_
 refine oE (eS (lB ?_))
 let S1 : Int → Unit → (Nat → D) → Nat → D := fun a kt g => ups g [(0, .one (.yld k22)), (5, .one (sF r66 s19)), (6, .one (iI ((s19.l.length : Nat) : Int))), (7, iO a)]
 let SL1 : Int → Unit → BL := fun a kt => ([[(k22, 0, [])], [(k3, 1, [[iI 0]])], [(k18, 1, [[iI (IntKind.i64.wrap (n6 + 1))]])]] : BL)
 let G1 : Empty → Ex → St → Prop := fun u => u.elim
 let Sx1_1 : Unit → Unit → (Nat → D) → Nat → D := fun a kt g => ups g []
 let SLx1_1 : Unit → Unit → BL := fun a kt => ([[(k3, 1, [[iI 0]])], [(k18, 1, [[iI (IntKind.i64.wrap (n6 + 1))]])], [(k22, 0, [])]] : BL)
 let Sx1_0 : Int → Unit → (Nat → D) → Nat → D := fun a kt g => ups g []
 let SLx1_0 : Int → Unit → BL := fun a kt => ([[(k3, 1, [[iI a]])], [(k18, 1, [[iI (IntKind.i64.wrap (n6 + 1))]])], [(k22, 0, [[]])]] : BL)
 let J1 : (Int ⊕ (Unit ⊕ Empty)) → Ex → St → Prop := JE 27 .ret Sx1_0 SLx1_0 (JE 27 (.exit 0) Sx1_1 SLx1_1 (JU G1))
 refine L_loopS (flags_Next_b1 n6 s19) S1 SL1 J1 (JE_n rfl (JE_n rfl (JU_n))) 0 h () (ups_self ⟨rfl, rfl, rfl, rfl, trivial⟩) [0, 3, 2] (by decide) rfl ?_ ?_
 rintro n46 _ g out h
 change flags_Next_b1 n6 s19 n46 = some out at h
 unfold flags_Next_b1 at h
 refine lS (lO ?_)
 by_cases c47 : n46 < ((s19.l.length : Nat) : Int)
 replace h := ifT c47 h
 refine pq (qb (p_lss_tZ c47)) ?_
 refine oE (eS (lS (cT rfl (lK (eS (lS (lB (lS (lO ?_)))))))))
 refine pq (qm (iO n46)) ?_
 obtain ⟨n50, h49, h⟩ := bindS h
 obtain ⟨h49a, h49b, h49⟩ := atS_some h49
 refine pq (q_ixS rfl rfl h49a h49 (el27.trans (congrArg some h49b.symm))) ?_
 refine pq (q_loadI (v := .one (uI n50)) rfl sz66 (map_get h49) rfl rfl) ?_
 refine pq (qa (iO n46)) ?_
 refine pq (qa (.one (uI n50))) ?_
 refine oE (eS (lB ?_))
 let S2 : Unit → Unit → (Nat → D) → Nat → D := fun a kt g => ups g [(0, .one (.yld k22)), (3, iO n46), (4, .one (uI n50)), (5, .one (sF r66 s19)), (6, .one (iI ((s19.l.length : Nat) : Int))), (7, iO n46)]
 let SL2 : Unit → Unit → BL := fun a kt => ([[(k22, 0, [])], [(k3, 1, [[iI 0]])], [(k18, 1, [[iI (IntKind.i64.wrap (n6 + 1))]])]] : BL)
 let G2 : Empty → Ex → St → Prop := fun u => u.elim
 let Sx2_1 : Unit → Unit → (Nat → D) → Nat → D := fun a kt g => ups g [(0, .one (.yld k22)), (5, .one (sF r66 s19)), (6, .one (iI ((s19.l.length : Nat) : Int))), (7, iO n46)]
 let SLx2_1 : Unit → Unit → BL := fun a kt => ([[(k22, 0, [])], [(k3, 1, [[iI 0]])], [(k18, 1, [[iI (IntKind.i64.wrap (n6 + 1))]])]] : BL)
 let Sx2_0 : Int → Unit → (Nat → D) → Nat → D := fun a kt g => ups g []
 let SLx2_0 : Int → Unit → BL := fun a kt => ([[(k3, 1, [[iI a]])], [(k18, 1, [[iI (IntKind.i64.wrap (n6 + 1))]])], [(k22, 0, [[]])]] : BL)
 let J2 : (Int ⊕ (Unit ⊕ Empty)) → Ex → St → Prop := JE 27 .ret Sx2_0 SLx2_0 (JE 27 (.exit 2) Sx2_1 SLx2_1 (JU G2))
 refine L_loopS (flags_Next_b2 n6 n46 n50) S2 SL2 J2 (JE_n rfl (JE_n rfl (JU_n))) () h () (ups_self ⟨rfl, rfl, rfl, rfl, rfl, rfl, trivial⟩) [0, 1, 2] (by decide) rfl ?_ ?_
 rintro _ _ g out h
 change flags_Next_b2 n6 n46 n50 () = some out at h
 unfold flags_Next_b2 at h
 refine lS (lS (lO ?_))
 refine pq (qm (.one (uI n50))) ?_
 by_cases c54 : n50 ≠ 0
 replace h := ifT c54 h
 refine pq (qb (p_neq_tZ c54)) ?_
 refine oE (eS (cT rfl (lK (eS (lS (lB (lS (lO ?_))))))))
 refine pq (qm (.one (.yld k22))) ?_
 refine pq (qm (iO n46)) ?_
 refine pq (qb p_mulY) ?_
 refine pq (qm (.one (uI n50))) ?_
 obtain ⟨n56, h55, h⟩ := bindS h
 refine pq (qc (iO n56) [.one (uI n50)] (TZ_r (m + 0) h55) (vw_cons (vd_one vc_v) vw_nil)) ?_
 refine pq (qb p_addY) ?_
 refine ol_yield (args := [.one (iI (IntKind.i64.wrap ((IntKind.i64.wrap (n46 * 64)) + n56)))]) (p := 0) rfl rfl rfl rfl rfl rfl rfl rfl rfl ?_
 refine lO ?_
 refine pq (qa (.one (iI (IntKind.i64.wrap ((IntKind.i64.wrap (n46 * 64)) + n56))))) ?_
 refine oE ?_
 refine E_asg ?_
 refine lB (lS (lO ?_))
 refine pq (ql (iO (IntKind.i64.wrap (n6 + 1))) 2 sz3) ?_
 refine pq (qb p_mulY) ?_
 refine pq (qm (.one (iI (IntKind.i64.wrap ((IntKind.i64.wrap (n46 * 64)) + n56))))) ?_
 refine pq (qb p_addY) ?_
 refine ow [[iI (IntKind.i64.wrap ((IntKind.i64.wrap ((IntKind.i64.wrap (n6 + 1)) * 64)) + (IntKind.i64.wrap ((IntKind.i64.wrap (n46 * 64)) + n56))))]] 1 sz3 ?_
 refine oE (eS (lR (bR ?_)))
 refine E_roundX (p := 0) (es := [[]]) rfl rfl rfl rfl ?_
 refine pq (q_not rfl) ?_
 refine oE (eS (cT rfl (lR (bR (eR ?_)))))
 obtain rfl := sj h
 refine E_out ?_
 exact (E_je () (ups_self trivial) [1, 2, 0] (by decide) rfl)
 replace h := ifF c54 h
 refine pq (qb (p_neq_fZ c54)) ?_
 refine oE (eS (cF rfl (L_exit ?_)))
 refine E_seqX ?_
 obtain rfl := sj h
 refine E_out ?_
 exact E_js ((E_je () (ups_self ⟨rfl, rfl, rfl, rfl, trivial⟩) [0, 1, 2] (by decide) rfl))
 rintro (n57 | _ | u) h
 refine J_e (fun kt g => ?_)
 replace h := elimL h
 refine bR (bR (eR ?_))
 obtain rfl := sj h
 refine E_out ?_
 exact (E_je () (ups_self trivial) [0, 1, 2] (by decide) rfl)
 refine J_s (J_e (fun kt g => ?_))
 replace h := elimL (elimR h)
 refine bH (bN (eS (lO ?_)))
 refine pq (qb p_addY) ?_
 refine pq (qm (iO (IntKind.i64.wrap (n46 + 1)))) ?_
 refine oE ?_
 obtain rfl := sj h
 exact E_next () (ups_self ⟨rfl, rfl, rfl, rfl, trivial⟩) [0, 1, 2] (by decide) rfl
 exact u.elim
 replace h := ifF c47 h
 refine pq (qb (p_lss_fZ c47)) ?_
 refine oE (eS (lS (cF rfl (L_exit ?_))))
 refine E_seqX ?_
 obtain rfl := sj h
 refine E_out ?_
 exact E_js ((E_je () (ups_self trivial) [1, 2, 0] (by decide) rfl))
 rintro (n58 | _ | u) h
 refine J_e (fun kt g => ?_)
 replace h := elimL h
 refine bR ?_
 refine E_range (p := 2) (.inr rfl) rfl ?_
 refine bR (eR ?_)
 obtain rfl := sj h
 exact E_endF (.inr rfl) (res_cell (d := iO n58) 0 rfl sz3 rfl rfl rfl rfl res_nil) (vw_cons (vd_one vc_v) vw_nil) oP rfl rfl
 refine J_s (J_e (fun kt g => ?_))
 replace h := elimL (elimR h)
 refine bH ?_
 refine E_range (p := 2) (.inl rfl) rfl ?_
 refine bN (eS (lS (lO ?_)))
 refine ow [[iI (-1)]] 0 sz3 ?_
 refine oE (eS (lR ?_))
 obtain rfl := sj h
 exact E_endF (.inr rfl) (res_cell (d := .one (iI (-1))) 0 rfl sz3 rfl rfl rfl rfl res_nil) (vw_cons (vd_one vc_v) vw_nil) oP rfl rfl
 exact u.elim
noncomputable def flags_Right (s1 : Sl (Int)) (n2 : Int) : Option (Bool) :=
 (if n2 ≥ 0 then (if n2 ≤ 4096 then ((flags_words n2).bind fun n6 => (if ((s1.l.length : Nat) : Int) = n6 then ((flags_Next s1 n2).bind fun n9 => (if n9 < 0 then some true else some false)) else some false)) else some false) else some false)
theorem flags_Right_r (m : Nat) {s1 : Sl (Int)} {n2 : Int} {out : Bool} (h : flags_Right s1 n2 = some out) : RunsP E1 (m + 4) 45 [.one (Sl.t r66 s1), .one (iT .i64 n2)] (.fresh, [.one (bT out)]) := by
 refine fn_F rfl (by rw [E1_fn]; exact show fiOf Tryd.prog 45 = _ by unfold fiOf; rw [Tryd.func45]; unfold Tryd.f45; rfl) rfl ?_
 dsimp only
 unfold flags_Right at h
 refine lS (lO ?_)
 refine pq (qa bf) ?_
 refine oN ?_
 refine pq (qm (iO n2)) ?_
 by_cases c3 : n2 ≥ 0
 replace h := ifT c3 h
 refine pq (qb (p_geq_tZ c3)) ?_
 refine pq (qm bt) ?_
 refine pq (qm (iO n2)) ?_
 by_cases c4 : n2 ≤ 4096
 replace h := ifT c4 h
 refine pq (qb (p_leq_tZ c4)) ?_
 refine pq (qpt bt) ?_
 refine pq (qm bt) ?_
 refine pq (qm (.one (sF r66 s1))) ?_
 refine pq (q_lenS rfl ty27 rfl rfl rfl rfl) ?_
 refine pq (qm (iO n2)) ?_
 obtain ⟨n6, h5, h⟩ := bindS h
 refine pq (qc (iO n6) [iO n2] (flags_words_r (m + 2) h5) (vw_cons (vd_one vc_v) vw_nil)) ?_
 by_cases c7 : ((s1.l.length : Nat) : Int) = n6
 replace h := ifT c7 h
 refine pq (qb (p_eql_tZ c7)) ?_
 refine pq (qpt bt) ?_
 refine pq (qm bt) ?_
 refine pq (qm (.one (sF r66 s1))) ?_
 refine pq (qm (iO n2)) ?_
 obtain ⟨n9, h8, h⟩ := bindS h
 refine pq (qc (iO n9) [.one (sF r66 s1), iO n2] (flags_Next_r (m + 0) h8) (vw_cons (vd_one vc_s) (vw_cons (vd_one vc_v) vw_nil))) ?_
 by_cases c10 : n9 < 0
 replace h := ifT c10 h
 refine pq (qb (p_lss_tZ c10)) ?_
 refine pq (qpt bt) ?_
 refine pq (qa bt) ?_
 refine oE (eS (lR ?_))
 obtain rfl := sj h
 exact eF1
 replace h := ifF c10 h
 refine pq (qb (p_lss_fZ c10)) ?_
 refine pq (qpt bf) ?_
 refine pq (qa bf) ?_
 refine oE (eS (lR ?_))
 obtain rfl := sj h
 exact eF1
 replace h := ifF c7 h
 refine pq (qb (p_eql_fZ c7)) ?_
 refine pq (qpt bf) ?_
 refine pq (qm bf) ?_
 iterate 4 refine os ?_
 refine pq (qpf bf) ?_
 refine pq (qa bf) ?_
 refine oE (eS (lR ?_))
 obtain rfl := sj h
 exact eF1
 replace h := ifF c4 h
 refine pq (qb (p_leq_fZ c4)) ?_
 refine pq (qpt bf) ?_
 refine pq (qm bf) ?_
 iterate 5 refine os ?_
 refine pq (qpf bf) ?_
 refine pq (qm bf) ?_
 iterate 4 refine os ?_
 refine pq (qpf bf) ?_
 refine pq (qa bf) ?_
 refine oE (eS (lR ?_))
 obtain rfl := sj h
 exact eF1
 replace h := ifF c3 h
 refine pq (qb (p_geq_fZ c3)) ?_
 refine pq (qm bf) ?_
 iterate 2 refine os ?_
 refine pq (qpf bf) ?_
 refine pq (qm bf) ?_
 iterate 5 refine os ?_
 refine pq (qpf bf) ?_
 refine pq (qm bf) ?_
 iterate 4 refine os ?_
 refine pq (qpf bf) ?_
 refine pq (qa bf) ?_
 refine oE (eS (lR ?_))
 obtain rfl := sj h
 exact eF1
noncomputable def flags_Has (s1 : Sl (Int)) (n2 : Int) : Option (Bool) :=
 ((flags_within s1 n2).bind fun b4 => (if b4 = true then ((divO .i64 n2 64).bind fun n5 => ((atS 1 s1 n5).bind fun n9 => ((flags_bit n2).bind fun n11 => (if (andI .u64 n9 n11) ≠ 0 then some true else some false)))) else some false))
theorem flags_Has_r (m : Nat) {s1 : Sl (Int)} {n2 : Int} {out : Bool} (h : flags_Has s1 n2 = some out) : RunsP E1 (m + 2) 37 [.one (Sl.t r66 s1), .one (iT .i64 n2)] (.fresh, [.one (bT out)]) := by
 refine fn_F rfl (by rw [E1_fn]; exact show fiOf Tryd.prog 37 = _ by unfold fiOf; rw [Tryd.func37]; unfold Tryd.f37; rfl) rfl ?_
 dsimp only
 unfold flags_Has at h
 refine lS (lO ?_)
 refine pq (qa bf) ?_
 refine oE (eS (lS ?_))
 refine L_still (by kernel_rfl) ?_
 refine sq (qm (.one (sF r66 s1))) ?_
 refine sq (qm (iO n2)) ?_
 obtain ⟨b4, h3, h⟩ := bindS h
 refine sq (qc (bO b4) [.one (sF r66 s1), iO n2] (flags_within_r (m + 0) h3) (vw_cons (vd_one vc_s) (vw_cons (vd_one vc_v) vw_nil))) ?_
 refine sq (qm (bO b4)) ?_
 rcases b4 with _ | _
 replace h := wF h
 iterate 9 refine ss ?_
 refine sq (qpf bf) ?_
 refine sq (qa bf) ?_
 refine st_end (eS (lR ?_))
 obtain rfl := sj h
 exact eF1
 replace h := wT h
 refine sq (qm (.one (sF r66 s1))) ?_
 refine sq (qm (iO n2)) ?_
 obtain ⟨n5, h6, h⟩ := bindS h
 refine sq (q_bin rfl rfl (divO_p h6) rfl) ?_
 obtain ⟨n9, h8, h⟩ := bindS h
 obtain ⟨h8a, h8b, h8⟩ := atS_some h8
 refine sq (q_ixS rfl rfl h8a h8 (el27.trans (congrArg some h8b.symm))) ?_
 refine sq (q_loadI (v := .one (uI n9)) rfl sz66 (map_get h8) rfl rfl) ?_
 refine sq (qm (iO n2)) ?_
 obtain ⟨n11, h10, h⟩ := bindS h
 refine sq (qc (.one (uI n11)) [iO n2] (flags_bit_r (m + 0) h10) (vw_cons (vd_one vc_v) vw_nil)) ?_
 refine sq (q_bin rfl rfl (p_and _ _ _ _ _ _ _) rfl) ?_
 by_cases c12 : (andI .u64 n9 n11) ≠ 0
 replace h := ifT c12 h
 refine sq (qb (p_neq_tZ c12)) ?_
 refine sq (qpt bt) ?_
 refine sq (qa bt) ?_
 refine st_end (eS (lR ?_))
 obtain rfl := sj h
 exact eF1
 replace h := ifF c12 h
 refine sq (qb (p_neq_fZ c12)) ?_
 refine sq (qpt bf) ?_
 refine sq (qa bf) ?_
 refine st_end (eS (lR ?_))
 obtain rfl := sj h
 exact eF1
noncomputable def devec_Right_b1 (s2 : Sl (Int)) (s3 : Sl (Int)) (n23 : Int) : Option (Int ⊕ (Unit ⊕ Bool)) :=
 (if n23 < ((s3.l.length : Nat) : Int) then ((atS 1 s3 n23).bind fun n27 => (if n27 ≠ 0 then ((flags_Has s2 n23).bind fun b30 => (if b30 = true then some (.inl (IntKind.i64.wrap (n23 + 1))) else some (.inr (.inr false)))) else some (.inl (IntKind.i64.wrap (n23 + 1))))) else some (.inr (.inl ())))
noncomputable def devec_Right (a0 : Int × Sl (Int) × Sl (Int)) : Option (Bool) :=
 match a0 with
 | (n1, s2, s3) => ((flags_Right s2 n1).bind fun b6 => (if b6 = true then (if ((s3.l.length : Nat) : Int) ≠ n1 then some false else ((loopO (devec_Right_b1 s2 s3) 0).bind (Sum.elim (fun _ => some true) (fun u => some u)))) else some false))
theorem devec_Right_r (m : Nat) {a0 : Int × Sl (Int) × Sl (Int)} {out : Bool} (h : devec_Right a0 = some out) : RunsP E1 (m + 5) 35 [.agg (r29 a0)] (.fresh, [.one (bT out)]) := by
 obtain ⟨n1, s2, s3⟩ := a0
 refine fn_F rfl (by rw [E1_fn]; exact show fiOf Tryd.prog 35 = _ by unfold fiOf; rw [Tryd.func35]; unfold Tryd.f35; rfl) rfl ?_
 dsimp only
 unfold devec_Right at h
 refine lS (lO ?_)
 refine ol_new rfl rfl rfl (q_box ty30 rfl (cs := [iI n1, sF r66 s2, sF r2 s3]) rfl rfl) (fun k4 => ?_)
 refine pq (qa bf) ?_
 refine oE (eS (lS (lS (lO ?_))))
 refine pq (q_fieldP rfl fa30_1 rfl) ?_
 refine pq (ql (.one (sF r66 s2)) 0 sz27) ?_
 refine pq (q_fieldP rfl fa30_0 rfl) ?_
 refine pq (ql (iO n1) 0 sz3) ?_
 obtain ⟨b6, h5, h⟩ := bindS h
 refine pq (qc (bO b6) [.one (sF r66 s2), iO n1] (flags_Right_r (m + 0) h5) (vw_cons (vd_one vc_s) (vw_cons (vd_one vc_v) vw_nil))) ?_
 rcases b6 with _ | _
 replace h := wF h
 refine pq (q_not rfl) ?_
 refine pq (qm bt) ?_
 iterate 6 refine os ?_
 refine pq (qpt bt) ?_
 refine oE (eS (cT rfl (lS (lO ?_))))
 refine pq (qa bf) ?_
 refine oE (eS (lR (eR ?_)))
 obtain rfl := sj h
 exact eF1
 replace h := wT h
 refine pq (q_not rfl) ?_
 refine pq (qm bf) ?_
 refine pq (q_fieldP rfl fa30_2 rfl) ?_
 refine pq (ql (.one (sF r2 s3)) 0 sz28) ?_
 refine pq (q_lenS rfl ty28 rfl rfl rfl rfl) ?_
 refine pq (q_fieldP rfl fa30_0 rfl) ?_
 refine pq (ql (iO n1) 0 sz3) ?_
 by_cases c7 : ((s3.l.length : Nat) : Int) ≠ n1
 replace h := ifT c7 h
 refine pq (qb (p_neq_tZ c7)) ?_
 refine pq (qpf bt) ?_
 refine oE (eS (cT rfl (lS (lO ?_))))
 refine pq (qa bf) ?_
 refine oE (eS (lR (eR ?_)))
 obtain rfl := sj h
 exact eF1
 replace h := ifF c7 h
 refine pq (qb (p_neq_fZ c7)) ?_
 refine pq (qpf bf) ?_
 refine oE (eS (cF rfl (lK (eS (lS (lS (lO ?_)))))))
 refine pq (q_fieldP rfl fa30_2 rfl) ?_
 refine pq (ql (.one (sF r2 s3)) 0 sz28) ?_
 refine pq (q_lenS rfl ty28 rfl rfl rfl rfl) ?_
 refine pq (qm (iO 0)) ?_
 refine oE (eS (lB ?_))
 let S1 : Int → Unit → (Nat → D) → Nat → D := fun a kt g => ups g [(1, .one (.ptr k4 0 0)), (20, .one (sF r2 s3)), (21, .one (iI ((s3.l.length : Nat) : Int))), (22, iO a)]
 let SL1 : Int → Unit → BL := fun a kt => ([[(k4, 3, [[iI n1, sF r66 s2, sF r2 s3]])]] : BL)
 let G1 : Bool → Ex → St → Prop := fun u => endQ E1 [.tmp 2] (.fresh, [.one (bT u)])
 let Sx1 : Unit → Unit → (Nat → D) → Nat → D := fun a kt g => ups g []
 let SLx1 : Unit → Unit → BL := fun a kt => ([] : BL)
 let J1 : (Unit ⊕ Bool) → Ex → St → Prop := JX 37 0 Sx1 SLx1 G1
 refine L_loopS (devec_Right_b1 s2 s3) S1 SL1 J1 JX_n 0 h () (ups_self ⟨rfl, rfl, rfl, rfl, trivial⟩) [0] (by decide) rfl ?_ ?_
 rintro n23 _ g out h
 change devec_Right_b1 s2 s3 n23 = some out at h
 unfold devec_Right_b1 at h
 refine lS (lO ?_)
 by_cases c24 : n23 < ((s3.l.length : Nat) : Int)
 replace h := ifT c24 h
 refine pq (qb (p_lss_tZ c24)) ?_
 refine oE (eS (lS (cT rfl (lK (eS (lS (lB (lS (lO ?_)))))))))
 refine pq (qm (iO n23)) ?_
 obtain ⟨n27, h26, h⟩ := bindS h
 obtain ⟨h26a, h26b, h26⟩ := atS_some h26
 refine pq (q_ixS rfl rfl h26a h26 (el28.trans (congrArg some h26b.symm))) ?_
 refine pq (q_loadI (v := iO n27) rfl sz2 (map_get h26) rfl rfl) ?_
 refine pq (qa (iO n23)) ?_
 refine pq (qa (iO n27)) ?_
 refine oN ?_
 refine pq (qm (iO n27)) ?_
 by_cases c28 : n27 ≠ 0
 replace h := ifT c28 h
 refine pq (qb (p_neq_tZ c28)) ?_
 refine pq (qm bt) ?_
 refine pq (q_fieldP rfl fa30_1 rfl) ?_
 refine pq (ql (.one (sF r66 s2)) 0 sz27) ?_
 refine pq (qm (iO n23)) ?_
 obtain ⟨b30, h29, h⟩ := bindS h
 refine pq (qc (bO b30) [.one (sF r66 s2), iO n23] (flags_Has_r (m + 2) h29) (vw_cons (vd_one vc_s) (vw_cons (vd_one vc_v) vw_nil))) ?_
 rcases b30 with _ | _
 replace h := wF h
 refine pq (q_not rfl) ?_
 refine pq (qpt bt) ?_
 refine oE (eS (cT rfl (lS (lO ?_))))
 refine pq (qa bf) ?_
 refine oE (eS (lR (bR (eR ?_))))
 obtain rfl := sj h
 exact E_out (E_up (eF1))
 replace h := wT h
 refine pq (q_not rfl) ?_
 refine pq (qpt bf) ?_
 refine oE (eS (cF rfl (lK (bN (eS (lO ?_))))))
 refine pq (qb p_addY) ?_
 refine pq (qm (iO (IntKind.i64.wrap (n23 + 1)))) ?_
 refine oE ?_
 obtain rfl := sj h
 exact E_next () (ups_self ⟨rfl, rfl, rfl, rfl, trivial⟩) [0] (by decide) rfl
 replace h := ifF c28 h
 refine pq (qb (p_neq_fZ c28)) ?_
 refine pq (qm bf) ?_
 iterate 5 refine os ?_
 refine pq (qpf bf) ?_
 refine oE (eS (cF rfl (lK (bN (eS (lO ?_))))))
 refine pq (qb p_addY) ?_
 refine pq (qm (iO (IntKind.i64.wrap (n23 + 1)))) ?_
 refine oE ?_
 obtain rfl := sj h
 exact E_next () (ups_self ⟨rfl, rfl, rfl, rfl, trivial⟩) [0] (by decide) rfl
 replace h := ifF c24 h
 refine pq (qb (p_lss_fZ c24)) ?_
 refine oE (eS (lS (cF rfl (L_exit ?_))))
 refine E_seqX ?_
 obtain rfl := sj h
 refine E_out ?_
 exact (E_exit () (ups_self trivial) [] (by decide) rfl)
 rintro (_ | u) h
 refine J_x (fun kt g => ?_)
 replace h := elimL h
 refine bH (eS (lS (lO ?_)))
 refine pq (qa bt) ?_
 refine oE (eS (lR ?_))
 obtain rfl := sj h
 exact eF1
 obtain rfl := Option.some.inj (elimR h)
 exact J_up (fun s hs => hs)
noncomputable def devec_sure (a0 : Int × Sl (Int) × Sl (Int)) : Option ((Int × Sl (Int) × Sl (Int))) :=
 match a0 with
 | (n1, s2, s3) => ((devec_Right (n1, s2, s3)).bind fun b7 => (if b7 = true then some (n1, s2, s3) else some (0, (⟨false, 0, []⟩ : Sl (Int)), (⟨false, 0, []⟩ : Sl (Int)))))
theorem devec_sure_r (m : Nat) {a0 : Int × Sl (Int) × Sl (Int)} {out : (Int × Sl (Int) × Sl (Int))} (h : devec_sure a0 = some out) : RunsX E1 (m + 6) 22 [.agg (r29 a0)] [.agg (r29 out)] := by
 obtain ⟨n1, s2, s3⟩ := a0
 refine fn_X rfl (by rw [E1_fn]; exact show fiOf Tryd.prog 22 = _ by unfold fiOf; rw [Tryd.func22]; unfold Tryd.f22; rfl) rfl ?_
 dsimp only
 unfold devec_sure at h
 refine lS (lO ?_)
 refine ol_new rfl rfl rfl (q_box ty30 rfl (cs := [iI n1, sF r66 s2, sF r2 s3]) rfl rfl) (fun k4 => ?_)
 refine ol_new rfl rfl rfl (q_alloc ty30 (row := [iI 0, nC, nC]) rfl rfl) (fun k5 => ?_)
 refine oE (eS (lS (lS (lO ?_))))
 refine pq (ql (.agg [iI n1, sF r66 s2, sF r2 s3]) 1 sz30) ?_
 obtain ⟨b7, h6, h⟩ := bindS h
 refine pq (qc (bO b7) [.agg [iI n1, sF r66 s2, sF r2 s3]] (devec_Right_r (m + 0) h6) (vw_cons (vd_agg (vc_cons vc_v (vc_cons vc_s (vc_cons vc_s vc_nil)))) vw_nil)) ?_
 refine oE (eS ?_)
 rcases b7 with _ | _
 replace h := wF h
 refine cF rfl (lK (eS (lS (lO ?_))))
 refine pq (q_build (cs := [iI 0, nC, nC]) ty30 rfl pl30 rfl) ?_
 refine ow [[iI 0, nC, nC]] 0 sz30 ?_
 refine oE (eS (lR ?_))
 obtain rfl := sj h
 exact E_endX (.inr rfl) (res_cell (d := .agg [iI 0, nC, nC]) 0 rfl sz30 rfl rfl rfl rfl res_nil) (vw_cons (vd_agg (vc_cons vc_v (vc_cons vc_s (vc_cons vc_s vc_nil)))) vw_nil) oG rfl
 replace h := wT h
 refine cT rfl (lS (lO ?_))
 refine pq (ql (.agg [iI n1, sF r66 s2, sF r2 s3]) 1 sz30) ?_
 refine ow [[iI n1, sF r66 s2, sF r2 s3]] 0 sz30 ?_
 refine oE (eS (lR (eR ?_)))
 obtain rfl := sj h
 exact E_endX (.inr rfl) (res_cell (d := .agg [iI n1, sF r66 s2, sF r2 s3]) 0 rfl sz30 rfl rfl rfl rfl res_nil) (vw_cons (vd_agg (vc_cons vc_v (vc_cons vc_s (vc_cons vc_s vc_nil)))) vw_nil) oG rfl
noncomputable def flags_Part_b2 (n2 : Int) (n3 : Int) (n225 : Int) (a : Int × List (Int)) : Option ((Int × List (Int)) ⊕ ((List (Int)) ⊕ ((List (Int)) ⊕ Empty))) :=
 match a with
 | (n302, l303) => (if n302 ≠ 0 then ((TZ n302).bind fun n307 => (if (IntKind.i64.wrap ((IntKind.i64.wrap (n225 * 64)) + n307)) ≥ n3 then some (.inr (.inl l303)) else (if (IntKind.i64.wrap ((IntKind.i64.wrap (n225 * 64)) + n307)) ≥ (maxI n2 0) then ((flags_within (⟨true, 1, l303⟩ : Sl (Int)) (IntKind.i64.wrap ((IntKind.i64.wrap ((IntKind.i64.wrap (n225 * 64)) + n307)) - (maxI n2 0)))).bind fun b311 => (if b311 = true then ((divO .i64 (IntKind.i64.wrap ((IntKind.i64.wrap ((IntKind.i64.wrap (n225 * 64)) + n307)) - (maxI n2 0))) 64).bind fun n320 => ((atL l303 n320).bind fun n324 => ((flags_bit (IntKind.i64.wrap ((IntKind.i64.wrap ((IntKind.i64.wrap (n225 * 64)) + n307)) - (maxI n2 0)))).bind fun n326 => some (.inl ((andI .u64 n302 (IntKind.u64.wrap (n302 - 1))), (l303.set n320.toNat (orI .u64 n324 n326))))))) else some (.inl ((andI .u64 n302 (IntKind.u64.wrap (n302 - 1))), l303)))) else some (.inl ((andI .u64 n302 (IntKind.u64.wrap (n302 - 1))), l303))))) else some (.inr (.inr (.inl l303))))
noncomputable def flags_Part_b1 (s1 : Sl (Int)) (n2 : Int) (n3 : Int) (a : Int × List (Int)) : Option ((Int × List (Int)) ⊕ ((List (Int)) ⊕ ((List (Int)) ⊕ Empty))) :=
 match a with
 | (n225, l226) => (if n225 < ((s1.l.length : Nat) : Int) then ((atS 1 s1 n225).bind fun n231 => ((loopO (flags_Part_b2 n2 n3 n225) (n231, l226)).bind ((Sum.elim (fun l327 => some (.inr (.inl l327))) (Sum.elim (fun l329 => some (.inl ((IntKind.i64.wrap (n225 + 1)), l329))) (fun u => u.elim)))))) else some (.inr (.inr (.inl l226))))
noncomputable def flags_Part (s1 : Sl (Int)) (n2 : Int) (n3 : Int) : Option (List (Int)) :=
 (if n3 ≤ (maxI n2 0) then ((flags_New 0).bind fun s8 => some s8) else ((flags_New (IntKind.i64.wrap (n3 - (maxI n2 0)))).bind fun s11 => ((loopO (flags_Part_b1 s1 n2 n3) (0, s11)).bind ((Sum.elim (fun l331 => some l331) (Sum.elim (fun l333 => some l333) (fun u => u.elim)))))))
theorem flags_Part_r (m : Nat) {s1 : Sl (Int)} {n2 : Int} {n3 : Int} {out : List (Int)} (h : flags_Part s1 n2 n3 = some out) : RunsP E1 (m + 3) 24 [.one (Sl.t r66 s1), .one (iT .i64 n2), .one (iT .i64 n3)] (.own, [.one (.s true 1 ((out).map r66))]) := by
 refine fn_O rfl (by rw [E1_fn]; exact show fiOf Tryd.prog 24 = _ by unfold fiOf; rw [Tryd.func24]; unfold Tryd.f24; rfl) rfl ?_
 dsimp only
 unfold flags_Part at h
 refine lS (lO ?_)
 refine ol_new rfl rfl rfl (q_box ty3 rfl (cs := [iI n2]) rfl rfl) (fun k4 => ?_)
 refine ol_new rfl rfl rfl (q_box ty3 rfl (cs := [iI n3]) rfl rfl) (fun k5 => ?_)
 refine pq (qa (.one nC)) ?_
 refine oN ?_
 refine pq (ql (iO n2) 1 sz3) ?_
 refine pq ((q_minmax rfl rfl ty3 rfl rfl).2 rfl) ?_
 refine ow [[iI (maxI n2 0)]] 1 sz3 ?_
 refine oE (eS (lS (lS (lO ?_))))
 refine pq (ql (iO n3) 0 sz3) ?_
 refine pq (ql (iO (maxI n2 0)) 1 sz3) ?_
 by_cases c6 : n3 ≤ (maxI n2 0)
 replace h := ifT c6 h
 refine pq (qb (p_leq_tZ c6)) ?_
 refine oE (eS (cT rfl (lS (lO ?_))))
 obtain ⟨s8, h7, h⟩ := bindS h
 refine ol_new rfl rfl rfl (q_callO (args := [iO 0]) (flags_New_r (m + 0) h7) rfl rfl (vw_cons (vd_one vc_v) vw_nil) rfl) (fun k9 => ?_)
 refine pq (qa (.one (.own k9 0 (s8).length))) ?_
 refine oE (eS (lR (eR ?_)))
 obtain rfl := sj h
 exact E_endO (r := r66) 0 (.inr rfl) (res_tmp rfl res_nil) rfl (fun x h m => rfl) (fun x => rfl)
 replace h := ifF c6 h
 refine pq (qb (p_leq_fZ c6)) ?_
 refine oE (eS (cF rfl (lK (eS (lS (lO ?_))))))
 refine pq (ql (iO n3) 0 sz3) ?_
 refine pq (ql (iO (maxI n2 0)) 1 sz3) ?_
 refine pq (qb p_subY) ?_
 obtain ⟨s11, h10, h⟩ := bindS h
 refine ol_new rfl rfl rfl (q_callO (args := [.one (iI (IntKind.i64.wrap (n3 - (maxI n2 0))))]) (flags_New_r (m + 0) h10) rfl rfl (vw_cons (vd_one vc_v) vw_nil) rfl) (fun k12 => ?_)
 refine ol_new rfl rfl rfl (q_alloc ty27 (row := [nC]) rfl rfl) (fun k13 => ?_)
 refine ow [[.own k12 0 (s11).length]] 0 sz27 ?_
 refine oE (eS (lS (lS (lO ?_))))
 refine pq (qm (.one (sF r66 s1))) ?_
 refine ol_scallN (args := [.one (sF r66 s1)]) rfl rfl rfl ax38 (by rw [E1_fn]; exact show fiOf Tryd.prog 38 = _ by unfold fiOf; rw [Tryd.func38]; unfold Tryd.f38; rfl) rfl rfl rfl ?_
 dsimp only
 refine lS (lO ?_)
 refine ol_new rfl rfl rfl (q_box ty27 rfl (cs := [sF r66 s1]) rfl rfl) (fun k14 => ?_)
 refine pq (qa (.one (.p true (.v .nilFunc)))) ?_
 refine oN ?_
 refine pq (q_mkfun rfl rfl) ?_
 refine pq (qa (.one (.clo (.func 46) [] [.ptr k14 0 0]))) ?_
 refine oE (eS (lR ?_))
 refine E_call (v := .one (.clo (.func 46) [] [.ptr k14 0 0])) (.inr rfl) (res_tmp (d := .one (.clo (.func 46) [] [.ptr k14 0 0])) rfl res_nil) rfl ?_
 refine oE (eS (lB ?_))
 refine L_range rfl (by rw [E1_fn]; exact show fiOf Tryd.prog 46 = _ by unfold fiOf; rw [Tryd.func46]; unfold Tryd.f46; rfl) rfl rfl (fun k15 => ?_)
 dsimp only
 refine lS (lO ?_)
 refine pq (ql (.one (sF r66 s1)) 1 sz27) ?_
 refine pq (q_lenS rfl ty27 rfl rfl rfl rfl) ?_
 refine pq (qm (iO 0)) ?_
 refine oE (eS (lB ?_))
 let S1 : (Int × List (Int)) → Nat → (Nat → D) → Nat → D := fun a kt g => ups g [(0, .one (.yld k15)), (5, .one (sF r66 s1)), (6, .one (iI ((s1.l.length : Nat) : Int))), (7, .one (iI a.1))]
 let SL1 : (Int × List (Int)) → Nat → BL := fun a kt => ([[(k15, 0, [])], [(k4, 1, [[iI (maxI n2 0)]])], [(k5, 1, [[iI n3]])], [(k13, 1, [[.own kt 0 (a.2).length]])], [(kt, 1, (a.2).map (rowC r66))]] : BL)
 let G1 : Empty → Ex → St → Prop := fun u => u.elim
 let Sx1_1 : (List (Int)) → Nat → (Nat → D) → Nat → D := fun a kt g => ups g []
 let SLx1_1 : (List (Int)) → Nat → BL := fun a kt => ([[(k4, 1, [[iI (maxI n2 0)]])], [(k5, 1, [[iI n3]])], [(k13, 1, [[.own kt 0 (a).length]])], [(k15, 0, [])], [(kt, 1, (a).map (rowC r66))]] : BL)
 let Sx1_0 : (List (Int)) → Nat → (Nat → D) → Nat → D := fun a kt g => ups g []
 let SLx1_0 : (List (Int)) → Nat → BL := fun a kt => ([[(k4, 1, [[iI (maxI n2 0)]])], [(k5, 1, [[iI n3]])], [(k13, 1, [[.own kt 0 (a).length]])], [(k15, 0, [[], []])], [(kt, 1, (a).map (rowC r66))]] : BL)
 let J1 : ((List (Int)) ⊕ ((List (Int)) ⊕ Empty)) → Ex → St → Prop := JE 27 .ret Sx1_0 SLx1_0 (JE 27 (.exit 0) Sx1_1 SLx1_1 (JU G1))
 refine L_loopS (flags_Part_b1 s1 n2 n3) S1 SL1 J1 (JE_n rfl (JE_n rfl (JU_n))) (0, s11) h k12 (ups_self ⟨rfl, rfl, rfl, rfl, trivial⟩) [0, 5, 4, 2, 3] (by decide) rfl ?_ ?_
 rintro ⟨n225, l226⟩ k227 g out h
 change flags_Part_b1 s1 n2 n3 (n225, l226) = some out at h
 unfold flags_Part_b1 at h
 refine lS (lO ?_)
 by_cases c228 : n225 < ((s1.l.length : Nat) : Int)
 replace h := ifT c228 h
 refine pq (qb (p_lss_tZ c228)) ?_
 refine oE (eS (lS (cT rfl (lK (eS (lS (lB (lS (lO ?_)))))))))
 refine pq (qm (iO n225)) ?_
 obtain ⟨n231, h230, h⟩ := bindS h
 obtain ⟨h230a, h230b, h230⟩ := atS_some h230
 refine pq (q_ixS rfl rfl h230a h230 (el27.trans (congrArg some h230b.symm))) ?_
 refine pq (q_loadI (v := .one (uI n231)) rfl sz66 (map_get h230) rfl rfl) ?_
 refine pq (qa (iO n225)) ?_
 refine pq (qa (.one (uI n231))) ?_
 refine oE (eS (lB ?_))
 let S2 : (Int × List (Int)) → Nat → (Nat → D) → Nat → D := fun a kt g => ups g [(0, .one (.yld k15)), (3, iO n225), (4, .one (uI a.1)), (5, .one (sF r66 s1)), (6, .one (iI ((s1.l.length : Nat) : Int))), (7, iO n225)]
 let SL2 : (Int × List (Int)) → Nat → BL := fun a kt => ([[(k15, 0, [])], [(k4, 1, [[iI (maxI n2 0)]])], [(k5, 1, [[iI n3]])], [(k13, 1, [[.own kt 0 (a.2).length]])], [(kt, 1, (a.2).map (rowC r66))]] : BL)
 let G2 : Empty → Ex → St → Prop := fun u => u.elim
 let Sx2_1 : (List (Int)) → Nat → (Nat → D) → Nat → D := fun a kt g => ups g [(0, .one (.yld k15)), (5, .one (sF r66 s1)), (6, .one (iI ((s1.l.length : Nat) : Int))), (7, iO n225)]
 let SLx2_1 : (List (Int)) → Nat → BL := fun a kt => ([[(k15, 0, [])], [(k4, 1, [[iI (maxI n2 0)]])], [(k5, 1, [[iI n3]])], [(k13, 1, [[.own kt 0 (a).length]])], [(kt, 1, (a).map (rowC r66))]] : BL)
 let Sx2_0 : (List (Int)) → Nat → (Nat → D) → Nat → D := fun a kt g => ups g []
 let SLx2_0 : (List (Int)) → Nat → BL := fun a kt => ([[(k4, 1, [[iI (maxI n2 0)]])], [(k5, 1, [[iI n3]])], [(k13, 1, [[.own kt 0 (a).length]])], [(k15, 0, [[], []])], [(kt, 1, (a).map (rowC r66))]] : BL)
 let J2 : ((List (Int)) ⊕ ((List (Int)) ⊕ Empty)) → Ex → St → Prop := JE 27 .ret Sx2_0 SLx2_0 (JE 27 (.exit 2) Sx2_1 SLx2_1 (JU G2))
 refine L_loopS (flags_Part_b2 n2 n3 n225) S2 SL2 J2 (JE_n rfl (JE_n rfl (JU_n))) (n231, l226) h k227 (ups_self ⟨rfl, rfl, rfl, rfl, rfl, rfl, trivial⟩) [0, 1, 2, 3, 4] (by decide) rfl ?_ ?_
 rintro ⟨n302, l303⟩ k304 g out h
 change flags_Part_b2 n2 n3 n225 (n302, l303) = some out at h
 unfold flags_Part_b2 at h
 refine lS (lS (lO ?_))
 refine pq (qm (.one (uI n302))) ?_
 by_cases c305 : n302 ≠ 0
 replace h := ifT c305 h
 refine pq (qb (p_neq_tZ c305)) ?_
 refine oE (eS (cT rfl (lK (eS (lS (lB (lS (lO ?_))))))))
 refine pq (qm (.one (.yld k15))) ?_
 refine pq (qm (iO n225)) ?_
 refine pq (qb p_mulY) ?_
 refine pq (qm (.one (uI n302))) ?_
 obtain ⟨n307, h306, h⟩ := bindS h
 refine pq (qc (iO n307) [.one (uI n302)] (TZ_r (m + 0) h306) (vw_cons (vd_one vc_v) vw_nil)) ?_
 refine pq (qb p_addY) ?_
 refine ol_yield (args := [.one (iI (IntKind.i64.wrap ((IntKind.i64.wrap (n225 * 64)) + n307)))]) (p := 0) rfl rfl rfl rfl rfl rfl rfl rfl rfl ?_
 refine lO ?_
 refine pq (qa (.one (iI (IntKind.i64.wrap ((IntKind.i64.wrap (n225 * 64)) + n307))))) ?_
 refine oE ?_
 refine E_asg ?_
 refine lB (lS (lS (lO ?_)))
 refine pq (qm (.one (iI (IntKind.i64.wrap ((IntKind.i64.wrap (n225 * 64)) + n307))))) ?_
 refine pq (ql (iO n3) 2 sz3) ?_
 by_cases c308 : (IntKind.i64.wrap ((IntKind.i64.wrap (n225 * 64)) + n307)) ≥ n3
 replace h := ifT c308 h
 refine pq (qb (p_geq_tZ c308)) ?_
 refine oE (eS (cT rfl (L_exit ?_)))
 refine E_seqX ?_
 refine E_blkX rfl ?_
 refine E_roundX (p := 0) (es := [[], []]) rfl rfl rfl rfl ?_
 refine pq (q_not rfl) ?_
 refine oE (eS (cT rfl (lR (bR (eR ?_)))))
 obtain rfl := sj h
 refine E_out ?_
 exact (E_je k304 (ups_self trivial) [1, 2, 3, 0, 4] (by decide) rfl)
 replace h := ifF c308 h
 refine pq (qb (p_geq_fZ c308)) ?_
 refine oE (eS (cF rfl (lK (eS (lS (lO ?_))))))
 refine pq (qm (.one (iI (IntKind.i64.wrap ((IntKind.i64.wrap (n225 * 64)) + n307))))) ?_
 refine pq (ql (iO (maxI n2 0)) 1 sz3) ?_
 by_cases c309 : (IntKind.i64.wrap ((IntKind.i64.wrap (n225 * 64)) + n307)) ≥ (maxI n2 0)
 replace h := ifT c309 h
 refine pq (qb (p_geq_tZ c309)) ?_
 refine pq (qm bt) ?_
 refine pq (ql (.one (.own k304 0 (l303).length)) 3 sz27) ?_
 refine pq (qm (.one (iI (IntKind.i64.wrap ((IntKind.i64.wrap (n225 * 64)) + n307))))) ?_
 refine pq (ql (iO (maxI n2 0)) 1 sz3) ?_
 refine pq (qb p_subY) ?_
 obtain ⟨b311, h310, h⟩ := bindS h
 refine pq (qc (bO b311) [.one (.own k304 0 (l303).length), .one (iI (IntKind.i64.wrap ((IntKind.i64.wrap ((IntKind.i64.wrap (n225 * 64)) + n307)) - (maxI n2 0))))] (flags_within_r (m + 1) h310) (vw_cons (vd_one (vc_own (r := r66) 4 rfl (fun x h m => rfl))) (vw_cons (vd_one vc_v) vw_nil))) ?_
 refine pq (qpt (bO b311)) ?_
 refine oE (eS ?_)
 rcases b311 with _ | _
 replace h := wF h
 refine cF rfl (lK (bN ?_))
 refine E_roundN (p := 0) rfl ?_
 refine pq (q_not rfl) ?_
 refine oE (eS (cF rfl (lK (bN (eS (lO ?_))))))
 refine pq (qm (.one (uI n302))) ?_
 refine pq (qm (.one (uI n302))) ?_
 refine pq (qb p_subY) ?_
 refine pq (q_bin rfl rfl (p_and _ _ _ _ _ _ _) rfl) ?_
 refine pq (qa (.one (uI (andI .u64 n302 (IntKind.u64.wrap (n302 - 1)))))) ?_
 refine oE ?_
 obtain rfl := sj h
 exact E_next k304 (ups_self ⟨rfl, rfl, rfl, rfl, rfl, rfl, trivial⟩) [0, 1, 2, 3, 4] (by decide) rfl
 replace h := wT h
 refine cT rfl ?_
 refine L_norm (L2 := ([[(k15, 0, [])], [(k4, 1, [[iI (maxI n2 0)]])], [(k5, 1, [[iI n3]])], [(k13, 1, [[.own k304 0 (l303).length]])], [(k304, 1, (l303).map (rowC r66))]] : BL)) [0, 1, 2, 3, 4] (by decide) rfl ?_
 refine L_turn 14 rfl [[], [], [], [], [], [], [], [], [], [], [], [], [], [k304]] [(false, []), (false, []), (false, []), (false, []), (false, []), (false, []), (false, []), (false, []), (false, []), (false, []), (false, []), (false, []), (false, []), (false, [])] [[1, 2, 3, 4, 7, 8, 9, 10], [0, 2, 7, 8, 9, 10], [0, 1, 7, 8, 9, 10], [0, 7, 8, 9, 10], [0, 7, 8, 9, 10], [7, 8, 9, 10], [7, 8, 9, 10], [0, 1, 2, 3, 4, 5, 6, 8], [0, 1, 2, 3, 4, 5, 6, 7], [0, 1, 2, 3, 4, 5, 6], [0, 1, 2, 3, 4, 5, 6], [], [], []] (by kernel_rfl) (by kernel_rfl) (by kernel_rfl) ?_ (fun bb312 hlt hnd => ?_)
 intro bb312 hlt hnd
 exact ⟨⟨djE, ⟨djE, ⟨djE, ⟨djE, ⟨djE, ⟨djE, ⟨djE, ⟨djE, ⟨djE, ⟨djE, ⟨djE, ⟨djE, ⟨djE, ⟨djN, trivial⟩⟩⟩⟩⟩⟩⟩⟩⟩⟩⟩⟩⟩⟩, (ltO_cons ltK_nil (ltO_cons ltK_nil (ltO_cons ltK_nil (ltO_cons ltK_nil (ltO_cons ltK_nil (ltO_cons ltK_nil (ltO_cons ltK_nil (ltO_cons ltK_nil (ltO_cons ltK_nil (ltO_cons ltK_nil (ltO_cons ltK_nil (ltO_cons ltK_nil (ltO_cons ltK_nil (ltO_cons (ltK_cons (key_lt hlt 4 rfl) ltK_nil) ltO_nil))))))))))))))⟩
 refine tq [3] rfl (hm0 rfl) (ql (.one (.own k304 0 (l303).length)) 0 sz27) ?_
 refine tq [] rfl (hm0 rfl) (qm (.one (iI (IntKind.i64.wrap ((IntKind.i64.wrap (n225 * 64)) + n307))))) ?_
 refine tq [1] rfl (hm0 rfl) (ql (iO (maxI n2 0)) 0 sz3) ?_
 refine tn_put rfl rfl rfl [] (by decide) rfl (hm0 rfl) rfl (qb p_subY) ?_
 obtain ⟨n320, h321, h⟩ := bindS h
 refine tq [] rfl (hm0 rfl) (q_bin rfl rfl (divO_p h321) rfl) ?_
 obtain ⟨n324, h323, h⟩ := bindS h
 obtain ⟨h323a, h323⟩ := atL_some h323
 refine tq [4] rfl (hm0 rfl) (q_ixO 0 rfl rfl h323a h323 rfl el27) ?_
 refine tq [4] rfl (hm0 rfl) (q_loadP (v := .one (uI n324)) 0 rfl sz66 rfl (map_get h323) rfl rfl) ?_
 refine tq [] rfl (hm0 rfl) (qm (.one (iI (IntKind.i64.wrap ((IntKind.i64.wrap (n225 * 64)) + n307))))) ?_
 refine tq [1] rfl (hm0 rfl) (ql (iO (maxI n2 0)) 0 sz3) ?_
 refine tn_put rfl rfl rfl [] (by decide) rfl (hm0 rfl) rfl (qb p_subY) ?_
 obtain ⟨n326, h325, h⟩ := bindS h
 refine tq [] rfl (hm0 rfl) (qc (.one (uI n326)) [.one (iI (IntKind.i64.wrap ((IntKind.i64.wrap ((IntKind.i64.wrap (n225 * 64)) + n307)) - (maxI n2 0))))] (flags_bit_r (m + 1) h325) (vw_cons (vd_one vc_v) vw_nil)) ?_
 refine tq [] rfl (hm0 rfl) (q_bin rfl rfl (p_or _ _ _ _ _ _ _) rfl) ?_
 refine tq [4] rfl (hm0 rfl) (q_ixO 0 rfl rfl h323a h323 rfl el27) ?_
 refine tn_wr rfl rfl [4] (by decide) rfl (hm0 rfl) rfl (q_store (e' := rowC r66 (orI .u64 n324 n326)) (es' := ((l303.set n320.toNat (orI .u64 n324 n326))).map (rowC r66)) 0 rfl rfl rfl sz66 rfl rfl (map_get h323) rfl map_set) (q := 4) rfl rfl ?_
 refine tn_re 29 (v := .one (.own k304 0 ((l303.set n320.toNat (orI .u64 n324 n326))).length)) (Eq.trans (b := .one (.own k304 0 (l303).length)) rfl (congrArg D.one own_setC)) ?_
 refine tn_re 35 (v := .one (.own k304 0 ((l303.set n320.toNat (orI .u64 n324 n326))).length)) (Eq.trans (b := .one (.own k304 0 (l303).length)) rfl (congrArg D.one own_setC)) ?_
 refine tn_reS 3 (s' := [(k13, 1, [[.own k304 0 ((l303.set n320.toNat (orI .u64 n324 n326))).length]])]) rfl (congrArg (fun z => ([(k13, 1, [[z]])] : List B1)) own_setC) ?_
 refine tn_end (bN ?_)
 refine E_roundN (p := 0) rfl ?_
 refine pq (q_not rfl) ?_
 refine oE (eS (cF rfl (lK (bN (eS (lO ?_))))))
 refine pq (qm (.one (uI n302))) ?_
 refine pq (qm (.one (uI n302))) ?_
 refine pq (qb p_subY) ?_
 refine pq (q_bin rfl rfl (p_and _ _ _ _ _ _ _) rfl) ?_
 refine pq (qa (.one (uI (andI .u64 n302 (IntKind.u64.wrap (n302 - 1)))))) ?_
 refine oE ?_
 obtain rfl := sj h
 exact E_next k304 (ups_self ⟨rfl, rfl, rfl, rfl, rfl, rfl, trivial⟩) [0, 1, 2, 3, 4] (by decide) rfl
 replace h := ifF c309 h
 refine pq (qb (p_geq_fZ c309)) ?_
 refine pq (qm bf) ?_
 iterate 5 refine os ?_
 refine pq (qpf bf) ?_
 refine oE (eS (cF rfl (lK (bN ?_))))
 refine E_roundN (p := 0) rfl ?_
 refine pq (q_not rfl) ?_
 refine oE (eS (cF rfl (lK (bN (eS (lO ?_))))))
 refine pq (qm (.one (uI n302))) ?_
 refine pq (qm (.one (uI n302))) ?_
 refine pq (qb p_subY) ?_
 refine pq (q_bin rfl rfl (p_and _ _ _ _ _ _ _) rfl) ?_
 refine pq (qa (.one (uI (andI .u64 n302 (IntKind.u64.wrap (n302 - 1)))))) ?_
 refine oE ?_
 obtain rfl := sj h
 exact E_next k304 (ups_self ⟨rfl, rfl, rfl, rfl, rfl, rfl, trivial⟩) [0, 1, 2, 3, 4] (by decide) rfl
 replace h := ifF c305 h
 refine pq (qb (p_neq_fZ c305)) ?_
 refine oE (eS (cF rfl (L_exit ?_)))
 refine E_seqX ?_
 obtain rfl := sj h
 refine E_out ?_
 exact E_js ((E_je k304 (ups_self ⟨rfl, rfl, rfl, rfl, trivial⟩) [0, 1, 2, 3, 4] (by decide) rfl))
 rintro (l327 | l329 | u) h
 refine J_e (fun k328 g => ?_)
 replace h := elimL h
 refine bR (bR (eR ?_))
 obtain rfl := sj h
 refine E_out ?_
 exact (E_je k328 (ups_self trivial) [0, 1, 2, 3, 4] (by decide) rfl)
 refine J_s (J_e (fun k330 g => ?_))
 replace h := elimL (elimR h)
 refine bH (bN (eS (lO ?_)))
 refine pq (qb p_addY) ?_
 refine pq (qm (iO (IntKind.i64.wrap (n225 + 1)))) ?_
 refine oE ?_
 obtain rfl := sj h
 exact E_next k330 (ups_self ⟨rfl, rfl, rfl, rfl, trivial⟩) [0, 1, 2, 3, 4] (by decide) rfl
 exact u.elim
 replace h := ifF c228 h
 refine pq (qb (p_lss_fZ c228)) ?_
 refine oE (eS (lS (cF rfl (L_exit ?_))))
 refine E_seqX ?_
 obtain rfl := sj h
 refine E_out ?_
 exact E_js ((E_je k227 (ups_self trivial) [1, 2, 3, 0, 4] (by decide) rfl))
 rintro (l331 | l333 | u) h
 refine J_e (fun k332 g => ?_)
 replace h := elimL h
 refine bR ?_
 refine E_range (p := 3) (.inr rfl) rfl ?_
 refine bH (eS (lS (lO ?_)))
 refine pq (ql (.one (.own k332 0 (l331).length)) 2 sz27) ?_
 refine pq (qa (.one (.own k332 0 (l331).length))) ?_
 refine oE (eS (lR ?_))
 obtain rfl := sj h
 exact E_endO (r := r66) 4 (.inr rfl) (res_tmp rfl res_nil) rfl (fun x h m => rfl) (fun x => rfl)
 refine J_s (J_e (fun k334 g => ?_))
 replace h := elimL (elimR h)
 refine bH ?_
 refine E_range (p := 3) (.inl rfl) rfl ?_
 refine bN (eS (lS (lO ?_)))
 refine pq (ql (.one (.own k334 0 (l333).length)) 2 sz27) ?_
 refine pq (qa (.one (.own k334 0 (l333).length))) ?_
 refine oE (eS (lR ?_))
 obtain rfl := sj h
 exact E_endO (r := r66) 4 (.inr rfl) (res_tmp rfl res_nil) rfl (fun x h m => rfl) (fun x => rfl)
 exact u.elim
end Ev
end Go.Proofs.YtmiaonncbefmmaaDoor
end
