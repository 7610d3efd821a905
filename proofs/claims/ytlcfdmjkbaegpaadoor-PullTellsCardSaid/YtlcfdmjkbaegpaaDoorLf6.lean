/- Functions of the program as functions on data, and that they are. -/
import Derived.Test.YtlcfdmjkbaegpaaDoorEvZ
import Derived.Test.YtlcfdmjkbaegpaaDoorLf1
import Derived.Test.YtlcfdmjkbaegpaaDoorLy1
namespace Go.Proofs.YtlcfdmjkbaegpaaDoor
namespace Ev
open Go
set_option linter.unusedVariables false
set_option linter.unusedSimpArgs false
set_option maxRecDepth 100000
set_option maxHeartbeats 1000000
attribute [local irreducible] OpsL StL TnL WpL EndL
noncomputable def ref07_Right_b2 (n2 : Int) (s3 : Sl (Int)) (s4 : Sl (Int)) (n149 : Int) (n195 : Int) : Option (Int ⊕ (Unit ⊕ (Int ⊕ (Unit ⊕ Bool)))) :=
 ((atS 1 s3 (IntKind.i64.wrap (n149 + 1))).bind fun n198 => (if n195 < n198 then ((atS 1 s4 n195).bind fun n202 => (if n202 < 0 then some (.inr (.inr (.inr (.inr false)))) else (if n202 ≥ n2 then some (.inr (.inr (.inr (.inr false)))) else ((atS 1 s3 n149).bind fun n207 => (if n195 > n207 then ((atS 1 s4 (IntKind.i64.wrap (n195 - 1))).bind fun n211 => (if n202 ≤ n211 then some (.inr (.inr (.inr (.inr false)))) else some (.inl (IntKind.i64.wrap (n195 + 1))))) else some (.inl (IntKind.i64.wrap (n195 + 1)))))))) else some (.inr (.inl ()))))
noncomputable def ref07_Right_b1 (n1 : Int) (n2 : Int) (s3 : Sl (Int)) (s4 : Sl (Int)) (n149 : Int) : Option (Int ⊕ (Unit ⊕ Bool)) :=
 (if n149 < n1 then ((atS 1 s3 n149).bind fun n153 => ((atS 1 s3 (IntKind.i64.wrap (n149 + 1))).bind fun n156 => (if n153 > n156 then some (.inr (.inr false)) else (if n153 < 0 then some (.inr (.inr false)) else (if n156 > ((s4.l.length : Nat) : Int) then some (.inr (.inr false)) else ((loopO (ref07_Right_b2 n2 s3 s4 n149) n153).bind (Sum.elim (fun _ => some (.inl (IntKind.i64.wrap (n149 + 1)))) (fun u => some u)))))))) else some (.inr (.inl ())))
noncomputable def ref07_Right (a0 : Int × Int × Sl (Int) × Sl (Int) × Sl (Int)) : Option (Bool) :=
 match a0 with
 | (n1, n2, s3, s4, s5) => (if n1 < 0 then some false else (if n1 > 4096 then some false else (if n2 < 0 then some false else (if n2 > 4096 then some false else (if ((s3.l.length : Nat) : Int) ≠ (IntKind.i64.wrap (n1 + 1)) then some false else (if ((s4.l.length : Nat) : Int) ≠ ((s5.l.length : Nat) : Int) then some false else (if ((s4.l.length : Nat) : Int) > 65536 then some false else ((atS 1 s3 0).bind fun n16 => (if n16 ≠ 0 then some false else ((atS 1 s3 n1).bind fun n20 => (if n20 ≠ ((s4.l.length : Nat) : Int) then some false else ((loopO (ref07_Right_b1 n1 n2 s3 s4) 0).bind (Sum.elim (fun _ => some true) (fun u => some u))))))))))))))
theorem ref07_Right_r (m : Nat) {a0 : Int × Int × Sl (Int) × Sl (Int) × Sl (Int)} {out : Bool} (h : ref07_Right a0 = some out) : RunsP E1 (m + 1) 74 [.agg (r32 a0)] (.fresh, [.one (bT out)]) := by
 obtain ⟨n1, n2, s3, s4, s5⟩ := a0
 refine fn_F rfl (by rw [E1_fn]; exact show fiOf Tryd.prog 74 = _ by unfold fiOf; rw [Tryd.func74]; unfold Tryd.f74; rfl) rfl ?_
 dsimp only
 unfold ref07_Right at h
 refine lS (lO ?_)
 refine ol_new rfl rfl rfl (q_box ty33 rfl (cs := [iI n1, iI n2, sF r3 s3, sF r3 s4, sF r2 s5]) rfl rfl) (fun k6 => ?_)
 refine pq (qa bf) ?_
 refine oE (eS (lS (lS (lO ?_))))
 refine pq (q_fieldP rfl fa33_0 rfl) ?_
 refine pq (ql (iO n1) 0 sz3) ?_
 by_cases c7 : n1 < 0
 replace h := ifT c7 h
 refine pq (qb (p_lss_tZ c7)) ?_
 refine pq (qm bt) ?_
 iterate 3 refine os ?_
 refine pq (qpt bt) ?_
 refine pq (qm bt) ?_
 iterate 3 refine os ?_
 refine pq (qpt bt) ?_
 refine pq (qm bt) ?_
 iterate 3 refine os ?_
 refine pq (qpt bt) ?_
 refine pq (qm bt) ?_
 iterate 7 refine os ?_
 refine pq (qpt bt) ?_
 refine pq (qm bt) ?_
 iterate 7 refine os ?_
 refine pq (qpt bt) ?_
 refine pq (qm bt) ?_
 iterate 4 refine os ?_
 refine pq (qpt bt) ?_
 refine oE (eS (cT rfl (lS (lO ?_))))
 refine pq (qa bf) ?_
 refine oE (eS (lR (eR ?_)))
 obtain rfl := sj h
 exact eF1
 replace h := ifF c7 h
 refine pq (qb (p_lss_fZ c7)) ?_
 refine pq (qm bf) ?_
 refine pq (q_fieldP rfl fa33_0 rfl) ?_
 refine pq (ql (iO n1) 0 sz3) ?_
 by_cases c8 : n1 > 4096
 replace h := ifT c8 h
 refine pq (qb (p_gtr_tZ c8)) ?_
 refine pq (qpf bt) ?_
 refine pq (qm bt) ?_
 iterate 3 refine os ?_
 refine pq (qpt bt) ?_
 refine pq (qm bt) ?_
 iterate 3 refine os ?_
 refine pq (qpt bt) ?_
 refine pq (qm bt) ?_
 iterate 7 refine os ?_
 refine pq (qpt bt) ?_
 refine pq (qm bt) ?_
 iterate 7 refine os ?_
 refine pq (qpt bt) ?_
 refine pq (qm bt) ?_
 iterate 4 refine os ?_
 refine pq (qpt bt) ?_
 refine oE (eS (cT rfl (lS (lO ?_))))
 refine pq (qa bf) ?_
 refine oE (eS (lR (eR ?_)))
 obtain rfl := sj h
 exact eF1
 replace h := ifF c8 h
 refine pq (qb (p_gtr_fZ c8)) ?_
 refine pq (qpf bf) ?_
 refine pq (qm bf) ?_
 refine pq (q_fieldP rfl fa33_1 rfl) ?_
 refine pq (ql (iO n2) 0 sz3) ?_
 by_cases c9 : n2 < 0
 replace h := ifT c9 h
 refine pq (qb (p_lss_tZ c9)) ?_
 refine pq (qpf bt) ?_
 refine pq (qm bt) ?_
 iterate 3 refine os ?_
 refine pq (qpt bt) ?_
 refine pq (qm bt) ?_
 iterate 7 refine os ?_
 refine pq (qpt bt) ?_
 refine pq (qm bt) ?_
 iterate 7 refine os ?_
 refine pq (qpt bt) ?_
 refine pq (qm bt) ?_
 iterate 4 refine os ?_
 refine pq (qpt bt) ?_
 refine oE (eS (cT rfl (lS (lO ?_))))
 refine pq (qa bf) ?_
 refine oE (eS (lR (eR ?_)))
 obtain rfl := sj h
 exact eF1
 replace h := ifF c9 h
 refine pq (qb (p_lss_fZ c9)) ?_
 refine pq (qpf bf) ?_
 refine pq (qm bf) ?_
 refine pq (q_fieldP rfl fa33_1 rfl) ?_
 refine pq (ql (iO n2) 0 sz3) ?_
 by_cases c10 : n2 > 4096
 replace h := ifT c10 h
 refine pq (qb (p_gtr_tZ c10)) ?_
 refine pq (qpf bt) ?_
 refine pq (qm bt) ?_
 iterate 7 refine os ?_
 refine pq (qpt bt) ?_
 refine pq (qm bt) ?_
 iterate 7 refine os ?_
 refine pq (qpt bt) ?_
 refine pq (qm bt) ?_
 iterate 4 refine os ?_
 refine pq (qpt bt) ?_
 refine oE (eS (cT rfl (lS (lO ?_))))
 refine pq (qa bf) ?_
 refine oE (eS (lR (eR ?_)))
 obtain rfl := sj h
 exact eF1
 replace h := ifF c10 h
 refine pq (qb (p_gtr_fZ c10)) ?_
 refine pq (qpf bf) ?_
 refine pq (qm bf) ?_
 refine pq (q_fieldP rfl fa33_2 rfl) ?_
 refine pq (ql (.one (sF r3 s3)) 0 sz30) ?_
 refine pq (q_lenS rfl ty30 rfl rfl rfl rfl) ?_
 refine pq (q_fieldP rfl fa33_0 rfl) ?_
 refine pq (ql (iO n1) 0 sz3) ?_
 refine pq (qb p_addY) ?_
 by_cases c11 : ((s3.l.length : Nat) : Int) ≠ (IntKind.i64.wrap (n1 + 1))
 replace h := ifT c11 h
 refine pq (qb (p_neq_tZ c11)) ?_
 refine pq (qpf bt) ?_
 refine pq (qm bt) ?_
 iterate 7 refine os ?_
 refine pq (qpt bt) ?_
 refine pq (qm bt) ?_
 iterate 4 refine os ?_
 refine pq (qpt bt) ?_
 refine oE (eS (cT rfl (lS (lO ?_))))
 refine pq (qa bf) ?_
 refine oE (eS (lR (eR ?_)))
 obtain rfl := sj h
 exact eF1
 replace h := ifF c11 h
 refine pq (qb (p_neq_fZ c11)) ?_
 refine pq (qpf bf) ?_
 refine pq (qm bf) ?_
 refine pq (q_fieldP rfl fa33_3 rfl) ?_
 refine pq (ql (.one (sF r3 s4)) 0 sz30) ?_
 refine pq (q_lenS rfl ty30 rfl rfl rfl rfl) ?_
 refine pq (q_fieldP rfl fa33_4 rfl) ?_
 refine pq (ql (.one (sF r2 s5)) 0 sz31) ?_
 refine pq (q_lenS rfl ty31 rfl rfl rfl rfl) ?_
 by_cases c12 : ((s4.l.length : Nat) : Int) ≠ ((s5.l.length : Nat) : Int)
 replace h := ifT c12 h
 refine pq (qb (p_neq_tZ c12)) ?_
 refine pq (qpf bt) ?_
 refine pq (qm bt) ?_
 iterate 4 refine os ?_
 refine pq (qpt bt) ?_
 refine oE (eS (cT rfl (lS (lO ?_))))
 refine pq (qa bf) ?_
 refine oE (eS (lR (eR ?_)))
 obtain rfl := sj h
 exact eF1
 replace h := ifF c12 h
 refine pq (qb (p_neq_fZ c12)) ?_
 refine pq (qpf bf) ?_
 refine pq (qm bf) ?_
 refine pq (q_fieldP rfl fa33_3 rfl) ?_
 refine pq (ql (.one (sF r3 s4)) 0 sz30) ?_
 refine pq (q_lenS rfl ty30 rfl rfl rfl rfl) ?_
 by_cases c13 : ((s4.l.length : Nat) : Int) > 65536
 replace h := ifT c13 h
 refine pq (qb (p_gtr_tZ c13)) ?_
 refine pq (qpf bt) ?_
 refine oE (eS (cT rfl (lS (lO ?_))))
 refine pq (qa bf) ?_
 refine oE (eS (lR (eR ?_)))
 obtain rfl := sj h
 exact eF1
 replace h := ifF c13 h
 refine pq (qb (p_gtr_fZ c13)) ?_
 refine pq (qpf bf) ?_
 refine oE (eS (cF rfl (lK (eS (lS (lS ?_))))))
 refine L_still (by kernel_rfl) ?_
 refine sq (q_fieldP rfl fa33_2 rfl) ?_
 refine sq (ql (.one (sF r3 s3)) 0 sz30) ?_
 obtain ⟨n16, h15, h⟩ := bindS h
 obtain ⟨h15a, h15b, h15⟩ := atS_some h15
 refine sq (q_ixS rfl rfl h15a h15 (el30.trans (congrArg some h15b.symm))) ?_
 refine sq (q_loadI (v := iO n16) rfl sz3 (map_get h15) rfl rfl) ?_
 by_cases c17 : n16 ≠ 0
 replace h := ifT c17 h
 refine sq (qb (p_neq_tZ c17)) ?_
 refine sq (qm bt) ?_
 iterate 10 refine ss ?_
 refine sq (qpt bt) ?_
 refine st_end (eS (cT rfl (lS (lO ?_))))
 refine pq (qa bf) ?_
 refine oE (eS (lR (eR ?_)))
 obtain rfl := sj h
 exact eF1
 replace h := ifF c17 h
 refine sq (qb (p_neq_fZ c17)) ?_
 refine sq (qm bf) ?_
 refine sq (q_fieldP rfl fa33_2 rfl) ?_
 refine sq (ql (.one (sF r3 s3)) 0 sz30) ?_
 refine sq (q_fieldP rfl fa33_0 rfl) ?_
 refine sq (ql (iO n1) 0 sz3) ?_
 obtain ⟨n20, h19, h⟩ := bindS h
 obtain ⟨h19a, h19b, h19⟩ := atS_some h19
 refine sq (q_ixS rfl rfl h19a h19 (el30.trans (congrArg some h19b.symm))) ?_
 refine sq (q_loadI (v := iO n20) rfl sz3 (map_get h19) rfl rfl) ?_
 refine sq (q_fieldP rfl fa33_3 rfl) ?_
 refine sq (ql (.one (sF r3 s4)) 0 sz30) ?_
 refine sq (q_lenS rfl ty30 rfl rfl rfl rfl) ?_
 by_cases c21 : n20 ≠ ((s4.l.length : Nat) : Int)
 replace h := ifT c21 h
 refine sq (qb (p_neq_tZ c21)) ?_
 refine sq (qpf bt) ?_
 refine st_end (eS (cT rfl (lS (lO ?_))))
 refine pq (qa bf) ?_
 refine oE (eS (lR (eR ?_)))
 obtain rfl := sj h
 exact eF1
 replace h := ifF c21 h
 refine sq (qb (p_neq_fZ c21)) ?_
 refine sq (qpf bf) ?_
 refine st_end (eS (cF rfl (lK (eS (lS (lS (lO ?_)))))))
 refine pq (qa (iO 0)) ?_
 refine oE (eS (lB ?_))
 let S1 : Int → Unit → (Nat → D) → Nat → D := fun a kt g => ups g [(1, .one (.ptr k6 0 0)), (3, iO a)]
 let SL1 : Int → Unit → BL := fun a kt => ([[(k6, 5, [[iI n1, iI n2, sF r3 s3, sF r3 s4, sF r2 s5]])]] : BL)
 let G1 : Bool → Ex → St → Prop := fun u => endQ E1 [.tmp 2] (.fresh, [.one (bT u)])
 let Sx1 : Unit → Unit → (Nat → D) → Nat → D := fun a kt g => ups g []
 let SLx1 : Unit → Unit → BL := fun a kt => ([] : BL)
 let J1 : (Unit ⊕ Bool) → Ex → St → Prop := JX 156 0 Sx1 SLx1 G1
 refine L_loopS (ref07_Right_b1 n1 n2 s3 s4) S1 SL1 J1 JX_n 0 h () (ups_self ⟨rfl, rfl, trivial⟩) [0] (by decide) rfl ?_ ?_
 rintro n149 _ g out h
 change ref07_Right_b1 n1 n2 s3 s4 n149 = some out at h
 unfold ref07_Right_b1 at h
 refine lS (lS (lO ?_))
 refine pq (qm (iO n149)) ?_
 refine pq (q_fieldP rfl fa33_0 rfl) ?_
 refine pq (ql (iO n1) 0 sz3) ?_
 by_cases c150 : n149 < n1
 replace h := ifT c150 h
 refine pq (qb (p_lss_tZ c150)) ?_
 refine oE (eS (cT rfl (lK (eS (lS (lB (lS (lS ?_))))))))
 refine L_still (by kernel_rfl) ?_
 refine sq (q_fieldP rfl fa33_2 rfl) ?_
 refine sq (ql (.one (sF r3 s3)) 0 sz30) ?_
 refine sq (qm (iO n149)) ?_
 obtain ⟨n153, h152, h⟩ := bindS h
 obtain ⟨h152a, h152b, h152⟩ := atS_some h152
 refine sq (q_ixS rfl rfl h152a h152 (el30.trans (congrArg some h152b.symm))) ?_
 refine sq (q_loadI (v := iO n153) rfl sz3 (map_get h152) rfl rfl) ?_
 refine sq (q_fieldP rfl fa33_2 rfl) ?_
 refine sq (ql (.one (sF r3 s3)) 0 sz30) ?_
 refine sq (qm (iO n149)) ?_
 refine sq (qb p_addY) ?_
 obtain ⟨n156, h155, h⟩ := bindS h
 obtain ⟨h155a, h155b, h155⟩ := atS_some h155
 refine sq (q_ixS rfl rfl h155a h155 (el30.trans (congrArg some h155b.symm))) ?_
 refine sq (q_loadI (v := iO n156) rfl sz3 (map_get h155) rfl rfl) ?_
 by_cases c157 : n153 > n156
 replace h := ifT c157 h
 refine sq (qb (p_gtr_tZ c157)) ?_
 refine sq (qm bt) ?_
 iterate 6 refine ss ?_
 refine sq (qpt bt) ?_
 refine sq (qm bt) ?_
 iterate 10 refine ss ?_
 refine sq (qpt bt) ?_
 refine st_end (eS (cT rfl (lS (lO ?_))))
 refine pq (qa bf) ?_
 refine oE (eS (lR (eR (bR (eR ?_)))))
 obtain rfl := sj h
 exact E_out (E_up (eF1))
 replace h := ifF c157 h
 refine sq (qb (p_gtr_fZ c157)) ?_
 refine sq (qm bf) ?_
 refine sq (q_fieldP rfl fa33_2 rfl) ?_
 refine sq (ql (.one (sF r3 s3)) 0 sz30) ?_
 refine sq (qm (iO n149)) ?_
 refine sq (q_ixS rfl rfl h152a h152 (el30.trans (congrArg some h152b.symm))) ?_
 refine sq (q_loadI (v := iO n153) rfl sz3 (map_get h152) rfl rfl) ?_
 by_cases c158 : n153 < 0
 replace h := ifT c158 h
 refine sq (qb (p_lss_tZ c158)) ?_
 refine sq (qpf bt) ?_
 refine sq (qm bt) ?_
 iterate 10 refine ss ?_
 refine sq (qpt bt) ?_
 refine st_end (eS (cT rfl (lS (lO ?_))))
 refine pq (qa bf) ?_
 refine oE (eS (lR (eR (bR (eR ?_)))))
 obtain rfl := sj h
 exact E_out (E_up (eF1))
 replace h := ifF c158 h
 refine sq (qb (p_lss_fZ c158)) ?_
 refine sq (qpf bf) ?_
 refine sq (qm bf) ?_
 refine sq (q_fieldP rfl fa33_2 rfl) ?_
 refine sq (ql (.one (sF r3 s3)) 0 sz30) ?_
 refine sq (qm (iO n149)) ?_
 refine sq (qb p_addY) ?_
 refine sq (q_ixS rfl rfl h155a h155 (el30.trans (congrArg some h155b.symm))) ?_
 refine sq (q_loadI (v := iO n156) rfl sz3 (map_get h155) rfl rfl) ?_
 refine sq (q_fieldP rfl fa33_3 rfl) ?_
 refine sq (ql (.one (sF r3 s4)) 0 sz30) ?_
 refine sq (q_lenS rfl ty30 rfl rfl rfl rfl) ?_
 by_cases c159 : n156 > ((s4.l.length : Nat) : Int)
 replace h := ifT c159 h
 refine sq (qb (p_gtr_tZ c159)) ?_
 refine sq (qpf bt) ?_
 refine st_end (eS (cT rfl (lS (lO ?_))))
 refine pq (qa bf) ?_
 refine oE (eS (lR (eR (bR (eR ?_)))))
 obtain rfl := sj h
 exact E_out (E_up (eF1))
 replace h := ifF c159 h
 refine sq (qb (p_gtr_fZ c159)) ?_
 refine sq (qpf bf) ?_
 refine st_end (eS (cF rfl (lK (eS (lS (lO ?_))))))
 refine pq (q_fieldP rfl fa33_2 rfl) ?_
 refine pq (ql (.one (sF r3 s3)) 0 sz30) ?_
 refine pq (qm (iO n149)) ?_
 refine pq (q_ixS rfl rfl h152a h152 (el30.trans (congrArg some h152b.symm))) ?_
 refine pq (q_loadI (v := iO n153) rfl sz3 (map_get h152) rfl rfl) ?_
 refine pq (qa (iO n153)) ?_
 refine oE (eS (lB ?_))
 let S2 : Int → Unit → (Nat → D) → Nat → D := fun a kt g => ups g [(1, .one (.ptr k6 0 0)), (3, iO n149), (4, iO a), (83, .one (.ptr k6 0 2)), (84, .one (sF r3 s3)), (85, iO n149), (87, iO n153), (88, bf), (91, .one (.ptr k6 0 2)), (92, .one (sF r3 s3)), (93, iO n149), (94, .one (iI (IntKind.i64.wrap (n149 + 1)))), (96, iO n156), (97, .one (.ptr k6 0 3)), (98, .one (sF r3 s4)), (99, .one (iI ((s4.l.length : Nat) : Int))), (100, bf)]
 let SL2 : Int → Unit → BL := fun a kt => ([[(k6, 5, [[iI n1, iI n2, sF r3 s3, sF r3 s4, sF r2 s5]])]] : BL)
 let G2 : (Int ⊕ (Unit ⊕ Bool)) → Ex → St → Prop := LQ 156 S1 SL1 J1
 let Sx2 : Unit → Unit → (Nat → D) → Nat → D := fun a kt g => ups g [(1, .one (.ptr k6 0 0)), (3, iO n149), (83, .one (.ptr k6 0 2)), (84, .one (sF r3 s3)), (85, iO n149), (87, iO n153), (88, bf), (91, .one (.ptr k6 0 2)), (92, .one (sF r3 s3)), (93, iO n149), (94, .one (iI (IntKind.i64.wrap (n149 + 1)))), (96, iO n156), (97, .one (.ptr k6 0 3)), (98, .one (sF r3 s4)), (99, .one (iI ((s4.l.length : Nat) : Int))), (100, bf)]
 let SLx2 : Unit → Unit → BL := fun a kt => ([[(k6, 5, [[iI n1, iI n2, sF r3 s3, sF r3 s4, sF r2 s5]])]] : BL)
 let J2 : (Unit ⊕ (Int ⊕ (Unit ⊕ Bool))) → Ex → St → Prop := JX 156 2 Sx2 SLx2 G2
 refine L_loopS (ref07_Right_b2 n2 s3 s4 n149) S2 SL2 J2 JX_n n153 h () (ups_self ⟨rfl, rfl, rfl, rfl, rfl, rfl, rfl, rfl, rfl, rfl, rfl, rfl, rfl, rfl, rfl, rfl, rfl, trivial⟩) [0] (by decide) rfl ?_ ?_
 rintro n195 _ g out h
 change ref07_Right_b2 n2 s3 s4 n149 n195 = some out at h
 unfold ref07_Right_b2 at h
 refine lS (lS (lO ?_))
 refine pq (qm (iO n195)) ?_
 refine pq (q_fieldP rfl fa33_2 rfl) ?_
 refine pq (ql (.one (sF r3 s3)) 0 sz30) ?_
 refine pq (qm (iO n149)) ?_
 refine pq (qb p_addY) ?_
 obtain ⟨n198, h197, h⟩ := bindS h
 obtain ⟨h197a, h197b, h197⟩ := atS_some h197
 refine pq (q_ixS rfl rfl h197a h197 (el30.trans (congrArg some h197b.symm))) ?_
 refine pq (q_loadI (v := iO n198) rfl sz3 (map_get h197) rfl rfl) ?_
 by_cases c199 : n195 < n198
 replace h := ifT c199 h
 refine pq (qb (p_lss_tZ c199)) ?_
 refine oE (eS (cT rfl (lK (eS (lS (lB (lS ?_)))))))
 refine L_still (by kernel_rfl) ?_
 refine sq (q_fieldP rfl fa33_3 rfl) ?_
 refine sq (ql (.one (sF r3 s4)) 0 sz30) ?_
 refine sq (qm (iO n195)) ?_
 obtain ⟨n202, h201, h⟩ := bindS h
 obtain ⟨h201a, h201b, h201⟩ := atS_some h201
 refine sq (q_ixS rfl rfl h201a h201 (el30.trans (congrArg some h201b.symm))) ?_
 refine sq (q_loadI (v := iO n202) rfl sz3 (map_get h201) rfl rfl) ?_
 by_cases c203 : n202 < 0
 replace h := ifT c203 h
 refine sq (qb (p_lss_tZ c203)) ?_
 refine sq (qm bt) ?_
 iterate 8 refine ss ?_
 refine sq (qpt bt) ?_
 refine sq (qm bt) ?_
 iterate 21 refine ss ?_
 refine sq (qpt bt) ?_
 refine st_end (eS (cT rfl (lS (lO ?_))))
 refine pq (qa bf) ?_
 refine oE (eS (lR (bR (eR ?_))))
 obtain rfl := sj h
 exact E_out (E_up (E_out (E_up (eF1))))
 replace h := ifF c203 h
 refine sq (qb (p_lss_fZ c203)) ?_
 refine sq (qm bf) ?_
 refine sq (q_fieldP rfl fa33_3 rfl) ?_
 refine sq (ql (.one (sF r3 s4)) 0 sz30) ?_
 refine sq (qm (iO n195)) ?_
 refine sq (q_ixS rfl rfl h201a h201 (el30.trans (congrArg some h201b.symm))) ?_
 refine sq (q_loadI (v := iO n202) rfl sz3 (map_get h201) rfl rfl) ?_
 refine sq (q_fieldP rfl fa33_1 rfl) ?_
 refine sq (ql (iO n2) 0 sz3) ?_
 by_cases c204 : n202 ≥ n2
 replace h := ifT c204 h
 refine sq (qb (p_geq_tZ c204)) ?_
 refine sq (qpf bt) ?_
 refine sq (qm bt) ?_
 iterate 21 refine ss ?_
 refine sq (qpt bt) ?_
 refine st_end (eS (cT rfl (lS (lO ?_))))
 refine pq (qa bf) ?_
 refine oE (eS (lR (bR (eR ?_))))
 obtain rfl := sj h
 exact E_out (E_up (E_out (E_up (eF1))))
 replace h := ifF c204 h
 refine sq (qb (p_geq_fZ c204)) ?_
 refine sq (qpf bf) ?_
 refine sq (qm bf) ?_
 refine sq (qm (iO n195)) ?_
 refine sq (q_fieldP rfl fa33_2 rfl) ?_
 refine sq (ql (.one (sF r3 s3)) 0 sz30) ?_
 refine sq (qm (iO n149)) ?_
 obtain ⟨n207, h206, h⟩ := bindS h
 obtain ⟨h206a, h206b, h206⟩ := atS_some h206
 refine sq (q_ixS rfl rfl h206a h206 (el30.trans (congrArg some h206b.symm))) ?_
 refine sq (q_loadI (v := iO n207) rfl sz3 (map_get h206) rfl rfl) ?_
 by_cases c208 : n195 > n207
 replace h := ifT c208 h
 refine sq (qb (p_gtr_tZ c208)) ?_
 refine sq (qm bt) ?_
 refine sq (q_fieldP rfl fa33_3 rfl) ?_
 refine sq (ql (.one (sF r3 s4)) 0 sz30) ?_
 refine sq (qm (iO n195)) ?_
 refine sq (q_ixS rfl rfl h201a h201 (el30.trans (congrArg some h201b.symm))) ?_
 refine sq (q_loadI (v := iO n202) rfl sz3 (map_get h201) rfl rfl) ?_
 refine sq (q_fieldP rfl fa33_3 rfl) ?_
 refine sq (ql (.one (sF r3 s4)) 0 sz30) ?_
 refine sq (qm (iO n195)) ?_
 refine sq (qb p_subY) ?_
 obtain ⟨n211, h210, h⟩ := bindS h
 obtain ⟨h210a, h210b, h210⟩ := atS_some h210
 refine sq (q_ixS rfl rfl h210a h210 (el30.trans (congrArg some h210b.symm))) ?_
 refine sq (q_loadI (v := iO n211) rfl sz3 (map_get h210) rfl rfl) ?_
 by_cases c212 : n202 ≤ n211
 replace h := ifT c212 h
 refine sq (qb (p_leq_tZ c212)) ?_
 refine sq (qpt bt) ?_
 refine sq (qpf bt) ?_
 refine st_end (eS (cT rfl (lS (lO ?_))))
 refine pq (qa bf) ?_
 refine oE (eS (lR (bR (eR ?_))))
 obtain rfl := sj h
 exact E_out (E_up (E_out (E_up (eF1))))
 replace h := ifF c212 h
 refine sq (qb (p_leq_fZ c212)) ?_
 refine sq (qpt bf) ?_
 refine sq (qpf bf) ?_
 refine st_end (eS (cF rfl (lK (bN (eS (lO ?_))))))
 refine pq (qm (iO n195)) ?_
 refine pq (qb p_addY) ?_
 refine pq (qa (iO (IntKind.i64.wrap (n195 + 1)))) ?_
 refine oE ?_
 obtain rfl := sj h
 exact E_next () (ups_self ⟨rfl, rfl, rfl, rfl, rfl, rfl, rfl, rfl, rfl, rfl, rfl, rfl, rfl, rfl, rfl, rfl, rfl, trivial⟩) [0] (by decide) rfl
 replace h := ifF c208 h
 refine sq (qb (p_gtr_fZ c208)) ?_
 refine sq (qm bf) ?_
 iterate 12 refine ss ?_
 refine sq (qpf bf) ?_
 refine sq (qpf bf) ?_
 refine st_end (eS (cF rfl (lK (bN (eS (lO ?_))))))
 refine pq (qm (iO n195)) ?_
 refine pq (qb p_addY) ?_
 refine pq (qa (iO (IntKind.i64.wrap (n195 + 1)))) ?_
 refine oE ?_
 obtain rfl := sj h
 exact E_next () (ups_self ⟨rfl, rfl, rfl, rfl, rfl, rfl, rfl, rfl, rfl, rfl, rfl, rfl, rfl, rfl, rfl, rfl, rfl, trivial⟩) [0] (by decide) rfl
 replace h := ifF c199 h
 refine pq (qb (p_lss_fZ c199)) ?_
 refine oE (eS (cF rfl (L_exit ?_)))
 refine E_seqX ?_
 obtain rfl := sj h
 refine E_out ?_
 exact (E_exit () (ups_self ⟨rfl, rfl, rfl, rfl, rfl, rfl, rfl, rfl, rfl, rfl, rfl, rfl, rfl, rfl, rfl, rfl, trivial⟩) [0] (by decide) rfl)
 rintro (_ | u) h
 refine J_x (fun kt g => ?_)
 replace h := elimL h
 refine bH (bN (eS (lO ?_)))
 refine pq (qm (iO n149)) ?_
 refine pq (qb p_addY) ?_
 refine pq (qa (iO (IntKind.i64.wrap (n149 + 1)))) ?_
 refine oE ?_
 obtain rfl := sj h
 exact E_next () (ups_self ⟨rfl, rfl, trivial⟩) [0] (by decide) rfl
 obtain rfl := Option.some.inj (elimR h)
 exact J_up (fun s hs => hs)
 replace h := ifF c150 h
 refine pq (qb (p_lss_fZ c150)) ?_
 refine oE (eS (cF rfl (L_exit ?_)))
 refine E_seqX ?_
 obtain rfl := sj h
 refine E_out ?_
 exact (E_exit () (ups_self trivial) [] (by decide) rfl)
 rintro (_ | u) h
 refine J_x (fun kt g => ?_)
 replace h := elimL h
 refine bH (eS (lS (lO ?_)))
 refine pq (qa bt) ?_
 refine oE (eS (lR ?_))
 obtain rfl := sj h
 exact eF1
 obtain rfl := Option.some.inj (elimR h)
 exact J_up (fun s hs => hs)
noncomputable def ref07_Sure (a0 : Int × Int × Sl (Int) × Sl (Int) × Sl (Int)) : Option ((Int × Int × Sl (Int) × Sl (Int) × Sl (Int))) :=
 match a0 with
 | (n1, n2, s3, s4, s5) => ((ref07_Right (n1, n2, s3, s4, s5)).bind fun b9 => (if b9 = true then some (n1, n2, s3, s4, s5) else ((lenOk (IntKind.i64.wrap (0 + 1))).bind fun _ => some (0, 0, (⟨true, 1, (List.replicate (IntKind.i64.wrap (0 + 1)).toNat (0 : Int))⟩ : Sl (Int)), (⟨false, 0, []⟩ : Sl (Int)), (⟨false, 0, []⟩ : Sl (Int))))))
theorem ref07_Sure_r (m : Nat) {a0 : Int × Int × Sl (Int) × Sl (Int) × Sl (Int)} {out : (Int × Int × Sl (Int) × Sl (Int) × Sl (Int))} (h : ref07_Sure a0 = some out) : RunsX E1 (m + 2) 42 [.agg (r32 a0)] [.agg (r32 out)] := by
 obtain ⟨n1, n2, s3, s4, s5⟩ := a0
 refine fn_X rfl (by rw [E1_fn]; exact show fiOf Tryd.prog 42 = _ by unfold fiOf; rw [Tryd.func42]; unfold Tryd.f42; rfl) rfl ?_
 dsimp only
 unfold ref07_Sure at h
 refine lS (lO ?_)
 refine ol_new rfl rfl rfl (q_box ty33 rfl (cs := [iI n1, iI n2, sF r3 s3, sF r3 s4, sF r2 s5]) rfl rfl) (fun k6 => ?_)
 refine ol_new rfl rfl rfl (q_alloc ty33 (row := [iI 0, iI 0, nC, nC, nC]) rfl rfl) (fun k7 => ?_)
 refine oE (eS (lS (lS (lO ?_))))
 refine pq (ql (.agg [iI n1, iI n2, sF r3 s3, sF r3 s4, sF r2 s5]) 1 sz33) ?_
 obtain ⟨b9, h8, h⟩ := bindS h
 refine pq (qc (bO b9) [.agg [iI n1, iI n2, sF r3 s3, sF r3 s4, sF r2 s5]] (ref07_Right_r (m + 0) h8) (vw_cons (vd_agg (vc_cons vc_v (vc_cons vc_v (vc_cons vc_s (vc_cons vc_s (vc_cons vc_s vc_nil)))))) vw_nil)) ?_
 refine oE (eS ?_)
 rcases b9 with _ | _
 replace h := wF h
 refine cF rfl (lK (eS (lS (lO ?_))))
 refine ol_scallN (args := [iO 0, iO 0]) rfl rfl rfl ax60 (by rw [E1_fn]; exact show fiOf Tryd.prog 60 = _ by unfold fiOf; rw [Tryd.func60]; unfold Tryd.f60; rfl) rfl rfl rfl ?_
 dsimp only
 refine lS (lO ?_)
 refine ol_new rfl rfl rfl (q_alloc ty33 (row := [iI 0, iI 0, nC, nC, nC]) rfl rfl) (fun k10 => ?_)
 refine oN ?_
 refine pq (qm (iO 0)) ?_
 refine pq (qm (iO 0)) ?_
 refine pq (qm (iO 0)) ?_
 refine pq (qb p_addY) ?_
 obtain ⟨u11, h12, h⟩ := bindS h
 refine ol_new rfl rfl rfl (q_mkslice (r := rowC r3) (a := (0 : Int)) ty30 rfl ty3 rfl rfl (lenOk_some h12).1 (lenOk_some h12).2 rfl rfl) (fun k13 => ?_)
 refine pq (q_build (cs := [iI 0, iI 0, .own k13 0 ((List.replicate (IntKind.i64.wrap (0 + 1)).toNat (0 : Int))).length, nC, nC]) ty33 rfl pl33 rfl) ?_
 refine ow [[iI 0, iI 0, .own k13 0 ((List.replicate (IntKind.i64.wrap (0 + 1)).toNat (0 : Int))).length, nC, nC]] 1 sz33 ?_
 refine oE (eS (lR ?_))
 refine E_call (v := .agg [iI 0, iI 0, .own k13 0 ((List.replicate (IntKind.i64.wrap (0 + 1)).toNat (0 : Int))).length, nC, nC]) (.inr rfl) (res_cell (d := .agg [iI 0, iI 0, .own k13 0 ((List.replicate (IntKind.i64.wrap (0 + 1)).toNat (0 : Int))).length, nC, nC]) 1 rfl sz33 rfl rfl rfl rfl res_nil) rfl ?_
 refine ow [[iI 0, iI 0, .own k13 0 ((List.replicate (IntKind.i64.wrap (0 + 1)).toNat (0 : Int))).length, nC, nC]] 2 sz33 ?_
 refine oE (eS (lR ?_))
 obtain rfl := sj h
 exact E_endX (.inr rfl) (res_cell (d := .agg [iI 0, iI 0, .own k13 0 ((List.replicate (IntKind.i64.wrap (0 + 1)).toNat (0 : Int))).length, nC, nC]) 2 rfl sz33 rfl rfl rfl rfl res_nil) (vw_cons (vd_agg (vc_cons vc_v (vc_cons vc_v (vc_cons (vc_own (r := r3) 0 rfl (fun x h m => rfl)) (vc_cons vc_s (vc_cons vc_s vc_nil)))))) vw_nil) oG rfl
 replace h := wT h
 refine cT rfl (lS (lO ?_))
 refine pq (ql (.agg [iI n1, iI n2, sF r3 s3, sF r3 s4, sF r2 s5]) 1 sz33) ?_
 refine ow [[iI n1, iI n2, sF r3 s3, sF r3 s4, sF r2 s5]] 0 sz33 ?_
 refine oE (eS (lR (eR ?_)))
 obtain rfl := sj h
 exact E_endX (.inr rfl) (res_cell (d := .agg [iI n1, iI n2, sF r3 s3, sF r3 s4, sF r2 s5]) 0 rfl sz33 rfl rfl rfl rfl res_nil) (vw_cons (vd_agg (vc_cons vc_v (vc_cons vc_v (vc_cons vc_s (vc_cons vc_s (vc_cons vc_s vc_nil)))))) vw_nil) oG rfl
noncomputable def ref03_Has (s1 : Sl (Int)) (n2 : Int) : Option (Bool) :=
 (if n2 ≥ 0 then ((divO .i64 n2 64).bind fun n4 => (if n4 < ((s1.l.length : Nat) : Int) then ((atS 1 s1 n4).bind fun n9 => ((modO n2 64).bind fun n10 => ((shr1 .u64 n9 (IntKind.u64.wrap n10)).bind fun n12 => (if (andI .u64 n12 1) = 1 then some true else some false)))) else some false)) else some false)
theorem ref03_Has_r (m : Nat) {s1 : Sl (Int)} {n2 : Int} {out : Bool} (h : ref03_Has s1 n2 = some out) : RunsP E1 (m + 1) 45 [.one (Sl.t r60 s1), .one (iT .i64 n2)] (.fresh, [.one (bT out)]) := by
 refine fn_F rfl (by rw [E1_fn]; exact show fiOf Tryd.prog 45 = _ by unfold fiOf; rw [Tryd.func45]; unfold Tryd.f45; rfl) rfl ?_
 dsimp only
 unfold ref03_Has at h
 refine lS (lO ?_)
 refine pq (qa bf) ?_
 refine oN ?_
 refine pq (qm (iO n2)) ?_
 by_cases c3 : n2 ≥ 0
 replace h := ifT c3 h
 refine pq (qb (p_geq_tZ c3)) ?_
 refine pq (qm bt) ?_
 refine pq (qm (iO n2)) ?_
 obtain ⟨n4, h5, h⟩ := bindS h
 refine pq (q_bin rfl rfl (divO_p h5) rfl) ?_
 refine pq (qm (.one (sF r60 s1))) ?_
 refine pq (q_lenS rfl ty26 rfl rfl rfl rfl) ?_
 by_cases c6 : n4 < ((s1.l.length : Nat) : Int)
 replace h := ifT c6 h
 refine pq (qb (p_lss_tZ c6)) ?_
 refine pq (qpt bt) ?_
 refine pq (qm bt) ?_
 refine pq (qm (.one (sF r60 s1))) ?_
 refine pq (qm (iO n2)) ?_
 refine pq (q_bin rfl rfl (divO_p h5) rfl) ?_
 obtain ⟨n9, h8, h⟩ := bindS h
 obtain ⟨h8a, h8b, h8⟩ := atS_some h8
 refine pq (q_ixS rfl rfl h8a h8 (el26.trans (congrArg some h8b.symm))) ?_
 refine pq (q_loadI (v := .one (uI n9)) rfl sz60 (map_get h8) rfl rfl) ?_
 refine pq (qm (iO n2)) ?_
 obtain ⟨n10, h11, h⟩ := bindS h
 refine pq (q_bin rfl rfl (modO_p h11) rfl) ?_
 refine pq (q_conv rfl (cv3_110_i64 _) rfl) ?_
 obtain ⟨n12, h13, h⟩ := bindS h
 refine pq (q_bin rfl rfl (p_shr h13) rfl) ?_
 refine pq (q_bin rfl rfl (p_and _ _ _ _ _ _ _) rfl) ?_
 by_cases c14 : (andI .u64 n12 1) = 1
 replace h := ifT c14 h
 refine pq (qb (p_eql_tZ c14)) ?_
 refine pq (qpt bt) ?_
 refine pq (qa bt) ?_
 refine oE (eS (lR ?_))
 obtain rfl := sj h
 exact eF1
 replace h := ifF c14 h
 refine pq (qb (p_eql_fZ c14)) ?_
 refine pq (qpt bf) ?_
 refine pq (qa bf) ?_
 refine oE (eS (lR ?_))
 obtain rfl := sj h
 exact eF1
 replace h := ifF c6 h
 refine pq (qb (p_lss_fZ c6)) ?_
 refine pq (qpt bf) ?_
 refine pq (qm bf) ?_
 iterate 11 refine os ?_
 refine pq (qpf bf) ?_
 refine pq (qa bf) ?_
 refine oE (eS (lR ?_))
 obtain rfl := sj h
 exact eF1
 replace h := ifF c3 h
 refine pq (qb (p_geq_fZ c3)) ?_
 refine pq (qm bf) ?_
 iterate 5 refine os ?_
 refine pq (qpf bf) ?_
 refine pq (qm bf) ?_
 iterate 11 refine os ?_
 refine pq (qpf bf) ?_
 refine pq (qa bf) ?_
 refine oE (eS (lR ?_))
 obtain rfl := sj h
 exact eF1
noncomputable def ref03_List_b1 (s1 : Sl (Int)) (a : List (Int) × Int) : Option ((List (Int) × Int) ⊕ ((List (Int)) ⊕ (List (Int)))) :=
 match a with
 | (l27, n28) => (if n28 < (IntKind.i64.wrap (64 * ((s1.l.length : Nat) : Int))) then ((ref03_Has s1 n28).bind fun b32 => (if b32 = true then ((app l27 ([n28] : List (Int))).bind fun _ => some (.inl ((l27 ++ ([n28] : List (Int))), (IntKind.i64.wrap (n28 + 1))))) else some (.inl (l27, (IntKind.i64.wrap (n28 + 1)))))) else some (.inr (.inl l27)))
noncomputable def ref03_List (s1 : Sl (Int)) : Option (List (Int)) :=
 ((loopO (ref03_List_b1 s1) (([] : List (Int)), 0)).bind (Sum.elim (fun l36 => some l36) (fun u => some u)))
theorem ref03_List_r (m : Nat) {s1 : Sl (Int)} {out : List (Int)} (h : ref03_List s1 = some out) : RunsP E1 (m + 2) 76 [.one (Sl.t r60 s1)] (resM 1 r3 out) := by
 refine fn_M rfl (by rw [E1_fn]; exact show fiOf Tryd.prog 76 = _ by unfold fiOf; rw [Tryd.func76]; unfold Tryd.f76; rfl) rfl ?_
 dsimp only
 unfold ref03_List at h
 refine lS (lO ?_)
 refine pq (qa (.one nC)) ?_
 refine oN ?_
 refine pq (qa (.one nC)) ?_
 refine oE (eS (lS (lS (lO ?_))))
 refine pq (qa (iO 0)) ?_
 refine oE (eS (lB ?_))
 refine L_addM (α := Int) r3 1 ?_
 let S1 : (List (Int) × Int) → Nat → (Nat → D) → Nat → D := fun a kt g => ups g [(0, .one (sF r60 s1)), (3, .one (moC a.1 kt)), (4, .one (iI a.2))]
 let SL1 : (List (Int) × Int) → Nat → BL := fun a kt => ([moL r3 1 a.1 kt] : BL)
 let G1 : (List (Int)) → Ex → St → Prop := fun u => endQ E1 [.tmp 2] (resM 1 r3 u)
 let Sx1 : (List (Int)) → Nat → (Nat → D) → Nat → D := fun a kt g => ups g [(3, .one (moC a kt))]
 let SLx1 : (List (Int)) → Nat → BL := fun a kt => ([moL r3 1 a kt] : BL)
 let J1 : ((List (Int)) ⊕ (List (Int))) → Ex → St → Prop := JX 20 0 Sx1 SLx1 G1
 refine L_loopS (ref03_List_b1 s1) S1 SL1 J1 JX_n (([] : List (Int)), 0) h 1025 (ups_self ⟨rfl, rfl, rfl, trivial⟩) [0] (by decide) rfl ?_ ?_
 rintro ⟨l27, n28⟩ k29 g out h
 change ref03_List_b1 s1 (l27, n28) = some out at h
 unfold ref03_List_b1 at h
 refine lS (lS (lO ?_))
 refine pq (qm (iO n28)) ?_
 refine pq (qm (.one (sF r60 s1))) ?_
 refine pq (q_lenS rfl ty26 rfl rfl rfl rfl) ?_
 refine pq (qb p_mulY) ?_
 by_cases c30 : n28 < (IntKind.i64.wrap (64 * ((s1.l.length : Nat) : Int)))
 replace h := ifT c30 h
 refine pq (qb (p_lss_tZ c30)) ?_
 refine oE (eS (cT rfl (lK (eS (lS (lB (lS (lO ?_))))))))
 refine pq (qm (.one (sF r60 s1))) ?_
 refine pq (qm (iO n28)) ?_
 obtain ⟨b32, h31, h⟩ := bindS h
 refine pq (qc (bO b32) [.one (sF r60 s1), iO n28] (ref03_Has_r (m + 0) h31) (vw_cons (vd_one vc_s) (vw_cons (vd_one vc_v) vw_nil))) ?_
 refine oE (eS ?_)
 rcases b32 with _ | _
 replace h := wF h
 refine cF rfl (lK (bN (eS (lO ?_))))
 refine pq (qm (iO n28)) ?_
 refine pq (qb p_addY) ?_
 refine pq (qa (iO (IntKind.i64.wrap (n28 + 1)))) ?_
 refine oE ?_
 obtain rfl := sj h
 exact E_next k29 (ups_self ⟨rfl, rfl, rfl, trivial⟩) [0] (by decide) rfl
 replace h := wT h
 refine cT rfl (lO ?_)
 refine pq (qm (.one (moC l27 k29))) ?_
 refine pq (qm (iO n28)) ?_
 refine ol_new rfl rfl rfl (q_bslice (cs := [iI n28]) (es := (([n28] : List (Int))).map (rowC r3)) ty30 rfl ty3 rfl rfl rfl rfl rfl) (fun k33 => ?_)
 obtain ⟨_, h34, h⟩ := bindS h
 obtain ⟨h34b, rfl⟩ := app_some h34
 refine ol_appM (r := r3) (l := l27) (ys := ([n28] : List (Int))) 1 rfl rfl rfl rfl rfl rfl (el_ownM (l := ([n28] : List (Int))) 0 rfl) rfl h34 (fun y => rfl) el30 ty30 rfl rfl rfl rfl rfl (fun k35 => ?_)
 refine pq (qa (.one (moC (l27 ++ ([n28] : List (Int))) k35))) ?_
 refine oE (bN (eS (lO ?_)))
 refine pq (qm (iO n28)) ?_
 refine pq (qb p_addY) ?_
 refine pq (qa (iO (IntKind.i64.wrap (n28 + 1)))) ?_
 refine oE ?_
 obtain rfl := sj h
 exact E_next k35 (ups_self ⟨rfl, rfl, rfl, trivial⟩) [0] (by decide) rfl
 replace h := ifF c30 h
 refine pq (qb (p_lss_fZ c30)) ?_
 refine oE (eS (cF rfl (L_exit ?_)))
 refine E_seqX ?_
 obtain rfl := sj h
 refine E_out ?_
 exact (E_exit k29 (ups_self ⟨rfl, trivial⟩) [0] (by decide) rfl)
 rintro (l36 | u) h
 refine J_x (fun k37 g => ?_)
 replace h := elimL h
 refine bH (eS (lS (lO ?_)))
 refine pq (qm (.one (moC l36 k37))) ?_
 refine pq (qa (.one (moC l36 k37))) ?_
 refine oE (eS (lR ?_))
 obtain rfl := sj h
 exact E_endM (r := r3) 0 (.inr rfl) (res_tmp rfl res_nil) rfl (fun x h m => rfl) (fun x => rfl)
 obtain rfl := Option.some.inj (elimR h)
 exact J_up (fun s hs => hs)
noncomputable def ref03_Right (s1 : Sl (Int)) (n2 : Int) : Option (Bool) :=
 (if n2 < 0 then some false else (if n2 > 4096 then some false else ((ref03_words n2).bind fun n6 => (if ((s1.l.length : Nat) : Int) ≠ n6 then some false else ((ref03_List s1).bind fun s9 => (if ((s9.length : Nat) : Int) = 0 then some true else ((atS 1 (mo 1 s9) (IntKind.i64.wrap (((s9.length : Nat) : Int) - 1))).bind fun n14 => (if n14 < n2 then some true else some false))))))))
theorem ref03_Right_r (m : Nat) {s1 : Sl (Int)} {n2 : Int} {out : Bool} (h : ref03_Right s1 n2 = some out) : RunsP E1 (m + 3) 93 [.one (Sl.t r60 s1), .one (iT .i64 n2)] (.fresh, [.one (bT out)]) := by
 refine fn_F rfl (by rw [E1_fn]; exact show fiOf Tryd.prog 93 = _ by unfold fiOf; rw [Tryd.func93]; unfold Tryd.f93; rfl) rfl ?_
 dsimp only
 unfold ref03_Right at h
 refine lS (lO ?_)
 refine pq (qa bf) ?_
 refine oE (eS (lS (lS (lO ?_))))
 refine pq (qm (iO n2)) ?_
 by_cases c3 : n2 < 0
 replace h := ifT c3 h
 refine pq (qb (p_lss_tZ c3)) ?_
 refine pq (qm bt) ?_
 iterate 2 refine os ?_
 refine pq (qpt bt) ?_
 refine pq (qm bt) ?_
 iterate 5 refine os ?_
 refine pq (qpt bt) ?_
 refine oE (eS (cT rfl (lS (lO ?_))))
 refine pq (qa bf) ?_
 refine oE (eS (lR (eR ?_)))
 obtain rfl := sj h
 exact eF1
 replace h := ifF c3 h
 refine pq (qb (p_lss_fZ c3)) ?_
 refine pq (qm bf) ?_
 refine pq (qm (iO n2)) ?_
 by_cases c4 : n2 > 4096
 replace h := ifT c4 h
 refine pq (qb (p_gtr_tZ c4)) ?_
 refine pq (qpf bt) ?_
 refine pq (qm bt) ?_
 iterate 5 refine os ?_
 refine pq (qpt bt) ?_
 refine oE (eS (cT rfl (lS (lO ?_))))
 refine pq (qa bf) ?_
 refine oE (eS (lR (eR ?_)))
 obtain rfl := sj h
 exact eF1
 replace h := ifF c4 h
 refine pq (qb (p_gtr_fZ c4)) ?_
 refine pq (qpf bf) ?_
 refine pq (qm bf) ?_
 refine pq (qm (.one (sF r60 s1))) ?_
 refine pq (q_lenS rfl ty26 rfl rfl rfl rfl) ?_
 refine pq (qm (iO n2)) ?_
 obtain ⟨n6, h5, h⟩ := bindS h
 refine pq (qc (iO n6) [iO n2] (ref03_words_r (m + 1) h5) (vw_cons (vd_one vc_v) vw_nil)) ?_
 by_cases c7 : ((s1.l.length : Nat) : Int) ≠ n6
 replace h := ifT c7 h
 refine pq (qb (p_neq_tZ c7)) ?_
 refine pq (qpf bt) ?_
 refine oE (eS (cT rfl (lS (lO ?_))))
 refine pq (qa bf) ?_
 refine oE (eS (lR (eR ?_)))
 obtain rfl := sj h
 exact eF1
 replace h := ifF c7 h
 refine pq (qb (p_neq_fZ c7)) ?_
 refine pq (qpf bf) ?_
 refine oE (eS (cF rfl (lK (eS (lS (lO ?_))))))
 refine pq (qm (.one (sF r60 s1))) ?_
 obtain ⟨s9, h8, h⟩ := bindS h
 refine ol_callM (r := r3) (l := s9) (args := [.one (sF r60 s1)]) (ref03_List_r (m + 0) h8) rfl rfl rfl rfl rfl rfl (vw_cons (vd_one vc_s) vw_nil) rfl (fun k10 => ?_)
 refine pq (qa (.one (moC s9 k10))) ?_
 refine oN ?_
 refine pq (qm (.one (moC s9 k10))) ?_
 refine pq (q_lenM (l := s9) rfl ty30 rfl rfl rfl rfl) ?_
 by_cases c11 : ((s9.length : Nat) : Int) = 0
 replace h := ifT c11 h
 refine pq (qb (p_eql_tZ c11)) ?_
 refine pq (qm bt) ?_
 iterate 8 refine os ?_
 refine pq (qpt bt) ?_
 refine pq (qa bt) ?_
 refine oE (eS (lR ?_))
 obtain rfl := sj h
 exact eF1
 replace h := ifF c11 h
 refine pq (qb (p_eql_fZ c11)) ?_
 refine pq (qm bf) ?_
 refine pq (qm (.one (moC s9 k10))) ?_
 refine pq (qm (.one (moC s9 k10))) ?_
 refine pq (q_lenM (l := s9) rfl ty30 rfl rfl rfl rfl) ?_
 refine pq (qb p_subY) ?_
 obtain ⟨n14, h13, h⟩ := bindS h
 obtain ⟨h13a, h13⟩ := atM_some h13
 refine pq (q_ixM (r := r3) 0 rfl rfl h13a h13 rfl el30) ?_
 refine pq (q_loadP (v := iO n14) 0 rfl sz3 (segM (r := r3) rfl h13) (map_get h13) rfl rfl) ?_
 refine pq (qm (iO n2)) ?_
 by_cases c15 : n14 < n2
 replace h := ifT c15 h
 refine pq (qb (p_lss_tZ c15)) ?_
 refine pq (qpf bt) ?_
 refine pq (qa bt) ?_
 refine oE (eS (lR ?_))
 obtain rfl := sj h
 exact eF1
 replace h := ifF c15 h
 refine pq (qb (p_lss_fZ c15)) ?_
 refine pq (qpf bf) ?_
 refine pq (qa bf) ?_
 refine oE (eS (lR ?_))
 obtain rfl := sj h
 exact eF1
noncomputable def ref10_Right_b1 (n1 : Int) (s2 : Sl (Int)) (s3 : Sl (Int)) (n25 : Int) : Option (Int ⊕ (Unit ⊕ Bool)) :=
 (if n25 < n1 then ((ref03_Has s2 n25).bind fun b28 => (if b28 = true then some (.inl (IntKind.i64.wrap (n25 + 1))) else ((atS 1 s3 n25).bind fun n31 => (if n31 ≠ 0 then some (.inr (.inr false)) else some (.inl (IntKind.i64.wrap (n25 + 1))))))) else some (.inr (.inl ())))
noncomputable def ref10_Right (a0 : Int × Sl (Int) × Sl (Int)) : Option (Bool) :=
 match a0 with
 | (n1, s2, s3) => (if n1 < 0 then some false else (if n1 > 4096 then some false else ((ref03_Right s2 n1).bind fun b8 => (if b8 = true then (if ((s3.l.length : Nat) : Int) ≠ n1 then some false else ((loopO (ref10_Right_b1 n1 s2 s3) 0).bind (Sum.elim (fun _ => some true) (fun u => some u)))) else some false))))
theorem ref10_Right_r (m : Nat) {a0 : Int × Sl (Int) × Sl (Int)} {out : Bool} (h : ref10_Right a0 = some out) : RunsP E1 (m + 4) 75 [.agg (r35 a0)] (.fresh, [.one (bT out)]) := by
 obtain ⟨n1, s2, s3⟩ := a0
 refine fn_F rfl (by rw [E1_fn]; exact show fiOf Tryd.prog 75 = _ by unfold fiOf; rw [Tryd.func75]; unfold Tryd.f75; rfl) rfl ?_
 dsimp only
 unfold ref10_Right at h
 refine lS (lO ?_)
 refine ol_new rfl rfl rfl (q_box ty36 rfl (cs := [iI n1, sF r60 s2, sF r2 s3]) rfl rfl) (fun k4 => ?_)
 refine pq (qa bf) ?_
 refine oE (eS (lS (lS (lO ?_))))
 refine pq (q_fieldP rfl fa36_0 rfl) ?_
 refine pq (ql (iO n1) 0 sz3) ?_
 by_cases c5 : n1 < 0
 replace h := ifT c5 h
 refine pq (qb (p_lss_tZ c5)) ?_
 refine pq (qm bt) ?_
 iterate 3 refine os ?_
 refine pq (qpt bt) ?_
 refine pq (qm bt) ?_
 iterate 6 refine os ?_
 refine pq (qpt bt) ?_
 refine pq (qm bt) ?_
 iterate 6 refine os ?_
 refine pq (qpt bt) ?_
 refine oE (eS (cT rfl (lS (lO ?_))))
 refine pq (qa bf) ?_
 refine oE (eS (lR (eR ?_)))
 obtain rfl := sj h
 exact eF1
 replace h := ifF c5 h
 refine pq (qb (p_lss_fZ c5)) ?_
 refine pq (qm bf) ?_
 refine pq (q_fieldP rfl fa36_0 rfl) ?_
 refine pq (ql (iO n1) 0 sz3) ?_
 by_cases c6 : n1 > 4096
 replace h := ifT c6 h
 refine pq (qb (p_gtr_tZ c6)) ?_
 refine pq (qpf bt) ?_
 refine pq (qm bt) ?_
 iterate 6 refine os ?_
 refine pq (qpt bt) ?_
 refine pq (qm bt) ?_
 iterate 6 refine os ?_
 refine pq (qpt bt) ?_
 refine oE (eS (cT rfl (lS (lO ?_))))
 refine pq (qa bf) ?_
 refine oE (eS (lR (eR ?_)))
 obtain rfl := sj h
 exact eF1
 replace h := ifF c6 h
 refine pq (qb (p_gtr_fZ c6)) ?_
 refine pq (qpf bf) ?_
 refine pq (qm bf) ?_
 refine pq (q_fieldP rfl fa36_1 rfl) ?_
 refine pq (ql (.one (sF r60 s2)) 0 sz26) ?_
 refine pq (q_fieldP rfl fa36_0 rfl) ?_
 refine pq (ql (iO n1) 0 sz3) ?_
 obtain ⟨b8, h7, h⟩ := bindS h
 refine pq (qc (bO b8) [.one (sF r60 s2), iO n1] (ref03_Right_r (m + 0) h7) (vw_cons (vd_one vc_s) (vw_cons (vd_one vc_v) vw_nil))) ?_
 rcases b8 with _ | _
 replace h := wF h
 refine pq (q_not rfl) ?_
 refine pq (qpf bt) ?_
 refine pq (qm bt) ?_
 iterate 6 refine os ?_
 refine pq (qpt bt) ?_
 refine oE (eS (cT rfl (lS (lO ?_))))
 refine pq (qa bf) ?_
 refine oE (eS (lR (eR ?_)))
 obtain rfl := sj h
 exact eF1
 replace h := wT h
 refine pq (q_not rfl) ?_
 refine pq (qpf bf) ?_
 refine pq (qm bf) ?_
 refine pq (q_fieldP rfl fa36_2 rfl) ?_
 refine pq (ql (.one (sF r2 s3)) 0 sz31) ?_
 refine pq (q_lenS rfl ty31 rfl rfl rfl rfl) ?_
 refine pq (q_fieldP rfl fa36_0 rfl) ?_
 refine pq (ql (iO n1) 0 sz3) ?_
 by_cases c9 : ((s3.l.length : Nat) : Int) ≠ n1
 replace h := ifT c9 h
 refine pq (qb (p_neq_tZ c9)) ?_
 refine pq (qpf bt) ?_
 refine oE (eS (cT rfl (lS (lO ?_))))
 refine pq (qa bf) ?_
 refine oE (eS (lR (eR ?_)))
 obtain rfl := sj h
 exact eF1
 replace h := ifF c9 h
 refine pq (qb (p_neq_fZ c9)) ?_
 refine pq (qpf bf) ?_
 refine oE (eS (cF rfl (lK (eS (lS (lS (lO ?_)))))))
 refine pq (qa (iO 0)) ?_
 refine oE (eS (lB ?_))
 let S1 : Int → Unit → (Nat → D) → Nat → D := fun a kt g => ups g [(1, .one (.ptr k4 0 0)), (3, iO a)]
 let SL1 : Int → Unit → BL := fun a kt => ([[(k4, 3, [[iI n1, sF r60 s2, sF r2 s3]])]] : BL)
 let G1 : Bool → Ex → St → Prop := fun u => endQ E1 [.tmp 2] (.fresh, [.one (bT u)])
 let Sx1 : Unit → Unit → (Nat → D) → Nat → D := fun a kt g => ups g []
 let SLx1 : Unit → Unit → BL := fun a kt => ([] : BL)
 let J1 : (Unit ⊕ Bool) → Ex → St → Prop := JX 47 0 Sx1 SLx1 G1
 refine L_loopS (ref10_Right_b1 n1 s2 s3) S1 SL1 J1 JX_n 0 h () (ups_self ⟨rfl, rfl, trivial⟩) [0] (by decide) rfl ?_ ?_
 rintro n25 _ g out h
 change ref10_Right_b1 n1 s2 s3 n25 = some out at h
 unfold ref10_Right_b1 at h
 refine lS (lS (lO ?_))
 refine pq (qm (iO n25)) ?_
 refine pq (q_fieldP rfl fa36_0 rfl) ?_
 refine pq (ql (iO n1) 0 sz3) ?_
 by_cases c26 : n25 < n1
 replace h := ifT c26 h
 refine pq (qb (p_lss_tZ c26)) ?_
 refine oE (eS (cT rfl (lK (eS (lS (lB (lS (lO ?_))))))))
 refine pq (q_fieldP rfl fa36_1 rfl) ?_
 refine pq (ql (.one (sF r60 s2)) 0 sz26) ?_
 refine pq (qm (iO n25)) ?_
 obtain ⟨b28, h27, h⟩ := bindS h
 refine pq (qc (bO b28) [.one (sF r60 s2), iO n25] (ref03_Has_r (m + 2) h27) (vw_cons (vd_one vc_s) (vw_cons (vd_one vc_v) vw_nil))) ?_
 rcases b28 with _ | _
 replace h := wF h
 refine pq (q_not rfl) ?_
 refine pq (qm bt) ?_
 refine pq (q_fieldP rfl fa36_2 rfl) ?_
 refine pq (ql (.one (sF r2 s3)) 0 sz31) ?_
 refine pq (qm (iO n25)) ?_
 obtain ⟨n31, h30, h⟩ := bindS h
 obtain ⟨h30a, h30b, h30⟩ := atS_some h30
 refine pq (q_ixS rfl rfl h30a h30 (el31.trans (congrArg some h30b.symm))) ?_
 refine pq (q_loadI (v := iO n31) rfl sz2 (map_get h30) rfl rfl) ?_
 by_cases c32 : n31 ≠ 0
 replace h := ifT c32 h
 refine pq (qb (p_neq_tZ c32)) ?_
 refine pq (qpt bt) ?_
 refine oE (eS (cT rfl (lS (lO ?_))))
 refine pq (qa bf) ?_
 refine oE (eS (lR (bR (eR ?_))))
 obtain rfl := sj h
 exact E_out (E_up (eF1))
 replace h := ifF c32 h
 refine pq (qb (p_neq_fZ c32)) ?_
 refine pq (qpt bf) ?_
 refine oE (eS (cF rfl (lK (bN (eS (lO ?_))))))
 refine pq (qm (iO n25)) ?_
 refine pq (qb p_addY) ?_
 refine pq (qa (iO (IntKind.i64.wrap (n25 + 1)))) ?_
 refine oE ?_
 obtain rfl := sj h
 exact E_next () (ups_self ⟨rfl, rfl, trivial⟩) [0] (by decide) rfl
 replace h := wT h
 refine pq (q_not rfl) ?_
 refine pq (qm bf) ?_
 iterate 6 refine os ?_
 refine pq (qpf bf) ?_
 refine oE (eS (cF rfl (lK (bN (eS (lO ?_))))))
 refine pq (qm (iO n25)) ?_
 refine pq (qb p_addY) ?_
 refine pq (qa (iO (IntKind.i64.wrap (n25 + 1)))) ?_
 refine oE ?_
 obtain rfl := sj h
 exact E_next () (ups_self ⟨rfl, rfl, trivial⟩) [0] (by decide) rfl
 replace h := ifF c26 h
 refine pq (qb (p_lss_fZ c26)) ?_
 refine oE (eS (cF rfl (L_exit ?_)))
 refine E_seqX ?_
 obtain rfl := sj h
 refine E_out ?_
 exact (E_exit () (ups_self trivial) [] (by decide) rfl)
 rintro (_ | u) h
 refine J_x (fun kt g => ?_)
 replace h := elimL h
 refine bH (eS (lS (lO ?_)))
 refine pq (qa bt) ?_
 refine oE (eS (lR ?_))
 obtain rfl := sj h
 exact eF1
 obtain rfl := Option.some.inj (elimR h)
 exact J_up (fun s hs => hs)
noncomputable def ref10_Back_b1 (s3 : Sl (Int)) (s10 : List (Int)) (a : Int × (List (Int × Int))) : Option ((Int × (List (Int × Int))) ⊕ ((List (Int × Int)) ⊕ (Int × (Sl (Int × Int))))) :=
 match a with
 | (n50, l51) => (if n50 < ((s10.length : Nat) : Int) then ((atS 1 (mo 1 s10) n50).bind fun n64 => ((atS 1 s3 n64).bind fun n67 => ((app l51 ([(n64, n67)] : List (Int × Int))).bind fun _ => some (.inl ((IntKind.i64.wrap (n50 + 1)), (l51 ++ ([(n64, n67)] : List (Int × Int)))))))) else some (.inr (.inl l51)))
noncomputable def ref10_Back (a0 : Int × Sl (Int) × Sl (Int)) : Option ((Int × (Sl (Int × Int)))) :=
 match a0 with
 | (n1, s2, s3) => ((ref10_Right (n1, s2, s3)).bind fun b7 => (if b7 = true then ((ref03_List s2).bind fun s10 => ((loopO (ref10_Back_b1 s3 s10) (0, ([] : List (Int × Int)))).bind (Sum.elim (fun l69 => some (n1, (mo 2 l69))) (fun u => some u)))) else some (0, (⟨false, 0, []⟩ : Sl (Int × Int)))))
theorem ref10_Back_r (m : Nat) {a0 : Int × Sl (Int) × Sl (Int)} {out : (Int × (Sl (Int × Int)))} (h : ref10_Back a0 = some out) : RunsP E1 (m + 5) 43 [.agg (r35 a0)] (.fresh, [.agg (r38 out)]) := by
 obtain ⟨n1, s2, s3⟩ := a0
 refine fn_F rfl (by rw [E1_fn]; exact show fiOf Tryd.prog 43 = _ by unfold fiOf; rw [Tryd.func43]; unfold Tryd.f43; rfl) rfl ?_
 dsimp only
 unfold ref10_Back at h
 refine lS (lO ?_)
 refine ol_new rfl rfl rfl (q_box ty36 rfl (cs := [iI n1, sF r60 s2, sF r2 s3]) rfl rfl) (fun k4 => ?_)
 refine ol_new rfl rfl rfl (q_alloc ty39 (row := [iI 0, nC]) rfl rfl) (fun k5 => ?_)
 refine oE (eS (lS (lS (lO ?_))))
 refine pq (ql (.agg [iI n1, sF r60 s2, sF r2 s3]) 1 sz36) ?_
 obtain ⟨b7, h6, h⟩ := bindS h
 refine pq (qc (bO b7) [.agg [iI n1, sF r60 s2, sF r2 s3]] (ref10_Right_r (m + 0) h6) (vw_cons (vd_agg (vc_cons vc_v (vc_cons vc_s (vc_cons vc_s vc_nil)))) vw_nil)) ?_
 rcases b7 with _ | _
 replace h := wF h
 refine pq (q_not rfl) ?_
 refine oE (eS (cT rfl (lS (lO ?_))))
 refine pq (q_build (cs := [iI 0, nC]) ty39 rfl pl39 rfl) ?_
 refine ow [[iI 0, nC]] 0 sz39 ?_
 refine oE (eS (lR (eR ?_)))
 obtain rfl := sj h
 exact E_endF (.inr rfl) (res_cell (d := .agg [iI 0, nC]) 0 rfl sz39 rfl rfl rfl rfl res_nil) (vw_cons (vd_agg (vc_cons vc_v (vc_cons vc_s vc_nil))) vw_nil) oG rfl rfl
 replace h := wT h
 refine pq (q_not rfl) ?_
 refine oE (eS (cF rfl (lK (eS (lS (lO ?_))))))
 refine pq (q_fieldP rfl fa36_0 rfl) ?_
 refine pq (ql (iO n1) 1 sz3) ?_
 refine pq (q_build (cs := [iI n1, nC]) ty39 rfl pl39 rfl) ?_
 refine ol_new rfl rfl rfl (q_alloc ty39 (row := [iI 0, nC]) rfl rfl) (fun k8 => ?_)
 refine ow [[iI n1, nC]] 0 sz39 ?_
 refine oN ?_
 refine pq (q_fieldP rfl fa36_1 rfl) ?_
 refine pq (ql (.one (sF r60 s2)) 2 sz26) ?_
 obtain ⟨s10, h9, h⟩ := bindS h
 refine ol_callM (r := r3) (l := s10) (args := [.one (sF r60 s2)]) (ref03_List_r (m + 2) h9) rfl rfl rfl rfl rfl rfl (vw_cons (vd_one vc_s) vw_nil) rfl (fun k11 => ?_)
 refine pq (qa (.one (moC s10 k11))) ?_
 refine oE (eS (lS (lS (lO ?_))))
 refine pq (qa (iO 0)) ?_
 refine oE (eS (lB ?_))
 refine L_addM (α := Int × Int) r70 2 ?_
 let S1 : (Int × (List (Int × Int))) → Nat → (Nat → D) → Nat → D := fun a kt g => ups g [(1, .one (.ptr k4 0 0)), (2, .one (.ptr k5 0 0)), (3, .one (.ptr k8 0 0)), (4, .one (moC s10 k11)), (5, .one (iI a.1))]
 let SL1 : (Int × (List (Int × Int))) → Nat → BL := fun a kt => ([[(k4, 3, [[iI n1, sF r60 s2, sF r2 s3]])], [(k5, 2, [[iI 0, nC]])], [(k8, 2, [[iI n1, moC a.2 kt]])], moL r3 1 s10 k11, moL r70 2 a.2 kt] : BL)
 let G1 : (Int × (Sl (Int × Int))) → Ex → St → Prop := fun u => endQ E1 [.cell 2 39] (.fresh, [.agg (r38 u)])
 let Sx1 : (List (Int × Int)) → Nat → (Nat → D) → Nat → D := fun a kt g => ups g [(2, .one (.ptr k5 0 0)), (3, .one (.ptr k8 0 0))]
 let SLx1 : (List (Int × Int)) → Nat → BL := fun a kt => ([[(k5, 2, [[iI 0, nC]])], [(k8, 2, [[iI n1, moC a kt]])], moL r70 2 a kt] : BL)
 let J1 : ((List (Int × Int)) ⊕ (Int × (Sl (Int × Int)))) → Ex → St → Prop := JX 41 0 Sx1 SLx1 G1
 refine L_loopS (ref10_Back_b1 s3 s10) S1 SL1 J1 JX_n (0, ([] : List (Int × Int))) h 1048 (ups_self ⟨rfl, rfl, rfl, rfl, rfl, trivial⟩) [4, 3, 2, 1, 0] (by decide) rfl ?_ ?_
 rintro ⟨n50, l51⟩ k52 g out h
 change ref10_Back_b1 s3 s10 (n50, l51) = some out at h
 unfold ref10_Back_b1 at h
 refine lS (lS (lO ?_))
 refine pq (qm (iO n50)) ?_
 refine pq (qm (.one (moC s10 k11))) ?_
 refine pq (q_lenM (l := s10) rfl ty30 rfl rfl rfl rfl) ?_
 by_cases c53 : n50 < ((s10.length : Nat) : Int)
 replace h := ifT c53 h
 refine pq (qb (p_lss_tZ c53)) ?_
 refine oE (eS (cT rfl (lK (eS (lS (lB ?_))))))
 refine L_norm (L2 := ([[(k4, 3, [[iI n1, sF r60 s2, sF r2 s3]])], [(k5, 2, [[iI 0, nC]])], [(k8, 2, [[iI n1, moC l51 k52]])], moL r3 1 s10 k11, moL r70 2 l51 k52] : BL)) [0, 1, 2, 3, 4] (by decide) rfl ?_
 refine L_turn 19 rfl [[], [], [], [], [], [], [], [], [], [], [], [], [], [], [], [], moK l51 k52, [], [k8]] [(false, []), (false, []), (false, []), (false, []), (false, []), (false, []), (false, []), (false, []), (false, []), (false, []), (false, []), (false, []), (false, []), (false, []), (false, []), (true, []), (true, []), (false, []), (false, [])] [[2, 3, 4, 5, 6, 7, 8, 9, 10, 11, 12, 13, 14, 15], [2, 3, 4, 5, 6, 7, 8, 9, 10, 11, 12, 13, 14, 15], [0, 1, 3, 6, 7, 8, 9, 10, 11, 12, 13], [0, 1, 2, 6, 7, 8, 9, 10, 11, 12, 13], [0, 1, 6, 7, 8, 9, 10, 11, 12, 13], [0, 1, 6, 7, 8, 9, 10, 11, 12, 13], [0, 1, 2, 3, 4, 5, 8, 9, 10, 11], [0, 1, 2, 3, 4, 5, 8, 9, 10, 11], [0, 1, 2, 3, 4, 5, 6, 7, 9], [0, 1, 2, 3, 4, 5, 6, 7, 8], [0, 1, 2, 3, 4, 5, 6, 7], [0, 1, 2, 3, 4, 5, 6, 7], [0, 1, 2, 3, 4, 5], [0, 1, 2, 3, 4, 5], [0, 1], [0, 1], [], [], []] (by kernel_rfl) (by kernel_rfl) (by kernel_rfl) ?_ (fun bb54 hlt hnd => ?_)
 intro bb54 hlt hnd
 have e_k4 : k4 < bb54 := key_lt hlt 0 rfl
 have e_k5 : k5 < bb54 := key_lt hlt 1 rfl
 have e_k8 : k8 < bb54 := key_lt hlt 2 rfl
 have e_k11 : s10 = [] ∨ k11 < bb54 := key_ltM (r := r3) (w := 1) hlt 3 rfl
 have e_k52 : l51 = [] ∨ k52 < bb54 := key_ltM (r := r70) (w := 2) hlt 4 rfl
 have f_k52 := moK_lt e_k52
 have d_k8_k4 : k8 ≠ k4 := key_ne hnd 2 0 rfl rfl rfl
 have d_k8_k5 : k8 ≠ k5 := key_ne hnd 2 1 rfl rfl rfl
 have d_k52_k4 : k4 ∉ moK l51 k52 := key_neM (r := r70) (w := 2) hnd 4 0 rfl rfl rfl
 have g_k52_k4 := moK_ne d_k52_k4
 have d_k52_k5 : k5 ∉ moK l51 k52 := key_neM (r := r70) (w := 2) hnd 4 1 rfl rfl rfl
 have g_k52_k5 := moK_ne d_k52_k5
 have d_k52_k8 : k8 ∉ moK l51 k52 := key_neM (r := r70) (w := 2) hnd 4 2 rfl rfl rfl
 have g_k52_k8 := moK_ne d_k52_k8
 exact ⟨(by first | (simp [DJ]; done) | (simp [DJ]; omega) | (simp [DJ]; assumption) | (simp_all [DJ]; done) | (simp_all [DJ]; omega)), (by first | (simp [DJ]; done) | (simp [DJ]; omega) | (simp [DJ]; assumption) | (simp_all [DJ]; done) | (simp_all [DJ]; omega))⟩
 have e_k4 : k4 < bb54 := key_lt hlt 0 rfl
 have e_k5 : k5 < bb54 := key_lt hlt 1 rfl
 have e_k8 : k8 < bb54 := key_lt hlt 2 rfl
 have e_k11 : s10 = [] ∨ k11 < bb54 := key_ltM (r := r3) (w := 1) hlt 3 rfl
 have e_k52 : l51 = [] ∨ k52 < bb54 := key_ltM (r := r70) (w := 2) hlt 4 rfl
 have f_k52 := moK_lt e_k52
 have d_k8_k4 : k8 ≠ k4 := key_ne hnd 2 0 rfl rfl rfl
 have d_k8_k5 : k8 ≠ k5 := key_ne hnd 2 1 rfl rfl rfl
 have d_k52_k4 : k4 ∉ moK l51 k52 := key_neM (r := r70) (w := 2) hnd 4 0 rfl rfl rfl
 have g_k52_k4 := moK_ne d_k52_k4
 have d_k52_k5 : k5 ∉ moK l51 k52 := key_neM (r := r70) (w := 2) hnd 4 1 rfl rfl rfl
 have g_k52_k5 := moK_ne d_k52_k5
 have d_k52_k8 : k8 ∉ moK l51 k52 := key_neM (r := r70) (w := 2) hnd 4 2 rfl rfl rfl
 have g_k52_k8 := moK_ne d_k52_k8
 refine tq [] rfl hmn (q_fieldP rfl fa39_1 rfl) ?_
 refine tq [2] rfl (hmc (nin_cons (ne_new (key_lt hlt 2 rfl)) nin_nil) hmn) (ql (.one (moC l51 k52)) 0 sz25) ?_
 refine tq [] rfl (hm0 rfl) (qm (.one (moC s10 k11))) ?_
 refine tq [] rfl (hm0 rfl) (qm (iO n50)) ?_
 obtain ⟨n64, h63, h⟩ := bindS h
 obtain ⟨h63a, h63⟩ := atM_some h63
 refine tq [3] rfl (hm0 rfl) (q_ixM (r := r3) 0 rfl rfl h63a h63 rfl el30) ?_
 refine tq [3] rfl (hm0 rfl) (q_loadP (v := iO n64) 0 rfl sz3 (segM (r := r3) rfl h63) (map_get h63) rfl rfl) ?_
 refine tq [] rfl (hm0 rfl) (q_fieldP rfl fa36_2 rfl) ?_
 refine tq [0] rfl (hm0 rfl) (ql (.one (sF r2 s3)) 0 sz31) ?_
 refine tq [] rfl (hm0 rfl) (qm (.one (moC s10 k11))) ?_
 refine tq [] rfl (hm0 rfl) (qm (iO n50)) ?_
 refine tq [3] rfl (hm0 rfl) (q_ixM (r := r3) 0 rfl rfl h63a h63 rfl el30) ?_
 refine tq [3] rfl (hm0 rfl) (q_loadP (v := iO n64) 0 rfl sz3 (segM (r := r3) rfl h63) (map_get h63) rfl rfl) ?_
 obtain ⟨n67, h66, h⟩ := bindS h
 obtain ⟨h66a, h66b, h66⟩ := atS_some h66
 refine tq [] rfl (hm0 rfl) (q_ixS rfl rfl h66a h66 (el31.trans (congrArg some h66b.symm))) ?_
 refine tq [] rfl (hm0 rfl) (q_loadI (v := iO n67) rfl sz2 (map_get h66) rfl rfl) ?_
 refine tq [] rfl (hm0 rfl) (q_build (cs := [iI n64, iI n67]) ty71 rfl pl71 rfl) ?_
 refine tn_new rfl rfl rfl [] (by decide) rfl (hm0 rfl) rfl rfl (hkc (ne_new (key_lt hlt 0 rfl)) (hkc (ne_new (key_lt hlt 1 rfl)) (hkc (ne_new (key_lt hlt 2 rfl)) (hkM (e_k11.imp id fun h => by omega) (hkM (e_k52.imp id fun h => by omega) hkn))))) (q_bslice (cs := [iI n64, iI n67]) (es := (([(n64, n67)] : List (Int × Int))).map (rowC r70)) ty25 rfl ty71 rfl rfl rfl rfl rfl) ?_
 obtain ⟨_, h68, h⟩ := bindS h
 obtain ⟨h68b, rfl⟩ := app_some h68
 refine tn_appM (r := r70) (l := l51) 0 5 rfl rfl rfl rfl [5, 0] (by decide) rfl (hm0 rfl) rfl rfl (hkc (ne_add rfl) (hkc (ne_new (key_lt hlt 0 rfl)) (hkc (ne_new (key_lt hlt 1 rfl)) (hkc (ne_new (key_lt hlt 2 rfl)) (hkM (e_k11.imp id fun h => by omega) (hkM (e_k52.imp id fun h => by omega) hkn)))))) rfl rfl (el_ownM (l := ([(n64, n67)] : List (Int × Int))) 1 rfl) rfl rfl h68 (fun y => rfl) el25 ty25 rfl rfl rfl rfl rfl ?_
 refine tq [] rfl (hm0 rfl) (q_fieldP rfl fa39_1 rfl) ?_
 refine tn_wr rfl rfl [4] (by decide) rfl (hm0 rfl) rfl (q_store (es' := [[iI n1, moC (l51 ++ ([(n64, n67)] : List (Int × Int))) (bb54 + 16)]]) 0 rfl rfl rfl sz25 rfl rfl rfl rfl rfl) (q := 4) rfl rfl ?_
 refine tn_end (bN (eS (lO ?_)))
 refine pq (qm (iO n50)) ?_
 refine pq (qb p_addY) ?_
 refine pq (qa (iO (IntKind.i64.wrap (n50 + 1)))) ?_
 refine oE ?_
 obtain rfl := sj h
 exact E_next (bb54 + 16) (ups_self ⟨rfl, rfl, rfl, rfl, rfl, trivial⟩) [2, 3, 4, 5, 0] (by decide) rfl
 replace h := ifF c53 h
 refine pq (qb (p_lss_fZ c53)) ?_
 refine oE (eS (cF rfl (L_exit ?_)))
 refine E_seqX ?_
 obtain rfl := sj h
 refine E_out ?_
 exact (E_exit k52 (ups_self ⟨rfl, rfl, trivial⟩) [1, 2, 4] (by decide) rfl)
 rintro (l69 | u) h
 refine J_x (fun k70 g => ?_)
 replace h := elimL h
 refine bH (eS (lS (lO ?_)))
 refine pq (ql (.agg [iI n1, moC l69 k70]) 1 sz39) ?_
 refine ow [[iI n1, moC l69 k70]] 0 sz39 ?_
 refine oE (eS (lR ?_))
 obtain rfl := sj h
 exact E_endF (.inr rfl) (res_cell (d := .agg [iI n1, moC l69 k70]) 0 rfl sz39 rfl rfl rfl rfl res_nil) (vw_cons (vd_agg (vc_cons vc_v (vc_cons (vc_M (r := r70) 2 rfl (fun x h m => rfl)) vc_nil))) vw_nil) oG rfl rfl
 obtain rfl := Option.some.inj (elimR h)
 exact J_up (fun s hs => hs)
noncomputable def ref09_Get_b1 (n3 : Int) (s7 : Sl (Int × Int)) (n22 : Int) : Option (Int ⊕ (Unit ⊕ (Int × Bool))) :=
 (if n22 < ((s7.l.length : Nat) : Int) then ((atS 2 s7 n22).bind fun (n26, n27) => (if n26 = n3 then some (.inr (.inr (n27, true))) else some (.inl (IntKind.i64.wrap (n22 + 1))))) else some (.inr (.inl ())))
noncomputable def ref09_Get (a0 : Int × (Sl (Int × Int))) (n3 : Int) : Option (Int × Bool) :=
 match a0 with
 | (n1, s2) => ((ref09_Sure (n1, s2)).bind fun (n6, s7) => ((loopO (ref09_Get_b1 n3 s7) 0).bind (Sum.elim (fun _ => some (0, false)) (fun u => some u))))
theorem ref09_Get_r (m : Nat) {a0 : Int × (Sl (Int × Int))} {n3 : Int} {out : Int × Bool} (h : ref09_Get a0 n3 = some out) : RunsP E1 (m + 3) 26 [.agg (r38 a0), .one (iT .i64 n3)] (.fresh, [.one (iT .i64 out.1), .one (bT out.2)]) := by
 obtain ⟨n1, s2⟩ := a0
 refine fn_F rfl (by rw [E1_fn]; exact show fiOf Tryd.prog 26 = _ by unfold fiOf; rw [Tryd.func26]; unfold Tryd.f26; rfl) rfl ?_
 dsimp only
 unfold ref09_Get at h
 refine lS (lO ?_)
 refine ol_new rfl rfl rfl (q_box ty39 rfl (cs := [iI n1, sF r70 s2]) rfl rfl) (fun k4 => ?_)
 refine pq (qa (iO 0)) ?_
 refine pq (qa bf) ?_
 refine oN ?_
 refine pq (ql (.agg [iI n1, sF r70 s2]) 0 sz39) ?_
 obtain ⟨⟨n6, s7⟩, h5, h⟩ := bindS h
 refine ol_putX rfl rfl rfl (q_callX (v := fun fr8 => .agg [iI n6, .p fr8 (Sl.t r70 s7)]) (args := [.agg [iI n1, sF r70 s2]]) (ref09_Sure_r (m + 0) h5) rfl rfl (vw_cons (vd_agg (vc_cons vc_v (vc_cons vc_s vc_nil))) vw_nil) rfl rfl (fun fr => rfl)) (fun fr8 => ?_)
 refine ow [[iI n6, .p fr8 (Sl.t r70 s7)]] 0 sz39 ?_
 refine oE (eS (lS (lS (lO ?_))))
 refine pq (qa (iO 0)) ?_
 refine oE (eS (lB ?_))
 let S1 : Int → Unit → (Nat → D) → Nat → D := fun a kt g => ups g [(1, iO n3), (2, .one (.ptr k4 0 0)), (6, iO a)]
 let SL1 : Int → Unit → BL := fun a kt => ([[(k4, 2, [[iI n6, .p fr8 (Sl.t r70 s7)]])]] : BL)
 let G1 : (Int × Bool) → Ex → St → Prop := fun u => endQ E1 [.tmp 4, .tmp 5] (.fresh, [.one (iT .i64 u.1), .one (bT u.2)])
 let Sx1 : Unit → Unit → (Nat → D) → Nat → D := fun a kt g => ups g []
 let SLx1 : Unit → Unit → BL := fun a kt => ([] : BL)
 let J1 : (Unit ⊕ (Int × Bool)) → Ex → St → Prop := JX 30 0 Sx1 SLx1 G1
 refine L_loopS (ref09_Get_b1 n3 s7) S1 SL1 J1 JX_n 0 h () (ups_self ⟨rfl, rfl, rfl, trivial⟩) [0] (by decide) rfl ?_ ?_
 rintro n22 _ g out h
 change ref09_Get_b1 n3 s7 n22 = some out at h
 unfold ref09_Get_b1 at h
 refine lS (lS (lO ?_))
 refine pq (qm (iO n22)) ?_
 refine pq (q_fieldP rfl fa39_1 rfl) ?_
 refine pq (ql (.one (.p fr8 (Sl.t r70 s7))) 0 sz25) ?_
 refine pq (q_lenS rfl ty25 rfl rfl rfl rfl) ?_
 by_cases c23 : n22 < ((s7.l.length : Nat) : Int)
 replace h := ifT c23 h
 refine pq (qb (p_lss_tZ c23)) ?_
 refine oE (eS (cT rfl (lK (eS (lS (lB (lS (lO ?_))))))))
 refine pq (q_fieldP rfl fa39_1 rfl) ?_
 refine pq (ql (.one (.p fr8 (Sl.t r70 s7))) 0 sz25) ?_
 refine pq (qm (iO n22)) ?_
 obtain ⟨⟨n26, n27⟩, h25, h⟩ := bindS h
 obtain ⟨h25a, h25b, h25⟩ := atS_some h25
 refine pq (q_ixS rfl rfl h25a h25 (el25.trans (congrArg some h25b.symm))) ?_
 refine pq (q_fieldI rfl fa71_0 rfl) ?_
 refine pq (q_loadI (v := iO n26) rfl sz3 (map_get h25) rfl rfl) ?_
 refine pq (qm (iO n3)) ?_
 by_cases c28 : n26 = n3
 replace h := ifT c28 h
 refine pq (qb (p_eql_tZ c28)) ?_
 refine oE (eS (cT rfl (lS (lO ?_))))
 refine pq (q_fieldP rfl fa39_1 rfl) ?_
 refine pq (ql (.one (.p fr8 (Sl.t r70 s7))) 0 sz25) ?_
 refine pq (qm (iO n22)) ?_
 refine pq (q_ixS rfl rfl h25a h25 (el25.trans (congrArg some h25b.symm))) ?_
 refine pq (q_fieldI rfl fa71_1 rfl) ?_
 refine pq (q_loadI (v := iO n27) rfl sz2 (map_get h25) rfl rfl) ?_
 refine pq (qa (iO n27)) ?_
 refine pq (qa bt) ?_
 refine oE (eS (lR (bR (eR ?_))))
 obtain rfl := sj h
 exact E_out (E_up (E_endF (.inr rfl) (res_tmp rfl (res_tmp rfl res_nil)) (vw_cons (vd_one vc_v) (vw_cons (vd_one vc_v) vw_nil)) oW rfl rfl))
 replace h := ifF c28 h
 refine pq (qb (p_eql_fZ c28)) ?_
 refine oE (eS (cF rfl (lK (bN (eS (lO ?_))))))
 refine pq (qm (iO n22)) ?_
 refine pq (qb p_addY) ?_
 refine pq (qa (iO (IntKind.i64.wrap (n22 + 1)))) ?_
 refine oE ?_
 obtain rfl := sj h
 exact E_next () (ups_self ⟨rfl, rfl, rfl, trivial⟩) [0] (by decide) rfl
 replace h := ifF c23 h
 refine pq (qb (p_lss_fZ c23)) ?_
 refine oE (eS (cF rfl (L_exit ?_)))
 refine E_seqX ?_
 obtain rfl := sj h
 refine E_out ?_
 exact (E_exit () (ups_self trivial) [] (by decide) rfl)
 rintro (_ | u) h
 refine J_x (fun kt g => ?_)
 replace h := elimL h
 refine bH (eS (lS (lO ?_)))
 refine pq (qa (iO 0)) ?_
 refine pq (qa bf) ?_
 refine oE (eS (lR ?_))
 obtain rfl := sj h
 exact E_endF (.inr rfl) (res_tmp rfl (res_tmp rfl res_nil)) (vw_cons (vd_one vc_v) (vw_cons (vd_one vc_v) vw_nil)) oW rfl rfl
 obtain rfl := Option.some.inj (elimR h)
 exact J_up (fun s hs => hs)
noncomputable def ref01_Minus (a0 : Int × Int) : Option ((Int × Int)) :=
 match a0 with
 | (n1, n2) => ((ref01_Add ((complI .i64 n1), (complI .u64 n2)) (0, 1)).bind fun (n6, n7) => some (n6, n7))
theorem ref01_Minus_r (m : Nat) {a0 : Int × Int} {out : (Int × Int)} (h : ref01_Minus a0 = some out) : RunsP E1 (m + 2) 94 [.agg (r61 a0)] (.fresh, [.agg (r61 out)]) := by
 obtain ⟨n1, n2⟩ := a0
 refine fn_F rfl (by rw [E1_fn]; exact show fiOf Tryd.prog 94 = _ by unfold fiOf; rw [Tryd.func94]; unfold Tryd.f94; rfl) rfl ?_
 dsimp only
 unfold ref01_Minus at h
 refine lS (lO ?_)
 refine ol_new rfl rfl rfl (q_box ty62 rfl (cs := [iI n1, uI n2]) rfl rfl) (fun k3 => ?_)
 refine ol_new rfl rfl rfl (q_alloc ty62 (row := [iI 0, uI 0]) rfl rfl) (fun k4 => ?_)
 refine oN ?_
 refine pq (q_fieldP rfl fa62_0 rfl) ?_
 refine pq (ql (iO n1) 1 sz2) ?_
 refine pq (q_compl rfl) ?_
 refine pq (q_fieldP rfl fa62_1 rfl) ?_
 refine pq (ql (.one (uI n2)) 1 sz60) ?_
 refine pq (q_compl rfl) ?_
 refine pq (q_build (cs := [iI (complI .i64 n1), uI (complI .u64 n2)]) ty62 rfl pl62 rfl) ?_
 refine pq (q_build (cs := [iI 0, uI 1]) ty62 rfl pl62 rfl) ?_
 obtain ⟨⟨n6, n7⟩, h5, h⟩ := bindS h
 refine pq (qc (.agg [iI n6, uI n7]) [.agg [iI (complI .i64 n1), uI (complI .u64 n2)], .agg [iI 0, uI 1]] (ref01_Add_r (m + 0) h5) (vw_cons (vd_agg (vc_cons vc_v (vc_cons vc_v vc_nil))) (vw_cons (vd_agg (vc_cons vc_v (vc_cons vc_v vc_nil))) vw_nil))) ?_
 refine ow [[iI n6, uI n7]] 0 sz62 ?_
 refine oE (eS (lR ?_))
 obtain rfl := sj h
 exact E_endF (.inr rfl) (res_cell (d := .agg [iI n6, uI n7]) 0 rfl sz62 rfl rfl rfl rfl res_nil) (vw_cons (vd_agg (vc_cons vc_v (vc_cons vc_v vc_nil))) vw_nil) oG rfl rfl
noncomputable def ref01_Mul_b1 (a : Int × Int × Int × Int × Int) : Option ((Int × Int × Int × Int × Int) ⊕ ((Int × Int) ⊕ (Int × Int))) :=
 match a with
 | (n49, n50, n51, n52, n53) => (if n49 > 0 then ((modO n49 2).bind fun n55 => (if n55 = 1 then ((ref01_Add (n52, n53) (n50, n51)).bind fun (n59, n60) => ((ref01_Add (n50, n51) (n50, n51)).bind fun (n62, n63) => ((divO .u64 n49 2).bind fun n64 => some (.inl (n64, n62, n63, n59, n60))))) else ((ref01_Add (n50, n51) (n50, n51)).bind fun (n67, n68) => ((divO .u64 n49 2).bind fun n69 => some (.inl (n69, n67, n68, n52, n53)))))) else some (.inr (.inl (n52, n53))))
noncomputable def ref01_Mul_b2 (a : Int × Int × Int × Int × Int) : Option ((Int × Int × Int × Int × Int) ⊕ ((Int × Int) ⊕ (Int × Int))) :=
 match a with
 | (n116, n117, n118, n119, n120) => (if n116 > 0 then ((modO n116 2).bind fun n122 => (if n122 = 1 then ((ref01_Add (n119, n120) (n117, n118)).bind fun (n126, n127) => ((ref01_Add (n117, n118) (n117, n118)).bind fun (n129, n130) => ((divO .u64 n116 2).bind fun n131 => some (.inl (n131, n129, n130, n126, n127))))) else ((ref01_Add (n117, n118) (n117, n118)).bind fun (n134, n135) => ((divO .u64 n116 2).bind fun n136 => some (.inl (n136, n134, n135, n119, n120)))))) else some (.inr (.inl (n119, n120))))
noncomputable def ref01_Mul (n1 : Int) (n2 : Int) : Option ((Int × Int)) :=
 ((ref01_Of n1).bind fun (n5, n6) => (if n2 < 0 then ((loopO (ref01_Mul_b1) ((IntKind.u64.wrap (0 - (IntKind.u64.wrap n2))), n5, n6, 0, 0)).bind (Sum.elim (fun ⟨n71, n72⟩ => ((ref01_Minus (n71, n72)).bind fun (n74, n75) => some (n74, n75))) (fun u => some u))) else ((loopO (ref01_Mul_b2) ((IntKind.u64.wrap n2), n5, n6, 0, 0)).bind (Sum.elim (fun ⟨n138, n139⟩ => some (n138, n139)) (fun u => some u)))))
theorem ref01_Mul_r (m : Nat) {n1 : Int} {n2 : Int} {out : (Int × Int)} (h : ref01_Mul n1 n2 = some out) : RunsP E1 (m + 3) 80 [.one (iT .i64 n1), .one (iT .i64 n2)] (.fresh, [.agg (r61 out)]) := by
 refine fn_F rfl (by rw [E1_fn]; exact show fiOf Tryd.prog 80 = _ by unfold fiOf; rw [Tryd.func80]; unfold Tryd.f80; rfl) rfl ?_
 dsimp only
 unfold ref01_Mul at h
 refine lS (lO ?_)
 refine ol_new rfl rfl rfl (q_alloc ty62 (row := [iI 0, uI 0]) rfl rfl) (fun k3 => ?_)
 refine oN ?_
 refine pq (qm (iO n1)) ?_
 obtain ⟨⟨n5, n6⟩, h4, h⟩ := bindS h
 refine pq (qc (.agg [iI n5, uI n6]) [iO n1] (ref01_Of_r (m + 1) h4) (vw_cons (vd_one vc_v) vw_nil)) ?_
 refine ol_new rfl rfl rfl (q_alloc ty62 (row := [iI 0, uI 0]) rfl rfl) (fun k7 => ?_)
 refine ow [[iI n5, uI n6]] 0 sz62 ?_
 refine oN ?_
 refine pq (qm (iO n2)) ?_
 by_cases c8 : n2 < 0
 replace h := ifT c8 h
 refine pq (qb (p_lss_tZ c8)) ?_
 refine pq (qa bt) ?_
 refine oN ?_
 refine pq (qm (iO n2)) ?_
 refine pq (q_conv rfl (cv2_60_i64 _) rfl) ?_
 refine pq (qa (.one (uI (IntKind.u64.wrap n2)))) ?_
 refine oE (eS (lS (lS (lO ?_))))
 refine pq (qm bt) ?_
 refine oE (eS (cT rfl (lO ?_)))
 refine pq (qm (.one (uI (IntKind.u64.wrap n2)))) ?_
 refine pq (q_neg rfl) ?_
 refine pq (qa (.one (uI (IntKind.u64.wrap (0 - (IntKind.u64.wrap n2)))))) ?_
 refine oN ?_
 refine ol_new rfl rfl rfl (q_alloc ty62 (row := [iI 0, uI 0]) rfl rfl) (fun k9 => ?_)
 refine oE (eS (lS (lB ?_)))
 let S1 : (Int × Int × Int × Int × Int) → Unit → (Nat → D) → Nat → D := fun a kt g => ups g [(4, .one (.ptr k3 0 0)), (5, .one (.ptr k7 0 0)), (6, bt), (7, .one (uI a.1)), (8, .one (.ptr k9 0 0))]
 let SL1 : (Int × Int × Int × Int × Int) → Unit → BL := fun a kt => ([[(k3, 2, [[iI 0, uI 0]])], [(k7, 2, [[iI a.2.1, uI a.2.2.1]])], [(k9, 2, [[iI a.2.2.2.1, uI a.2.2.2.2]])]] : BL)
 let G1 : (Int × Int) → Ex → St → Prop := fun u => endQ E1 [.cell 4 62] (.fresh, [.agg (r61 u)])
 let Sx1 : (Int × Int) → Unit → (Nat → D) → Nat → D := fun a kt g => ups g [(4, .one (.ptr k3 0 0)), (6, bt), (8, .one (.ptr k9 0 0))]
 let SLx1 : (Int × Int) → Unit → BL := fun a kt => ([[(k3, 2, [[iI 0, uI 0]])], [(k9, 2, [[iI a.1, uI a.2]])]] : BL)
 let J1 : ((Int × Int) ⊕ (Int × Int)) → Ex → St → Prop := JX 35 0 Sx1 SLx1 G1
 refine L_loopS (ref01_Mul_b1) S1 SL1 J1 JX_n ((IntKind.u64.wrap (0 - (IntKind.u64.wrap n2))), n5, n6, 0, 0) h () (ups_self ⟨rfl, rfl, rfl, rfl, rfl, trivial⟩) [2, 1, 0] (by decide) rfl ?_ ?_
 rintro ⟨n49, n50, n51, n52, n53⟩ _ g out h
 change ref01_Mul_b1 (n49, n50, n51, n52, n53) = some out at h
 unfold ref01_Mul_b1 at h
 refine lS (lS (lO ?_))
 refine pq (qm (.one (uI n49))) ?_
 by_cases c54 : n49 > 0
 replace h := ifT c54 h
 refine pq (qb (p_gtr_tZ c54)) ?_
 refine oE (eS (cT rfl (lK (eS (lB (lS (lS (lO ?_))))))))
 refine pq (qm (.one (uI n49))) ?_
 obtain ⟨n55, h56, h⟩ := bindS h
 refine pq (q_bin rfl rfl (modO_p h56) rfl) ?_
 by_cases c57 : n55 = 1
 replace h := ifT c57 h
 refine pq (qb (p_eql_tZ c57)) ?_
 refine oE (eS (cT rfl (lO ?_)))
 refine pq (ql (.agg [iI n52, uI n53]) 2 sz62) ?_
 refine pq (ql (.agg [iI n50, uI n51]) 1 sz62) ?_
 obtain ⟨⟨n59, n60⟩, h58, h⟩ := bindS h
 refine pq (qc (.agg [iI n59, uI n60]) [.agg [iI n52, uI n53], .agg [iI n50, uI n51]] (ref01_Add_r (m + 1) h58) (vw_cons (vd_agg (vc_cons vc_v (vc_cons vc_v vc_nil))) (vw_cons (vd_agg (vc_cons vc_v (vc_cons vc_v vc_nil))) vw_nil))) ?_
 refine ow [[iI n59, uI n60]] 2 sz62 ?_
 refine oN ?_
 refine pq (ql (.agg [iI n50, uI n51]) 1 sz62) ?_
 refine pq (ql (.agg [iI n50, uI n51]) 1 sz62) ?_
 obtain ⟨⟨n62, n63⟩, h61, h⟩ := bindS h
 refine pq (qc (.agg [iI n62, uI n63]) [.agg [iI n50, uI n51], .agg [iI n50, uI n51]] (ref01_Add_r (m + 1) h61) (vw_cons (vd_agg (vc_cons vc_v (vc_cons vc_v vc_nil))) (vw_cons (vd_agg (vc_cons vc_v (vc_cons vc_v vc_nil))) vw_nil))) ?_
 refine ow [[iI n62, uI n63]] 1 sz62 ?_
 refine oR ?_
 refine pq (qm (.one (uI n49))) ?_
 obtain ⟨n64, h65, h⟩ := bindS h
 refine pq (q_bin rfl rfl (divO_p h65) rfl) ?_
 refine pq (qa (.one (uI n64))) ?_
 refine oE (bN ?_)
 obtain rfl := sj h
 exact E_next () (ups_self ⟨rfl, rfl, rfl, rfl, rfl, trivial⟩) [0, 1, 2] (by decide) rfl
 replace h := ifF c57 h
 refine pq (qb (p_eql_fZ c57)) ?_
 refine oE (eS (cF rfl (lK (eS (lS (lO ?_))))))
 refine pq (ql (.agg [iI n50, uI n51]) 1 sz62) ?_
 refine pq (ql (.agg [iI n50, uI n51]) 1 sz62) ?_
 obtain ⟨⟨n67, n68⟩, h66, h⟩ := bindS h
 refine pq (qc (.agg [iI n67, uI n68]) [.agg [iI n50, uI n51], .agg [iI n50, uI n51]] (ref01_Add_r (m + 1) h66) (vw_cons (vd_agg (vc_cons vc_v (vc_cons vc_v vc_nil))) (vw_cons (vd_agg (vc_cons vc_v (vc_cons vc_v vc_nil))) vw_nil))) ?_
 refine ow [[iI n67, uI n68]] 1 sz62 ?_
 refine oR ?_
 refine pq (qm (.one (uI n49))) ?_
 obtain ⟨n69, h70, h⟩ := bindS h
 refine pq (q_bin rfl rfl (divO_p h70) rfl) ?_
 refine pq (qa (.one (uI n69))) ?_
 refine oE (bN ?_)
 obtain rfl := sj h
 exact E_next () (ups_self ⟨rfl, rfl, rfl, rfl, rfl, trivial⟩) [0, 1, 2] (by decide) rfl
 replace h := ifF c54 h
 refine pq (qb (p_gtr_fZ c54)) ?_
 refine oE (eS (cF rfl (L_exit ?_)))
 refine E_seqX ?_
 obtain rfl := sj h
 refine E_out ?_
 exact (E_exit () (ups_self ⟨rfl, rfl, rfl, trivial⟩) [0, 2] (by decide) rfl)
 rintro (⟨n71, n72⟩ | u) h
 refine J_x (fun kt g => ?_)
 replace h := elimL h
 refine bH (eS (lS (lS (lO ?_))))
 refine pq (qm bt) ?_
 refine oE (eS (cT rfl (lS (lO ?_))))
 refine pq (ql (.agg [iI n71, uI n72]) 1 sz62) ?_
 obtain ⟨⟨n74, n75⟩, h73, h⟩ := bindS h
 refine pq (qc (.agg [iI n74, uI n75]) [.agg [iI n71, uI n72]] (ref01_Minus_r (m + 0) h73) (vw_cons (vd_agg (vc_cons vc_v (vc_cons vc_v vc_nil))) vw_nil)) ?_
 refine ow [[iI n74, uI n75]] 0 sz62 ?_
 refine oE (eS (lR (eR ?_)))
 obtain rfl := sj h
 exact E_endF (.inr rfl) (res_cell (d := .agg [iI n74, uI n75]) 0 rfl sz62 rfl rfl rfl rfl res_nil) (vw_cons (vd_agg (vc_cons vc_v (vc_cons vc_v vc_nil))) vw_nil) oG rfl rfl
 obtain rfl := Option.some.inj (elimR h)
 exact J_up (fun s hs => hs)
 replace h := ifF c8 h
 refine pq (qb (p_lss_fZ c8)) ?_
 refine pq (qa bf) ?_
 refine oN ?_
 refine pq (qm (iO n2)) ?_
 refine pq (q_conv rfl (cv2_60_i64 _) rfl) ?_
 refine pq (qa (.one (uI (IntKind.u64.wrap n2)))) ?_
 refine oE (eS (lS (lS (lO ?_))))
 refine pq (qm bf) ?_
 refine oE (eS (cF rfl (lK (eS (lS (lO ?_))))))
 refine ol_new rfl rfl rfl (q_alloc ty62 (row := [iI 0, uI 0]) rfl rfl) (fun k76 => ?_)
 refine oE (eS (lS (lB ?_)))
 let S2 : (Int × Int × Int × Int × Int) → Unit → (Nat → D) → Nat → D := fun a kt g => ups g [(4, .one (.ptr k3 0 0)), (5, .one (.ptr k7 0 0)), (6, bf), (7, .one (uI a.1)), (8, .one (.ptr k76 0 0))]
 let SL2 : (Int × Int × Int × Int × Int) → Unit → BL := fun a kt => ([[(k3, 2, [[iI 0, uI 0]])], [(k7, 2, [[iI a.2.1, uI a.2.2.1]])], [(k76, 2, [[iI a.2.2.2.1, uI a.2.2.2.2]])]] : BL)
 let G2 : (Int × Int) → Ex → St → Prop := fun u => endQ E1 [.cell 4 62] (.fresh, [.agg (r61 u)])
 let Sx2 : (Int × Int) → Unit → (Nat → D) → Nat → D := fun a kt g => ups g [(4, .one (.ptr k3 0 0)), (6, bf), (8, .one (.ptr k76 0 0))]
 let SLx2 : (Int × Int) → Unit → BL := fun a kt => ([[(k3, 2, [[iI 0, uI 0]])], [(k76, 2, [[iI a.1, uI a.2]])]] : BL)
 let J2 : ((Int × Int) ⊕ (Int × Int)) → Ex → St → Prop := JX 35 0 Sx2 SLx2 G2
 refine L_loopS (ref01_Mul_b2) S2 SL2 J2 JX_n ((IntKind.u64.wrap n2), n5, n6, 0, 0) h () (ups_self ⟨rfl, rfl, rfl, rfl, rfl, trivial⟩) [2, 1, 0] (by decide) rfl ?_ ?_
 rintro ⟨n116, n117, n118, n119, n120⟩ _ g out h
 change ref01_Mul_b2 (n116, n117, n118, n119, n120) = some out at h
 unfold ref01_Mul_b2 at h
 refine lS (lS (lO ?_))
 refine pq (qm (.one (uI n116))) ?_
 by_cases c121 : n116 > 0
 replace h := ifT c121 h
 refine pq (qb (p_gtr_tZ c121)) ?_
 refine oE (eS (cT rfl (lK (eS (lB (lS (lS (lO ?_))))))))
 refine pq (qm (.one (uI n116))) ?_
 obtain ⟨n122, h123, h⟩ := bindS h
 refine pq (q_bin rfl rfl (modO_p h123) rfl) ?_
 by_cases c124 : n122 = 1
 replace h := ifT c124 h
 refine pq (qb (p_eql_tZ c124)) ?_
 refine oE (eS (cT rfl (lO ?_)))
 refine pq (ql (.agg [iI n119, uI n120]) 2 sz62) ?_
 refine pq (ql (.agg [iI n117, uI n118]) 1 sz62) ?_
 obtain ⟨⟨n126, n127⟩, h125, h⟩ := bindS h
 refine pq (qc (.agg [iI n126, uI n127]) [.agg [iI n119, uI n120], .agg [iI n117, uI n118]] (ref01_Add_r (m + 1) h125) (vw_cons (vd_agg (vc_cons vc_v (vc_cons vc_v vc_nil))) (vw_cons (vd_agg (vc_cons vc_v (vc_cons vc_v vc_nil))) vw_nil))) ?_
 refine ow [[iI n126, uI n127]] 2 sz62 ?_
 refine oN ?_
 refine pq (ql (.agg [iI n117, uI n118]) 1 sz62) ?_
 refine pq (ql (.agg [iI n117, uI n118]) 1 sz62) ?_
 obtain ⟨⟨n129, n130⟩, h128, h⟩ := bindS h
 refine pq (qc (.agg [iI n129, uI n130]) [.agg [iI n117, uI n118], .agg [iI n117, uI n118]] (ref01_Add_r (m + 1) h128) (vw_cons (vd_agg (vc_cons vc_v (vc_cons vc_v vc_nil))) (vw_cons (vd_agg (vc_cons vc_v (vc_cons vc_v vc_nil))) vw_nil))) ?_
 refine ow [[iI n129, uI n130]] 1 sz62 ?_
 refine oR ?_
 refine pq (qm (.one (uI n116))) ?_
 obtain ⟨n131, h132, h⟩ := bindS h
 refine pq (q_bin rfl rfl (divO_p h132) rfl) ?_
 refine pq (qa (.one (uI n131))) ?_
 refine oE (bN ?_)
 obtain rfl := sj h
 exact E_next () (ups_self ⟨rfl, rfl, rfl, rfl, rfl, trivial⟩) [0, 1, 2] (by decide) rfl
 replace h := ifF c124 h
 refine pq (qb (p_eql_fZ c124)) ?_
 refine oE (eS (cF rfl (lK (eS (lS (lO ?_))))))
 refine pq (ql (.agg [iI n117, uI n118]) 1 sz62) ?_
 refine pq (ql (.agg [iI n117, uI n118]) 1 sz62) ?_
 obtain ⟨⟨n134, n135⟩, h133, h⟩ := bindS h
 refine pq (qc (.agg [iI n134, uI n135]) [.agg [iI n117, uI n118], .agg [iI n117, uI n118]] (ref01_Add_r (m + 1) h133) (vw_cons (vd_agg (vc_cons vc_v (vc_cons vc_v vc_nil))) (vw_cons (vd_agg (vc_cons vc_v (vc_cons vc_v vc_nil))) vw_nil))) ?_
 refine ow [[iI n134, uI n135]] 1 sz62 ?_
 refine oR ?_
 refine pq (qm (.one (uI n116))) ?_
 obtain ⟨n136, h137, h⟩ := bindS h
 refine pq (q_bin rfl rfl (divO_p h137) rfl) ?_
 refine pq (qa (.one (uI n136))) ?_
 refine oE (bN ?_)
 obtain rfl := sj h
 exact E_next () (ups_self ⟨rfl, rfl, rfl, rfl, rfl, trivial⟩) [0, 1, 2] (by decide) rfl
 replace h := ifF c121 h
 refine pq (qb (p_gtr_fZ c121)) ?_
 refine oE (eS (cF rfl (L_exit ?_)))
 refine E_seqX ?_
 obtain rfl := sj h
 refine E_out ?_
 exact (E_exit () (ups_self ⟨rfl, rfl, rfl, trivial⟩) [0, 2] (by decide) rfl)
 rintro (⟨n138, n139⟩ | u) h
 refine J_x (fun kt g => ?_)
 replace h := elimL h
 refine bH (eS (lS (lS (lO ?_))))
 refine pq (qm bf) ?_
 refine oE (eS (cF rfl (lK (eS (lS (lO ?_))))))
 refine pq (ql (.agg [iI n138, uI n139]) 1 sz62) ?_
 refine ow [[iI n138, uI n139]] 0 sz62 ?_
 refine oE (eS (lR ?_))
 obtain rfl := sj h
 exact E_endF (.inr rfl) (res_cell (d := .agg [iI n138, uI n139]) 0 rfl sz62 rfl rfl rfl rfl res_nil) (vw_cons (vd_agg (vc_cons vc_v (vc_cons vc_v vc_nil))) vw_nil) oG rfl rfl
 obtain rfl := Option.some.inj (elimR h)
 exact J_up (fun s hs => hs)
noncomputable def ref02_Mul (n1 : Int) (n2 : Int) (n3 : Int) : Option ((Int × Int)) :=
 (if n2 ≥ 4611686018427387904 then (if n1 = 1 then ((ref01_Of n2).bind fun (n8, n9) => ((ref01_Of n3).bind fun (n11, n12) => ((ref01_Add (n8, n9) (n11, n12)).bind fun (n14, n15) => ((ref01_Of 4611686018427387904).bind fun (n18, n19) => some (n18, n19))))) else (if n1 = 3 then ((ref01_Of 4611686018427387904).bind fun (n22, n23) => some (n22, n23)) else (if n1 = 4 then ((ref01_Of 4611686018427387904).bind fun (n26, n27) => some (n26, n27)) else (if n1 = 2 then (if n2 ≠ 0 then (if n3 ≠ 0 then ((ref02_truth true).bind fun (n32, n33) => some (n32, n33)) else ((ref02_truth false).bind fun (n35, n36) => some (n35, n36))) else ((ref02_truth false).bind fun (n38, n39) => some (n38, n39))) else (if n1 = 5 then ((ref01_Mul n2 n3).bind fun (n42, n43) => some (n42, n43)) else some (0, 0)))))) else (if n3 ≥ 4611686018427387904 then (if n1 = 1 then ((ref01_Of n2).bind fun (n47, n48) => ((ref01_Of n3).bind fun (n50, n51) => ((ref01_Add (n47, n48) (n50, n51)).bind fun (n53, n54) => ((ref01_Of 4611686018427387904).bind fun (n57, n58) => some (n57, n58))))) else (if n1 = 3 then ((ref01_Of 4611686018427387904).bind fun (n61, n62) => some (n61, n62)) else (if n1 = 4 then ((ref01_Of 4611686018427387904).bind fun (n65, n66) => some (n65, n66)) else (if n1 = 2 then (if n2 ≠ 0 then (if n3 ≠ 0 then ((ref02_truth true).bind fun (n71, n72) => some (n71, n72)) else ((ref02_truth false).bind fun (n74, n75) => some (n74, n75))) else ((ref02_truth false).bind fun (n77, n78) => some (n77, n78))) else (if n1 = 5 then ((ref01_Mul n2 n3).bind fun (n81, n82) => some (n81, n82)) else some (0, 0)))))) else (if n1 = 1 then ((ref01_Of n2).bind fun (n85, n86) => ((ref01_Of n3).bind fun (n88, n89) => ((ref01_Add (n85, n86) (n88, n89)).bind fun (n91, n92) => ((ref01_Of 4611686018427387904).bind fun (n95, n96) => ((ref01_Compare (n91, n92) (n95, n96)).bind fun n98 => (if n98 > 0 then some (n95, n96) else some (n91, n92))))))) else (if n1 = 3 then ((ref01_Of n2).bind fun (n102, n103) => some (n102, n103)) else (if n1 = 4 then ((ref01_Of n3).bind fun (n106, n107) => some (n106, n107)) else (if n1 = 2 then (if n2 ≠ 0 then (if n3 ≠ 0 then ((ref02_truth true).bind fun (n112, n113) => some (n112, n113)) else ((ref02_truth false).bind fun (n115, n116) => some (n115, n116))) else ((ref02_truth false).bind fun (n118, n119) => some (n118, n119))) else (if n1 = 5 then ((ref01_Mul n2 n3).bind fun (n122, n123) => some (n122, n123)) else some (0, 0))))))))
theorem ref02_Mul_r (m : Nat) {n1 : Int} {n2 : Int} {n3 : Int} {out : (Int × Int)} (h : ref02_Mul n1 n2 n3 = some out) : RunsP E1 (m + 4) 46 [.one (iT .i64 n1), .one (iT .i64 n2), .one (iT .i64 n3)] (.fresh, [.agg (r61 out)]) := by
 refine fn_F rfl (by rw [E1_fn]; exact show fiOf Tryd.prog 46 = _ by unfold fiOf; rw [Tryd.func46]; unfold Tryd.f46; rfl) rfl ?_
 dsimp only
 unfold ref02_Mul at h
 refine lS (lO ?_)
 refine ol_new rfl rfl rfl (q_alloc ty62 (row := [iI 0, uI 0]) rfl rfl) (fun k4 => ?_)
 refine oN ?_
 refine pq (qm (iO n2)) ?_
 by_cases c5 : n2 ≥ 4611686018427387904
 replace h := ifT c5 h
 refine pq (qb (p_geq_tZ c5)) ?_
 refine pq (qm bt) ?_
 iterate 2 refine os ?_
 refine pq (qpt bt) ?_
 refine pq (qa bt) ?_
 refine oN ?_
 refine pq (qm (iO n1)) ?_
 refine oE (eS (lB (lS (lO ?_))))
 by_cases c6 : n1 = 1
 replace h := ifT c6 h
 refine pq (qb (p_eql_tZ c6)) ?_
 refine pq (qa bt) ?_
 refine oE (eS (cT rfl (lS (lO ?_))))
 refine pq (qm (iO n2)) ?_
 obtain ⟨⟨n8, n9⟩, h7, h⟩ := bindS h
 refine pq (qc (.agg [iI n8, uI n9]) [iO n2] (ref01_Of_r (m + 2) h7) (vw_cons (vd_one vc_v) vw_nil)) ?_
 refine pq (qm (iO n3)) ?_
 obtain ⟨⟨n11, n12⟩, h10, h⟩ := bindS h
 refine pq (qc (.agg [iI n11, uI n12]) [iO n3] (ref01_Of_r (m + 2) h10) (vw_cons (vd_one vc_v) vw_nil)) ?_
 obtain ⟨⟨n14, n15⟩, h13, h⟩ := bindS h
 refine pq (qc (.agg [iI n14, uI n15]) [.agg [iI n8, uI n9], .agg [iI n11, uI n12]] (ref01_Add_r (m + 2) h13) (vw_cons (vd_agg (vc_cons vc_v (vc_cons vc_v vc_nil))) (vw_cons (vd_agg (vc_cons vc_v (vc_cons vc_v vc_nil))) vw_nil))) ?_
 refine ol_new rfl rfl rfl (q_alloc ty62 (row := [iI 0, uI 0]) rfl rfl) (fun k16 => ?_)
 refine ow [[iI n14, uI n15]] 0 sz62 ?_
 refine oE (eS (lS (lS ?_)))
 refine L_still (by kernel_rfl) ?_
 refine sq (qm bt) ?_
 refine sq (qm bt) ?_
 iterate 4 refine ss ?_
 refine sq (qpt bt) ?_
 refine st_end (eS (cT rfl (lS (lO ?_))))
 obtain ⟨⟨n18, n19⟩, h17, h⟩ := bindS h
 refine pq (qc (.agg [iI n18, uI n19]) [iO 4611686018427387904] (ref01_Of_r (m + 2) h17) (vw_cons (vd_one vc_v) vw_nil)) ?_
 refine ow [[iI n18, uI n19]] 1 sz62 ?_
 refine oE (eS (lR (eR (bR ?_))))
 obtain rfl := sj h
 exact E_endF (.inr rfl) (res_cell (d := .agg [iI n18, uI n19]) 1 rfl sz62 rfl rfl rfl rfl res_nil) (vw_cons (vd_agg (vc_cons vc_v (vc_cons vc_v vc_nil))) vw_nil) oG rfl rfl
 replace h := ifF c6 h
 refine pq (qb (p_eql_fZ c6)) ?_
 refine pq (qa bf) ?_
 refine oE (eS (cF rfl (lS (lO ?_))))
 by_cases c20 : n1 = 3
 replace h := ifT c20 h
 refine pq (qb (p_eql_tZ c20)) ?_
 refine pq (qa bt) ?_
 refine oE (eS (cT rfl (lS (lS (lO ?_)))))
 refine pq (qm bt) ?_
 refine oE (eS (cT rfl (lS (lO ?_))))
 obtain ⟨⟨n22, n23⟩, h21, h⟩ := bindS h
 refine pq (qc (.agg [iI n22, uI n23]) [iO 4611686018427387904] (ref01_Of_r (m + 2) h21) (vw_cons (vd_one vc_v) vw_nil)) ?_
 refine ow [[iI n22, uI n23]] 0 sz62 ?_
 refine oE (eS (lR (eR (bR ?_))))
 obtain rfl := sj h
 exact E_endF (.inr rfl) (res_cell (d := .agg [iI n22, uI n23]) 0 rfl sz62 rfl rfl rfl rfl res_nil) (vw_cons (vd_agg (vc_cons vc_v (vc_cons vc_v vc_nil))) vw_nil) oG rfl rfl
 replace h := ifF c20 h
 refine pq (qb (p_eql_fZ c20)) ?_
 refine pq (qa bf) ?_
 refine oE (eS (cF rfl (lS (lO ?_))))
 by_cases c24 : n1 = 4
 replace h := ifT c24 h
 refine pq (qb (p_eql_tZ c24)) ?_
 refine pq (qa bt) ?_
 refine oE (eS (cT rfl (lS (lS (lO ?_)))))
 refine pq (qm bt) ?_
 refine oE (eS (cT rfl (lS (lO ?_))))
 obtain ⟨⟨n26, n27⟩, h25, h⟩ := bindS h
 refine pq (qc (.agg [iI n26, uI n27]) [iO 4611686018427387904] (ref01_Of_r (m + 2) h25) (vw_cons (vd_one vc_v) vw_nil)) ?_
 refine ow [[iI n26, uI n27]] 0 sz62 ?_
 refine oE (eS (lR (eR (bR ?_))))
 obtain rfl := sj h
 exact E_endF (.inr rfl) (res_cell (d := .agg [iI n26, uI n27]) 0 rfl sz62 rfl rfl rfl rfl res_nil) (vw_cons (vd_agg (vc_cons vc_v (vc_cons vc_v vc_nil))) vw_nil) oG rfl rfl
 replace h := ifF c24 h
 refine pq (qb (p_eql_fZ c24)) ?_
 refine pq (qa bf) ?_
 refine oE (eS (cF rfl (lS (lO ?_))))
 by_cases c28 : n1 = 2
 replace h := ifT c28 h
 refine pq (qb (p_eql_tZ c28)) ?_
 refine pq (qa bt) ?_
 refine oE (eS (cT rfl (lS (lO ?_))))
 refine pq (qm (iO n2)) ?_
 by_cases c29 : n2 ≠ 0
 replace h := ifT c29 h
 refine pq (qb (p_neq_tZ c29)) ?_
 refine pq (qm bt) ?_
 refine pq (qm (iO n3)) ?_
 by_cases c30 : n3 ≠ 0
 replace h := ifT c30 h
 refine pq (qb (p_neq_tZ c30)) ?_
 refine pq (qpt bt) ?_
 obtain ⟨⟨n32, n33⟩, h31, h⟩ := bindS h
 refine pq (qc (.agg [iI n32, uI n33]) [bt] (ref02_truth_r (m + 2) h31) (vw_cons (vd_one vc_v) vw_nil)) ?_
 refine ow [[iI n32, uI n33]] 0 sz62 ?_
 refine oE (eS (lR (bR ?_)))
 obtain rfl := sj h
 exact E_endF (.inr rfl) (res_cell (d := .agg [iI n32, uI n33]) 0 rfl sz62 rfl rfl rfl rfl res_nil) (vw_cons (vd_agg (vc_cons vc_v (vc_cons vc_v vc_nil))) vw_nil) oG rfl rfl
 replace h := ifF c30 h
 refine pq (qb (p_neq_fZ c30)) ?_
 refine pq (qpt bf) ?_
 obtain ⟨⟨n35, n36⟩, h34, h⟩ := bindS h
 refine pq (qc (.agg [iI n35, uI n36]) [bf] (ref02_truth_r (m + 2) h34) (vw_cons (vd_one vc_v) vw_nil)) ?_
 refine ow [[iI n35, uI n36]] 0 sz62 ?_
 refine oE (eS (lR (bR ?_)))
 obtain rfl := sj h
 exact E_endF (.inr rfl) (res_cell (d := .agg [iI n35, uI n36]) 0 rfl sz62 rfl rfl rfl rfl res_nil) (vw_cons (vd_agg (vc_cons vc_v (vc_cons vc_v vc_nil))) vw_nil) oG rfl rfl
 replace h := ifF c29 h
 refine pq (qb (p_neq_fZ c29)) ?_
 refine pq (qm bf) ?_
 iterate 2 refine os ?_
 refine pq (qpf bf) ?_
 obtain ⟨⟨n38, n39⟩, h37, h⟩ := bindS h
 refine pq (qc (.agg [iI n38, uI n39]) [bf] (ref02_truth_r (m + 2) h37) (vw_cons (vd_one vc_v) vw_nil)) ?_
 refine ow [[iI n38, uI n39]] 0 sz62 ?_
 refine oE (eS (lR (bR ?_)))
 obtain rfl := sj h
 exact E_endF (.inr rfl) (res_cell (d := .agg [iI n38, uI n39]) 0 rfl sz62 rfl rfl rfl rfl res_nil) (vw_cons (vd_agg (vc_cons vc_v (vc_cons vc_v vc_nil))) vw_nil) oG rfl rfl
 replace h := ifF c28 h
 refine pq (qb (p_eql_fZ c28)) ?_
 refine pq (qa bf) ?_
 refine oE (eS (cF rfl (lS (lO ?_))))
 by_cases c40 : n1 = 5
 replace h := ifT c40 h
 refine pq (qb (p_eql_tZ c40)) ?_
 refine pq (qa bt) ?_
 refine oE (eS (cT rfl (lS (lO ?_))))
 refine pq (qm (iO n2)) ?_
 refine pq (qm (iO n3)) ?_
 obtain ⟨⟨n42, n43⟩, h41, h⟩ := bindS h
 refine pq (qc (.agg [iI n42, uI n43]) [iO n2, iO n3] (ref01_Mul_r (m + 0) h41) (vw_cons (vd_one vc_v) (vw_cons (vd_one vc_v) vw_nil))) ?_
 refine ow [[iI n42, uI n43]] 0 sz62 ?_
 refine oE (eS (lR (bR ?_)))
 obtain rfl := sj h
 exact E_endF (.inr rfl) (res_cell (d := .agg [iI n42, uI n43]) 0 rfl sz62 rfl rfl rfl rfl res_nil) (vw_cons (vd_agg (vc_cons vc_v (vc_cons vc_v vc_nil))) vw_nil) oG rfl rfl
 replace h := ifF c40 h
 refine pq (qb (p_eql_fZ c40)) ?_
 refine pq (qa bf) ?_
 refine oE (eS (cF rfl (lS (lO ?_))))
 refine pq (q_build (cs := [iI 0, uI 0]) ty62 rfl pl62 rfl) ?_
 refine ow [[iI 0, uI 0]] 0 sz62 ?_
 refine oE (eS (lR (bR ?_)))
 obtain rfl := sj h
 exact E_endF (.inr rfl) (res_cell (d := .agg [iI 0, uI 0]) 0 rfl sz62 rfl rfl rfl rfl res_nil) (vw_cons (vd_agg (vc_cons vc_v (vc_cons vc_v vc_nil))) vw_nil) oG rfl rfl
 replace h := ifF c5 h
 refine pq (qb (p_geq_fZ c5)) ?_
 refine pq (qm bf) ?_
 refine pq (qm (iO n3)) ?_
 by_cases c44 : n3 ≥ 4611686018427387904
 replace h := ifT c44 h
 refine pq (qb (p_geq_tZ c44)) ?_
 refine pq (qpf bt) ?_
 refine pq (qa bt) ?_
 refine oN ?_
 refine pq (qm (iO n1)) ?_
 refine oE (eS (lB (lS (lO ?_))))
 by_cases c45 : n1 = 1
 replace h := ifT c45 h
 refine pq (qb (p_eql_tZ c45)) ?_
 refine pq (qa bt) ?_
 refine oE (eS (cT rfl (lS (lO ?_))))
 refine pq (qm (iO n2)) ?_
 obtain ⟨⟨n47, n48⟩, h46, h⟩ := bindS h
 refine pq (qc (.agg [iI n47, uI n48]) [iO n2] (ref01_Of_r (m + 2) h46) (vw_cons (vd_one vc_v) vw_nil)) ?_
 refine pq (qm (iO n3)) ?_
 obtain ⟨⟨n50, n51⟩, h49, h⟩ := bindS h
 refine pq (qc (.agg [iI n50, uI n51]) [iO n3] (ref01_Of_r (m + 2) h49) (vw_cons (vd_one vc_v) vw_nil)) ?_
 obtain ⟨⟨n53, n54⟩, h52, h⟩ := bindS h
 refine pq (qc (.agg [iI n53, uI n54]) [.agg [iI n47, uI n48], .agg [iI n50, uI n51]] (ref01_Add_r (m + 2) h52) (vw_cons (vd_agg (vc_cons vc_v (vc_cons vc_v vc_nil))) (vw_cons (vd_agg (vc_cons vc_v (vc_cons vc_v vc_nil))) vw_nil))) ?_
 refine ol_new rfl rfl rfl (q_alloc ty62 (row := [iI 0, uI 0]) rfl rfl) (fun k55 => ?_)
 refine ow [[iI n53, uI n54]] 0 sz62 ?_
 refine oE (eS (lS (lS ?_)))
 refine L_still (by kernel_rfl) ?_
 refine sq (qm bt) ?_
 refine sq (qm bt) ?_
 iterate 4 refine ss ?_
 refine sq (qpt bt) ?_
 refine st_end (eS (cT rfl (lS (lO ?_))))
 obtain ⟨⟨n57, n58⟩, h56, h⟩ := bindS h
 refine pq (qc (.agg [iI n57, uI n58]) [iO 4611686018427387904] (ref01_Of_r (m + 2) h56) (vw_cons (vd_one vc_v) vw_nil)) ?_
 refine ow [[iI n57, uI n58]] 1 sz62 ?_
 refine oE (eS (lR (eR (bR ?_))))
 obtain rfl := sj h
 exact E_endF (.inr rfl) (res_cell (d := .agg [iI n57, uI n58]) 1 rfl sz62 rfl rfl rfl rfl res_nil) (vw_cons (vd_agg (vc_cons vc_v (vc_cons vc_v vc_nil))) vw_nil) oG rfl rfl
 replace h := ifF c45 h
 refine pq (qb (p_eql_fZ c45)) ?_
 refine pq (qa bf) ?_
 refine oE (eS (cF rfl (lS (lO ?_))))
 by_cases c59 : n1 = 3
 replace h := ifT c59 h
 refine pq (qb (p_eql_tZ c59)) ?_
 refine pq (qa bt) ?_
 refine oE (eS (cT rfl (lS (lS (lO ?_)))))
 refine pq (qm bt) ?_
 refine oE (eS (cT rfl (lS (lO ?_))))
 obtain ⟨⟨n61, n62⟩, h60, h⟩ := bindS h
 refine pq (qc (.agg [iI n61, uI n62]) [iO 4611686018427387904] (ref01_Of_r (m + 2) h60) (vw_cons (vd_one vc_v) vw_nil)) ?_
 refine ow [[iI n61, uI n62]] 0 sz62 ?_
 refine oE (eS (lR (eR (bR ?_))))
 obtain rfl := sj h
 exact E_endF (.inr rfl) (res_cell (d := .agg [iI n61, uI n62]) 0 rfl sz62 rfl rfl rfl rfl res_nil) (vw_cons (vd_agg (vc_cons vc_v (vc_cons vc_v vc_nil))) vw_nil) oG rfl rfl
 replace h := ifF c59 h
 refine pq (qb (p_eql_fZ c59)) ?_
 refine pq (qa bf) ?_
 refine oE (eS (cF rfl (lS (lO ?_))))
 by_cases c63 : n1 = 4
 replace h := ifT c63 h
 refine pq (qb (p_eql_tZ c63)) ?_
 refine pq (qa bt) ?_
 refine oE (eS (cT rfl (lS (lS (lO ?_)))))
 refine pq (qm bt) ?_
 refine oE (eS (cT rfl (lS (lO ?_))))
 obtain ⟨⟨n65, n66⟩, h64, h⟩ := bindS h
 refine pq (qc (.agg [iI n65, uI n66]) [iO 4611686018427387904] (ref01_Of_r (m + 2) h64) (vw_cons (vd_one vc_v) vw_nil)) ?_
 refine ow [[iI n65, uI n66]] 0 sz62 ?_
 refine oE (eS (lR (eR (bR ?_))))
 obtain rfl := sj h
 exact E_endF (.inr rfl) (res_cell (d := .agg [iI n65, uI n66]) 0 rfl sz62 rfl rfl rfl rfl res_nil) (vw_cons (vd_agg (vc_cons vc_v (vc_cons vc_v vc_nil))) vw_nil) oG rfl rfl
 replace h := ifF c63 h
 refine pq (qb (p_eql_fZ c63)) ?_
 refine pq (qa bf) ?_
 refine oE (eS (cF rfl (lS (lO ?_))))
 by_cases c67 : n1 = 2
 replace h := ifT c67 h
 refine pq (qb (p_eql_tZ c67)) ?_
 refine pq (qa bt) ?_
 refine oE (eS (cT rfl (lS (lO ?_))))
 refine pq (qm (iO n2)) ?_
 by_cases c68 : n2 ≠ 0
 replace h := ifT c68 h
 refine pq (qb (p_neq_tZ c68)) ?_
 refine pq (qm bt) ?_
 refine pq (qm (iO n3)) ?_
 by_cases c69 : n3 ≠ 0
 replace h := ifT c69 h
 refine pq (qb (p_neq_tZ c69)) ?_
 refine pq (qpt bt) ?_
 obtain ⟨⟨n71, n72⟩, h70, h⟩ := bindS h
 refine pq (qc (.agg [iI n71, uI n72]) [bt] (ref02_truth_r (m + 2) h70) (vw_cons (vd_one vc_v) vw_nil)) ?_
 refine ow [[iI n71, uI n72]] 0 sz62 ?_
 refine oE (eS (lR (bR ?_)))
 obtain rfl := sj h
 exact E_endF (.inr rfl) (res_cell (d := .agg [iI n71, uI n72]) 0 rfl sz62 rfl rfl rfl rfl res_nil) (vw_cons (vd_agg (vc_cons vc_v (vc_cons vc_v vc_nil))) vw_nil) oG rfl rfl
 replace h := ifF c69 h
 refine pq (qb (p_neq_fZ c69)) ?_
 refine pq (qpt bf) ?_
 obtain ⟨⟨n74, n75⟩, h73, h⟩ := bindS h
 refine pq (qc (.agg [iI n74, uI n75]) [bf] (ref02_truth_r (m + 2) h73) (vw_cons (vd_one vc_v) vw_nil)) ?_
 refine ow [[iI n74, uI n75]] 0 sz62 ?_
 refine oE (eS (lR (bR ?_)))
 obtain rfl := sj h
 exact E_endF (.inr rfl) (res_cell (d := .agg [iI n74, uI n75]) 0 rfl sz62 rfl rfl rfl rfl res_nil) (vw_cons (vd_agg (vc_cons vc_v (vc_cons vc_v vc_nil))) vw_nil) oG rfl rfl
 replace h := ifF c68 h
 refine pq (qb (p_neq_fZ c68)) ?_
 refine pq (qm bf) ?_
 iterate 2 refine os ?_
 refine pq (qpf bf) ?_
 obtain ⟨⟨n77, n78⟩, h76, h⟩ := bindS h
 refine pq (qc (.agg [iI n77, uI n78]) [bf] (ref02_truth_r (m + 2) h76) (vw_cons (vd_one vc_v) vw_nil)) ?_
 refine ow [[iI n77, uI n78]] 0 sz62 ?_
 refine oE (eS (lR (bR ?_)))
 obtain rfl := sj h
 exact E_endF (.inr rfl) (res_cell (d := .agg [iI n77, uI n78]) 0 rfl sz62 rfl rfl rfl rfl res_nil) (vw_cons (vd_agg (vc_cons vc_v (vc_cons vc_v vc_nil))) vw_nil) oG rfl rfl
 replace h := ifF c67 h
 refine pq (qb (p_eql_fZ c67)) ?_
 refine pq (qa bf) ?_
 refine oE (eS (cF rfl (lS (lO ?_))))
 by_cases c79 : n1 = 5
 replace h := ifT c79 h
 refine pq (qb (p_eql_tZ c79)) ?_
 refine pq (qa bt) ?_
 refine oE (eS (cT rfl (lS (lO ?_))))
 refine pq (qm (iO n2)) ?_
 refine pq (qm (iO n3)) ?_
 obtain ⟨⟨n81, n82⟩, h80, h⟩ := bindS h
 refine pq (qc (.agg [iI n81, uI n82]) [iO n2, iO n3] (ref01_Mul_r (m + 0) h80) (vw_cons (vd_one vc_v) (vw_cons (vd_one vc_v) vw_nil))) ?_
 refine ow [[iI n81, uI n82]] 0 sz62 ?_
 refine oE (eS (lR (bR ?_)))
 obtain rfl := sj h
 exact E_endF (.inr rfl) (res_cell (d := .agg [iI n81, uI n82]) 0 rfl sz62 rfl rfl rfl rfl res_nil) (vw_cons (vd_agg (vc_cons vc_v (vc_cons vc_v vc_nil))) vw_nil) oG rfl rfl
 replace h := ifF c79 h
 refine pq (qb (p_eql_fZ c79)) ?_
 refine pq (qa bf) ?_
 refine oE (eS (cF rfl (lS (lO ?_))))
 refine pq (q_build (cs := [iI 0, uI 0]) ty62 rfl pl62 rfl) ?_
 refine ow [[iI 0, uI 0]] 0 sz62 ?_
 refine oE (eS (lR (bR ?_)))
 obtain rfl := sj h
 exact E_endF (.inr rfl) (res_cell (d := .agg [iI 0, uI 0]) 0 rfl sz62 rfl rfl rfl rfl res_nil) (vw_cons (vd_agg (vc_cons vc_v (vc_cons vc_v vc_nil))) vw_nil) oG rfl rfl
 replace h := ifF c44 h
 refine pq (qb (p_geq_fZ c44)) ?_
 refine pq (qpf bf) ?_
 refine pq (qa bf) ?_
 refine oN ?_
 refine pq (qm (iO n1)) ?_
 refine oE (eS (lB (lS (lO ?_))))
 by_cases c83 : n1 = 1
 replace h := ifT c83 h
 refine pq (qb (p_eql_tZ c83)) ?_
 refine pq (qa bt) ?_
 refine oE (eS (cT rfl (lS (lO ?_))))
 refine pq (qm (iO n2)) ?_
 obtain ⟨⟨n85, n86⟩, h84, h⟩ := bindS h
 refine pq (qc (.agg [iI n85, uI n86]) [iO n2] (ref01_Of_r (m + 2) h84) (vw_cons (vd_one vc_v) vw_nil)) ?_
 refine pq (qm (iO n3)) ?_
 obtain ⟨⟨n88, n89⟩, h87, h⟩ := bindS h
 refine pq (qc (.agg [iI n88, uI n89]) [iO n3] (ref01_Of_r (m + 2) h87) (vw_cons (vd_one vc_v) vw_nil)) ?_
 obtain ⟨⟨n91, n92⟩, h90, h⟩ := bindS h
 refine pq (qc (.agg [iI n91, uI n92]) [.agg [iI n85, uI n86], .agg [iI n88, uI n89]] (ref01_Add_r (m + 2) h90) (vw_cons (vd_agg (vc_cons vc_v (vc_cons vc_v vc_nil))) (vw_cons (vd_agg (vc_cons vc_v (vc_cons vc_v vc_nil))) vw_nil))) ?_
 refine ol_new rfl rfl rfl (q_alloc ty62 (row := [iI 0, uI 0]) rfl rfl) (fun k93 => ?_)
 refine ow [[iI n91, uI n92]] 0 sz62 ?_
 refine oE (eS (lS (lS ?_)))
 refine L_still (by kernel_rfl) ?_
 refine sq (qm bf) ?_
 refine sq (qm bf) ?_
 refine sq (ql (.agg [iI n91, uI n92]) 0 sz62) ?_
 obtain ⟨⟨n95, n96⟩, h94, h⟩ := bindS h
 refine sq (qc (.agg [iI n95, uI n96]) [iO 4611686018427387904] (ref01_Of_r (m + 2) h94) (vw_cons (vd_one vc_v) vw_nil)) ?_
 obtain ⟨n98, h97, h⟩ := bindS h
 refine sq (qc (iO n98) [.agg [iI n91, uI n92], .agg [iI n95, uI n96]] (ref01_Compare_r (m + 2) h97) (vw_cons (vd_agg (vc_cons vc_v (vc_cons vc_v vc_nil))) (vw_cons (vd_agg (vc_cons vc_v (vc_cons vc_v vc_nil))) vw_nil))) ?_
 by_cases c99 : n98 > 0
 replace h := ifT c99 h
 refine sq (qb (p_gtr_tZ c99)) ?_
 refine sq (qpf bt) ?_
 refine st_end (eS (cT rfl (lS (lO ?_))))
 refine pq (qc (.agg [iI n95, uI n96]) [iO 4611686018427387904] (ref01_Of_r (m + 2) h94) (vw_cons (vd_one vc_v) vw_nil)) ?_
 refine ow [[iI n95, uI n96]] 1 sz62 ?_
 refine oE (eS (lR (eR (bR ?_))))
 obtain rfl := sj h
 exact E_endF (.inr rfl) (res_cell (d := .agg [iI n95, uI n96]) 1 rfl sz62 rfl rfl rfl rfl res_nil) (vw_cons (vd_agg (vc_cons vc_v (vc_cons vc_v vc_nil))) vw_nil) oG rfl rfl
 replace h := ifF c99 h
 refine sq (qb (p_gtr_fZ c99)) ?_
 refine sq (qpf bf) ?_
 refine st_end (eS (cF rfl (lK (eS (lS (lO ?_))))))
 refine pq (ql (.agg [iI n91, uI n92]) 0 sz62) ?_
 refine ow [[iI n91, uI n92]] 1 sz62 ?_
 refine oE (eS (lR (bR ?_)))
 obtain rfl := sj h
 exact E_endF (.inr rfl) (res_cell (d := .agg [iI n91, uI n92]) 1 rfl sz62 rfl rfl rfl rfl res_nil) (vw_cons (vd_agg (vc_cons vc_v (vc_cons vc_v vc_nil))) vw_nil) oG rfl rfl
 replace h := ifF c83 h
 refine pq (qb (p_eql_fZ c83)) ?_
 refine pq (qa bf) ?_
 refine oE (eS (cF rfl (lS (lO ?_))))
 by_cases c100 : n1 = 3
 replace h := ifT c100 h
 refine pq (qb (p_eql_tZ c100)) ?_
 refine pq (qa bt) ?_
 refine oE (eS (cT rfl (lS (lS (lO ?_)))))
 refine pq (qm bf) ?_
 refine oE (eS (cF rfl (lK (eS (lS (lO ?_))))))
 refine pq (qm (iO n2)) ?_
 obtain ⟨⟨n102, n103⟩, h101, h⟩ := bindS h
 refine pq (qc (.agg [iI n102, uI n103]) [iO n2] (ref01_Of_r (m + 2) h101) (vw_cons (vd_one vc_v) vw_nil)) ?_
 refine ow [[iI n102, uI n103]] 0 sz62 ?_
 refine oE (eS (lR (bR ?_)))
 obtain rfl := sj h
 exact E_endF (.inr rfl) (res_cell (d := .agg [iI n102, uI n103]) 0 rfl sz62 rfl rfl rfl rfl res_nil) (vw_cons (vd_agg (vc_cons vc_v (vc_cons vc_v vc_nil))) vw_nil) oG rfl rfl
 replace h := ifF c100 h
 refine pq (qb (p_eql_fZ c100)) ?_
 refine pq (qa bf) ?_
 refine oE (eS (cF rfl (lS (lO ?_))))
 by_cases c104 : n1 = 4
 replace h := ifT c104 h
 refine pq (qb (p_eql_tZ c104)) ?_
 refine pq (qa bt) ?_
 refine oE (eS (cT rfl (lS (lS (lO ?_)))))
 refine pq (qm bf) ?_
 refine oE (eS (cF rfl (lK (eS (lS (lO ?_))))))
 refine pq (qm (iO n3)) ?_
 obtain ⟨⟨n106, n107⟩, h105, h⟩ := bindS h
 refine pq (qc (.agg [iI n106, uI n107]) [iO n3] (ref01_Of_r (m + 2) h105) (vw_cons (vd_one vc_v) vw_nil)) ?_
 refine ow [[iI n106, uI n107]] 0 sz62 ?_
 refine oE (eS (lR (bR ?_)))
 obtain rfl := sj h
 exact E_endF (.inr rfl) (res_cell (d := .agg [iI n106, uI n107]) 0 rfl sz62 rfl rfl rfl rfl res_nil) (vw_cons (vd_agg (vc_cons vc_v (vc_cons vc_v vc_nil))) vw_nil) oG rfl rfl
 replace h := ifF c104 h
 refine pq (qb (p_eql_fZ c104)) ?_
 refine pq (qa bf) ?_
 refine oE (eS (cF rfl (lS (lO ?_))))
 by_cases c108 : n1 = 2
 replace h := ifT c108 h
 refine pq (qb (p_eql_tZ c108)) ?_
 refine pq (qa bt) ?_
 refine oE (eS (cT rfl (lS (lO ?_))))
 refine pq (qm (iO n2)) ?_
 by_cases c109 : n2 ≠ 0
 replace h := ifT c109 h
 refine pq (qb (p_neq_tZ c109)) ?_
 refine pq (qm bt) ?_
 refine pq (qm (iO n3)) ?_
 by_cases c110 : n3 ≠ 0
 replace h := ifT c110 h
 refine pq (qb (p_neq_tZ c110)) ?_
 refine pq (qpt bt) ?_
 obtain ⟨⟨n112, n113⟩, h111, h⟩ := bindS h
 refine pq (qc (.agg [iI n112, uI n113]) [bt] (ref02_truth_r (m + 2) h111) (vw_cons (vd_one vc_v) vw_nil)) ?_
 refine ow [[iI n112, uI n113]] 0 sz62 ?_
 refine oE (eS (lR (bR ?_)))
 obtain rfl := sj h
 exact E_endF (.inr rfl) (res_cell (d := .agg [iI n112, uI n113]) 0 rfl sz62 rfl rfl rfl rfl res_nil) (vw_cons (vd_agg (vc_cons vc_v (vc_cons vc_v vc_nil))) vw_nil) oG rfl rfl
 replace h := ifF c110 h
 refine pq (qb (p_neq_fZ c110)) ?_
 refine pq (qpt bf) ?_
 obtain ⟨⟨n115, n116⟩, h114, h⟩ := bindS h
 refine pq (qc (.agg [iI n115, uI n116]) [bf] (ref02_truth_r (m + 2) h114) (vw_cons (vd_one vc_v) vw_nil)) ?_
 refine ow [[iI n115, uI n116]] 0 sz62 ?_
 refine oE (eS (lR (bR ?_)))
 obtain rfl := sj h
 exact E_endF (.inr rfl) (res_cell (d := .agg [iI n115, uI n116]) 0 rfl sz62 rfl rfl rfl rfl res_nil) (vw_cons (vd_agg (vc_cons vc_v (vc_cons vc_v vc_nil))) vw_nil) oG rfl rfl
 replace h := ifF c109 h
 refine pq (qb (p_neq_fZ c109)) ?_
 refine pq (qm bf) ?_
 iterate 2 refine os ?_
 refine pq (qpf bf) ?_
 obtain ⟨⟨n118, n119⟩, h117, h⟩ := bindS h
 refine pq (qc (.agg [iI n118, uI n119]) [bf] (ref02_truth_r (m + 2) h117) (vw_cons (vd_one vc_v) vw_nil)) ?_
 refine ow [[iI n118, uI n119]] 0 sz62 ?_
 refine oE (eS (lR (bR ?_)))
 obtain rfl := sj h
 exact E_endF (.inr rfl) (res_cell (d := .agg [iI n118, uI n119]) 0 rfl sz62 rfl rfl rfl rfl res_nil) (vw_cons (vd_agg (vc_cons vc_v (vc_cons vc_v vc_nil))) vw_nil) oG rfl rfl
 replace h := ifF c108 h
 refine pq (qb (p_eql_fZ c108)) ?_
 refine pq (qa bf) ?_
 refine oE (eS (cF rfl (lS (lO ?_))))
 by_cases c120 : n1 = 5
 replace h := ifT c120 h
 refine pq (qb (p_eql_tZ c120)) ?_
 refine pq (qa bt) ?_
 refine oE (eS (cT rfl (lS (lO ?_))))
 refine pq (qm (iO n2)) ?_
 refine pq (qm (iO n3)) ?_
 obtain ⟨⟨n122, n123⟩, h121, h⟩ := bindS h
 refine pq (qc (.agg [iI n122, uI n123]) [iO n2, iO n3] (ref01_Mul_r (m + 0) h121) (vw_cons (vd_one vc_v) (vw_cons (vd_one vc_v) vw_nil))) ?_
 refine ow [[iI n122, uI n123]] 0 sz62 ?_
 refine oE (eS (lR (bR ?_)))
 obtain rfl := sj h
 exact E_endF (.inr rfl) (res_cell (d := .agg [iI n122, uI n123]) 0 rfl sz62 rfl rfl rfl rfl res_nil) (vw_cons (vd_agg (vc_cons vc_v (vc_cons vc_v vc_nil))) vw_nil) oG rfl rfl
 replace h := ifF c120 h
 refine pq (qb (p_eql_fZ c120)) ?_
 refine pq (qa bf) ?_
 refine oE (eS (cF rfl (lS (lO ?_))))
 refine pq (q_build (cs := [iI 0, uI 0]) ty62 rfl pl62 rfl) ?_
 refine ow [[iI 0, uI 0]] 0 sz62 ?_
 refine oE (eS (lR (bR ?_)))
 obtain rfl := sj h
 exact E_endF (.inr rfl) (res_cell (d := .agg [iI 0, uI 0]) 0 rfl sz62 rfl rfl rfl rfl res_nil) (vw_cons (vd_agg (vc_cons vc_v (vc_cons vc_v vc_nil))) vw_nil) oG rfl rfl
end Ev
end Go.Proofs.YtlcfdmjkbaegpaaDoor
