/- Functions of the program as functions on data, and that they are. -/
import Derived.Test.YtlcfdmjkbaegpaaEvZ
import Derived.Test.YtlcfdmjkbaegpaaLy1
namespace Go.Proofs.Ytlcfdmjkbaegpaa
namespace Ev
open Go
set_option linter.unusedVariables false
set_option linter.unusedSimpArgs false
set_option maxRecDepth 100000
set_option maxHeartbeats 1000000
attribute [local irreducible] OpsL StL TnL WpL EndL
noncomputable def ref09_Right_b1 (n1 : Int) (s2 : Sl (Int × Int)) (n33 : Int) : Option (Int ⊕ (Unit ⊕ Bool)) :=
  (if n33 < ((s2.l.length : Nat) : Int) then ((atS 2 s2 n33).bind fun (n37, n38) => (if n37 < 0 then some (.inr (.inr false)) else (if n37 ≥ n1 then some (.inr (.inr false)) else (if n33 > 0 then ((atS 2 s2 (IntKind.i64.wrap (n33 - 1))).bind fun (n44, n45) => (if n37 ≤ n44 then some (.inr (.inr false)) else some (.inl (IntKind.i64.wrap (n33 + 1))))) else some (.inl (IntKind.i64.wrap (n33 + 1))))))) else some (.inr (.inl ())))
noncomputable def ref09_Right (a0 : Int × (Sl (Int × Int))) : Option (Bool) :=
  match a0 with
  | (n1, s2) => (if n1 < 0 then some false else (if n1 > 4096 then some false else ((loopO (ref09_Right_b1 n1 s2) 0).bind (Sum.elim (fun _ => some true) (fun u => some u)))))
theorem ref09_Right_r (m : Nat) {a0 : Int × (Sl (Int × Int))} {out : Bool} (h : ref09_Right a0 = some out) : RunsP E1 (m + 1) 65 [.agg (r24 a0)] (.fresh, [.one (bT out)]) := by
 obtain ⟨n1, s2⟩ := a0
 refine fn_F rfl (by rw [E1_fn]; exact show fiOf Try.prog 65 = _ by unfold fiOf; rw [Try.func65]; unfold Try.f65; rfl) rfl ?_
 dsimp only
 unfold ref09_Right at h
 refine lS (lO ?_)
 refine ol_new rfl rfl rfl (q_box ty25 rfl (cs := [iI n1, sF r56 s2]) rfl rfl) (fun k3 => ?_)
 refine pq (qa bf) ?_
 refine oE (eS (lS (lS (lO ?_))))
 refine pq (q_fieldP rfl fa25_0 rfl) ?_
 refine pq (ql (iO n1) 0 sz3) ?_
 by_cases c4 : n1 < 0
 replace h := ifT c4 h
 refine pq (qb (p_lss_tZ c4)) ?_
 refine pq (qm bt) ?_
 iterate 3 refine os ?_
 refine pq (qpt bt) ?_
 refine oE (eS (cT rfl (lS (lO ?_))))
 refine pq (qa bf) ?_
 refine oE (eS (lR (eR ?_)))
 obtain rfl := sj h
 exact eF1
 replace h := ifF c4 h
 refine pq (qb (p_lss_fZ c4)) ?_
 refine pq (qm bf) ?_
 refine pq (q_fieldP rfl fa25_0 rfl) ?_
 refine pq (ql (iO n1) 0 sz3) ?_
 by_cases c5 : n1 > 4096
 replace h := ifT c5 h
 refine pq (qb (p_gtr_tZ c5)) ?_
 refine pq (qpf bt) ?_
 refine oE (eS (cT rfl (lS (lO ?_))))
 refine pq (qa bf) ?_
 refine oE (eS (lR (eR ?_)))
 obtain rfl := sj h
 exact eF1
 replace h := ifF c5 h
 refine pq (qb (p_gtr_fZ c5)) ?_
 refine pq (qpf bf) ?_
 refine oE (eS (cF rfl (lK (eS (lS (lS (lO ?_)))))))
 refine pq (qa (iO 0)) ?_
 refine oE (eS (lB ?_))
 let S1 : Int → Unit → (Nat → D) → Nat → D := fun a kt g => ups g [(1, .one (.ptr k3 0 0)), (3, iO a)]
 let SL1 : Int → Unit → BL := fun a kt => ([[(k3, 2, [[iI n1, sF r56 s2]])]] : BL)
 let G1 : Bool → Ex → St → Prop := fun u => endQ E1 [.tmp 2] (.fresh, [.one (bT u)])
 let Sx1 : Unit → Unit → (Nat → D) → Nat → D := fun a kt g => ups g []
 let SLx1 : Unit → Unit → BL := fun a kt => ([] : BL)
 let J1 : (Unit ⊕ Bool) → Ex → St → Prop := JX 57 0 Sx1 SLx1 G1
 refine L_loopS (ref09_Right_b1 n1 s2) S1 SL1 J1 JX_n 0 h () (ups_self ⟨rfl, rfl, trivial⟩) [0] (by decide) rfl ?_ ?_
 rintro n33 _ g out h
 change ref09_Right_b1 n1 s2 n33 = some out at h
 unfold ref09_Right_b1 at h
 refine lS (lS (lO ?_))
 refine pq (qm (iO n33)) ?_
 refine pq (q_fieldP rfl fa25_1 rfl) ?_
 refine pq (ql (.one (sF r56 s2)) 0 sz23) ?_
 refine pq (q_lenS rfl ty23 rfl rfl rfl rfl) ?_
 by_cases c34 : n33 < ((s2.l.length : Nat) : Int)
 replace h := ifT c34 h
 refine pq (qb (p_lss_tZ c34)) ?_
 refine oE (eS (cT rfl (lK (eS (lS (lB (lS ?_)))))))
 refine L_still (by kernel_rfl) ?_
 refine sq (q_fieldP rfl fa25_1 rfl) ?_
 refine sq (ql (.one (sF r56 s2)) 0 sz23) ?_
 refine sq (qm (iO n33)) ?_
 obtain ⟨⟨n37, n38⟩, h36, h⟩ := bindS h
 obtain ⟨h36a, h36b, h36⟩ := atS_some h36
 refine sq (q_ixS rfl rfl h36a h36 (el23.trans (congrArg some h36b.symm))) ?_
 refine sq (q_fieldI rfl fa57_0 rfl) ?_
 refine sq (q_loadI (v := iO n37) rfl sz3 (map_get h36) rfl rfl) ?_
 by_cases c39 : n37 < 0
 replace h := ifT c39 h
 refine sq (qb (p_lss_tZ c39)) ?_
 refine sq (qm bt) ?_
 iterate 9 refine ss ?_
 refine sq (qpt bt) ?_
 refine sq (qm bt) ?_
 iterate 18 refine ss ?_
 refine sq (qpt bt) ?_
 refine st_end (eS (cT rfl (lS (lO ?_))))
 refine pq (qa bf) ?_
 refine oE (eS (lR (bR (eR ?_))))
 obtain rfl := sj h
 exact E_out (E_up (eF1))
 replace h := ifF c39 h
 refine sq (qb (p_lss_fZ c39)) ?_
 refine sq (qm bf) ?_
 refine sq (q_fieldP rfl fa25_1 rfl) ?_
 refine sq (ql (.one (sF r56 s2)) 0 sz23) ?_
 refine sq (qm (iO n33)) ?_
 refine sq (q_ixS rfl rfl h36a h36 (el23.trans (congrArg some h36b.symm))) ?_
 refine sq (q_fieldI rfl fa57_0 rfl) ?_
 refine sq (q_loadI (v := iO n37) rfl sz3 (map_get h36) rfl rfl) ?_
 refine sq (q_fieldP rfl fa25_0 rfl) ?_
 refine sq (ql (iO n1) 0 sz3) ?_
 by_cases c40 : n37 ≥ n1
 replace h := ifT c40 h
 refine sq (qb (p_geq_tZ c40)) ?_
 refine sq (qpf bt) ?_
 refine sq (qm bt) ?_
 iterate 18 refine ss ?_
 refine sq (qpt bt) ?_
 refine st_end (eS (cT rfl (lS (lO ?_))))
 refine pq (qa bf) ?_
 refine oE (eS (lR (bR (eR ?_))))
 obtain rfl := sj h
 exact E_out (E_up (eF1))
 replace h := ifF c40 h
 refine sq (qb (p_geq_fZ c40)) ?_
 refine sq (qpf bf) ?_
 refine sq (qm bf) ?_
 refine sq (qm (iO n33)) ?_
 by_cases c41 : n33 > 0
 replace h := ifT c41 h
 refine sq (qb (p_gtr_tZ c41)) ?_
 refine sq (qm bt) ?_
 refine sq (q_fieldP rfl fa25_1 rfl) ?_
 refine sq (ql (.one (sF r56 s2)) 0 sz23) ?_
 refine sq (qm (iO n33)) ?_
 refine sq (q_ixS rfl rfl h36a h36 (el23.trans (congrArg some h36b.symm))) ?_
 refine sq (q_fieldI rfl fa57_0 rfl) ?_
 refine sq (q_loadI (v := iO n37) rfl sz3 (map_get h36) rfl rfl) ?_
 refine sq (q_fieldP rfl fa25_1 rfl) ?_
 refine sq (ql (.one (sF r56 s2)) 0 sz23) ?_
 refine sq (qm (iO n33)) ?_
 refine sq (qb p_subY) ?_
 obtain ⟨⟨n44, n45⟩, h43, h⟩ := bindS h
 obtain ⟨h43a, h43b, h43⟩ := atS_some h43
 refine sq (q_ixS rfl rfl h43a h43 (el23.trans (congrArg some h43b.symm))) ?_
 refine sq (q_fieldI rfl fa57_0 rfl) ?_
 refine sq (q_loadI (v := iO n44) rfl sz3 (map_get h43) rfl rfl) ?_
 by_cases c46 : n37 ≤ n44
 replace h := ifT c46 h
 refine sq (qb (p_leq_tZ c46)) ?_
 refine sq (qpt bt) ?_
 refine sq (qpf bt) ?_
 refine st_end (eS (cT rfl (lS (lO ?_))))
 refine pq (qa bf) ?_
 refine oE (eS (lR (bR (eR ?_))))
 obtain rfl := sj h
 exact E_out (E_up (eF1))
 replace h := ifF c46 h
 refine sq (qb (p_leq_fZ c46)) ?_
 refine sq (qpt bf) ?_
 refine sq (qpf bf) ?_
 refine st_end (eS (cF rfl (lK (bN (eS (lO ?_))))))
 refine pq (qm (iO n33)) ?_
 refine pq (qb p_addY) ?_
 refine pq (qa (iO (IntKind.i64.wrap (n33 + 1)))) ?_
 refine oE ?_
 obtain rfl := sj h
 exact E_next () (ups_self ⟨rfl, rfl, trivial⟩) [0] (by decide) rfl
 replace h := ifF c41 h
 refine sq (qb (p_gtr_fZ c41)) ?_
 refine sq (qm bf) ?_
 iterate 14 refine ss ?_
 refine sq (qpf bf) ?_
 refine sq (qpf bf) ?_
 refine st_end (eS (cF rfl (lK (bN (eS (lO ?_))))))
 refine pq (qm (iO n33)) ?_
 refine pq (qb p_addY) ?_
 refine pq (qa (iO (IntKind.i64.wrap (n33 + 1)))) ?_
 refine oE ?_
 obtain rfl := sj h
 exact E_next () (ups_self ⟨rfl, rfl, trivial⟩) [0] (by decide) rfl
 replace h := ifF c34 h
 refine pq (qb (p_lss_fZ c34)) ?_
 refine oE (eS (cF rfl (L_exit ?_)))
 refine E_seqX ?_
 obtain rfl := sj h
 refine E_out ?_
 exact (E_exit () (ups_self trivial) [] (by decide) rfl)
 rintro (_ | u) h
 refine J_x (fun kt g => ?_)
 replace h := elimL h
 refine bH (eS (lS (lO ?_)))
 refine pq (qa bt) ?_
 refine oE (eS (lR ?_))
 obtain rfl := sj h
 exact eF1
 obtain rfl := Option.some.inj (elimR h)
 exact J_up (fun s hs => hs)

noncomputable def ref09_Sure (a0 : Int × (Sl (Int × Int))) : Option ((Int × (Sl (Int × Int)))) :=
  match a0 with
  | (n1, s2) => ((ref09_Right (n1, s2)).bind fun b6 => (if b6 = true then some (n1, s2) else some (0, (⟨false, 0, []⟩ : Sl (Int × Int)))))
theorem ref09_Sure_r (m : Nat) {a0 : Int × (Sl (Int × Int))} {out : (Int × (Sl (Int × Int)))} (h : ref09_Sure a0 = some out) : RunsX E1 (m + 2) 37 [.agg (r24 a0)] [.agg (r24 out)] := by
 obtain ⟨n1, s2⟩ := a0
 refine fn_X rfl (by rw [E1_fn]; exact show fiOf Try.prog 37 = _ by unfold fiOf; rw [Try.func37]; unfold Try.f37; rfl) rfl ?_
 dsimp only
 unfold ref09_Sure at h
 refine lS (lO ?_)
 refine ol_new rfl rfl rfl (q_box ty25 rfl (cs := [iI n1, sF r56 s2]) rfl rfl) (fun k3 => ?_)
 refine ol_new rfl rfl rfl (q_alloc ty25 (row := [iI 0, nC]) rfl rfl) (fun k4 => ?_)
 refine oE (eS (lS (lS (lO ?_))))
 refine pq (ql (.agg [iI n1, sF r56 s2]) 1 sz25) ?_
 obtain ⟨b6, h5, h⟩ := bindS h
 refine pq (qc (bO b6) [.agg [iI n1, sF r56 s2]] (ref09_Right_r (m + 0) h5) (vw_cons (vd_agg (vc_cons vc_v (vc_cons vc_s vc_nil))) vw_nil)) ?_
 refine oE (eS ?_)
 rcases b6 with _ | _
 replace h := wF h
 refine cF rfl (lK (eS (lS (lO ?_))))
 refine pq (q_build (cs := [iI 0, nC]) ty25 rfl pl25 rfl) ?_
 refine ow [[iI 0, nC]] 0 sz25 ?_
 refine oE (eS (lR ?_))
 obtain rfl := sj h
 exact E_endX (.inr rfl) (res_cell (d := .agg [iI 0, nC]) 0 rfl sz25 rfl rfl rfl rfl res_nil) (vw_cons (vd_agg (vc_cons vc_v (vc_cons vc_s vc_nil))) vw_nil) oG rfl
 replace h := wT h
 refine cT rfl (lS (lO ?_))
 refine pq (ql (.agg [iI n1, sF r56 s2]) 1 sz25) ?_
 refine ow [[iI n1, sF r56 s2]] 0 sz25 ?_
 refine oE (eS (lR (eR ?_)))
 obtain rfl := sj h
 exact E_endX (.inr rfl) (res_cell (d := .agg [iI n1, sF r56 s2]) 0 rfl sz25 rfl rfl rfl rfl res_nil) (vw_cons (vd_agg (vc_cons vc_v (vc_cons vc_s vc_nil))) vw_nil) oG rfl
end Ev
end Go.Proofs.Ytlcfdmjkbaegpaa
