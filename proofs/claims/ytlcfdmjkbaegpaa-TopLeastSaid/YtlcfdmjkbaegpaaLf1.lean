/- Functions of the program as functions on data, and that they are. -/
import Derived.Test.YtlcfdmjkbaegpaaEvZ
import Derived.Test.YtlcfdmjkbaegpaaLy1
import Derived.Test.YtlcfdmjkbaegpaaLy2
namespace Go.Proofs.Ytlcfdmjkbaegpaa
namespace Ev
open Go
set_option linter.unusedVariables false
set_option linter.unusedSimpArgs false
set_option maxRecDepth 100000
set_option maxHeartbeats 1000000
attribute [local irreducible] OpsL StL TnL WpL EndL
noncomputable def wide_Of (n1 : Int) : Option ((Int × Int)) :=
  ((shr1 .i64 n1 63).bind fun n3 => some (n3, (IntKind.u64.wrap n1)))
theorem wide_Of_r (m : Nat) {n1 : Int} {out : (Int × Int)} (h : wide_Of n1 = some out) : RunsP E1 (m + 1) 36 [.one (iT .i64 n1)] (.fresh, [.agg (r65 out)]) := by
 refine fn_F rfl (by rw [E1_fn]; exact show fiOf Try.prog 36 = _ by unfold fiOf; rw [Try.func36]; unfold Try.f36; rfl) rfl ?_
 dsimp only
 unfold wide_Of at h
 refine lS (lO ?_)
 refine ol_new rfl rfl rfl (q_alloc ty66 (row := [iI 0, uI 0]) rfl rfl) (fun k2 => ?_)
 refine oN ?_
 refine pq (qm (iO n1)) ?_
 obtain ⟨n3, h4, h⟩ := bindS h
 refine pq (q_bin rfl rfl (p_shr h4) rfl) ?_
 refine pq (qm (iO n1)) ?_
 refine pq (q_conv rfl (cv2_61_i64 _) rfl) ?_
 refine pq (q_build (cs := [iI n3, uI (IntKind.u64.wrap n1)]) ty66 rfl pl66 rfl) ?_
 refine ow [[iI n3, uI (IntKind.u64.wrap n1)]] 0 sz66 ?_
 refine oE (eS (lR ?_))
 obtain rfl := sj h
 exact E_endF (.inr rfl) (res_cell (d := .agg [iI n3, uI (IntKind.u64.wrap n1)]) 0 rfl sz66 rfl rfl rfl rfl res_nil) (vw_cons (vd_agg (vc_cons vc_v (vc_cons vc_v vc_nil))) vw_nil) oG rfl rfl

noncomputable def spvec_size (n1 : Int) : Option (Bool) :=
  (if n1 ≥ 0 then (if n1 ≤ 4096 then some true else some false) else some false)
theorem spvec_size_r (m : Nat) {n1 : Int} {out : Bool} (h : spvec_size n1 = some out) : RunsP E1 (m + 1) 82 [.one (iT .i64 n1)] (.fresh, [.one (bT out)]) := by
 refine fn_F rfl (by rw [E1_fn]; exact show fiOf Try.prog 82 = _ by unfold fiOf; rw [Try.func82]; unfold Try.f82; rfl) rfl ?_
 dsimp only
 unfold spvec_size at h
 refine lS (lO ?_)
 refine pq (qa bf) ?_
 refine oN ?_
 refine pq (qm (iO n1)) ?_
 by_cases c2 : n1 ≥ 0
 replace h := ifT c2 h
 refine pq (qb (p_geq_tZ c2)) ?_
 refine pq (qm bt) ?_
 refine pq (qm (iO n1)) ?_
 by_cases c3 : n1 ≤ 4096
 replace h := ifT c3 h
 refine pq (qb (p_leq_tZ c3)) ?_
 refine pq (qpt bt) ?_
 refine pq (qa bt) ?_
 refine oE (eS (lR ?_))
 obtain rfl := sj h
 exact eF1
 replace h := ifF c3 h
 refine pq (qb (p_leq_fZ c3)) ?_
 refine pq (qpt bf) ?_
 refine pq (qa bf) ?_
 refine oE (eS (lR ?_))
 obtain rfl := sj h
 exact eF1
 replace h := ifF c2 h
 refine pq (qb (p_geq_fZ c2)) ?_
 refine pq (qm bf) ?_
 iterate 2 refine os ?_
 refine pq (qpf bf) ?_
 refine pq (qa bf) ?_
 refine oE (eS (lR ?_))
 obtain rfl := sj h
 exact eF1

noncomputable def spvec_Right_b1 (n1 : Int) (s2 : Sl (Int × Int)) (a : Int × Int) : Option ((Int × Int) ⊕ (Unit ⊕ Bool)) :=
  match a with
  | (n24, n25) => (if n25 < ((s2.l.length : Nat) : Int) then ((atS 2 s2 n25).bind fun (n29, n30) => (if n29 ≤ n24 then some (.inr (.inr false)) else (if n29 ≥ n1 then some (.inr (.inr false)) else some (.inl (n29, (IntKind.i64.wrap (n25 + 1))))))) else some (.inr (.inl ())))
noncomputable def spvec_Right (a0 : Int × (Sl (Int × Int))) : Option (Bool) :=
  match a0 with
  | (n1, s2) => ((spvec_size n1).bind fun b5 => (if b5 = true then ((loopO (spvec_Right_b1 n1 s2) ((-1), 0)).bind (Sum.elim (fun _ => some true) (fun u => some u))) else some false))
theorem spvec_Right_r (m : Nat) {a0 : Int × (Sl (Int × Int))} {out : Bool} (h : spvec_Right a0 = some out) : RunsP E1 (m + 2) 71 [.agg (r24 a0)] (.fresh, [.one (bT out)]) := by
 obtain ⟨n1, s2⟩ := a0
 refine fn_F rfl (by rw [E1_fn]; exact show fiOf Try.prog 71 = _ by unfold fiOf; rw [Try.func71]; unfold Try.f71; rfl) rfl ?_
 dsimp only
 unfold spvec_Right at h
 refine lS (lO ?_)
 refine ol_new rfl rfl rfl (q_box ty25 rfl (cs := [iI n1, sF r56 s2]) rfl rfl) (fun k3 => ?_)
 refine pq (qa bf) ?_
 refine oE (eS (lS (lS (lO ?_))))
 refine pq (q_fieldP rfl fa25_0 rfl) ?_
 refine pq (ql (iO n1) 0 sz3) ?_
 obtain ⟨b5, h4, h⟩ := bindS h
 refine pq (qc (bO b5) [iO n1] (spvec_size_r (m + 0) h4) (vw_cons (vd_one vc_v) vw_nil)) ?_
 rcases b5 with _ | _
 replace h := wF h
 refine pq (q_not rfl) ?_
 refine oE (eS (cT rfl (lS (lO ?_))))
 refine pq (qa bf) ?_
 refine oE (eS (lR (eR ?_)))
 obtain rfl := sj h
 exact eF1
 replace h := wT h
 refine pq (q_not rfl) ?_
 refine oE (eS (cF rfl (lK (eS (lS (lO ?_))))))
 refine pq (qa (iO (-1))) ?_
 refine oE (eS (lS (lS (lO ?_))))
 refine pq (q_fieldP rfl fa25_1 rfl) ?_
 refine pq (ql (.one (sF r56 s2)) 0 sz23) ?_
 refine pq (q_lenS rfl ty23 rfl rfl rfl rfl) ?_
 refine pq (qm (iO 0)) ?_
 refine oE (eS (lB ?_))
 let S1 : (Int × Int) → Unit → (Nat → D) → Nat → D := fun a kt g => ups g [(1, .one (.ptr k3 0 0)), (3, .one (iI a.1)), (11, .one (sF r56 s2)), (12, .one (iI ((s2.l.length : Nat) : Int))), (13, .one (iI a.2))]
 let SL1 : (Int × Int) → Unit → BL := fun a kt => ([[(k3, 2, [[iI n1, sF r56 s2]])]] : BL)
 let G1 : Bool → Ex → St → Prop := fun u => endQ E1 [.tmp 2] (.fresh, [.one (bT u)])
 let Sx1 : Unit → Unit → (Nat → D) → Nat → D := fun a kt g => ups g []
 let SLx1 : Unit → Unit → BL := fun a kt => ([] : BL)
 let J1 : (Unit ⊕ Bool) → Ex → St → Prop := JX 31 0 Sx1 SLx1 G1
 refine L_loopS (spvec_Right_b1 n1 s2) S1 SL1 J1 JX_n ((-1), 0) h () (ups_self ⟨rfl, rfl, rfl, rfl, rfl, trivial⟩) [0] (by decide) rfl ?_ ?_
 rintro ⟨n24, n25⟩ _ g out h
 change spvec_Right_b1 n1 s2 (n24, n25) = some out at h
 unfold spvec_Right_b1 at h
 refine lS (lO ?_)
 by_cases c26 : n25 < ((s2.l.length : Nat) : Int)
 replace h := ifT c26 h
 refine pq (qb (p_lss_tZ c26)) ?_
 refine oE (eS (lS (cT rfl (lK (eS (lS (lB (lS (lO ?_)))))))))
 obtain ⟨⟨n29, n30⟩, h28, h⟩ := bindS h
 obtain ⟨h28a, h28b, h28⟩ := atS_some h28
 refine pq (q_ixS rfl rfl h28a h28 (el23.trans (congrArg some h28b.symm))) ?_
 refine pq (q_loadI (v := .agg [iI n29, iI n30]) rfl sz57 (map_get h28) rfl rfl) ?_
 refine ol_new rfl rfl rfl (q_alloc ty57 (row := [iI 0, iI 0]) rfl rfl) (fun k31 => ?_)
 refine ow [[iI n29, iI n30]] 0 sz57 ?_
 refine oE (eS (lS (lS (lO ?_))))
 refine pq (q_fieldP rfl fa57_0 rfl) ?_
 refine pq (ql (iO n29) 0 sz3) ?_
 refine pq (qm (iO n24)) ?_
 by_cases c32 : n29 ≤ n24
 replace h := ifT c32 h
 refine pq (qb (p_leq_tZ c32)) ?_
 refine pq (qm bt) ?_
 iterate 5 refine os ?_
 refine pq (qpt bt) ?_
 refine oE (eS (cT rfl (lS (lO ?_))))
 refine pq (qa bf) ?_
 refine oE (eS (lR (eR (bR (eR ?_)))))
 obtain rfl := sj h
 exact E_out (E_up (eF1))
 replace h := ifF c32 h
 refine pq (qb (p_leq_fZ c32)) ?_
 refine pq (qm bf) ?_
 refine pq (q_fieldP rfl fa57_0 rfl) ?_
 refine pq (ql (iO n29) 0 sz3) ?_
 refine pq (q_fieldP rfl fa25_0 rfl) ?_
 refine pq (ql (iO n1) 1 sz3) ?_
 by_cases c33 : n29 ≥ n1
 replace h := ifT c33 h
 refine pq (qb (p_geq_tZ c33)) ?_
 refine pq (qpf bt) ?_
 refine oE (eS (cT rfl (lS (lO ?_))))
 refine pq (qa bf) ?_
 refine oE (eS (lR (eR (bR (eR ?_)))))
 obtain rfl := sj h
 exact E_out (E_up (eF1))
 replace h := ifF c33 h
 refine pq (qb (p_geq_fZ c33)) ?_
 refine pq (qpf bf) ?_
 refine oE (eS (cF rfl (lK (eS (lO ?_)))))
 refine pq (q_fieldP rfl fa57_0 rfl) ?_
 refine pq (ql (iO n29) 0 sz3) ?_
 refine pq (qa (iO n29)) ?_
 refine oE (bN (eS (lO ?_)))
 refine pq (qb p_addY) ?_
 refine pq (qm (iO (IntKind.i64.wrap (n25 + 1)))) ?_
 refine oE ?_
 obtain rfl := sj h
 exact E_next () (ups_self ⟨rfl, rfl, rfl, rfl, rfl, trivial⟩) [1] (by decide) rfl
 replace h := ifF c26 h
 refine pq (qb (p_lss_fZ c26)) ?_
 refine oE (eS (lS (cF rfl (L_exit ?_))))
 refine E_seqX ?_
 obtain rfl := sj h
 refine E_out ?_
 exact (E_exit () (ups_self trivial) [] (by decide) rfl)
 rintro (_ | u) h
 refine J_x (fun kt g => ?_)
 replace h := elimL h
 refine bH (eS (lS (lO ?_)))
 refine pq (qa bt) ?_
 refine oE (eS (lR ?_))
 obtain rfl := sj h
 exact eF1
 obtain rfl := Option.some.inj (elimR h)
 exact J_up (fun s hs => hs)

noncomputable def blend_sure (a0 : Int × (Sl (Int × Int))) : Option ((Int × (Sl (Int × Int)))) :=
  match a0 with
  | (n1, s2) => ((spvec_Right (n1, s2)).bind fun b6 => (if b6 = true then some (n1, s2) else some (0, (⟨false, 0, []⟩ : Sl (Int × Int)))))
theorem blend_sure_r (m : Nat) {a0 : Int × (Sl (Int × Int))} {out : (Int × (Sl (Int × Int)))} (h : blend_sure a0 = some out) : RunsX E1 (m + 3) 49 [.agg (r24 a0)] [.agg (r24 out)] := by
 obtain ⟨n1, s2⟩ := a0
 refine fn_X rfl (by rw [E1_fn]; exact show fiOf Try.prog 49 = _ by unfold fiOf; rw [Try.func49]; unfold Try.f49; rfl) rfl ?_
 dsimp only
 unfold blend_sure at h
 refine lS (lO ?_)
 refine ol_new rfl rfl rfl (q_box ty25 rfl (cs := [iI n1, sF r56 s2]) rfl rfl) (fun k3 => ?_)
 refine ol_new rfl rfl rfl (q_alloc ty25 (row := [iI 0, nC]) rfl rfl) (fun k4 => ?_)
 refine oE (eS (lS (lS (lO ?_))))
 refine pq (ql (.agg [iI n1, sF r56 s2]) 1 sz25) ?_
 obtain ⟨b6, h5, h⟩ := bindS h
 refine pq (qc (bO b6) [.agg [iI n1, sF r56 s2]] (spvec_Right_r (m + 0) h5) (vw_cons (vd_agg (vc_cons vc_v (vc_cons vc_s vc_nil))) vw_nil)) ?_
 refine oE (eS ?_)
 rcases b6 with _ | _
 replace h := wF h
 refine cF rfl (lK (eS (lS (lO ?_))))
 refine pq (q_build (cs := [iI 0, nC]) ty25 rfl pl25 rfl) ?_
 refine ow [[iI 0, nC]] 0 sz25 ?_
 refine oE (eS (lR ?_))
 obtain rfl := sj h
 exact E_endX (.inr rfl) (res_cell (d := .agg [iI 0, nC]) 0 rfl sz25 rfl rfl rfl rfl res_nil) (vw_cons (vd_agg (vc_cons vc_v (vc_cons vc_s vc_nil))) vw_nil) oG rfl
 replace h := wT h
 refine cT rfl (lS (lO ?_))
 refine pq (ql (.agg [iI n1, sF r56 s2]) 1 sz25) ?_
 refine ow [[iI n1, sF r56 s2]] 0 sz25 ?_
 refine oE (eS (lR (eR ?_)))
 obtain rfl := sj h
 exact E_endX (.inr rfl) (res_cell (d := .agg [iI n1, sF r56 s2]) 0 rfl sz25 rfl rfl rfl rfl res_nil) (vw_cons (vd_agg (vc_cons vc_v (vc_cons vc_s vc_nil))) vw_nil) oG rfl

noncomputable def wide_Narrow (a0 : Int × Int) : Option (Int × Bool) :=
  match a0 with
  | (n1, n2) => ((wide_Of (IntKind.i64.wrap n2)).bind fun (n5, n6) => (if n1 = n5 ∧ n2 = n6 then some ((IntKind.i64.wrap n2), true) else some (0, false)))
theorem wide_Narrow_r (m : Nat) {a0 : Int × Int} {out : Int × Bool} (h : wide_Narrow a0 = some out) : RunsP E1 (m + 2) 61 [.agg (r65 a0)] (.fresh, [.one (iT .i64 out.1), .one (bT out.2)]) := by
 obtain ⟨n1, n2⟩ := a0
 refine fn_F rfl (by rw [E1_fn]; exact show fiOf Try.prog 61 = _ by unfold fiOf; rw [Try.func61]; unfold Try.f61; rfl) rfl ?_
 dsimp only
 unfold wide_Narrow at h
 refine lS (lO ?_)
 refine ol_new rfl rfl rfl (q_box ty66 rfl (cs := [iI n1, uI n2]) rfl rfl) (fun k3 => ?_)
 refine pq (qa (iO 0)) ?_
 refine pq (qa bf) ?_
 refine oN ?_
 refine pq (q_fieldP rfl fa66_1 rfl) ?_
 refine pq (ql (.one (uI n2)) 0 sz61) ?_
 refine pq (q_conv rfl (cv61_2_u64 _) rfl) ?_
 refine pq (qa (iO (IntKind.i64.wrap n2))) ?_
 refine oE (eS (lS (lS ?_)))
 refine L_still (by kernel_rfl) ?_
 refine sq (ql (.agg [iI n1, uI n2]) 0 sz66) ?_
 refine sq (qm (iO (IntKind.i64.wrap n2))) ?_
 obtain ⟨⟨n5, n6⟩, h4, h⟩ := bindS h
 refine sq (qc (.agg [iI n5, uI n6]) [.one (iI (IntKind.i64.wrap n2))] (wide_Of_r (m + 0) h4) (vw_cons (vd_one vc_v) vw_nil)) ?_
 by_cases c7 : n1 = n5 ∧ n2 = n6
 replace h := ifT c7 h
 refine sq (q_binA rfl rfl (by rfl) (by rfl) (eqneqA66_t _ _ c7) rfl) ?_
 refine st_end (eS (cF rfl (lK (eS (lS (lO ?_))))))
 refine pq (qm (iO (IntKind.i64.wrap n2))) ?_
 refine pq (qa (iO (IntKind.i64.wrap n2))) ?_
 refine pq (qa bt) ?_
 refine oE (eS (lR ?_))
 obtain rfl := sj h
 exact E_endF (.inr rfl) (res_tmp rfl (res_tmp rfl res_nil)) (vw_cons (vd_one vc_v) (vw_cons (vd_one vc_v) vw_nil)) oW rfl rfl
 replace h := ifF c7 h
 refine sq (q_binA rfl rfl (by rfl) (by rfl) (eqneqA66_f _ _ c7) rfl) ?_
 refine st_end (eS (cT rfl (lS (lO ?_))))
 refine pq (qa (iO 0)) ?_
 refine pq (qa bf) ?_
 refine oE (eS (lR (eR ?_)))
 obtain rfl := sj h
 exact E_endF (.inr rfl) (res_tmp rfl (res_tmp rfl res_nil)) (vw_cons (vd_one vc_v) (vw_cons (vd_one vc_v) vw_nil)) oW rfl rfl

noncomputable def ref07_SameItems_b1 (s1 : Sl (Int × Int)) (s2 : Sl (Int × Int)) (n25 : Int) : Option (Int ⊕ (Unit ⊕ Bool)) :=
  (if n25 < ((s1.l.length : Nat) : Int) then ((atS 2 s1 n25).bind fun (n29, n30) => ((atS 2 s2 n25).bind fun (n33, n34) => (if n29 = n33 ∧ n30 = n34 then some (.inl (IntKind.i64.wrap (n25 + 1))) else some (.inr (.inr false))))) else some (.inr (.inl ())))
noncomputable def ref07_SameItems (s1 : Sl (Int × Int)) (s2 : Sl (Int × Int)) : Option (Bool) :=
  (if ((s1.l.length : Nat) : Int) ≠ ((s2.l.length : Nat) : Int) then some false else ((loopO (ref07_SameItems_b1 s1 s2) 0).bind (Sum.elim (fun _ => some true) (fun u => some u))))
theorem ref07_SameItems_r (m : Nat) {s1 : Sl (Int × Int)} {s2 : Sl (Int × Int)} {out : Bool} (h : ref07_SameItems s1 s2 = some out) : RunsP E1 (m + 1) 45 [.one (Sl.t r56 s1), .one (Sl.t r56 s2)] (.fresh, [.one (bT out)]) := by
 refine fn_F rfl (by rw [E1_fn]; exact show fiOf Try.prog 45 = _ by unfold fiOf; rw [Try.func45]; unfold Try.f45; rfl) rfl ?_
 dsimp only
 unfold ref07_SameItems at h
 refine lS (lO ?_)
 refine pq (qa bf) ?_
 refine oE (eS (lS (lS (lO ?_))))
 refine pq (qm (.one (sF r56 s1))) ?_
 refine pq (q_lenS rfl ty23 rfl rfl rfl rfl) ?_
 refine pq (qm (.one (sF r56 s2))) ?_
 refine pq (q_lenS rfl ty23 rfl rfl rfl rfl) ?_
 by_cases c3 : ((s1.l.length : Nat) : Int) ≠ ((s2.l.length : Nat) : Int)
 replace h := ifT c3 h
 refine pq (qb (p_neq_tZ c3)) ?_
 refine oE (eS (cT rfl (lS (lO ?_))))
 refine pq (qa bf) ?_
 refine oE (eS (lR (eR ?_)))
 obtain rfl := sj h
 exact eF1
 replace h := ifF c3 h
 refine pq (qb (p_neq_fZ c3)) ?_
 refine oE (eS (cF rfl (lK (eS (lS (lS (lO ?_)))))))
 refine pq (qa (iO 0)) ?_
 refine oE (eS (lB ?_))
 let S1 : Int → Unit → (Nat → D) → Nat → D := fun a kt g => ups g [(0, .one (sF r56 s1)), (1, .one (sF r56 s2)), (5, iO a)]
 let SL1 : Int → Unit → BL := fun a kt => ([] : BL)
 let G1 : Bool → Ex → St → Prop := fun u => endQ E1 [.tmp 4] (.fresh, [.one (bT u)])
 let Sx1 : Unit → Unit → (Nat → D) → Nat → D := fun a kt g => ups g []
 let SLx1 : Unit → Unit → BL := fun a kt => ([] : BL)
 let J1 : (Unit ⊕ Bool) → Ex → St → Prop := JX 26 0 Sx1 SLx1 G1
 refine L_loopS (ref07_SameItems_b1 s1 s2) S1 SL1 J1 JX_n 0 h () (ups_self ⟨rfl, rfl, rfl, trivial⟩) [] (by decide) rfl ?_ ?_
 rintro n25 _ g out h
 change ref07_SameItems_b1 s1 s2 n25 = some out at h
 unfold ref07_SameItems_b1 at h
 refine lS (lS (lO ?_))
 refine pq (qm (iO n25)) ?_
 refine pq (qm (.one (sF r56 s1))) ?_
 refine pq (q_lenS rfl ty23 rfl rfl rfl rfl) ?_
 by_cases c26 : n25 < ((s1.l.length : Nat) : Int)
 replace h := ifT c26 h
 refine pq (qb (p_lss_tZ c26)) ?_
 refine oE (eS (cT rfl (lK (eS (lS (lB (lS ?_)))))))
 refine L_still (by kernel_rfl) ?_
 refine sq (qm (.one (sF r56 s1))) ?_
 refine sq (qm (iO n25)) ?_
 obtain ⟨⟨n29, n30⟩, h28, h⟩ := bindS h
 obtain ⟨h28a, h28b, h28⟩ := atS_some h28
 refine sq (q_ixS rfl rfl h28a h28 (el23.trans (congrArg some h28b.symm))) ?_
 refine sq (q_loadI (v := .agg [iI n29, iI n30]) rfl sz57 (map_get h28) rfl rfl) ?_
 refine sq (qm (.one (sF r56 s2))) ?_
 refine sq (qm (iO n25)) ?_
 obtain ⟨⟨n33, n34⟩, h32, h⟩ := bindS h
 obtain ⟨h32a, h32b, h32⟩ := atS_some h32
 refine sq (q_ixS rfl rfl h32a h32 (el23.trans (congrArg some h32b.symm))) ?_
 refine sq (q_loadI (v := .agg [iI n33, iI n34]) rfl sz57 (map_get h32) rfl rfl) ?_
 by_cases c35 : n29 = n33 ∧ n30 = n34
 replace h := ifT c35 h
 refine sq (q_binA rfl rfl (by rfl) (by rfl) (eqneqA57_t _ _ c35) rfl) ?_
 refine st_end (eS (cF rfl (lK (bN (eS (lO ?_))))))
 refine pq (qm (iO n25)) ?_
 refine pq (qb p_addY) ?_
 refine pq (qa (iO (IntKind.i64.wrap (n25 + 1)))) ?_
 refine oE ?_
 obtain rfl := sj h
 exact E_next () (ups_self ⟨rfl, rfl, rfl, trivial⟩) [] (by decide) rfl
 replace h := ifF c35 h
 refine sq (q_binA rfl rfl (by rfl) (by rfl) (eqneqA57_f _ _ c35) rfl) ?_
 refine st_end (eS (cT rfl (lS (lO ?_))))
 refine pq (qa bf) ?_
 refine oE (eS (lR (bR (eR ?_))))
 obtain rfl := sj h
 exact E_out (E_up (eF1))
 replace h := ifF c26 h
 refine pq (qb (p_lss_fZ c26)) ?_
 refine oE (eS (cF rfl (L_exit ?_)))
 refine E_seqX ?_
 obtain rfl := sj h
 refine E_out ?_
 exact (E_exit () (ups_self trivial) [] (by decide) rfl)
 rintro (_ | u) h
 refine J_x (fun kt g => ?_)
 replace h := elimL h
 refine bH (eS (lS (lO ?_)))
 refine pq (qa bt) ?_
 refine oE (eS (lR ?_))
 obtain rfl := sj h
 exact eF1
 obtain rfl := Option.some.inj (elimR h)
 exact J_up (fun s hs => hs)

noncomputable def ref09_Same (a0 : Int × (Sl (Int × Int))) (a1 : Int × (Sl (Int × Int))) : Option (Bool) :=
  match a0, a1 with
  | (n1, s2), (n3, s4) => (if n1 = n3 then ((ref07_SameItems s2 s4).bind fun b9 => some b9) else some false)
theorem ref09_Same_r (m : Nat) {a0 : Int × (Sl (Int × Int))} {a1 : Int × (Sl (Int × Int))} {out : Bool} (h : ref09_Same a0 a1 = some out) : RunsP E1 (m + 2) 16 [.agg (r24 a0), .agg (r24 a1)] (.fresh, [.one (bT out)]) := by
 obtain ⟨n1, s2⟩ := a0
 obtain ⟨n3, s4⟩ := a1
 refine fn_F rfl (by rw [E1_fn]; exact show fiOf Try.prog 16 = _ by unfold fiOf; rw [Try.func16]; unfold Try.f16; rfl) rfl ?_
 dsimp only
 unfold ref09_Same at h
 refine lS (lO ?_)
 refine ol_new rfl rfl rfl (q_box ty25 rfl (cs := [iI n1, sF r56 s2]) rfl rfl) (fun k5 => ?_)
 refine ol_new rfl rfl rfl (q_box ty25 rfl (cs := [iI n3, sF r56 s4]) rfl rfl) (fun k6 => ?_)
 refine pq (qa bf) ?_
 refine oN ?_
 refine pq (q_fieldP rfl fa25_0 rfl) ?_
 refine pq (ql (iO n1) 1 sz3) ?_
 refine pq (q_fieldP rfl fa25_0 rfl) ?_
 refine pq (ql (iO n3) 0 sz3) ?_
 by_cases c7 : n1 = n3
 replace h := ifT c7 h
 refine pq (qb (p_eql_tZ c7)) ?_
 refine pq (qm bt) ?_
 refine pq (q_fieldP rfl fa25_1 rfl) ?_
 refine pq (ql (.one (sF r56 s2)) 1 sz23) ?_
 refine pq (q_fieldP rfl fa25_1 rfl) ?_
 refine pq (ql (.one (sF r56 s4)) 0 sz23) ?_
 obtain ⟨b9, h8, h⟩ := bindS h
 refine pq (qc (bO b9) [.one (sF r56 s2), .one (sF r56 s4)] (ref07_SameItems_r (m + 0) h8) (vw_cons (vd_one vc_s) (vw_cons (vd_one vc_s) vw_nil))) ?_
 refine pq (qpt (bO b9)) ?_
 refine pq (qa (bO b9)) ?_
 refine oE (eS (lR ?_))
 obtain rfl := sj h
 exact eF1
 replace h := ifF c7 h
 refine pq (qb (p_eql_fZ c7)) ?_
 refine pq (qm bf) ?_
 iterate 5 refine os ?_
 refine pq (qpf bf) ?_
 refine pq (qa bf) ?_
 refine oE (eS (lR ?_))
 obtain rfl := sj h
 exact eF1
end Ev
end Go.Proofs.Ytlcfdmjkbaegpaa
