/- Functions of the program as functions on data, and that they are. -/
import Derived.Test.YtjomjfjbpcafhaaDoorEvZ
import Derived.Test.YtjomjfjbpcafhaaDoorLf1
import Derived.Test.YtjomjfjbpcafhaaDoorLy1
import Derived.Test.YtjomjfjbpcafhaaDoorLy2
namespace Go.Proofs.YtjomjfjbpcafhaaDoor
namespace Ev
open Go
set_option linter.unusedVariables false
set_option linter.unusedSimpArgs false
set_option maxRecDepth 100000
set_option maxHeartbeats 1000000
attribute [local irreducible] OpsL StL TnL WpL EndL
noncomputable def spvec_size (n1 : Int) : Option (Bool) :=
  (if n1 ≥ 0 then (if n1 ≤ 4096 then some true else some false) else some false)
theorem spvec_size_r (m : Nat) {n1 : Int} {out : Bool} (h : spvec_size n1 = some out) : RunsP E1 (m + 1) 81 [.one (iT .i64 n1)] (.fresh, [.one (bT out)]) := by
 refine fn_F rfl (by rw [E1_fn]; exact show fiOf Tryd.prog 81 = _ by unfold fiOf; rw [Tryd.func81]; unfold Tryd.f81; rfl) rfl ?_
 dsimp only
 unfold spvec_size at h
 refine lS (lO ?_)
 refine pq (qa bf) ?_
 refine oN ?_
 refine pq (qm (iO n1)) ?_
 by_cases c2 : n1 ≥ 0
 replace h := ifT c2 h
 refine pq (qb (p_geq_tZ c2)) ?_
 refine pq (qm bt) ?_
 refine pq (qm (iO n1)) ?_
 by_cases c3 : n1 ≤ 4096
 replace h := ifT c3 h
 refine pq (qb (p_leq_tZ c3)) ?_
 refine pq (qpt bt) ?_
 refine pq (qa bt) ?_
 refine oE (eS (lR ?_))
 obtain rfl := sj h
 exact eF1
 replace h := ifF c3 h
 refine pq (qb (p_leq_fZ c3)) ?_
 refine pq (qpt bf) ?_
 refine pq (qa bf) ?_
 refine oE (eS (lR ?_))
 obtain rfl := sj h
 exact eF1
 replace h := ifF c2 h
 refine pq (qb (p_geq_fZ c2)) ?_
 refine pq (qm bf) ?_
 iterate 2 refine os ?_
 refine pq (qpf bf) ?_
 refine pq (qa bf) ?_
 refine oE (eS (lR ?_))
 obtain rfl := sj h
 exact eF1

noncomputable def spvec_Right_b1 (n1 : Int) (s2 : Sl (Int × Int)) (a : Int × Int) : Option ((Int × Int) ⊕ (Unit ⊕ Bool)) :=
  match a with
  | (n24, n25) => (if n25 < ((s2.l.length : Nat) : Int) then ((atS 2 s2 n25).bind fun (n29, n30) => (if n29 ≤ n24 then some (.inr (.inr false)) else (if n29 ≥ n1 then some (.inr (.inr false)) else some (.inl (n29, (IntKind.i64.wrap (n25 + 1))))))) else some (.inr (.inl ())))
noncomputable def spvec_Right (a0 : Int × (Sl (Int × Int))) : Option (Bool) :=
  match a0 with
  | (n1, s2) => ((spvec_size n1).bind fun b5 => (if b5 = true then ((loopO (spvec_Right_b1 n1 s2) ((-1), 0)).bind (Sum.elim (fun _ => some true) (fun u => some u))) else some false))
theorem spvec_Right_r (m : Nat) {a0 : Int × (Sl (Int × Int))} {out : Bool} (h : spvec_Right a0 = some out) : RunsP E1 (m + 2) 54 [.agg (r27 a0)] (.fresh, [.one (bT out)]) := by
 obtain ⟨n1, s2⟩ := a0
 refine fn_F rfl (by rw [E1_fn]; exact show fiOf Tryd.prog 54 = _ by unfold fiOf; rw [Tryd.func54]; unfold Tryd.f54; rfl) rfl ?_
 dsimp only
 unfold spvec_Right at h
 refine lS (lO ?_)
 refine ol_new rfl rfl rfl (q_box ty28 rfl (cs := [iI n1, sF r38 s2]) rfl rfl) (fun k3 => ?_)
 refine pq (qa bf) ?_
 refine oE (eS (lS (lS (lO ?_))))
 refine pq (q_fieldP rfl fa28_0 rfl) ?_
 refine pq (ql (iO n1) 0 sz3) ?_
 obtain ⟨b5, h4, h⟩ := bindS h
 refine pq (qc (bO b5) [iO n1] (spvec_size_r (m + 0) h4) (vw_cons (vd_one vc_v) vw_nil)) ?_
 rcases b5 with _ | _
 replace h := wF h
 refine pq (q_not rfl) ?_
 refine oE (eS (cT rfl (lS (lO ?_))))
 refine pq (qa bf) ?_
 refine oE (eS (lR (eR ?_)))
 obtain rfl := sj h
 exact eF1
 replace h := wT h
 refine pq (q_not rfl) ?_
 refine oE (eS (cF rfl (lK (eS (lS (lO ?_))))))
 refine pq (qa (iO (-1))) ?_
 refine oE (eS (lS (lS (lO ?_))))
 refine pq (q_fieldP rfl fa28_1 rfl) ?_
 refine pq (ql (.one (sF r38 s2)) 0 sz26) ?_
 refine pq (q_lenS rfl ty26 rfl rfl rfl rfl) ?_
 refine pq (qm (iO 0)) ?_
 refine oE (eS (lB ?_))
 let S1 : (Int × Int) → Unit → (Nat → D) → Nat → D := fun a kt g => ups g [(1, .one (.ptr k3 0 0)), (3, .one (iI a.1)), (11, .one (sF r38 s2)), (12, .one (iI ((s2.l.length : Nat) : Int))), (13, .one (iI a.2))]
 let SL1 : (Int × Int) → Unit → BL := fun a kt => ([[(k3, 2, [[iI n1, sF r38 s2]])]] : BL)
 let G1 : Bool → Ex → St → Prop := fun u => endQ E1 [.tmp 2] (.fresh, [.one (bT u)])
 let Sx1 : Unit → Unit → (Nat → D) → Nat → D := fun a kt g => ups g []
 let SLx1 : Unit → Unit → BL := fun a kt => ([] : BL)
 let J1 : (Unit ⊕ Bool) → Ex → St → Prop := JX 31 0 Sx1 SLx1 G1
 refine L_loopS (spvec_Right_b1 n1 s2) S1 SL1 J1 JX_n ((-1), 0) h () (ups_self ⟨rfl, rfl, rfl, rfl, rfl, trivial⟩) [0] (by decide) rfl ?_ ?_
 rintro ⟨n24, n25⟩ _ g out h
 change spvec_Right_b1 n1 s2 (n24, n25) = some out at h
 unfold spvec_Right_b1 at h
 refine lS (lO ?_)
 by_cases c26 : n25 < ((s2.l.length : Nat) : Int)
 replace h := ifT c26 h
 refine pq (qb (p_lss_tZ c26)) ?_
 refine oE (eS (lS (cT rfl (lK (eS (lS (lB (lS (lO ?_)))))))))
 obtain ⟨⟨n29, n30⟩, h28, h⟩ := bindS h
 obtain ⟨h28a, h28b, h28⟩ := atS_some h28
 refine pq (q_ixS rfl rfl h28a h28 (el26.trans (congrArg some h28b.symm))) ?_
 refine pq (q_loadI (v := .agg [iI n29, iI n30]) rfl sz39 (map_get h28) rfl rfl) ?_
 refine ol_new rfl rfl rfl (q_alloc ty39 (row := [iI 0, iI 0]) rfl rfl) (fun k31 => ?_)
 refine ow [[iI n29, iI n30]] 0 sz39 ?_
 refine oE (eS (lS (lS (lO ?_))))
 refine pq (q_fieldP rfl fa39_0 rfl) ?_
 refine pq (ql (iO n29) 0 sz3) ?_
 refine pq (qm (iO n24)) ?_
 by_cases c32 : n29 ≤ n24
 replace h := ifT c32 h
 refine pq (qb (p_leq_tZ c32)) ?_
 refine pq (qm bt) ?_
 iterate 5 refine os ?_
 refine pq (qpt bt) ?_
 refine oE (eS (cT rfl (lS (lO ?_))))
 refine pq (qa bf) ?_
 refine oE (eS (lR (eR (bR (eR ?_)))))
 obtain rfl := sj h
 exact E_out (E_up (eF1))
 replace h := ifF c32 h
 refine pq (qb (p_leq_fZ c32)) ?_
 refine pq (qm bf) ?_
 refine pq (q_fieldP rfl fa39_0 rfl) ?_
 refine pq (ql (iO n29) 0 sz3) ?_
 refine pq (q_fieldP rfl fa28_0 rfl) ?_
 refine pq (ql (iO n1) 1 sz3) ?_
 by_cases c33 : n29 ≥ n1
 replace h := ifT c33 h
 refine pq (qb (p_geq_tZ c33)) ?_
 refine pq (qpf bt) ?_
 refine oE (eS (cT rfl (lS (lO ?_))))
 refine pq (qa bf) ?_
 refine oE (eS (lR (eR (bR (eR ?_)))))
 obtain rfl := sj h
 exact E_out (E_up (eF1))
 replace h := ifF c33 h
 refine pq (qb (p_geq_fZ c33)) ?_
 refine pq (qpf bf) ?_
 refine oE (eS (cF rfl (lK (eS (lO ?_)))))
 refine pq (q_fieldP rfl fa39_0 rfl) ?_
 refine pq (ql (iO n29) 0 sz3) ?_
 refine pq (qa (iO n29)) ?_
 refine oE (bN (eS (lO ?_)))
 refine pq (qb p_addY) ?_
 refine pq (qm (iO (IntKind.i64.wrap (n25 + 1)))) ?_
 refine oE ?_
 obtain rfl := sj h
 exact E_next () (ups_self ⟨rfl, rfl, rfl, rfl, rfl, trivial⟩) [1] (by decide) rfl
 replace h := ifF c26 h
 refine pq (qb (p_lss_fZ c26)) ?_
 refine oE (eS (lS (cF rfl (L_exit ?_))))
 refine E_seqX ?_
 obtain rfl := sj h
 refine E_out ?_
 exact (E_exit () (ups_self trivial) [] (by decide) rfl)
 rintro (_ | u) h
 refine J_x (fun kt g => ?_)
 replace h := elimL h
 refine bH (eS (lS (lO ?_)))
 refine pq (qa bt) ?_
 refine oE (eS (lR ?_))
 obtain rfl := sj h
 exact eF1
 obtain rfl := Option.some.inj (elimR h)
 exact J_up (fun s hs => hs)

noncomputable def spvec_sure (a0 : Int × (Sl (Int × Int))) : Option ((Int × (Sl (Int × Int)))) :=
  match a0 with
  | (n1, s2) => ((spvec_Right (n1, s2)).bind fun b6 => (if b6 = true then some (n1, s2) else some (0, (⟨false, 0, []⟩ : Sl (Int × Int)))))
theorem spvec_sure_r (m : Nat) {a0 : Int × (Sl (Int × Int))} {out : (Int × (Sl (Int × Int)))} (h : spvec_sure a0 = some out) : RunsX E1 (m + 3) 74 [.agg (r27 a0)] [.agg (r27 out)] := by
 obtain ⟨n1, s2⟩ := a0
 refine fn_X rfl (by rw [E1_fn]; exact show fiOf Tryd.prog 74 = _ by unfold fiOf; rw [Tryd.func74]; unfold Tryd.f74; rfl) rfl ?_
 dsimp only
 unfold spvec_sure at h
 refine lS (lO ?_)
 refine ol_new rfl rfl rfl (q_box ty28 rfl (cs := [iI n1, sF r38 s2]) rfl rfl) (fun k3 => ?_)
 refine ol_new rfl rfl rfl (q_alloc ty28 (row := [iI 0, nC]) rfl rfl) (fun k4 => ?_)
 refine oE (eS (lS (lS (lO ?_))))
 refine pq (ql (.agg [iI n1, sF r38 s2]) 1 sz28) ?_
 obtain ⟨b6, h5, h⟩ := bindS h
 refine pq (qc (bO b6) [.agg [iI n1, sF r38 s2]] (spvec_Right_r (m + 0) h5) (vw_cons (vd_agg (vc_cons vc_v (vc_cons vc_s vc_nil))) vw_nil)) ?_
 refine oE (eS ?_)
 rcases b6 with _ | _
 replace h := wF h
 refine cF rfl (lK (eS (lS (lO ?_))))
 refine pq (q_build (cs := [iI 0, nC]) ty28 rfl pl28 rfl) ?_
 refine ow [[iI 0, nC]] 0 sz28 ?_
 refine oE (eS (lR ?_))
 obtain rfl := sj h
 exact E_endX (.inr rfl) (res_cell (d := .agg [iI 0, nC]) 0 rfl sz28 rfl rfl rfl rfl res_nil) (vw_cons (vd_agg (vc_cons vc_v (vc_cons vc_s vc_nil))) vw_nil) oG rfl
 replace h := wT h
 refine cT rfl (lS (lO ?_))
 refine pq (ql (.agg [iI n1, sF r38 s2]) 1 sz28) ?_
 refine ow [[iI n1, sF r38 s2]] 0 sz28 ?_
 refine oE (eS (lR (eR ?_)))
 obtain rfl := sj h
 exact E_endX (.inr rfl) (res_cell (d := .agg [iI n1, sF r38 s2]) 0 rfl sz28 rfl rfl rfl rfl res_nil) (vw_cons (vd_agg (vc_cons vc_v (vc_cons vc_s vc_nil))) vw_nil) oG rfl

noncomputable def spvec_Places_b1 (s6 : Sl (Int × Int)) (a : List (Int) × Int) : Option ((List (Int) × Int) ⊕ ((List (Int)) ⊕ (List (Int)))) :=
  match a with
  | (l31, n32) => (if n32 < ((s6.l.length : Nat) : Int) then ((atS 2 s6 n32).bind fun (n37, n38) => ((app l31 ([n37] : List (Int))).bind fun _ => some (.inl ((l31 ++ ([n37] : List (Int))), (IntKind.i64.wrap (n32 + 1)))))) else some (.inr (.inl l31)))
noncomputable def spvec_Places (a0 : Int × (Sl (Int × Int))) : Option (List (Int)) :=
  match a0 with
  | (n1, s2) => ((spvec_sure (n1, s2)).bind fun (n5, s6) => ((loopO (spvec_Places_b1 s6) (([] : List (Int)), 0)).bind (Sum.elim (fun l43 => some l43) (fun u => some u))))
theorem spvec_Places_r (m : Nat) {a0 : Int × (Sl (Int × Int))} {out : List (Int)} (h : spvec_Places a0 = some out) : RunsP E1 (m + 4) 56 [.agg (r27 a0)] (resM 1 r3 out) := by
 obtain ⟨n1, s2⟩ := a0
 refine fn_M rfl (by rw [E1_fn]; exact show fiOf Tryd.prog 56 = _ by unfold fiOf; rw [Tryd.func56]; unfold Tryd.f56; rfl) rfl ?_
 dsimp only
 unfold spvec_Places at h
 refine lS (lO ?_)
 refine ol_new rfl rfl rfl (q_box ty28 rfl (cs := [iI n1, sF r38 s2]) rfl rfl) (fun k3 => ?_)
 refine pq (qa (.one nC)) ?_
 refine oN ?_
 refine pq (qa (.one nC)) ?_
 refine oE (eS (lS (lS (lO ?_))))
 refine pq (ql (.agg [iI n1, sF r38 s2]) 0 sz28) ?_
 obtain ⟨⟨n5, s6⟩, h4, h⟩ := bindS h
 refine ol_putX rfl rfl rfl (q_callX (v := fun fr7 => .agg [iI n5, .p fr7 (Sl.t r38 s6)]) (args := [.agg [iI n1, sF r38 s2]]) (spvec_sure_r (m + 0) h4) rfl rfl (vw_cons (vd_agg (vc_cons vc_v (vc_cons vc_s vc_nil))) vw_nil) rfl rfl (fun fr => rfl)) (fun fr7 => ?_)
 refine pq (q_fieldV (v := .one (.p fr7 (Sl.t r38 s6))) rfl fa28_1 rfl rfl) ?_
 refine pq (q_lenS rfl ty26 rfl rfl rfl rfl) ?_
 refine pq (qm (iO 0)) ?_
 refine oE (eS (lB ?_))
 refine L_addM (α := Int) r3 1 ?_
 let S1 : (List (Int) × Int) → Nat → (Nat → D) → Nat → D := fun a kt g => ups g [(3, .one (moC a.1 kt)), (8, .one (.p fr7 (Sl.t r38 s6))), (9, .one (iI ((s6.l.length : Nat) : Int))), (10, .one (iI a.2))]
 let SL1 : (List (Int) × Int) → Nat → BL := fun a kt => ([moL r3 1 a.1 kt] : BL)
 let G1 : (List (Int)) → Ex → St → Prop := fun u => endQ E1 [.tmp 2] (resM 1 r3 u)
 let Sx1 : (List (Int)) → Nat → (Nat → D) → Nat → D := fun a kt g => ups g [(3, .one (moC a kt))]
 let SLx1 : (List (Int)) → Nat → BL := fun a kt => ([moL r3 1 a kt] : BL)
 let J1 : ((List (Int)) ⊕ (List (Int))) → Ex → St → Prop := JX 21 0 Sx1 SLx1 G1
 refine L_loopS (spvec_Places_b1 s6) S1 SL1 J1 JX_n (([] : List (Int)), 0) h 1029 (ups_self ⟨rfl, rfl, rfl, rfl, trivial⟩) [0] (by decide) rfl ?_ ?_
 rintro ⟨l31, n32⟩ k33 g out h
 change spvec_Places_b1 s6 (l31, n32) = some out at h
 unfold spvec_Places_b1 at h
 refine lS (lO ?_)
 by_cases c34 : n32 < ((s6.l.length : Nat) : Int)
 replace h := ifT c34 h
 refine pq (qb (p_lss_tZ c34)) ?_
 refine oE (eS (lS (cT rfl (lK (eS (lS (lB (lS (lO ?_)))))))))
 obtain ⟨⟨n37, n38⟩, h36, h⟩ := bindS h
 obtain ⟨h36a, h36b, h36⟩ := atS_some h36
 refine pq (q_ixS rfl rfl h36a h36 (el26.trans (congrArg some h36b.symm))) ?_
 refine pq (q_loadI (v := .agg [iI n37, iI n38]) rfl sz39 (map_get h36) rfl rfl) ?_
 refine ol_new rfl rfl rfl (q_alloc ty39 (row := [iI 0, iI 0]) rfl rfl) (fun k39 => ?_)
 refine ow [[iI n37, iI n38]] 0 sz39 ?_
 refine oR ?_
 refine pq (qm (.one (moC l31 k33))) ?_
 refine pq (q_fieldP rfl fa39_0 rfl) ?_
 refine pq (ql (iO n37) 0 sz3) ?_
 refine ol_new rfl rfl rfl (q_bslice (cs := [iI n37]) (es := (([n37] : List (Int))).map (rowC r3)) ty71 rfl ty3 rfl rfl rfl rfl rfl) (fun k40 => ?_)
 obtain ⟨_, h41, h⟩ := bindS h
 obtain ⟨h41b, rfl⟩ := app_some h41
 refine ol_appM (r := r3) (l := l31) (ys := ([n37] : List (Int))) 2 rfl rfl rfl rfl rfl rfl (el_ownM (l := ([n37] : List (Int))) 0 rfl) rfl h41 (fun y => rfl) el71 ty71 rfl rfl rfl rfl rfl (fun k42 => ?_)
 refine pq (qa (.one (moC (l31 ++ ([n37] : List (Int))) k42))) ?_
 refine oE (bN (eS (lO ?_)))
 refine pq (qb p_addY) ?_
 refine pq (qm (iO (IntKind.i64.wrap (n32 + 1)))) ?_
 refine oE ?_
 obtain rfl := sj h
 exact E_next k42 (ups_self ⟨rfl, rfl, rfl, rfl, trivial⟩) [0] (by decide) rfl
 replace h := ifF c34 h
 refine pq (qb (p_lss_fZ c34)) ?_
 refine oE (eS (lS (cF rfl (L_exit ?_))))
 refine E_seqX ?_
 obtain rfl := sj h
 refine E_out ?_
 exact (E_exit k33 (ups_self ⟨rfl, trivial⟩) [0] (by decide) rfl)
 rintro (l43 | u) h
 refine J_x (fun k44 g => ?_)
 replace h := elimL h
 refine bH (eS (lS (lO ?_)))
 refine pq (qm (.one (moC l43 k44))) ?_
 refine pq (qa (.one (moC l43 k44))) ?_
 refine oE (eS (lR ?_))
 obtain rfl := sj h
 exact E_endM (r := r3) 0 (.inr rfl) (res_tmp rfl res_nil) rfl (fun x h m => rfl) (fun x => rfl)
 obtain rfl := Option.some.inj (elimR h)
 exact J_up (fun s hs => hs)

noncomputable def flags_Of_b1 (n1 : Int) (s2 : Sl (Int)) (a : List (Int) × Int) : Option ((List (Int) × Int) ⊕ ((List (Int)) ⊕ (List (Int)))) :=
  match a with
  | (l53, n54) => (if n54 < ((s2.l.length : Nat) : Int) then ((atS 1 s2 n54).bind fun n59 => (if n59 ≥ 0 then (if n59 < n1 then (if n59 < 4096 then ((divO .i64 n59 64).bind fun n71 => ((atL l53 n71).bind fun n75 => ((flags_bit n59).bind fun n77 => some (.inl ((l53.set n71.toNat (orI .u64 n75 n77)), (IntKind.i64.wrap (n54 + 1))))))) else some (.inl (l53, (IntKind.i64.wrap (n54 + 1))))) else some (.inl (l53, (IntKind.i64.wrap (n54 + 1))))) else some (.inl (l53, (IntKind.i64.wrap (n54 + 1)))))) else some (.inr (.inl l53)))
noncomputable def flags_Of (n1 : Int) (s2 : Sl (Int)) : Option (List (Int)) :=
  ((flags_New n1).bind fun s4 => ((loopO (flags_Of_b1 n1 s2) (s4, 0)).bind (Sum.elim (fun l78 => some l78) (fun u => some u))))
theorem flags_Of_r (m : Nat) {n1 : Int} {s2 : Sl (Int)} {out : List (Int)} (h : flags_Of n1 s2 = some out) : RunsP E1 (m + 3) 55 [.one (iT .i64 n1), .one (Sl.t r3 s2)] (.own, [.one (.s true 1 ((out).map r85))]) := by
 refine fn_O rfl (by rw [E1_fn]; exact show fiOf Tryd.prog 55 = _ by unfold fiOf; rw [Tryd.func55]; unfold Tryd.f55; rfl) rfl ?_
 dsimp only
 unfold flags_Of at h
 refine lS (lO ?_)
 refine pq (qa (.one nC)) ?_
 refine oN ?_
 refine pq (qm (iO n1)) ?_
 obtain ⟨s4, h3, h⟩ := bindS h
 refine ol_new rfl rfl rfl (q_callO (args := [iO n1]) (flags_New_r (m + 0) h3) rfl rfl (vw_cons (vd_one vc_v) vw_nil) rfl) (fun k5 => ?_)
 refine pq (qa (.one (.own k5 0 (s4).length))) ?_
 refine oE (eS (lS (lS (lO ?_))))
 refine pq (qm (.one (sF r3 s2))) ?_
 refine pq (q_lenS rfl ty71 rfl rfl rfl rfl) ?_
 refine pq (qm (iO 0)) ?_
 refine oE (eS (lB ?_))
 let S1 : (List (Int) × Int) → Nat → (Nat → D) → Nat → D := fun a kt g => ups g [(0, iO n1), (5, .one (.own kt 0 (a.1).length)), (10, .one (sF r3 s2)), (11, .one (iI ((s2.l.length : Nat) : Int))), (12, .one (iI a.2))]
 let SL1 : (List (Int) × Int) → Nat → BL := fun a kt => ([[(kt, 1, (a.1).map (rowC r85))]] : BL)
 let G1 : (List (Int)) → Ex → St → Prop := fun u => endQ E1 [.tmp 4] (.own, [.one (.s true 1 ((u).map r85))])
 let Sx1 : (List (Int)) → Nat → (Nat → D) → Nat → D := fun a kt g => ups g [(5, .one (.own kt 0 (a).length))]
 let SLx1 : (List (Int)) → Nat → BL := fun a kt => ([[(kt, 1, (a).map (rowC r85))]] : BL)
 let J1 : ((List (Int)) ⊕ (List (Int))) → Ex → St → Prop := JX 38 0 Sx1 SLx1 G1
 refine L_loopS (flags_Of_b1 n1 s2) S1 SL1 J1 JX_n (s4, 0) h k5 (ups_self ⟨rfl, rfl, rfl, rfl, rfl, trivial⟩) [0] (by decide) rfl ?_ ?_
 rintro ⟨l53, n54⟩ k55 g out h
 change flags_Of_b1 n1 s2 (l53, n54) = some out at h
 unfold flags_Of_b1 at h
 refine lS (lO ?_)
 by_cases c56 : n54 < ((s2.l.length : Nat) : Int)
 replace h := ifT c56 h
 refine pq (qb (p_lss_tZ c56)) ?_
 refine oE (eS (lS (cT rfl (lK (eS (lS (lB (lS (lO ?_)))))))))
 obtain ⟨n59, h58, h⟩ := bindS h
 obtain ⟨h58a, h58b, h58⟩ := atS_some h58
 refine pq (q_ixS rfl rfl h58a h58 (el71.trans (congrArg some h58b.symm))) ?_
 refine pq (q_loadI (v := iO n59) rfl sz3 (map_get h58) rfl rfl) ?_
 refine pq (qa (iO n59)) ?_
 refine oN ?_
 refine pq (qm (iO n59)) ?_
 by_cases c60 : n59 ≥ 0
 replace h := ifT c60 h
 refine pq (qb (p_geq_tZ c60)) ?_
 refine pq (qm bt) ?_
 refine pq (qm (iO n59)) ?_
 refine pq (qm (iO n1)) ?_
 by_cases c61 : n59 < n1
 replace h := ifT c61 h
 refine pq (qb (p_lss_tZ c61)) ?_
 refine pq (qpt bt) ?_
 refine pq (qm bt) ?_
 refine pq (qm (iO n59)) ?_
 by_cases c62 : n59 < 4096
 replace h := ifT c62 h
 refine pq (qb (p_lss_tZ c62)) ?_
 refine pq (qpt bt) ?_
 refine oE (eS (cT rfl ?_))
 refine L_norm (L2 := ([[(k55, 1, (l53).map (rowC r85))]] : BL)) [0] (by decide) rfl ?_
 refine L_turn 10 rfl [[], [], [], [], [], [], [], [], [], [k55]] [(false, []), (false, []), (false, []), (false, []), (false, []), (false, []), (false, []), (false, []), (false, []), (false, [])] [[1, 2, 5, 6], [0, 5, 6], [0, 5, 6], [5, 6], [5, 6], [0, 1, 2, 3, 4], [0, 1, 2, 3, 4], [], [], []] (by kernel_rfl) (by kernel_rfl) (by kernel_rfl) ?_ (fun bb63 hlt hnd => ?_)
 intro bb63 hlt hnd
 exact ⟨⟨djE, ⟨djE, ⟨djE, ⟨djE, ⟨djE, ⟨djE, ⟨djE, ⟨djE, ⟨djE, ⟨djN, trivial⟩⟩⟩⟩⟩⟩⟩⟩⟩⟩, (ltO_cons ltK_nil (ltO_cons ltK_nil (ltO_cons ltK_nil (ltO_cons ltK_nil (ltO_cons ltK_nil (ltO_cons ltK_nil (ltO_cons ltK_nil (ltO_cons ltK_nil (ltO_cons ltK_nil (ltO_cons (ltK_cons (key_lt hlt 0 rfl) ltK_nil) ltO_nil))))))))))⟩
 refine tq [] rfl (hm0 rfl) (qm (.one (.own k55 0 (l53).length))) ?_
 refine tq [] rfl (hm0 rfl) (qm (iO n59)) ?_
 obtain ⟨n71, h72, h⟩ := bindS h
 refine tq [] rfl (hm0 rfl) (q_bin rfl rfl (divO_p h72) rfl) ?_
 obtain ⟨n75, h74, h⟩ := bindS h
 obtain ⟨h74a, h74⟩ := atL_some h74
 refine tq [0] rfl (hm0 rfl) (q_ixO 0 rfl rfl h74a h74 rfl el22) ?_
 refine tq [0] rfl (hm0 rfl) (q_loadP (v := .one (uI n75)) 0 rfl sz85 rfl (map_get h74) rfl rfl) ?_
 refine tq [] rfl (hm0 rfl) (qm (iO n59)) ?_
 obtain ⟨n77, h76, h⟩ := bindS h
 refine tq [] rfl (hm0 rfl) (qc (.one (uI n77)) [iO n59] (flags_bit_r (m + 1) h76) (vw_cons (vd_one vc_v) vw_nil)) ?_
 refine tq [] rfl (hm0 rfl) (q_bin rfl rfl (p_or _ _ _ _ _ _ _) rfl) ?_
 refine tq [0] rfl (hm0 rfl) (q_ixO 0 rfl rfl h74a h74 rfl el22) ?_
 refine tn_wr rfl rfl [0] (by decide) rfl (hm0 rfl) rfl (q_store (e' := rowC r85 (orI .u64 n75 n77)) (es' := ((l53.set n71.toNat (orI .u64 n75 n77))).map (rowC r85)) 0 rfl rfl rfl sz85 rfl rfl (map_get h74) rfl map_set) (q := 0) rfl rfl ?_
 refine tn_re 5 (v := .one (.own k55 0 ((l53.set n71.toNat (orI .u64 n75 n77))).length)) (Eq.trans (b := .one (.own k55 0 (l53).length)) rfl (congrArg D.one own_setC)) ?_
 refine tn_re 27 (v := .one (.own k55 0 ((l53.set n71.toNat (orI .u64 n75 n77))).length)) (Eq.trans (b := .one (.own k55 0 (l53).length)) rfl (congrArg D.one own_setC)) ?_
 refine tn_end (bN (eS (lO ?_)))
 refine pq (qb p_addY) ?_
 refine pq (qm (iO (IntKind.i64.wrap (n54 + 1)))) ?_
 refine oE ?_
 obtain rfl := sj h
 exact E_next k55 (ups_self ⟨rfl, rfl, rfl, rfl, rfl, trivial⟩) [0] (by decide) rfl
 replace h := ifF c62 h
 refine pq (qb (p_lss_fZ c62)) ?_
 refine pq (qpt bf) ?_
 refine oE (eS (cF rfl (lK (bN (eS (lO ?_))))))
 refine pq (qb p_addY) ?_
 refine pq (qm (iO (IntKind.i64.wrap (n54 + 1)))) ?_
 refine oE ?_
 obtain rfl := sj h
 exact E_next k55 (ups_self ⟨rfl, rfl, rfl, rfl, rfl, trivial⟩) [0] (by decide) rfl
 replace h := ifF c61 h
 refine pq (qb (p_lss_fZ c61)) ?_
 refine pq (qpt bf) ?_
 refine pq (qm bf) ?_
 iterate 2 refine os ?_
 refine pq (qpf bf) ?_
 refine oE (eS (cF rfl (lK (bN (eS (lO ?_))))))
 refine pq (qb p_addY) ?_
 refine pq (qm (iO (IntKind.i64.wrap (n54 + 1)))) ?_
 refine oE ?_
 obtain rfl := sj h
 exact E_next k55 (ups_self ⟨rfl, rfl, rfl, rfl, rfl, trivial⟩) [0] (by decide) rfl
 replace h := ifF c60 h
 refine pq (qb (p_geq_fZ c60)) ?_
 refine pq (qm bf) ?_
 iterate 3 refine os ?_
 refine pq (qpf bf) ?_
 refine pq (qm bf) ?_
 iterate 2 refine os ?_
 refine pq (qpf bf) ?_
 refine oE (eS (cF rfl (lK (bN (eS (lO ?_))))))
 refine pq (qb p_addY) ?_
 refine pq (qm (iO (IntKind.i64.wrap (n54 + 1)))) ?_
 refine oE ?_
 obtain rfl := sj h
 exact E_next k55 (ups_self ⟨rfl, rfl, rfl, rfl, rfl, trivial⟩) [0] (by decide) rfl
 replace h := ifF c56 h
 refine pq (qb (p_lss_fZ c56)) ?_
 refine oE (eS (lS (cF rfl (L_exit ?_))))
 refine E_seqX ?_
 obtain rfl := sj h
 refine E_out ?_
 exact (E_exit k55 (ups_self ⟨rfl, trivial⟩) [0] (by decide) rfl)
 rintro (l78 | u) h
 refine J_x (fun k79 g => ?_)
 replace h := elimL h
 refine bH (eS (lS (lO ?_)))
 refine pq (qm (.one (.own k79 0 (l78).length))) ?_
 refine pq (qa (.one (.own k79 0 (l78).length))) ?_
 refine oE (eS (lR ?_))
 obtain rfl := sj h
 exact E_endO (r := r85) 0 (.inr rfl) (res_tmp rfl res_nil) rfl (fun x h m => rfl) (fun x => rfl)
 obtain rfl := Option.some.inj (elimR h)
 exact J_up (fun s hs => hs)

noncomputable def devec_Of_b1 (s2 : Sl (Int × Int)) (_a : Unit) : Option (Unit ⊕ (Unit ⊕ (Int × Sl (Int) × Sl (Int)))) :=
  (if (0 : Int) < ((s2.l.length : Nat) : Int) then ((atS 2 s2 0).bind fun (n32, n33) => ((atS 1 (⟨false, 0, []⟩ : Sl (Int)) n32).bind fun n37 => none)) else some (.inr (.inl ())))
noncomputable def devec_Of_b2 (s2 : Sl (Int × Int)) (_a : Unit) : Option (Unit ⊕ (Unit ⊕ (Int × Sl (Int) × Sl (Int)))) :=
  (if (0 : Int) < ((s2.l.length : Nat) : Int) then ((atS 2 s2 0).bind fun (n55, n56) => ((atS 1 (⟨false, 0, []⟩ : Sl (Int)) n55).bind fun n60 => none)) else some (.inr (.inl ())))
noncomputable def devec_Of_b3 (s2 : Sl (Int × Int)) (_a : Unit) : Option (Unit ⊕ (Unit ⊕ (Int × Sl (Int) × Sl (Int)))) :=
  (if (0 : Int) < ((s2.l.length : Nat) : Int) then ((atS 2 s2 0).bind fun (n85, n86) => ((atS 1 (⟨false, 0, []⟩ : Sl (Int)) n85).bind fun n90 => none)) else some (.inr (.inl ())))
noncomputable def devec_Of_b4 (s2 : Sl (Int × Int)) (_a : Unit) : Option (Unit ⊕ (Unit ⊕ (Int × Sl (Int) × Sl (Int)))) :=
  (if (0 : Int) < ((s2.l.length : Nat) : Int) then ((atS 2 s2 0).bind fun (n108, n109) => ((atS 1 (⟨false, 0, []⟩ : Sl (Int)) n108).bind fun n113 => none)) else some (.inr (.inl ())))
noncomputable def devec_Of_b5 (s2 : Sl (Int × Int)) (a : Int × List (Int)) : Option ((Int × List (Int)) ⊕ ((List (Int)) ⊕ (Int × Sl (Int) × Sl (Int)))) :=
  match a with
  | (n155, l156) => (if n155 < ((s2.l.length : Nat) : Int) then ((atS 2 s2 n155).bind fun (n161, n162) => ((atL l156 n161).bind fun n166 => some (.inl ((IntKind.i64.wrap (n155 + 1)), (l156.set n161.toNat n162))))) else some (.inr (.inl l156)))
noncomputable def devec_Of_b6 (s2 : Sl (Int × Int)) (a : Int × List (Int)) : Option ((Int × List (Int)) ⊕ ((List (Int)) ⊕ (Int × Sl (Int) × Sl (Int)))) :=
  match a with
  | (n195, l196) => (if n195 < ((s2.l.length : Nat) : Int) then ((atS 2 s2 n195).bind fun (n201, n202) => ((atL l196 n201).bind fun n206 => some (.inl ((IntKind.i64.wrap (n195 + 1)), (l196.set n201.toNat n202))))) else some (.inr (.inl l196)))
noncomputable def devec_Of (a0 : Int × (Sl (Int × Int))) : Option ((Int × Sl (Int) × Sl (Int))) :=
  match a0 with
  | (n1, s2) => ((spvec_Right (n1, s2)).bind fun b6 => (if b6 = true then (if n1 < 0 then ((spvec_Places (n1, s2)).bind fun s12 => (match s12 with | [] => ((flags_Of n1 (⟨false, 0, []⟩ : Sl (Int))).bind fun s19 => ((loopO (devec_Of_b1 s2) ()).bind (Sum.elim (fun _ => some (0, (⟨true, 1, s19⟩ : Sl (Int)), (⟨false, 0, []⟩ : Sl (Int)))) (fun u => some u)))) | y13 :: t14 => ((flags_Of n1 (⟨true, 1, (y13 :: t14)⟩ : Sl (Int))).bind fun s42 => ((loopO (devec_Of_b2 s2) ()).bind (Sum.elim (fun _ => some (0, (⟨true, 1, s42⟩ : Sl (Int)), (⟨false, 0, []⟩ : Sl (Int)))) (fun u => some u)))))) else (if n1 > 4096 then ((spvec_Places (n1, s2)).bind fun s65 => (match s65 with | [] => ((flags_Of n1 (⟨false, 0, []⟩ : Sl (Int))).bind fun s72 => ((loopO (devec_Of_b3 s2) ()).bind (Sum.elim (fun _ => some (0, (⟨true, 1, s72⟩ : Sl (Int)), (⟨false, 0, []⟩ : Sl (Int)))) (fun u => some u)))) | y66 :: t67 => ((flags_Of n1 (⟨true, 1, (y66 :: t67)⟩ : Sl (Int))).bind fun s95 => ((loopO (devec_Of_b4 s2) ()).bind (Sum.elim (fun _ => some (0, (⟨true, 1, s95⟩ : Sl (Int)), (⟨false, 0, []⟩ : Sl (Int)))) (fun u => some u)))))) else ((flags_New n1).bind fun s120 => ((lenOk n1).bind fun _ => ((spvec_Places (n1, s2)).bind fun s126 => (match s126 with | [] => ((flags_Of n1 (⟨false, 0, []⟩ : Sl (Int))).bind fun s133 => ((loopO (devec_Of_b5 s2) (0, (List.replicate n1.toNat (0 : Int)))).bind (Sum.elim (fun l167 => some (n1, (⟨true, 1, s133⟩ : Sl (Int)), (⟨true, 1, l167⟩ : Sl (Int)))) (fun u => some u)))) | y127 :: t128 => ((flags_Of n1 (⟨true, 1, (y127 :: t128)⟩ : Sl (Int))).bind fun s173 => ((loopO (devec_Of_b6 s2) (0, (List.replicate n1.toNat (0 : Int)))).bind (Sum.elim (fun l207 => some (n1, (⟨true, 1, s173⟩ : Sl (Int)), (⟨true, 1, l207⟩ : Sl (Int)))) (fun u => some u)))))))))) else some (0, (⟨false, 0, []⟩ : Sl (Int)), (⟨false, 0, []⟩ : Sl (Int)))))
theorem devec_Of_r (m : Nat) {a0 : Int × (Sl (Int × Int))} {out : (Int × Sl (Int) × Sl (Int))} (h : devec_Of a0 = some out) : RunsP E1 (m + 5) 18 [.agg (r27 a0)] (.fresh, [.agg (r24 out)]) := by
 obtain ⟨n1, s2⟩ := a0
 refine fn_F rfl (by rw [E1_fn]; exact show fiOf Tryd.prog 18 = _ by unfold fiOf; rw [Tryd.func18]; unfold Tryd.f18; rfl) rfl ?_
 dsimp only
 unfold devec_Of at h
 refine lS (lO ?_)
 refine ol_new rfl rfl rfl (q_box ty28 rfl (cs := [iI n1, sF r38 s2]) rfl rfl) (fun k3 => ?_)
 refine ol_new rfl rfl rfl (q_alloc ty25 (row := [iI 0, nC, nC]) rfl rfl) (fun k4 => ?_)
 refine oE (eS (lS (lS (lO ?_))))
 refine pq (ql (.agg [iI n1, sF r38 s2]) 1 sz28) ?_
 obtain ⟨b6, h5, h⟩ := bindS h
 refine pq (qc (bO b6) [.agg [iI n1, sF r38 s2]] (spvec_Right_r (m + 2) h5) (vw_cons (vd_agg (vc_cons vc_v (vc_cons vc_s vc_nil))) vw_nil)) ?_
 rcases b6 with _ | _
 replace h := wF h
 refine pq (q_not rfl) ?_
 refine oE (eS (cT rfl (lS (lO ?_))))
 refine pq (q_build (cs := [iI 0, nC, nC]) ty25 rfl pl25 rfl) ?_
 refine ow [[iI 0, nC, nC]] 0 sz25 ?_
 refine oE (eS (lR (eR ?_)))
 obtain rfl := sj h
 exact E_endF (.inr rfl) (res_cell (d := .agg [iI 0, nC, nC]) 0 rfl sz25 rfl rfl rfl rfl res_nil) (vw_cons (vd_agg (vc_cons vc_v (vc_cons vc_s (vc_cons vc_s vc_nil)))) vw_nil) oG rfl rfl
 replace h := wT h
 refine pq (q_not rfl) ?_
 refine oE (eS (cF rfl (lK (eS (lS (lO ?_))))))
 refine pq (q_fieldP rfl fa28_0 rfl) ?_
 refine pq (ql (iO n1) 1 sz3) ?_
 refine ol_scallN (args := [iO n1]) rfl rfl rfl ax20 (by rw [E1_fn]; exact show fiOf Tryd.prog 20 = _ by unfold fiOf; rw [Tryd.func20]; unfold Tryd.f20; rfl) rfl rfl rfl ?_
 dsimp only
 refine lS (lO ?_)
 refine ol_new rfl rfl rfl (q_alloc ty25 (row := [iI 0, nC, nC]) rfl rfl) (fun k7 => ?_)
 refine oE (eS (lS (lS (lO ?_))))
 refine pq (qm (iO n1)) ?_
 by_cases c8 : n1 < 0
 replace h := ifT c8 h
 refine pq (qb (p_lss_tZ c8)) ?_
 refine pq (qm bt) ?_
 iterate 2 refine os ?_
 refine pq (qpt bt) ?_
 refine oE (eS (cT rfl (lS (lO ?_))))
 refine pq (q_build (cs := [iI 0, nC, nC]) ty25 rfl pl25 rfl) ?_
 refine ow [[iI 0, nC, nC]] 0 sz25 ?_
 refine oE (eS (lR (eR ?_)))
 refine E_call (v := .agg [iI 0, nC, nC]) (.inr rfl) (res_cell (d := .agg [iI 0, nC, nC]) 0 rfl sz25 rfl rfl rfl rfl res_nil) rfl ?_
 refine ol_new rfl rfl rfl (q_alloc ty25 (row := [iI 0, nC, nC]) rfl rfl) (fun k9 => ?_)
 refine ow [[iI 0, nC, nC]] 0 sz25 ?_
 refine oE (eS (lS ?_))
 obtain ⟨s12, h11, h⟩ := bindS h
 rcases s12 with _ | ⟨y13, t14⟩
 dsimp only at h
 refine L_norm (L2 := ([[(k9, 3, [[iI 0, nC, nC]])], [(k4, 3, [[iI 0, nC, nC]])], [(k3, 2, [[iI n1, sF r38 s2]])]] : BL)) [0, 2, 3] (by decide) rfl ?_
 refine L_turn 7 rfl [[], [], [], [], [], [], [k9]] [(false, []), (false, []), (false, []), (false, []), (true, []), (false, []), (false, [])] [[2, 3], [2, 3], [0, 1], [0, 1], [], [], []] (by kernel_rfl) (by kernel_rfl) (by kernel_rfl) ?_ (fun bb15 hlt hnd => ?_)
 intro bb15 hlt hnd
 exact ⟨⟨djE, ⟨djE, ⟨djE, ⟨djE, ⟨djE, ⟨djE, ⟨djN, trivial⟩⟩⟩⟩⟩⟩⟩, (ltO_cons ltK_nil (ltO_cons ltK_nil (ltO_cons ltK_nil (ltO_cons ltK_nil (ltO_cons ltK_nil (ltO_cons ltK_nil (ltO_cons (ltK_cons (key_lt hlt 0 rfl) ltK_nil) ltO_nil)))))))⟩
 refine tq [] rfl (hm0 rfl) (q_fieldP rfl fa28_0 rfl) ?_
 refine tq [2] rfl (hm0 rfl) (ql (iO n1) 0 sz3) ?_
 refine tq [2] rfl (hm0 rfl) (ql (.agg [iI n1, sF r38 s2]) 0 sz28) ?_
 refine tq [] rfl (hm0 rfl) (qc (.one nC) [.agg [iI n1, sF r38 s2]] (spvec_Places_r (m + 0) h11) (vw_cons (vd_agg (vc_cons vc_v (vc_cons vc_s vc_nil))) vw_nil)) ?_
 obtain ⟨s19, h18, h⟩ := bindS h
 refine tn_new rfl rfl rfl [] (by decide) rfl (hm0 rfl) rfl rfl (hkc (ne_new (key_lt hlt 0 rfl)) (hkc (ne_new (key_lt hlt 1 rfl)) (hkc (ne_new (key_lt hlt 2 rfl)) hkn))) (q_callO (args := [iO n1, .one nC]) (flags_Of_r (m + 1) h18) rfl rfl (vw_cons (vd_one vc_v) (vw_cons (vd_one vc_s) vw_nil)) rfl) ?_
 refine tq [] rfl (hm0 rfl) (q_fieldP rfl fa25_1 rfl) ?_
 refine tn_wr rfl rfl [1] (by decide) rfl (hm0 rfl) rfl (q_store (es' := [[iI 0, .own (bb15 + 4) 0 (s19).length, nC]]) 0 rfl rfl rfl sz22 rfl rfl rfl rfl rfl) (q := 1) rfl rfl ?_
 refine tn_end (eS (lS (lS (lO ?_))))
 refine pq (q_fieldP rfl fa28_1 rfl) ?_
 refine pq (ql (.one (sF r38 s2)) 3 sz26) ?_
 refine pq (q_lenS rfl ty26 rfl rfl rfl rfl) ?_
 refine pq (qm (iO 0)) ?_
 refine oE (eS (lB ?_))
 let S1 : Unit → Unit → (Nat → D) → Nat → D := fun a kt g => ups g [(2, .one (.ptr k4 0 0)), (3, .one (.ptr k9 0 0)), (20, .one (sF r38 s2)), (21, .one (iI ((s2.l.length : Nat) : Int))), (22, iO 0)]
 let SL1 : Unit → Unit → BL := fun a kt => ([[(k4, 3, [[iI 0, nC, nC]])], [(k9, 3, [[iI 0, .own (bb15 + 4) 0 (s19).length, nC]])], [((bb15 + 4), 1, (s19).map (rowC r85))]] : BL)
 let G1 : (Int × Sl (Int) × Sl (Int)) → Ex → St → Prop := fun u => endQ E1 [.cell 2 25] (.fresh, [.agg (r24 u)])
 let Sx1 : Unit → Unit → (Nat → D) → Nat → D := fun a kt g => ups g [(2, .one (.ptr k4 0 0)), (3, .one (.ptr k9 0 0))]
 let SLx1 : Unit → Unit → BL := fun a kt => ([[(k4, 3, [[iI 0, nC, nC]])], [(k9, 3, [[iI 0, .own (bb15 + 4) 0 (s19).length, nC]])], [((bb15 + 4), 1, (s19).map (rowC r85))]] : BL)
 let J1 : (Unit ⊕ (Int × Sl (Int) × Sl (Int))) → Ex → St → Prop := JX 35 0 Sx1 SLx1 G1
 refine L_loopS (devec_Of_b1 s2) S1 SL1 J1 JX_n () h () (ups_self ⟨rfl, rfl, rfl, rfl, rfl, trivial⟩) [2, 1, 0] (by decide) rfl ?_ ?_
 rintro _ _ g out h
 change devec_Of_b1 s2 () = some out at h
 unfold devec_Of_b1 at h
 refine lS (lO ?_)
 by_cases c29 : (0 : Int) < ((s2.l.length : Nat) : Int)
 replace h := ifT c29 h
 refine pq (qb (p_lss_tZ c29)) ?_
 refine oE (eS (lS (cT rfl (lK (eS (lS (lB (lS (lO ?_)))))))))
 obtain ⟨⟨n32, n33⟩, h31, h⟩ := bindS h
 obtain ⟨h31a, h31b, h31⟩ := atS_some h31
 refine pq (q_ixS rfl rfl h31a h31 (el26.trans (congrArg some h31b.symm))) ?_
 refine pq (q_loadI (v := .agg [iI n32, iI n33]) rfl sz39 (map_get h31) rfl rfl) ?_
 refine ol_new rfl rfl rfl (q_alloc ty39 (row := [iI 0, iI 0]) rfl rfl) (fun k34 => ?_)
 refine ow [[iI n32, iI n33]] 0 sz39 ?_
 refine oR ?_
 refine pq (q_fieldP rfl fa25_2 rfl) ?_
 refine pq (ql (.one nC) 2 sz23) ?_
 refine pq (q_fieldP rfl fa39_0 rfl) ?_
 refine pq (ql (iO n32) 0 sz3) ?_
 refine pq (q_fieldP rfl fa39_1 rfl) ?_
 refine pq (ql (iO n33) 0 sz2) ?_
 obtain ⟨n37, h36, h⟩ := bindS h
 exact (atS_nil h36).elim
 replace h := ifF c29 h
 refine pq (qb (p_lss_fZ c29)) ?_
 refine oE (eS (lS (cF rfl (L_exit ?_))))
 refine E_seqX ?_
 obtain rfl := sj h
 refine E_out ?_
 exact (E_exit () (ups_self ⟨rfl, rfl, trivial⟩) [0, 1, 2] (by decide) rfl)
 rintro (_ | u) h
 refine J_x (fun kt g => ?_)
 replace h := elimL h
 refine bH (eS (lS (lO ?_)))
 refine pq (ql (.agg [iI 0, .own (bb15 + 4) 0 (s19).length, nC]) 1 sz25) ?_
 refine ow [[iI 0, .own (bb15 + 4) 0 (s19).length, nC]] 0 sz25 ?_
 refine oE (eS (lR ?_))
 obtain rfl := sj h
 exact E_endF (.inr rfl) (res_cell (d := .agg [iI 0, .own (bb15 + 4) 0 (s19).length, nC]) 0 rfl sz25 rfl rfl rfl rfl res_nil) (vw_cons (vd_agg (vc_cons vc_v (vc_cons (vc_own (r := r85) 2 rfl (fun x h m => rfl)) (vc_cons vc_s vc_nil)))) vw_nil) oG rfl rfl
 obtain rfl := Option.some.inj (elimR h)
 exact J_up (fun s hs => hs)
 dsimp only at h
 refine L_norm (L2 := ([[(k9, 3, [[iI 0, nC, nC]])], [(k4, 3, [[iI 0, nC, nC]])], [(k3, 2, [[iI n1, sF r38 s2]])]] : BL)) [0, 2, 3] (by decide) rfl ?_
 refine L_turn 7 rfl [[], [], [], [], [], [], [k9]] [(false, []), (false, []), (false, []), (true, []), (true, []), (false, []), (false, [])] [[2, 3], [2, 3], [0, 1], [0, 1], [], [], []] (by kernel_rfl) (by kernel_rfl) (by kernel_rfl) ?_ (fun bb38 hlt hnd => ?_)
 intro bb38 hlt hnd
 exact ⟨⟨djE, ⟨djE, ⟨djE, ⟨djE, ⟨djE, ⟨djE, ⟨djN, trivial⟩⟩⟩⟩⟩⟩⟩, (ltO_cons ltK_nil (ltO_cons ltK_nil (ltO_cons ltK_nil (ltO_cons ltK_nil (ltO_cons ltK_nil (ltO_cons ltK_nil (ltO_cons (ltK_cons (key_lt hlt 0 rfl) ltK_nil) ltO_nil)))))))⟩
 refine tq [] rfl hmn (q_fieldP rfl fa28_0 rfl) ?_
 refine tq [2] rfl (hmc (nin_cons (ne_new (key_lt hlt 2 rfl)) nin_nil) hmn) (ql (iO n1) 0 sz3) ?_
 refine tq [2] rfl (hm0 rfl) (ql (.agg [iI n1, sF r38 s2]) 0 sz28) ?_
 refine tn_new rfl rfl rfl [] (by decide) rfl (hm0 rfl) rfl rfl (hkc (ne_new (key_lt hlt 0 rfl)) (hkc (ne_new (key_lt hlt 1 rfl)) (hkc (ne_new (key_lt hlt 2 rfl)) hkn))) (q_callO (r := r3) (l := (y13 :: t14)) (args := [.agg [iI n1, sF r38 s2]]) (spvec_Places_r (m + 0) h11) rfl rfl (vw_cons (vd_agg (vc_cons vc_v (vc_cons vc_s vc_nil))) vw_nil) rfl) ?_
 obtain ⟨s42, h41, h⟩ := bindS h
 refine tn_new rfl rfl rfl [0] (by decide) rfl (hm0 rfl) rfl rfl (hkc (ne_add rfl) (hkc (ne_new (key_lt hlt 0 rfl)) (hkc (ne_new (key_lt hlt 1 rfl)) (hkc (ne_new (key_lt hlt 2 rfl)) hkn)))) (q_callO (args := [iO n1, .one (.own (bb38 + 3) 0 ((y13 :: t14)).length)]) (flags_Of_r (m + 1) h41) rfl rfl (vw_cons (vd_one vc_v) (vw_cons (vd_one (vc_own (r := r3) 0 rfl (fun x h m => rfl))) vw_nil)) rfl) ?_
 refine tq [] rfl (hm0 rfl) (q_fieldP rfl fa25_1 rfl) ?_
 refine tn_wr rfl rfl [2] (by decide) rfl (hm0 rfl) rfl (q_store (es' := [[iI 0, .own (bb38 + 4) 0 (s42).length, nC]]) 0 rfl rfl rfl sz22 rfl rfl rfl rfl rfl) (q := 2) rfl rfl ?_
 refine tn_end (eS (lS (lS (lO ?_))))
 refine pq (q_fieldP rfl fa28_1 rfl) ?_
 refine pq (ql (.one (sF r38 s2)) 4 sz26) ?_
 refine pq (q_lenS rfl ty26 rfl rfl rfl rfl) ?_
 refine pq (qm (iO 0)) ?_
 refine oE (eS (lB ?_))
 let S2 : Unit → Unit → (Nat → D) → Nat → D := fun a kt g => ups g [(2, .one (.ptr k4 0 0)), (3, .one (.ptr k9 0 0)), (20, .one (sF r38 s2)), (21, .one (iI ((s2.l.length : Nat) : Int))), (22, iO 0)]
 let SL2 : Unit → Unit → BL := fun a kt => ([[(k4, 3, [[iI 0, nC, nC]])], [(k9, 3, [[iI 0, .own (bb38 + 4) 0 (s42).length, nC]])], [((bb38 + 4), 1, (s42).map (rowC r85))]] : BL)
 let G2 : (Int × Sl (Int) × Sl (Int)) → Ex → St → Prop := fun u => endQ E1 [.cell 2 25] (.fresh, [.agg (r24 u)])
 let Sx2 : Unit → Unit → (Nat → D) → Nat → D := fun a kt g => ups g [(2, .one (.ptr k4 0 0)), (3, .one (.ptr k9 0 0))]
 let SLx2 : Unit → Unit → BL := fun a kt => ([[(k4, 3, [[iI 0, nC, nC]])], [(k9, 3, [[iI 0, .own (bb38 + 4) 0 (s42).length, nC]])], [((bb38 + 4), 1, (s42).map (rowC r85))]] : BL)
 let J2 : (Unit ⊕ (Int × Sl (Int) × Sl (Int))) → Ex → St → Prop := JX 35 0 Sx2 SLx2 G2
 refine L_loopS (devec_Of_b2 s2) S2 SL2 J2 JX_n () h () (ups_self ⟨rfl, rfl, rfl, rfl, rfl, trivial⟩) [3, 2, 0] (by decide) rfl ?_ ?_
 rintro _ _ g out h
 change devec_Of_b2 s2 () = some out at h
 unfold devec_Of_b2 at h
 refine lS (lO ?_)
 by_cases c52 : (0 : Int) < ((s2.l.length : Nat) : Int)
 replace h := ifT c52 h
 refine pq (qb (p_lss_tZ c52)) ?_
 refine oE (eS (lS (cT rfl (lK (eS (lS (lB (lS (lO ?_)))))))))
 obtain ⟨⟨n55, n56⟩, h54, h⟩ := bindS h
 obtain ⟨h54a, h54b, h54⟩ := atS_some h54
 refine pq (q_ixS rfl rfl h54a h54 (el26.trans (congrArg some h54b.symm))) ?_
 refine pq (q_loadI (v := .agg [iI n55, iI n56]) rfl sz39 (map_get h54) rfl rfl) ?_
 refine ol_new rfl rfl rfl (q_alloc ty39 (row := [iI 0, iI 0]) rfl rfl) (fun k57 => ?_)
 refine ow [[iI n55, iI n56]] 0 sz39 ?_
 refine oR ?_
 refine pq (q_fieldP rfl fa25_2 rfl) ?_
 refine pq (ql (.one nC) 2 sz23) ?_
 refine pq (q_fieldP rfl fa39_0 rfl) ?_
 refine pq (ql (iO n55) 0 sz3) ?_
 refine pq (q_fieldP rfl fa39_1 rfl) ?_
 refine pq (ql (iO n56) 0 sz2) ?_
 obtain ⟨n60, h59, h⟩ := bindS h
 exact (atS_nil h59).elim
 replace h := ifF c52 h
 refine pq (qb (p_lss_fZ c52)) ?_
 refine oE (eS (lS (cF rfl (L_exit ?_))))
 refine E_seqX ?_
 obtain rfl := sj h
 refine E_out ?_
 exact (E_exit () (ups_self ⟨rfl, rfl, trivial⟩) [0, 1, 2] (by decide) rfl)
 rintro (_ | u) h
 refine J_x (fun kt g => ?_)
 replace h := elimL h
 refine bH (eS (lS (lO ?_)))
 refine pq (ql (.agg [iI 0, .own (bb38 + 4) 0 (s42).length, nC]) 1 sz25) ?_
 refine ow [[iI 0, .own (bb38 + 4) 0 (s42).length, nC]] 0 sz25 ?_
 refine oE (eS (lR ?_))
 obtain rfl := sj h
 exact E_endF (.inr rfl) (res_cell (d := .agg [iI 0, .own (bb38 + 4) 0 (s42).length, nC]) 0 rfl sz25 rfl rfl rfl rfl res_nil) (vw_cons (vd_agg (vc_cons vc_v (vc_cons (vc_own (r := r85) 2 rfl (fun x h m => rfl)) (vc_cons vc_s vc_nil)))) vw_nil) oG rfl rfl
 obtain rfl := Option.some.inj (elimR h)
 exact J_up (fun s hs => hs)
 replace h := ifF c8 h
 refine pq (qb (p_lss_fZ c8)) ?_
 refine pq (qm bf) ?_
 refine pq (qm (iO n1)) ?_
 by_cases c61 : n1 > 4096
 replace h := ifT c61 h
 refine pq (qb (p_gtr_tZ c61)) ?_
 refine pq (qpf bt) ?_
 refine oE (eS (cT rfl (lS (lO ?_))))
 refine pq (q_build (cs := [iI 0, nC, nC]) ty25 rfl pl25 rfl) ?_
 refine ow [[iI 0, nC, nC]] 0 sz25 ?_
 refine oE (eS (lR (eR ?_)))
 refine E_call (v := .agg [iI 0, nC, nC]) (.inr rfl) (res_cell (d := .agg [iI 0, nC, nC]) 0 rfl sz25 rfl rfl rfl rfl res_nil) rfl ?_
 refine ol_new rfl rfl rfl (q_alloc ty25 (row := [iI 0, nC, nC]) rfl rfl) (fun k62 => ?_)
 refine ow [[iI 0, nC, nC]] 0 sz25 ?_
 refine oE (eS (lS ?_))
 obtain ⟨s65, h64, h⟩ := bindS h
 rcases s65 with _ | ⟨y66, t67⟩
 dsimp only at h
 refine L_norm (L2 := ([[(k62, 3, [[iI 0, nC, nC]])], [(k4, 3, [[iI 0, nC, nC]])], [(k3, 2, [[iI n1, sF r38 s2]])]] : BL)) [0, 2, 3] (by decide) rfl ?_
 refine L_turn 7 rfl [[], [], [], [], [], [], [k62]] [(false, []), (false, []), (false, []), (false, []), (true, []), (false, []), (false, [])] [[2, 3], [2, 3], [0, 1], [0, 1], [], [], []] (by kernel_rfl) (by kernel_rfl) (by kernel_rfl) ?_ (fun bb68 hlt hnd => ?_)
 intro bb68 hlt hnd
 exact ⟨⟨djE, ⟨djE, ⟨djE, ⟨djE, ⟨djE, ⟨djE, ⟨djN, trivial⟩⟩⟩⟩⟩⟩⟩, (ltO_cons ltK_nil (ltO_cons ltK_nil (ltO_cons ltK_nil (ltO_cons ltK_nil (ltO_cons ltK_nil (ltO_cons ltK_nil (ltO_cons (ltK_cons (key_lt hlt 0 rfl) ltK_nil) ltO_nil)))))))⟩
 refine tq [] rfl (hm0 rfl) (q_fieldP rfl fa28_0 rfl) ?_
 refine tq [2] rfl (hm0 rfl) (ql (iO n1) 0 sz3) ?_
 refine tq [2] rfl (hm0 rfl) (ql (.agg [iI n1, sF r38 s2]) 0 sz28) ?_
 refine tq [] rfl (hm0 rfl) (qc (.one nC) [.agg [iI n1, sF r38 s2]] (spvec_Places_r (m + 0) h64) (vw_cons (vd_agg (vc_cons vc_v (vc_cons vc_s vc_nil))) vw_nil)) ?_
 obtain ⟨s72, h71, h⟩ := bindS h
 refine tn_new rfl rfl rfl [] (by decide) rfl (hm0 rfl) rfl rfl (hkc (ne_new (key_lt hlt 0 rfl)) (hkc (ne_new (key_lt hlt 1 rfl)) (hkc (ne_new (key_lt hlt 2 rfl)) hkn))) (q_callO (args := [iO n1, .one nC]) (flags_Of_r (m + 1) h71) rfl rfl (vw_cons (vd_one vc_v) (vw_cons (vd_one vc_s) vw_nil)) rfl) ?_
 refine tq [] rfl (hm0 rfl) (q_fieldP rfl fa25_1 rfl) ?_
 refine tn_wr rfl rfl [1] (by decide) rfl (hm0 rfl) rfl (q_store (es' := [[iI 0, .own (bb68 + 4) 0 (s72).length, nC]]) 0 rfl rfl rfl sz22 rfl rfl rfl rfl rfl) (q := 1) rfl rfl ?_
 refine tn_end (eS (lS (lS (lO ?_))))
 refine pq (q_fieldP rfl fa28_1 rfl) ?_
 refine pq (ql (.one (sF r38 s2)) 3 sz26) ?_
 refine pq (q_lenS rfl ty26 rfl rfl rfl rfl) ?_
 refine pq (qm (iO 0)) ?_
 refine oE (eS (lB ?_))
 let S3 : Unit → Unit → (Nat → D) → Nat → D := fun a kt g => ups g [(2, .one (.ptr k4 0 0)), (3, .one (.ptr k62 0 0)), (20, .one (sF r38 s2)), (21, .one (iI ((s2.l.length : Nat) : Int))), (22, iO 0)]
 let SL3 : Unit → Unit → BL := fun a kt => ([[(k4, 3, [[iI 0, nC, nC]])], [(k62, 3, [[iI 0, .own (bb68 + 4) 0 (s72).length, nC]])], [((bb68 + 4), 1, (s72).map (rowC r85))]] : BL)
 let G3 : (Int × Sl (Int) × Sl (Int)) → Ex → St → Prop := fun u => endQ E1 [.cell 2 25] (.fresh, [.agg (r24 u)])
 let Sx3 : Unit → Unit → (Nat → D) → Nat → D := fun a kt g => ups g [(2, .one (.ptr k4 0 0)), (3, .one (.ptr k62 0 0))]
 let SLx3 : Unit → Unit → BL := fun a kt => ([[(k4, 3, [[iI 0, nC, nC]])], [(k62, 3, [[iI 0, .own (bb68 + 4) 0 (s72).length, nC]])], [((bb68 + 4), 1, (s72).map (rowC r85))]] : BL)
 let J3 : (Unit ⊕ (Int × Sl (Int) × Sl (Int))) → Ex → St → Prop := JX 35 0 Sx3 SLx3 G3
 refine L_loopS (devec_Of_b3 s2) S3 SL3 J3 JX_n () h () (ups_self ⟨rfl, rfl, rfl, rfl, rfl, trivial⟩) [2, 1, 0] (by decide) rfl ?_ ?_
 rintro _ _ g out h
 change devec_Of_b3 s2 () = some out at h
 unfold devec_Of_b3 at h
 refine lS (lO ?_)
 by_cases c82 : (0 : Int) < ((s2.l.length : Nat) : Int)
 replace h := ifT c82 h
 refine pq (qb (p_lss_tZ c82)) ?_
 refine oE (eS (lS (cT rfl (lK (eS (lS (lB (lS (lO ?_)))))))))
 obtain ⟨⟨n85, n86⟩, h84, h⟩ := bindS h
 obtain ⟨h84a, h84b, h84⟩ := atS_some h84
 refine pq (q_ixS rfl rfl h84a h84 (el26.trans (congrArg some h84b.symm))) ?_
 refine pq (q_loadI (v := .agg [iI n85, iI n86]) rfl sz39 (map_get h84) rfl rfl) ?_
 refine ol_new rfl rfl rfl (q_alloc ty39 (row := [iI 0, iI 0]) rfl rfl) (fun k87 => ?_)
 refine ow [[iI n85, iI n86]] 0 sz39 ?_
 refine oR ?_
 refine pq (q_fieldP rfl fa25_2 rfl) ?_
 refine pq (ql (.one nC) 2 sz23) ?_
 refine pq (q_fieldP rfl fa39_0 rfl) ?_
 refine pq (ql (iO n85) 0 sz3) ?_
 refine pq (q_fieldP rfl fa39_1 rfl) ?_
 refine pq (ql (iO n86) 0 sz2) ?_
 obtain ⟨n90, h89, h⟩ := bindS h
 exact (atS_nil h89).elim
 replace h := ifF c82 h
 refine pq (qb (p_lss_fZ c82)) ?_
 refine oE (eS (lS (cF rfl (L_exit ?_))))
 refine E_seqX ?_
 obtain rfl := sj h
 refine E_out ?_
 exact (E_exit () (ups_self ⟨rfl, rfl, trivial⟩) [0, 1, 2] (by decide) rfl)
 rintro (_ | u) h
 refine J_x (fun kt g => ?_)
 replace h := elimL h
 refine bH (eS (lS (lO ?_)))
 refine pq (ql (.agg [iI 0, .own (bb68 + 4) 0 (s72).length, nC]) 1 sz25) ?_
 refine ow [[iI 0, .own (bb68 + 4) 0 (s72).length, nC]] 0 sz25 ?_
 refine oE (eS (lR ?_))
 obtain rfl := sj h
 exact E_endF (.inr rfl) (res_cell (d := .agg [iI 0, .own (bb68 + 4) 0 (s72).length, nC]) 0 rfl sz25 rfl rfl rfl rfl res_nil) (vw_cons (vd_agg (vc_cons vc_v (vc_cons (vc_own (r := r85) 2 rfl (fun x h m => rfl)) (vc_cons vc_s vc_nil)))) vw_nil) oG rfl rfl
 obtain rfl := Option.some.inj (elimR h)
 exact J_up (fun s hs => hs)
 dsimp only at h
 refine L_norm (L2 := ([[(k62, 3, [[iI 0, nC, nC]])], [(k4, 3, [[iI 0, nC, nC]])], [(k3, 2, [[iI n1, sF r38 s2]])]] : BL)) [0, 2, 3] (by decide) rfl ?_
 refine L_turn 7 rfl [[], [], [], [], [], [], [k62]] [(false, []), (false, []), (false, []), (true, []), (true, []), (false, []), (false, [])] [[2, 3], [2, 3], [0, 1], [0, 1], [], [], []] (by kernel_rfl) (by kernel_rfl) (by kernel_rfl) ?_ (fun bb91 hlt hnd => ?_)
 intro bb91 hlt hnd
 exact ⟨⟨djE, ⟨djE, ⟨djE, ⟨djE, ⟨djE, ⟨djE, ⟨djN, trivial⟩⟩⟩⟩⟩⟩⟩, (ltO_cons ltK_nil (ltO_cons ltK_nil (ltO_cons ltK_nil (ltO_cons ltK_nil (ltO_cons ltK_nil (ltO_cons ltK_nil (ltO_cons (ltK_cons (key_lt hlt 0 rfl) ltK_nil) ltO_nil)))))))⟩
 refine tq [] rfl hmn (q_fieldP rfl fa28_0 rfl) ?_
 refine tq [2] rfl (hmc (nin_cons (ne_new (key_lt hlt 2 rfl)) nin_nil) hmn) (ql (iO n1) 0 sz3) ?_
 refine tq [2] rfl (hm0 rfl) (ql (.agg [iI n1, sF r38 s2]) 0 sz28) ?_
 refine tn_new rfl rfl rfl [] (by decide) rfl (hm0 rfl) rfl rfl (hkc (ne_new (key_lt hlt 0 rfl)) (hkc (ne_new (key_lt hlt 1 rfl)) (hkc (ne_new (key_lt hlt 2 rfl)) hkn))) (q_callO (r := r3) (l := (y66 :: t67)) (args := [.agg [iI n1, sF r38 s2]]) (spvec_Places_r (m + 0) h64) rfl rfl (vw_cons (vd_agg (vc_cons vc_v (vc_cons vc_s vc_nil))) vw_nil) rfl) ?_
 obtain ⟨s95, h94, h⟩ := bindS h
 refine tn_new rfl rfl rfl [0] (by decide) rfl (hm0 rfl) rfl rfl (hkc (ne_add rfl) (hkc (ne_new (key_lt hlt 0 rfl)) (hkc (ne_new (key_lt hlt 1 rfl)) (hkc (ne_new (key_lt hlt 2 rfl)) hkn)))) (q_callO (args := [iO n1, .one (.own (bb91 + 3) 0 ((y66 :: t67)).length)]) (flags_Of_r (m + 1) h94) rfl rfl (vw_cons (vd_one vc_v) (vw_cons (vd_one (vc_own (r := r3) 0 rfl (fun x h m => rfl))) vw_nil)) rfl) ?_
 refine tq [] rfl (hm0 rfl) (q_fieldP rfl fa25_1 rfl) ?_
 refine tn_wr rfl rfl [2] (by decide) rfl (hm0 rfl) rfl (q_store (es' := [[iI 0, .own (bb91 + 4) 0 (s95).length, nC]]) 0 rfl rfl rfl sz22 rfl rfl rfl rfl rfl) (q := 2) rfl rfl ?_
 refine tn_end (eS (lS (lS (lO ?_))))
 refine pq (q_fieldP rfl fa28_1 rfl) ?_
 refine pq (ql (.one (sF r38 s2)) 4 sz26) ?_
 refine pq (q_lenS rfl ty26 rfl rfl rfl rfl) ?_
 refine pq (qm (iO 0)) ?_
 refine oE (eS (lB ?_))
 let S4 : Unit → Unit → (Nat → D) → Nat → D := fun a kt g => ups g [(2, .one (.ptr k4 0 0)), (3, .one (.ptr k62 0 0)), (20, .one (sF r38 s2)), (21, .one (iI ((s2.l.length : Nat) : Int))), (22, iO 0)]
 let SL4 : Unit → Unit → BL := fun a kt => ([[(k4, 3, [[iI 0, nC, nC]])], [(k62, 3, [[iI 0, .own (bb91 + 4) 0 (s95).length, nC]])], [((bb91 + 4), 1, (s95).map (rowC r85))]] : BL)
 let G4 : (Int × Sl (Int) × Sl (Int)) → Ex → St → Prop := fun u => endQ E1 [.cell 2 25] (.fresh, [.agg (r24 u)])
 let Sx4 : Unit → Unit → (Nat → D) → Nat → D := fun a kt g => ups g [(2, .one (.ptr k4 0 0)), (3, .one (.ptr k62 0 0))]
 let SLx4 : Unit → Unit → BL := fun a kt => ([[(k4, 3, [[iI 0, nC, nC]])], [(k62, 3, [[iI 0, .own (bb91 + 4) 0 (s95).length, nC]])], [((bb91 + 4), 1, (s95).map (rowC r85))]] : BL)
 let J4 : (Unit ⊕ (Int × Sl (Int) × Sl (Int))) → Ex → St → Prop := JX 35 0 Sx4 SLx4 G4
 refine L_loopS (devec_Of_b4 s2) S4 SL4 J4 JX_n () h () (ups_self ⟨rfl, rfl, rfl, rfl, rfl, trivial⟩) [3, 2, 0] (by decide) rfl ?_ ?_
 rintro _ _ g out h
 change devec_Of_b4 s2 () = some out at h
 unfold devec_Of_b4 at h
 refine lS (lO ?_)
 by_cases c105 : (0 : Int) < ((s2.l.length : Nat) : Int)
 replace h := ifT c105 h
 refine pq (qb (p_lss_tZ c105)) ?_
 refine oE (eS (lS (cT rfl (lK (eS (lS (lB (lS (lO ?_)))))))))
 obtain ⟨⟨n108, n109⟩, h107, h⟩ := bindS h
 obtain ⟨h107a, h107b, h107⟩ := atS_some h107
 refine pq (q_ixS rfl rfl h107a h107 (el26.trans (congrArg some h107b.symm))) ?_
 refine pq (q_loadI (v := .agg [iI n108, iI n109]) rfl sz39 (map_get h107) rfl rfl) ?_
 refine ol_new rfl rfl rfl (q_alloc ty39 (row := [iI 0, iI 0]) rfl rfl) (fun k110 => ?_)
 refine ow [[iI n108, iI n109]] 0 sz39 ?_
 refine oR ?_
 refine pq (q_fieldP rfl fa25_2 rfl) ?_
 refine pq (ql (.one nC) 2 sz23) ?_
 refine pq (q_fieldP rfl fa39_0 rfl) ?_
 refine pq (ql (iO n108) 0 sz3) ?_
 refine pq (q_fieldP rfl fa39_1 rfl) ?_
 refine pq (ql (iO n109) 0 sz2) ?_
 obtain ⟨n113, h112, h⟩ := bindS h
 exact (atS_nil h112).elim
 replace h := ifF c105 h
 refine pq (qb (p_lss_fZ c105)) ?_
 refine oE (eS (lS (cF rfl (L_exit ?_))))
 refine E_seqX ?_
 obtain rfl := sj h
 refine E_out ?_
 exact (E_exit () (ups_self ⟨rfl, rfl, trivial⟩) [0, 1, 2] (by decide) rfl)
 rintro (_ | u) h
 refine J_x (fun kt g => ?_)
 replace h := elimL h
 refine bH (eS (lS (lO ?_)))
 refine pq (ql (.agg [iI 0, .own (bb91 + 4) 0 (s95).length, nC]) 1 sz25) ?_
 refine ow [[iI 0, .own (bb91 + 4) 0 (s95).length, nC]] 0 sz25 ?_
 refine oE (eS (lR ?_))
 obtain rfl := sj h
 exact E_endF (.inr rfl) (res_cell (d := .agg [iI 0, .own (bb91 + 4) 0 (s95).length, nC]) 0 rfl sz25 rfl rfl rfl rfl res_nil) (vw_cons (vd_agg (vc_cons vc_v (vc_cons (vc_own (r := r85) 2 rfl (fun x h m => rfl)) (vc_cons vc_s vc_nil)))) vw_nil) oG rfl rfl
 obtain rfl := Option.some.inj (elimR h)
 exact J_up (fun s hs => hs)
 replace h := ifF c61 h
 refine pq (qb (p_gtr_fZ c61)) ?_
 refine pq (qpf bf) ?_
 refine oE (eS (cF rfl (lK (eS (lS ?_)))))
 refine L_norm (L2 := ([[(k7, 3, [[iI 0, nC, nC]])], [(k4, 3, [[iI 0, nC, nC]])], [(k3, 2, [[iI n1, sF r38 s2]])]] : BL)) [0, 1, 2] (by decide) rfl ?_
 refine L_turn 7 rfl [[], [], [], [], [], [], [k7]] [(false, []), (false, []), (true, []), (false, []), (true, []), (false, []), (false, [])] [[1, 2, 3, 4], [0, 3, 4], [0, 3, 4], [0, 1, 2], [0, 1, 2], [], []] (by kernel_rfl) (by kernel_rfl) (by kernel_rfl) ?_ (fun bb114 hlt hnd => ?_)
 intro bb114 hlt hnd
 exact ⟨⟨djE, ⟨djE, ⟨djE, ⟨djE, ⟨djE, ⟨djE, ⟨djN, trivial⟩⟩⟩⟩⟩⟩⟩, (ltO_cons ltK_nil (ltO_cons ltK_nil (ltO_cons ltK_nil (ltO_cons ltK_nil (ltO_cons ltK_nil (ltO_cons ltK_nil (ltO_cons (ltK_cons (key_lt hlt 0 rfl) ltK_nil) ltO_nil)))))))⟩
 refine tq [] rfl hmn (qm (iO n1)) ?_
 refine tq [] rfl hmn (qm (iO n1)) ?_
 obtain ⟨s120, h119, h⟩ := bindS h
 refine tn_new rfl rfl rfl [] (by decide) rfl hmn rfl rfl (hkc (ne_new (key_lt hlt 0 rfl)) (hkc (ne_new (key_lt hlt 1 rfl)) (hkc (ne_new (key_lt hlt 2 rfl)) hkn))) (q_callO (args := [iO n1]) (flags_New_r (m + 1) h119) rfl rfl (vw_cons (vd_one vc_v) vw_nil) rfl) ?_
 refine tq [] rfl hmn (qm (iO n1)) ?_
 obtain ⟨u121, h122, h⟩ := bindS h
 refine tn_new rfl rfl rfl [] (by decide) rfl hmn rfl rfl (hkc (ne_add rfl) (hkc (ne_new (key_lt hlt 0 rfl)) (hkc (ne_new (key_lt hlt 1 rfl)) (hkc (ne_new (key_lt hlt 2 rfl)) hkn)))) (q_mkslice (r := rowC r2) (a := (0 : Int)) ty23 rfl ty2 rfl rfl (lenOk_some h122).1 (lenOk_some h122).2 rfl rfl) ?_
 refine tq [] rfl (hm0 rfl) (q_build (cs := [iI n1, .own (bb114 + 2) 0 (s120).length, .own (bb114 + 4) 0 ((List.replicate n1.toNat (0 : Int))).length]) ty25 rfl pl25 rfl) ?_
 refine tn_wr rfl rfl [2] (by decide) rfl (hm0 rfl) rfl (q_store (es' := [[iI n1, .own (bb114 + 2) 0 (s120).length, .own (bb114 + 4) 0 ((List.replicate n1.toNat (0 : Int))).length]]) 0 rfl rfl rfl sz25 rfl rfl rfl rfl rfl) (q := 2) rfl rfl ?_
 refine tn_end (eS (lR ?_))
 refine E_call (v := .agg [iI n1, .own (bb114 + 2) 0 (s120).length, .own (bb114 + 4) 0 ((List.replicate n1.toNat (0 : Int))).length]) (.inr rfl) (res_cell (d := .agg [iI n1, .own (bb114 + 2) 0 (s120).length, .own (bb114 + 4) 0 ((List.replicate n1.toNat (0 : Int))).length]) 2 rfl sz25 rfl rfl rfl rfl res_nil) rfl ?_
 refine ol_new rfl rfl rfl (q_alloc ty25 (row := [iI 0, nC, nC]) rfl rfl) (fun k123 => ?_)
 refine ow [[iI n1, .own (bb114 + 2) 0 (s120).length, .own (bb114 + 4) 0 ((List.replicate n1.toNat (0 : Int))).length]] 0 sz25 ?_
 refine oE (eS (lS ?_))
 obtain ⟨s126, h125, h⟩ := bindS h
 rcases s126 with _ | ⟨y127, t128⟩
 dsimp only at h
 refine L_norm (L2 := ([[(k123, 3, [[iI n1, .own (bb114 + 2) 0 (s120).length, .own (bb114 + 4) 0 ((List.replicate n1.toNat (0 : Int))).length]])], [((bb114 + 4), 1, ((List.replicate n1.toNat (0 : Int))).map (rowC r2))], [((bb114 + 2), 1, (s120).map (rowC r85))], [(k4, 3, [[iI 0, nC, nC]])], [(k3, 2, [[iI n1, sF r38 s2]])]] : BL)) [0, 1, 2, 4, 5] (by decide) rfl ?_
 refine L_turn 7 rfl [[], [], [], [], [], [], [k123]] [(false, []), (false, []), (false, []), (false, []), (true, []), (false, []), (false, [])] [[2, 3], [2, 3], [0, 1], [0, 1], [], [], []] (by kernel_rfl) (by kernel_rfl) (by kernel_rfl) ?_ (fun bb129 hlt hnd => ?_)
 intro bb129 hlt hnd
 exact ⟨⟨djE, ⟨djE, ⟨djE, ⟨djE, ⟨djE, ⟨djE, ⟨djN, trivial⟩⟩⟩⟩⟩⟩⟩, (ltO_cons ltK_nil (ltO_cons ltK_nil (ltO_cons ltK_nil (ltO_cons ltK_nil (ltO_cons ltK_nil (ltO_cons ltK_nil (ltO_cons (ltK_cons (key_lt hlt 0 rfl) ltK_nil) ltO_nil)))))))⟩
 refine tq [] rfl (hm0 rfl) (q_fieldP rfl fa28_0 rfl) ?_
 refine tq [4] rfl (hm0 rfl) (ql (iO n1) 0 sz3) ?_
 refine tq [4] rfl (hm0 rfl) (ql (.agg [iI n1, sF r38 s2]) 0 sz28) ?_
 refine tq [] rfl (hm0 rfl) (qc (.one nC) [.agg [iI n1, sF r38 s2]] (spvec_Places_r (m + 0) h125) (vw_cons (vd_agg (vc_cons vc_v (vc_cons vc_s vc_nil))) vw_nil)) ?_
 obtain ⟨s133, h132, h⟩ := bindS h
 refine tn_new rfl rfl rfl [] (by decide) rfl (hm0 rfl) rfl rfl (hkc (ne_new (key_lt hlt 0 rfl)) (hkc (ne_new (key_lt hlt 1 rfl)) (hkc (ne_new (key_lt hlt 2 rfl)) (hkc (ne_new (key_lt hlt 3 rfl)) (hkc (ne_new (key_lt hlt 4 rfl)) hkn))))) (q_callO (args := [iO n1, .one nC]) (flags_Of_r (m + 1) h132) rfl rfl (vw_cons (vd_one vc_v) (vw_cons (vd_one vc_s) vw_nil)) rfl) ?_
 refine tq [] rfl (hm0 rfl) (q_fieldP rfl fa25_1 rfl) ?_
 refine tn_wr rfl rfl [1] (by decide) rfl (hm0 rfl) rfl (q_store (es' := [[iI n1, .own (bb129 + 4) 0 (s133).length, .own (bb114 + 4) 0 ((List.replicate n1.toNat (0 : Int))).length]]) 0 rfl rfl rfl sz22 rfl rfl rfl rfl rfl) (q := 1) rfl rfl ?_
 refine tn_end (eS (lS (lS (lO ?_))))
 refine pq (q_fieldP rfl fa28_1 rfl) ?_
 refine pq (ql (.one (sF r38 s2)) 5 sz26) ?_
 refine pq (q_lenS rfl ty26 rfl rfl rfl rfl) ?_
 refine pq (qm (iO 0)) ?_
 refine oE (eS (lB ?_))
 let S5 : (Int × List (Int)) → Nat → (Nat → D) → Nat → D := fun a kt g => ups g [(2, .one (.ptr k4 0 0)), (3, .one (.ptr k123 0 0)), (20, .one (sF r38 s2)), (21, .one (iI ((s2.l.length : Nat) : Int))), (22, .one (iI a.1))]
 let SL5 : (Int × List (Int)) → Nat → BL := fun a kt => ([[(k4, 3, [[iI 0, nC, nC]])], [(k123, 3, [[iI n1, .own (bb129 + 4) 0 (s133).length, .own kt 0 (a.2).length]])], [((bb129 + 4), 1, (s133).map (rowC r85))], [(kt, 1, (a.2).map (rowC r2))]] : BL)
 let G5 : (Int × Sl (Int) × Sl (Int)) → Ex → St → Prop := fun u => endQ E1 [.cell 2 25] (.fresh, [.agg (r24 u)])
 let Sx5 : (List (Int)) → Nat → (Nat → D) → Nat → D := fun a kt g => ups g [(2, .one (.ptr k4 0 0)), (3, .one (.ptr k123 0 0))]
 let SLx5 : (List (Int)) → Nat → BL := fun a kt => ([[(k4, 3, [[iI 0, nC, nC]])], [(k123, 3, [[iI n1, .own (bb129 + 4) 0 (s133).length, .own kt 0 (a).length]])], [((bb129 + 4), 1, (s133).map (rowC r85))], [(kt, 1, (a).map (rowC r2))]] : BL)
 let J5 : ((List (Int)) ⊕ (Int × Sl (Int) × Sl (Int))) → Ex → St → Prop := JX 35 0 Sx5 SLx5 G5
 refine L_loopS (devec_Of_b5 s2) S5 SL5 J5 JX_n (0, (List.replicate n1.toNat (0 : Int))) h (bb114 + 4) (ups_self ⟨rfl, rfl, rfl, rfl, rfl, trivial⟩) [4, 1, 0, 2] (by decide) rfl ?_ ?_
 rintro ⟨n155, l156⟩ k157 g out h
 change devec_Of_b5 s2 (n155, l156) = some out at h
 unfold devec_Of_b5 at h
 refine lS (lO ?_)
 by_cases c158 : n155 < ((s2.l.length : Nat) : Int)
 replace h := ifT c158 h
 refine pq (qb (p_lss_tZ c158)) ?_
 refine oE (eS (lS (cT rfl (lK (eS (lS (lB (lS (lO ?_)))))))))
 obtain ⟨⟨n161, n162⟩, h160, h⟩ := bindS h
 obtain ⟨h160a, h160b, h160⟩ := atS_some h160
 refine pq (q_ixS rfl rfl h160a h160 (el26.trans (congrArg some h160b.symm))) ?_
 refine pq (q_loadI (v := .agg [iI n161, iI n162]) rfl sz39 (map_get h160) rfl rfl) ?_
 refine ol_new rfl rfl rfl (q_alloc ty39 (row := [iI 0, iI 0]) rfl rfl) (fun k163 => ?_)
 refine ow [[iI n161, iI n162]] 0 sz39 ?_
 refine oR ?_
 refine pq (q_fieldP rfl fa25_2 rfl) ?_
 refine pq (ql (.one (.own k157 0 (l156).length)) 2 sz23) ?_
 refine pq (q_fieldP rfl fa39_0 rfl) ?_
 refine pq (ql (iO n161) 0 sz3) ?_
 refine pq (q_fieldP rfl fa39_1 rfl) ?_
 refine pq (ql (iO n162) 0 sz2) ?_
 obtain ⟨n166, h165, h⟩ := bindS h
 obtain ⟨h165a, h165⟩ := atL_some h165
 refine pq (q_ixO 4 rfl rfl h165a h165 rfl el23) ?_
 refine ol_wr rfl rfl (q_store (e' := rowC r2 n162) (es' := ((l156.set n161.toNat n162)).map (rowC r2)) 4 rfl rfl rfl sz2 rfl rfl (map_get h165) rfl map_set) rfl ?_
 refine ol_re 27 (v := .one (.own k157 0 ((l156.set n161.toNat n162)).length)) (Eq.trans (b := .one (.own k157 0 (l156).length)) rfl (congrArg D.one own_setC)) ?_
 refine ol_reS 2 (s' := [(k123, 3, [[iI n1, .own (bb129 + 4) 0 (s133).length, .own k157 0 ((l156.set n161.toNat n162)).length]])]) rfl (congrArg (fun z => ([(k123, 3, [[iI n1, .own (bb129 + 4) 0 (s133).length, z]])] : List B1)) own_setC) ?_
 refine oE (bN (eS (lO ?_)))
 refine pq (qb p_addY) ?_
 refine pq (qm (iO (IntKind.i64.wrap (n155 + 1)))) ?_
 refine oE ?_
 obtain rfl := sj h
 exact E_next k157 (ups_self ⟨rfl, rfl, rfl, rfl, rfl, trivial⟩) [1, 2, 3, 4] (by decide) rfl
 replace h := ifF c158 h
 refine pq (qb (p_lss_fZ c158)) ?_
 refine oE (eS (lS (cF rfl (L_exit ?_))))
 refine E_seqX ?_
 obtain rfl := sj h
 refine E_out ?_
 exact (E_exit k157 (ups_self ⟨rfl, rfl, trivial⟩) [0, 1, 2, 3] (by decide) rfl)
 rintro (l167 | u) h
 refine J_x (fun k168 g => ?_)
 replace h := elimL h
 refine bH (eS (lS (lO ?_)))
 refine pq (ql (.agg [iI n1, .own (bb129 + 4) 0 (s133).length, .own k168 0 (l167).length]) 1 sz25) ?_
 refine ow [[iI n1, .own (bb129 + 4) 0 (s133).length, .own k168 0 (l167).length]] 0 sz25 ?_
 refine oE (eS (lR ?_))
 obtain rfl := sj h
 exact E_endF (.inr rfl) (res_cell (d := .agg [iI n1, .own (bb129 + 4) 0 (s133).length, .own k168 0 (l167).length]) 0 rfl sz25 rfl rfl rfl rfl res_nil) (vw_cons (vd_agg (vc_cons vc_v (vc_cons (vc_own (r := r85) 2 rfl (fun x h m => rfl)) (vc_cons (vc_own (r := r2) 3 rfl (fun x h m => rfl)) vc_nil)))) vw_nil) oG rfl rfl
 obtain rfl := Option.some.inj (elimR h)
 exact J_up (fun s hs => hs)
 dsimp only at h
 refine L_norm (L2 := ([[(k123, 3, [[iI n1, .own (bb114 + 2) 0 (s120).length, .own (bb114 + 4) 0 ((List.replicate n1.toNat (0 : Int))).length]])], [((bb114 + 4), 1, ((List.replicate n1.toNat (0 : Int))).map (rowC r2))], [((bb114 + 2), 1, (s120).map (rowC r85))], [(k4, 3, [[iI 0, nC, nC]])], [(k3, 2, [[iI n1, sF r38 s2]])]] : BL)) [0, 1, 2, 4, 5] (by decide) rfl ?_
 refine L_turn 7 rfl [[], [], [], [], [], [], [k123]] [(false, []), (false, []), (false, []), (true, []), (true, []), (false, []), (false, [])] [[2, 3], [2, 3], [0, 1], [0, 1], [], [], []] (by kernel_rfl) (by kernel_rfl) (by kernel_rfl) ?_ (fun bb169 hlt hnd => ?_)
 intro bb169 hlt hnd
 exact ⟨⟨djE, ⟨djE, ⟨djE, ⟨djE, ⟨djE, ⟨djE, ⟨djN, trivial⟩⟩⟩⟩⟩⟩⟩, (ltO_cons ltK_nil (ltO_cons ltK_nil (ltO_cons ltK_nil (ltO_cons ltK_nil (ltO_cons ltK_nil (ltO_cons ltK_nil (ltO_cons (ltK_cons (key_lt hlt 0 rfl) ltK_nil) ltO_nil)))))))⟩
 refine tq [] rfl hmn (q_fieldP rfl fa28_0 rfl) ?_
 refine tq [4] rfl (hmc (nin_cons (ne_new (key_lt hlt 4 rfl)) nin_nil) hmn) (ql (iO n1) 0 sz3) ?_
 refine tq [4] rfl (hm0 rfl) (ql (.agg [iI n1, sF r38 s2]) 0 sz28) ?_
 refine tn_new rfl rfl rfl [] (by decide) rfl (hm0 rfl) rfl rfl (hkc (ne_new (key_lt hlt 0 rfl)) (hkc (ne_new (key_lt hlt 1 rfl)) (hkc (ne_new (key_lt hlt 2 rfl)) (hkc (ne_new (key_lt hlt 3 rfl)) (hkc (ne_new (key_lt hlt 4 rfl)) hkn))))) (q_callO (r := r3) (l := (y127 :: t128)) (args := [.agg [iI n1, sF r38 s2]]) (spvec_Places_r (m + 0) h125) rfl rfl (vw_cons (vd_agg (vc_cons vc_v (vc_cons vc_s vc_nil))) vw_nil) rfl) ?_
 obtain ⟨s173, h172, h⟩ := bindS h
 refine tn_new rfl rfl rfl [0] (by decide) rfl (hm0 rfl) rfl rfl (hkc (ne_add rfl) (hkc (ne_new (key_lt hlt 0 rfl)) (hkc (ne_new (key_lt hlt 1 rfl)) (hkc (ne_new (key_lt hlt 2 rfl)) (hkc (ne_new (key_lt hlt 3 rfl)) (hkc (ne_new (key_lt hlt 4 rfl)) hkn)))))) (q_callO (args := [iO n1, .one (.own (bb169 + 3) 0 ((y127 :: t128)).length)]) (flags_Of_r (m + 1) h172) rfl rfl (vw_cons (vd_one vc_v) (vw_cons (vd_one (vc_own (r := r3) 0 rfl (fun x h m => rfl))) vw_nil)) rfl) ?_
 refine tq [] rfl (hm0 rfl) (q_fieldP rfl fa25_1 rfl) ?_
 refine tn_wr rfl rfl [2] (by decide) rfl (hm0 rfl) rfl (q_store (es' := [[iI n1, .own (bb169 + 4) 0 (s173).length, .own (bb114 + 4) 0 ((List.replicate n1.toNat (0 : Int))).length]]) 0 rfl rfl rfl sz22 rfl rfl rfl rfl rfl) (q := 2) rfl rfl ?_
 refine tn_end (eS (lS (lS (lO ?_))))
 refine pq (q_fieldP rfl fa28_1 rfl) ?_
 refine pq (ql (.one (sF r38 s2)) 6 sz26) ?_
 refine pq (q_lenS rfl ty26 rfl rfl rfl rfl) ?_
 refine pq (qm (iO 0)) ?_
 refine oE (eS (lB ?_))
 let S6 : (Int × List (Int)) → Nat → (Nat → D) → Nat → D := fun a kt g => ups g [(2, .one (.ptr k4 0 0)), (3, .one (.ptr k123 0 0)), (20, .one (sF r38 s2)), (21, .one (iI ((s2.l.length : Nat) : Int))), (22, .one (iI a.1))]
 let SL6 : (Int × List (Int)) → Nat → BL := fun a kt => ([[(k4, 3, [[iI 0, nC, nC]])], [(k123, 3, [[iI n1, .own (bb169 + 4) 0 (s173).length, .own kt 0 (a.2).length]])], [((bb169 + 4), 1, (s173).map (rowC r85))], [(kt, 1, (a.2).map (rowC r2))]] : BL)
 let G6 : (Int × Sl (Int) × Sl (Int)) → Ex → St → Prop := fun u => endQ E1 [.cell 2 25] (.fresh, [.agg (r24 u)])
 let Sx6 : (List (Int)) → Nat → (Nat → D) → Nat → D := fun a kt g => ups g [(2, .one (.ptr k4 0 0)), (3, .one (.ptr k123 0 0))]
 let SLx6 : (List (Int)) → Nat → BL := fun a kt => ([[(k4, 3, [[iI 0, nC, nC]])], [(k123, 3, [[iI n1, .own (bb169 + 4) 0 (s173).length, .own kt 0 (a).length]])], [((bb169 + 4), 1, (s173).map (rowC r85))], [(kt, 1, (a).map (rowC r2))]] : BL)
 let J6 : ((List (Int)) ⊕ (Int × Sl (Int) × Sl (Int))) → Ex → St → Prop := JX 35 0 Sx6 SLx6 G6
 refine L_loopS (devec_Of_b6 s2) S6 SL6 J6 JX_n (0, (List.replicate n1.toNat (0 : Int))) h (bb114 + 4) (ups_self ⟨rfl, rfl, rfl, rfl, rfl, trivial⟩) [5, 2, 0, 3] (by decide) rfl ?_ ?_
 rintro ⟨n195, l196⟩ k197 g out h
 change devec_Of_b6 s2 (n195, l196) = some out at h
 unfold devec_Of_b6 at h
 refine lS (lO ?_)
 by_cases c198 : n195 < ((s2.l.length : Nat) : Int)
 replace h := ifT c198 h
 refine pq (qb (p_lss_tZ c198)) ?_
 refine oE (eS (lS (cT rfl (lK (eS (lS (lB (lS (lO ?_)))))))))
 obtain ⟨⟨n201, n202⟩, h200, h⟩ := bindS h
 obtain ⟨h200a, h200b, h200⟩ := atS_some h200
 refine pq (q_ixS rfl rfl h200a h200 (el26.trans (congrArg some h200b.symm))) ?_
 refine pq (q_loadI (v := .agg [iI n201, iI n202]) rfl sz39 (map_get h200) rfl rfl) ?_
 refine ol_new rfl rfl rfl (q_alloc ty39 (row := [iI 0, iI 0]) rfl rfl) (fun k203 => ?_)
 refine ow [[iI n201, iI n202]] 0 sz39 ?_
 refine oR ?_
 refine pq (q_fieldP rfl fa25_2 rfl) ?_
 refine pq (ql (.one (.own k197 0 (l196).length)) 2 sz23) ?_
 refine pq (q_fieldP rfl fa39_0 rfl) ?_
 refine pq (ql (iO n201) 0 sz3) ?_
 refine pq (q_fieldP rfl fa39_1 rfl) ?_
 refine pq (ql (iO n202) 0 sz2) ?_
 obtain ⟨n206, h205, h⟩ := bindS h
 obtain ⟨h205a, h205⟩ := atL_some h205
 refine pq (q_ixO 4 rfl rfl h205a h205 rfl el23) ?_
 refine ol_wr rfl rfl (q_store (e' := rowC r2 n202) (es' := ((l196.set n201.toNat n202)).map (rowC r2)) 4 rfl rfl rfl sz2 rfl rfl (map_get h205) rfl map_set) rfl ?_
 refine ol_re 27 (v := .one (.own k197 0 ((l196.set n201.toNat n202)).length)) (Eq.trans (b := .one (.own k197 0 (l196).length)) rfl (congrArg D.one own_setC)) ?_
 refine ol_reS 2 (s' := [(k123, 3, [[iI n1, .own (bb169 + 4) 0 (s173).length, .own k197 0 ((l196.set n201.toNat n202)).length]])]) rfl (congrArg (fun z => ([(k123, 3, [[iI n1, .own (bb169 + 4) 0 (s173).length, z]])] : List B1)) own_setC) ?_
 refine oE (bN (eS (lO ?_)))
 refine pq (qb p_addY) ?_
 refine pq (qm (iO (IntKind.i64.wrap (n195 + 1)))) ?_
 refine oE ?_
 obtain rfl := sj h
 exact E_next k197 (ups_self ⟨rfl, rfl, rfl, rfl, rfl, trivial⟩) [1, 2, 3, 4] (by decide) rfl
 replace h := ifF c198 h
 refine pq (qb (p_lss_fZ c198)) ?_
 refine oE (eS (lS (cF rfl (L_exit ?_))))
 refine E_seqX ?_
 obtain rfl := sj h
 refine E_out ?_
 exact (E_exit k197 (ups_self ⟨rfl, rfl, trivial⟩) [0, 1, 2, 3] (by decide) rfl)
 rintro (l207 | u) h
 refine J_x (fun k208 g => ?_)
 replace h := elimL h
 refine bH (eS (lS (lO ?_)))
 refine pq (ql (.agg [iI n1, .own (bb169 + 4) 0 (s173).length, .own k208 0 (l207).length]) 1 sz25) ?_
 refine ow [[iI n1, .own (bb169 + 4) 0 (s173).length, .own k208 0 (l207).length]] 0 sz25 ?_
 refine oE (eS (lR ?_))
 obtain rfl := sj h
 exact E_endF (.inr rfl) (res_cell (d := .agg [iI n1, .own (bb169 + 4) 0 (s173).length, .own k208 0 (l207).length]) 0 rfl sz25 rfl rfl rfl rfl res_nil) (vw_cons (vd_agg (vc_cons vc_v (vc_cons (vc_own (r := r85) 2 rfl (fun x h m => rfl)) (vc_cons (vc_own (r := r2) 3 rfl (fun x h m => rfl)) vc_nil)))) vw_nil) oG rfl rfl
 obtain rfl := Option.some.inj (elimR h)
 exact J_up (fun s hs => hs)

noncomputable def ref02_Is (n1 : Int) : Option (Bool) :=
  (if n1 ≥ 1 then (if n1 ≤ 5 then some true else some false) else some false)
theorem ref02_Is_r (m : Nat) {n1 : Int} {out : Bool} (h : ref02_Is n1 = some out) : RunsP E1 (m + 1) 95 [.one (iT .i64 n1)] (.fresh, [.one (bT out)]) := by
 refine fn_F rfl (by rw [E1_fn]; exact show fiOf Tryd.prog 95 = _ by unfold fiOf; rw [Tryd.func95]; unfold Tryd.f95; rfl) rfl ?_
 dsimp only
 unfold ref02_Is at h
 refine lS (lO ?_)
 refine pq (qa bf) ?_
 refine oN ?_
 refine pq (qm (iO n1)) ?_
 by_cases c2 : n1 ≥ 1
 replace h := ifT c2 h
 refine pq (qb (p_geq_tZ c2)) ?_
 refine pq (qm bt) ?_
 refine pq (qm (iO n1)) ?_
 by_cases c3 : n1 ≤ 5
 replace h := ifT c3 h
 refine pq (qb (p_leq_tZ c3)) ?_
 refine pq (qpt bt) ?_
 refine pq (qa bt) ?_
 refine oE (eS (lR ?_))
 obtain rfl := sj h
 exact eF1
 replace h := ifF c3 h
 refine pq (qb (p_leq_fZ c3)) ?_
 refine pq (qpt bf) ?_
 refine pq (qa bf) ?_
 refine oE (eS (lR ?_))
 obtain rfl := sj h
 exact eF1
 replace h := ifF c2 h
 refine pq (qb (p_geq_fZ c2)) ?_
 refine pq (qm bf) ?_
 iterate 2 refine os ?_
 refine pq (qpf bf) ?_
 refine pq (qa bf) ?_
 refine oE (eS (lR ?_))
 obtain rfl := sj h
 exact eF1

noncomputable def ref05_below (a0 : Int × Int × Int) (a1 : Int × Int × Int) : Option (Bool) :=
  match a0, a1 with
  | (n1, n2, n3), (n4, n5, n6) => (if n1 < n4 then some true else (if n1 = n4 then (if n2 < n5 then some true else some false) else some false))
theorem ref05_below_r (m : Nat) {a0 : Int × Int × Int} {a1 : Int × Int × Int} {out : Bool} (h : ref05_below a0 a1 = some out) : RunsP E1 (m + 1) 104 [.agg (r108 a0), .agg (r108 a1)] (.fresh, [.one (bT out)]) := by
 obtain ⟨n1, n2, n3⟩ := a0
 obtain ⟨n4, n5, n6⟩ := a1
 refine fn_F rfl (by rw [E1_fn]; exact show fiOf Tryd.prog 104 = _ by unfold fiOf; rw [Tryd.func104]; unfold Tryd.f104; rfl) rfl ?_
 dsimp only
 unfold ref05_below at h
 refine lS (lO ?_)
 refine ol_new rfl rfl rfl (q_box ty109 rfl (cs := [iI n1, iI n2, iI n3]) rfl rfl) (fun k7 => ?_)
 refine ol_new rfl rfl rfl (q_box ty109 rfl (cs := [iI n4, iI n5, iI n6]) rfl rfl) (fun k8 => ?_)
 refine pq (qa bf) ?_
 refine oN ?_
 refine pq (q_fieldP rfl fa109_0 rfl) ?_
 refine pq (ql (iO n1) 1 sz3) ?_
 refine pq (q_fieldP rfl fa109_0 rfl) ?_
 refine pq (ql (iO n4) 0 sz3) ?_
 by_cases c9 : n1 < n4
 replace h := ifT c9 h
 refine pq (qb (p_lss_tZ c9)) ?_
 refine pq (qm bt) ?_
 iterate 12 refine os ?_
 refine pq (qpt bt) ?_
 refine pq (qa bt) ?_
 refine oE (eS (lR ?_))
 obtain rfl := sj h
 exact eF1
 replace h := ifF c9 h
 refine pq (qb (p_lss_fZ c9)) ?_
 refine pq (qm bf) ?_
 refine pq (q_fieldP rfl fa109_0 rfl) ?_
 refine pq (ql (iO n1) 1 sz3) ?_
 refine pq (q_fieldP rfl fa109_0 rfl) ?_
 refine pq (ql (iO n4) 0 sz3) ?_
 by_cases c10 : n1 = n4
 replace h := ifT c10 h
 refine pq (qb (p_eql_tZ c10)) ?_
 refine pq (qm bt) ?_
 refine pq (q_fieldP rfl fa109_1 rfl) ?_
 refine pq (ql (iO n2) 1 sz3) ?_
 refine pq (q_fieldP rfl fa109_1 rfl) ?_
 refine pq (ql (iO n5) 0 sz3) ?_
 by_cases c11 : n2 < n5
 replace h := ifT c11 h
 refine pq (qb (p_lss_tZ c11)) ?_
 refine pq (qpt bt) ?_
 refine pq (qpf bt) ?_
 refine pq (qa bt) ?_
 refine oE (eS (lR ?_))
 obtain rfl := sj h
 exact eF1
 replace h := ifF c11 h
 refine pq (qb (p_lss_fZ c11)) ?_
 refine pq (qpt bf) ?_
 refine pq (qpf bf) ?_
 refine pq (qa bf) ?_
 refine oE (eS (lR ?_))
 obtain rfl := sj h
 exact eF1
 replace h := ifF c10 h
 refine pq (qb (p_eql_fZ c10)) ?_
 refine pq (qm bf) ?_
 iterate 5 refine os ?_
 refine pq (qpf bf) ?_
 refine pq (qpf bf) ?_
 refine pq (qa bf) ?_
 refine oE (eS (lR ?_))
 obtain rfl := sj h
 exact eF1

noncomputable def ref01_Of (n1 : Int) : Option ((Int × Int)) :=
  (if n1 < 0 then some ((-1), (IntKind.u64.wrap n1)) else some (0, (IntKind.u64.wrap n1)))
theorem ref01_Of_r (m : Nat) {n1 : Int} {out : (Int × Int)} (h : ref01_Of n1 = some out) : RunsP E1 (m + 1) 105 [.one (iT .i64 n1)] (.fresh, [.agg (r117 out)]) := by
 refine fn_F rfl (by rw [E1_fn]; exact show fiOf Tryd.prog 105 = _ by unfold fiOf; rw [Tryd.func105]; unfold Tryd.f105; rfl) rfl ?_
 dsimp only
 unfold ref01_Of at h
 refine lS (lO ?_)
 refine ol_new rfl rfl rfl (q_alloc ty118 (row := [iI 0, uI 0]) rfl rfl) (fun k2 => ?_)
 refine oE (eS (lS (lS (lO ?_))))
 refine pq (qm (iO n1)) ?_
 by_cases c3 : n1 < 0
 replace h := ifT c3 h
 refine pq (qb (p_lss_tZ c3)) ?_
 refine oE (eS (cT rfl (lS (lO ?_))))
 refine pq (qm (iO n1)) ?_
 refine pq (q_conv rfl (cv2_85_i64 _) rfl) ?_
 refine pq (q_build (cs := [iI (-1), uI (IntKind.u64.wrap n1)]) ty118 rfl pl118 rfl) ?_
 refine ow [[iI (-1), uI (IntKind.u64.wrap n1)]] 0 sz118 ?_
 refine oE (eS (lR (eR ?_)))
 obtain rfl := sj h
 exact E_endF (.inr rfl) (res_cell (d := .agg [iI (-1), uI (IntKind.u64.wrap n1)]) 0 rfl sz118 rfl rfl rfl rfl res_nil) (vw_cons (vd_agg (vc_cons vc_v (vc_cons vc_v vc_nil))) vw_nil) oG rfl rfl
 replace h := ifF c3 h
 refine pq (qb (p_lss_fZ c3)) ?_
 refine oE (eS (cF rfl (lK (eS (lS (lO ?_))))))
 refine pq (qm (iO n1)) ?_
 refine pq (q_conv rfl (cv2_85_i64 _) rfl) ?_
 refine pq (q_build (cs := [iI 0, uI (IntKind.u64.wrap n1)]) ty118 rfl pl118 rfl) ?_
 refine ow [[iI 0, uI (IntKind.u64.wrap n1)]] 0 sz118 ?_
 refine oE (eS (lR ?_))
 obtain rfl := sj h
 exact E_endF (.inr rfl) (res_cell (d := .agg [iI 0, uI (IntKind.u64.wrap n1)]) 0 rfl sz118 rfl rfl rfl rfl res_nil) (vw_cons (vd_agg (vc_cons vc_v (vc_cons vc_v vc_nil))) vw_nil) oG rfl rfl

noncomputable def ref01_Compare (a0 : Int × Int) (a1 : Int × Int) : Option (Int) :=
  match a0, a1 with
  | (n1, n2), (n3, n4) => (if n1 < n3 then some (-1) else (if n1 = n3 then (if n2 < n4 then some (-1) else (if n1 = n3 ∧ n2 = n4 then some 0 else some 1)) else (if n1 = n3 ∧ n2 = n4 then some 0 else some 1)))
theorem ref01_Compare_r (m : Nat) {a0 : Int × Int} {a1 : Int × Int} {out : Int} (h : ref01_Compare a0 a1 = some out) : RunsP E1 (m + 1) 109 [.agg (r117 a0), .agg (r117 a1)] (.fresh, [.one (iT .i64 out)]) := by
 obtain ⟨n1, n2⟩ := a0
 obtain ⟨n3, n4⟩ := a1
 refine fn_F rfl (by rw [E1_fn]; exact show fiOf Tryd.prog 109 = _ by unfold fiOf; rw [Tryd.func109]; unfold Tryd.f109; rfl) rfl ?_
 dsimp only
 unfold ref01_Compare at h
 refine lS (lO ?_)
 refine ol_new rfl rfl rfl (q_box ty118 rfl (cs := [iI n1, uI n2]) rfl rfl) (fun k5 => ?_)
 refine ol_new rfl rfl rfl (q_box ty118 rfl (cs := [iI n3, uI n4]) rfl rfl) (fun k6 => ?_)
 refine pq (qa (iO 0)) ?_
 refine oE (eS (lS (lS (lO ?_))))
 refine pq (q_fieldP rfl fa118_0 rfl) ?_
 refine pq (ql (iO n1) 1 sz2) ?_
 refine pq (q_fieldP rfl fa118_0 rfl) ?_
 refine pq (ql (iO n3) 0 sz2) ?_
 by_cases c7 : n1 < n3
 replace h := ifT c7 h
 refine pq (qb (p_lss_tZ c7)) ?_
 refine pq (qm bt) ?_
 iterate 12 refine os ?_
 refine pq (qpt bt) ?_
 refine oE (eS (cT rfl (lS (lO ?_))))
 refine pq (qa (iO (-1))) ?_
 refine oE (eS (lR (eR ?_)))
 obtain rfl := sj h
 exact eF1
 replace h := ifF c7 h
 refine pq (qb (p_lss_fZ c7)) ?_
 refine pq (qm bf) ?_
 refine pq (q_fieldP rfl fa118_0 rfl) ?_
 refine pq (ql (iO n1) 1 sz2) ?_
 refine pq (q_fieldP rfl fa118_0 rfl) ?_
 refine pq (ql (iO n3) 0 sz2) ?_
 by_cases c8 : n1 = n3
 replace h := ifT c8 h
 refine pq (qb (p_eql_tZ c8)) ?_
 refine pq (qm bt) ?_
 refine pq (q_fieldP rfl fa118_1 rfl) ?_
 refine pq (ql (.one (uI n2)) 1 sz85) ?_
 refine pq (q_fieldP rfl fa118_1 rfl) ?_
 refine pq (ql (.one (uI n4)) 0 sz85) ?_
 by_cases c9 : n2 < n4
 replace h := ifT c9 h
 refine pq (qb (p_lss_tZ c9)) ?_
 refine pq (qpt bt) ?_
 refine pq (qpf bt) ?_
 refine oE (eS (cT rfl (lS (lO ?_))))
 refine pq (qa (iO (-1))) ?_
 refine oE (eS (lR (eR ?_)))
 obtain rfl := sj h
 exact eF1
 replace h := ifF c9 h
 refine pq (qb (p_lss_fZ c9)) ?_
 refine pq (qpt bf) ?_
 refine pq (qpf bf) ?_
 refine oE (eS (cF rfl (lK (eS (lS (lS (lO ?_)))))))
 refine pq (ql (.agg [iI n1, uI n2]) 1 sz118) ?_
 refine pq (ql (.agg [iI n3, uI n4]) 0 sz118) ?_
 by_cases c10 : n1 = n3 ∧ n2 = n4
 replace h := ifT c10 h
 refine pq (q_binA rfl rfl (by rfl) (by rfl) (eqeqlA118_t _ _ c10) rfl) ?_
 refine oE (eS (cT rfl (lS (lO ?_))))
 refine pq (qa (iO 0)) ?_
 refine oE (eS (lR (eR ?_)))
 obtain rfl := sj h
 exact eF1
 replace h := ifF c10 h
 refine pq (q_binA rfl rfl (by rfl) (by rfl) (eqeqlA118_f _ _ c10) rfl) ?_
 refine oE (eS (cF rfl (lK (eS (lS (lO ?_))))))
 refine pq (qa (iO 1)) ?_
 refine oE (eS (lR ?_))
 obtain rfl := sj h
 exact eF1
 replace h := ifF c8 h
 refine pq (qb (p_eql_fZ c8)) ?_
 refine pq (qm bf) ?_
 iterate 5 refine os ?_
 refine pq (qpf bf) ?_
 refine pq (qpf bf) ?_
 refine oE (eS (cF rfl (lK (eS (lS (lS (lO ?_)))))))
 refine pq (ql (.agg [iI n1, uI n2]) 1 sz118) ?_
 refine pq (ql (.agg [iI n3, uI n4]) 0 sz118) ?_
 by_cases c11 : n1 = n3 ∧ n2 = n4
 replace h := ifT c11 h
 refine pq (q_binA rfl rfl (by rfl) (by rfl) (eqeqlA118_t _ _ c11) rfl) ?_
 refine oE (eS (cT rfl (lS (lO ?_))))
 refine pq (qa (iO 0)) ?_
 refine oE (eS (lR (eR ?_)))
 obtain rfl := sj h
 exact eF1
 replace h := ifF c11 h
 refine pq (q_binA rfl rfl (by rfl) (by rfl) (eqeqlA118_f _ _ c11) rfl) ?_
 refine oE (eS (cF rfl (lK (eS (lS (lO ?_))))))
 refine pq (qa (iO 1)) ?_
 refine oE (eS (lR ?_))
 obtain rfl := sj h
 exact eF1

noncomputable def ref02_truth (b1 : Bool) : Option ((Int × Int)) :=
  (if b1 = true then some (0, 1) else some (0, 0))
theorem ref02_truth_r (m : Nat) {b1 : Bool} {out : (Int × Int)} (h : ref02_truth b1 = some out) : RunsP E1 (m + 1) 110 [.one (bT b1)] (.fresh, [.agg (r117 out)]) := by
 refine fn_F rfl (by rw [E1_fn]; exact show fiOf Tryd.prog 110 = _ by unfold fiOf; rw [Tryd.func110]; unfold Tryd.f110; rfl) rfl ?_
 dsimp only
 unfold ref02_truth at h
 refine lS (lO ?_)
 refine ol_new rfl rfl rfl (q_alloc ty118 (row := [iI 0, uI 0]) rfl rfl) (fun k2 => ?_)
 refine oE (eS (lS (lS (lO ?_))))
 refine pq (qm (bO b1)) ?_
 refine oE (eS ?_)
 rcases b1 with _ | _
 replace h := wF h
 refine cF rfl (lK (eS (lS (lO ?_))))
 refine pq (q_build (cs := [iI 0, uI 0]) ty118 rfl pl118 rfl) ?_
 refine ow [[iI 0, uI 0]] 0 sz118 ?_
 refine oE (eS (lR ?_))
 obtain rfl := sj h
 exact E_endF (.inr rfl) (res_cell (d := .agg [iI 0, uI 0]) 0 rfl sz118 rfl rfl rfl rfl res_nil) (vw_cons (vd_agg (vc_cons vc_v (vc_cons vc_v vc_nil))) vw_nil) oG rfl rfl
 replace h := wT h
 refine cT rfl (lS (lO ?_))
 refine pq (q_build (cs := [iI 0, uI 1]) ty118 rfl pl118 rfl) ?_
 refine ow [[iI 0, uI 1]] 0 sz118 ?_
 refine oE (eS (lR (eR ?_)))
 obtain rfl := sj h
 exact E_endF (.inr rfl) (res_cell (d := .agg [iI 0, uI 1]) 0 rfl sz118 rfl rfl rfl rfl res_nil) (vw_cons (vd_agg (vc_cons vc_v (vc_cons vc_v vc_nil))) vw_nil) oG rfl rfl

noncomputable def ref01_Add (a0 : Int × Int) (a1 : Int × Int) : Option ((Int × Int)) :=
  match a0, a1 with
  | (n1, n2), (n3, n4) => (if (IntKind.u64.wrap (n2 + n4)) < n2 then some ((IntKind.i64.wrap ((IntKind.i64.wrap (n1 + n3)) + 1)), (IntKind.u64.wrap (n2 + n4))) else some ((IntKind.i64.wrap (n1 + n3)), (IntKind.u64.wrap (n2 + n4))))
theorem ref01_Add_r (m : Nat) {a0 : Int × Int} {a1 : Int × Int} {out : (Int × Int)} (h : ref01_Add a0 a1 = some out) : RunsP E1 (m + 1) 111 [.agg (r117 a0), .agg (r117 a1)] (.fresh, [.agg (r117 out)]) := by
 obtain ⟨n1, n2⟩ := a0
 obtain ⟨n3, n4⟩ := a1
 refine fn_F rfl (by rw [E1_fn]; exact show fiOf Tryd.prog 111 = _ by unfold fiOf; rw [Tryd.func111]; unfold Tryd.f111; rfl) rfl ?_
 dsimp only
 unfold ref01_Add at h
 refine lS (lO ?_)
 refine ol_new rfl rfl rfl (q_box ty118 rfl (cs := [iI n1, uI n2]) rfl rfl) (fun k5 => ?_)
 refine ol_new rfl rfl rfl (q_box ty118 rfl (cs := [iI n3, uI n4]) rfl rfl) (fun k6 => ?_)
 refine ol_new rfl rfl rfl (q_alloc ty118 (row := [iI 0, uI 0]) rfl rfl) (fun k7 => ?_)
 refine oN ?_
 refine pq (q_fieldP rfl fa118_1 rfl) ?_
 refine pq (ql (.one (uI n2)) 2 sz85) ?_
 refine pq (q_fieldP rfl fa118_1 rfl) ?_
 refine pq (ql (.one (uI n4)) 1 sz85) ?_
 refine pq (qb p_addY) ?_
 refine pq (qa (.one (uI (IntKind.u64.wrap (n2 + n4))))) ?_
 refine oN ?_
 refine pq (q_fieldP rfl fa118_0 rfl) ?_
 refine pq (ql (iO n1) 2 sz2) ?_
 refine pq (q_fieldP rfl fa118_0 rfl) ?_
 refine pq (ql (iO n3) 1 sz2) ?_
 refine pq (qb p_addY) ?_
 refine pq (qa (iO (IntKind.i64.wrap (n1 + n3)))) ?_
 refine oE (eS (lS (lS (lO ?_))))
 refine pq (qm (.one (uI (IntKind.u64.wrap (n2 + n4))))) ?_
 refine pq (q_fieldP rfl fa118_1 rfl) ?_
 refine pq (ql (.one (uI n2)) 2 sz85) ?_
 by_cases c8 : (IntKind.u64.wrap (n2 + n4)) < n2
 replace h := ifT c8 h
 refine pq (qb (p_lss_tZ c8)) ?_
 refine oE (eS (cT rfl (lO ?_)))
 refine pq (qm (iO (IntKind.i64.wrap (n1 + n3)))) ?_
 refine pq (qb p_addY) ?_
 refine pq (qa (.one (iI (IntKind.i64.wrap ((IntKind.i64.wrap (n1 + n3)) + 1))))) ?_
 refine oN ?_
 refine pq (qm (.one (iI (IntKind.i64.wrap ((IntKind.i64.wrap (n1 + n3)) + 1))))) ?_
 refine pq (qm (.one (uI (IntKind.u64.wrap (n2 + n4))))) ?_
 refine pq (q_build (cs := [iI (IntKind.i64.wrap ((IntKind.i64.wrap (n1 + n3)) + 1)), uI (IntKind.u64.wrap (n2 + n4))]) ty118 rfl pl118 rfl) ?_
 refine ow [[iI (IntKind.i64.wrap ((IntKind.i64.wrap (n1 + n3)) + 1)), uI (IntKind.u64.wrap (n2 + n4))]] 0 sz118 ?_
 refine oE (eS (lR ?_))
 obtain rfl := sj h
 exact E_endF (.inr rfl) (res_cell (d := .agg [iI (IntKind.i64.wrap ((IntKind.i64.wrap (n1 + n3)) + 1)), uI (IntKind.u64.wrap (n2 + n4))]) 0 rfl sz118 rfl rfl rfl rfl res_nil) (vw_cons (vd_agg (vc_cons vc_v (vc_cons vc_v vc_nil))) vw_nil) oG rfl rfl
 replace h := ifF c8 h
 refine pq (qb (p_lss_fZ c8)) ?_
 refine oE (eS (cF rfl (lK (eS (lS (lO ?_))))))
 refine pq (qm (iO (IntKind.i64.wrap (n1 + n3)))) ?_
 refine pq (qm (.one (uI (IntKind.u64.wrap (n2 + n4))))) ?_
 refine pq (q_build (cs := [iI (IntKind.i64.wrap (n1 + n3)), uI (IntKind.u64.wrap (n2 + n4))]) ty118 rfl pl118 rfl) ?_
 refine ow [[iI (IntKind.i64.wrap (n1 + n3)), uI (IntKind.u64.wrap (n2 + n4))]] 0 sz118 ?_
 refine oE (eS (lR ?_))
 obtain rfl := sj h
 exact E_endF (.inr rfl) (res_cell (d := .agg [iI (IntKind.i64.wrap (n1 + n3)), uI (IntKind.u64.wrap (n2 + n4))]) 0 rfl sz118 rfl rfl rfl rfl res_nil) (vw_cons (vd_agg (vc_cons vc_v (vc_cons vc_v vc_nil))) vw_nil) oG rfl rfl

noncomputable def ref02_Add (n1 : Int) (a1 : Int × Int) (a2 : Int × Int) : Option ((Int × Int)) :=
  match a1, a2 with
  | (n2, n3), (n4, n5) => (if n1 = 1 then ((ref01_Compare (n4, n5) (n2, n3)).bind fun n11 => (if n11 < 0 then some (n4, n5) else some (n2, n3))) else (if n1 = 3 then ((ref01_Compare (n4, n5) (n2, n3)).bind fun n15 => (if n15 < 0 then some (n4, n5) else some (n2, n3))) else (if n1 = 4 then ((ref01_Compare (n4, n5) (n2, n3)).bind fun n19 => (if n19 < 0 then some (n4, n5) else some (n2, n3))) else (if n1 = 2 then (if n2 = 0 ∧ n3 = 0 then (if n4 = 0 ∧ n5 = 0 then ((ref02_truth false).bind fun (n25, n26) => some (n25, n26)) else ((ref02_truth true).bind fun (n28, n29) => some (n28, n29))) else ((ref02_truth true).bind fun (n31, n32) => some (n31, n32))) else (if n1 = 5 then ((ref01_Add (n2, n3) (n4, n5)).bind fun (n35, n36) => some (n35, n36)) else some (0, 0))))))
theorem ref02_Add_r (m : Nat) {n1 : Int} {a1 : Int × Int} {a2 : Int × Int} {out : (Int × Int)} (h : ref02_Add n1 a1 a2 = some out) : RunsP E1 (m + 2) 106 [.one (iT .i64 n1), .agg (r117 a1), .agg (r117 a2)] (.fresh, [.agg (r117 out)]) := by
 obtain ⟨n2, n3⟩ := a1
 obtain ⟨n4, n5⟩ := a2
 refine fn_F rfl (by rw [E1_fn]; exact show fiOf Tryd.prog 106 = _ by unfold fiOf; rw [Tryd.func106]; unfold Tryd.f106; rfl) rfl ?_
 dsimp only
 unfold ref02_Add at h
 refine lS (lO ?_)
 refine ol_new rfl rfl rfl (q_box ty118 rfl (cs := [iI n2, uI n3]) rfl rfl) (fun k6 => ?_)
 refine ol_new rfl rfl rfl (q_box ty118 rfl (cs := [iI n4, uI n5]) rfl rfl) (fun k7 => ?_)
 refine ol_new rfl rfl rfl (q_alloc ty118 (row := [iI 0, uI 0]) rfl rfl) (fun k8 => ?_)
 refine oN ?_
 refine pq (qm (iO n1)) ?_
 refine oE (eS (lB (lS (lS (lO ?_)))))
 by_cases c9 : n1 = 1
 replace h := ifT c9 h
 refine pq (qb (p_eql_tZ c9)) ?_
 refine pq (qa bt) ?_
 refine oE (eS (cT rfl (lK (eS (cT rfl (lS (lS (lO ?_))))))))
 refine pq (ql (.agg [iI n4, uI n5]) 1 sz118) ?_
 refine pq (ql (.agg [iI n2, uI n3]) 2 sz118) ?_
 obtain ⟨n11, h10, h⟩ := bindS h
 refine pq (qc (iO n11) [.agg [iI n4, uI n5], .agg [iI n2, uI n3]] (ref01_Compare_r (m + 0) h10) (vw_cons (vd_agg (vc_cons vc_v (vc_cons vc_v vc_nil))) (vw_cons (vd_agg (vc_cons vc_v (vc_cons vc_v vc_nil))) vw_nil))) ?_
 by_cases c12 : n11 < 0
 replace h := ifT c12 h
 refine pq (qb (p_lss_tZ c12)) ?_
 refine oE (eS (cT rfl (lS (lO ?_))))
 refine pq (ql (.agg [iI n4, uI n5]) 1 sz118) ?_
 refine ow [[iI n4, uI n5]] 0 sz118 ?_
 refine oE (eS (lR (eR (bR ?_))))
 obtain rfl := sj h
 exact E_endF (.inr rfl) (res_cell (d := .agg [iI n4, uI n5]) 0 rfl sz118 rfl rfl rfl rfl res_nil) (vw_cons (vd_agg (vc_cons vc_v (vc_cons vc_v vc_nil))) vw_nil) oG rfl rfl
 replace h := ifF c12 h
 refine pq (qb (p_lss_fZ c12)) ?_
 refine oE (eS (cF rfl (lK (eS (lS (lO ?_))))))
 refine pq (ql (.agg [iI n2, uI n3]) 2 sz118) ?_
 refine ow [[iI n2, uI n3]] 0 sz118 ?_
 refine oE (eS (lR (bR ?_)))
 obtain rfl := sj h
 exact E_endF (.inr rfl) (res_cell (d := .agg [iI n2, uI n3]) 0 rfl sz118 rfl rfl rfl rfl res_nil) (vw_cons (vd_agg (vc_cons vc_v (vc_cons vc_v vc_nil))) vw_nil) oG rfl rfl
 replace h := ifF c9 h
 refine pq (qb (p_eql_fZ c9)) ?_
 refine pq (qa bf) ?_
 refine oE (eS (cF rfl (lS (lO ?_))))
 by_cases c13 : n1 = 3
 replace h := ifT c13 h
 refine pq (qb (p_eql_tZ c13)) ?_
 refine pq (qa bt) ?_
 refine oE (eS (cT rfl (lK (eS (cT rfl (lS (lS (lO ?_))))))))
 refine pq (ql (.agg [iI n4, uI n5]) 1 sz118) ?_
 refine pq (ql (.agg [iI n2, uI n3]) 2 sz118) ?_
 obtain ⟨n15, h14, h⟩ := bindS h
 refine pq (qc (iO n15) [.agg [iI n4, uI n5], .agg [iI n2, uI n3]] (ref01_Compare_r (m + 0) h14) (vw_cons (vd_agg (vc_cons vc_v (vc_cons vc_v vc_nil))) (vw_cons (vd_agg (vc_cons vc_v (vc_cons vc_v vc_nil))) vw_nil))) ?_
 by_cases c16 : n15 < 0
 replace h := ifT c16 h
 refine pq (qb (p_lss_tZ c16)) ?_
 refine oE (eS (cT rfl (lS (lO ?_))))
 refine pq (ql (.agg [iI n4, uI n5]) 1 sz118) ?_
 refine ow [[iI n4, uI n5]] 0 sz118 ?_
 refine oE (eS (lR (eR (bR ?_))))
 obtain rfl := sj h
 exact E_endF (.inr rfl) (res_cell (d := .agg [iI n4, uI n5]) 0 rfl sz118 rfl rfl rfl rfl res_nil) (vw_cons (vd_agg (vc_cons vc_v (vc_cons vc_v vc_nil))) vw_nil) oG rfl rfl
 replace h := ifF c16 h
 refine pq (qb (p_lss_fZ c16)) ?_
 refine oE (eS (cF rfl (lK (eS (lS (lO ?_))))))
 refine pq (ql (.agg [iI n2, uI n3]) 2 sz118) ?_
 refine ow [[iI n2, uI n3]] 0 sz118 ?_
 refine oE (eS (lR (bR ?_)))
 obtain rfl := sj h
 exact E_endF (.inr rfl) (res_cell (d := .agg [iI n2, uI n3]) 0 rfl sz118 rfl rfl rfl rfl res_nil) (vw_cons (vd_agg (vc_cons vc_v (vc_cons vc_v vc_nil))) vw_nil) oG rfl rfl
 replace h := ifF c13 h
 refine pq (qb (p_eql_fZ c13)) ?_
 refine pq (qa bf) ?_
 refine oE (eS (cF rfl (lO ?_)))
 by_cases c17 : n1 = 4
 replace h := ifT c17 h
 refine pq (qb (p_eql_tZ c17)) ?_
 refine pq (qa bt) ?_
 refine oE (eS (cT rfl (lS (lS (lO ?_)))))
 refine pq (ql (.agg [iI n4, uI n5]) 1 sz118) ?_
 refine pq (ql (.agg [iI n2, uI n3]) 2 sz118) ?_
 obtain ⟨n19, h18, h⟩ := bindS h
 refine pq (qc (iO n19) [.agg [iI n4, uI n5], .agg [iI n2, uI n3]] (ref01_Compare_r (m + 0) h18) (vw_cons (vd_agg (vc_cons vc_v (vc_cons vc_v vc_nil))) (vw_cons (vd_agg (vc_cons vc_v (vc_cons vc_v vc_nil))) vw_nil))) ?_
 by_cases c20 : n19 < 0
 replace h := ifT c20 h
 refine pq (qb (p_lss_tZ c20)) ?_
 refine oE (eS (cT rfl (lS (lO ?_))))
 refine pq (ql (.agg [iI n4, uI n5]) 1 sz118) ?_
 refine ow [[iI n4, uI n5]] 0 sz118 ?_
 refine oE (eS (lR (eR (bR ?_))))
 obtain rfl := sj h
 exact E_endF (.inr rfl) (res_cell (d := .agg [iI n4, uI n5]) 0 rfl sz118 rfl rfl rfl rfl res_nil) (vw_cons (vd_agg (vc_cons vc_v (vc_cons vc_v vc_nil))) vw_nil) oG rfl rfl
 replace h := ifF c20 h
 refine pq (qb (p_lss_fZ c20)) ?_
 refine oE (eS (cF rfl (lK (eS (lS (lO ?_))))))
 refine pq (ql (.agg [iI n2, uI n3]) 2 sz118) ?_
 refine ow [[iI n2, uI n3]] 0 sz118 ?_
 refine oE (eS (lR (bR ?_)))
 obtain rfl := sj h
 exact E_endF (.inr rfl) (res_cell (d := .agg [iI n2, uI n3]) 0 rfl sz118 rfl rfl rfl rfl res_nil) (vw_cons (vd_agg (vc_cons vc_v (vc_cons vc_v vc_nil))) vw_nil) oG rfl rfl
 replace h := ifF c17 h
 refine pq (qb (p_eql_fZ c17)) ?_
 refine pq (qa bf) ?_
 refine oE (eS (cF rfl (lS (lO ?_))))
 by_cases c21 : n1 = 2
 replace h := ifT c21 h
 refine pq (qb (p_eql_tZ c21)) ?_
 refine pq (qa bt) ?_
 refine oE (eS (cT rfl (lS (lO ?_))))
 refine pq (ql (.agg [iI n2, uI n3]) 2 sz118) ?_
 refine pq (q_build (cs := [iI 0, uI 0]) ty118 rfl pl118 rfl) ?_
 by_cases c22 : n2 = 0 ∧ n3 = 0
 replace h := ifT c22 h
 refine pq (q_binA rfl rfl (by rfl) (by rfl) (eqneqA118_t _ _ c22) rfl) ?_
 refine pq (qm bf) ?_
 refine pq (ql (.agg [iI n4, uI n5]) 1 sz118) ?_
 refine pq (q_build (cs := [iI 0, uI 0]) ty118 rfl pl118 rfl) ?_
 by_cases c23 : n4 = 0 ∧ n5 = 0
 replace h := ifT c23 h
 refine pq (q_binA rfl rfl (by rfl) (by rfl) (eqneqA118_t _ _ c23) rfl) ?_
 refine pq (qpf bf) ?_
 obtain ⟨⟨n25, n26⟩, h24, h⟩ := bindS h
 refine pq (qc (.agg [iI n25, uI n26]) [bf] (ref02_truth_r (m + 0) h24) (vw_cons (vd_one vc_v) vw_nil)) ?_
 refine ow [[iI n25, uI n26]] 0 sz118 ?_
 refine oE (eS (lR (bR ?_)))
 obtain rfl := sj h
 exact E_endF (.inr rfl) (res_cell (d := .agg [iI n25, uI n26]) 0 rfl sz118 rfl rfl rfl rfl res_nil) (vw_cons (vd_agg (vc_cons vc_v (vc_cons vc_v vc_nil))) vw_nil) oG rfl rfl
 replace h := ifF c23 h
 refine pq (q_binA rfl rfl (by rfl) (by rfl) (eqneqA118_f _ _ c23) rfl) ?_
 refine pq (qpf bt) ?_
 obtain ⟨⟨n28, n29⟩, h27, h⟩ := bindS h
 refine pq (qc (.agg [iI n28, uI n29]) [bt] (ref02_truth_r (m + 0) h27) (vw_cons (vd_one vc_v) vw_nil)) ?_
 refine ow [[iI n28, uI n29]] 0 sz118 ?_
 refine oE (eS (lR (bR ?_)))
 obtain rfl := sj h
 exact E_endF (.inr rfl) (res_cell (d := .agg [iI n28, uI n29]) 0 rfl sz118 rfl rfl rfl rfl res_nil) (vw_cons (vd_agg (vc_cons vc_v (vc_cons vc_v vc_nil))) vw_nil) oG rfl rfl
 replace h := ifF c22 h
 refine pq (q_binA rfl rfl (by rfl) (by rfl) (eqneqA118_f _ _ c22) rfl) ?_
 refine pq (qm bt) ?_
 iterate 3 refine os ?_
 refine pq (qpt bt) ?_
 obtain ⟨⟨n31, n32⟩, h30, h⟩ := bindS h
 refine pq (qc (.agg [iI n31, uI n32]) [bt] (ref02_truth_r (m + 0) h30) (vw_cons (vd_one vc_v) vw_nil)) ?_
 refine ow [[iI n31, uI n32]] 0 sz118 ?_
 refine oE (eS (lR (bR ?_)))
 obtain rfl := sj h
 exact E_endF (.inr rfl) (res_cell (d := .agg [iI n31, uI n32]) 0 rfl sz118 rfl rfl rfl rfl res_nil) (vw_cons (vd_agg (vc_cons vc_v (vc_cons vc_v vc_nil))) vw_nil) oG rfl rfl
 replace h := ifF c21 h
 refine pq (qb (p_eql_fZ c21)) ?_
 refine pq (qa bf) ?_
 refine oE (eS (cF rfl (lS (lO ?_))))
 by_cases c33 : n1 = 5
 replace h := ifT c33 h
 refine pq (qb (p_eql_tZ c33)) ?_
 refine pq (qa bt) ?_
 refine oE (eS (cT rfl (lS (lO ?_))))
 refine pq (ql (.agg [iI n2, uI n3]) 2 sz118) ?_
 refine pq (ql (.agg [iI n4, uI n5]) 1 sz118) ?_
 obtain ⟨⟨n35, n36⟩, h34, h⟩ := bindS h
 refine pq (qc (.agg [iI n35, uI n36]) [.agg [iI n2, uI n3], .agg [iI n4, uI n5]] (ref01_Add_r (m + 0) h34) (vw_cons (vd_agg (vc_cons vc_v (vc_cons vc_v vc_nil))) (vw_cons (vd_agg (vc_cons vc_v (vc_cons vc_v vc_nil))) vw_nil))) ?_
 refine ow [[iI n35, uI n36]] 0 sz118 ?_
 refine oE (eS (lR (bR ?_)))
 obtain rfl := sj h
 exact E_endF (.inr rfl) (res_cell (d := .agg [iI n35, uI n36]) 0 rfl sz118 rfl rfl rfl rfl res_nil) (vw_cons (vd_agg (vc_cons vc_v (vc_cons vc_v vc_nil))) vw_nil) oG rfl rfl
 replace h := ifF c33 h
 refine pq (qb (p_eql_fZ c33)) ?_
 refine pq (qa bf) ?_
 refine oE (eS (cF rfl (lS (lO ?_))))
 refine pq (q_build (cs := [iI 0, uI 0]) ty118 rfl pl118 rfl) ?_
 refine ow [[iI 0, uI 0]] 0 sz118 ?_
 refine oE (eS (lR (bR ?_)))
 obtain rfl := sj h
 exact E_endF (.inr rfl) (res_cell (d := .agg [iI 0, uI 0]) 0 rfl sz118 rfl rfl rfl rfl res_nil) (vw_cons (vd_agg (vc_cons vc_v (vc_cons vc_v vc_nil))) vw_nil) oG rfl rfl

noncomputable def ref01_Narrow (a0 : Int × Int) : Option (Int × Bool) :=
  match a0 with
  | (n1, n2) => (if n1 = 0 then (if (IntKind.i64.wrap n2) ≥ 0 then some ((IntKind.i64.wrap n2), true) else (if n1 = (-1) then (if (IntKind.i64.wrap n2) < 0 then some ((IntKind.i64.wrap n2), true) else some (0, false)) else some (0, false))) else (if n1 = (-1) then (if (IntKind.i64.wrap n2) < 0 then some ((IntKind.i64.wrap n2), true) else some (0, false)) else some (0, false)))
theorem ref01_Narrow_r (m : Nat) {a0 : Int × Int} {out : Int × Bool} (h : ref01_Narrow a0 = some out) : RunsP E1 (m + 1) 107 [.agg (r117 a0)] (.fresh, [.one (iT .i64 out.1), .one (bT out.2)]) := by
 obtain ⟨n1, n2⟩ := a0
 refine fn_F rfl (by rw [E1_fn]; exact show fiOf Tryd.prog 107 = _ by unfold fiOf; rw [Tryd.func107]; unfold Tryd.f107; rfl) rfl ?_
 dsimp only
 unfold ref01_Narrow at h
 refine lS (lO ?_)
 refine ol_new rfl rfl rfl (q_box ty118 rfl (cs := [iI n1, uI n2]) rfl rfl) (fun k3 => ?_)
 refine pq (qa (iO 0)) ?_
 refine pq (qa bf) ?_
 refine oN ?_
 refine pq (q_fieldP rfl fa118_1 rfl) ?_
 refine pq (ql (.one (uI n2)) 0 sz85) ?_
 refine pq (q_conv rfl (cv85_2_u64 _) rfl) ?_
 refine pq (qa (iO (IntKind.i64.wrap n2))) ?_
 refine oE (eS (lS (lS (lO ?_))))
 refine pq (q_fieldP rfl fa118_0 rfl) ?_
 refine pq (ql (iO n1) 0 sz2) ?_
 by_cases c4 : n1 = 0
 replace h := ifT c4 h
 refine pq (qb (p_eql_tZ c4)) ?_
 refine pq (qm bt) ?_
 refine pq (qm (iO (IntKind.i64.wrap n2))) ?_
 by_cases c5 : (IntKind.i64.wrap n2) ≥ 0
 replace h := ifT c5 h
 refine pq (qb (p_geq_tZ c5)) ?_
 refine pq (qpt bt) ?_
 refine pq (qm bt) ?_
 iterate 7 refine os ?_
 refine pq (qpt bt) ?_
 refine oE (eS (cT rfl (lS (lO ?_))))
 refine pq (qm (iO (IntKind.i64.wrap n2))) ?_
 refine pq (qa (iO (IntKind.i64.wrap n2))) ?_
 refine pq (qa bt) ?_
 refine oE (eS (lR (eR ?_)))
 obtain rfl := sj h
 exact E_endF (.inr rfl) (res_tmp rfl (res_tmp rfl res_nil)) (vw_cons (vd_one vc_v) (vw_cons (vd_one vc_v) vw_nil)) oW rfl rfl
 replace h := ifF c5 h
 refine pq (qb (p_geq_fZ c5)) ?_
 refine pq (qpt bf) ?_
 refine pq (qm bf) ?_
 refine pq (q_fieldP rfl fa118_0 rfl) ?_
 refine pq (ql (iO n1) 0 sz2) ?_
 by_cases c6 : n1 = (-1)
 replace h := ifT c6 h
 refine pq (qb (p_eql_tZ c6)) ?_
 refine pq (qm bt) ?_
 refine pq (qm (iO (IntKind.i64.wrap n2))) ?_
 by_cases c7 : (IntKind.i64.wrap n2) < 0
 replace h := ifT c7 h
 refine pq (qb (p_lss_tZ c7)) ?_
 refine pq (qpt bt) ?_
 refine pq (qpf bt) ?_
 refine oE (eS (cT rfl (lS (lO ?_))))
 refine pq (qm (iO (IntKind.i64.wrap n2))) ?_
 refine pq (qa (iO (IntKind.i64.wrap n2))) ?_
 refine pq (qa bt) ?_
 refine oE (eS (lR (eR ?_)))
 obtain rfl := sj h
 exact E_endF (.inr rfl) (res_tmp rfl (res_tmp rfl res_nil)) (vw_cons (vd_one vc_v) (vw_cons (vd_one vc_v) vw_nil)) oW rfl rfl
 replace h := ifF c7 h
 refine pq (qb (p_lss_fZ c7)) ?_
 refine pq (qpt bf) ?_
 refine pq (qpf bf) ?_
 refine oE (eS (cF rfl (lK (eS (lS (lO ?_))))))
 refine pq (qa (iO 0)) ?_
 refine pq (qa bf) ?_
 refine oE (eS (lR ?_))
 obtain rfl := sj h
 exact E_endF (.inr rfl) (res_tmp rfl (res_tmp rfl res_nil)) (vw_cons (vd_one vc_v) (vw_cons (vd_one vc_v) vw_nil)) oW rfl rfl
 replace h := ifF c6 h
 refine pq (qb (p_eql_fZ c6)) ?_
 refine pq (qm bf) ?_
 iterate 2 refine os ?_
 refine pq (qpf bf) ?_
 refine pq (qpf bf) ?_
 refine oE (eS (cF rfl (lK (eS (lS (lO ?_))))))
 refine pq (qa (iO 0)) ?_
 refine pq (qa bf) ?_
 refine oE (eS (lR ?_))
 obtain rfl := sj h
 exact E_endF (.inr rfl) (res_tmp rfl (res_tmp rfl res_nil)) (vw_cons (vd_one vc_v) (vw_cons (vd_one vc_v) vw_nil)) oW rfl rfl
 replace h := ifF c4 h
 refine pq (qb (p_eql_fZ c4)) ?_
 refine pq (qm bf) ?_
 iterate 2 refine os ?_
 refine pq (qpf bf) ?_
 refine pq (qm bf) ?_
 refine pq (q_fieldP rfl fa118_0 rfl) ?_
 refine pq (ql (iO n1) 0 sz2) ?_
 by_cases c8 : n1 = (-1)
 replace h := ifT c8 h
 refine pq (qb (p_eql_tZ c8)) ?_
 refine pq (qm bt) ?_
 refine pq (qm (iO (IntKind.i64.wrap n2))) ?_
 by_cases c9 : (IntKind.i64.wrap n2) < 0
 replace h := ifT c9 h
 refine pq (qb (p_lss_tZ c9)) ?_
 refine pq (qpt bt) ?_
 refine pq (qpf bt) ?_
 refine oE (eS (cT rfl (lS (lO ?_))))
 refine pq (qm (iO (IntKind.i64.wrap n2))) ?_
 refine pq (qa (iO (IntKind.i64.wrap n2))) ?_
 refine pq (qa bt) ?_
 refine oE (eS (lR (eR ?_)))
 obtain rfl := sj h
 exact E_endF (.inr rfl) (res_tmp rfl (res_tmp rfl res_nil)) (vw_cons (vd_one vc_v) (vw_cons (vd_one vc_v) vw_nil)) oW rfl rfl
 replace h := ifF c9 h
 refine pq (qb (p_lss_fZ c9)) ?_
 refine pq (qpt bf) ?_
 refine pq (qpf bf) ?_
 refine oE (eS (cF rfl (lK (eS (lS (lO ?_))))))
 refine pq (qa (iO 0)) ?_
 refine pq (qa bf) ?_
 refine oE (eS (lR ?_))
 obtain rfl := sj h
 exact E_endF (.inr rfl) (res_tmp rfl (res_tmp rfl res_nil)) (vw_cons (vd_one vc_v) (vw_cons (vd_one vc_v) vw_nil)) oW rfl rfl
 replace h := ifF c8 h
 refine pq (qb (p_eql_fZ c8)) ?_
 refine pq (qm bf) ?_
 iterate 2 refine os ?_
 refine pq (qpf bf) ?_
 refine pq (qpf bf) ?_
 refine oE (eS (cF rfl (lK (eS (lS (lO ?_))))))
 refine pq (qa (iO 0)) ?_
 refine pq (qa bf) ?_
 refine oE (eS (lR ?_))
 obtain rfl := sj h
 exact E_endF (.inr rfl) (res_tmp rfl (res_tmp rfl res_nil)) (vw_cons (vd_one vc_v) (vw_cons (vd_one vc_v) vw_nil)) oW rfl rfl
end Ev
end Go.Proofs.YtjomjfjbpcafhaaDoor
