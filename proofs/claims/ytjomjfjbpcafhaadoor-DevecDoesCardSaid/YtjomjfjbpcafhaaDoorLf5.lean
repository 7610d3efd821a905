/- Functions of the program as functions on data, and that they are. -/
import Derived.Test.YtjomjfjbpcafhaaDoorEvZ
import Derived.Test.YtjomjfjbpcafhaaDoorLf1
import Derived.Test.YtjomjfjbpcafhaaDoorLf2
import Derived.Test.YtjomjfjbpcafhaaDoorLy1
namespace Go.Proofs.YtjomjfjbpcafhaaDoor
namespace Ev
open Go
set_option linter.unusedVariables false
set_option linter.unusedSimpArgs false
set_option maxRecDepth 100000
set_option maxHeartbeats 1000000
attribute [local irreducible] OpsL StL TnL WpL EndL
noncomputable def law10_small (a0 : Int × Sl (Int) × Sl (Int)) : Option (Bool) :=
  match a0 with
  | (n1, s2, s3) => (if ((s3.l.length : Nat) : Int) ≤ 150 then (if ((s2.l.length : Nat) : Int) ≤ 5 then some true else some false) else some false)
theorem law10_small_r (m : Nat) {a0 : Int × Sl (Int) × Sl (Int)} {out : Bool} (h : law10_small a0 = some out) : RunsP E1 (m + 1) 11 [.agg (r24 a0)] (.fresh, [.one (bT out)]) := by
 obtain ⟨n1, s2, s3⟩ := a0
 refine fn_F rfl (by rw [E1_fn]; exact show fiOf Tryd.prog 11 = _ by unfold fiOf; rw [Tryd.func11]; unfold Tryd.f11; rfl) rfl ?_
 dsimp only
 unfold law10_small at h
 refine lS (lO ?_)
 refine ol_new rfl rfl rfl (q_box ty25 rfl (cs := [iI n1, sF r85 s2, sF r2 s3]) rfl rfl) (fun k4 => ?_)
 refine pq (qa bf) ?_
 refine oN ?_
 refine pq (q_fieldP rfl fa25_2 rfl) ?_
 refine pq (ql (.one (sF r2 s3)) 0 sz23) ?_
 refine pq (q_lenS rfl ty23 rfl rfl rfl rfl) ?_
 by_cases c5 : ((s3.l.length : Nat) : Int) ≤ 150
 replace h := ifT c5 h
 refine pq (qb (p_leq_tZ c5)) ?_
 refine pq (qm bt) ?_
 refine pq (q_fieldP rfl fa25_1 rfl) ?_
 refine pq (ql (.one (sF r85 s2)) 0 sz22) ?_
 refine pq (q_lenS rfl ty22 rfl rfl rfl rfl) ?_
 by_cases c6 : ((s2.l.length : Nat) : Int) ≤ 5
 replace h := ifT c6 h
 refine pq (qb (p_leq_tZ c6)) ?_
 refine pq (qpt bt) ?_
 refine pq (qa bt) ?_
 refine oE (eS (lR ?_))
 obtain rfl := sj h
 exact eF1
 replace h := ifF c6 h
 refine pq (qb (p_leq_fZ c6)) ?_
 refine pq (qpt bf) ?_
 refine pq (qa bf) ?_
 refine oE (eS (lR ?_))
 obtain rfl := sj h
 exact eF1
 replace h := ifF c5 h
 refine pq (qb (p_leq_fZ c5)) ?_
 refine pq (qm bf) ?_
 iterate 4 refine os ?_
 refine pq (qpf bf) ?_
 refine pq (qa bf) ?_
 refine oE (eS (lR ?_))
 obtain rfl := sj h
 exact eF1

noncomputable def ref03_List_b1 (s1 : Sl (Int)) (a : List (Int) × Int) : Option ((List (Int) × Int) ⊕ ((List (Int)) ⊕ (List (Int)))) :=
  match a with
  | (l27, n28) => (if n28 < (IntKind.i64.wrap (64 * ((s1.l.length : Nat) : Int))) then ((ref03_Has s1 n28).bind fun b32 => (if b32 = true then ((app l27 ([n28] : List (Int))).bind fun _ => some (.inl ((l27 ++ ([n28] : List (Int))), (IntKind.i64.wrap (n28 + 1))))) else some (.inl (l27, (IntKind.i64.wrap (n28 + 1)))))) else some (.inr (.inl l27)))
noncomputable def ref03_List (s1 : Sl (Int)) : Option (List (Int)) :=
  ((loopO (ref03_List_b1 s1) (([] : List (Int)), 0)).bind (Sum.elim (fun l36 => some l36) (fun u => some u)))
theorem ref03_List_r (m : Nat) {s1 : Sl (Int)} {out : List (Int)} (h : ref03_List s1 = some out) : RunsP E1 (m + 2) 51 [.one (Sl.t r85 s1)] (resM 1 r3 out) := by
 refine fn_M rfl (by rw [E1_fn]; exact show fiOf Tryd.prog 51 = _ by unfold fiOf; rw [Tryd.func51]; unfold Tryd.f51; rfl) rfl ?_
 dsimp only
 unfold ref03_List at h
 refine lS (lO ?_)
 refine pq (qa (.one nC)) ?_
 refine oN ?_
 refine pq (qa (.one nC)) ?_
 refine oE (eS (lS (lS (lO ?_))))
 refine pq (qa (iO 0)) ?_
 refine oE (eS (lB ?_))
 refine L_addM (α := Int) r3 1 ?_
 let S1 : (List (Int) × Int) → Nat → (Nat → D) → Nat → D := fun a kt g => ups g [(0, .one (sF r85 s1)), (3, .one (moC a.1 kt)), (4, .one (iI a.2))]
 let SL1 : (List (Int) × Int) → Nat → BL := fun a kt => ([moL r3 1 a.1 kt] : BL)
 let G1 : (List (Int)) → Ex → St → Prop := fun u => endQ E1 [.tmp 2] (resM 1 r3 u)
 let Sx1 : (List (Int)) → Nat → (Nat → D) → Nat → D := fun a kt g => ups g [(3, .one (moC a kt))]
 let SLx1 : (List (Int)) → Nat → BL := fun a kt => ([moL r3 1 a kt] : BL)
 let J1 : ((List (Int)) ⊕ (List (Int))) → Ex → St → Prop := JX 20 0 Sx1 SLx1 G1
 refine L_loopS (ref03_List_b1 s1) S1 SL1 J1 JX_n (([] : List (Int)), 0) h 1025 (ups_self ⟨rfl, rfl, rfl, trivial⟩) [0] (by decide) rfl ?_ ?_
 rintro ⟨l27, n28⟩ k29 g out h
 change ref03_List_b1 s1 (l27, n28) = some out at h
 unfold ref03_List_b1 at h
 refine lS (lS (lO ?_))
 refine pq (qm (iO n28)) ?_
 refine pq (qm (.one (sF r85 s1))) ?_
 refine pq (q_lenS rfl ty22 rfl rfl rfl rfl) ?_
 refine pq (qb p_mulY) ?_
 by_cases c30 : n28 < (IntKind.i64.wrap (64 * ((s1.l.length : Nat) : Int)))
 replace h := ifT c30 h
 refine pq (qb (p_lss_tZ c30)) ?_
 refine oE (eS (cT rfl (lK (eS (lS (lB (lS (lO ?_))))))))
 refine pq (qm (.one (sF r85 s1))) ?_
 refine pq (qm (iO n28)) ?_
 obtain ⟨b32, h31, h⟩ := bindS h
 refine pq (qc (bO b32) [.one (sF r85 s1), iO n28] (ref03_Has_r (m + 0) h31) (vw_cons (vd_one vc_s) (vw_cons (vd_one vc_v) vw_nil))) ?_
 refine oE (eS ?_)
 rcases b32 with _ | _
 replace h := wF h
 refine cF rfl (lK (bN (eS (lO ?_))))
 refine pq (qm (iO n28)) ?_
 refine pq (qb p_addY) ?_
 refine pq (qa (iO (IntKind.i64.wrap (n28 + 1)))) ?_
 refine oE ?_
 obtain rfl := sj h
 exact E_next k29 (ups_self ⟨rfl, rfl, rfl, trivial⟩) [0] (by decide) rfl
 replace h := wT h
 refine cT rfl (lO ?_)
 refine pq (qm (.one (moC l27 k29))) ?_
 refine pq (qm (iO n28)) ?_
 refine ol_new rfl rfl rfl (q_bslice (cs := [iI n28]) (es := (([n28] : List (Int))).map (rowC r3)) ty71 rfl ty3 rfl rfl rfl rfl rfl) (fun k33 => ?_)
 obtain ⟨_, h34, h⟩ := bindS h
 obtain ⟨h34b, rfl⟩ := app_some h34
 refine ol_appM (r := r3) (l := l27) (ys := ([n28] : List (Int))) 1 rfl rfl rfl rfl rfl rfl (el_ownM (l := ([n28] : List (Int))) 0 rfl) rfl h34 (fun y => rfl) el71 ty71 rfl rfl rfl rfl rfl (fun k35 => ?_)
 refine pq (qa (.one (moC (l27 ++ ([n28] : List (Int))) k35))) ?_
 refine oE (bN (eS (lO ?_)))
 refine pq (qm (iO n28)) ?_
 refine pq (qb p_addY) ?_
 refine pq (qa (iO (IntKind.i64.wrap (n28 + 1)))) ?_
 refine oE ?_
 obtain rfl := sj h
 exact E_next k35 (ups_self ⟨rfl, rfl, rfl, trivial⟩) [0] (by decide) rfl
 replace h := ifF c30 h
 refine pq (qb (p_lss_fZ c30)) ?_
 refine oE (eS (cF rfl (L_exit ?_)))
 refine E_seqX ?_
 obtain rfl := sj h
 refine E_out ?_
 exact (E_exit k29 (ups_self ⟨rfl, trivial⟩) [0] (by decide) rfl)
 rintro (l36 | u) h
 refine J_x (fun k37 g => ?_)
 replace h := elimL h
 refine bH (eS (lS (lO ?_)))
 refine pq (qm (.one (moC l36 k37))) ?_
 refine pq (qa (.one (moC l36 k37))) ?_
 refine oE (eS (lR ?_))
 obtain rfl := sj h
 exact E_endM (r := r3) 0 (.inr rfl) (res_tmp rfl res_nil) rfl (fun x h m => rfl) (fun x => rfl)
 obtain rfl := Option.some.inj (elimR h)
 exact J_up (fun s hs => hs)

noncomputable def ref03_Right (s1 : Sl (Int)) (n2 : Int) : Option (Bool) :=
  (if n2 < 0 then some false else (if n2 > 4096 then some false else ((ref03_words n2).bind fun n6 => (if ((s1.l.length : Nat) : Int) ≠ n6 then some false else ((ref03_List s1).bind fun s9 => (if ((s9.length : Nat) : Int) = 0 then some true else ((atS 1 (mo 1 s9) (IntKind.i64.wrap (((s9.length : Nat) : Int) - 1))).bind fun n14 => (if n14 < n2 then some true else some false))))))))
theorem ref03_Right_r (m : Nat) {s1 : Sl (Int)} {n2 : Int} {out : Bool} (h : ref03_Right s1 n2 = some out) : RunsP E1 (m + 3) 46 [.one (Sl.t r85 s1), .one (iT .i64 n2)] (.fresh, [.one (bT out)]) := by
 refine fn_F rfl (by rw [E1_fn]; exact show fiOf Tryd.prog 46 = _ by unfold fiOf; rw [Tryd.func46]; unfold Tryd.f46; rfl) rfl ?_
 dsimp only
 unfold ref03_Right at h
 refine lS (lO ?_)
 refine pq (qa bf) ?_
 refine oE (eS (lS (lS (lO ?_))))
 refine pq (qm (iO n2)) ?_
 by_cases c3 : n2 < 0
 replace h := ifT c3 h
 refine pq (qb (p_lss_tZ c3)) ?_
 refine pq (qm bt) ?_
 iterate 2 refine os ?_
 refine pq (qpt bt) ?_
 refine pq (qm bt) ?_
 iterate 5 refine os ?_
 refine pq (qpt bt) ?_
 refine oE (eS (cT rfl (lS (lO ?_))))
 refine pq (qa bf) ?_
 refine oE (eS (lR (eR ?_)))
 obtain rfl := sj h
 exact eF1
 replace h := ifF c3 h
 refine pq (qb (p_lss_fZ c3)) ?_
 refine pq (qm bf) ?_
 refine pq (qm (iO n2)) ?_
 by_cases c4 : n2 > 4096
 replace h := ifT c4 h
 refine pq (qb (p_gtr_tZ c4)) ?_
 refine pq (qpf bt) ?_
 refine pq (qm bt) ?_
 iterate 5 refine os ?_
 refine pq (qpt bt) ?_
 refine oE (eS (cT rfl (lS (lO ?_))))
 refine pq (qa bf) ?_
 refine oE (eS (lR (eR ?_)))
 obtain rfl := sj h
 exact eF1
 replace h := ifF c4 h
 refine pq (qb (p_gtr_fZ c4)) ?_
 refine pq (qpf bf) ?_
 refine pq (qm bf) ?_
 refine pq (qm (.one (sF r85 s1))) ?_
 refine pq (q_lenS rfl ty22 rfl rfl rfl rfl) ?_
 refine pq (qm (iO n2)) ?_
 obtain ⟨n6, h5, h⟩ := bindS h
 refine pq (qc (iO n6) [iO n2] (ref03_words_r (m + 1) h5) (vw_cons (vd_one vc_v) vw_nil)) ?_
 by_cases c7 : ((s1.l.length : Nat) : Int) ≠ n6
 replace h := ifT c7 h
 refine pq (qb (p_neq_tZ c7)) ?_
 refine pq (qpf bt) ?_
 refine oE (eS (cT rfl (lS (lO ?_))))
 refine pq (qa bf) ?_
 refine oE (eS (lR (eR ?_)))
 obtain rfl := sj h
 exact eF1
 replace h := ifF c7 h
 refine pq (qb (p_neq_fZ c7)) ?_
 refine pq (qpf bf) ?_
 refine oE (eS (cF rfl (lK (eS (lS (lO ?_))))))
 refine pq (qm (.one (sF r85 s1))) ?_
 obtain ⟨s9, h8, h⟩ := bindS h
 refine ol_callM (r := r3) (l := s9) (args := [.one (sF r85 s1)]) (ref03_List_r (m + 0) h8) rfl rfl rfl rfl rfl rfl (vw_cons (vd_one vc_s) vw_nil) rfl (fun k10 => ?_)
 refine pq (qa (.one (moC s9 k10))) ?_
 refine oN ?_
 refine pq (qm (.one (moC s9 k10))) ?_
 refine pq (q_lenM (l := s9) rfl ty71 rfl rfl rfl rfl) ?_
 by_cases c11 : ((s9.length : Nat) : Int) = 0
 replace h := ifT c11 h
 refine pq (qb (p_eql_tZ c11)) ?_
 refine pq (qm bt) ?_
 iterate 8 refine os ?_
 refine pq (qpt bt) ?_
 refine pq (qa bt) ?_
 refine oE (eS (lR ?_))
 obtain rfl := sj h
 exact eF1
 replace h := ifF c11 h
 refine pq (qb (p_eql_fZ c11)) ?_
 refine pq (qm bf) ?_
 refine pq (qm (.one (moC s9 k10))) ?_
 refine pq (qm (.one (moC s9 k10))) ?_
 refine pq (q_lenM (l := s9) rfl ty71 rfl rfl rfl rfl) ?_
 refine pq (qb p_subY) ?_
 obtain ⟨n14, h13, h⟩ := bindS h
 obtain ⟨h13a, h13⟩ := atM_some h13
 refine pq (q_ixM (r := r3) 0 rfl rfl h13a h13 rfl el71) ?_
 refine pq (q_loadP (v := iO n14) 0 rfl sz3 (segM (r := r3) rfl h13) (map_get h13) rfl rfl) ?_
 refine pq (qm (iO n2)) ?_
 by_cases c15 : n14 < n2
 replace h := ifT c15 h
 refine pq (qb (p_lss_tZ c15)) ?_
 refine pq (qpf bt) ?_
 refine pq (qa bt) ?_
 refine oE (eS (lR ?_))
 obtain rfl := sj h
 exact eF1
 replace h := ifF c15 h
 refine pq (qb (p_lss_fZ c15)) ?_
 refine pq (qpf bf) ?_
 refine pq (qa bf) ?_
 refine oE (eS (lR ?_))
 obtain rfl := sj h
 exact eF1

noncomputable def ref10_Right_b1 (n1 : Int) (s2 : Sl (Int)) (s3 : Sl (Int)) (n25 : Int) : Option (Int ⊕ (Unit ⊕ Bool)) :=
  (if n25 < n1 then ((ref03_Has s2 n25).bind fun b28 => (if b28 = true then some (.inl (IntKind.i64.wrap (n25 + 1))) else ((atS 1 s3 n25).bind fun n31 => (if n31 ≠ 0 then some (.inr (.inr false)) else some (.inl (IntKind.i64.wrap (n25 + 1))))))) else some (.inr (.inl ())))
noncomputable def ref10_Right (a0 : Int × Sl (Int) × Sl (Int)) : Option (Bool) :=
  match a0 with
  | (n1, s2, s3) => (if n1 < 0 then some false else (if n1 > 4096 then some false else ((ref03_Right s2 n1).bind fun b8 => (if b8 = true then (if ((s3.l.length : Nat) : Int) ≠ n1 then some false else ((loopO (ref10_Right_b1 n1 s2 s3) 0).bind (Sum.elim (fun _ => some true) (fun u => some u)))) else some false))))
theorem ref10_Right_r (m : Nat) {a0 : Int × Sl (Int) × Sl (Int)} {out : Bool} (h : ref10_Right a0 = some out) : RunsP E1 (m + 4) 13 [.agg (r24 a0)] (.fresh, [.one (bT out)]) := by
 obtain ⟨n1, s2, s3⟩ := a0
 refine fn_F rfl (by rw [E1_fn]; exact show fiOf Tryd.prog 13 = _ by unfold fiOf; rw [Tryd.func13]; unfold Tryd.f13; rfl) rfl ?_
 dsimp only
 unfold ref10_Right at h
 refine lS (lO ?_)
 refine ol_new rfl rfl rfl (q_box ty25 rfl (cs := [iI n1, sF r85 s2, sF r2 s3]) rfl rfl) (fun k4 => ?_)
 refine pq (qa bf) ?_
 refine oE (eS (lS (lS (lO ?_))))
 refine pq (q_fieldP rfl fa25_0 rfl) ?_
 refine pq (ql (iO n1) 0 sz3) ?_
 by_cases c5 : n1 < 0
 replace h := ifT c5 h
 refine pq (qb (p_lss_tZ c5)) ?_
 refine pq (qm bt) ?_
 iterate 3 refine os ?_
 refine pq (qpt bt) ?_
 refine pq (qm bt) ?_
 iterate 6 refine os ?_
 refine pq (qpt bt) ?_
 refine pq (qm bt) ?_
 iterate 6 refine os ?_
 refine pq (qpt bt) ?_
 refine oE (eS (cT rfl (lS (lO ?_))))
 refine pq (qa bf) ?_
 refine oE (eS (lR (eR ?_)))
 obtain rfl := sj h
 exact eF1
 replace h := ifF c5 h
 refine pq (qb (p_lss_fZ c5)) ?_
 refine pq (qm bf) ?_
 refine pq (q_fieldP rfl fa25_0 rfl) ?_
 refine pq (ql (iO n1) 0 sz3) ?_
 by_cases c6 : n1 > 4096
 replace h := ifT c6 h
 refine pq (qb (p_gtr_tZ c6)) ?_
 refine pq (qpf bt) ?_
 refine pq (qm bt) ?_
 iterate 6 refine os ?_
 refine pq (qpt bt) ?_
 refine pq (qm bt) ?_
 iterate 6 refine os ?_
 refine pq (qpt bt) ?_
 refine oE (eS (cT rfl (lS (lO ?_))))
 refine pq (qa bf) ?_
 refine oE (eS (lR (eR ?_)))
 obtain rfl := sj h
 exact eF1
 replace h := ifF c6 h
 refine pq (qb (p_gtr_fZ c6)) ?_
 refine pq (qpf bf) ?_
 refine pq (qm bf) ?_
 refine pq (q_fieldP rfl fa25_1 rfl) ?_
 refine pq (ql (.one (sF r85 s2)) 0 sz22) ?_
 refine pq (q_fieldP rfl fa25_0 rfl) ?_
 refine pq (ql (iO n1) 0 sz3) ?_
 obtain ⟨b8, h7, h⟩ := bindS h
 refine pq (qc (bO b8) [.one (sF r85 s2), iO n1] (ref03_Right_r (m + 0) h7) (vw_cons (vd_one vc_s) (vw_cons (vd_one vc_v) vw_nil))) ?_
 rcases b8 with _ | _
 replace h := wF h
 refine pq (q_not rfl) ?_
 refine pq (qpf bt) ?_
 refine pq (qm bt) ?_
 iterate 6 refine os ?_
 refine pq (qpt bt) ?_
 refine oE (eS (cT rfl (lS (lO ?_))))
 refine pq (qa bf) ?_
 refine oE (eS (lR (eR ?_)))
 obtain rfl := sj h
 exact eF1
 replace h := wT h
 refine pq (q_not rfl) ?_
 refine pq (qpf bf) ?_
 refine pq (qm bf) ?_
 refine pq (q_fieldP rfl fa25_2 rfl) ?_
 refine pq (ql (.one (sF r2 s3)) 0 sz23) ?_
 refine pq (q_lenS rfl ty23 rfl rfl rfl rfl) ?_
 refine pq (q_fieldP rfl fa25_0 rfl) ?_
 refine pq (ql (iO n1) 0 sz3) ?_
 by_cases c9 : ((s3.l.length : Nat) : Int) ≠ n1
 replace h := ifT c9 h
 refine pq (qb (p_neq_tZ c9)) ?_
 refine pq (qpf bt) ?_
 refine oE (eS (cT rfl (lS (lO ?_))))
 refine pq (qa bf) ?_
 refine oE (eS (lR (eR ?_)))
 obtain rfl := sj h
 exact eF1
 replace h := ifF c9 h
 refine pq (qb (p_neq_fZ c9)) ?_
 refine pq (qpf bf) ?_
 refine oE (eS (cF rfl (lK (eS (lS (lS (lO ?_)))))))
 refine pq (qa (iO 0)) ?_
 refine oE (eS (lB ?_))
 let S1 : Int → Unit → (Nat → D) → Nat → D := fun a kt g => ups g [(1, .one (.ptr k4 0 0)), (3, iO a)]
 let SL1 : Int → Unit → BL := fun a kt => ([[(k4, 3, [[iI n1, sF r85 s2, sF r2 s3]])]] : BL)
 let G1 : Bool → Ex → St → Prop := fun u => endQ E1 [.tmp 2] (.fresh, [.one (bT u)])
 let Sx1 : Unit → Unit → (Nat → D) → Nat → D := fun a kt g => ups g []
 let SLx1 : Unit → Unit → BL := fun a kt => ([] : BL)
 let J1 : (Unit ⊕ Bool) → Ex → St → Prop := JX 47 0 Sx1 SLx1 G1
 refine L_loopS (ref10_Right_b1 n1 s2 s3) S1 SL1 J1 JX_n 0 h () (ups_self ⟨rfl, rfl, trivial⟩) [0] (by decide) rfl ?_ ?_
 rintro n25 _ g out h
 change ref10_Right_b1 n1 s2 s3 n25 = some out at h
 unfold ref10_Right_b1 at h
 refine lS (lS (lO ?_))
 refine pq (qm (iO n25)) ?_
 refine pq (q_fieldP rfl fa25_0 rfl) ?_
 refine pq (ql (iO n1) 0 sz3) ?_
 by_cases c26 : n25 < n1
 replace h := ifT c26 h
 refine pq (qb (p_lss_tZ c26)) ?_
 refine oE (eS (cT rfl (lK (eS (lS (lB (lS (lO ?_))))))))
 refine pq (q_fieldP rfl fa25_1 rfl) ?_
 refine pq (ql (.one (sF r85 s2)) 0 sz22) ?_
 refine pq (qm (iO n25)) ?_
 obtain ⟨b28, h27, h⟩ := bindS h
 refine pq (qc (bO b28) [.one (sF r85 s2), iO n25] (ref03_Has_r (m + 2) h27) (vw_cons (vd_one vc_s) (vw_cons (vd_one vc_v) vw_nil))) ?_
 rcases b28 with _ | _
 replace h := wF h
 refine pq (q_not rfl) ?_
 refine pq (qm bt) ?_
 refine pq (q_fieldP rfl fa25_2 rfl) ?_
 refine pq (ql (.one (sF r2 s3)) 0 sz23) ?_
 refine pq (qm (iO n25)) ?_
 obtain ⟨n31, h30, h⟩ := bindS h
 obtain ⟨h30a, h30b, h30⟩ := atS_some h30
 refine pq (q_ixS rfl rfl h30a h30 (el23.trans (congrArg some h30b.symm))) ?_
 refine pq (q_loadI (v := iO n31) rfl sz2 (map_get h30) rfl rfl) ?_
 by_cases c32 : n31 ≠ 0
 replace h := ifT c32 h
 refine pq (qb (p_neq_tZ c32)) ?_
 refine pq (qpt bt) ?_
 refine oE (eS (cT rfl (lS (lO ?_))))
 refine pq (qa bf) ?_
 refine oE (eS (lR (bR (eR ?_))))
 obtain rfl := sj h
 exact E_out (E_up (eF1))
 replace h := ifF c32 h
 refine pq (qb (p_neq_fZ c32)) ?_
 refine pq (qpt bf) ?_
 refine oE (eS (cF rfl (lK (bN (eS (lO ?_))))))
 refine pq (qm (iO n25)) ?_
 refine pq (qb p_addY) ?_
 refine pq (qa (iO (IntKind.i64.wrap (n25 + 1)))) ?_
 refine oE ?_
 obtain rfl := sj h
 exact E_next () (ups_self ⟨rfl, rfl, trivial⟩) [0] (by decide) rfl
 replace h := wT h
 refine pq (q_not rfl) ?_
 refine pq (qm bf) ?_
 iterate 6 refine os ?_
 refine pq (qpf bf) ?_
 refine oE (eS (cF rfl (lK (bN (eS (lO ?_))))))
 refine pq (qm (iO n25)) ?_
 refine pq (qb p_addY) ?_
 refine pq (qa (iO (IntKind.i64.wrap (n25 + 1)))) ?_
 refine oE ?_
 obtain rfl := sj h
 exact E_next () (ups_self ⟨rfl, rfl, trivial⟩) [0] (by decide) rfl
 replace h := ifF c26 h
 refine pq (qb (p_lss_fZ c26)) ?_
 refine oE (eS (cF rfl (L_exit ?_)))
 refine E_seqX ?_
 obtain rfl := sj h
 refine E_out ?_
 exact (E_exit () (ups_self trivial) [] (by decide) rfl)
 rintro (_ | u) h
 refine J_x (fun kt g => ?_)
 replace h := elimL h
 refine bH (eS (lS (lO ?_)))
 refine pq (qa bt) ?_
 refine oE (eS (lR ?_))
 obtain rfl := sj h
 exact eF1
 obtain rfl := Option.some.inj (elimR h)
 exact J_up (fun s hs => hs)

noncomputable def ref10_Back_b1 (s3 : Sl (Int)) (s10 : List (Int)) (a : Int × (List (Int × Int))) : Option ((Int × (List (Int × Int))) ⊕ ((List (Int × Int)) ⊕ (Int × (Sl (Int × Int))))) :=
  match a with
  | (n50, l51) => (if n50 < ((s10.length : Nat) : Int) then ((atS 1 (mo 1 s10) n50).bind fun n64 => ((atS 1 s3 n64).bind fun n67 => ((app l51 ([(n64, n67)] : List (Int × Int))).bind fun _ => some (.inl ((IntKind.i64.wrap (n50 + 1)), (l51 ++ ([(n64, n67)] : List (Int × Int)))))))) else some (.inr (.inl l51)))
noncomputable def ref10_Back (a0 : Int × Sl (Int) × Sl (Int)) : Option ((Int × (Sl (Int × Int)))) :=
  match a0 with
  | (n1, s2, s3) => ((ref10_Right (n1, s2, s3)).bind fun b7 => (if b7 = true then ((ref03_List s2).bind fun s10 => ((loopO (ref10_Back_b1 s3 s10) (0, ([] : List (Int × Int)))).bind (Sum.elim (fun l69 => some (n1, (mo 2 l69))) (fun u => some u)))) else some (0, (⟨false, 0, []⟩ : Sl (Int × Int)))))
theorem ref10_Back_r (m : Nat) {a0 : Int × Sl (Int) × Sl (Int)} {out : (Int × (Sl (Int × Int)))} (h : ref10_Back a0 = some out) : RunsP E1 (m + 5) 16 [.agg (r24 a0)] (.fresh, [.agg (r27 out)]) := by
 obtain ⟨n1, s2, s3⟩ := a0
 refine fn_F rfl (by rw [E1_fn]; exact show fiOf Tryd.prog 16 = _ by unfold fiOf; rw [Tryd.func16]; unfold Tryd.f16; rfl) rfl ?_
 dsimp only
 unfold ref10_Back at h
 refine lS (lO ?_)
 refine ol_new rfl rfl rfl (q_box ty25 rfl (cs := [iI n1, sF r85 s2, sF r2 s3]) rfl rfl) (fun k4 => ?_)
 refine ol_new rfl rfl rfl (q_alloc ty28 (row := [iI 0, nC]) rfl rfl) (fun k5 => ?_)
 refine oE (eS (lS (lS (lO ?_))))
 refine pq (ql (.agg [iI n1, sF r85 s2, sF r2 s3]) 1 sz25) ?_
 obtain ⟨b7, h6, h⟩ := bindS h
 refine pq (qc (bO b7) [.agg [iI n1, sF r85 s2, sF r2 s3]] (ref10_Right_r (m + 0) h6) (vw_cons (vd_agg (vc_cons vc_v (vc_cons vc_s (vc_cons vc_s vc_nil)))) vw_nil)) ?_
 rcases b7 with _ | _
 replace h := wF h
 refine pq (q_not rfl) ?_
 refine oE (eS (cT rfl (lS (lO ?_))))
 refine pq (q_build (cs := [iI 0, nC]) ty28 rfl pl28 rfl) ?_
 refine ow [[iI 0, nC]] 0 sz28 ?_
 refine oE (eS (lR (eR ?_)))
 obtain rfl := sj h
 exact E_endF (.inr rfl) (res_cell (d := .agg [iI 0, nC]) 0 rfl sz28 rfl rfl rfl rfl res_nil) (vw_cons (vd_agg (vc_cons vc_v (vc_cons vc_s vc_nil))) vw_nil) oG rfl rfl
 replace h := wT h
 refine pq (q_not rfl) ?_
 refine oE (eS (cF rfl (lK (eS (lS (lO ?_))))))
 refine pq (q_fieldP rfl fa25_0 rfl) ?_
 refine pq (ql (iO n1) 1 sz3) ?_
 refine pq (q_build (cs := [iI n1, nC]) ty28 rfl pl28 rfl) ?_
 refine ol_new rfl rfl rfl (q_alloc ty28 (row := [iI 0, nC]) rfl rfl) (fun k8 => ?_)
 refine ow [[iI n1, nC]] 0 sz28 ?_
 refine oN ?_
 refine pq (q_fieldP rfl fa25_1 rfl) ?_
 refine pq (ql (.one (sF r85 s2)) 2 sz22) ?_
 obtain ⟨s10, h9, h⟩ := bindS h
 refine ol_callM (r := r3) (l := s10) (args := [.one (sF r85 s2)]) (ref03_List_r (m + 2) h9) rfl rfl rfl rfl rfl rfl (vw_cons (vd_one vc_s) vw_nil) rfl (fun k11 => ?_)
 refine pq (qa (.one (moC s10 k11))) ?_
 refine oE (eS (lS (lS (lO ?_))))
 refine pq (qa (iO 0)) ?_
 refine oE (eS (lB ?_))
 refine L_addM (α := Int × Int) r38 2 ?_
 let S1 : (Int × (List (Int × Int))) → Nat → (Nat → D) → Nat → D := fun a kt g => ups g [(1, .one (.ptr k4 0 0)), (2, .one (.ptr k5 0 0)), (3, .one (.ptr k8 0 0)), (4, .one (moC s10 k11)), (5, .one (iI a.1))]
 let SL1 : (Int × (List (Int × Int))) → Nat → BL := fun a kt => ([[(k4, 3, [[iI n1, sF r85 s2, sF r2 s3]])], [(k5, 2, [[iI 0, nC]])], [(k8, 2, [[iI n1, moC a.2 kt]])], moL r3 1 s10 k11, moL r38 2 a.2 kt] : BL)
 let G1 : (Int × (Sl (Int × Int))) → Ex → St → Prop := fun u => endQ E1 [.cell 2 28] (.fresh, [.agg (r27 u)])
 let Sx1 : (List (Int × Int)) → Nat → (Nat → D) → Nat → D := fun a kt g => ups g [(2, .one (.ptr k5 0 0)), (3, .one (.ptr k8 0 0))]
 let SLx1 : (List (Int × Int)) → Nat → BL := fun a kt => ([[(k5, 2, [[iI 0, nC]])], [(k8, 2, [[iI n1, moC a kt]])], moL r38 2 a kt] : BL)
 let J1 : ((List (Int × Int)) ⊕ (Int × (Sl (Int × Int)))) → Ex → St → Prop := JX 41 0 Sx1 SLx1 G1
 refine L_loopS (ref10_Back_b1 s3 s10) S1 SL1 J1 JX_n (0, ([] : List (Int × Int))) h 1048 (ups_self ⟨rfl, rfl, rfl, rfl, rfl, trivial⟩) [4, 3, 2, 1, 0] (by decide) rfl ?_ ?_
 rintro ⟨n50, l51⟩ k52 g out h
 change ref10_Back_b1 s3 s10 (n50, l51) = some out at h
 unfold ref10_Back_b1 at h
 refine lS (lS (lO ?_))
 refine pq (qm (iO n50)) ?_
 refine pq (qm (.one (moC s10 k11))) ?_
 refine pq (q_lenM (l := s10) rfl ty71 rfl rfl rfl rfl) ?_
 by_cases c53 : n50 < ((s10.length : Nat) : Int)
 replace h := ifT c53 h
 refine pq (qb (p_lss_tZ c53)) ?_
 refine oE (eS (cT rfl (lK (eS (lS (lB ?_))))))
 refine L_norm (L2 := ([[(k4, 3, [[iI n1, sF r85 s2, sF r2 s3]])], [(k5, 2, [[iI 0, nC]])], [(k8, 2, [[iI n1, moC l51 k52]])], moL r3 1 s10 k11, moL r38 2 l51 k52] : BL)) [0, 1, 2, 3, 4] (by decide) rfl ?_
 refine L_turn 19 rfl [[], [], [], [], [], [], [], [], [], [], [], [], [], [], [], [], moK l51 k52, [], [k8]] [(false, []), (false, []), (false, []), (false, []), (false, []), (false, []), (false, []), (false, []), (false, []), (false, []), (false, []), (false, []), (false, []), (false, []), (false, []), (true, []), (true, []), (false, []), (false, [])] [[2, 3, 4, 5, 6, 7, 8, 9, 10, 11, 12, 13, 14, 15], [2, 3, 4, 5, 6, 7, 8, 9, 10, 11, 12, 13, 14, 15], [0, 1, 3, 6, 7, 8, 9, 10, 11, 12, 13], [0, 1, 2, 6, 7, 8, 9, 10, 11, 12, 13], [0, 1, 6, 7, 8, 9, 10, 11, 12, 13], [0, 1, 6, 7, 8, 9, 10, 11, 12, 13], [0, 1, 2, 3, 4, 5, 8, 9, 10, 11], [0, 1, 2, 3, 4, 5, 8, 9, 10, 11], [0, 1, 2, 3, 4, 5, 6, 7, 9], [0, 1, 2, 3, 4, 5, 6, 7, 8], [0, 1, 2, 3, 4, 5, 6, 7], [0, 1, 2, 3, 4, 5, 6, 7], [0, 1, 2, 3, 4, 5], [0, 1, 2, 3, 4, 5], [0, 1], [0, 1], [], [], []] (by kernel_rfl) (by kernel_rfl) (by kernel_rfl) ?_ (fun bb54 hlt hnd => ?_)
 intro bb54 hlt hnd
 have e_k4 : k4 < bb54 := key_lt hlt 0 rfl
 have e_k5 : k5 < bb54 := key_lt hlt 1 rfl
 have e_k8 : k8 < bb54 := key_lt hlt 2 rfl
 have e_k11 : s10 = [] ∨ k11 < bb54 := key_ltM (r := r3) (w := 1) hlt 3 rfl
 have e_k52 : l51 = [] ∨ k52 < bb54 := key_ltM (r := r38) (w := 2) hlt 4 rfl
 have f_k52 := moK_lt e_k52
 have d_k8_k4 : k8 ≠ k4 := key_ne hnd 2 0 rfl rfl rfl
 have d_k8_k5 : k8 ≠ k5 := key_ne hnd 2 1 rfl rfl rfl
 have d_k52_k4 : k4 ∉ moK l51 k52 := key_neM (r := r38) (w := 2) hnd 4 0 rfl rfl rfl
 have g_k52_k4 := moK_ne d_k52_k4
 have d_k52_k5 : k5 ∉ moK l51 k52 := key_neM (r := r38) (w := 2) hnd 4 1 rfl rfl rfl
 have g_k52_k5 := moK_ne d_k52_k5
 have d_k52_k8 : k8 ∉ moK l51 k52 := key_neM (r := r38) (w := 2) hnd 4 2 rfl rfl rfl
 have g_k52_k8 := moK_ne d_k52_k8
 exact ⟨(by first | (simp [DJ]; done) | (simp [DJ]; omega) | (simp [DJ]; assumption) | (simp_all [DJ]; done) | (simp_all [DJ]; omega)), (by first | (simp [DJ]; done) | (simp [DJ]; omega) | (simp [DJ]; assumption) | (simp_all [DJ]; done) | (simp_all [DJ]; omega))⟩
 have e_k4 : k4 < bb54 := key_lt hlt 0 rfl
 have e_k5 : k5 < bb54 := key_lt hlt 1 rfl
 have e_k8 : k8 < bb54 := key_lt hlt 2 rfl
 have e_k11 : s10 = [] ∨ k11 < bb54 := key_ltM (r := r3) (w := 1) hlt 3 rfl
 have e_k52 : l51 = [] ∨ k52 < bb54 := key_ltM (r := r38) (w := 2) hlt 4 rfl
 have f_k52 := moK_lt e_k52
 have d_k8_k4 : k8 ≠ k4 := key_ne hnd 2 0 rfl rfl rfl
 have d_k8_k5 : k8 ≠ k5 := key_ne hnd 2 1 rfl rfl rfl
 have d_k52_k4 : k4 ∉ moK l51 k52 := key_neM (r := r38) (w := 2) hnd 4 0 rfl rfl rfl
 have g_k52_k4 := moK_ne d_k52_k4
 have d_k52_k5 : k5 ∉ moK l51 k52 := key_neM (r := r38) (w := 2) hnd 4 1 rfl rfl rfl
 have g_k52_k5 := moK_ne d_k52_k5
 have d_k52_k8 : k8 ∉ moK l51 k52 := key_neM (r := r38) (w := 2) hnd 4 2 rfl rfl rfl
 have g_k52_k8 := moK_ne d_k52_k8
 refine tq [] rfl hmn (q_fieldP rfl fa28_1 rfl) ?_
 refine tq [2] rfl (hmc (nin_cons (ne_new (key_lt hlt 2 rfl)) nin_nil) hmn) (ql (.one (moC l51 k52)) 0 sz26) ?_
 refine tq [] rfl (hm0 rfl) (qm (.one (moC s10 k11))) ?_
 refine tq [] rfl (hm0 rfl) (qm (iO n50)) ?_
 obtain ⟨n64, h63, h⟩ := bindS h
 obtain ⟨h63a, h63⟩ := atM_some h63
 refine tq [3] rfl (hm0 rfl) (q_ixM (r := r3) 0 rfl rfl h63a h63 rfl el71) ?_
 refine tq [3] rfl (hm0 rfl) (q_loadP (v := iO n64) 0 rfl sz3 (segM (r := r3) rfl h63) (map_get h63) rfl rfl) ?_
 refine tq [] rfl (hm0 rfl) (q_fieldP rfl fa25_2 rfl) ?_
 refine tq [0] rfl (hm0 rfl) (ql (.one (sF r2 s3)) 0 sz23) ?_
 refine tq [] rfl (hm0 rfl) (qm (.one (moC s10 k11))) ?_
 refine tq [] rfl (hm0 rfl) (qm (iO n50)) ?_
 refine tq [3] rfl (hm0 rfl) (q_ixM (r := r3) 0 rfl rfl h63a h63 rfl el71) ?_
 refine tq [3] rfl (hm0 rfl) (q_loadP (v := iO n64) 0 rfl sz3 (segM (r := r3) rfl h63) (map_get h63) rfl rfl) ?_
 obtain ⟨n67, h66, h⟩ := bindS h
 obtain ⟨h66a, h66b, h66⟩ := atS_some h66
 refine tq [] rfl (hm0 rfl) (q_ixS rfl rfl h66a h66 (el23.trans (congrArg some h66b.symm))) ?_
 refine tq [] rfl (hm0 rfl) (q_loadI (v := iO n67) rfl sz2 (map_get h66) rfl rfl) ?_
 refine tq [] rfl (hm0 rfl) (q_build (cs := [iI n64, iI n67]) ty39 rfl pl39 rfl) ?_
 refine tn_new rfl rfl rfl [] (by decide) rfl (hm0 rfl) rfl rfl (hkc (ne_new (key_lt hlt 0 rfl)) (hkc (ne_new (key_lt hlt 1 rfl)) (hkc (ne_new (key_lt hlt 2 rfl)) (hkM (e_k11.imp id fun h => by omega) (hkM (e_k52.imp id fun h => by omega) hkn))))) (q_bslice (cs := [iI n64, iI n67]) (es := (([(n64, n67)] : List (Int × Int))).map (rowC r38)) ty26 rfl ty39 rfl rfl rfl rfl rfl) ?_
 obtain ⟨_, h68, h⟩ := bindS h
 obtain ⟨h68b, rfl⟩ := app_some h68
 refine tn_appM (r := r38) (l := l51) 0 5 rfl rfl rfl rfl [5, 0] (by decide) rfl (hm0 rfl) rfl rfl (hkc (ne_add rfl) (hkc (ne_new (key_lt hlt 0 rfl)) (hkc (ne_new (key_lt hlt 1 rfl)) (hkc (ne_new (key_lt hlt 2 rfl)) (hkM (e_k11.imp id fun h => by omega) (hkM (e_k52.imp id fun h => by omega) hkn)))))) rfl rfl (el_ownM (l := ([(n64, n67)] : List (Int × Int))) 1 rfl) rfl rfl h68 (fun y => rfl) el26 ty26 rfl rfl rfl rfl rfl ?_
 refine tq [] rfl (hm0 rfl) (q_fieldP rfl fa28_1 rfl) ?_
 refine tn_wr rfl rfl [4] (by decide) rfl (hm0 rfl) rfl (q_store (es' := [[iI n1, moC (l51 ++ ([(n64, n67)] : List (Int × Int))) (bb54 + 16)]]) 0 rfl rfl rfl sz26 rfl rfl rfl rfl rfl) (q := 4) rfl rfl ?_
 refine tn_end (bN (eS (lO ?_)))
 refine pq (qm (iO n50)) ?_
 refine pq (qb p_addY) ?_
 refine pq (qa (iO (IntKind.i64.wrap (n50 + 1)))) ?_
 refine oE ?_
 obtain rfl := sj h
 exact E_next (bb54 + 16) (ups_self ⟨rfl, rfl, rfl, rfl, rfl, trivial⟩) [2, 3, 4, 5, 0] (by decide) rfl
 replace h := ifF c53 h
 refine pq (qb (p_lss_fZ c53)) ?_
 refine oE (eS (cF rfl (L_exit ?_)))
 refine E_seqX ?_
 obtain rfl := sj h
 refine E_out ?_
 exact (E_exit k52 (ups_self ⟨rfl, rfl, trivial⟩) [1, 2, 4] (by decide) rfl)
 rintro (l69 | u) h
 refine J_x (fun k70 g => ?_)
 replace h := elimL h
 refine bH (eS (lS (lO ?_)))
 refine pq (ql (.agg [iI n1, moC l69 k70]) 1 sz28) ?_
 refine ow [[iI n1, moC l69 k70]] 0 sz28 ?_
 refine oE (eS (lR ?_))
 obtain rfl := sj h
 exact E_endF (.inr rfl) (res_cell (d := .agg [iI n1, moC l69 k70]) 0 rfl sz28 rfl rfl rfl rfl res_nil) (vw_cons (vd_agg (vc_cons vc_v (vc_cons (vc_M (r := r38) 2 rfl (fun x h m => rfl)) vc_nil))) vw_nil) oG rfl rfl
 obtain rfl := Option.some.inj (elimR h)
 exact J_up (fun s hs => hs)

noncomputable def ref09_Right_b1 (n1 : Int) (s2 : Sl (Int × Int)) (n33 : Int) : Option (Int ⊕ (Unit ⊕ Bool)) :=
  (if n33 < ((s2.l.length : Nat) : Int) then ((atS 2 s2 n33).bind fun (n37, n38) => (if n37 < 0 then some (.inr (.inr false)) else (if n37 ≥ n1 then some (.inr (.inr false)) else (if n33 > 0 then ((atS 2 s2 (IntKind.i64.wrap (n33 - 1))).bind fun (n44, n45) => (if n37 ≤ n44 then some (.inr (.inr false)) else some (.inl (IntKind.i64.wrap (n33 + 1))))) else some (.inl (IntKind.i64.wrap (n33 + 1))))))) else some (.inr (.inl ())))
noncomputable def ref09_Right (a0 : Int × (Sl (Int × Int))) : Option (Bool) :=
  match a0 with
  | (n1, s2) => (if n1 < 0 then some false else (if n1 > 4096 then some false else ((loopO (ref09_Right_b1 n1 s2) 0).bind (Sum.elim (fun _ => some true) (fun u => some u)))))
theorem ref09_Right_r (m : Nat) {a0 : Int × (Sl (Int × Int))} {out : Bool} (h : ref09_Right a0 = some out) : RunsP E1 (m + 1) 89 [.agg (r27 a0)] (.fresh, [.one (bT out)]) := by
 obtain ⟨n1, s2⟩ := a0
 refine fn_F rfl (by rw [E1_fn]; exact show fiOf Tryd.prog 89 = _ by unfold fiOf; rw [Tryd.func89]; unfold Tryd.f89; rfl) rfl ?_
 dsimp only
 unfold ref09_Right at h
 refine lS (lO ?_)
 refine ol_new rfl rfl rfl (q_box ty28 rfl (cs := [iI n1, sF r38 s2]) rfl rfl) (fun k3 => ?_)
 refine pq (qa bf) ?_
 refine oE (eS (lS (lS (lO ?_))))
 refine pq (q_fieldP rfl fa28_0 rfl) ?_
 refine pq (ql (iO n1) 0 sz3) ?_
 by_cases c4 : n1 < 0
 replace h := ifT c4 h
 refine pq (qb (p_lss_tZ c4)) ?_
 refine pq (qm bt) ?_
 iterate 3 refine os ?_
 refine pq (qpt bt) ?_
 refine oE (eS (cT rfl (lS (lO ?_))))
 refine pq (qa bf) ?_
 refine oE (eS (lR (eR ?_)))
 obtain rfl := sj h
 exact eF1
 replace h := ifF c4 h
 refine pq (qb (p_lss_fZ c4)) ?_
 refine pq (qm bf) ?_
 refine pq (q_fieldP rfl fa28_0 rfl) ?_
 refine pq (ql (iO n1) 0 sz3) ?_
 by_cases c5 : n1 > 4096
 replace h := ifT c5 h
 refine pq (qb (p_gtr_tZ c5)) ?_
 refine pq (qpf bt) ?_
 refine oE (eS (cT rfl (lS (lO ?_))))
 refine pq (qa bf) ?_
 refine oE (eS (lR (eR ?_)))
 obtain rfl := sj h
 exact eF1
 replace h := ifF c5 h
 refine pq (qb (p_gtr_fZ c5)) ?_
 refine pq (qpf bf) ?_
 refine oE (eS (cF rfl (lK (eS (lS (lS (lO ?_)))))))
 refine pq (qa (iO 0)) ?_
 refine oE (eS (lB ?_))
 let S1 : Int → Unit → (Nat → D) → Nat → D := fun a kt g => ups g [(1, .one (.ptr k3 0 0)), (3, iO a)]
 let SL1 : Int → Unit → BL := fun a kt => ([[(k3, 2, [[iI n1, sF r38 s2]])]] : BL)
 let G1 : Bool → Ex → St → Prop := fun u => endQ E1 [.tmp 2] (.fresh, [.one (bT u)])
 let Sx1 : Unit → Unit → (Nat → D) → Nat → D := fun a kt g => ups g []
 let SLx1 : Unit → Unit → BL := fun a kt => ([] : BL)
 let J1 : (Unit ⊕ Bool) → Ex → St → Prop := JX 57 0 Sx1 SLx1 G1
 refine L_loopS (ref09_Right_b1 n1 s2) S1 SL1 J1 JX_n 0 h () (ups_self ⟨rfl, rfl, trivial⟩) [0] (by decide) rfl ?_ ?_
 rintro n33 _ g out h
 change ref09_Right_b1 n1 s2 n33 = some out at h
 unfold ref09_Right_b1 at h
 refine lS (lS (lO ?_))
 refine pq (qm (iO n33)) ?_
 refine pq (q_fieldP rfl fa28_1 rfl) ?_
 refine pq (ql (.one (sF r38 s2)) 0 sz26) ?_
 refine pq (q_lenS rfl ty26 rfl rfl rfl rfl) ?_
 by_cases c34 : n33 < ((s2.l.length : Nat) : Int)
 replace h := ifT c34 h
 refine pq (qb (p_lss_tZ c34)) ?_
 refine oE (eS (cT rfl (lK (eS (lS (lB (lS ?_)))))))
 refine L_still (by kernel_rfl) ?_
 refine sq (q_fieldP rfl fa28_1 rfl) ?_
 refine sq (ql (.one (sF r38 s2)) 0 sz26) ?_
 refine sq (qm (iO n33)) ?_
 obtain ⟨⟨n37, n38⟩, h36, h⟩ := bindS h
 obtain ⟨h36a, h36b, h36⟩ := atS_some h36
 refine sq (q_ixS rfl rfl h36a h36 (el26.trans (congrArg some h36b.symm))) ?_
 refine sq (q_fieldI rfl fa39_0 rfl) ?_
 refine sq (q_loadI (v := iO n37) rfl sz3 (map_get h36) rfl rfl) ?_
 by_cases c39 : n37 < 0
 replace h := ifT c39 h
 refine sq (qb (p_lss_tZ c39)) ?_
 refine sq (qm bt) ?_
 iterate 9 refine ss ?_
 refine sq (qpt bt) ?_
 refine sq (qm bt) ?_
 iterate 18 refine ss ?_
 refine sq (qpt bt) ?_
 refine st_end (eS (cT rfl (lS (lO ?_))))
 refine pq (qa bf) ?_
 refine oE (eS (lR (bR (eR ?_))))
 obtain rfl := sj h
 exact E_out (E_up (eF1))
 replace h := ifF c39 h
 refine sq (qb (p_lss_fZ c39)) ?_
 refine sq (qm bf) ?_
 refine sq (q_fieldP rfl fa28_1 rfl) ?_
 refine sq (ql (.one (sF r38 s2)) 0 sz26) ?_
 refine sq (qm (iO n33)) ?_
 refine sq (q_ixS rfl rfl h36a h36 (el26.trans (congrArg some h36b.symm))) ?_
 refine sq (q_fieldI rfl fa39_0 rfl) ?_
 refine sq (q_loadI (v := iO n37) rfl sz3 (map_get h36) rfl rfl) ?_
 refine sq (q_fieldP rfl fa28_0 rfl) ?_
 refine sq (ql (iO n1) 0 sz3) ?_
 by_cases c40 : n37 ≥ n1
 replace h := ifT c40 h
 refine sq (qb (p_geq_tZ c40)) ?_
 refine sq (qpf bt) ?_
 refine sq (qm bt) ?_
 iterate 18 refine ss ?_
 refine sq (qpt bt) ?_
 refine st_end (eS (cT rfl (lS (lO ?_))))
 refine pq (qa bf) ?_
 refine oE (eS (lR (bR (eR ?_))))
 obtain rfl := sj h
 exact E_out (E_up (eF1))
 replace h := ifF c40 h
 refine sq (qb (p_geq_fZ c40)) ?_
 refine sq (qpf bf) ?_
 refine sq (qm bf) ?_
 refine sq (qm (iO n33)) ?_
 by_cases c41 : n33 > 0
 replace h := ifT c41 h
 refine sq (qb (p_gtr_tZ c41)) ?_
 refine sq (qm bt) ?_
 refine sq (q_fieldP rfl fa28_1 rfl) ?_
 refine sq (ql (.one (sF r38 s2)) 0 sz26) ?_
 refine sq (qm (iO n33)) ?_
 refine sq (q_ixS rfl rfl h36a h36 (el26.trans (congrArg some h36b.symm))) ?_
 refine sq (q_fieldI rfl fa39_0 rfl) ?_
 refine sq (q_loadI (v := iO n37) rfl sz3 (map_get h36) rfl rfl) ?_
 refine sq (q_fieldP rfl fa28_1 rfl) ?_
 refine sq (ql (.one (sF r38 s2)) 0 sz26) ?_
 refine sq (qm (iO n33)) ?_
 refine sq (qb p_subY) ?_
 obtain ⟨⟨n44, n45⟩, h43, h⟩ := bindS h
 obtain ⟨h43a, h43b, h43⟩ := atS_some h43
 refine sq (q_ixS rfl rfl h43a h43 (el26.trans (congrArg some h43b.symm))) ?_
 refine sq (q_fieldI rfl fa39_0 rfl) ?_
 refine sq (q_loadI (v := iO n44) rfl sz3 (map_get h43) rfl rfl) ?_
 by_cases c46 : n37 ≤ n44
 replace h := ifT c46 h
 refine sq (qb (p_leq_tZ c46)) ?_
 refine sq (qpt bt) ?_
 refine sq (qpf bt) ?_
 refine st_end (eS (cT rfl (lS (lO ?_))))
 refine pq (qa bf) ?_
 refine oE (eS (lR (bR (eR ?_))))
 obtain rfl := sj h
 exact E_out (E_up (eF1))
 replace h := ifF c46 h
 refine sq (qb (p_leq_fZ c46)) ?_
 refine sq (qpt bf) ?_
 refine sq (qpf bf) ?_
 refine st_end (eS (cF rfl (lK (bN (eS (lO ?_))))))
 refine pq (qm (iO n33)) ?_
 refine pq (qb p_addY) ?_
 refine pq (qa (iO (IntKind.i64.wrap (n33 + 1)))) ?_
 refine oE ?_
 obtain rfl := sj h
 exact E_next () (ups_self ⟨rfl, rfl, trivial⟩) [0] (by decide) rfl
 replace h := ifF c41 h
 refine sq (qb (p_gtr_fZ c41)) ?_
 refine sq (qm bf) ?_
 iterate 14 refine ss ?_
 refine sq (qpf bf) ?_
 refine sq (qpf bf) ?_
 refine st_end (eS (cF rfl (lK (bN (eS (lO ?_))))))
 refine pq (qm (iO n33)) ?_
 refine pq (qb p_addY) ?_
 refine pq (qa (iO (IntKind.i64.wrap (n33 + 1)))) ?_
 refine oE ?_
 obtain rfl := sj h
 exact E_next () (ups_self ⟨rfl, rfl, trivial⟩) [0] (by decide) rfl
 replace h := ifF c34 h
 refine pq (qb (p_lss_fZ c34)) ?_
 refine oE (eS (cF rfl (L_exit ?_)))
 refine E_seqX ?_
 obtain rfl := sj h
 refine E_out ?_
 exact (E_exit () (ups_self trivial) [] (by decide) rfl)
 rintro (_ | u) h
 refine J_x (fun kt g => ?_)
 replace h := elimL h
 refine bH (eS (lS (lO ?_)))
 refine pq (qa bt) ?_
 refine oE (eS (lR ?_))
 obtain rfl := sj h
 exact eF1
 obtain rfl := Option.some.inj (elimR h)
 exact J_up (fun s hs => hs)

noncomputable def ref09_Sure (a0 : Int × (Sl (Int × Int))) : Option ((Int × (Sl (Int × Int)))) :=
  match a0 with
  | (n1, s2) => ((ref09_Right (n1, s2)).bind fun b6 => (if b6 = true then some (n1, s2) else some (0, (⟨false, 0, []⟩ : Sl (Int × Int)))))
theorem ref09_Sure_r (m : Nat) {a0 : Int × (Sl (Int × Int))} {out : (Int × (Sl (Int × Int)))} (h : ref09_Sure a0 = some out) : RunsX E1 (m + 2) 57 [.agg (r27 a0)] [.agg (r27 out)] := by
 obtain ⟨n1, s2⟩ := a0
 refine fn_X rfl (by rw [E1_fn]; exact show fiOf Tryd.prog 57 = _ by unfold fiOf; rw [Tryd.func57]; unfold Tryd.f57; rfl) rfl ?_
 dsimp only
 unfold ref09_Sure at h
 refine lS (lO ?_)
 refine ol_new rfl rfl rfl (q_box ty28 rfl (cs := [iI n1, sF r38 s2]) rfl rfl) (fun k3 => ?_)
 refine ol_new rfl rfl rfl (q_alloc ty28 (row := [iI 0, nC]) rfl rfl) (fun k4 => ?_)
 refine oE (eS (lS (lS (lO ?_))))
 refine pq (ql (.agg [iI n1, sF r38 s2]) 1 sz28) ?_
 obtain ⟨b6, h5, h⟩ := bindS h
 refine pq (qc (bO b6) [.agg [iI n1, sF r38 s2]] (ref09_Right_r (m + 0) h5) (vw_cons (vd_agg (vc_cons vc_v (vc_cons vc_s vc_nil))) vw_nil)) ?_
 refine oE (eS ?_)
 rcases b6 with _ | _
 replace h := wF h
 refine cF rfl (lK (eS (lS (lO ?_))))
 refine pq (q_build (cs := [iI 0, nC]) ty28 rfl pl28 rfl) ?_
 refine ow [[iI 0, nC]] 0 sz28 ?_
 refine oE (eS (lR ?_))
 obtain rfl := sj h
 exact E_endX (.inr rfl) (res_cell (d := .agg [iI 0, nC]) 0 rfl sz28 rfl rfl rfl rfl res_nil) (vw_cons (vd_agg (vc_cons vc_v (vc_cons vc_s vc_nil))) vw_nil) oG rfl
 replace h := wT h
 refine cT rfl (lS (lO ?_))
 refine pq (ql (.agg [iI n1, sF r38 s2]) 1 sz28) ?_
 refine ow [[iI n1, sF r38 s2]] 0 sz28 ?_
 refine oE (eS (lR (eR ?_)))
 obtain rfl := sj h
 exact E_endX (.inr rfl) (res_cell (d := .agg [iI n1, sF r38 s2]) 0 rfl sz28 rfl rfl rfl rfl res_nil) (vw_cons (vd_agg (vc_cons vc_v (vc_cons vc_s vc_nil))) vw_nil) oG rfl

noncomputable def ref03_Of_b1 (n1 : Int) (s2 : Sl (Int)) (a : List (Int) × Int) : Option ((List (Int) × Int) ⊕ ((List (Int)) ⊕ (List (Int)))) :=
  match a with
  | (l29, n30) => (if n30 < ((s2.l.length : Nat) : Int) then ((atS 1 s2 n30).bind fun n35 => (if n35 ≥ 0 then (if n35 < n1 then (if n35 < 4096 then ((ref03_Put (⟨true, 1, l29⟩ : Sl (Int)) n35).bind fun s40 => ((neL s40).bind fun _ => some (.inl (s40, (IntKind.i64.wrap (n30 + 1)))))) else some (.inl (l29, (IntKind.i64.wrap (n30 + 1))))) else some (.inl (l29, (IntKind.i64.wrap (n30 + 1))))) else some (.inl (l29, (IntKind.i64.wrap (n30 + 1)))))) else some (.inr (.inl l29)))
noncomputable def ref03_Of (n1 : Int) (s2 : Sl (Int)) : Option (List (Int)) :=
  ((ref03_New n1).bind fun s4 => ((loopO (ref03_Of_b1 n1 s2) (s4, 0)).bind (Sum.elim (fun l43 => some l43) (fun u => some u))))
theorem ref03_Of_r (m : Nat) {n1 : Int} {s2 : Sl (Int)} {out : List (Int)} (h : ref03_Of n1 s2 = some out) : RunsP E1 (m + 3) 58 [.one (iT .i64 n1), .one (Sl.t r3 s2)] (.own, [.one (.s true 1 ((out).map r85))]) := by
 refine fn_O rfl (by rw [E1_fn]; exact show fiOf Tryd.prog 58 = _ by unfold fiOf; rw [Tryd.func58]; unfold Tryd.f58; rfl) rfl ?_
 dsimp only
 unfold ref03_Of at h
 refine lS (lO ?_)
 refine pq (qa (.one nC)) ?_
 refine oN ?_
 refine pq (qm (iO n1)) ?_
 obtain ⟨s4, h3, h⟩ := bindS h
 refine ol_new rfl rfl rfl (q_callO (args := [iO n1]) (ref03_New_r (m + 0) h3) rfl rfl (vw_cons (vd_one vc_v) vw_nil) rfl) (fun k5 => ?_)
 refine pq (qa (.one (.own k5 0 (s4).length))) ?_
 refine oE (eS (lS (lS (lO ?_))))
 refine pq (qa (iO 0)) ?_
 refine oE (eS (lB ?_))
 let S1 : (List (Int) × Int) → Nat → (Nat → D) → Nat → D := fun a kt g => ups g [(0, iO n1), (1, .one (sF r3 s2)), (5, .one (.own kt 0 (a.1).length)), (6, .one (iI a.2))]
 let SL1 : (List (Int) × Int) → Nat → BL := fun a kt => ([[(kt, 1, (a.1).map (rowC r85))]] : BL)
 let G1 : (List (Int)) → Ex → St → Prop := fun u => endQ E1 [.tmp 4] (.own, [.one (.s true 1 ((u).map r85))])
 let Sx1 : (List (Int)) → Nat → (Nat → D) → Nat → D := fun a kt g => ups g [(5, .one (.own kt 0 (a).length))]
 let SLx1 : (List (Int)) → Nat → BL := fun a kt => ([[(kt, 1, (a).map (rowC r85))]] : BL)
 let J1 : ((List (Int)) ⊕ (List (Int))) → Ex → St → Prop := JX 42 0 Sx1 SLx1 G1
 refine L_loopS (ref03_Of_b1 n1 s2) S1 SL1 J1 JX_n (s4, 0) h k5 (ups_self ⟨rfl, rfl, rfl, rfl, trivial⟩) [0] (by decide) rfl ?_ ?_
 rintro ⟨l29, n30⟩ k31 g out h
 change ref03_Of_b1 n1 s2 (l29, n30) = some out at h
 unfold ref03_Of_b1 at h
 refine lS (lS (lO ?_))
 refine pq (qm (iO n30)) ?_
 refine pq (qm (.one (sF r3 s2))) ?_
 refine pq (q_lenS rfl ty71 rfl rfl rfl rfl) ?_
 by_cases c32 : n30 < ((s2.l.length : Nat) : Int)
 replace h := ifT c32 h
 refine pq (qb (p_lss_tZ c32)) ?_
 refine oE (eS (cT rfl (lK (eS (lS (lB (lS (lO ?_))))))))
 refine pq (qm (.one (sF r3 s2))) ?_
 refine pq (qm (iO n30)) ?_
 obtain ⟨n35, h34, h⟩ := bindS h
 obtain ⟨h34a, h34b, h34⟩ := atS_some h34
 refine pq (q_ixS rfl rfl h34a h34 (el71.trans (congrArg some h34b.symm))) ?_
 refine pq (q_loadI (v := iO n35) rfl sz3 (map_get h34) rfl rfl) ?_
 by_cases c36 : n35 ≥ 0
 replace h := ifT c36 h
 refine pq (qb (p_geq_tZ c36)) ?_
 refine pq (qm bt) ?_
 refine pq (qm (.one (sF r3 s2))) ?_
 refine pq (qm (iO n30)) ?_
 refine pq (q_ixS rfl rfl h34a h34 (el71.trans (congrArg some h34b.symm))) ?_
 refine pq (q_loadI (v := iO n35) rfl sz3 (map_get h34) rfl rfl) ?_
 refine pq (qm (iO n1)) ?_
 by_cases c37 : n35 < n1
 replace h := ifT c37 h
 refine pq (qb (p_lss_tZ c37)) ?_
 refine pq (qpt bt) ?_
 refine pq (qm bt) ?_
 refine pq (qm (.one (sF r3 s2))) ?_
 refine pq (qm (iO n30)) ?_
 refine pq (q_ixS rfl rfl h34a h34 (el71.trans (congrArg some h34b.symm))) ?_
 refine pq (q_loadI (v := iO n35) rfl sz3 (map_get h34) rfl rfl) ?_
 by_cases c38 : n35 < 4096
 replace h := ifT c38 h
 refine pq (qb (p_lss_tZ c38)) ?_
 refine pq (qpt bt) ?_
 refine oE (eS (cT rfl (lO ?_)))
 refine pq (qm (.one (.own k31 0 (l29).length))) ?_
 refine pq (qm (.one (sF r3 s2))) ?_
 refine pq (qm (iO n30)) ?_
 refine pq (q_ixS rfl rfl h34a h34 (el71.trans (congrArg some h34b.symm))) ?_
 refine pq (q_loadI (v := iO n35) rfl sz3 (map_get h34) rfl rfl) ?_
 obtain ⟨s40, h39, h⟩ := bindS h
 refine ol_callM (r := r85) (l := s40) (args := [.one (.own k31 0 (l29).length), iO n35]) (ref03_Put_r (m + 0) h39) rfl rfl rfl rfl rfl rfl (vw_cons (vd_one (vc_own (r := r85) 0 rfl (fun x h m => rfl))) (vw_cons (vd_one vc_v) vw_nil)) rfl (fun k41 => ?_)
 refine pq (qa (.one (moC s40 k41))) ?_
 refine oE (bN (eS (lO ?_)))
 refine pq (qm (iO n30)) ?_
 refine pq (qb p_addY) ?_
 refine pq (qa (iO (IntKind.i64.wrap (n30 + 1)))) ?_
 refine oE ?_
 obtain ⟨_, h42, h⟩ := bindS h
 refine E_re 5 (v := .one (.own k41 0 (s40).length)) (Eq.trans (b := .one (moC s40 k41)) rfl (congrArg D.one (ne_moC h42).symm)) ?_
 refine E_reS 0 rfl (ne_moL h42).symm ?_
 obtain rfl := sj h
 exact E_next k41 (ups_self ⟨rfl, rfl, rfl, rfl, trivial⟩) [0] (by decide) rfl
 replace h := ifF c38 h
 refine pq (qb (p_lss_fZ c38)) ?_
 refine pq (qpt bf) ?_
 refine oE (eS (cF rfl (lK (bN (eS (lO ?_))))))
 refine pq (qm (iO n30)) ?_
 refine pq (qb p_addY) ?_
 refine pq (qa (iO (IntKind.i64.wrap (n30 + 1)))) ?_
 refine oE ?_
 obtain rfl := sj h
 exact E_next k31 (ups_self ⟨rfl, rfl, rfl, rfl, trivial⟩) [0] (by decide) rfl
 replace h := ifF c37 h
 refine pq (qb (p_lss_fZ c37)) ?_
 refine pq (qpt bf) ?_
 refine pq (qm bf) ?_
 iterate 5 refine os ?_
 refine pq (qpf bf) ?_
 refine oE (eS (cF rfl (lK (bN (eS (lO ?_))))))
 refine pq (qm (iO n30)) ?_
 refine pq (qb p_addY) ?_
 refine pq (qa (iO (IntKind.i64.wrap (n30 + 1)))) ?_
 refine oE ?_
 obtain rfl := sj h
 exact E_next k31 (ups_self ⟨rfl, rfl, rfl, rfl, trivial⟩) [0] (by decide) rfl
 replace h := ifF c36 h
 refine pq (qb (p_geq_fZ c36)) ?_
 refine pq (qm bf) ?_
 iterate 6 refine os ?_
 refine pq (qpf bf) ?_
 refine pq (qm bf) ?_
 iterate 5 refine os ?_
 refine pq (qpf bf) ?_
 refine oE (eS (cF rfl (lK (bN (eS (lO ?_))))))
 refine pq (qm (iO n30)) ?_
 refine pq (qb p_addY) ?_
 refine pq (qa (iO (IntKind.i64.wrap (n30 + 1)))) ?_
 refine oE ?_
 obtain rfl := sj h
 exact E_next k31 (ups_self ⟨rfl, rfl, rfl, rfl, trivial⟩) [0] (by decide) rfl
 replace h := ifF c32 h
 refine pq (qb (p_lss_fZ c32)) ?_
 refine oE (eS (cF rfl (L_exit ?_)))
 refine E_seqX ?_
 obtain rfl := sj h
 refine E_out ?_
 exact (E_exit k31 (ups_self ⟨rfl, trivial⟩) [0] (by decide) rfl)
 rintro (l43 | u) h
 refine J_x (fun k44 g => ?_)
 replace h := elimL h
 refine bH (eS (lS (lO ?_)))
 refine pq (qm (.one (.own k44 0 (l43).length))) ?_
 refine pq (qa (.one (.own k44 0 (l43).length))) ?_
 refine oE (eS (lR ?_))
 obtain rfl := sj h
 exact E_endO (r := r85) 0 (.inr rfl) (res_tmp rfl res_nil) rfl (fun x h m => rfl) (fun x => rfl)
 obtain rfl := Option.some.inj (elimR h)
 exact J_up (fun s hs => hs)

noncomputable def ref10_Of_b1 (s7 : Sl (Int × Int)) (a : List (Int) × Int × List (Int)) : Option ((List (Int) × Int × List (Int)) ⊕ ((List (Int) × List (Int)) ⊕ (Int × Sl (Int) × Sl (Int)))) :=
  match a with
  | (l58, n59, l60) => (if n59 < ((s7.l.length : Nat) : Int) then ((atS 2 s7 n59).bind fun (n66, n67) => ((app l58 ([n66] : List (Int))).bind fun _ => ((atL l60 n66).bind fun n77 => some (.inl ((l58 ++ ([n66] : List (Int))), (IntKind.i64.wrap (n59 + 1)), (l60.set n66.toNat n67)))))) else some (.inr (.inl (l58, l60))))
noncomputable def ref10_Of_b2 (s7 : Sl (Int × Int)) (a : List (Int) × Int × List (Int)) : Option ((List (Int) × Int × List (Int)) ⊕ ((List (Int) × List (Int)) ⊕ (Int × Sl (Int) × Sl (Int)))) :=
  match a with
  | (l133, n134, l135) => (if n134 < ((s7.l.length : Nat) : Int) then ((atS 2 s7 n134).bind fun (n141, n142) => ((app l133 ([n141] : List (Int))).bind fun _ => ((atL l135 n141).bind fun n152 => some (.inl ((l133 ++ ([n141] : List (Int))), (IntKind.i64.wrap (n134 + 1)), (l135.set n141.toNat n142)))))) else some (.inr (.inl (l133, l135))))
noncomputable def ref10_Of_b3 (s7 : Sl (Int × Int)) (a : List (Int) × Int × List (Int)) : Option ((List (Int) × Int × List (Int)) ⊕ ((List (Int) × List (Int)) ⊕ (Int × Sl (Int) × Sl (Int)))) :=
  match a with
  | (l207, n208, l209) => (if n208 < ((s7.l.length : Nat) : Int) then ((atS 2 s7 n208).bind fun (n215, n216) => ((app l207 ([n215] : List (Int))).bind fun _ => ((atL l209 n215).bind fun n226 => some (.inl ((l207 ++ ([n215] : List (Int))), (IntKind.i64.wrap (n208 + 1)), (l209.set n215.toNat n216)))))) else some (.inr (.inl (l207, l209))))
noncomputable def ref10_Of (a0 : Int × (Sl (Int × Int))) : Option ((Int × Sl (Int) × Sl (Int))) :=
  match a0 with
  | (n1, s2) => ((ref09_Sure (n1, s2)).bind fun (n6, s7) => (if n6 < 0 then ((ref03_New 0).bind fun s17 => ((lenOk 0).bind fun _ => ((loopO (ref10_Of_b1 s7) (([] : List (Int)), 0, (List.replicate (0 : Int).toNat (0 : Int)))).bind (Sum.elim (fun ⟨l78, l79⟩ => ((ref03_Of n6 (mo 1 l78)).bind fun s83 => some (0, (⟨true, 1, s83⟩ : Sl (Int)), (⟨true, 1, l79⟩ : Sl (Int))))) (fun u => some u))))) else (if n6 > 4096 then ((ref03_New 0).bind fun s92 => ((lenOk 0).bind fun _ => ((loopO (ref10_Of_b2 s7) (([] : List (Int)), 0, (List.replicate (0 : Int).toNat (0 : Int)))).bind (Sum.elim (fun ⟨l153, l154⟩ => ((ref03_Of n6 (mo 1 l153)).bind fun s158 => some (0, (⟨true, 1, s158⟩ : Sl (Int)), (⟨true, 1, l154⟩ : Sl (Int))))) (fun u => some u))))) else ((ref03_New n6).bind fun s166 => ((lenOk n6).bind fun _ => ((loopO (ref10_Of_b3 s7) (([] : List (Int)), 0, (List.replicate n6.toNat (0 : Int)))).bind (Sum.elim (fun ⟨l227, l228⟩ => ((ref03_Of n6 (mo 1 l227)).bind fun s232 => some (n6, (⟨true, 1, s232⟩ : Sl (Int)), (⟨true, 1, l228⟩ : Sl (Int))))) (fun u => some u))))))))
theorem ref10_Of_r (m : Nat) {a0 : Int × (Sl (Int × Int))} {out : (Int × Sl (Int) × Sl (Int))} (h : ref10_Of a0 = some out) : RunsP E1 (m + 4) 19 [.agg (r27 a0)] (.fresh, [.agg (r24 out)]) := by
 obtain ⟨n1, s2⟩ := a0
 refine fn_F rfl (by rw [E1_fn]; exact show fiOf Tryd.prog 19 = _ by unfold fiOf; rw [Tryd.func19]; unfold Tryd.f19; rfl) rfl ?_
 dsimp only
 unfold ref10_Of at h
 refine lS (lO ?_)
 refine ol_new rfl rfl rfl (q_box ty28 rfl (cs := [iI n1, sF r38 s2]) rfl rfl) (fun k3 => ?_)
 refine ol_new rfl rfl rfl (q_alloc ty25 (row := [iI 0, nC, nC]) rfl rfl) (fun k4 => ?_)
 refine oN ?_
 refine pq (ql (.agg [iI n1, sF r38 s2]) 1 sz28) ?_
 obtain ⟨⟨n6, s7⟩, h5, h⟩ := bindS h
 refine ol_putX rfl rfl rfl (q_callX (v := fun fr8 => .agg [iI n6, .p fr8 (Sl.t r38 s7)]) (args := [.agg [iI n1, sF r38 s2]]) (ref09_Sure_r (m + 1) h5) rfl rfl (vw_cons (vd_agg (vc_cons vc_v (vc_cons vc_s vc_nil))) vw_nil) rfl rfl (fun fr => rfl)) (fun fr8 => ?_)
 refine ow [[iI n6, .p fr8 (Sl.t r38 s7)]] 1 sz28 ?_
 refine oN ?_
 refine pq (q_fieldP rfl fa28_0 rfl) ?_
 refine pq (ql (iO n6) 1 sz3) ?_
 refine ol_scallN (args := [iO n6]) rfl rfl rfl ax21 (by rw [E1_fn]; exact show fiOf Tryd.prog 21 = _ by unfold fiOf; rw [Tryd.func21]; unfold Tryd.f21; rfl) rfl rfl rfl ?_
 dsimp only
 refine lS (lO ?_)
 refine ol_new rfl rfl rfl (q_alloc ty25 (row := [iI 0, nC, nC]) rfl rfl) (fun k9 => ?_)
 refine oE (eS (lS (lS (lO ?_))))
 refine pq (qm (iO n6)) ?_
 by_cases c10 : n6 < 0
 replace h := ifT c10 h
 refine pq (qb (p_lss_tZ c10)) ?_
 refine pq (qm bt) ?_
 iterate 2 refine os ?_
 refine pq (qpt bt) ?_
 refine oE (eS (cT rfl (lO ?_)))
 refine pq (qa (iO 0)) ?_
 refine oE (eS (lS ?_))
 refine L_norm (L2 := ([[(k9, 3, [[iI 0, nC, nC]])], [(k4, 3, [[iI 0, nC, nC]])], [(k3, 2, [[iI n6, .p fr8 (Sl.t r38 s7)]])]] : BL)) [0, 1, 2] (by decide) rfl ?_
 refine L_turn 7 rfl [[], [], [], [], [], [], [k9]] [(false, []), (false, []), (true, []), (false, []), (true, []), (false, []), (false, [])] [[1, 2, 3, 4], [0, 3, 4], [0, 3, 4], [0, 1, 2], [0, 1, 2], [], []] (by kernel_rfl) (by kernel_rfl) (by kernel_rfl) ?_ (fun bb11 hlt hnd => ?_)
 intro bb11 hlt hnd
 exact ⟨⟨djE, ⟨djE, ⟨djE, ⟨djE, ⟨djE, ⟨djE, ⟨djN, trivial⟩⟩⟩⟩⟩⟩⟩, (ltO_cons ltK_nil (ltO_cons ltK_nil (ltO_cons ltK_nil (ltO_cons ltK_nil (ltO_cons ltK_nil (ltO_cons ltK_nil (ltO_cons (ltK_cons (key_lt hlt 0 rfl) ltK_nil) ltO_nil)))))))⟩
 refine tq [] rfl hmn (qm (iO 0)) ?_
 refine tq [] rfl hmn (qm (iO 0)) ?_
 obtain ⟨s17, h16, h⟩ := bindS h
 refine tn_new rfl rfl rfl [] (by decide) rfl hmn rfl rfl (hkc (ne_new (key_lt hlt 0 rfl)) (hkc (ne_new (key_lt hlt 1 rfl)) (hkc (ne_new (key_lt hlt 2 rfl)) hkn))) (q_callO (args := [iO 0]) (ref03_New_r (m + 0) h16) rfl rfl (vw_cons (vd_one vc_v) vw_nil) rfl) ?_
 refine tq [] rfl hmn (qm (iO 0)) ?_
 obtain ⟨u18, h19, h⟩ := bindS h
 refine tn_new rfl rfl rfl [] (by decide) rfl hmn rfl rfl (hkc (ne_add rfl) (hkc (ne_new (key_lt hlt 0 rfl)) (hkc (ne_new (key_lt hlt 1 rfl)) (hkc (ne_new (key_lt hlt 2 rfl)) hkn)))) (q_mkslice (r := rowC r2) (a := (0 : Int)) ty23 rfl ty2 rfl rfl (lenOk_some h19).1 (lenOk_some h19).2 rfl rfl) ?_
 refine tq [] rfl (hm0 rfl) (q_build (cs := [iI 0, .own (bb11 + 2) 0 (s17).length, .own (bb11 + 4) 0 ((List.replicate (0 : Int).toNat (0 : Int))).length]) ty25 rfl pl25 rfl) ?_
 refine tn_wr rfl rfl [2] (by decide) rfl (hm0 rfl) rfl (q_store (es' := [[iI 0, .own (bb11 + 2) 0 (s17).length, .own (bb11 + 4) 0 ((List.replicate (0 : Int).toNat (0 : Int))).length]]) 0 rfl rfl rfl sz25 rfl rfl rfl rfl rfl) (q := 2) rfl rfl ?_
 refine tn_end (eS (lR ?_))
 refine E_call (v := .agg [iI 0, .own (bb11 + 2) 0 (s17).length, .own (bb11 + 4) 0 ((List.replicate (0 : Int).toNat (0 : Int))).length]) (.inr rfl) (res_cell (d := .agg [iI 0, .own (bb11 + 2) 0 (s17).length, .own (bb11 + 4) 0 ((List.replicate (0 : Int).toNat (0 : Int))).length]) 2 rfl sz25 rfl rfl rfl rfl res_nil) rfl ?_
 refine ol_new rfl rfl rfl (q_alloc ty25 (row := [iI 0, nC, nC]) rfl rfl) (fun k20 => ?_)
 refine ow [[iI 0, .own (bb11 + 2) 0 (s17).length, .own (bb11 + 4) 0 ((List.replicate (0 : Int).toNat (0 : Int))).length]] 0 sz25 ?_
 refine oN ?_
 refine pq (qa (.one nC)) ?_
 refine oE (eS (lS (lS (lO ?_))))
 refine pq (qa (iO 0)) ?_
 refine oE (eS (lB ?_))
 refine L_addM (α := Int) r3 1 ?_
 let S1 : (List (Int) × Int × List (Int)) → (Nat × Nat) → (Nat → D) → Nat → D := fun a kt g => ups g [(1, .one (.ptr k3 0 0)), (2, .one (.ptr k4 0 0)), (3, .one (.ptr k20 0 0)), (4, .one (moC a.1 kt.1)), (5, .one (iI a.2.1))]
 let SL1 : (List (Int) × Int × List (Int)) → (Nat × Nat) → BL := fun a kt => ([[(k3, 2, [[iI n6, .p fr8 (Sl.t r38 s7)]])], [(k4, 3, [[iI 0, nC, nC]])], [(k20, 3, [[iI 0, .own (bb11 + 2) 0 (s17).length, .own kt.2 0 (a.2.2).length]])], [((bb11 + 2), 1, (s17).map (rowC r85))], moL r3 1 a.1 kt.1, [(kt.2, 1, (a.2.2).map (rowC r2))]] : BL)
 let G1 : (Int × Sl (Int) × Sl (Int)) → Ex → St → Prop := fun u => endQ E1 [.cell 2 25] (.fresh, [.agg (r24 u)])
 let Sx1 : (List (Int) × List (Int)) → (Nat × Nat) → (Nat → D) → Nat → D := fun a kt g => ups g [(1, .one (.ptr k3 0 0)), (2, .one (.ptr k4 0 0)), (3, .one (.ptr k20 0 0)), (4, .one (moC a.1 kt.1))]
 let SLx1 : (List (Int) × List (Int)) → (Nat × Nat) → BL := fun a kt => ([[(k3, 2, [[iI n6, .p fr8 (Sl.t r38 s7)]])], [(k4, 3, [[iI 0, nC, nC]])], [(k20, 3, [[iI 0, .own (bb11 + 2) 0 (s17).length, .own kt.2 0 (a.2).length]])], [((bb11 + 2), 1, (s17).map (rowC r85))], moL r3 1 a.1 kt.1, [(kt.2, 1, (a.2).map (rowC r2))]] : BL)
 let J1 : ((List (Int) × List (Int)) ⊕ (Int × Sl (Int) × Sl (Int))) → Ex → St → Prop := JX 48 0 Sx1 SLx1 G1
 refine L_loopS (ref10_Of_b1 s7) S1 SL1 J1 JX_n (([] : List (Int)), 0, (List.replicate (0 : Int).toNat (0 : Int))) h (1056, (bb11 + 4)) (ups_self ⟨rfl, rfl, rfl, rfl, rfl, trivial⟩) [6, 5, 1, 3, 0, 2] (by decide) rfl ?_ ?_
 rintro ⟨l58, n59, l60⟩ ⟨k61, k62⟩ g out h
 change ref10_Of_b1 s7 (l58, n59, l60) = some out at h
 unfold ref10_Of_b1 at h
 refine lS (lS (lO ?_))
 refine pq (qm (iO n59)) ?_
 refine pq (q_fieldP rfl fa28_1 rfl) ?_
 refine pq (ql (.one (.p fr8 (Sl.t r38 s7))) 0 sz26) ?_
 refine pq (q_lenS rfl ty26 rfl rfl rfl rfl) ?_
 by_cases c63 : n59 < ((s7.l.length : Nat) : Int)
 replace h := ifT c63 h
 refine pq (qb (p_lss_tZ c63)) ?_
 refine oE (eS (cT rfl (lK (eS (lS (lB (lS (lO ?_))))))))
 refine pq (qm (.one (moC l58 k61))) ?_
 refine pq (q_fieldP rfl fa28_1 rfl) ?_
 refine pq (ql (.one (.p fr8 (Sl.t r38 s7))) 0 sz26) ?_
 refine pq (qm (iO n59)) ?_
 obtain ⟨⟨n66, n67⟩, h65, h⟩ := bindS h
 obtain ⟨h65a, h65b, h65⟩ := atS_some h65
 refine pq (q_ixS rfl rfl h65a h65 (el26.trans (congrArg some h65b.symm))) ?_
 refine pq (q_fieldI rfl fa39_0 rfl) ?_
 refine pq (q_loadI (v := iO n66) rfl sz3 (map_get h65) rfl rfl) ?_
 refine ol_new rfl rfl rfl (q_bslice (cs := [iI n66]) (es := (([n66] : List (Int))).map (rowC r3)) ty71 rfl ty3 rfl rfl rfl rfl rfl) (fun k68 => ?_)
 obtain ⟨_, h69, h⟩ := bindS h
 obtain ⟨h69b, rfl⟩ := app_some h69
 refine ol_appM (r := r3) (l := l58) (ys := ([n66] : List (Int))) 5 rfl rfl rfl rfl rfl rfl (el_ownM (l := ([n66] : List (Int))) 0 rfl) rfl h69 (fun y => rfl) el71 ty71 rfl rfl rfl rfl rfl (fun k70 => ?_)
 refine pq (qa (.one (moC (l58 ++ ([n66] : List (Int))) k70))) ?_
 refine oE (eS ?_)
 refine L_norm (L2 := ([moL r3 1 (l58 ++ ([n66] : List (Int))) k70, [(k3, 2, [[iI n6, .p fr8 (Sl.t r38 s7)]])], [(k4, 3, [[iI 0, nC, nC]])], [(k20, 3, [[iI 0, .own (bb11 + 2) 0 (s17).length, .own k62 0 (l60).length]])], [((bb11 + 2), 1, (s17).map (rowC r85))], [(k62, 1, (l60).map (rowC r2))]] : BL)) [0, 2, 3, 4, 5, 6] (by decide) rfl ?_
 refine L_turn 16 rfl [[], [], [], [], [], [], [], [], [], [], [], [], [], [], [], [k62]] [(false, []), (false, []), (false, []), (false, []), (false, []), (false, []), (false, []), (false, []), (false, []), (false, []), (false, []), (false, []), (false, []), (false, []), (false, []), (false, [])] [[2, 3, 4, 5, 6, 7, 8, 9, 10, 11, 12, 13], [2, 3, 4, 5, 6, 7, 8, 9, 10, 11, 12, 13], [0, 1, 4, 8, 9, 10, 11, 12, 13], [0, 1, 4, 8, 9, 10, 11, 12, 13], [0, 1, 2, 3, 8, 9, 10, 11, 12, 13], [0, 1, 8, 9, 10, 11, 12, 13], [0, 1, 8, 9, 10, 11, 12, 13], [0, 1, 8, 9, 10, 11, 12, 13], [0, 1, 2, 3, 4, 5, 6, 7, 10], [0, 1, 2, 3, 4, 5, 6, 7, 10], [0, 1, 2, 3, 4, 5, 6, 7, 8, 9], [0, 1, 2, 3, 4, 5, 6, 7], [0, 1, 2, 3, 4, 5, 6, 7], [0, 1, 2, 3, 4, 5, 6, 7], [], []] (by kernel_rfl) (by kernel_rfl) (by kernel_rfl) ?_ (fun bb71 hlt hnd => ?_)
 intro bb71 hlt hnd
 exact ⟨⟨djE, ⟨djE, ⟨djE, ⟨djE, ⟨djE, ⟨djE, ⟨djE, ⟨djE, ⟨djE, ⟨djE, ⟨djE, ⟨djE, ⟨djE, ⟨djE, ⟨djE, ⟨djN, trivial⟩⟩⟩⟩⟩⟩⟩⟩⟩⟩⟩⟩⟩⟩⟩⟩, (ltO_cons ltK_nil (ltO_cons ltK_nil (ltO_cons ltK_nil (ltO_cons ltK_nil (ltO_cons ltK_nil (ltO_cons ltK_nil (ltO_cons ltK_nil (ltO_cons ltK_nil (ltO_cons ltK_nil (ltO_cons ltK_nil (ltO_cons ltK_nil (ltO_cons ltK_nil (ltO_cons ltK_nil (ltO_cons ltK_nil (ltO_cons ltK_nil (ltO_cons (ltK_cons (key_lt hlt 5 rfl) ltK_nil) ltO_nil))))))))))))))))⟩
 have e_k70 : (l58 ++ ([n66] : List (Int))) = [] ∨ k70 < bb71 := key_ltM (r := r3) (w := 1) hlt 0 rfl
 refine tq [] rfl (hm0 rfl) (q_fieldP rfl fa25_2 rfl) ?_
 refine tq [3] rfl (hm0 rfl) (ql (.one (.own k62 0 (l60).length)) 0 sz23) ?_
 refine tq [] rfl (hm0 rfl) (q_fieldP rfl fa28_1 rfl) ?_
 refine tq [1] rfl (hm0 rfl) (ql (.one (.p fr8 (Sl.t r38 s7))) 0 sz26) ?_
 refine tq [] rfl (hm0 rfl) (qm (iO n59)) ?_
 refine tq [] rfl (hm0 rfl) (q_ixS rfl rfl h65a h65 (el26.trans (congrArg some h65b.symm))) ?_
 refine tq [] rfl (hm0 rfl) (q_fieldI rfl fa39_0 rfl) ?_
 refine tq [] rfl (hm0 rfl) (q_loadI (v := iO n66) rfl sz3 (map_get h65) rfl rfl) ?_
 refine tq [] rfl (hm0 rfl) (q_fieldP rfl fa28_1 rfl) ?_
 refine tq [1] rfl (hm0 rfl) (ql (.one (.p fr8 (Sl.t r38 s7))) 0 sz26) ?_
 refine tq [] rfl (hm0 rfl) (qm (iO n59)) ?_
 refine tq [] rfl (hm0 rfl) (q_ixS rfl rfl h65a h65 (el26.trans (congrArg some h65b.symm))) ?_
 refine tq [] rfl (hm0 rfl) (q_fieldI rfl fa39_1 rfl) ?_
 refine tq [] rfl (hm0 rfl) (q_loadI (v := iO n67) rfl sz2 (map_get h65) rfl rfl) ?_
 obtain ⟨n77, h76, h⟩ := bindS h
 obtain ⟨h76a, h76⟩ := atL_some h76
 refine tq [5] rfl (hm0 rfl) (q_ixO 0 rfl rfl h76a h76 rfl el23) ?_
 refine tn_wr rfl rfl [5] (by decide) rfl (hm0 rfl) rfl (q_store (e' := rowC r2 n67) (es' := ((l60.set n66.toNat n67)).map (rowC r2)) 0 rfl rfl rfl sz2 rfl rfl (map_get h76) rfl map_set) (q := 5) rfl rfl ?_
 refine tn_re 28 (v := .one (.own k62 0 ((l60.set n66.toNat n67)).length)) (Eq.trans (b := .one (.own k62 0 (l60).length)) rfl (congrArg D.one own_setC)) ?_
 refine tn_reS 3 (s' := [(k20, 3, [[iI 0, .own (bb11 + 2) 0 (s17).length, .own k62 0 ((l60.set n66.toNat n67)).length]])]) rfl (congrArg (fun z => ([(k20, 3, [[iI 0, .own (bb11 + 2) 0 (s17).length, z]])] : List B1)) own_setC) ?_
 refine tn_end (bN (eS (lO ?_)))
 refine pq (qm (iO n59)) ?_
 refine pq (qb p_addY) ?_
 refine pq (qa (iO (IntKind.i64.wrap (n59 + 1)))) ?_
 refine oE ?_
 obtain rfl := sj h
 exact E_next (k70, k62) (ups_self ⟨rfl, rfl, rfl, rfl, rfl, trivial⟩) [1, 2, 3, 4, 0, 5] (by decide) rfl
 replace h := ifF c63 h
 refine pq (qb (p_lss_fZ c63)) ?_
 refine oE (eS (cF rfl (L_exit ?_)))
 refine E_seqX ?_
 obtain rfl := sj h
 refine E_out ?_
 exact (E_exit (k61, k62) (ups_self ⟨rfl, rfl, rfl, rfl, trivial⟩) [0, 1, 2, 3, 4, 5] (by decide) rfl)
 rintro (⟨l78, l79⟩ | u) h
 refine J_x (fun kt g => ?_)
 rcases kt with ⟨k80, k81⟩
 replace h := elimL h
 refine bH (eS (lS (lO ?_)))
 refine pq (q_fieldP rfl fa28_0 rfl) ?_
 refine pq (ql (iO n6) 0 sz3) ?_
 refine pq (qm (.one (moC l78 k80))) ?_
 obtain ⟨s83, h82, h⟩ := bindS h
 refine ol_new rfl rfl rfl (q_callO (args := [iO n6, .one (moC l78 k80)]) (ref03_Of_r (m + 0) h82) rfl rfl (vw_cons (vd_one vc_v) (vw_cons (vd_one (vc_M (r := r3) 4 rfl (fun x h m => rfl))) vw_nil)) rfl) (fun k84 => ?_)
 refine pq (q_fieldP rfl fa25_1 rfl) ?_
 refine ow [[iI 0, .own k84 0 (s83).length, .own k81 0 (l79).length]] 3 sz22 ?_
 refine oN ?_
 refine pq (ql (.agg [iI 0, .own k84 0 (s83).length, .own k81 0 (l79).length]) 3 sz25) ?_
 refine ow [[iI 0, .own k84 0 (s83).length, .own k81 0 (l79).length]] 2 sz25 ?_
 refine oE (eS (lR ?_))
 obtain rfl := sj h
 exact E_endF (.inr rfl) (res_cell (d := .agg [iI 0, .own k84 0 (s83).length, .own k81 0 (l79).length]) 2 rfl sz25 rfl rfl rfl rfl res_nil) (vw_cons (vd_agg (vc_cons vc_v (vc_cons (vc_own (r := r85) 0 rfl (fun x h m => rfl)) (vc_cons (vc_own (r := r2) 6 rfl (fun x h m => rfl)) vc_nil)))) vw_nil) oG rfl rfl
 obtain rfl := Option.some.inj (elimR h)
 exact J_up (fun s hs => hs)
 replace h := ifF c10 h
 refine pq (qb (p_lss_fZ c10)) ?_
 refine pq (qm bf) ?_
 refine pq (qm (iO n6)) ?_
 by_cases c85 : n6 > 4096
 replace h := ifT c85 h
 refine pq (qb (p_gtr_tZ c85)) ?_
 refine pq (qpf bt) ?_
 refine oE (eS (cT rfl (lO ?_)))
 refine pq (qa (iO 0)) ?_
 refine oE (eS (lS ?_))
 refine L_norm (L2 := ([[(k9, 3, [[iI 0, nC, nC]])], [(k4, 3, [[iI 0, nC, nC]])], [(k3, 2, [[iI n6, .p fr8 (Sl.t r38 s7)]])]] : BL)) [0, 1, 2] (by decide) rfl ?_
 refine L_turn 7 rfl [[], [], [], [], [], [], [k9]] [(false, []), (false, []), (true, []), (false, []), (true, []), (false, []), (false, [])] [[1, 2, 3, 4], [0, 3, 4], [0, 3, 4], [0, 1, 2], [0, 1, 2], [], []] (by kernel_rfl) (by kernel_rfl) (by kernel_rfl) ?_ (fun bb86 hlt hnd => ?_)
 intro bb86 hlt hnd
 exact ⟨⟨djE, ⟨djE, ⟨djE, ⟨djE, ⟨djE, ⟨djE, ⟨djN, trivial⟩⟩⟩⟩⟩⟩⟩, (ltO_cons ltK_nil (ltO_cons ltK_nil (ltO_cons ltK_nil (ltO_cons ltK_nil (ltO_cons ltK_nil (ltO_cons ltK_nil (ltO_cons (ltK_cons (key_lt hlt 0 rfl) ltK_nil) ltO_nil)))))))⟩
 refine tq [] rfl hmn (qm (iO 0)) ?_
 refine tq [] rfl hmn (qm (iO 0)) ?_
 obtain ⟨s92, h91, h⟩ := bindS h
 refine tn_new rfl rfl rfl [] (by decide) rfl hmn rfl rfl (hkc (ne_new (key_lt hlt 0 rfl)) (hkc (ne_new (key_lt hlt 1 rfl)) (hkc (ne_new (key_lt hlt 2 rfl)) hkn))) (q_callO (args := [iO 0]) (ref03_New_r (m + 0) h91) rfl rfl (vw_cons (vd_one vc_v) vw_nil) rfl) ?_
 refine tq [] rfl hmn (qm (iO 0)) ?_
 obtain ⟨u93, h94, h⟩ := bindS h
 refine tn_new rfl rfl rfl [] (by decide) rfl hmn rfl rfl (hkc (ne_add rfl) (hkc (ne_new (key_lt hlt 0 rfl)) (hkc (ne_new (key_lt hlt 1 rfl)) (hkc (ne_new (key_lt hlt 2 rfl)) hkn)))) (q_mkslice (r := rowC r2) (a := (0 : Int)) ty23 rfl ty2 rfl rfl (lenOk_some h94).1 (lenOk_some h94).2 rfl rfl) ?_
 refine tq [] rfl (hm0 rfl) (q_build (cs := [iI 0, .own (bb86 + 2) 0 (s92).length, .own (bb86 + 4) 0 ((List.replicate (0 : Int).toNat (0 : Int))).length]) ty25 rfl pl25 rfl) ?_
 refine tn_wr rfl rfl [2] (by decide) rfl (hm0 rfl) rfl (q_store (es' := [[iI 0, .own (bb86 + 2) 0 (s92).length, .own (bb86 + 4) 0 ((List.replicate (0 : Int).toNat (0 : Int))).length]]) 0 rfl rfl rfl sz25 rfl rfl rfl rfl rfl) (q := 2) rfl rfl ?_
 refine tn_end (eS (lR ?_))
 refine E_call (v := .agg [iI 0, .own (bb86 + 2) 0 (s92).length, .own (bb86 + 4) 0 ((List.replicate (0 : Int).toNat (0 : Int))).length]) (.inr rfl) (res_cell (d := .agg [iI 0, .own (bb86 + 2) 0 (s92).length, .own (bb86 + 4) 0 ((List.replicate (0 : Int).toNat (0 : Int))).length]) 2 rfl sz25 rfl rfl rfl rfl res_nil) rfl ?_
 refine ol_new rfl rfl rfl (q_alloc ty25 (row := [iI 0, nC, nC]) rfl rfl) (fun k95 => ?_)
 refine ow [[iI 0, .own (bb86 + 2) 0 (s92).length, .own (bb86 + 4) 0 ((List.replicate (0 : Int).toNat (0 : Int))).length]] 0 sz25 ?_
 refine oN ?_
 refine pq (qa (.one nC)) ?_
 refine oE (eS (lS (lS (lO ?_))))
 refine pq (qa (iO 0)) ?_
 refine oE (eS (lB ?_))
 refine L_addM (α := Int) r3 1 ?_
 let S2 : (List (Int) × Int × List (Int)) → (Nat × Nat) → (Nat → D) → Nat → D := fun a kt g => ups g [(1, .one (.ptr k3 0 0)), (2, .one (.ptr k4 0 0)), (3, .one (.ptr k95 0 0)), (4, .one (moC a.1 kt.1)), (5, .one (iI a.2.1))]
 let SL2 : (List (Int) × Int × List (Int)) → (Nat × Nat) → BL := fun a kt => ([[(k3, 2, [[iI n6, .p fr8 (Sl.t r38 s7)]])], [(k4, 3, [[iI 0, nC, nC]])], [(k95, 3, [[iI 0, .own (bb86 + 2) 0 (s92).length, .own kt.2 0 (a.2.2).length]])], [((bb86 + 2), 1, (s92).map (rowC r85))], moL r3 1 a.1 kt.1, [(kt.2, 1, (a.2.2).map (rowC r2))]] : BL)
 let G2 : (Int × Sl (Int) × Sl (Int)) → Ex → St → Prop := fun u => endQ E1 [.cell 2 25] (.fresh, [.agg (r24 u)])
 let Sx2 : (List (Int) × List (Int)) → (Nat × Nat) → (Nat → D) → Nat → D := fun a kt g => ups g [(1, .one (.ptr k3 0 0)), (2, .one (.ptr k4 0 0)), (3, .one (.ptr k95 0 0)), (4, .one (moC a.1 kt.1))]
 let SLx2 : (List (Int) × List (Int)) → (Nat × Nat) → BL := fun a kt => ([[(k3, 2, [[iI n6, .p fr8 (Sl.t r38 s7)]])], [(k4, 3, [[iI 0, nC, nC]])], [(k95, 3, [[iI 0, .own (bb86 + 2) 0 (s92).length, .own kt.2 0 (a.2).length]])], [((bb86 + 2), 1, (s92).map (rowC r85))], moL r3 1 a.1 kt.1, [(kt.2, 1, (a.2).map (rowC r2))]] : BL)
 let J2 : ((List (Int) × List (Int)) ⊕ (Int × Sl (Int) × Sl (Int))) → Ex → St → Prop := JX 48 0 Sx2 SLx2 G2
 refine L_loopS (ref10_Of_b2 s7) S2 SL2 J2 JX_n (([] : List (Int)), 0, (List.replicate (0 : Int).toNat (0 : Int))) h (1131, (bb86 + 4)) (ups_self ⟨rfl, rfl, rfl, rfl, rfl, trivial⟩) [6, 5, 1, 3, 0, 2] (by decide) rfl ?_ ?_
 rintro ⟨l133, n134, l135⟩ ⟨k136, k137⟩ g out h
 change ref10_Of_b2 s7 (l133, n134, l135) = some out at h
 unfold ref10_Of_b2 at h
 refine lS (lS (lO ?_))
 refine pq (qm (iO n134)) ?_
 refine pq (q_fieldP rfl fa28_1 rfl) ?_
 refine pq (ql (.one (.p fr8 (Sl.t r38 s7))) 0 sz26) ?_
 refine pq (q_lenS rfl ty26 rfl rfl rfl rfl) ?_
 by_cases c138 : n134 < ((s7.l.length : Nat) : Int)
 replace h := ifT c138 h
 refine pq (qb (p_lss_tZ c138)) ?_
 refine oE (eS (cT rfl (lK (eS (lS (lB (lS (lO ?_))))))))
 refine pq (qm (.one (moC l133 k136))) ?_
 refine pq (q_fieldP rfl fa28_1 rfl) ?_
 refine pq (ql (.one (.p fr8 (Sl.t r38 s7))) 0 sz26) ?_
 refine pq (qm (iO n134)) ?_
 obtain ⟨⟨n141, n142⟩, h140, h⟩ := bindS h
 obtain ⟨h140a, h140b, h140⟩ := atS_some h140
 refine pq (q_ixS rfl rfl h140a h140 (el26.trans (congrArg some h140b.symm))) ?_
 refine pq (q_fieldI rfl fa39_0 rfl) ?_
 refine pq (q_loadI (v := iO n141) rfl sz3 (map_get h140) rfl rfl) ?_
 refine ol_new rfl rfl rfl (q_bslice (cs := [iI n141]) (es := (([n141] : List (Int))).map (rowC r3)) ty71 rfl ty3 rfl rfl rfl rfl rfl) (fun k143 => ?_)
 obtain ⟨_, h144, h⟩ := bindS h
 obtain ⟨h144b, rfl⟩ := app_some h144
 refine ol_appM (r := r3) (l := l133) (ys := ([n141] : List (Int))) 5 rfl rfl rfl rfl rfl rfl (el_ownM (l := ([n141] : List (Int))) 0 rfl) rfl h144 (fun y => rfl) el71 ty71 rfl rfl rfl rfl rfl (fun k145 => ?_)
 refine pq (qa (.one (moC (l133 ++ ([n141] : List (Int))) k145))) ?_
 refine oE (eS ?_)
 refine L_norm (L2 := ([moL r3 1 (l133 ++ ([n141] : List (Int))) k145, [(k3, 2, [[iI n6, .p fr8 (Sl.t r38 s7)]])], [(k4, 3, [[iI 0, nC, nC]])], [(k95, 3, [[iI 0, .own (bb86 + 2) 0 (s92).length, .own k137 0 (l135).length]])], [((bb86 + 2), 1, (s92).map (rowC r85))], [(k137, 1, (l135).map (rowC r2))]] : BL)) [0, 2, 3, 4, 5, 6] (by decide) rfl ?_
 refine L_turn 16 rfl [[], [], [], [], [], [], [], [], [], [], [], [], [], [], [], [k137]] [(false, []), (false, []), (false, []), (false, []), (false, []), (false, []), (false, []), (false, []), (false, []), (false, []), (false, []), (false, []), (false, []), (false, []), (false, []), (false, [])] [[2, 3, 4, 5, 6, 7, 8, 9, 10, 11, 12, 13], [2, 3, 4, 5, 6, 7, 8, 9, 10, 11, 12, 13], [0, 1, 4, 8, 9, 10, 11, 12, 13], [0, 1, 4, 8, 9, 10, 11, 12, 13], [0, 1, 2, 3, 8, 9, 10, 11, 12, 13], [0, 1, 8, 9, 10, 11, 12, 13], [0, 1, 8, 9, 10, 11, 12, 13], [0, 1, 8, 9, 10, 11, 12, 13], [0, 1, 2, 3, 4, 5, 6, 7, 10], [0, 1, 2, 3, 4, 5, 6, 7, 10], [0, 1, 2, 3, 4, 5, 6, 7, 8, 9], [0, 1, 2, 3, 4, 5, 6, 7], [0, 1, 2, 3, 4, 5, 6, 7], [0, 1, 2, 3, 4, 5, 6, 7], [], []] (by kernel_rfl) (by kernel_rfl) (by kernel_rfl) ?_ (fun bb146 hlt hnd => ?_)
 intro bb146 hlt hnd
 exact ⟨⟨djE, ⟨djE, ⟨djE, ⟨djE, ⟨djE, ⟨djE, ⟨djE, ⟨djE, ⟨djE, ⟨djE, ⟨djE, ⟨djE, ⟨djE, ⟨djE, ⟨djE, ⟨djN, trivial⟩⟩⟩⟩⟩⟩⟩⟩⟩⟩⟩⟩⟩⟩⟩⟩, (ltO_cons ltK_nil (ltO_cons ltK_nil (ltO_cons ltK_nil (ltO_cons ltK_nil (ltO_cons ltK_nil (ltO_cons ltK_nil (ltO_cons ltK_nil (ltO_cons ltK_nil (ltO_cons ltK_nil (ltO_cons ltK_nil (ltO_cons ltK_nil (ltO_cons ltK_nil (ltO_cons ltK_nil (ltO_cons ltK_nil (ltO_cons ltK_nil (ltO_cons (ltK_cons (key_lt hlt 5 rfl) ltK_nil) ltO_nil))))))))))))))))⟩
 have e_k145 : (l133 ++ ([n141] : List (Int))) = [] ∨ k145 < bb146 := key_ltM (r := r3) (w := 1) hlt 0 rfl
 refine tq [] rfl (hm0 rfl) (q_fieldP rfl fa25_2 rfl) ?_
 refine tq [3] rfl (hm0 rfl) (ql (.one (.own k137 0 (l135).length)) 0 sz23) ?_
 refine tq [] rfl (hm0 rfl) (q_fieldP rfl fa28_1 rfl) ?_
 refine tq [1] rfl (hm0 rfl) (ql (.one (.p fr8 (Sl.t r38 s7))) 0 sz26) ?_
 refine tq [] rfl (hm0 rfl) (qm (iO n134)) ?_
 refine tq [] rfl (hm0 rfl) (q_ixS rfl rfl h140a h140 (el26.trans (congrArg some h140b.symm))) ?_
 refine tq [] rfl (hm0 rfl) (q_fieldI rfl fa39_0 rfl) ?_
 refine tq [] rfl (hm0 rfl) (q_loadI (v := iO n141) rfl sz3 (map_get h140) rfl rfl) ?_
 refine tq [] rfl (hm0 rfl) (q_fieldP rfl fa28_1 rfl) ?_
 refine tq [1] rfl (hm0 rfl) (ql (.one (.p fr8 (Sl.t r38 s7))) 0 sz26) ?_
 refine tq [] rfl (hm0 rfl) (qm (iO n134)) ?_
 refine tq [] rfl (hm0 rfl) (q_ixS rfl rfl h140a h140 (el26.trans (congrArg some h140b.symm))) ?_
 refine tq [] rfl (hm0 rfl) (q_fieldI rfl fa39_1 rfl) ?_
 refine tq [] rfl (hm0 rfl) (q_loadI (v := iO n142) rfl sz2 (map_get h140) rfl rfl) ?_
 obtain ⟨n152, h151, h⟩ := bindS h
 obtain ⟨h151a, h151⟩ := atL_some h151
 refine tq [5] rfl (hm0 rfl) (q_ixO 0 rfl rfl h151a h151 rfl el23) ?_
 refine tn_wr rfl rfl [5] (by decide) rfl (hm0 rfl) rfl (q_store (e' := rowC r2 n142) (es' := ((l135.set n141.toNat n142)).map (rowC r2)) 0 rfl rfl rfl sz2 rfl rfl (map_get h151) rfl map_set) (q := 5) rfl rfl ?_
 refine tn_re 28 (v := .one (.own k137 0 ((l135.set n141.toNat n142)).length)) (Eq.trans (b := .one (.own k137 0 (l135).length)) rfl (congrArg D.one own_setC)) ?_
 refine tn_reS 3 (s' := [(k95, 3, [[iI 0, .own (bb86 + 2) 0 (s92).length, .own k137 0 ((l135.set n141.toNat n142)).length]])]) rfl (congrArg (fun z => ([(k95, 3, [[iI 0, .own (bb86 + 2) 0 (s92).length, z]])] : List B1)) own_setC) ?_
 refine tn_end (bN (eS (lO ?_)))
 refine pq (qm (iO n134)) ?_
 refine pq (qb p_addY) ?_
 refine pq (qa (iO (IntKind.i64.wrap (n134 + 1)))) ?_
 refine oE ?_
 obtain rfl := sj h
 exact E_next (k145, k137) (ups_self ⟨rfl, rfl, rfl, rfl, rfl, trivial⟩) [1, 2, 3, 4, 0, 5] (by decide) rfl
 replace h := ifF c138 h
 refine pq (qb (p_lss_fZ c138)) ?_
 refine oE (eS (cF rfl (L_exit ?_)))
 refine E_seqX ?_
 obtain rfl := sj h
 refine E_out ?_
 exact (E_exit (k136, k137) (ups_self ⟨rfl, rfl, rfl, rfl, trivial⟩) [0, 1, 2, 3, 4, 5] (by decide) rfl)
 rintro (⟨l153, l154⟩ | u) h
 refine J_x (fun kt g => ?_)
 rcases kt with ⟨k155, k156⟩
 replace h := elimL h
 refine bH (eS (lS (lO ?_)))
 refine pq (q_fieldP rfl fa28_0 rfl) ?_
 refine pq (ql (iO n6) 0 sz3) ?_
 refine pq (qm (.one (moC l153 k155))) ?_
 obtain ⟨s158, h157, h⟩ := bindS h
 refine ol_new rfl rfl rfl (q_callO (args := [iO n6, .one (moC l153 k155)]) (ref03_Of_r (m + 0) h157) rfl rfl (vw_cons (vd_one vc_v) (vw_cons (vd_one (vc_M (r := r3) 4 rfl (fun x h m => rfl))) vw_nil)) rfl) (fun k159 => ?_)
 refine pq (q_fieldP rfl fa25_1 rfl) ?_
 refine ow [[iI 0, .own k159 0 (s158).length, .own k156 0 (l154).length]] 3 sz22 ?_
 refine oN ?_
 refine pq (ql (.agg [iI 0, .own k159 0 (s158).length, .own k156 0 (l154).length]) 3 sz25) ?_
 refine ow [[iI 0, .own k159 0 (s158).length, .own k156 0 (l154).length]] 2 sz25 ?_
 refine oE (eS (lR ?_))
 obtain rfl := sj h
 exact E_endF (.inr rfl) (res_cell (d := .agg [iI 0, .own k159 0 (s158).length, .own k156 0 (l154).length]) 2 rfl sz25 rfl rfl rfl rfl res_nil) (vw_cons (vd_agg (vc_cons vc_v (vc_cons (vc_own (r := r85) 0 rfl (fun x h m => rfl)) (vc_cons (vc_own (r := r2) 6 rfl (fun x h m => rfl)) vc_nil)))) vw_nil) oG rfl rfl
 obtain rfl := Option.some.inj (elimR h)
 exact J_up (fun s hs => hs)
 replace h := ifF c85 h
 refine pq (qb (p_gtr_fZ c85)) ?_
 refine pq (qpf bf) ?_
 refine oE (eS (cF rfl (lK (eS (lS ?_)))))
 refine L_norm (L2 := ([[(k9, 3, [[iI 0, nC, nC]])], [(k4, 3, [[iI 0, nC, nC]])], [(k3, 2, [[iI n6, .p fr8 (Sl.t r38 s7)]])]] : BL)) [0, 1, 2] (by decide) rfl ?_
 refine L_turn 7 rfl [[], [], [], [], [], [], [k9]] [(false, []), (false, []), (true, []), (false, []), (true, []), (false, []), (false, [])] [[1, 2, 3, 4], [0, 3, 4], [0, 3, 4], [0, 1, 2], [0, 1, 2], [], []] (by kernel_rfl) (by kernel_rfl) (by kernel_rfl) ?_ (fun bb160 hlt hnd => ?_)
 intro bb160 hlt hnd
 exact ⟨⟨djE, ⟨djE, ⟨djE, ⟨djE, ⟨djE, ⟨djE, ⟨djN, trivial⟩⟩⟩⟩⟩⟩⟩, (ltO_cons ltK_nil (ltO_cons ltK_nil (ltO_cons ltK_nil (ltO_cons ltK_nil (ltO_cons ltK_nil (ltO_cons ltK_nil (ltO_cons (ltK_cons (key_lt hlt 0 rfl) ltK_nil) ltO_nil)))))))⟩
 refine tq [] rfl hmn (qm (iO n6)) ?_
 refine tq [] rfl hmn (qm (iO n6)) ?_
 obtain ⟨s166, h165, h⟩ := bindS h
 refine tn_new rfl rfl rfl [] (by decide) rfl hmn rfl rfl (hkc (ne_new (key_lt hlt 0 rfl)) (hkc (ne_new (key_lt hlt 1 rfl)) (hkc (ne_new (key_lt hlt 2 rfl)) hkn))) (q_callO (args := [iO n6]) (ref03_New_r (m + 0) h165) rfl rfl (vw_cons (vd_one vc_v) vw_nil) rfl) ?_
 refine tq [] rfl hmn (qm (iO n6)) ?_
 obtain ⟨u167, h168, h⟩ := bindS h
 refine tn_new rfl rfl rfl [] (by decide) rfl hmn rfl rfl (hkc (ne_add rfl) (hkc (ne_new (key_lt hlt 0 rfl)) (hkc (ne_new (key_lt hlt 1 rfl)) (hkc (ne_new (key_lt hlt 2 rfl)) hkn)))) (q_mkslice (r := rowC r2) (a := (0 : Int)) ty23 rfl ty2 rfl rfl (lenOk_some h168).1 (lenOk_some h168).2 rfl rfl) ?_
 refine tq [] rfl (hm0 rfl) (q_build (cs := [iI n6, .own (bb160 + 2) 0 (s166).length, .own (bb160 + 4) 0 ((List.replicate n6.toNat (0 : Int))).length]) ty25 rfl pl25 rfl) ?_
 refine tn_wr rfl rfl [2] (by decide) rfl (hm0 rfl) rfl (q_store (es' := [[iI n6, .own (bb160 + 2) 0 (s166).length, .own (bb160 + 4) 0 ((List.replicate n6.toNat (0 : Int))).length]]) 0 rfl rfl rfl sz25 rfl rfl rfl rfl rfl) (q := 2) rfl rfl ?_
 refine tn_end (eS (lR ?_))
 refine E_call (v := .agg [iI n6, .own (bb160 + 2) 0 (s166).length, .own (bb160 + 4) 0 ((List.replicate n6.toNat (0 : Int))).length]) (.inr rfl) (res_cell (d := .agg [iI n6, .own (bb160 + 2) 0 (s166).length, .own (bb160 + 4) 0 ((List.replicate n6.toNat (0 : Int))).length]) 2 rfl sz25 rfl rfl rfl rfl res_nil) rfl ?_
 refine ol_new rfl rfl rfl (q_alloc ty25 (row := [iI 0, nC, nC]) rfl rfl) (fun k169 => ?_)
 refine ow [[iI n6, .own (bb160 + 2) 0 (s166).length, .own (bb160 + 4) 0 ((List.replicate n6.toNat (0 : Int))).length]] 0 sz25 ?_
 refine oN ?_
 refine pq (qa (.one nC)) ?_
 refine oE (eS (lS (lS (lO ?_))))
 refine pq (qa (iO 0)) ?_
 refine oE (eS (lB ?_))
 refine L_addM (α := Int) r3 1 ?_
 let S3 : (List (Int) × Int × List (Int)) → (Nat × Nat) → (Nat → D) → Nat → D := fun a kt g => ups g [(1, .one (.ptr k3 0 0)), (2, .one (.ptr k4 0 0)), (3, .one (.ptr k169 0 0)), (4, .one (moC a.1 kt.1)), (5, .one (iI a.2.1))]
 let SL3 : (List (Int) × Int × List (Int)) → (Nat × Nat) → BL := fun a kt => ([[(k3, 2, [[iI n6, .p fr8 (Sl.t r38 s7)]])], [(k4, 3, [[iI 0, nC, nC]])], [(k169, 3, [[iI n6, .own (bb160 + 2) 0 (s166).length, .own kt.2 0 (a.2.2).length]])], [((bb160 + 2), 1, (s166).map (rowC r85))], moL r3 1 a.1 kt.1, [(kt.2, 1, (a.2.2).map (rowC r2))]] : BL)
 let G3 : (Int × Sl (Int) × Sl (Int)) → Ex → St → Prop := fun u => endQ E1 [.cell 2 25] (.fresh, [.agg (r24 u)])
 let Sx3 : (List (Int) × List (Int)) → (Nat × Nat) → (Nat → D) → Nat → D := fun a kt g => ups g [(1, .one (.ptr k3 0 0)), (2, .one (.ptr k4 0 0)), (3, .one (.ptr k169 0 0)), (4, .one (moC a.1 kt.1))]
 let SLx3 : (List (Int) × List (Int)) → (Nat × Nat) → BL := fun a kt => ([[(k3, 2, [[iI n6, .p fr8 (Sl.t r38 s7)]])], [(k4, 3, [[iI 0, nC, nC]])], [(k169, 3, [[iI n6, .own (bb160 + 2) 0 (s166).length, .own kt.2 0 (a.2).length]])], [((bb160 + 2), 1, (s166).map (rowC r85))], moL r3 1 a.1 kt.1, [(kt.2, 1, (a.2).map (rowC r2))]] : BL)
 let J3 : ((List (Int) × List (Int)) ⊕ (Int × Sl (Int) × Sl (Int))) → Ex → St → Prop := JX 48 0 Sx3 SLx3 G3
 refine L_loopS (ref10_Of_b3 s7) S3 SL3 J3 JX_n (([] : List (Int)), 0, (List.replicate n6.toNat (0 : Int))) h (1205, (bb160 + 4)) (ups_self ⟨rfl, rfl, rfl, rfl, rfl, trivial⟩) [6, 5, 1, 3, 0, 2] (by decide) rfl ?_ ?_
 rintro ⟨l207, n208, l209⟩ ⟨k210, k211⟩ g out h
 change ref10_Of_b3 s7 (l207, n208, l209) = some out at h
 unfold ref10_Of_b3 at h
 refine lS (lS (lO ?_))
 refine pq (qm (iO n208)) ?_
 refine pq (q_fieldP rfl fa28_1 rfl) ?_
 refine pq (ql (.one (.p fr8 (Sl.t r38 s7))) 0 sz26) ?_
 refine pq (q_lenS rfl ty26 rfl rfl rfl rfl) ?_
 by_cases c212 : n208 < ((s7.l.length : Nat) : Int)
 replace h := ifT c212 h
 refine pq (qb (p_lss_tZ c212)) ?_
 refine oE (eS (cT rfl (lK (eS (lS (lB (lS (lO ?_))))))))
 refine pq (qm (.one (moC l207 k210))) ?_
 refine pq (q_fieldP rfl fa28_1 rfl) ?_
 refine pq (ql (.one (.p fr8 (Sl.t r38 s7))) 0 sz26) ?_
 refine pq (qm (iO n208)) ?_
 obtain ⟨⟨n215, n216⟩, h214, h⟩ := bindS h
 obtain ⟨h214a, h214b, h214⟩ := atS_some h214
 refine pq (q_ixS rfl rfl h214a h214 (el26.trans (congrArg some h214b.symm))) ?_
 refine pq (q_fieldI rfl fa39_0 rfl) ?_
 refine pq (q_loadI (v := iO n215) rfl sz3 (map_get h214) rfl rfl) ?_
 refine ol_new rfl rfl rfl (q_bslice (cs := [iI n215]) (es := (([n215] : List (Int))).map (rowC r3)) ty71 rfl ty3 rfl rfl rfl rfl rfl) (fun k217 => ?_)
 obtain ⟨_, h218, h⟩ := bindS h
 obtain ⟨h218b, rfl⟩ := app_some h218
 refine ol_appM (r := r3) (l := l207) (ys := ([n215] : List (Int))) 5 rfl rfl rfl rfl rfl rfl (el_ownM (l := ([n215] : List (Int))) 0 rfl) rfl h218 (fun y => rfl) el71 ty71 rfl rfl rfl rfl rfl (fun k219 => ?_)
 refine pq (qa (.one (moC (l207 ++ ([n215] : List (Int))) k219))) ?_
 refine oE (eS ?_)
 refine L_norm (L2 := ([moL r3 1 (l207 ++ ([n215] : List (Int))) k219, [(k3, 2, [[iI n6, .p fr8 (Sl.t r38 s7)]])], [(k4, 3, [[iI 0, nC, nC]])], [(k169, 3, [[iI n6, .own (bb160 + 2) 0 (s166).length, .own k211 0 (l209).length]])], [((bb160 + 2), 1, (s166).map (rowC r85))], [(k211, 1, (l209).map (rowC r2))]] : BL)) [0, 2, 3, 4, 5, 6] (by decide) rfl ?_
 refine L_turn 16 rfl [[], [], [], [], [], [], [], [], [], [], [], [], [], [], [], [k211]] [(false, []), (false, []), (false, []), (false, []), (false, []), (false, []), (false, []), (false, []), (false, []), (false, []), (false, []), (false, []), (false, []), (false, []), (false, []), (false, [])] [[2, 3, 4, 5, 6, 7, 8, 9, 10, 11, 12, 13], [2, 3, 4, 5, 6, 7, 8, 9, 10, 11, 12, 13], [0, 1, 4, 8, 9, 10, 11, 12, 13], [0, 1, 4, 8, 9, 10, 11, 12, 13], [0, 1, 2, 3, 8, 9, 10, 11, 12, 13], [0, 1, 8, 9, 10, 11, 12, 13], [0, 1, 8, 9, 10, 11, 12, 13], [0, 1, 8, 9, 10, 11, 12, 13], [0, 1, 2, 3, 4, 5, 6, 7, 10], [0, 1, 2, 3, 4, 5, 6, 7, 10], [0, 1, 2, 3, 4, 5, 6, 7, 8, 9], [0, 1, 2, 3, 4, 5, 6, 7], [0, 1, 2, 3, 4, 5, 6, 7], [0, 1, 2, 3, 4, 5, 6, 7], [], []] (by kernel_rfl) (by kernel_rfl) (by kernel_rfl) ?_ (fun bb220 hlt hnd => ?_)
 intro bb220 hlt hnd
 exact ⟨⟨djE, ⟨djE, ⟨djE, ⟨djE, ⟨djE, ⟨djE, ⟨djE, ⟨djE, ⟨djE, ⟨djE, ⟨djE, ⟨djE, ⟨djE, ⟨djE, ⟨djE, ⟨djN, trivial⟩⟩⟩⟩⟩⟩⟩⟩⟩⟩⟩⟩⟩⟩⟩⟩, (ltO_cons ltK_nil (ltO_cons ltK_nil (ltO_cons ltK_nil (ltO_cons ltK_nil (ltO_cons ltK_nil (ltO_cons ltK_nil (ltO_cons ltK_nil (ltO_cons ltK_nil (ltO_cons ltK_nil (ltO_cons ltK_nil (ltO_cons ltK_nil (ltO_cons ltK_nil (ltO_cons ltK_nil (ltO_cons ltK_nil (ltO_cons ltK_nil (ltO_cons (ltK_cons (key_lt hlt 5 rfl) ltK_nil) ltO_nil))))))))))))))))⟩
 have e_k219 : (l207 ++ ([n215] : List (Int))) = [] ∨ k219 < bb220 := key_ltM (r := r3) (w := 1) hlt 0 rfl
 refine tq [] rfl (hm0 rfl) (q_fieldP rfl fa25_2 rfl) ?_
 refine tq [3] rfl (hm0 rfl) (ql (.one (.own k211 0 (l209).length)) 0 sz23) ?_
 refine tq [] rfl (hm0 rfl) (q_fieldP rfl fa28_1 rfl) ?_
 refine tq [1] rfl (hm0 rfl) (ql (.one (.p fr8 (Sl.t r38 s7))) 0 sz26) ?_
 refine tq [] rfl (hm0 rfl) (qm (iO n208)) ?_
 refine tq [] rfl (hm0 rfl) (q_ixS rfl rfl h214a h214 (el26.trans (congrArg some h214b.symm))) ?_
 refine tq [] rfl (hm0 rfl) (q_fieldI rfl fa39_0 rfl) ?_
 refine tq [] rfl (hm0 rfl) (q_loadI (v := iO n215) rfl sz3 (map_get h214) rfl rfl) ?_
 refine tq [] rfl (hm0 rfl) (q_fieldP rfl fa28_1 rfl) ?_
 refine tq [1] rfl (hm0 rfl) (ql (.one (.p fr8 (Sl.t r38 s7))) 0 sz26) ?_
 refine tq [] rfl (hm0 rfl) (qm (iO n208)) ?_
 refine tq [] rfl (hm0 rfl) (q_ixS rfl rfl h214a h214 (el26.trans (congrArg some h214b.symm))) ?_
 refine tq [] rfl (hm0 rfl) (q_fieldI rfl fa39_1 rfl) ?_
 refine tq [] rfl (hm0 rfl) (q_loadI (v := iO n216) rfl sz2 (map_get h214) rfl rfl) ?_
 obtain ⟨n226, h225, h⟩ := bindS h
 obtain ⟨h225a, h225⟩ := atL_some h225
 refine tq [5] rfl (hm0 rfl) (q_ixO 0 rfl rfl h225a h225 rfl el23) ?_
 refine tn_wr rfl rfl [5] (by decide) rfl (hm0 rfl) rfl (q_store (e' := rowC r2 n216) (es' := ((l209.set n215.toNat n216)).map (rowC r2)) 0 rfl rfl rfl sz2 rfl rfl (map_get h225) rfl map_set) (q := 5) rfl rfl ?_
 refine tn_re 28 (v := .one (.own k211 0 ((l209.set n215.toNat n216)).length)) (Eq.trans (b := .one (.own k211 0 (l209).length)) rfl (congrArg D.one own_setC)) ?_
 refine tn_reS 3 (s' := [(k169, 3, [[iI n6, .own (bb160 + 2) 0 (s166).length, .own k211 0 ((l209.set n215.toNat n216)).length]])]) rfl (congrArg (fun z => ([(k169, 3, [[iI n6, .own (bb160 + 2) 0 (s166).length, z]])] : List B1)) own_setC) ?_
 refine tn_end (bN (eS (lO ?_)))
 refine pq (qm (iO n208)) ?_
 refine pq (qb p_addY) ?_
 refine pq (qa (iO (IntKind.i64.wrap (n208 + 1)))) ?_
 refine oE ?_
 obtain rfl := sj h
 exact E_next (k219, k211) (ups_self ⟨rfl, rfl, rfl, rfl, rfl, trivial⟩) [1, 2, 3, 4, 0, 5] (by decide) rfl
 replace h := ifF c212 h
 refine pq (qb (p_lss_fZ c212)) ?_
 refine oE (eS (cF rfl (L_exit ?_)))
 refine E_seqX ?_
 obtain rfl := sj h
 refine E_out ?_
 exact (E_exit (k210, k211) (ups_self ⟨rfl, rfl, rfl, rfl, trivial⟩) [0, 1, 2, 3, 4, 5] (by decide) rfl)
 rintro (⟨l227, l228⟩ | u) h
 refine J_x (fun kt g => ?_)
 rcases kt with ⟨k229, k230⟩
 replace h := elimL h
 refine bH (eS (lS (lO ?_)))
 refine pq (q_fieldP rfl fa28_0 rfl) ?_
 refine pq (ql (iO n6) 0 sz3) ?_
 refine pq (qm (.one (moC l227 k229))) ?_
 obtain ⟨s232, h231, h⟩ := bindS h
 refine ol_new rfl rfl rfl (q_callO (args := [iO n6, .one (moC l227 k229)]) (ref03_Of_r (m + 0) h231) rfl rfl (vw_cons (vd_one vc_v) (vw_cons (vd_one (vc_M (r := r3) 4 rfl (fun x h m => rfl))) vw_nil)) rfl) (fun k233 => ?_)
 refine pq (q_fieldP rfl fa25_1 rfl) ?_
 refine ow [[iI n6, .own k233 0 (s232).length, .own k230 0 (l228).length]] 3 sz22 ?_
 refine oN ?_
 refine pq (ql (.agg [iI n6, .own k233 0 (s232).length, .own k230 0 (l228).length]) 3 sz25) ?_
 refine ow [[iI n6, .own k233 0 (s232).length, .own k230 0 (l228).length]] 2 sz25 ?_
 refine oE (eS (lR ?_))
 obtain rfl := sj h
 exact E_endF (.inr rfl) (res_cell (d := .agg [iI n6, .own k233 0 (s232).length, .own k230 0 (l228).length]) 2 rfl sz25 rfl rfl rfl rfl res_nil) (vw_cons (vd_agg (vc_cons vc_v (vc_cons (vc_own (r := r85) 0 rfl (fun x h m => rfl)) (vc_cons (vc_own (r := r2) 6 rfl (fun x h m => rfl)) vc_nil)))) vw_nil) oG rfl rfl
 obtain rfl := Option.some.inj (elimR h)
 exact J_up (fun s hs => hs)

noncomputable def ref03_Same_b1 (s1 : Sl (Int)) (s2 : Sl (Int)) (n21 : Int) : Option (Int ⊕ (Unit ⊕ Bool)) :=
  (if n21 < ((s1.l.length : Nat) : Int) then ((atS 1 s1 n21).bind fun n25 => ((atS 1 s2 n21).bind fun n28 => (if n25 ≠ n28 then some (.inr (.inr false)) else some (.inl (IntKind.i64.wrap (n21 + 1)))))) else some (.inr (.inl ())))
noncomputable def ref03_Same (s1 : Sl (Int)) (s2 : Sl (Int)) : Option (Bool) :=
  (if ((s1.l.length : Nat) : Int) ≠ ((s2.l.length : Nat) : Int) then some false else ((loopO (ref03_Same_b1 s1 s2) 0).bind (Sum.elim (fun _ => some true) (fun u => some u))))
theorem ref03_Same_r (m : Nat) {s1 : Sl (Int)} {s2 : Sl (Int)} {out : Bool} (h : ref03_Same s1 s2 = some out) : RunsP E1 (m + 1) 52 [.one (Sl.t r85 s1), .one (Sl.t r85 s2)] (.fresh, [.one (bT out)]) := by
 refine fn_F rfl (by rw [E1_fn]; exact show fiOf Tryd.prog 52 = _ by unfold fiOf; rw [Tryd.func52]; unfold Tryd.f52; rfl) rfl ?_
 dsimp only
 unfold ref03_Same at h
 refine lS (lO ?_)
 refine pq (qa bf) ?_
 refine oE (eS (lS (lS (lO ?_))))
 refine pq (qm (.one (sF r85 s1))) ?_
 refine pq (q_lenS rfl ty22 rfl rfl rfl rfl) ?_
 refine pq (qm (.one (sF r85 s2))) ?_
 refine pq (q_lenS rfl ty22 rfl rfl rfl rfl) ?_
 by_cases c3 : ((s1.l.length : Nat) : Int) ≠ ((s2.l.length : Nat) : Int)
 replace h := ifT c3 h
 refine pq (qb (p_neq_tZ c3)) ?_
 refine oE (eS (cT rfl (lS (lO ?_))))
 refine pq (qa bf) ?_
 refine oE (eS (lR (eR ?_)))
 obtain rfl := sj h
 exact eF1
 replace h := ifF c3 h
 refine pq (qb (p_neq_fZ c3)) ?_
 refine oE (eS (cF rfl (lK (eS (lS (lS (lO ?_)))))))
 refine pq (qa (iO 0)) ?_
 refine oE (eS (lB ?_))
 let S1 : Int → Unit → (Nat → D) → Nat → D := fun a kt g => ups g [(0, .one (sF r85 s1)), (1, .one (sF r85 s2)), (5, iO a)]
 let SL1 : Int → Unit → BL := fun a kt => ([] : BL)
 let G1 : Bool → Ex → St → Prop := fun u => endQ E1 [.tmp 4] (.fresh, [.one (bT u)])
 let Sx1 : Unit → Unit → (Nat → D) → Nat → D := fun a kt g => ups g []
 let SLx1 : Unit → Unit → BL := fun a kt => ([] : BL)
 let J1 : (Unit ⊕ Bool) → Ex → St → Prop := JX 26 0 Sx1 SLx1 G1
 refine L_loopS (ref03_Same_b1 s1 s2) S1 SL1 J1 JX_n 0 h () (ups_self ⟨rfl, rfl, rfl, trivial⟩) [] (by decide) rfl ?_ ?_
 rintro n21 _ g out h
 change ref03_Same_b1 s1 s2 n21 = some out at h
 unfold ref03_Same_b1 at h
 refine lS (lS (lO ?_))
 refine pq (qm (iO n21)) ?_
 refine pq (qm (.one (sF r85 s1))) ?_
 refine pq (q_lenS rfl ty22 rfl rfl rfl rfl) ?_
 by_cases c22 : n21 < ((s1.l.length : Nat) : Int)
 replace h := ifT c22 h
 refine pq (qb (p_lss_tZ c22)) ?_
 refine oE (eS (cT rfl (lK (eS (lS (lB (lS ?_)))))))
 refine L_still (by kernel_rfl) ?_
 refine sq (qm (.one (sF r85 s1))) ?_
 refine sq (qm (iO n21)) ?_
 obtain ⟨n25, h24, h⟩ := bindS h
 obtain ⟨h24a, h24b, h24⟩ := atS_some h24
 refine sq (q_ixS rfl rfl h24a h24 (el22.trans (congrArg some h24b.symm))) ?_
 refine sq (q_loadI (v := .one (uI n25)) rfl sz85 (map_get h24) rfl rfl) ?_
 refine sq (qm (.one (sF r85 s2))) ?_
 refine sq (qm (iO n21)) ?_
 obtain ⟨n28, h27, h⟩ := bindS h
 obtain ⟨h27a, h27b, h27⟩ := atS_some h27
 refine sq (q_ixS rfl rfl h27a h27 (el22.trans (congrArg some h27b.symm))) ?_
 refine sq (q_loadI (v := .one (uI n28)) rfl sz85 (map_get h27) rfl rfl) ?_
 by_cases c29 : n25 ≠ n28
 replace h := ifT c29 h
 refine sq (qb (p_neq_tZ c29)) ?_
 refine st_end (eS (cT rfl (lS (lO ?_))))
 refine pq (qa bf) ?_
 refine oE (eS (lR (bR (eR ?_))))
 obtain rfl := sj h
 exact E_out (E_up (eF1))
 replace h := ifF c29 h
 refine sq (qb (p_neq_fZ c29)) ?_
 refine st_end (eS (cF rfl (lK (bN (eS (lO ?_))))))
 refine pq (qm (iO n21)) ?_
 refine pq (qb p_addY) ?_
 refine pq (qa (iO (IntKind.i64.wrap (n21 + 1)))) ?_
 refine oE ?_
 obtain rfl := sj h
 exact E_next () (ups_self ⟨rfl, rfl, rfl, trivial⟩) [] (by decide) rfl
 replace h := ifF c22 h
 refine pq (qb (p_lss_fZ c22)) ?_
 refine oE (eS (cF rfl (L_exit ?_)))
 refine E_seqX ?_
 obtain rfl := sj h
 refine E_out ?_
 exact (E_exit () (ups_self trivial) [] (by decide) rfl)
 rintro (_ | u) h
 refine J_x (fun kt g => ?_)
 replace h := elimL h
 refine bH (eS (lS (lO ?_)))
 refine pq (qa bt) ?_
 refine oE (eS (lR ?_))
 obtain rfl := sj h
 exact eF1
 obtain rfl := Option.some.inj (elimR h)
 exact J_up (fun s hs => hs)

noncomputable def ref07_SameVals_b1 (s1 : Sl (Int)) (s2 : Sl (Int)) (n21 : Int) : Option (Int ⊕ (Unit ⊕ Bool)) :=
  (if n21 < ((s1.l.length : Nat) : Int) then ((atS 1 s1 n21).bind fun n25 => ((atS 1 s2 n21).bind fun n28 => (if n25 ≠ n28 then some (.inr (.inr false)) else some (.inl (IntKind.i64.wrap (n21 + 1)))))) else some (.inr (.inl ())))
noncomputable def ref07_SameVals (s1 : Sl (Int)) (s2 : Sl (Int)) : Option (Bool) :=
  (if ((s1.l.length : Nat) : Int) ≠ ((s2.l.length : Nat) : Int) then some false else ((loopO (ref07_SameVals_b1 s1 s2) 0).bind (Sum.elim (fun _ => some true) (fun u => some u))))
theorem ref07_SameVals_r (m : Nat) {s1 : Sl (Int)} {s2 : Sl (Int)} {out : Bool} (h : ref07_SameVals s1 s2 = some out) : RunsP E1 (m + 1) 53 [.one (Sl.t r2 s1), .one (Sl.t r2 s2)] (.fresh, [.one (bT out)]) := by
 refine fn_F rfl (by rw [E1_fn]; exact show fiOf Tryd.prog 53 = _ by unfold fiOf; rw [Tryd.func53]; unfold Tryd.f53; rfl) rfl ?_
 dsimp only
 unfold ref07_SameVals at h
 refine lS (lO ?_)
 refine pq (qa bf) ?_
 refine oE (eS (lS (lS (lO ?_))))
 refine pq (qm (.one (sF r2 s1))) ?_
 refine pq (q_lenS rfl ty23 rfl rfl rfl rfl) ?_
 refine pq (qm (.one (sF r2 s2))) ?_
 refine pq (q_lenS rfl ty23 rfl rfl rfl rfl) ?_
 by_cases c3 : ((s1.l.length : Nat) : Int) ≠ ((s2.l.length : Nat) : Int)
 replace h := ifT c3 h
 refine pq (qb (p_neq_tZ c3)) ?_
 refine oE (eS (cT rfl (lS (lO ?_))))
 refine pq (qa bf) ?_
 refine oE (eS (lR (eR ?_)))
 obtain rfl := sj h
 exact eF1
 replace h := ifF c3 h
 refine pq (qb (p_neq_fZ c3)) ?_
 refine oE (eS (cF rfl (lK (eS (lS (lS (lO ?_)))))))
 refine pq (qa (iO 0)) ?_
 refine oE (eS (lB ?_))
 let S1 : Int → Unit → (Nat → D) → Nat → D := fun a kt g => ups g [(0, .one (sF r2 s1)), (1, .one (sF r2 s2)), (5, iO a)]
 let SL1 : Int → Unit → BL := fun a kt => ([] : BL)
 let G1 : Bool → Ex → St → Prop := fun u => endQ E1 [.tmp 4] (.fresh, [.one (bT u)])
 let Sx1 : Unit → Unit → (Nat → D) → Nat → D := fun a kt g => ups g []
 let SLx1 : Unit → Unit → BL := fun a kt => ([] : BL)
 let J1 : (Unit ⊕ Bool) → Ex → St → Prop := JX 26 0 Sx1 SLx1 G1
 refine L_loopS (ref07_SameVals_b1 s1 s2) S1 SL1 J1 JX_n 0 h () (ups_self ⟨rfl, rfl, rfl, trivial⟩) [] (by decide) rfl ?_ ?_
 rintro n21 _ g out h
 change ref07_SameVals_b1 s1 s2 n21 = some out at h
 unfold ref07_SameVals_b1 at h
 refine lS (lS (lO ?_))
 refine pq (qm (iO n21)) ?_
 refine pq (qm (.one (sF r2 s1))) ?_
 refine pq (q_lenS rfl ty23 rfl rfl rfl rfl) ?_
 by_cases c22 : n21 < ((s1.l.length : Nat) : Int)
 replace h := ifT c22 h
 refine pq (qb (p_lss_tZ c22)) ?_
 refine oE (eS (cT rfl (lK (eS (lS (lB (lS ?_)))))))
 refine L_still (by kernel_rfl) ?_
 refine sq (qm (.one (sF r2 s1))) ?_
 refine sq (qm (iO n21)) ?_
 obtain ⟨n25, h24, h⟩ := bindS h
 obtain ⟨h24a, h24b, h24⟩ := atS_some h24
 refine sq (q_ixS rfl rfl h24a h24 (el23.trans (congrArg some h24b.symm))) ?_
 refine sq (q_loadI (v := iO n25) rfl sz2 (map_get h24) rfl rfl) ?_
 refine sq (qm (.one (sF r2 s2))) ?_
 refine sq (qm (iO n21)) ?_
 obtain ⟨n28, h27, h⟩ := bindS h
 obtain ⟨h27a, h27b, h27⟩ := atS_some h27
 refine sq (q_ixS rfl rfl h27a h27 (el23.trans (congrArg some h27b.symm))) ?_
 refine sq (q_loadI (v := iO n28) rfl sz2 (map_get h27) rfl rfl) ?_
 by_cases c29 : n25 ≠ n28
 replace h := ifT c29 h
 refine sq (qb (p_neq_tZ c29)) ?_
 refine st_end (eS (cT rfl (lS (lO ?_))))
 refine pq (qa bf) ?_
 refine oE (eS (lR (bR (eR ?_))))
 obtain rfl := sj h
 exact E_out (E_up (eF1))
 replace h := ifF c29 h
 refine sq (qb (p_neq_fZ c29)) ?_
 refine st_end (eS (cF rfl (lK (bN (eS (lO ?_))))))
 refine pq (qm (iO n21)) ?_
 refine pq (qb p_addY) ?_
 refine pq (qa (iO (IntKind.i64.wrap (n21 + 1)))) ?_
 refine oE ?_
 obtain rfl := sj h
 exact E_next () (ups_self ⟨rfl, rfl, rfl, trivial⟩) [] (by decide) rfl
 replace h := ifF c22 h
 refine pq (qb (p_lss_fZ c22)) ?_
 refine oE (eS (cF rfl (L_exit ?_)))
 refine E_seqX ?_
 obtain rfl := sj h
 refine E_out ?_
 exact (E_exit () (ups_self trivial) [] (by decide) rfl)
 rintro (_ | u) h
 refine J_x (fun kt g => ?_)
 replace h := elimL h
 refine bH (eS (lS (lO ?_)))
 refine pq (qa bt) ?_
 refine oE (eS (lR ?_))
 obtain rfl := sj h
 exact eF1
 obtain rfl := Option.some.inj (elimR h)
 exact J_up (fun s hs => hs)

noncomputable def ref10_Same (a0 : Int × Sl (Int) × Sl (Int)) (a1 : Int × Sl (Int) × Sl (Int)) : Option (Bool) :=
  match a0, a1 with
  | (n1, s2, s3), (n4, s5, s6) => (if n1 = n4 then ((ref03_Same s2 s5).bind fun b11 => (if b11 = true then ((ref07_SameVals s3 s6).bind fun b13 => some b13) else some false)) else some false)
theorem ref10_Same_r (m : Nat) {a0 : Int × Sl (Int) × Sl (Int)} {a1 : Int × Sl (Int) × Sl (Int)} {out : Bool} (h : ref10_Same a0 a1 = some out) : RunsP E1 (m + 2) 17 [.agg (r24 a0), .agg (r24 a1)] (.fresh, [.one (bT out)]) := by
 obtain ⟨n1, s2, s3⟩ := a0
 obtain ⟨n4, s5, s6⟩ := a1
 refine fn_F rfl (by rw [E1_fn]; exact show fiOf Tryd.prog 17 = _ by unfold fiOf; rw [Tryd.func17]; unfold Tryd.f17; rfl) rfl ?_
 dsimp only
 unfold ref10_Same at h
 refine lS (lO ?_)
 refine ol_new rfl rfl rfl (q_box ty25 rfl (cs := [iI n1, sF r85 s2, sF r2 s3]) rfl rfl) (fun k7 => ?_)
 refine ol_new rfl rfl rfl (q_box ty25 rfl (cs := [iI n4, sF r85 s5, sF r2 s6]) rfl rfl) (fun k8 => ?_)
 refine pq (qa bf) ?_
 refine oN ?_
 refine pq (q_fieldP rfl fa25_0 rfl) ?_
 refine pq (ql (iO n1) 1 sz3) ?_
 refine pq (q_fieldP rfl fa25_0 rfl) ?_
 refine pq (ql (iO n4) 0 sz3) ?_
 by_cases c9 : n1 = n4
 replace h := ifT c9 h
 refine pq (qb (p_eql_tZ c9)) ?_
 refine pq (qm bt) ?_
 refine pq (q_fieldP rfl fa25_1 rfl) ?_
 refine pq (ql (.one (sF r85 s2)) 1 sz22) ?_
 refine pq (q_fieldP rfl fa25_1 rfl) ?_
 refine pq (ql (.one (sF r85 s5)) 0 sz22) ?_
 obtain ⟨b11, h10, h⟩ := bindS h
 refine pq (qc (bO b11) [.one (sF r85 s2), .one (sF r85 s5)] (ref03_Same_r (m + 0) h10) (vw_cons (vd_one vc_s) (vw_cons (vd_one vc_s) vw_nil))) ?_
 refine pq (qpt (bO b11)) ?_
 refine pq (qm (bO b11)) ?_
 rcases b11 with _ | _
 replace h := wF h
 iterate 5 refine os ?_
 refine pq (qpf bf) ?_
 refine pq (qa bf) ?_
 refine oE (eS (lR ?_))
 obtain rfl := sj h
 exact eF1
 replace h := wT h
 refine pq (q_fieldP rfl fa25_2 rfl) ?_
 refine pq (ql (.one (sF r2 s3)) 1 sz23) ?_
 refine pq (q_fieldP rfl fa25_2 rfl) ?_
 refine pq (ql (.one (sF r2 s6)) 0 sz23) ?_
 obtain ⟨b13, h12, h⟩ := bindS h
 refine pq (qc (bO b13) [.one (sF r2 s3), .one (sF r2 s6)] (ref07_SameVals_r (m + 0) h12) (vw_cons (vd_one vc_s) (vw_cons (vd_one vc_s) vw_nil))) ?_
 refine pq (qpt (bO b13)) ?_
 refine pq (qa (bO b13)) ?_
 refine oE (eS (lR ?_))
 obtain rfl := sj h
 exact eF1
 replace h := ifF c9 h
 refine pq (qb (p_eql_fZ c9)) ?_
 refine pq (qm bf) ?_
 iterate 5 refine os ?_
 refine pq (qpf bf) ?_
 refine pq (qm bf) ?_
 iterate 5 refine os ?_
 refine pq (qpf bf) ?_
 refine pq (qa bf) ?_
 refine oE (eS (lR ?_))
 obtain rfl := sj h
 exact eF1

noncomputable def ref09_Get_b1 (n3 : Int) (s7 : Sl (Int × Int)) (n22 : Int) : Option (Int ⊕ (Unit ⊕ (Int × Bool))) :=
  (if n22 < ((s7.l.length : Nat) : Int) then ((atS 2 s7 n22).bind fun (n26, n27) => (if n26 = n3 then some (.inr (.inr (n27, true))) else some (.inl (IntKind.i64.wrap (n22 + 1))))) else some (.inr (.inl ())))
noncomputable def ref09_Get (a0 : Int × (Sl (Int × Int))) (n3 : Int) : Option (Int × Bool) :=
  match a0 with
  | (n1, s2) => ((ref09_Sure (n1, s2)).bind fun (n6, s7) => ((loopO (ref09_Get_b1 n3 s7) 0).bind (Sum.elim (fun _ => some (0, false)) (fun u => some u))))
theorem ref09_Get_r (m : Nat) {a0 : Int × (Sl (Int × Int))} {n3 : Int} {out : Int × Bool} (h : ref09_Get a0 n3 = some out) : RunsP E1 (m + 3) 61 [.agg (r27 a0), .one (iT .i64 n3)] (.fresh, [.one (iT .i64 out.1), .one (bT out.2)]) := by
 obtain ⟨n1, s2⟩ := a0
 refine fn_F rfl (by rw [E1_fn]; exact show fiOf Tryd.prog 61 = _ by unfold fiOf; rw [Tryd.func61]; unfold Tryd.f61; rfl) rfl ?_
 dsimp only
 unfold ref09_Get at h
 refine lS (lO ?_)
 refine ol_new rfl rfl rfl (q_box ty28 rfl (cs := [iI n1, sF r38 s2]) rfl rfl) (fun k4 => ?_)
 refine pq (qa (iO 0)) ?_
 refine pq (qa bf) ?_
 refine oN ?_
 refine pq (ql (.agg [iI n1, sF r38 s2]) 0 sz28) ?_
 obtain ⟨⟨n6, s7⟩, h5, h⟩ := bindS h
 refine ol_putX rfl rfl rfl (q_callX (v := fun fr8 => .agg [iI n6, .p fr8 (Sl.t r38 s7)]) (args := [.agg [iI n1, sF r38 s2]]) (ref09_Sure_r (m + 0) h5) rfl rfl (vw_cons (vd_agg (vc_cons vc_v (vc_cons vc_s vc_nil))) vw_nil) rfl rfl (fun fr => rfl)) (fun fr8 => ?_)
 refine ow [[iI n6, .p fr8 (Sl.t r38 s7)]] 0 sz28 ?_
 refine oE (eS (lS (lS (lO ?_))))
 refine pq (qa (iO 0)) ?_
 refine oE (eS (lB ?_))
 let S1 : Int → Unit → (Nat → D) → Nat → D := fun a kt g => ups g [(1, iO n3), (2, .one (.ptr k4 0 0)), (6, iO a)]
 let SL1 : Int → Unit → BL := fun a kt => ([[(k4, 2, [[iI n6, .p fr8 (Sl.t r38 s7)]])]] : BL)
 let G1 : (Int × Bool) → Ex → St → Prop := fun u => endQ E1 [.tmp 4, .tmp 5] (.fresh, [.one (iT .i64 u.1), .one (bT u.2)])
 let Sx1 : Unit → Unit → (Nat → D) → Nat → D := fun a kt g => ups g []
 let SLx1 : Unit → Unit → BL := fun a kt => ([] : BL)
 let J1 : (Unit ⊕ (Int × Bool)) → Ex → St → Prop := JX 30 0 Sx1 SLx1 G1
 refine L_loopS (ref09_Get_b1 n3 s7) S1 SL1 J1 JX_n 0 h () (ups_self ⟨rfl, rfl, rfl, trivial⟩) [0] (by decide) rfl ?_ ?_
 rintro n22 _ g out h
 change ref09_Get_b1 n3 s7 n22 = some out at h
 unfold ref09_Get_b1 at h
 refine lS (lS (lO ?_))
 refine pq (qm (iO n22)) ?_
 refine pq (q_fieldP rfl fa28_1 rfl) ?_
 refine pq (ql (.one (.p fr8 (Sl.t r38 s7))) 0 sz26) ?_
 refine pq (q_lenS rfl ty26 rfl rfl rfl rfl) ?_
 by_cases c23 : n22 < ((s7.l.length : Nat) : Int)
 replace h := ifT c23 h
 refine pq (qb (p_lss_tZ c23)) ?_
 refine oE (eS (cT rfl (lK (eS (lS (lB (lS (lO ?_))))))))
 refine pq (q_fieldP rfl fa28_1 rfl) ?_
 refine pq (ql (.one (.p fr8 (Sl.t r38 s7))) 0 sz26) ?_
 refine pq (qm (iO n22)) ?_
 obtain ⟨⟨n26, n27⟩, h25, h⟩ := bindS h
 obtain ⟨h25a, h25b, h25⟩ := atS_some h25
 refine pq (q_ixS rfl rfl h25a h25 (el26.trans (congrArg some h25b.symm))) ?_
 refine pq (q_fieldI rfl fa39_0 rfl) ?_
 refine pq (q_loadI (v := iO n26) rfl sz3 (map_get h25) rfl rfl) ?_
 refine pq (qm (iO n3)) ?_
 by_cases c28 : n26 = n3
 replace h := ifT c28 h
 refine pq (qb (p_eql_tZ c28)) ?_
 refine oE (eS (cT rfl (lS (lO ?_))))
 refine pq (q_fieldP rfl fa28_1 rfl) ?_
 refine pq (ql (.one (.p fr8 (Sl.t r38 s7))) 0 sz26) ?_
 refine pq (qm (iO n22)) ?_
 refine pq (q_ixS rfl rfl h25a h25 (el26.trans (congrArg some h25b.symm))) ?_
 refine pq (q_fieldI rfl fa39_1 rfl) ?_
 refine pq (q_loadI (v := iO n27) rfl sz2 (map_get h25) rfl rfl) ?_
 refine pq (qa (iO n27)) ?_
 refine pq (qa bt) ?_
 refine oE (eS (lR (bR (eR ?_))))
 obtain rfl := sj h
 exact E_out (E_up (E_endF (.inr rfl) (res_tmp rfl (res_tmp rfl res_nil)) (vw_cons (vd_one vc_v) (vw_cons (vd_one vc_v) vw_nil)) oW rfl rfl))
 replace h := ifF c28 h
 refine pq (qb (p_eql_fZ c28)) ?_
 refine oE (eS (cF rfl (lK (bN (eS (lO ?_))))))
 refine pq (qm (iO n22)) ?_
 refine pq (qb p_addY) ?_
 refine pq (qa (iO (IntKind.i64.wrap (n22 + 1)))) ?_
 refine oE ?_
 obtain rfl := sj h
 exact E_next () (ups_self ⟨rfl, rfl, rfl, trivial⟩) [0] (by decide) rfl
 replace h := ifF c23 h
 refine pq (qb (p_lss_fZ c23)) ?_
 refine oE (eS (cF rfl (L_exit ?_)))
 refine E_seqX ?_
 obtain rfl := sj h
 refine E_out ?_
 exact (E_exit () (ups_self trivial) [] (by decide) rfl)
 rintro (_ | u) h
 refine J_x (fun kt g => ?_)
 replace h := elimL h
 refine bH (eS (lS (lO ?_)))
 refine pq (qa (iO 0)) ?_
 refine pq (qa bf) ?_
 refine oE (eS (lR ?_))
 obtain rfl := sj h
 exact E_endF (.inr rfl) (res_tmp rfl (res_tmp rfl res_nil)) (vw_cons (vd_one vc_v) (vw_cons (vd_one vc_v) vw_nil)) oW rfl rfl
 obtain rfl := Option.some.inj (elimR h)
 exact J_up (fun s hs => hs)

noncomputable def ref10_Get (a0 : Int × Sl (Int) × Sl (Int)) (n4 : Int) : Option (Int × Bool) :=
  match a0 with
  | (n1, s2, s3) => ((ref10_Back (n1, s2, s3)).bind fun (n7, s8) => ((ref09_Get (n7, s8) n4).bind fun (n10, b11) => some (n10, b11)))
theorem ref10_Get_r (m : Nat) {a0 : Int × Sl (Int) × Sl (Int)} {n4 : Int} {out : Int × Bool} (h : ref10_Get a0 n4 = some out) : RunsP E1 (m + 6) 23 [.agg (r24 a0), .one (iT .i64 n4)] (.fresh, [.one (iT .i64 out.1), .one (bT out.2)]) := by
 obtain ⟨n1, s2, s3⟩ := a0
 refine fn_F rfl (by rw [E1_fn]; exact show fiOf Tryd.prog 23 = _ by unfold fiOf; rw [Tryd.func23]; unfold Tryd.f23; rfl) rfl ?_
 dsimp only
 unfold ref10_Get at h
 refine lS (lO ?_)
 refine ol_new rfl rfl rfl (q_box ty25 rfl (cs := [iI n1, sF r85 s2, sF r2 s3]) rfl rfl) (fun k5 => ?_)
 refine pq (qa (iO 0)) ?_
 refine pq (qa bf) ?_
 refine oN ?_
 refine pq (ql (.agg [iI n1, sF r85 s2, sF r2 s3]) 0 sz25) ?_
 obtain ⟨⟨n7, s8⟩, h6, h⟩ := bindS h
 refine pq (qc (.agg [iI n7, sC r38 s8]) [.agg [iI n1, sF r85 s2, sF r2 s3]] (ref10_Back_r (m + 0) h6) (vw_cons (vd_agg (vc_cons vc_v (vc_cons vc_s (vc_cons vc_s vc_nil)))) vw_nil)) ?_
 refine pq (qm (iO n4)) ?_
 obtain ⟨⟨n10, b11⟩, h9, h⟩ := bindS h
 refine pq (qc (.tup [iO n10, bO b11]) [.agg [iI n7, sC r38 s8], iO n4] (ref09_Get_r (m + 2) h9) (vw_cons (vd_agg (vc_cons vc_v (vc_cons vc_s vc_nil))) (vw_cons (vd_one vc_v) vw_nil))) ?_
 refine pq (q_ext (v := iO n10) rfl rfl) ?_
 refine pq (q_ext (v := bO b11) rfl rfl) ?_
 refine pq (qa (iO n10)) ?_
 refine pq (qa (bO b11)) ?_
 refine oE (eS (lR ?_))
 obtain rfl := sj h
 exact E_endF (.inr rfl) (res_tmp rfl (res_tmp rfl res_nil)) (vw_cons (vd_one vc_v) (vw_cons (vd_one vc_v) vw_nil)) oW rfl rfl

noncomputable def flags_clone (s1 : Sl (Int)) : Option (List (Int)) :=
  ((lenOk ((s1.l.length : Nat) : Int)).bind fun _ => ((cpL (List.replicate ((s1.l.length : Nat) : Int).toNat (0 : Int)) s1.l).bind fun l6 => some l6))
theorem flags_clone_r (m : Nat) {s1 : Sl (Int)} {out : List (Int)} (h : flags_clone s1 = some out) : RunsP E1 (m + 1) 90 [.one (Sl.t r85 s1)] (.own, [.one (.s true 1 ((out).map r85))]) := by
 refine fn_O rfl (by rw [E1_fn]; exact show fiOf Tryd.prog 90 = _ by unfold fiOf; rw [Tryd.func90]; unfold Tryd.f90; rfl) rfl ?_
 dsimp only
 unfold flags_clone at h
 refine lS (lO ?_)
 refine pq (qa (.one nC)) ?_
 refine oN ?_
 refine pq (qm (.one (sF r85 s1))) ?_
 refine pq (q_lenS rfl ty22 rfl rfl rfl rfl) ?_
 obtain ⟨u2, h3, h⟩ := bindS h
 refine ol_new rfl rfl rfl (q_mkslice (r := rowC r85) (a := (0 : Int)) ty22 rfl ty85 rfl rfl (lenOk_some h3).1 (lenOk_some h3).2 rfl rfl) (fun k4 => ?_)
 refine pq (qa (.one (.own k4 0 ((List.replicate ((s1.l.length : Nat) : Int).toNat (0 : Int))).length))) ?_
 refine oN ?_
 refine pq (qm (.one (.own k4 0 ((List.replicate ((s1.l.length : Nat) : Int).toNat (0 : Int))).length))) ?_
 refine pq (qm (.one (sF r85 s1))) ?_
 obtain ⟨l6, h5, h⟩ := bindS h
 refine ol_wrD rfl rfl rfl (q_copy (r := rowC r85) (l := (List.replicate ((s1.l.length : Nat) : Int).toNat (0 : Int))) (m := s1.l) 0 rfl rfl (el_dat (fr := false) (r := r85) (fun x => rfl)) rfl rfl h5 (fun y => rfl) el22 ty22 rfl rfl rfl rfl rfl) rfl ?_
 refine ol_re 6 (v := .one (.own k4 0 (l6).length)) (Eq.trans (b := .one (.own k4 0 ((List.replicate ((s1.l.length : Nat) : Int).toNat (0 : Int))).length)) rfl (congrArg D.one (own_cpC h5))) ?_
 refine ol_re 3 (v := .one (.own k4 0 (l6).length)) (Eq.trans (b := .one (.own k4 0 ((List.replicate ((s1.l.length : Nat) : Int).toNat (0 : Int))).length)) rfl (congrArg D.one (own_cpC h5))) ?_
 refine ol_re 7 (v := .one (.own k4 0 (l6).length)) (Eq.trans (b := .one (.own k4 0 ((List.replicate ((s1.l.length : Nat) : Int).toNat (0 : Int))).length)) rfl (congrArg D.one (own_cpC h5))) ?_
 refine oN ?_
 refine pq (qm (.one (.own k4 0 (l6).length))) ?_
 refine pq (qa (.one (.own k4 0 (l6).length))) ?_
 refine oE (eS (lR ?_))
 obtain rfl := sj h
 exact E_endO (r := r85) 0 (.inr rfl) (res_tmp rfl res_nil) rfl (fun x h m => rfl) (fun x => rfl)

noncomputable def flags_Put (s1 : Sl (Int)) (n2 : Int) : Option (List (Int)) :=
  ((flags_clone s1).bind fun s4 => ((flags_within s1 n2).bind fun b7 => (if b7 = true then ((divO .i64 n2 64).bind fun n16 => ((atL s4 n16).bind fun n20 => ((flags_bit n2).bind fun n22 => some (s4.set n16.toNat (orI .u64 n20 n22))))) else some s4)))
theorem flags_Put_r (m : Nat) {s1 : Sl (Int)} {n2 : Int} {out : List (Int)} (h : flags_Put s1 n2 = some out) : RunsP E1 (m + 2) 63 [.one (Sl.t r85 s1), .one (iT .i64 n2)] (.own, [.one (.s true 1 ((out).map r85))]) := by
 refine fn_O rfl (by rw [E1_fn]; exact show fiOf Tryd.prog 63 = _ by unfold fiOf; rw [Tryd.func63]; unfold Tryd.f63; rfl) rfl ?_
 dsimp only
 unfold flags_Put at h
 refine lS (lO ?_)
 refine pq (qa (.one nC)) ?_
 refine oN ?_
 refine pq (qm (.one (sF r85 s1))) ?_
 obtain ⟨s4, h3, h⟩ := bindS h
 refine ol_new rfl rfl rfl (q_callO (args := [.one (sF r85 s1)]) (flags_clone_r (m + 0) h3) rfl rfl (vw_cons (vd_one vc_s) vw_nil) rfl) (fun k5 => ?_)
 refine pq (qa (.one (.own k5 0 (s4).length))) ?_
 refine oE (eS (lS (lS (lO ?_))))
 refine pq (qm (.one (sF r85 s1))) ?_
 refine pq (qm (iO n2)) ?_
 obtain ⟨b7, h6, h⟩ := bindS h
 refine pq (qc (bO b7) [.one (sF r85 s1), iO n2] (flags_within_r (m + 0) h6) (vw_cons (vd_one vc_s) (vw_cons (vd_one vc_v) vw_nil))) ?_
 refine oE (eS ?_)
 rcases b7 with _ | _
 replace h := wF h
 refine cF rfl (lK (eS (lS (lO ?_))))
 refine pq (qm (.one (.own k5 0 (s4).length))) ?_
 refine pq (qa (.one (.own k5 0 (s4).length))) ?_
 refine oE (eS (lR ?_))
 obtain rfl := sj h
 exact E_endO (r := r85) 0 (.inr rfl) (res_tmp rfl res_nil) rfl (fun x h m => rfl) (fun x => rfl)
 replace h := wT h
 refine cT rfl ?_
 refine L_norm (L2 := ([[(k5, 1, (s4).map (rowC r85))]] : BL)) [0] (by decide) rfl ?_
 refine L_turn 10 rfl [[], [], [], [], [], [], [], [], [], [k5]] [(false, []), (false, []), (false, []), (false, []), (false, []), (false, []), (false, []), (false, []), (false, []), (false, [])] [[1, 2, 5, 6], [0, 5, 6], [0, 5, 6], [5, 6], [5, 6], [0, 1, 2, 3, 4], [0, 1, 2, 3, 4], [], [], []] (by kernel_rfl) (by kernel_rfl) (by kernel_rfl) ?_ (fun bb8 hlt hnd => ?_)
 intro bb8 hlt hnd
 exact ⟨⟨djE, ⟨djE, ⟨djE, ⟨djE, ⟨djE, ⟨djE, ⟨djE, ⟨djE, ⟨djE, ⟨djN, trivial⟩⟩⟩⟩⟩⟩⟩⟩⟩⟩, (ltO_cons ltK_nil (ltO_cons ltK_nil (ltO_cons ltK_nil (ltO_cons ltK_nil (ltO_cons ltK_nil (ltO_cons ltK_nil (ltO_cons ltK_nil (ltO_cons ltK_nil (ltO_cons ltK_nil (ltO_cons (ltK_cons (key_lt hlt 0 rfl) ltK_nil) ltO_nil))))))))))⟩
 refine tq [] rfl (hm0 rfl) (qm (.one (.own k5 0 (s4).length))) ?_
 refine tq [] rfl (hm0 rfl) (qm (iO n2)) ?_
 obtain ⟨n16, h17, h⟩ := bindS h
 refine tq [] rfl (hm0 rfl) (q_bin rfl rfl (divO_p h17) rfl) ?_
 obtain ⟨n20, h19, h⟩ := bindS h
 obtain ⟨h19a, h19⟩ := atL_some h19
 refine tq [0] rfl (hm0 rfl) (q_ixO 0 rfl rfl h19a h19 rfl el22) ?_
 refine tq [0] rfl (hm0 rfl) (q_loadP (v := .one (uI n20)) 0 rfl sz85 rfl (map_get h19) rfl rfl) ?_
 refine tq [] rfl (hm0 rfl) (qm (iO n2)) ?_
 obtain ⟨n22, h21, h⟩ := bindS h
 refine tq [] rfl (hm0 rfl) (qc (.one (uI n22)) [iO n2] (flags_bit_r (m + 0) h21) (vw_cons (vd_one vc_v) vw_nil)) ?_
 refine tq [] rfl (hm0 rfl) (q_bin rfl rfl (p_or _ _ _ _ _ _ _) rfl) ?_
 refine tq [0] rfl (hm0 rfl) (q_ixO 0 rfl rfl h19a h19 rfl el22) ?_
 refine tn_wr rfl rfl [0] (by decide) rfl (hm0 rfl) rfl (q_store (e' := rowC r85 (orI .u64 n20 n22)) (es' := ((s4.set n16.toNat (orI .u64 n20 n22))).map (rowC r85)) 0 rfl rfl rfl sz85 rfl rfl (map_get h19) rfl map_set) (q := 0) rfl rfl ?_
 refine tn_re 7 (v := .one (.own k5 0 ((s4.set n16.toNat (orI .u64 n20 n22))).length)) (Eq.trans (b := .one (.own k5 0 (s4).length)) rfl (congrArg D.one own_setC)) ?_
 refine tn_re 5 (v := .one (.own k5 0 ((s4.set n16.toNat (orI .u64 n20 n22))).length)) (Eq.trans (b := .one (.own k5 0 (s4).length)) rfl (congrArg D.one own_setC)) ?_
 refine tn_re 11 (v := .one (.own k5 0 ((s4.set n16.toNat (orI .u64 n20 n22))).length)) (Eq.trans (b := .one (.own k5 0 (s4).length)) rfl (congrArg D.one own_setC)) ?_
 refine tn_end (eS (lS (lO ?_)))
 refine pq (qm (.one (.own k5 0 ((s4.set n16.toNat (orI .u64 n20 n22))).length))) ?_
 refine pq (qa (.one (.own k5 0 ((s4.set n16.toNat (orI .u64 n20 n22))).length))) ?_
 refine oE (eS (lR ?_))
 obtain rfl := sj h
 exact E_endO (r := r85) 0 (.inr rfl) (res_tmp rfl res_nil) rfl (fun x h m => rfl) (fun x => rfl)

noncomputable def devec_Set (a0 : Int × Sl (Int) × Sl (Int)) (n4 : Int) (n5 : Int) : Option ((Int × Sl (Int) × Sl (Int))) :=
  match a0 with
  | (n1, s2, s3) => ((devec_sure (n1, s2, s3)).bind fun (n9, s10, s11) => ((lenOk ((s10.l.length : Nat) : Int)).bind fun _ => ((lenOk ((s11.l.length : Nat) : Int)).bind fun _ => ((cpL (List.replicate ((s10.l.length : Nat) : Int).toNat (0 : Int)) s10.l).bind fun l25 => ((cpL (List.replicate ((s11.l.length : Nat) : Int).toNat (0 : Int)) s11.l).bind fun l27 => (if n4 ≥ 0 then (if n4 < n9 then ((flags_Put (⟨true, 1, l25⟩ : Sl (Int)) n4).bind fun s32 => ((atL l27 n4).bind fun n36 => some (n9, (⟨true, 1, s32⟩ : Sl (Int)), (⟨true, 1, (l27.set n4.toNat n5)⟩ : Sl (Int))))) else some (n9, (⟨true, 1, l25⟩ : Sl (Int)), (⟨true, 1, l27⟩ : Sl (Int)))) else some (n9, (⟨true, 1, l25⟩ : Sl (Int)), (⟨true, 1, l27⟩ : Sl (Int)))))))))
theorem devec_Set_r (m : Nat) {a0 : Int × Sl (Int) × Sl (Int)} {n4 : Int} {n5 : Int} {out : (Int × Sl (Int) × Sl (Int))} (h : devec_Set a0 n4 n5 = some out) : RunsP E1 (m + 7) 24 [.agg (r24 a0), .one (iT .i64 n4), .one (iT .i64 n5)] (.fresh, [.agg (r24 out)]) := by
 obtain ⟨n1, s2, s3⟩ := a0
 refine fn_F rfl (by rw [E1_fn]; exact show fiOf Tryd.prog 24 = _ by unfold fiOf; rw [Tryd.func24]; unfold Tryd.f24; rfl) rfl ?_
 dsimp only
 unfold devec_Set at h
 refine lS (lO ?_)
 refine ol_new rfl rfl rfl (q_box ty25 rfl (cs := [iI n1, sF r85 s2, sF r2 s3]) rfl rfl) (fun k6 => ?_)
 refine ol_new rfl rfl rfl (q_alloc ty25 (row := [iI 0, nC, nC]) rfl rfl) (fun k7 => ?_)
 refine oN ?_
 refine pq (ql (.agg [iI n1, sF r85 s2, sF r2 s3]) 1 sz25) ?_
 obtain ⟨⟨n9, s10, s11⟩, h8, h⟩ := bindS h
 refine ol_putX rfl rfl rfl (q_callX (v := fun fr12 => .agg [iI n9, .p fr12 (Sl.t r85 s10), .p fr12 (Sl.t r2 s11)]) (args := [.agg [iI n1, sF r85 s2, sF r2 s3]]) (devec_sure_r (m + 0) h8) rfl rfl (vw_cons (vd_agg (vc_cons vc_v (vc_cons vc_s (vc_cons vc_s vc_nil)))) vw_nil) rfl rfl (fun fr => rfl)) (fun fr12 => ?_)
 refine ol_scallN (args := [.agg [iI n9, .p fr12 (Sl.t r85 s10), .p fr12 (Sl.t r2 s11)]]) rfl rfl rfl ax62 (by rw [E1_fn]; exact show fiOf Tryd.prog 62 = _ by unfold fiOf; rw [Tryd.func62]; unfold Tryd.f62; rfl) rfl rfl rfl ?_
 dsimp only
 refine lS (lO ?_)
 refine ol_new rfl rfl rfl (q_box ty25 rfl (cs := [iI n9, .p fr12 (Sl.t r85 s10), .p fr12 (Sl.t r2 s11)]) rfl rfl) (fun k13 => ?_)
 refine ol_new rfl rfl rfl (q_alloc ty25 (row := [iI 0, nC, nC]) rfl rfl) (fun k14 => ?_)
 refine oE (eS (lS ?_))
 refine L_norm (L2 := ([[(k14, 3, [[iI 0, nC, nC]])], [(k13, 3, [[iI n9, .p fr12 (Sl.t r85 s10), .p fr12 (Sl.t r2 s11)]])], [(k7, 3, [[iI 0, nC, nC]])]] : BL)) [0, 1, 2] (by decide) rfl ?_
 refine L_turn 13 rfl [[], [], [], [], [], [], [], [], [], [], [], [], []] [(false, []), (false, []), (false, []), (false, []), (false, []), (true, []), (false, []), (false, []), (false, []), (true, []), (false, []), (true, []), (false, [11])] [[2, 3, 4, 5, 6, 7, 8, 9, 11], [2, 3, 4, 5, 6, 7, 8, 9, 11], [0, 1, 6, 7, 8, 9, 11], [0, 1, 6, 7, 8, 9, 11], [0, 1, 6, 7, 8, 9, 11], [0, 1, 6, 7, 8, 9, 11], [0, 1, 2, 3, 4, 5, 11], [0, 1, 2, 3, 4, 5, 11], [0, 1, 2, 3, 4, 5, 11], [0, 1, 2, 3, 4, 5, 11], [11], [0, 1, 2, 3, 4, 5, 6, 7, 8, 9, 10], []] (by kernel_rfl) (by kernel_rfl) (by kernel_rfl) ?_ (fun bb15 hlt hnd => ?_)
 intro bb15 hlt hnd
 exact ⟨⟨djE, ⟨djE, ⟨djE, ⟨djE, ⟨djE, ⟨djE, ⟨djE, ⟨djE, ⟨djE, ⟨djE, ⟨djE, ⟨djE, ⟨djE, trivial⟩⟩⟩⟩⟩⟩⟩⟩⟩⟩⟩⟩⟩, (ltO_cons ltK_nil (ltO_cons ltK_nil (ltO_cons ltK_nil (ltO_cons ltK_nil (ltO_cons ltK_nil (ltO_cons ltK_nil (ltO_cons ltK_nil (ltO_cons ltK_nil (ltO_cons ltK_nil (ltO_cons ltK_nil (ltO_cons ltK_nil (ltO_cons ltK_nil (ltO_cons ltK_nil ltO_nil)))))))))))))⟩
 refine tq [] rfl hmn (q_fieldP rfl fa25_0 rfl) ?_
 refine tq [1] rfl (hmc (nin_cons (ne_new (key_lt hlt 1 rfl)) (nin_cons (ne_new (key_lt hlt 1 rfl)) (nin_cons (ne_new (key_lt hlt 1 rfl)) nin_nil))) hmn) (ql (iO n9) 0 sz3) ?_
 refine tq [] rfl hmn (q_fieldP rfl fa25_1 rfl) ?_
 refine tq [1] rfl (hmc (nin_cons (ne_new (key_lt hlt 1 rfl)) (nin_cons (ne_new (key_lt hlt 1 rfl)) nin_nil)) hmn) (ql (.one (.p fr12 (Sl.t r85 s10))) 0 sz22) ?_
 refine tq [] rfl hmn (q_lenS rfl ty22 rfl rfl rfl rfl) ?_
 obtain ⟨u20, h21, h⟩ := bindS h
 refine tn_new rfl rfl rfl [] (by decide) rfl hmn rfl rfl (hkc (ne_new (key_lt hlt 0 rfl)) (hkc (ne_new (key_lt hlt 1 rfl)) (hkc (ne_new (key_lt hlt 2 rfl)) hkn))) (q_mkslice (r := rowC r85) (a := (0 : Int)) ty22 rfl ty85 rfl rfl (lenOk_some h21).1 (lenOk_some h21).2 rfl rfl) ?_
 refine tq [] rfl hmn (q_fieldP rfl fa25_2 rfl) ?_
 refine tq [2] rfl (hmc (nin_cons (ne_new (key_lt hlt 1 rfl)) (nin_cons (ne_new (key_lt hlt 1 rfl)) nin_nil)) hmn) (ql (.one (.p fr12 (Sl.t r2 s11))) 0 sz23) ?_
 refine tq [] rfl hmn (q_lenS rfl ty23 rfl rfl rfl rfl) ?_
 obtain ⟨u22, h23, h⟩ := bindS h
 refine tn_new rfl rfl rfl [] (by decide) rfl hmn rfl rfl (hkc (ne_add rfl) (hkc (ne_new (key_lt hlt 0 rfl)) (hkc (ne_new (key_lt hlt 1 rfl)) (hkc (ne_new (key_lt hlt 2 rfl)) hkn)))) (q_mkslice (r := rowC r2) (a := (0 : Int)) ty23 rfl ty2 rfl rfl (lenOk_some h23).1 (lenOk_some h23).2 rfl rfl) ?_
 refine tq [] rfl hmn (q_build (cs := [iI n9, .own (bb15 + 5) 0 ((List.replicate ((s10.l.length : Nat) : Int).toNat (0 : Int))).length, .own (bb15 + 9) 0 ((List.replicate ((s11.l.length : Nat) : Int).toNat (0 : Int))).length]) ty25 rfl pl25 rfl) ?_
 refine tn_new rfl rfl rfl [] (by decide) rfl hmn rfl rfl (hkc (ne_add rfl) (hkc (ne_add rfl) (hkc (ne_new (key_lt hlt 0 rfl)) (hkc (ne_new (key_lt hlt 1 rfl)) (hkc (ne_new (key_lt hlt 2 rfl)) hkn))))) (q_alloc ty25 (row := [iI 0, nC, nC]) rfl rfl) ?_
 refine tn_wr rfl rfl [0] (by decide) rfl (hm0 rfl) rfl (q_store (es' := [[iI n9, .own (bb15 + 5) 0 ((List.replicate ((s10.l.length : Nat) : Int).toNat (0 : Int))).length, .own (bb15 + 9) 0 ((List.replicate ((s11.l.length : Nat) : Int).toNat (0 : Int))).length]]) 0 rfl rfl rfl sz25 rfl rfl rfl rfl rfl) (q := 0) rfl rfl ?_
 refine tn_end (eS (lS (lO ?_)))
 refine pq (q_fieldP rfl fa25_1 rfl) ?_
 refine pq (ql (.one (.own (bb15 + 5) 0 ((List.replicate ((s10.l.length : Nat) : Int).toNat (0 : Int))).length)) 0 sz22) ?_
 refine pq (q_fieldP rfl fa25_1 rfl) ?_
 refine pq (ql (.one (.p fr12 (Sl.t r85 s10))) 4 sz22) ?_
 obtain ⟨l25, h24, h⟩ := bindS h
 refine ol_wrD rfl rfl rfl (q_copy (r := rowC r85) (l := (List.replicate ((s10.l.length : Nat) : Int).toNat (0 : Int))) (m := s10.l) 2 rfl rfl (el_dat (fr := fr12) (r := r85) (fun x => rfl)) rfl rfl h24 (fun y => rfl) el22 ty22 rfl rfl rfl rfl rfl) rfl ?_
 refine ol_re 9 (v := .one (.own (bb15 + 5) 0 (l25).length)) (Eq.trans (b := .one (.own (bb15 + 5) 0 ((List.replicate ((s10.l.length : Nat) : Int).toNat (0 : Int))).length)) rfl (congrArg D.one (own_cpC h24))) ?_
 refine ol_re 16 (v := .one (.own (bb15 + 5) 0 (l25).length)) (Eq.trans (b := .one (.own (bb15 + 5) 0 ((List.replicate ((s10.l.length : Nat) : Int).toNat (0 : Int))).length)) rfl (congrArg D.one (own_cpC h24))) ?_
 refine ol_reS 0 (s' := [((bb15 + 11), 3, [[iI n9, .own (bb15 + 5) 0 (l25).length, .own (bb15 + 9) 0 ((List.replicate ((s11.l.length : Nat) : Int).toNat (0 : Int))).length]])]) rfl (congrArg (fun z => ([((bb15 + 11), 3, [[iI n9, z, .own (bb15 + 9) 0 ((List.replicate ((s11.l.length : Nat) : Int).toNat (0 : Int))).length]])] : List B1)) (own_cpC h24)) ?_
 refine oN ?_
 refine pq (q_fieldP rfl fa25_2 rfl) ?_
 refine pq (ql (.one (.own (bb15 + 9) 0 ((List.replicate ((s11.l.length : Nat) : Int).toNat (0 : Int))).length)) 0 sz23) ?_
 refine pq (q_fieldP rfl fa25_2 rfl) ?_
 refine pq (ql (.one (.p fr12 (Sl.t r2 s11))) 4 sz23) ?_
 obtain ⟨l27, h26, h⟩ := bindS h
 refine ol_wrD rfl rfl rfl (q_copy (r := rowC r2) (l := (List.replicate ((s11.l.length : Nat) : Int).toNat (0 : Int))) (m := s11.l) 1 rfl rfl (el_dat (fr := fr12) (r := r2) (fun x => rfl)) rfl rfl h26 (fun y => rfl) el23 ty23 rfl rfl rfl rfl rfl) rfl ?_
 refine ol_re 13 (v := .one (.own (bb15 + 9) 0 (l27).length)) (Eq.trans (b := .one (.own (bb15 + 9) 0 ((List.replicate ((s11.l.length : Nat) : Int).toNat (0 : Int))).length)) rfl (congrArg D.one (own_cpC h26))) ?_
 refine ol_re 21 (v := .one (.own (bb15 + 9) 0 (l27).length)) (Eq.trans (b := .one (.own (bb15 + 9) 0 ((List.replicate ((s11.l.length : Nat) : Int).toNat (0 : Int))).length)) rfl (congrArg D.one (own_cpC h26))) ?_
 refine ol_reS 0 (s' := [((bb15 + 11), 3, [[iI n9, .own (bb15 + 5) 0 (l25).length, .own (bb15 + 9) 0 (l27).length]])]) rfl (congrArg (fun z => ([((bb15 + 11), 3, [[iI n9, .own (bb15 + 5) 0 (l25).length, z]])] : List B1)) (own_cpC h26)) ?_
 refine oN ?_
 refine pq (ql (.agg [iI n9, .own (bb15 + 5) 0 (l25).length, .own (bb15 + 9) 0 (l27).length]) 0 sz25) ?_
 refine ow [[iI n9, .own (bb15 + 5) 0 (l25).length, .own (bb15 + 9) 0 (l27).length]] 3 sz25 ?_
 refine oE (eS (lR ?_))
 refine E_call (v := .agg [iI n9, .own (bb15 + 5) 0 (l25).length, .own (bb15 + 9) 0 (l27).length]) (.inr rfl) (res_cell (d := .agg [iI n9, .own (bb15 + 5) 0 (l25).length, .own (bb15 + 9) 0 (l27).length]) 3 rfl sz25 rfl rfl rfl rfl res_nil) rfl ?_
 refine ol_new rfl rfl rfl (q_alloc ty25 (row := [iI 0, nC, nC]) rfl rfl) (fun k28 => ?_)
 refine ow [[iI n9, .own (bb15 + 5) 0 (l25).length, .own (bb15 + 9) 0 (l27).length]] 0 sz25 ?_
 refine oE (eS (lS (lS (lO ?_))))
 refine pq (qm (iO n4)) ?_
 by_cases c29 : n4 ≥ 0
 replace h := ifT c29 h
 refine pq (qb (p_geq_tZ c29)) ?_
 refine pq (qm bt) ?_
 refine pq (qm (iO n4)) ?_
 refine pq (q_fieldP rfl fa25_0 rfl) ?_
 refine pq (ql (iO n9) 0 sz3) ?_
 by_cases c30 : n4 < n9
 replace h := ifT c30 h
 refine pq (qb (p_lss_tZ c30)) ?_
 refine pq (qpt bt) ?_
 refine oE (eS (cT rfl (lS (lO ?_))))
 refine pq (q_fieldP rfl fa25_1 rfl) ?_
 refine pq (ql (.one (.own (bb15 + 5) 0 (l25).length)) 0 sz22) ?_
 refine pq (qm (iO n4)) ?_
 obtain ⟨s32, h31, h⟩ := bindS h
 refine ol_new rfl rfl rfl (q_callO (args := [.one (.own (bb15 + 5) 0 (l25).length), iO n4]) (flags_Put_r (m + 4) h31) rfl rfl (vw_cons (vd_one (vc_own (r := r85) 3 rfl (fun x h m => rfl))) (vw_cons (vd_one vc_v) vw_nil)) rfl) (fun k33 => ?_)
 refine pq (q_fieldP rfl fa25_1 rfl) ?_
 refine ow [[iI n9, .own k33 0 (s32).length, .own (bb15 + 9) 0 (l27).length]] 1 sz22 ?_
 refine oR ?_
 refine pq (q_fieldP rfl fa25_2 rfl) ?_
 refine pq (ql (.one (.own (bb15 + 9) 0 (l27).length)) 1 sz23) ?_
 refine pq (qm (iO n4)) ?_
 refine pq (qm (iO n5)) ?_
 obtain ⟨n36, h35, h⟩ := bindS h
 obtain ⟨h35a, h35⟩ := atL_some h35
 refine pq (q_ixO 3 rfl rfl h35a h35 rfl el23) ?_
 refine ol_wr rfl rfl (q_store (e' := rowC r2 n5) (es' := ((l27.set n4.toNat n5)).map (rowC r2)) 3 rfl rfl rfl sz2 rfl rfl (map_get h35) rfl map_set) rfl ?_
 refine ol_re 25 (v := .one (.own (bb15 + 9) 0 ((l27.set n4.toNat n5)).length)) (Eq.trans (b := .one (.own (bb15 + 9) 0 (l27).length)) rfl (congrArg D.one own_setC)) ?_
 refine ol_reS 1 (s' := [(k28, 3, [[iI n9, .own k33 0 (s32).length, .own (bb15 + 9) 0 ((l27.set n4.toNat n5)).length]])]) rfl (congrArg (fun z => ([(k28, 3, [[iI n9, .own k33 0 (s32).length, z]])] : List B1)) own_setC) ?_
 refine ol_reS 2 (s' := [((bb15 + 11), 3, [[iI n9, .own (bb15 + 5) 0 (l25).length, .own (bb15 + 9) 0 ((l27.set n4.toNat n5)).length]])]) rfl (congrArg (fun z => ([((bb15 + 11), 3, [[iI n9, .own (bb15 + 5) 0 (l25).length, z]])] : List B1)) own_setC) ?_
 refine ol_reS 5 (s' := [(k14, 3, [[iI n9, .own (bb15 + 5) 0 (l25).length, .own (bb15 + 9) 0 ((l27.set n4.toNat n5)).length]])]) rfl (congrArg (fun z => ([(k14, 3, [[iI n9, .own (bb15 + 5) 0 (l25).length, z]])] : List B1)) own_setC) ?_
 refine oN ?_
 refine pq (ql (.agg [iI n9, .own k33 0 (s32).length, .own (bb15 + 9) 0 ((l27.set n4.toNat n5)).length]) 1 sz25) ?_
 refine ow [[iI n9, .own k33 0 (s32).length, .own (bb15 + 9) 0 ((l27.set n4.toNat n5)).length]] 7 sz25 ?_
 refine oE (eS (lR ?_))
 obtain rfl := sj h
 exact E_endF (.inr rfl) (res_cell (d := .agg [iI n9, .own k33 0 (s32).length, .own (bb15 + 9) 0 ((l27.set n4.toNat n5)).length]) 7 rfl sz25 rfl rfl rfl rfl res_nil) (vw_cons (vd_agg (vc_cons vc_v (vc_cons (vc_own (r := r85) 0 rfl (fun x h m => rfl)) (vc_cons (vc_own (r := r2) 3 rfl (fun x h m => rfl)) vc_nil)))) vw_nil) oG rfl rfl
 replace h := ifF c30 h
 refine pq (qb (p_lss_fZ c30)) ?_
 refine pq (qpt bf) ?_
 refine oE (eS (cF rfl (lK (eS (lS (lO ?_))))))
 refine pq (ql (.agg [iI n9, .own (bb15 + 5) 0 (l25).length, .own (bb15 + 9) 0 (l27).length]) 0 sz25) ?_
 refine ow [[iI n9, .own (bb15 + 5) 0 (l25).length, .own (bb15 + 9) 0 (l27).length]] 6 sz25 ?_
 refine oE (eS (lR ?_))
 obtain rfl := sj h
 exact E_endF (.inr rfl) (res_cell (d := .agg [iI n9, .own (bb15 + 5) 0 (l25).length, .own (bb15 + 9) 0 (l27).length]) 6 rfl sz25 rfl rfl rfl rfl res_nil) (vw_cons (vd_agg (vc_cons vc_v (vc_cons (vc_own (r := r85) 3 rfl (fun x h m => rfl)) (vc_cons (vc_own (r := r2) 2 rfl (fun x h m => rfl)) vc_nil)))) vw_nil) oG rfl rfl
 replace h := ifF c29 h
 refine pq (qb (p_geq_fZ c29)) ?_
 refine pq (qm bf) ?_
 iterate 4 refine os ?_
 refine pq (qpf bf) ?_
 refine oE (eS (cF rfl (lK (eS (lS (lO ?_))))))
 refine pq (ql (.agg [iI n9, .own (bb15 + 5) 0 (l25).length, .own (bb15 + 9) 0 (l27).length]) 0 sz25) ?_
 refine ow [[iI n9, .own (bb15 + 5) 0 (l25).length, .own (bb15 + 9) 0 (l27).length]] 6 sz25 ?_
 refine oE (eS (lR ?_))
 obtain rfl := sj h
 exact E_endF (.inr rfl) (res_cell (d := .agg [iI n9, .own (bb15 + 5) 0 (l25).length, .own (bb15 + 9) 0 (l27).length]) 6 rfl sz25 rfl rfl rfl rfl res_nil) (vw_cons (vd_agg (vc_cons vc_v (vc_cons (vc_own (r := r85) 3 rfl (fun x h m => rfl)) (vc_cons (vc_own (r := r2) 2 rfl (fun x h m => rfl)) vc_nil)))) vw_nil) oG rfl rfl
end Ev
end Go.Proofs.YtjomjfjbpcafhaaDoor
