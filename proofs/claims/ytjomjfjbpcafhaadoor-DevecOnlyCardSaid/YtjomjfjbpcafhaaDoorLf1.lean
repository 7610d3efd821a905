/- Functions of the program as functions on data, and that they are. -/
import Derived.Test.YtjomjfjbpcafhaaDoorEvZ
import Derived.Test.YtjomjfjbpcafhaaDoorLy1
namespace Go.Proofs.YtjomjfjbpcafhaaDoor
namespace Ev
open Go
set_option linter.unusedVariables false
set_option linter.unusedSimpArgs false
set_option maxRecDepth 100000
set_option maxHeartbeats 1000000
attribute [local irreducible] OpsL StL TnL WpL EndL
noncomputable def flags_words (n1 : Int) : Option (Int) :=
  ((divO .i64 (IntKind.i64.wrap ((minI (maxI n1 0) 4096) + 63)) 64).bind fun n2 => some n2)
theorem flags_words_r (m : Nat) {n1 : Int} {out : Int} (h : flags_words n1 = some out) : RunsP E1 (m + 1) 83 [.one (iT .i64 n1)] (.fresh, [.one (iT .i64 out)]) := by
 refine fn_F rfl (by rw [E1_fn]; exact show fiOf Tryd.prog 83 = _ by unfold fiOf; rw [Tryd.func83]; unfold Tryd.f83; rfl) rfl ?_
 dsimp only
 unfold flags_words at h
 refine lS (lO ?_)
 refine pq (qa (iO 0)) ?_
 refine oN ?_
 refine pq (qm (iO n1)) ?_
 refine pq ((q_minmax rfl rfl ty3 rfl rfl).2 rfl) ?_
 refine pq ((q_minmax rfl rfl ty3 rfl rfl).1 rfl) ?_
 refine pq (qb p_addY) ?_
 obtain ⟨n2, h3, h⟩ := bindS h
 refine pq (q_bin rfl rfl (divO_p h3) rfl) ?_
 refine pq (qa (iO n2)) ?_
 refine oE (eS (lR ?_))
 obtain rfl := sj h
 exact eF1

noncomputable def flags_within (s1 : Sl (Int)) (n2 : Int) : Option (Bool) :=
  (if n2 ≥ 0 then ((divO .i64 n2 64).bind fun n4 => (if n4 < ((s1.l.length : Nat) : Int) then some true else some false)) else some false)
theorem flags_within_r (m : Nat) {s1 : Sl (Int)} {n2 : Int} {out : Bool} (h : flags_within s1 n2 = some out) : RunsP E1 (m + 1) 85 [.one (Sl.t r85 s1), .one (iT .i64 n2)] (.fresh, [.one (bT out)]) := by
 refine fn_F rfl (by rw [E1_fn]; exact show fiOf Tryd.prog 85 = _ by unfold fiOf; rw [Tryd.func85]; unfold Tryd.f85; rfl) rfl ?_
 dsimp only
 unfold flags_within at h
 refine lS (lO ?_)
 refine pq (qa bf) ?_
 refine oN ?_
 refine pq (qm (iO n2)) ?_
 by_cases c3 : n2 ≥ 0
 replace h := ifT c3 h
 refine pq (qb (p_geq_tZ c3)) ?_
 refine pq (qm bt) ?_
 refine pq (qm (iO n2)) ?_
 obtain ⟨n4, h5, h⟩ := bindS h
 refine pq (q_bin rfl rfl (divO_p h5) rfl) ?_
 refine pq (qm (.one (sF r85 s1))) ?_
 refine pq (q_lenS rfl ty22 rfl rfl rfl rfl) ?_
 by_cases c6 : n4 < ((s1.l.length : Nat) : Int)
 replace h := ifT c6 h
 refine pq (qb (p_lss_tZ c6)) ?_
 refine pq (qpt bt) ?_
 refine pq (qa bt) ?_
 refine oE (eS (lR ?_))
 obtain rfl := sj h
 exact eF1
 replace h := ifF c6 h
 refine pq (qb (p_lss_fZ c6)) ?_
 refine pq (qpt bf) ?_
 refine pq (qa bf) ?_
 refine oE (eS (lR ?_))
 obtain rfl := sj h
 exact eF1
 replace h := ifF c3 h
 refine pq (qb (p_geq_fZ c3)) ?_
 refine pq (qm bf) ?_
 iterate 5 refine os ?_
 refine pq (qpf bf) ?_
 refine pq (qa bf) ?_
 refine oE (eS (lR ?_))
 obtain rfl := sj h
 exact eF1

noncomputable def flags_Next_b2 (n6 : Int) (n46 : Int) (n50 : Int) (_a : Unit) : Option (Unit ⊕ (Int ⊕ (Unit ⊕ Empty))) :=
  (if n50 ≠ 0 then ((TZ n50).bind fun n56 => some (.inr (.inl (IntKind.i64.wrap ((IntKind.i64.wrap ((IntKind.i64.wrap (n6 + 1)) * 64)) + (IntKind.i64.wrap ((IntKind.i64.wrap (n46 * 64)) + n56))))))) else some (.inr (.inr (.inl ()))))
noncomputable def flags_Next_b1 (n6 : Int) (s19 : Sl (Int)) (n46 : Int) : Option (Int ⊕ (Int ⊕ (Unit ⊕ Empty))) :=
  (if n46 < ((s19.l.length : Nat) : Int) then ((atS 1 s19 n46).bind fun n50 => ((loopO (flags_Next_b2 n6 n46 n50) ()).bind ((Sum.elim (fun n57 => some (.inr (.inl n57))) (Sum.elim (fun _ => some (.inl (IntKind.i64.wrap (n46 + 1)))) (fun u => u.elim)))))) else some (.inr (.inr (.inl ()))))
noncomputable def flags_Next (s1 : Sl (Int)) (n2 : Int) : Option (Int) :=
  ((flags_within s1 (maxI n2 0)).bind fun b5 => (if b5 = true then ((divO .i64 (maxI n2 0) 64).bind fun n6 => ((atS 1 s1 n6).bind fun n10 => ((modO (maxI n2 0) 64).bind fun n11 => ((shr1 .u64 n10 (IntKind.u64.wrap n11)).bind fun n13 => (if n13 ≠ 0 then ((TZ n13).bind fun n17 => some (IntKind.i64.wrap ((maxI n2 0) + n17))) else ((cutS 1 s1 (IntKind.i64.wrap (n6 + 1)) ((s1.l.length : Nat) : Int)).bind fun s19 => ((loopO (flags_Next_b1 n6 s19) 0).bind ((Sum.elim (fun n58 => some n58) (Sum.elim (fun _ => some (-1)) (fun u => u.elim))))))))))) else some (-1)))
theorem flags_Next_r (m : Nat) {s1 : Sl (Int)} {n2 : Int} {out : Int} (h : flags_Next s1 n2 = some out) : RunsP E1 (m + 3) 84 [.one (Sl.t r85 s1), .one (iT .i64 n2)] (.fresh, [.one (iT .i64 out)]) := by
 refine fn_F rfl (by rw [E1_fn]; exact show fiOf Tryd.prog 84 = _ by unfold fiOf; rw [Tryd.func84]; unfold Tryd.f84; rfl) rfl ?_
 dsimp only
 unfold flags_Next at h
 refine lS (lO ?_)
 refine ol_new rfl rfl rfl (q_alloc ty3 (row := [iI 0]) rfl rfl) (fun k3 => ?_)
 refine oN ?_
 refine pq (qm (iO n2)) ?_
 refine pq ((q_minmax rfl rfl ty3 rfl rfl).2 rfl) ?_
 refine pq (qa (iO (maxI n2 0))) ?_
 refine oE (eS (lS (lS (lO ?_))))
 refine pq (qm (.one (sF r85 s1))) ?_
 refine pq (qm (iO (maxI n2 0))) ?_
 obtain ⟨b5, h4, h⟩ := bindS h
 refine pq (qc (bO b5) [.one (sF r85 s1), .one (iI (maxI n2 0))] (flags_within_r (m + 1) h4) (vw_cons (vd_one vc_s) (vw_cons (vd_one vc_v) vw_nil))) ?_
 rcases b5 with _ | _
 replace h := wF h
 refine pq (q_not rfl) ?_
 refine oE (eS (cT rfl (lS (lO ?_))))
 refine ow [[iI (-1)]] 0 sz3 ?_
 refine oE (eS (lR (eR ?_)))
 obtain rfl := sj h
 exact E_endF (.inr rfl) (res_cell (d := .one (iI (-1))) 0 rfl sz3 rfl rfl rfl rfl res_nil) (vw_cons (vd_one vc_v) vw_nil) oP rfl rfl
 replace h := wT h
 refine pq (q_not rfl) ?_
 refine oE (eS (cF rfl (lK (eS (lS (lS (lO ?_)))))))
 refine pq (qm (.one (sF r85 s1))) ?_
 refine pq (qm (iO (maxI n2 0))) ?_
 obtain ⟨n6, h7, h⟩ := bindS h
 refine pq (q_bin rfl rfl (divO_p h7) rfl) ?_
 obtain ⟨n10, h9, h⟩ := bindS h
 obtain ⟨h9a, h9b, h9⟩ := atS_some h9
 refine pq (q_ixS rfl rfl h9a h9 (el22.trans (congrArg some h9b.symm))) ?_
 refine pq (q_loadI (v := .one (uI n10)) rfl sz85 (map_get h9) rfl rfl) ?_
 refine pq (qm (iO (maxI n2 0))) ?_
 obtain ⟨n11, h12, h⟩ := bindS h
 refine pq (q_bin rfl rfl (modO_p h12) rfl) ?_
 refine pq (q_conv rfl (cv3_97_i64 _) rfl) ?_
 obtain ⟨n13, h14, h⟩ := bindS h
 refine pq (q_bin rfl rfl (p_shr h14) rfl) ?_
 refine pq (qa (.one (uI n13))) ?_
 refine oN ?_
 refine pq (qm (.one (uI n13))) ?_
 by_cases c15 : n13 ≠ 0
 replace h := ifT c15 h
 refine pq (qb (p_neq_tZ c15)) ?_
 refine oE (eS (cT rfl (lS (lO ?_))))
 refine pq (qm (iO (maxI n2 0))) ?_
 refine pq (qm (.one (uI n13))) ?_
 obtain ⟨n17, h16, h⟩ := bindS h
 refine pq (qc (iO n17) [.one (uI n13)] (TZ_r (m + 1) h16) (vw_cons (vd_one vc_v) vw_nil)) ?_
 refine pq (qb p_addY) ?_
 refine ow [[iI (IntKind.i64.wrap ((maxI n2 0) + n17))]] 0 sz3 ?_
 refine oE (eS (lR (eR ?_)))
 obtain rfl := sj h
 exact E_endF (.inr rfl) (res_cell (d := .one (iI (IntKind.i64.wrap ((maxI n2 0) + n17)))) 0 rfl sz3 rfl rfl rfl rfl res_nil) (vw_cons (vd_one vc_v) vw_nil) oP rfl rfl
 replace h := ifF c15 h
 refine pq (qb (p_neq_fZ c15)) ?_
 refine oE (eS (cF rfl (lK (eS (lS (lO ?_))))))
 refine pq (qm (iO (maxI n2 0))) ?_
 refine pq (q_bin rfl rfl (divO_p h7) rfl) ?_
 refine pq (qb p_addY) ?_
 refine ol_new rfl rfl rfl (q_alloc ty3 (row := [iI 0]) rfl rfl) (fun k18 => ?_)
 refine ow [[iI (IntKind.i64.wrap (n6 + 1))]] 0 sz3 ?_
 refine oE (eS (lS (lS (lO ?_))))
 refine pq (qm (.one (sF r85 s1))) ?_
 refine pq (ql (iO (IntKind.i64.wrap (n6 + 1))) 0 sz3) ?_
 obtain ⟨s19, h20, h⟩ := bindS h
 refine pq (q_sliceS (r := r85) h20 rfl ty22 rfl ty85 (no_some rfl (cutS_some h20).1.1 _) (no_none _)) ?_
 refine ol_scallN (args := [.one (sF r85 s19)]) rfl rfl rfl ax94 (by rw [E1_fn]; exact show fiOf Tryd.prog 94 = _ by unfold fiOf; rw [Tryd.func94]; unfold Tryd.f94; rfl) rfl rfl rfl ?_
 dsimp only
 refine lS (lO ?_)
 refine ol_new rfl rfl rfl (q_box ty22 rfl (cs := [sF r85 s19]) rfl rfl) (fun k21 => ?_)
 refine pq (qa (.one (.p true (.v .nilFunc)))) ?_
 refine oN ?_
 refine pq (q_mkfun rfl rfl) ?_
 refine pq (qa (.one (.clo (.func 103) [] [.ptr k21 0 0]))) ?_
 refine oE (eS (lR ?_))
 refine E_call (v := .one (.clo (.func 103) [] [.ptr k21 0 0])) (.inr rfl) (res_tmp (d := .one (.clo (.func 103) [] [.ptr k21 0 0])) rfl res_nil) rfl ?_
 refine oE (eS (lB ?_))
 refine L_range rfl (by rw [E1_fn]; exact show fiOf Tryd.prog 103 = _ by unfold fiOf; rw [Tryd.func103]; unfold Tryd.f103; rfl) rfl rfl (fun k22 => ?_)
 dsimp only
 refine lS (lO ?_)
 refine pq (ql (.one (sF r85 s19)) 1 sz22) ?_
 refine pq (q_lenS rfl ty22 rfl rfl rfl rfl) ?_
 refine pq (qm (iO 0)) ?_
 refine oE (eS (lB ?_))
 let S1 : Int → Unit → (Nat → D) → Nat → D := fun a kt g => ups g [(0, .one (.yld k22)), (5, .one (sF r85 s19)), (6, .one (iI ((s19.l.length : Nat) : Int))), (7, iO a)]
 let SL1 : Int → Unit → BL := fun a kt => ([[(k22, 0, [])], [(k3, 1, [[iI 0]])], [(k18, 1, [[iI (IntKind.i64.wrap (n6 + 1))]])]] : BL)
 let G1 : Empty → Ex → St → Prop := fun u => u.elim
 let Sx1_1 : Unit → Unit → (Nat → D) → Nat → D := fun a kt g => ups g []
 let SLx1_1 : Unit → Unit → BL := fun a kt => ([[(k3, 1, [[iI 0]])], [(k18, 1, [[iI (IntKind.i64.wrap (n6 + 1))]])], [(k22, 0, [])]] : BL)
 let Sx1_0 : Int → Unit → (Nat → D) → Nat → D := fun a kt g => ups g []
 let SLx1_0 : Int → Unit → BL := fun a kt => ([[(k3, 1, [[iI a]])], [(k18, 1, [[iI (IntKind.i64.wrap (n6 + 1))]])], [(k22, 0, [[]])]] : BL)
 let J1 : (Int ⊕ (Unit ⊕ Empty)) → Ex → St → Prop := JE 27 .ret Sx1_0 SLx1_0 (JE 27 (.exit 0) Sx1_1 SLx1_1 (JU G1))
 refine L_loopS (flags_Next_b1 n6 s19) S1 SL1 J1 (JE_n rfl (JE_n rfl (JU_n))) 0 h () (ups_self ⟨rfl, rfl, rfl, rfl, trivial⟩) [0, 3, 2] (by decide) rfl ?_ ?_
 rintro n46 _ g out h
 change flags_Next_b1 n6 s19 n46 = some out at h
 unfold flags_Next_b1 at h
 refine lS (lO ?_)
 by_cases c47 : n46 < ((s19.l.length : Nat) : Int)
 replace h := ifT c47 h
 refine pq (qb (p_lss_tZ c47)) ?_
 refine oE (eS (lS (cT rfl (lK (eS (lS (lB (lS (lO ?_)))))))))
 refine pq (qm (iO n46)) ?_
 obtain ⟨n50, h49, h⟩ := bindS h
 obtain ⟨h49a, h49b, h49⟩ := atS_some h49
 refine pq (q_ixS rfl rfl h49a h49 (el22.trans (congrArg some h49b.symm))) ?_
 refine pq (q_loadI (v := .one (uI n50)) rfl sz85 (map_get h49) rfl rfl) ?_
 refine pq (qa (iO n46)) ?_
 refine pq (qa (.one (uI n50))) ?_
 refine oE (eS (lB ?_))
 let S2 : Unit → Unit → (Nat → D) → Nat → D := fun a kt g => ups g [(0, .one (.yld k22)), (3, iO n46), (4, .one (uI n50)), (5, .one (sF r85 s19)), (6, .one (iI ((s19.l.length : Nat) : Int))), (7, iO n46)]
 let SL2 : Unit → Unit → BL := fun a kt => ([[(k22, 0, [])], [(k3, 1, [[iI 0]])], [(k18, 1, [[iI (IntKind.i64.wrap (n6 + 1))]])]] : BL)
 let G2 : Empty → Ex → St → Prop := fun u => u.elim
 let Sx2_1 : Unit → Unit → (Nat → D) → Nat → D := fun a kt g => ups g [(0, .one (.yld k22)), (5, .one (sF r85 s19)), (6, .one (iI ((s19.l.length : Nat) : Int))), (7, iO n46)]
 let SLx2_1 : Unit → Unit → BL := fun a kt => ([[(k22, 0, [])], [(k3, 1, [[iI 0]])], [(k18, 1, [[iI (IntKind.i64.wrap (n6 + 1))]])]] : BL)
 let Sx2_0 : Int → Unit → (Nat → D) → Nat → D := fun a kt g => ups g []
 let SLx2_0 : Int → Unit → BL := fun a kt => ([[(k3, 1, [[iI a]])], [(k18, 1, [[iI (IntKind.i64.wrap (n6 + 1))]])], [(k22, 0, [[]])]] : BL)
 let J2 : (Int ⊕ (Unit ⊕ Empty)) → Ex → St → Prop := JE 27 .ret Sx2_0 SLx2_0 (JE 27 (.exit 2) Sx2_1 SLx2_1 (JU G2))
 refine L_loopS (flags_Next_b2 n6 n46 n50) S2 SL2 J2 (JE_n rfl (JE_n rfl (JU_n))) () h () (ups_self ⟨rfl, rfl, rfl, rfl, rfl, rfl, trivial⟩) [0, 1, 2] (by decide) rfl ?_ ?_
 rintro _ _ g out h
 change flags_Next_b2 n6 n46 n50 () = some out at h
 unfold flags_Next_b2 at h
 refine lS (lS (lO ?_))
 refine pq (qm (.one (uI n50))) ?_
 by_cases c54 : n50 ≠ 0
 replace h := ifT c54 h
 refine pq (qb (p_neq_tZ c54)) ?_
 refine oE (eS (cT rfl (lK (eS (lS (lB (lS (lO ?_))))))))
 refine pq (qm (.one (.yld k22))) ?_
 refine pq (qm (iO n46)) ?_
 refine pq (qb p_mulY) ?_
 refine pq (qm (.one (uI n50))) ?_
 obtain ⟨n56, h55, h⟩ := bindS h
 refine pq (qc (iO n56) [.one (uI n50)] (TZ_r (m + 0) h55) (vw_cons (vd_one vc_v) vw_nil)) ?_
 refine pq (qb p_addY) ?_
 refine ol_yield (args := [.one (iI (IntKind.i64.wrap ((IntKind.i64.wrap (n46 * 64)) + n56)))]) (p := 0) rfl rfl rfl rfl rfl rfl rfl rfl rfl ?_
 refine lO ?_
 refine pq (qa (.one (iI (IntKind.i64.wrap ((IntKind.i64.wrap (n46 * 64)) + n56))))) ?_
 refine oE ?_
 refine E_asg ?_
 refine lB (lS (lO ?_))
 refine pq (ql (iO (IntKind.i64.wrap (n6 + 1))) 2 sz3) ?_
 refine pq (qb p_mulY) ?_
 refine pq (qm (.one (iI (IntKind.i64.wrap ((IntKind.i64.wrap (n46 * 64)) + n56))))) ?_
 refine pq (qb p_addY) ?_
 refine ow [[iI (IntKind.i64.wrap ((IntKind.i64.wrap ((IntKind.i64.wrap (n6 + 1)) * 64)) + (IntKind.i64.wrap ((IntKind.i64.wrap (n46 * 64)) + n56))))]] 1 sz3 ?_
 refine oE (eS (lR (bR ?_)))
 refine E_roundX (p := 0) (es := [[]]) rfl rfl rfl rfl ?_
 refine pq (q_not rfl) ?_
 refine oE (eS (cT rfl (lR (bR (eR ?_)))))
 obtain rfl := sj h
 refine E_out ?_
 exact (E_je () (ups_self trivial) [1, 2, 0] (by decide) rfl)
 replace h := ifF c54 h
 refine pq (qb (p_neq_fZ c54)) ?_
 refine oE (eS (cF rfl (L_exit ?_)))
 refine E_seqX ?_
 obtain rfl := sj h
 refine E_out ?_
 exact E_js ((E_je () (ups_self ⟨rfl, rfl, rfl, rfl, trivial⟩) [0, 1, 2] (by decide) rfl))
 rintro (n57 | _ | u) h
 refine J_e (fun kt g => ?_)
 replace h := elimL h
 refine bR (bR (eR ?_))
 obtain rfl := sj h
 refine E_out ?_
 exact (E_je () (ups_self trivial) [0, 1, 2] (by decide) rfl)
 refine J_s (J_e (fun kt g => ?_))
 replace h := elimL (elimR h)
 refine bH (bN (eS (lO ?_)))
 refine pq (qb p_addY) ?_
 refine pq (qm (iO (IntKind.i64.wrap (n46 + 1)))) ?_
 refine oE ?_
 obtain rfl := sj h
 exact E_next () (ups_self ⟨rfl, rfl, rfl, rfl, trivial⟩) [0, 1, 2] (by decide) rfl
 exact u.elim
 replace h := ifF c47 h
 refine pq (qb (p_lss_fZ c47)) ?_
 refine oE (eS (lS (cF rfl (L_exit ?_))))
 refine E_seqX ?_
 obtain rfl := sj h
 refine E_out ?_
 exact E_js ((E_je () (ups_self trivial) [1, 2, 0] (by decide) rfl))
 rintro (n58 | _ | u) h
 refine J_e (fun kt g => ?_)
 replace h := elimL h
 refine bR ?_
 refine E_range (p := 2) (.inr rfl) rfl ?_
 refine bR (eR ?_)
 obtain rfl := sj h
 exact E_endF (.inr rfl) (res_cell (d := iO n58) 0 rfl sz3 rfl rfl rfl rfl res_nil) (vw_cons (vd_one vc_v) vw_nil) oP rfl rfl
 refine J_s (J_e (fun kt g => ?_))
 replace h := elimL (elimR h)
 refine bH ?_
 refine E_range (p := 2) (.inl rfl) rfl ?_
 refine bN (eS (lS (lO ?_)))
 refine ow [[iI (-1)]] 0 sz3 ?_
 refine oE (eS (lR ?_))
 obtain rfl := sj h
 exact E_endF (.inr rfl) (res_cell (d := .one (iI (-1))) 0 rfl sz3 rfl rfl rfl rfl res_nil) (vw_cons (vd_one vc_v) vw_nil) oP rfl rfl
 exact u.elim

noncomputable def flags_Right (s1 : Sl (Int)) (n2 : Int) : Option (Bool) :=
  (if n2 ≥ 0 then (if n2 ≤ 4096 then ((flags_words n2).bind fun n6 => (if ((s1.l.length : Nat) : Int) = n6 then ((flags_Next s1 n2).bind fun n9 => (if n9 < 0 then some true else some false)) else some false)) else some false) else some false)
theorem flags_Right_r (m : Nat) {s1 : Sl (Int)} {n2 : Int} {out : Bool} (h : flags_Right s1 n2 = some out) : RunsP E1 (m + 4) 44 [.one (Sl.t r85 s1), .one (iT .i64 n2)] (.fresh, [.one (bT out)]) := by
 refine fn_F rfl (by rw [E1_fn]; exact show fiOf Tryd.prog 44 = _ by unfold fiOf; rw [Tryd.func44]; unfold Tryd.f44; rfl) rfl ?_
 dsimp only
 unfold flags_Right at h
 refine lS (lO ?_)
 refine pq (qa bf) ?_
 refine oN ?_
 refine pq (qm (iO n2)) ?_
 by_cases c3 : n2 ≥ 0
 replace h := ifT c3 h
 refine pq (qb (p_geq_tZ c3)) ?_
 refine pq (qm bt) ?_
 refine pq (qm (iO n2)) ?_
 by_cases c4 : n2 ≤ 4096
 replace h := ifT c4 h
 refine pq (qb (p_leq_tZ c4)) ?_
 refine pq (qpt bt) ?_
 refine pq (qm bt) ?_
 refine pq (qm (.one (sF r85 s1))) ?_
 refine pq (q_lenS rfl ty22 rfl rfl rfl rfl) ?_
 refine pq (qm (iO n2)) ?_
 obtain ⟨n6, h5, h⟩ := bindS h
 refine pq (qc (iO n6) [iO n2] (flags_words_r (m + 2) h5) (vw_cons (vd_one vc_v) vw_nil)) ?_
 by_cases c7 : ((s1.l.length : Nat) : Int) = n6
 replace h := ifT c7 h
 refine pq (qb (p_eql_tZ c7)) ?_
 refine pq (qpt bt) ?_
 refine pq (qm bt) ?_
 refine pq (qm (.one (sF r85 s1))) ?_
 refine pq (qm (iO n2)) ?_
 obtain ⟨n9, h8, h⟩ := bindS h
 refine pq (qc (iO n9) [.one (sF r85 s1), iO n2] (flags_Next_r (m + 0) h8) (vw_cons (vd_one vc_s) (vw_cons (vd_one vc_v) vw_nil))) ?_
 by_cases c10 : n9 < 0
 replace h := ifT c10 h
 refine pq (qb (p_lss_tZ c10)) ?_
 refine pq (qpt bt) ?_
 refine pq (qa bt) ?_
 refine oE (eS (lR ?_))
 obtain rfl := sj h
 exact eF1
 replace h := ifF c10 h
 refine pq (qb (p_lss_fZ c10)) ?_
 refine pq (qpt bf) ?_
 refine pq (qa bf) ?_
 refine oE (eS (lR ?_))
 obtain rfl := sj h
 exact eF1
 replace h := ifF c7 h
 refine pq (qb (p_eql_fZ c7)) ?_
 refine pq (qpt bf) ?_
 refine pq (qm bf) ?_
 iterate 4 refine os ?_
 refine pq (qpf bf) ?_
 refine pq (qa bf) ?_
 refine oE (eS (lR ?_))
 obtain rfl := sj h
 exact eF1
 replace h := ifF c4 h
 refine pq (qb (p_leq_fZ c4)) ?_
 refine pq (qpt bf) ?_
 refine pq (qm bf) ?_
 iterate 5 refine os ?_
 refine pq (qpf bf) ?_
 refine pq (qm bf) ?_
 iterate 4 refine os ?_
 refine pq (qpf bf) ?_
 refine pq (qa bf) ?_
 refine oE (eS (lR ?_))
 obtain rfl := sj h
 exact eF1
 replace h := ifF c3 h
 refine pq (qb (p_geq_fZ c3)) ?_
 refine pq (qm bf) ?_
 iterate 2 refine os ?_
 refine pq (qpf bf) ?_
 refine pq (qm bf) ?_
 iterate 5 refine os ?_
 refine pq (qpf bf) ?_
 refine pq (qm bf) ?_
 iterate 4 refine os ?_
 refine pq (qpf bf) ?_
 refine pq (qa bf) ?_
 refine oE (eS (lR ?_))
 obtain rfl := sj h
 exact eF1

noncomputable def flags_bit (n1 : Int) : Option (Int) :=
  ((modO n1 64).bind fun n2 => ((shl1 .u64 1 (IntKind.u64.wrap n2)).bind fun n4 => some n4))
theorem flags_bit_r (m : Nat) {n1 : Int} {out : Int} (h : flags_bit n1 = some out) : RunsP E1 (m + 1) 86 [.one (iT .i64 n1)] (.fresh, [.one (iT .u64 out)]) := by
 refine fn_F rfl (by rw [E1_fn]; exact show fiOf Tryd.prog 86 = _ by unfold fiOf; rw [Tryd.func86]; unfold Tryd.f86; rfl) rfl ?_
 dsimp only
 unfold flags_bit at h
 refine lS (lO ?_)
 refine pq (qa (.one (uI 0))) ?_
 refine oN ?_
 refine pq (qm (iO n1)) ?_
 obtain ⟨n2, h3, h⟩ := bindS h
 refine pq (q_bin rfl rfl (modO_p h3) rfl) ?_
 refine pq (q_conv rfl (cv3_97_i64 _) rfl) ?_
 obtain ⟨n4, h5, h⟩ := bindS h
 refine pq (q_bin rfl rfl (p_shl h5) rfl) ?_
 refine pq (qa (.one (uI n4))) ?_
 refine oE (eS (lR ?_))
 obtain rfl := sj h
 exact eF1

noncomputable def flags_Has (s1 : Sl (Int)) (n2 : Int) : Option (Bool) :=
  ((flags_within s1 n2).bind fun b4 => (if b4 = true then ((divO .i64 n2 64).bind fun n5 => ((atS 1 s1 n5).bind fun n9 => ((flags_bit n2).bind fun n11 => (if (andI .u64 n9 n11) ≠ 0 then some true else some false)))) else some false))
theorem flags_Has_r (m : Nat) {s1 : Sl (Int)} {n2 : Int} {out : Bool} (h : flags_Has s1 n2 = some out) : RunsP E1 (m + 2) 45 [.one (Sl.t r85 s1), .one (iT .i64 n2)] (.fresh, [.one (bT out)]) := by
 refine fn_F rfl (by rw [E1_fn]; exact show fiOf Tryd.prog 45 = _ by unfold fiOf; rw [Tryd.func45]; unfold Tryd.f45; rfl) rfl ?_
 dsimp only
 unfold flags_Has at h
 refine lS (lO ?_)
 refine pq (qa bf) ?_
 refine oE (eS (lS ?_))
 refine L_still (by kernel_rfl) ?_
 refine sq (qm (.one (sF r85 s1))) ?_
 refine sq (qm (iO n2)) ?_
 obtain ⟨b4, h3, h⟩ := bindS h
 refine sq (qc (bO b4) [.one (sF r85 s1), iO n2] (flags_within_r (m + 0) h3) (vw_cons (vd_one vc_s) (vw_cons (vd_one vc_v) vw_nil))) ?_
 refine sq (qm (bO b4)) ?_
 rcases b4 with _ | _
 replace h := wF h
 iterate 9 refine ss ?_
 refine sq (qpf bf) ?_
 refine sq (qa bf) ?_
 refine st_end (eS (lR ?_))
 obtain rfl := sj h
 exact eF1
 replace h := wT h
 refine sq (qm (.one (sF r85 s1))) ?_
 refine sq (qm (iO n2)) ?_
 obtain ⟨n5, h6, h⟩ := bindS h
 refine sq (q_bin rfl rfl (divO_p h6) rfl) ?_
 obtain ⟨n9, h8, h⟩ := bindS h
 obtain ⟨h8a, h8b, h8⟩ := atS_some h8
 refine sq (q_ixS rfl rfl h8a h8 (el22.trans (congrArg some h8b.symm))) ?_
 refine sq (q_loadI (v := .one (uI n9)) rfl sz85 (map_get h8) rfl rfl) ?_
 refine sq (qm (iO n2)) ?_
 obtain ⟨n11, h10, h⟩ := bindS h
 refine sq (qc (.one (uI n11)) [iO n2] (flags_bit_r (m + 0) h10) (vw_cons (vd_one vc_v) vw_nil)) ?_
 refine sq (q_bin rfl rfl (p_and _ _ _ _ _ _ _) rfl) ?_
 by_cases c12 : (andI .u64 n9 n11) ≠ 0
 replace h := ifT c12 h
 refine sq (qb (p_neq_tZ c12)) ?_
 refine sq (qpt bt) ?_
 refine sq (qa bt) ?_
 refine st_end (eS (lR ?_))
 obtain rfl := sj h
 exact eF1
 replace h := ifF c12 h
 refine sq (qb (p_neq_fZ c12)) ?_
 refine sq (qpt bf) ?_
 refine sq (qa bf) ?_
 refine st_end (eS (lR ?_))
 obtain rfl := sj h
 exact eF1

noncomputable def devec_Right_b1 (s2 : Sl (Int)) (s3 : Sl (Int)) (n23 : Int) : Option (Int ⊕ (Unit ⊕ Bool)) :=
  (if n23 < ((s3.l.length : Nat) : Int) then ((atS 1 s3 n23).bind fun n27 => (if n27 ≠ 0 then ((flags_Has s2 n23).bind fun b30 => (if b30 = true then some (.inl (IntKind.i64.wrap (n23 + 1))) else some (.inr (.inr false)))) else some (.inl (IntKind.i64.wrap (n23 + 1))))) else some (.inr (.inl ())))
noncomputable def devec_Right (a0 : Int × Sl (Int) × Sl (Int)) : Option (Bool) :=
  match a0 with
  | (n1, s2, s3) => ((flags_Right s2 n1).bind fun b6 => (if b6 = true then (if ((s3.l.length : Nat) : Int) ≠ n1 then some false else ((loopO (devec_Right_b1 s2 s3) 0).bind (Sum.elim (fun _ => some true) (fun u => some u)))) else some false))
theorem devec_Right_r (m : Nat) {a0 : Int × Sl (Int) × Sl (Int)} {out : Bool} (h : devec_Right a0 = some out) : RunsP E1 (m + 5) 12 [.agg (r24 a0)] (.fresh, [.one (bT out)]) := by
 obtain ⟨n1, s2, s3⟩ := a0
 refine fn_F rfl (by rw [E1_fn]; exact show fiOf Tryd.prog 12 = _ by unfold fiOf; rw [Tryd.func12]; unfold Tryd.f12; rfl) rfl ?_
 dsimp only
 unfold devec_Right at h
 refine lS (lO ?_)
 refine ol_new rfl rfl rfl (q_box ty25 rfl (cs := [iI n1, sF r85 s2, sF r2 s3]) rfl rfl) (fun k4 => ?_)
 refine pq (qa bf) ?_
 refine oE (eS (lS (lS (lO ?_))))
 refine pq (q_fieldP rfl fa25_1 rfl) ?_
 refine pq (ql (.one (sF r85 s2)) 0 sz22) ?_
 refine pq (q_fieldP rfl fa25_0 rfl) ?_
 refine pq (ql (iO n1) 0 sz3) ?_
 obtain ⟨b6, h5, h⟩ := bindS h
 refine pq (qc (bO b6) [.one (sF r85 s2), iO n1] (flags_Right_r (m + 0) h5) (vw_cons (vd_one vc_s) (vw_cons (vd_one vc_v) vw_nil))) ?_
 rcases b6 with _ | _
 replace h := wF h
 refine pq (q_not rfl) ?_
 refine pq (qm bt) ?_
 iterate 6 refine os ?_
 refine pq (qpt bt) ?_
 refine oE (eS (cT rfl (lS (lO ?_))))
 refine pq (qa bf) ?_
 refine oE (eS (lR (eR ?_)))
 obtain rfl := sj h
 exact eF1
 replace h := wT h
 refine pq (q_not rfl) ?_
 refine pq (qm bf) ?_
 refine pq (q_fieldP rfl fa25_2 rfl) ?_
 refine pq (ql (.one (sF r2 s3)) 0 sz23) ?_
 refine pq (q_lenS rfl ty23 rfl rfl rfl rfl) ?_
 refine pq (q_fieldP rfl fa25_0 rfl) ?_
 refine pq (ql (iO n1) 0 sz3) ?_
 by_cases c7 : ((s3.l.length : Nat) : Int) ≠ n1
 replace h := ifT c7 h
 refine pq (qb (p_neq_tZ c7)) ?_
 refine pq (qpf bt) ?_
 refine oE (eS (cT rfl (lS (lO ?_))))
 refine pq (qa bf) ?_
 refine oE (eS (lR (eR ?_)))
 obtain rfl := sj h
 exact eF1
 replace h := ifF c7 h
 refine pq (qb (p_neq_fZ c7)) ?_
 refine pq (qpf bf) ?_
 refine oE (eS (cF rfl (lK (eS (lS (lS (lO ?_)))))))
 refine pq (q_fieldP rfl fa25_2 rfl) ?_
 refine pq (ql (.one (sF r2 s3)) 0 sz23) ?_
 refine pq (q_lenS rfl ty23 rfl rfl rfl rfl) ?_
 refine pq (qm (iO 0)) ?_
 refine oE (eS (lB ?_))
 let S1 : Int → Unit → (Nat → D) → Nat → D := fun a kt g => ups g [(1, .one (.ptr k4 0 0)), (20, .one (sF r2 s3)), (21, .one (iI ((s3.l.length : Nat) : Int))), (22, iO a)]
 let SL1 : Int → Unit → BL := fun a kt => ([[(k4, 3, [[iI n1, sF r85 s2, sF r2 s3]])]] : BL)
 let G1 : Bool → Ex → St → Prop := fun u => endQ E1 [.tmp 2] (.fresh, [.one (bT u)])
 let Sx1 : Unit → Unit → (Nat → D) → Nat → D := fun a kt g => ups g []
 let SLx1 : Unit → Unit → BL := fun a kt => ([] : BL)
 let J1 : (Unit ⊕ Bool) → Ex → St → Prop := JX 37 0 Sx1 SLx1 G1
 refine L_loopS (devec_Right_b1 s2 s3) S1 SL1 J1 JX_n 0 h () (ups_self ⟨rfl, rfl, rfl, rfl, trivial⟩) [0] (by decide) rfl ?_ ?_
 rintro n23 _ g out h
 change devec_Right_b1 s2 s3 n23 = some out at h
 unfold devec_Right_b1 at h
 refine lS (lO ?_)
 by_cases c24 : n23 < ((s3.l.length : Nat) : Int)
 replace h := ifT c24 h
 refine pq (qb (p_lss_tZ c24)) ?_
 refine oE (eS (lS (cT rfl (lK (eS (lS (lB (lS (lO ?_)))))))))
 refine pq (qm (iO n23)) ?_
 obtain ⟨n27, h26, h⟩ := bindS h
 obtain ⟨h26a, h26b, h26⟩ := atS_some h26
 refine pq (q_ixS rfl rfl h26a h26 (el23.trans (congrArg some h26b.symm))) ?_
 refine pq (q_loadI (v := iO n27) rfl sz2 (map_get h26) rfl rfl) ?_
 refine pq (qa (iO n23)) ?_
 refine pq (qa (iO n27)) ?_
 refine oN ?_
 refine pq (qm (iO n27)) ?_
 by_cases c28 : n27 ≠ 0
 replace h := ifT c28 h
 refine pq (qb (p_neq_tZ c28)) ?_
 refine pq (qm bt) ?_
 refine pq (q_fieldP rfl fa25_1 rfl) ?_
 refine pq (ql (.one (sF r85 s2)) 0 sz22) ?_
 refine pq (qm (iO n23)) ?_
 obtain ⟨b30, h29, h⟩ := bindS h
 refine pq (qc (bO b30) [.one (sF r85 s2), iO n23] (flags_Has_r (m + 2) h29) (vw_cons (vd_one vc_s) (vw_cons (vd_one vc_v) vw_nil))) ?_
 rcases b30 with _ | _
 replace h := wF h
 refine pq (q_not rfl) ?_
 refine pq (qpt bt) ?_
 refine oE (eS (cT rfl (lS (lO ?_))))
 refine pq (qa bf) ?_
 refine oE (eS (lR (bR (eR ?_))))
 obtain rfl := sj h
 exact E_out (E_up (eF1))
 replace h := wT h
 refine pq (q_not rfl) ?_
 refine pq (qpt bf) ?_
 refine oE (eS (cF rfl (lK (bN (eS (lO ?_))))))
 refine pq (qb p_addY) ?_
 refine pq (qm (iO (IntKind.i64.wrap (n23 + 1)))) ?_
 refine oE ?_
 obtain rfl := sj h
 exact E_next () (ups_self ⟨rfl, rfl, rfl, rfl, trivial⟩) [0] (by decide) rfl
 replace h := ifF c28 h
 refine pq (qb (p_neq_fZ c28)) ?_
 refine pq (qm bf) ?_
 iterate 5 refine os ?_
 refine pq (qpf bf) ?_
 refine oE (eS (cF rfl (lK (bN (eS (lO ?_))))))
 refine pq (qb p_addY) ?_
 refine pq (qm (iO (IntKind.i64.wrap (n23 + 1)))) ?_
 refine oE ?_
 obtain rfl := sj h
 exact E_next () (ups_self ⟨rfl, rfl, rfl, rfl, trivial⟩) [0] (by decide) rfl
 replace h := ifF c24 h
 refine pq (qb (p_lss_fZ c24)) ?_
 refine oE (eS (lS (cF rfl (L_exit ?_))))
 refine E_seqX ?_
 obtain rfl := sj h
 refine E_out ?_
 exact (E_exit () (ups_self trivial) [] (by decide) rfl)
 rintro (_ | u) h
 refine J_x (fun kt g => ?_)
 replace h := elimL h
 refine bH (eS (lS (lO ?_)))
 refine pq (qa bt) ?_
 refine oE (eS (lR ?_))
 obtain rfl := sj h
 exact eF1
 obtain rfl := Option.some.inj (elimR h)
 exact J_up (fun s hs => hs)

noncomputable def devec_sure (a0 : Int × Sl (Int) × Sl (Int)) : Option ((Int × Sl (Int) × Sl (Int))) :=
  match a0 with
  | (n1, s2, s3) => ((devec_Right (n1, s2, s3)).bind fun b7 => (if b7 = true then some (n1, s2, s3) else some (0, (⟨false, 0, []⟩ : Sl (Int)), (⟨false, 0, []⟩ : Sl (Int)))))
theorem devec_sure_r (m : Nat) {a0 : Int × Sl (Int) × Sl (Int)} {out : (Int × Sl (Int) × Sl (Int))} (h : devec_sure a0 = some out) : RunsX E1 (m + 6) 49 [.agg (r24 a0)] [.agg (r24 out)] := by
 obtain ⟨n1, s2, s3⟩ := a0
 refine fn_X rfl (by rw [E1_fn]; exact show fiOf Tryd.prog 49 = _ by unfold fiOf; rw [Tryd.func49]; unfold Tryd.f49; rfl) rfl ?_
 dsimp only
 unfold devec_sure at h
 refine lS (lO ?_)
 refine ol_new rfl rfl rfl (q_box ty25 rfl (cs := [iI n1, sF r85 s2, sF r2 s3]) rfl rfl) (fun k4 => ?_)
 refine ol_new rfl rfl rfl (q_alloc ty25 (row := [iI 0, nC, nC]) rfl rfl) (fun k5 => ?_)
 refine oE (eS (lS (lS (lO ?_))))
 refine pq (ql (.agg [iI n1, sF r85 s2, sF r2 s3]) 1 sz25) ?_
 obtain ⟨b7, h6, h⟩ := bindS h
 refine pq (qc (bO b7) [.agg [iI n1, sF r85 s2, sF r2 s3]] (devec_Right_r (m + 0) h6) (vw_cons (vd_agg (vc_cons vc_v (vc_cons vc_s (vc_cons vc_s vc_nil)))) vw_nil)) ?_
 refine oE (eS ?_)
 rcases b7 with _ | _
 replace h := wF h
 refine cF rfl (lK (eS (lS (lO ?_))))
 refine pq (q_build (cs := [iI 0, nC, nC]) ty25 rfl pl25 rfl) ?_
 refine ow [[iI 0, nC, nC]] 0 sz25 ?_
 refine oE (eS (lR ?_))
 obtain rfl := sj h
 exact E_endX (.inr rfl) (res_cell (d := .agg [iI 0, nC, nC]) 0 rfl sz25 rfl rfl rfl rfl res_nil) (vw_cons (vd_agg (vc_cons vc_v (vc_cons vc_s (vc_cons vc_s vc_nil)))) vw_nil) oG rfl
 replace h := wT h
 refine cT rfl (lS (lO ?_))
 refine pq (ql (.agg [iI n1, sF r85 s2, sF r2 s3]) 1 sz25) ?_
 refine ow [[iI n1, sF r85 s2, sF r2 s3]] 0 sz25 ?_
 refine oE (eS (lR (eR ?_)))
 obtain rfl := sj h
 exact E_endX (.inr rfl) (res_cell (d := .agg [iI n1, sF r85 s2, sF r2 s3]) 0 rfl sz25 rfl rfl rfl rfl res_nil) (vw_cons (vd_agg (vc_cons vc_v (vc_cons vc_s (vc_cons vc_s vc_nil)))) vw_nil) oG rfl

noncomputable def flags_New (n1 : Int) : Option (List (Int)) :=
  ((flags_words n1).bind fun n3 => ((lenOk n3).bind fun _ => some (List.replicate n3.toNat (0 : Int))))
theorem flags_New_r (m : Nat) {n1 : Int} {out : List (Int)} (h : flags_New n1 = some out) : RunsP E1 (m + 2) 59 [.one (iT .i64 n1)] (.own, [.one (.s true 1 ((out).map r85))]) := by
 refine fn_O rfl (by rw [E1_fn]; exact show fiOf Tryd.prog 59 = _ by unfold fiOf; rw [Tryd.func59]; unfold Tryd.f59; rfl) rfl ?_
 dsimp only
 unfold flags_New at h
 refine lS (lO ?_)
 refine pq (qa (.one nC)) ?_
 refine oN ?_
 refine pq (qm (iO n1)) ?_
 obtain ⟨n3, h2, h⟩ := bindS h
 refine pq (qc (iO n3) [iO n1] (flags_words_r (m + 0) h2) (vw_cons (vd_one vc_v) vw_nil)) ?_
 obtain ⟨u4, h5, h⟩ := bindS h
 refine ol_new rfl rfl rfl (q_mkslice (r := rowC r85) (a := (0 : Int)) ty22 rfl ty85 rfl rfl (lenOk_some h5).1 (lenOk_some h5).2 rfl rfl) (fun k6 => ?_)
 refine pq (qa (.one (.own k6 0 ((List.replicate n3.toNat (0 : Int))).length))) ?_
 refine oE (eS (lR ?_))
 obtain rfl := sj h
 exact E_endO (r := r85) 0 (.inr rfl) (res_tmp rfl res_nil) rfl (fun x h m => rfl) (fun x => rfl)

noncomputable def flags_ones_b1 (a : Int × Int) : Option ((Int × Int) ⊕ (Int ⊕ Int)) :=
  match a with
  | (n16, n17) => (if n16 = 0 then some (.inr (.inl n17)) else (if (andI .u64 n16 1) = 1 then ((shr1 .u64 n16 1).bind fun n20 => some (.inl (n20, (IntKind.i64.wrap (n17 + 1))))) else ((shr1 .u64 n16 1).bind fun n22 => some (.inl (n22, n17)))))
noncomputable def flags_ones (n1 : Int) : Option (Int) :=
  ((loopO (flags_ones_b1) (n1, 0)).bind (Sum.elim (fun n24 => some n24) (fun u => some u)))
theorem flags_ones_r (m : Nat) {n1 : Int} {out : Int} (h : flags_ones n1 = some out) : RunsP E1 (m + 1) 91 [.one (iT .u64 n1)] (.fresh, [.one (iT .i64 out)]) := by
 refine fn_F rfl (by rw [E1_fn]; exact show fiOf Tryd.prog 91 = _ by unfold fiOf; rw [Tryd.func91]; unfold Tryd.f91; rfl) rfl ?_
 dsimp only
 unfold flags_ones at h
 refine lS (lO ?_)
 refine pq (qa (iO 0)) ?_
 refine oE (eS (L_scope (lS (lO ?_))))
 refine pq (qa (iO 0)) ?_
 refine oE (eS (lS ?_))
 refine L_label ?_
 refine eS (lS (lB ?_))
 let S1 : (Int × Int) → Unit → (Nat → D) → Nat → D := fun a kt g => ups g [(0, .one (uI a.1)), (3, .one (iI a.2))]
 let SL1 : (Int × Int) → Unit → BL := fun a kt => ([] : BL)
 let G1 : Int → Ex → St → Prop := fun u => endQ E1 [.tmp 2] (.fresh, [.one (iT .i64 u)])
 let Sx1 : Int → Unit → (Nat → D) → Nat → D := fun a kt g => ups g [(3, iO a)]
 let SLx1 : Int → Unit → BL := fun a kt => ([] : BL)
 let J1 : (Int ⊕ Int) → Ex → St → Prop := JX 16 0 Sx1 SLx1 G1
 refine L_loopS (flags_ones_b1) S1 SL1 J1 JX_n (n1, 0) h () (ups_self ⟨rfl, rfl, trivial⟩) [] (by decide) rfl ?_ ?_
 rintro ⟨n16, n17⟩ _ g out h
 change flags_ones_b1 (n16, n17) = some out at h
 unfold flags_ones_b1 at h
 refine lB (lS (lB (lS (lO ?_))))
 refine pq (qm (.one (uI n16))) ?_
 by_cases c18 : n16 = 0
 replace h := ifT c18 h
 refine pq (qb (p_eql_tZ c18)) ?_
 refine pq (qa bt) ?_
 refine oE (eS (cT rfl (L_exit ?_)))
 refine E_blkX rfl ?_
 refine E_seqX ?_
 refine E_blkX rfl ?_
 obtain rfl := sj h
 refine E_out ?_
 exact (E_exit () (ups_self ⟨rfl, trivial⟩) [] (by decide) rfl)
 replace h := ifF c18 h
 refine pq (qb (p_eql_fZ c18)) ?_
 refine pq (qa bf) ?_
 refine oE (eS (cF rfl (lS (lO ?_))))
 refine pq (qm (.one (uI n16))) ?_
 refine pq (q_bin rfl rfl (p_and _ _ _ _ _ _ _) rfl) ?_
 by_cases c19 : (andI .u64 n16 1) = 1
 replace h := ifT c19 h
 refine pq (qb (p_eql_tZ c19)) ?_
 refine pq (qa bt) ?_
 refine oE (eS (cT rfl (lO ?_)))
 refine pq (qm (iO n17)) ?_
 refine pq (qb p_addY) ?_
 refine pq (qa (iO (IntKind.i64.wrap (n17 + 1)))) ?_
 refine oE (bN (eS (lO ?_)))
 refine pq (qm (.one (uI n16))) ?_
 obtain ⟨n20, h21, h⟩ := bindS h
 refine pq (q_bin rfl rfl (p_shr h21) rfl) ?_
 refine pq (qa (.one (uI n20))) ?_
 refine oE (bN ?_)
 obtain rfl := sj h
 exact E_next () (ups_self ⟨rfl, rfl, trivial⟩) [] (by decide) rfl
 replace h := ifF c19 h
 refine pq (qb (p_eql_fZ c19)) ?_
 refine pq (qa bf) ?_
 refine oE (eS (cF rfl (lK (bN (eS (lO ?_))))))
 refine pq (qm (.one (uI n16))) ?_
 obtain ⟨n22, h23, h⟩ := bindS h
 refine pq (q_bin rfl rfl (p_shr h23) rfl) ?_
 refine pq (qa (.one (uI n22))) ?_
 refine oE (bN ?_)
 obtain rfl := sj h
 exact E_next () (ups_self ⟨rfl, rfl, trivial⟩) [] (by decide) rfl
 rintro (n24 | u) h
 refine J_x (fun kt g => ?_)
 replace h := elimL h
 refine bH (eS (lS (lO ?_)))
 refine pq (qm (iO n24)) ?_
 refine pq (qa (iO n24)) ?_
 refine oE (eS (lR ?_))
 obtain rfl := sj h
 exact eF1
 obtain rfl := Option.some.inj (elimR h)
 exact J_up (fun s hs => hs)

noncomputable def flags_Count_b1 (s1 : Sl (Int)) (a : Int × Int) : Option ((Int × Int) ⊕ (Int ⊕ Int)) :=
  match a with
  | (n16, n17) => (if n17 < ((s1.l.length : Nat) : Int) then ((atS 1 s1 n17).bind fun n21 => ((flags_ones n21).bind fun n23 => some (.inl ((IntKind.i64.wrap (n16 + n23)), (IntKind.i64.wrap (n17 + 1)))))) else some (.inr (.inl n16)))
noncomputable def flags_Count (s1 : Sl (Int)) : Option (Int) :=
  ((loopO (flags_Count_b1 s1) (0, 0)).bind (Sum.elim (fun n24 => some n24) (fun u => some u)))
theorem flags_Count_r (m : Nat) {s1 : Sl (Int)} {out : Int} (h : flags_Count s1 = some out) : RunsP E1 (m + 2) 67 [.one (Sl.t r85 s1)] (.fresh, [.one (iT .i64 out)]) := by
 refine fn_F rfl (by rw [E1_fn]; exact show fiOf Tryd.prog 67 = _ by unfold fiOf; rw [Tryd.func67]; unfold Tryd.f67; rfl) rfl ?_
 dsimp only
 unfold flags_Count at h
 refine lS (lO ?_)
 refine pq (qa (iO 0)) ?_
 refine oN ?_
 refine pq (qa (iO 0)) ?_
 refine oE (eS (lS (lS (lO ?_))))
 refine pq (qm (.one (sF r85 s1))) ?_
 refine pq (q_lenS rfl ty22 rfl rfl rfl rfl) ?_
 refine pq (qm (iO 0)) ?_
 refine oE (eS (lB ?_))
 let S1 : (Int × Int) → Unit → (Nat → D) → Nat → D := fun a kt g => ups g [(3, .one (iI a.1)), (6, .one (sF r85 s1)), (7, .one (iI ((s1.l.length : Nat) : Int))), (8, .one (iI a.2))]
 let SL1 : (Int × Int) → Unit → BL := fun a kt => ([] : BL)
 let G1 : Int → Ex → St → Prop := fun u => endQ E1 [.tmp 2] (.fresh, [.one (iT .i64 u)])
 let Sx1 : Int → Unit → (Nat → D) → Nat → D := fun a kt g => ups g [(3, iO a)]
 let SLx1 : Int → Unit → BL := fun a kt => ([] : BL)
 let J1 : (Int ⊕ Int) → Ex → St → Prop := JX 18 0 Sx1 SLx1 G1
 refine L_loopS (flags_Count_b1 s1) S1 SL1 J1 JX_n (0, 0) h () (ups_self ⟨rfl, rfl, rfl, rfl, trivial⟩) [] (by decide) rfl ?_ ?_
 rintro ⟨n16, n17⟩ _ g out h
 change flags_Count_b1 s1 (n16, n17) = some out at h
 unfold flags_Count_b1 at h
 refine lS (lO ?_)
 by_cases c18 : n17 < ((s1.l.length : Nat) : Int)
 replace h := ifT c18 h
 refine pq (qb (p_lss_tZ c18)) ?_
 refine oE (eS (lS (cT rfl (lK (eS (lS (lB (lS (lO ?_)))))))))
 obtain ⟨n21, h20, h⟩ := bindS h
 obtain ⟨h20a, h20b, h20⟩ := atS_some h20
 refine pq (q_ixS rfl rfl h20a h20 (el22.trans (congrArg some h20b.symm))) ?_
 refine pq (q_loadI (v := .one (uI n21)) rfl sz85 (map_get h20) rfl rfl) ?_
 refine pq (qa (.one (uI n21))) ?_
 refine oR ?_
 refine pq (qm (iO n16)) ?_
 refine pq (qm (.one (uI n21))) ?_
 obtain ⟨n23, h22, h⟩ := bindS h
 refine pq (qc (iO n23) [.one (uI n21)] (flags_ones_r (m + 0) h22) (vw_cons (vd_one vc_v) vw_nil)) ?_
 refine pq (qb p_addY) ?_
 refine pq (qa (iO (IntKind.i64.wrap (n16 + n23)))) ?_
 refine oE (bN (eS (lO ?_)))
 refine pq (qb p_addY) ?_
 refine pq (qm (iO (IntKind.i64.wrap (n17 + 1)))) ?_
 refine oE ?_
 obtain rfl := sj h
 exact E_next () (ups_self ⟨rfl, rfl, rfl, rfl, trivial⟩) [] (by decide) rfl
 replace h := ifF c18 h
 refine pq (qb (p_lss_fZ c18)) ?_
 refine oE (eS (lS (cF rfl (L_exit ?_))))
 refine E_seqX ?_
 obtain rfl := sj h
 refine E_out ?_
 exact (E_exit () (ups_self ⟨rfl, trivial⟩) [] (by decide) rfl)
 rintro (n24 | u) h
 refine J_x (fun kt g => ?_)
 replace h := elimL h
 refine bH (eS (lS (lO ?_)))
 refine pq (qm (iO n24)) ?_
 refine pq (qa (iO n24)) ?_
 refine oE (eS (lR ?_))
 obtain rfl := sj h
 exact eF1
 obtain rfl := Option.some.inj (elimR h)
 exact J_up (fun s hs => hs)

noncomputable def devec_Count (a0 : Int × Sl (Int) × Sl (Int)) : Option (Int) :=
  match a0 with
  | (n1, s2, s3) => ((devec_sure (n1, s2, s3)).bind fun (n6, s7, s8) => ((flags_Count s7).bind fun n11 => some n11))
theorem devec_Count_r (m : Nat) {a0 : Int × Sl (Int) × Sl (Int)} {out : Int} (h : devec_Count a0 = some out) : RunsP E1 (m + 7) 28 [.agg (r24 a0)] (.fresh, [.one (iT .i64 out)]) := by
 obtain ⟨n1, s2, s3⟩ := a0
 refine fn_F rfl (by rw [E1_fn]; exact show fiOf Tryd.prog 28 = _ by unfold fiOf; rw [Tryd.func28]; unfold Tryd.f28; rfl) rfl ?_
 dsimp only
 unfold devec_Count at h
 refine lS (lO ?_)
 refine ol_new rfl rfl rfl (q_box ty25 rfl (cs := [iI n1, sF r85 s2, sF r2 s3]) rfl rfl) (fun k4 => ?_)
 refine pq (qa (iO 0)) ?_
 refine oN ?_
 refine pq (ql (.agg [iI n1, sF r85 s2, sF r2 s3]) 0 sz25) ?_
 obtain ⟨⟨n6, s7, s8⟩, h5, h⟩ := bindS h
 refine ol_putX rfl rfl rfl (q_callX (v := fun fr9 => .agg [iI n6, .p fr9 (Sl.t r85 s7), .p fr9 (Sl.t r2 s8)]) (args := [.agg [iI n1, sF r85 s2, sF r2 s3]]) (devec_sure_r (m + 0) h5) rfl rfl (vw_cons (vd_agg (vc_cons vc_v (vc_cons vc_s (vc_cons vc_s vc_nil)))) vw_nil) rfl rfl (fun fr => rfl)) (fun fr9 => ?_)
 refine pq (q_fieldV (v := .one (.p fr9 (Sl.t r85 s7))) rfl fa25_1 rfl rfl) ?_
 obtain ⟨n11, h10, h⟩ := bindS h
 refine pq (qc (iO n11) [.one (.p fr9 (Sl.t r85 s7))] (flags_Count_r (m + 4) h10) (vw_cons (vd_one vc_s) vw_nil)) ?_
 refine pq (qa (iO n11)) ?_
 refine oE (eS (lR ?_))
 obtain rfl := sj h
 exact eF1
end Ev
end Go.Proofs.YtjomjfjbpcafhaaDoor
