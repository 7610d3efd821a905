/- Functions of the program as functions on data, and that they are. -/
import Derived.Test.YtlcfdmjkbaegpaaDoorEvZ
import Derived.Test.YtlcfdmjkbaegpaaDoorLf1
import Derived.Test.YtlcfdmjkbaegpaaDoorLf3
import Derived.Test.YtlcfdmjkbaegpaaDoorLy1
namespace Go.Proofs.YtlcfdmjkbaegpaaDoor
namespace Ev
open Go
set_option linter.unusedVariables false
set_option linter.unusedSimpArgs false
set_option maxRecDepth 100000
set_option maxHeartbeats 1000000
attribute [local irreducible] OpsL StL TnL WpL EndL
noncomputable def law07_Some_b1 (n7 : Int) (n9 : Int) (s11 : Sl (Int × Int × Int)) (a : (List (Int × Int × Int)) × Int) : Option (((List (Int × Int × Int)) × Int) ⊕ ((List (Int × Int × Int)) ⊕ (Int × Int × Sl (Int) × Sl (Int) × Sl (Int)))) :=
 match a with
 | (l74, n75) => (if n75 < ((s11.l.length : Nat) : Int) then ((atS 3 s11 n75).bind fun (n80, n81, n82) => (if n80 < 0 then some (.inl (l74, (IntKind.i64.wrap (n75 + 1)))) else (if n81 < 0 then some (.inl (l74, (IntKind.i64.wrap (n75 + 1)))) else (if n7 = 0 then some (.inl (l74, (IntKind.i64.wrap (n75 + 1)))) else (if n9 = 0 then some (.inl (l74, (IntKind.i64.wrap (n75 + 1)))) else ((modO n80 n7).bind fun n88 => ((modO n81 n9).bind fun n90 => ((app l74 ([(n88, n90, n82)] : List (Int × Int × Int))).bind fun _ => some (.inl ((l74 ++ ([(n88, n90, n82)] : List (Int × Int × Int))), (IntKind.i64.wrap (n75 + 1)))))))))))) else some (.inr (.inl l74)))
noncomputable def law07_Some (a0 : Int × Int) (s3 : Sl (Int × Int × Int)) : Option ((Int × Int × Sl (Int) × Sl (Int) × Sl (Int))) :=
 match a0 with
 | (n1, n2) => ((law07_Size n1).bind fun n7 => ((law07_Size n2).bind fun n9 => ((law07_Few s3).bind fun s11 => ((loopO (law07_Some_b1 n7 n9 s11) (([] : List (Int × Int × Int)), 0)).bind (Sum.elim (fun l95 => ((ref07_Of 1 n7 n9 (mo 3 l95)).bind fun ((n98, n99, s100, s101, s102), n103) => (if n103 ≠ 0 then ((lenOk (IntKind.i64.wrap (n7 + 1))).bind fun _ => some (n7, n9, (⟨true, 1, (List.replicate (IntKind.i64.wrap (n7 + 1)).toNat (0 : Int))⟩ : Sl (Int)), (⟨false, 0, []⟩ : Sl (Int)), (⟨false, 0, []⟩ : Sl (Int)))) else some (n98, n99, s100, s101, s102)))) (fun u => some u))))))
theorem law07_Some_r (m : Nat) {a0 : Int × Int} {s3 : Sl (Int × Int × Int)} {out : (Int × Int × Sl (Int) × Sl (Int) × Sl (Int))} (h : law07_Some a0 s3 = some out) : RunsP E1 (m + 5) 27 [.agg (r23 a0), .one (Sl.t r92 s3)] (.fresh, [.agg (r32 out)]) := by
 obtain ⟨n1, n2⟩ := a0
 refine fn_F rfl (by rw [E1_fn]; exact show fiOf Tryd.prog 27 = _ by unfold fiOf; rw [Tryd.func27]; unfold Tryd.f27; rfl) rfl ?_
 dsimp only
 unfold law07_Some at h
 refine lS (lO ?_)
 refine ol_new rfl rfl rfl (q_box ty23 rfl (cs := [iC .u8 n1, iC .u8 n2]) rfl rfl) (fun k4 => ?_)
 refine ol_new rfl rfl rfl (q_alloc ty33 (row := [iI 0, iI 0, nC, nC, nC]) rfl rfl) (fun k5 => ?_)
 refine oE (eS (lS ?_))
 refine L_still (by kernel_rfl) ?_
 refine sq (q_ixA (a := 0) ty23 rfl ty5 rfl rfl rfl rfl) ?_
 refine sq (ql (.one (iC .u8 n1)) 1 sz5) ?_
 obtain ⟨n7, h6, h⟩ := bindS h
 refine sq (qc (iO n7) [.one (iC .u8 n1)] (law07_Size_r (m + 3) h6) (vw_cons (vd_one vc_v) vw_nil)) ?_
 refine sq (q_ixA (a := 1) ty23 rfl ty5 rfl rfl rfl rfl) ?_
 refine sq (ql (.one (iC .u8 n2)) 1 sz5) ?_
 obtain ⟨n9, h8, h⟩ := bindS h
 refine sq (qc (iO n9) [.one (iC .u8 n2)] (law07_Size_r (m + 3) h8) (vw_cons (vd_one vc_v) vw_nil)) ?_
 refine sq (qa (iO n7)) ?_
 refine sq (qa (iO n9)) ?_
 refine st_end (eS (lS (lO ?_)))
 refine pq (qa (.one nC)) ?_
 refine oN ?_
 refine pq (qm (.one (sF r92 s3))) ?_
 obtain ⟨s11, h10, h⟩ := bindS h
 refine ol_putX rfl rfl rfl (q_callX (v := fun fr12 => .one (.p fr12 (Sl.t r92 s11))) (args := [.one (sF r92 s3)]) (law07_Few_r (m + 3) h10) rfl rfl (vw_cons (vd_one vc_s) vw_nil) rfl rfl (fun fr => rfl)) (fun fr12 => ?_)
 refine pq (qa (.one (.p fr12 (Sl.t r92 s11)))) ?_
 refine oE (eS (lS (lS (lO ?_))))
 refine pq (qa (iO 0)) ?_
 refine oE (eS (lB ?_))
 refine L_addM (α := Int × Int × Int) r92 3 ?_
 let S1 : ((List (Int × Int × Int)) × Int) → Nat → (Nat → D) → Nat → D := fun a kt g => ups g [(1, .one (.p fr12 (Sl.t r92 s11))), (4, .one (.ptr k5 0 0)), (5, iO n7), (6, iO n9), (7, .one (moC a.1 kt)), (8, .one (iI a.2))]
 let SL1 : ((List (Int × Int × Int)) × Int) → Nat → BL := fun a kt => ([[(k5, 5, [[iI 0, iI 0, nC, nC, nC]])], moL r92 3 a.1 kt] : BL)
 let G1 : (Int × Int × Sl (Int) × Sl (Int) × Sl (Int)) → Ex → St → Prop := fun u => endQ E1 [.cell 4 33] (.fresh, [.agg (r32 u)])
 let Sx1 : (List (Int × Int × Int)) → Nat → (Nat → D) → Nat → D := fun a kt g => ups g [(4, .one (.ptr k5 0 0)), (5, iO n7), (6, iO n9), (7, .one (moC a kt))]
 let SLx1 : (List (Int × Int × Int)) → Nat → BL := fun a kt => ([[(k5, 5, [[iI 0, iI 0, nC, nC, nC]])], moL r92 3 a kt] : BL)
 let J1 : ((List (Int × Int × Int)) ⊕ (Int × Int × Sl (Int) × Sl (Int) × Sl (Int))) → Ex → St → Prop := JX 73 0 Sx1 SLx1 G1
 refine L_loopS (law07_Some_b1 n7 n9 s11) S1 SL1 J1 JX_n (([] : List (Int × Int × Int)), 0) h 1072 (ups_self ⟨rfl, rfl, rfl, rfl, rfl, rfl, trivial⟩) [1, 0] (by decide) rfl ?_ ?_
 rintro ⟨l74, n75⟩ k76 g out h
 change law07_Some_b1 n7 n9 s11 (l74, n75) = some out at h
 unfold law07_Some_b1 at h
 refine lS (lS (lO ?_))
 refine pq (qm (iO n75)) ?_
 refine pq (qm (.one (.p fr12 (Sl.t r92 s11)))) ?_
 refine pq (q_lenS rfl ty24 rfl rfl rfl rfl) ?_
 by_cases c77 : n75 < ((s11.l.length : Nat) : Int)
 replace h := ifT c77 h
 refine pq (qb (p_lss_tZ c77)) ?_
 refine oE (eS (cT rfl (lK (eS (lS (lB (lS (lO ?_))))))))
 refine pq (qm (.one (.p fr12 (Sl.t r92 s11)))) ?_
 refine pq (qm (iO n75)) ?_
 obtain ⟨⟨n80, n81, n82⟩, h79, h⟩ := bindS h
 obtain ⟨h79a, h79b, h79⟩ := atS_some h79
 refine pq (q_ixS rfl rfl h79a h79 (el24.trans (congrArg some h79b.symm))) ?_
 refine pq (q_loadI (v := .agg [iI n80, iI n81, iI n82]) rfl sz93 (map_get h79) rfl rfl) ?_
 refine ol_new rfl rfl rfl (q_alloc ty93 (row := [iI 0, iI 0, iI 0]) rfl rfl) (fun k83 => ?_)
 refine ow [[iI n80, iI n81, iI n82]] 0 sz93 ?_
 refine oE (eS (lS (lS (lO ?_))))
 refine pq (q_fieldP rfl fa93_0 rfl) ?_
 refine pq (ql (iO n80) 0 sz3) ?_
 by_cases c84 : n80 < 0
 replace h := ifT c84 h
 refine pq (qb (p_lss_tZ c84)) ?_
 refine pq (qm bt) ?_
 iterate 3 refine os ?_
 refine pq (qpt bt) ?_
 refine pq (qm bt) ?_
 iterate 2 refine os ?_
 refine pq (qpt bt) ?_
 refine pq (qm bt) ?_
 iterate 2 refine os ?_
 refine pq (qpt bt) ?_
 refine oE (eS (cT rfl (L_exit ?_)))
 refine E_seqX ?_
 refine bH (eS (lO ?_))
 refine pq (qm (iO n75)) ?_
 refine pq (qb p_addY) ?_
 refine pq (qa (iO (IntKind.i64.wrap (n75 + 1)))) ?_
 refine oE ?_
 obtain rfl := sj h
 exact E_next k76 (ups_self ⟨rfl, rfl, rfl, rfl, rfl, rfl, trivial⟩) [1, 2] (by decide) rfl
 replace h := ifF c84 h
 refine pq (qb (p_lss_fZ c84)) ?_
 refine pq (qm bf) ?_
 refine pq (q_fieldP rfl fa93_1 rfl) ?_
 refine pq (ql (iO n81) 0 sz3) ?_
 by_cases c85 : n81 < 0
 replace h := ifT c85 h
 refine pq (qb (p_lss_tZ c85)) ?_
 refine pq (qpf bt) ?_
 refine pq (qm bt) ?_
 iterate 2 refine os ?_
 refine pq (qpt bt) ?_
 refine pq (qm bt) ?_
 iterate 2 refine os ?_
 refine pq (qpt bt) ?_
 refine oE (eS (cT rfl (L_exit ?_)))
 refine E_seqX ?_
 refine bH (eS (lO ?_))
 refine pq (qm (iO n75)) ?_
 refine pq (qb p_addY) ?_
 refine pq (qa (iO (IntKind.i64.wrap (n75 + 1)))) ?_
 refine oE ?_
 obtain rfl := sj h
 exact E_next k76 (ups_self ⟨rfl, rfl, rfl, rfl, rfl, rfl, trivial⟩) [1, 2] (by decide) rfl
 replace h := ifF c85 h
 refine pq (qb (p_lss_fZ c85)) ?_
 refine pq (qpf bf) ?_
 refine pq (qm bf) ?_
 refine pq (qm (iO n7)) ?_
 by_cases c86 : n7 = 0
 replace h := ifT c86 h
 refine pq (qb (p_eql_tZ c86)) ?_
 refine pq (qpf bt) ?_
 refine pq (qm bt) ?_
 iterate 2 refine os ?_
 refine pq (qpt bt) ?_
 refine oE (eS (cT rfl (L_exit ?_)))
 refine E_seqX ?_
 refine bH (eS (lO ?_))
 refine pq (qm (iO n75)) ?_
 refine pq (qb p_addY) ?_
 refine pq (qa (iO (IntKind.i64.wrap (n75 + 1)))) ?_
 refine oE ?_
 obtain rfl := sj h
 exact E_next k76 (ups_self ⟨rfl, rfl, rfl, rfl, rfl, rfl, trivial⟩) [1, 2] (by decide) rfl
 replace h := ifF c86 h
 refine pq (qb (p_eql_fZ c86)) ?_
 refine pq (qpf bf) ?_
 refine pq (qm bf) ?_
 refine pq (qm (iO n9)) ?_
 by_cases c87 : n9 = 0
 replace h := ifT c87 h
 refine pq (qb (p_eql_tZ c87)) ?_
 refine pq (qpf bt) ?_
 refine oE (eS (cT rfl (L_exit ?_)))
 refine E_seqX ?_
 refine bH (eS (lO ?_))
 refine pq (qm (iO n75)) ?_
 refine pq (qb p_addY) ?_
 refine pq (qa (iO (IntKind.i64.wrap (n75 + 1)))) ?_
 refine oE ?_
 obtain rfl := sj h
 exact E_next k76 (ups_self ⟨rfl, rfl, rfl, rfl, rfl, rfl, trivial⟩) [1, 2] (by decide) rfl
 replace h := ifF c87 h
 refine pq (qb (p_eql_fZ c87)) ?_
 refine pq (qpf bf) ?_
 refine oE (eS (cF rfl (lK (eS (lS (lO ?_))))))
 refine pq (q_fieldP rfl fa93_0 rfl) ?_
 refine pq (ql (iO n80) 0 sz3) ?_
 refine pq (qm (iO n7)) ?_
 obtain ⟨n88, h89, h⟩ := bindS h
 refine pq (q_bin rfl rfl (modO_p h89) rfl) ?_
 refine pq (q_fieldP rfl fa93_0 rfl) ?_
 refine ow [[iI n88, iI n81, iI n82]] 0 sz3 ?_
 refine oN ?_
 refine pq (q_fieldP rfl fa93_1 rfl) ?_
 refine pq (ql (iO n81) 0 sz3) ?_
 refine pq (qm (iO n9)) ?_
 obtain ⟨n90, h91, h⟩ := bindS h
 refine pq (q_bin rfl rfl (modO_p h91) rfl) ?_
 refine pq (q_fieldP rfl fa93_1 rfl) ?_
 refine ow [[iI n88, iI n90, iI n82]] 0 sz3 ?_
 refine oR ?_
 refine pq (qm (.one (moC l74 k76))) ?_
 refine pq (ql (.agg [iI n88, iI n90, iI n82]) 0 sz93) ?_
 refine ol_new rfl rfl rfl (q_bslice (cs := [iI n88, iI n90, iI n82]) (es := (([(n88, n90, n82)] : List (Int × Int × Int))).map (rowC r92)) ty24 rfl ty93 rfl rfl rfl rfl rfl) (fun k92 => ?_)
 obtain ⟨_, h93, h⟩ := bindS h
 obtain ⟨h93b, rfl⟩ := app_some h93
 refine ol_appM (r := r92) (l := l74) (ys := ([(n88, n90, n82)] : List (Int × Int × Int))) 3 rfl rfl rfl rfl rfl rfl (el_ownM (l := ([(n88, n90, n82)] : List (Int × Int × Int))) 0 rfl) rfl h93 (fun y => rfl) el24 ty24 rfl rfl rfl rfl rfl (fun k94 => ?_)
 refine pq (qa (.one (moC (l74 ++ ([(n88, n90, n82)] : List (Int × Int × Int))) k94))) ?_
 refine oE (bN (eS (lO ?_)))
 refine pq (qm (iO n75)) ?_
 refine pq (qb p_addY) ?_
 refine pq (qa (iO (IntKind.i64.wrap (n75 + 1)))) ?_
 refine oE ?_
 obtain rfl := sj h
 exact E_next k94 (ups_self ⟨rfl, rfl, rfl, rfl, rfl, rfl, trivial⟩) [3, 0] (by decide) rfl
 replace h := ifF c77 h
 refine pq (qb (p_lss_fZ c77)) ?_
 refine oE (eS (cF rfl (L_exit ?_)))
 refine E_seqX ?_
 obtain rfl := sj h
 refine E_out ?_
 exact (E_exit k76 (ups_self ⟨rfl, rfl, rfl, rfl, trivial⟩) [0, 1] (by decide) rfl)
 rintro (l95 | u) h
 refine J_x (fun k96 g => ?_)
 replace h := elimL h
 refine bH (eS (lS (lO ?_)))
 refine pq (qm (iO n7)) ?_
 refine pq (qm (iO n9)) ?_
 refine pq (qm (.one (moC l95 k96))) ?_
 obtain ⟨⟨⟨n98, n99, s100, s101, s102⟩, n103⟩, h97, h⟩ := bindS h
 refine pq (qc (.tup [.agg [iI n98, iI n99, sC r3 s100, sC r3 s101, sC r2 s102], iO n103]) [iO 1, iO n7, iO n9, .one (moC l95 k96)] (ref07_Of_r (m + 0) h97) (vw_cons (vd_one vc_v) (vw_cons (vd_one vc_v) (vw_cons (vd_one vc_v) (vw_cons (vd_one (vc_M (r := r92) 1 rfl (fun x h m => rfl))) vw_nil))))) ?_
 refine pq (qm (.tup [.agg [iI n98, iI n99, sC r3 s100, sC r3 s101, sC r2 s102], iO n103])) ?_
 refine pq (q_ext (v := .agg [iI n98, iI n99, sC r3 s100, sC r3 s101, sC r2 s102]) rfl rfl) ?_
 refine pq (q_ext (v := iO n103) rfl rfl) ?_
 refine ol_new rfl rfl rfl (q_alloc ty33 (row := [iI 0, iI 0, nC, nC, nC]) rfl rfl) (fun k104 => ?_)
 refine ow [[iI n98, iI n99, sC r3 s100, sC r3 s101, sC r2 s102]] 0 sz33 ?_
 refine pq (qa (iO n103)) ?_
 refine oE (eS (lS (lS (lO ?_))))
 refine pq (qm (iO n103)) ?_
 by_cases c105 : n103 ≠ 0
 replace h := ifT c105 h
 refine pq (qb (p_neq_tZ c105)) ?_
 refine oE (eS (cT rfl (lS (lO ?_))))
 refine pq (qm (iO n7)) ?_
 refine pq (qm (iO n9)) ?_
 refine ol_scallN (args := [iO n7, iO n9]) rfl rfl rfl ax60 (by rw [E1_fn]; exact show fiOf Tryd.prog 60 = _ by unfold fiOf; rw [Tryd.func60]; unfold Tryd.f60; rfl) rfl rfl rfl ?_
 dsimp only
 refine lS (lO ?_)
 refine ol_new rfl rfl rfl (q_alloc ty33 (row := [iI 0, iI 0, nC, nC, nC]) rfl rfl) (fun k106 => ?_)
 refine oN ?_
 refine pq (qm (iO n7)) ?_
 refine pq (qm (iO n9)) ?_
 refine pq (qm (iO n7)) ?_
 refine pq (qb p_addY) ?_
 obtain ⟨u107, h108, h⟩ := bindS h
 refine ol_new rfl rfl rfl (q_mkslice (r := rowC r3) (a := (0 : Int)) ty30 rfl ty3 rfl rfl (lenOk_some h108).1 (lenOk_some h108).2 rfl rfl) (fun k109 => ?_)
 refine pq (q_build (cs := [iI n7, iI n9, .own k109 0 ((List.replicate (IntKind.i64.wrap (n7 + 1)).toNat (0 : Int))).length, nC, nC]) ty33 rfl pl33 rfl) ?_
 refine ow [[iI n7, iI n9, .own k109 0 ((List.replicate (IntKind.i64.wrap (n7 + 1)).toNat (0 : Int))).length, nC, nC]] 1 sz33 ?_
 refine oE (eS (lR ?_))
 refine E_call (v := .agg [iI n7, iI n9, .own k109 0 ((List.replicate (IntKind.i64.wrap (n7 + 1)).toNat (0 : Int))).length, nC, nC]) (.inr rfl) (res_cell (d := .agg [iI n7, iI n9, .own k109 0 ((List.replicate (IntKind.i64.wrap (n7 + 1)).toNat (0 : Int))).length, nC, nC]) 1 rfl sz33 rfl rfl rfl rfl res_nil) rfl ?_
 refine ow [[iI n7, iI n9, .own k109 0 ((List.replicate (IntKind.i64.wrap (n7 + 1)).toNat (0 : Int))).length, nC, nC]] 3 sz33 ?_
 refine oE (eS (lR (eR ?_)))
 obtain rfl := sj h
 exact E_endF (.inr rfl) (res_cell (d := .agg [iI n7, iI n9, .own k109 0 ((List.replicate (IntKind.i64.wrap (n7 + 1)).toNat (0 : Int))).length, nC, nC]) 3 rfl sz33 rfl rfl rfl rfl res_nil) (vw_cons (vd_agg (vc_cons vc_v (vc_cons vc_v (vc_cons (vc_own (r := r3) 0 rfl (fun x h m => rfl)) (vc_cons vc_s (vc_cons vc_s vc_nil)))))) vw_nil) oG rfl rfl
 replace h := ifF c105 h
 refine pq (qb (p_neq_fZ c105)) ?_
 refine oE (eS (cF rfl (lK (eS (lS (lO ?_))))))
 refine pq (ql (.agg [iI n98, iI n99, sC r3 s100, sC r3 s101, sC r2 s102]) 0 sz33) ?_
 refine ow [[iI n98, iI n99, sC r3 s100, sC r3 s101, sC r2 s102]] 1 sz33 ?_
 refine oE (eS (lR ?_))
 obtain rfl := sj h
 exact E_endF (.inr rfl) (res_cell (d := .agg [iI n98, iI n99, sC r3 s100, sC r3 s101, sC r2 s102]) 1 rfl sz33 rfl rfl rfl rfl res_nil) (vw_cons (vd_agg (vc_cons vc_v (vc_cons vc_v (vc_cons vc_s (vc_cons vc_s (vc_cons vc_s vc_nil)))))) vw_nil) oG rfl rfl
 obtain rfl := Option.some.inj (elimR h)
 exact J_up (fun s hs => hs)
noncomputable def law13_Right (n1 : Int) : Option (Int) :=
 (if n1 < 1 then some 1 else (if n1 > 5 then some 1 else some n1))
theorem law13_Right_r (m : Nat) {n1 : Int} {out : Int} (h : law13_Right n1 = some out) : RunsP E1 (m + 1) 21 [.one (iT .i64 n1)] (.fresh, [.one (iT .i64 out)]) := by
 refine fn_F rfl (by rw [E1_fn]; exact show fiOf Tryd.prog 21 = _ by unfold fiOf; rw [Tryd.func21]; unfold Tryd.f21; rfl) rfl ?_
 dsimp only
 unfold law13_Right at h
 refine lS (lO ?_)
 refine pq (qa (iO 0)) ?_
 refine oE (eS (lS (lS (lO ?_))))
 refine pq (qm (iO n1)) ?_
 by_cases c2 : n1 < 1
 replace h := ifT c2 h
 refine pq (qb (p_lss_tZ c2)) ?_
 refine pq (qm bt) ?_
 iterate 2 refine os ?_
 refine pq (qpt bt) ?_
 refine oE (eS (cT rfl (lS (lO ?_))))
 refine pq (qa (iO 1)) ?_
 refine oE (eS (lR (eR ?_)))
 obtain rfl := sj h
 exact eF1
 replace h := ifF c2 h
 refine pq (qb (p_lss_fZ c2)) ?_
 refine pq (qm bf) ?_
 refine pq (qm (iO n1)) ?_
 by_cases c3 : n1 > 5
 replace h := ifT c3 h
 refine pq (qb (p_gtr_tZ c3)) ?_
 refine pq (qpf bt) ?_
 refine oE (eS (cT rfl (lS (lO ?_))))
 refine pq (qa (iO 1)) ?_
 refine oE (eS (lR (eR ?_)))
 obtain rfl := sj h
 exact eF1
 replace h := ifF c3 h
 refine pq (qb (p_gtr_fZ c3)) ?_
 refine pq (qpf bf) ?_
 refine oE (eS (cF rfl (lK (eS (lS (lO ?_))))))
 refine pq (qm (iO n1)) ?_
 refine pq (qa (iO n1)) ?_
 refine oE (eS (lR ?_))
 obtain rfl := sj h
 exact eF1
noncomputable def law02_Value (n1 : Int) (n2 : Int) : Option (Int) :=
 (if n1 = 5 then some n2 else (if n1 = 2 then some (andI .i64 n2 1) else ((modO (andI .i64 n2 4611686018427387903) 5).bind fun n5 => (if n5 = 0 then some 4611686018427387904 else some (andI .i64 n2 4611686018427387903)))))
theorem law02_Value_r (m : Nat) {n1 : Int} {n2 : Int} {out : Int} (h : law02_Value n1 n2 = some out) : RunsP E1 (m + 1) 33 [.one (iT .i64 n1), .one (iT .i64 n2)] (.fresh, [.one (iT .i64 out)]) := by
 refine fn_F rfl (by rw [E1_fn]; exact show fiOf Tryd.prog 33 = _ by unfold fiOf; rw [Tryd.func33]; unfold Tryd.f33; rfl) rfl ?_
 dsimp only
 unfold law02_Value at h
 refine lS (lO ?_)
 refine pq (qa (iO 0)) ?_
 refine oN ?_
 refine pq (qm (iO n1)) ?_
 refine oE (eS (lB (lS (lO ?_))))
 by_cases c3 : n1 = 5
 replace h := ifT c3 h
 refine pq (qb (p_eql_tZ c3)) ?_
 refine pq (qa bt) ?_
 refine oE (eS (cT rfl (lS (lO ?_))))
 refine pq (qm (iO n2)) ?_
 refine pq (qa (iO n2)) ?_
 refine oE (eS (lR (bR ?_)))
 obtain rfl := sj h
 exact eF1
 replace h := ifF c3 h
 refine pq (qb (p_eql_fZ c3)) ?_
 refine pq (qa bf) ?_
 refine oE (eS (cF rfl (lS (lO ?_))))
 by_cases c4 : n1 = 2
 replace h := ifT c4 h
 refine pq (qb (p_eql_tZ c4)) ?_
 refine pq (qa bt) ?_
 refine oE (eS (cT rfl (lS (lO ?_))))
 refine pq (qm (iO n2)) ?_
 refine pq (q_bin rfl rfl (p_and _ _ _ _ _ _ _) rfl) ?_
 refine pq (qa (iO (andI .i64 n2 1))) ?_
 refine oE (eS (lR (bR ?_)))
 obtain rfl := sj h
 exact eF1
 replace h := ifF c4 h
 refine pq (qb (p_eql_fZ c4)) ?_
 refine pq (qa bf) ?_
 refine oE (eS (cF rfl (lS (lO ?_))))
 refine pq (qm (iO n2)) ?_
 refine pq (q_bin rfl rfl (p_and _ _ _ _ _ _ _) rfl) ?_
 refine pq (qa (iO (andI .i64 n2 4611686018427387903))) ?_
 refine oE (eS (lS (lS (lO ?_))))
 refine pq (qm (iO (andI .i64 n2 4611686018427387903))) ?_
 obtain ⟨n5, h6, h⟩ := bindS h
 refine pq (q_bin rfl rfl (modO_p h6) rfl) ?_
 by_cases c7 : n5 = 0
 replace h := ifT c7 h
 refine pq (qb (p_eql_tZ c7)) ?_
 refine oE (eS (cT rfl (lS (lO ?_))))
 refine pq (qa (iO 4611686018427387904)) ?_
 refine oE (eS (lR (eR (bR ?_))))
 obtain rfl := sj h
 exact eF1
 replace h := ifF c7 h
 refine pq (qb (p_eql_fZ c7)) ?_
 refine oE (eS (cF rfl (lK (eS (lS (lO ?_))))))
 refine pq (qm (iO (andI .i64 n2 4611686018427387903))) ?_
 refine pq (qa (iO (andI .i64 n2 4611686018427387903))) ?_
 refine oE (eS (lR (bR ?_)))
 obtain rfl := sj h
 exact eF1
noncomputable def law02_Factor (n1 : Int) (n2 : Int) : Option (Int) :=
 (if n1 = 5 then ((modO n2 2147483648).bind fun n4 => some n4) else ((law02_Value n1 n2).bind fun n7 => some n7))
theorem law02_Factor_r (m : Nat) {n1 : Int} {n2 : Int} {out : Int} (h : law02_Factor n1 n2 = some out) : RunsP E1 (m + 2) 28 [.one (iT .i64 n1), .one (iT .i64 n2)] (.fresh, [.one (iT .i64 out)]) := by
 refine fn_F rfl (by rw [E1_fn]; exact show fiOf Tryd.prog 28 = _ by unfold fiOf; rw [Tryd.func28]; unfold Tryd.f28; rfl) rfl ?_
 dsimp only
 unfold law02_Factor at h
 refine lS (lO ?_)
 refine pq (qa (iO 0)) ?_
 refine oE (eS (lS (lS (lO ?_))))
 refine pq (qm (iO n1)) ?_
 by_cases c3 : n1 = 5
 replace h := ifT c3 h
 refine pq (qb (p_eql_tZ c3)) ?_
 refine oE (eS (cT rfl (lS (lO ?_))))
 refine pq (qm (iO n2)) ?_
 obtain ⟨n4, h5, h⟩ := bindS h
 refine pq (q_bin rfl rfl (modO_p h5) rfl) ?_
 refine pq (qa (iO n4)) ?_
 refine oE (eS (lR (eR ?_)))
 obtain rfl := sj h
 exact eF1
 replace h := ifF c3 h
 refine pq (qb (p_eql_fZ c3)) ?_
 refine oE (eS (cF rfl (lK (eS (lS (lO ?_))))))
 refine pq (qm (iO n1)) ?_
 refine pq (qm (iO n2)) ?_
 obtain ⟨n7, h6, h⟩ := bindS h
 refine pq (qc (iO n7) [iO n1, iO n2] (law02_Value_r (m + 0) h6) (vw_cons (vd_one vc_v) (vw_cons (vd_one vc_v) vw_nil))) ?_
 refine pq (qa (iO n7)) ?_
 refine oE (eS (lR ?_))
 obtain rfl := sj h
 exact eF1
noncomputable def law13_Task_Matrix_b1 (s16 : Sl (Int)) (n19 : Int) (a : List (Int) × Int) : Option ((List (Int) × Int) ⊕ ((List (Int)) ⊕ (Int × Int × Sl (Int) × Sl (Int) × Sl (Int)))) :=
 match a with
 | (l43, n44) => (if n44 < ((s16.l.length : Nat) : Int) then ((atS 1 s16 n44).bind fun n49 => ((law02_Factor n19 n49).bind fun n51 => ((app l43 ([n51] : List (Int))).bind fun _ => some (.inl ((l43 ++ ([n51] : List (Int))), (IntKind.i64.wrap (n44 + 1))))))) else some (.inr (.inl l43)))
noncomputable def law13_Task_Matrix (a0 : Int × (Int × Int) × (Sl (Int × Int × Int)) × (Sl (Int × Int)) × (Sl (Int × Int)) × Sl (Int) × Bool) : Option ((Int × Int × Sl (Int) × Sl (Int) × Sl (Int))) :=
 match a0 with
 | (n1, (n2, n3), s4, s5, s6, s7, b8) => ((law07_Some (n2, n3) s4).bind fun (n12, n13, s14, s15, s16) => ((law13_Right n1).bind fun n19 => ((loopO (law13_Task_Matrix_b1 s16 n19) (([] : List (Int)), 0)).bind (Sum.elim (fun l55 => some (n12, n13, s14, s15, (mo 1 l55))) (fun u => some u)))))
theorem law13_Task_Matrix_r (m : Nat) {a0 : Int × (Int × Int) × (Sl (Int × Int × Int)) × (Sl (Int × Int)) × (Sl (Int × Int)) × Sl (Int) × Bool} {out : (Int × Int × Sl (Int) × Sl (Int) × Sl (Int))} (h : law13_Task_Matrix a0 = some out) : RunsP E1 (m + 6) 8 [.agg (r27 a0)] (.fresh, [.agg (r32 out)]) := by
 obtain ⟨n1, ⟨n2, n3⟩, s4, s5, s6, s7, b8⟩ := a0
 refine fn_F rfl (by rw [E1_fn]; exact show fiOf Tryd.prog 8 = _ by unfold fiOf; rw [Tryd.func8]; unfold Tryd.f8; rfl) rfl ?_
 dsimp only
 unfold law13_Task_Matrix at h
 refine lS (lO ?_)
 refine ol_new rfl rfl rfl (q_box ty28 rfl (cs := [iI n1, iC .u8 n2, iC .u8 n3, sF r92 s4, sF r70 s5, sF r70 s6, sF r60 s7, bC b8]) rfl rfl) (fun k9 => ?_)
 refine ol_new rfl rfl rfl (q_alloc ty33 (row := [iI 0, iI 0, nC, nC, nC]) rfl rfl) (fun k10 => ?_)
 refine oN ?_
 refine pq (q_fieldP rfl fa28_1 rfl) ?_
 refine pq (ql (.agg [iC .u8 n2, iC .u8 n3]) 1 sz23) ?_
 refine pq (q_fieldP rfl fa28_2 rfl) ?_
 refine pq (ql (.one (sF r92 s4)) 1 sz24) ?_
 obtain ⟨⟨n12, n13, s14, s15, s16⟩, h11, h⟩ := bindS h
 refine pq (qc (.agg [iI n12, iI n13, sC r3 s14, sC r3 s15, sC r2 s16]) [.agg [iC .u8 n2, iC .u8 n3], .one (sF r92 s4)] (law07_Some_r (m + 0) h11) (vw_cons (vd_agg (vc_cons vc_v (vc_cons vc_v vc_nil))) (vw_cons (vd_one vc_s) vw_nil))) ?_
 refine ol_new rfl rfl rfl (q_alloc ty33 (row := [iI 0, iI 0, nC, nC, nC]) rfl rfl) (fun k17 => ?_)
 refine ow [[iI n12, iI n13, sC r3 s14, sC r3 s15, sC r2 s16]] 0 sz33 ?_
 refine oN ?_
 refine pq (q_fieldP rfl fa28_0 rfl) ?_
 refine pq (ql (iO n1) 2 sz22) ?_
 obtain ⟨n19, h18, h⟩ := bindS h
 refine pq (qc (iO n19) [iO n1] (law13_Right_r (m + 4) h18) (vw_cons (vd_one vc_v) vw_nil)) ?_
 refine pq (qa (iO n19)) ?_
 refine oN ?_
 refine pq (qa (.one nC)) ?_
 refine oE (eS (lS (lS (lO ?_))))
 refine pq (qa (iO 0)) ?_
 refine oE (eS (lB ?_))
 refine L_addM (α := Int) r2 1 ?_
 let S1 : (List (Int) × Int) → Nat → (Nat → D) → Nat → D := fun a kt g => ups g [(2, .one (.ptr k10 0 0)), (3, .one (.ptr k17 0 0)), (4, iO n19), (5, .one (moC a.1 kt)), (6, .one (iI a.2))]
 let SL1 : (List (Int) × Int) → Nat → BL := fun a kt => ([[(k10, 5, [[iI 0, iI 0, nC, nC, nC]])], [(k17, 5, [[iI n12, iI n13, sC r3 s14, sC r3 s15, sC r2 s16]])], moL r2 1 a.1 kt] : BL)
 let G1 : (Int × Int × Sl (Int) × Sl (Int) × Sl (Int)) → Ex → St → Prop := fun u => endQ E1 [.cell 2 33] (.fresh, [.agg (r32 u)])
 let Sx1 : (List (Int)) → Nat → (Nat → D) → Nat → D := fun a kt g => ups g [(2, .one (.ptr k10 0 0)), (3, .one (.ptr k17 0 0)), (5, .one (moC a kt))]
 let SLx1 : (List (Int)) → Nat → BL := fun a kt => ([[(k10, 5, [[iI 0, iI 0, nC, nC, nC]])], [(k17, 5, [[iI n12, iI n13, sC r3 s14, sC r3 s15, sC r2 s16]])], moL r2 1 a kt] : BL)
 let J1 : ((List (Int)) ⊕ (Int × Int × Sl (Int) × Sl (Int) × Sl (Int))) → Ex → St → Prop := JX 35 0 Sx1 SLx1 G1
 refine L_loopS (law13_Task_Matrix_b1 s16 n19) S1 SL1 J1 JX_n (([] : List (Int)), 0) h 1041 (ups_self ⟨rfl, rfl, rfl, rfl, rfl, trivial⟩) [2, 1, 0] (by decide) rfl ?_ ?_
 rintro ⟨l43, n44⟩ k45 g out h
 change law13_Task_Matrix_b1 s16 n19 (l43, n44) = some out at h
 unfold law13_Task_Matrix_b1 at h
 refine lS (lS (lO ?_))
 refine pq (qm (iO n44)) ?_
 refine pq (q_fieldP rfl fa33_4 rfl) ?_
 refine pq (ql (.one (sC r2 s16)) 1 sz31) ?_
 refine pq (q_lenS rfl ty31 rfl rfl rfl rfl) ?_
 by_cases c46 : n44 < ((s16.l.length : Nat) : Int)
 replace h := ifT c46 h
 refine pq (qb (p_lss_tZ c46)) ?_
 refine oE (eS (cT rfl (lK (eS (lS (lB (lO ?_)))))))
 refine pq (qm (.one (moC l43 k45))) ?_
 refine pq (qm (iO n19)) ?_
 refine pq (q_fieldP rfl fa33_4 rfl) ?_
 refine pq (ql (.one (sC r2 s16)) 1 sz31) ?_
 refine pq (qm (iO n44)) ?_
 obtain ⟨n49, h48, h⟩ := bindS h
 obtain ⟨h48a, h48b, h48⟩ := atS_some h48
 refine pq (q_ixS rfl rfl h48a h48 (el31.trans (congrArg some h48b.symm))) ?_
 refine pq (q_loadI (v := iO n49) rfl sz2 (map_get h48) rfl rfl) ?_
 obtain ⟨n51, h50, h⟩ := bindS h
 refine pq (qc (iO n51) [iO n19, iO n49] (law02_Factor_r (m + 3) h50) (vw_cons (vd_one vc_v) (vw_cons (vd_one vc_v) vw_nil))) ?_
 refine ol_new rfl rfl rfl (q_bslice (cs := [iI n51]) (es := (([n51] : List (Int))).map (rowC r2)) ty31 rfl ty2 rfl rfl rfl rfl rfl) (fun k52 => ?_)
 obtain ⟨_, h53, h⟩ := bindS h
 obtain ⟨h53b, rfl⟩ := app_some h53
 refine ol_appM (r := r2) (l := l43) (ys := ([n51] : List (Int))) 3 rfl rfl rfl rfl rfl rfl (el_ownM (l := ([n51] : List (Int))) 0 rfl) rfl h53 (fun y => rfl) el31 ty31 rfl rfl rfl rfl rfl (fun k54 => ?_)
 refine pq (qa (.one (moC (l43 ++ ([n51] : List (Int))) k54))) ?_
 refine oE (bN (eS (lO ?_)))
 refine pq (qm (iO n44)) ?_
 refine pq (qb p_addY) ?_
 refine pq (qa (iO (IntKind.i64.wrap (n44 + 1)))) ?_
 refine oE ?_
 obtain rfl := sj h
 exact E_next k54 (ups_self ⟨rfl, rfl, rfl, rfl, rfl, trivial⟩) [2, 3, 0] (by decide) rfl
 replace h := ifF c46 h
 refine pq (qb (p_lss_fZ c46)) ?_
 refine oE (eS (cF rfl (L_exit ?_)))
 refine E_seqX ?_
 obtain rfl := sj h
 refine E_out ?_
 exact (E_exit k45 (ups_self ⟨rfl, rfl, rfl, trivial⟩) [0, 1, 2] (by decide) rfl)
 rintro (l55 | u) h
 refine J_x (fun k56 g => ?_)
 replace h := elimL h
 refine bH (eS (lS (lO ?_)))
 refine pq (qm (.one (moC l55 k56))) ?_
 refine pq (q_fieldP rfl fa33_4 rfl) ?_
 refine ow [[iI n12, iI n13, sC r3 s14, sC r3 s15, moC l55 k56]] 1 sz31 ?_
 refine oN ?_
 refine pq (ql (.agg [iI n12, iI n13, sC r3 s14, sC r3 s15, moC l55 k56]) 1 sz33) ?_
 refine ow [[iI n12, iI n13, sC r3 s14, sC r3 s15, moC l55 k56]] 0 sz33 ?_
 refine oE (eS (lR ?_))
 obtain rfl := sj h
 exact E_endF (.inr rfl) (res_cell (d := .agg [iI n12, iI n13, sC r3 s14, sC r3 s15, moC l55 k56]) 0 rfl sz33 rfl rfl rfl rfl res_nil) (vw_cons (vd_agg (vc_cons vc_v (vc_cons vc_v (vc_cons vc_s (vc_cons vc_s (vc_cons (vc_M (r := r2) 2 rfl (fun x h m => rfl)) vc_nil)))))) vw_nil) oG rfl rfl
 obtain rfl := Option.some.inj (elimR h)
 exact J_up (fun s hs => hs)
noncomputable def ref09_Of_b2 (s51 : Sl (Int × Int × Int)) (a : Int × (List (Int × Int))) : Option ((Int × (List (Int × Int))) ⊕ ((List (Int × Int)) ⊕ ((Int × (Sl (Int × Int))) × Int))) :=
 match a with
 | (n89, l90) => (if n89 < ((s51.l.length : Nat) : Int) then ((atS 3 s51 n89).bind fun (n102, n103, n104) => ((app l90 ([(n103, n104)] : List (Int × Int))).bind fun _ => some (.inl ((IntKind.i64.wrap (n89 + 1)), (l90 ++ ([(n103, n104)] : List (Int × Int))))))) else some (.inr (.inl l90)))
noncomputable def ref09_Of_b1 (n2 : Int) (s3 : Sl (Int × Int)) (a : (List (Int × Int × Int)) × Int) : Option (((List (Int × Int × Int)) × Int) ⊕ ((List (Int × Int × Int)) ⊕ ((Int × (Sl (Int × Int))) × Int))) :=
 match a with
 | (l35, n36) => (if n36 < ((s3.l.length : Nat) : Int) then ((atS 2 s3 n36).bind fun (n41, n42) => (if n41 < 0 then some (.inr (.inr ((0, (⟨false, 0, []⟩ : Sl (Int × Int))), 3))) else (if n41 ≥ n2 then some (.inr (.inr ((0, (⟨false, 0, []⟩ : Sl (Int × Int))), 3))) else ((app l35 ([(0, n41, n42)] : List (Int × Int × Int))).bind fun _ => some (.inl ((l35 ++ ([(0, n41, n42)] : List (Int × Int × Int))), (IntKind.i64.wrap (n36 + 1)))))))) else some (.inr (.inl l35)))
noncomputable def ref09_Of (n1 : Int) (n2 : Int) (s3 : Sl (Int × Int)) : Option ((Int × (Sl (Int × Int))) × Int) :=
 ((ref02_Is n1).bind fun b6 => (if b6 = true then (if n2 < 0 then some ((0, (⟨false, 0, []⟩ : Sl (Int × Int))), 3) else (if n2 > 4096 then some ((0, (⟨false, 0, []⟩ : Sl (Int × Int))), 3) else ((loopO (ref09_Of_b1 n2 s3) (([] : List (Int × Int × Int)), 0)).bind (Sum.elim (fun l48 => ((ref05_Combine n1 (mo 3 l48)).bind fun (s51, n52) => (if n52 ≠ 0 then some ((0, (⟨false, 0, []⟩ : Sl (Int × Int))), n52) else ((loopO (ref09_Of_b2 s51) (0, ([] : List (Int × Int)))).bind (Sum.elim (fun l106 => some ((n2, (mo 2 l106)), 0)) (fun u => some u)))))) (fun u => some u))))) else some ((0, (⟨false, 0, []⟩ : Sl (Int × Int))), 8)))
theorem ref09_Of_r (m : Nat) {n1 : Int} {n2 : Int} {s3 : Sl (Int × Int)} {out : (Int × (Sl (Int × Int))) × Int} (h : ref09_Of n1 n2 s3 = some out) : RunsP E1 (m + 4) 63 [.one (iT .i64 n1), .one (iT .i64 n2), .one (Sl.t r70 s3)] (.fresh, [.agg (r38 out.1), .one (iT .i64 out.2)]) := by
 refine fn_F rfl (by rw [E1_fn]; exact show fiOf Tryd.prog 63 = _ by unfold fiOf; rw [Tryd.func63]; unfold Tryd.f63; rfl) rfl ?_
 dsimp only
 unfold ref09_Of at h
 refine lS (lO ?_)
 refine ol_new rfl rfl rfl (q_alloc ty39 (row := [iI 0, nC]) rfl rfl) (fun k4 => ?_)
 refine pq (qa (iO 0)) ?_
 refine oE (eS (lS (lS (lO ?_))))
 refine pq (qm (iO n1)) ?_
 obtain ⟨b6, h5, h⟩ := bindS h
 refine pq (qc (bO b6) [iO n1] (ref02_Is_r (m + 2) h5) (vw_cons (vd_one vc_v) vw_nil)) ?_
 rcases b6 with _ | _
 replace h := wF h
 refine pq (q_not rfl) ?_
 refine oE (eS (cT rfl (lS (lO ?_))))
 refine pq (q_build (cs := [iI 0, nC]) ty39 rfl pl39 rfl) ?_
 refine ow [[iI 0, nC]] 0 sz39 ?_
 refine pq (qa (iO 8)) ?_
 refine oE (eS (lR (eR ?_)))
 obtain rfl := sj h
 exact E_endF (.inr rfl) (res_cell (d := .agg [iI 0, nC]) 0 rfl sz39 rfl rfl rfl rfl (res_tmp rfl res_nil)) (vw_cons (vd_agg (vc_cons vc_v (vc_cons vc_s vc_nil))) (vw_cons (vd_one vc_v) vw_nil)) oW rfl rfl
 replace h := wT h
 refine pq (q_not rfl) ?_
 refine oE (eS (cF rfl (lK (eS (lS (lS (lO ?_)))))))
 refine pq (qm (iO n2)) ?_
 by_cases c7 : n2 < 0
 replace h := ifT c7 h
 refine pq (qb (p_lss_tZ c7)) ?_
 refine pq (qm bt) ?_
 iterate 2 refine os ?_
 refine pq (qpt bt) ?_
 refine oE (eS (cT rfl (lS (lO ?_))))
 refine pq (q_build (cs := [iI 0, nC]) ty39 rfl pl39 rfl) ?_
 refine ow [[iI 0, nC]] 0 sz39 ?_
 refine pq (qa (iO 3)) ?_
 refine oE (eS (lR (eR ?_)))
 obtain rfl := sj h
 exact E_endF (.inr rfl) (res_cell (d := .agg [iI 0, nC]) 0 rfl sz39 rfl rfl rfl rfl (res_tmp rfl res_nil)) (vw_cons (vd_agg (vc_cons vc_v (vc_cons vc_s vc_nil))) (vw_cons (vd_one vc_v) vw_nil)) oW rfl rfl
 replace h := ifF c7 h
 refine pq (qb (p_lss_fZ c7)) ?_
 refine pq (qm bf) ?_
 refine pq (qm (iO n2)) ?_
 by_cases c8 : n2 > 4096
 replace h := ifT c8 h
 refine pq (qb (p_gtr_tZ c8)) ?_
 refine pq (qpf bt) ?_
 refine oE (eS (cT rfl (lS (lO ?_))))
 refine pq (q_build (cs := [iI 0, nC]) ty39 rfl pl39 rfl) ?_
 refine ow [[iI 0, nC]] 0 sz39 ?_
 refine pq (qa (iO 3)) ?_
 refine oE (eS (lR (eR ?_)))
 obtain rfl := sj h
 exact E_endF (.inr rfl) (res_cell (d := .agg [iI 0, nC]) 0 rfl sz39 rfl rfl rfl rfl (res_tmp rfl res_nil)) (vw_cons (vd_agg (vc_cons vc_v (vc_cons vc_s vc_nil))) (vw_cons (vd_one vc_v) vw_nil)) oW rfl rfl
 replace h := ifF c8 h
 refine pq (qb (p_gtr_fZ c8)) ?_
 refine pq (qpf bf) ?_
 refine oE (eS (cF rfl (lK (eS (lS (lO ?_))))))
 refine pq (qa (.one nC)) ?_
 refine oE (eS (lS (lS (lO ?_))))
 refine pq (qa (iO 0)) ?_
 refine oE (eS (lB ?_))
 refine L_addM (α := Int × Int × Int) r113 3 ?_
 let S1 : ((List (Int × Int × Int)) × Int) → Nat → (Nat → D) → Nat → D := fun a kt g => ups g [(0, iO n1), (1, iO n2), (2, .one (sF r70 s3)), (6, .one (.ptr k4 0 0)), (8, .one (moC a.1 kt)), (9, .one (iI a.2))]
 let SL1 : ((List (Int × Int × Int)) × Int) → Nat → BL := fun a kt => ([[(k4, 2, [[iI 0, nC]])], moL r113 3 a.1 kt] : BL)
 let G1 : ((Int × (Sl (Int × Int))) × Int) → Ex → St → Prop := fun u => endQ E1 [.cell 6 39, .tmp 7] (.fresh, [.agg (r38 u.1), .one (iT .i64 u.2)])
 let Sx1 : (List (Int × Int × Int)) → Nat → (Nat → D) → Nat → D := fun a kt g => ups g [(0, iO n1), (1, iO n2), (6, .one (.ptr k4 0 0)), (8, .one (moC a kt))]
 let SLx1 : (List (Int × Int × Int)) → Nat → BL := fun a kt => ([[(k4, 2, [[iI 0, nC]])], moL r113 3 a kt] : BL)
 let J1 : ((List (Int × Int × Int)) ⊕ ((Int × (Sl (Int × Int))) × Int)) → Ex → St → Prop := JX 95 0 Sx1 SLx1 G1
 refine L_loopS (ref09_Of_b1 n2 s3) S1 SL1 J1 JX_n (([] : List (Int × Int × Int)), 0) h 1033 (ups_self ⟨rfl, rfl, rfl, rfl, rfl, rfl, trivial⟩) [1, 0] (by decide) rfl ?_ ?_
 rintro ⟨l35, n36⟩ k37 g out h
 change ref09_Of_b1 n2 s3 (l35, n36) = some out at h
 unfold ref09_Of_b1 at h
 refine lS (lS (lO ?_))
 refine pq (qm (iO n36)) ?_
 refine pq (qm (.one (sF r70 s3))) ?_
 refine pq (q_lenS rfl ty25 rfl rfl rfl rfl) ?_
 by_cases c38 : n36 < ((s3.l.length : Nat) : Int)
 replace h := ifT c38 h
 refine pq (qb (p_lss_tZ c38)) ?_
 refine oE (eS (cT rfl (lK (eS (lS (lB (lS (lS (lO ?_)))))))))
 refine pq (qm (.one (sF r70 s3))) ?_
 refine pq (qm (iO n36)) ?_
 obtain ⟨⟨n41, n42⟩, h40, h⟩ := bindS h
 obtain ⟨h40a, h40b, h40⟩ := atS_some h40
 refine pq (q_ixS rfl rfl h40a h40 (el25.trans (congrArg some h40b.symm))) ?_
 refine pq (q_fieldI rfl fa71_0 rfl) ?_
 refine pq (q_loadI (v := iO n41) rfl sz3 (map_get h40) rfl rfl) ?_
 by_cases c43 : n41 < 0
 replace h := ifT c43 h
 refine pq (qb (p_lss_tZ c43)) ?_
 refine pq (qm bt) ?_
 iterate 7 refine os ?_
 refine pq (qpt bt) ?_
 refine oE (eS (cT rfl (lS (lO ?_))))
 refine pq (q_build (cs := [iI 0, nC]) ty39 rfl pl39 rfl) ?_
 refine ow [[iI 0, nC]] 0 sz39 ?_
 refine pq (qa (iO 3)) ?_
 refine oE (eS (lR (eR (bR (eR ?_)))))
 obtain rfl := sj h
 exact E_out (E_up (E_endF (.inr rfl) (res_cell (d := .agg [iI 0, nC]) 0 rfl sz39 rfl rfl rfl rfl (res_tmp rfl res_nil)) (vw_cons (vd_agg (vc_cons vc_v (vc_cons vc_s vc_nil))) (vw_cons (vd_one vc_v) vw_nil)) oW rfl rfl))
 replace h := ifF c43 h
 refine pq (qb (p_lss_fZ c43)) ?_
 refine pq (qm bf) ?_
 refine pq (qm (.one (sF r70 s3))) ?_
 refine pq (qm (iO n36)) ?_
 refine pq (q_ixS rfl rfl h40a h40 (el25.trans (congrArg some h40b.symm))) ?_
 refine pq (q_fieldI rfl fa71_0 rfl) ?_
 refine pq (q_loadI (v := iO n41) rfl sz3 (map_get h40) rfl rfl) ?_
 refine pq (qm (iO n2)) ?_
 by_cases c44 : n41 ≥ n2
 replace h := ifT c44 h
 refine pq (qb (p_geq_tZ c44)) ?_
 refine pq (qpf bt) ?_
 refine oE (eS (cT rfl (lS (lO ?_))))
 refine pq (q_build (cs := [iI 0, nC]) ty39 rfl pl39 rfl) ?_
 refine ow [[iI 0, nC]] 0 sz39 ?_
 refine pq (qa (iO 3)) ?_
 refine oE (eS (lR (eR (bR (eR ?_)))))
 obtain rfl := sj h
 exact E_out (E_up (E_endF (.inr rfl) (res_cell (d := .agg [iI 0, nC]) 0 rfl sz39 rfl rfl rfl rfl (res_tmp rfl res_nil)) (vw_cons (vd_agg (vc_cons vc_v (vc_cons vc_s vc_nil))) (vw_cons (vd_one vc_v) vw_nil)) oW rfl rfl))
 replace h := ifF c44 h
 refine pq (qb (p_geq_fZ c44)) ?_
 refine pq (qpf bf) ?_
 refine oE (eS (cF rfl (lK (eS ?_))))
 refine L_norm (L2 := ([[(k4, 2, [[iI 0, nC]])], moL r113 3 l35 k37] : BL)) [0, 1] (by decide) rfl ?_
 refine L_turn 15 rfl [[], [], [], [], [], [], [], [], [], [], [], [], [], moK l35 k37, []] [(false, []), (false, []), (false, []), (false, []), (false, []), (false, []), (false, []), (false, []), (false, []), (false, []), (false, []), (false, []), (true, []), (true, []), (false, [])] [[1, 2, 3, 4, 5, 6, 7, 8, 9, 10, 11, 12], [0, 2, 6, 7, 8, 9, 10], [0, 1, 6, 7, 8, 9, 10], [0, 6, 7, 8, 9, 10], [0, 6, 7, 8, 9, 10], [0, 6, 7, 8, 9, 10], [0, 1, 2, 3, 4, 5, 7], [0, 1, 2, 3, 4, 5, 6], [0, 1, 2, 3, 4, 5], [0, 1, 2, 3, 4, 5], [0, 1, 2, 3, 4, 5], [0], [0], [], []] (by kernel_rfl) (by kernel_rfl) (by kernel_rfl) ?_ (fun bb45 hlt hnd => ?_)
 intro bb45 hlt hnd
 have e_k4 : k4 < bb45 := key_lt hlt 0 rfl
 have e_k37 : l35 = [] ∨ k37 < bb45 := key_ltM (r := r113) (w := 3) hlt 1 rfl
 have f_k37 := moK_lt e_k37
 have d_k37_k4 : k4 ∉ moK l35 k37 := key_neM (r := r113) (w := 3) hnd 1 0 rfl rfl rfl
 have g_k37_k4 := moK_ne d_k37_k4
 exact ⟨(by first | (simp [DJ]; done) | (simp [DJ]; omega) | (simp [DJ]; assumption) | (simp_all [DJ]; done) | (simp_all [DJ]; omega)), (by first | (simp [DJ]; done) | (simp [DJ]; omega) | (simp [DJ]; assumption) | (simp_all [DJ]; done) | (simp_all [DJ]; omega))⟩
 have e_k4 : k4 < bb45 := key_lt hlt 0 rfl
 have e_k37 : l35 = [] ∨ k37 < bb45 := key_ltM (r := r113) (w := 3) hlt 1 rfl
 have f_k37 := moK_lt e_k37
 have d_k37_k4 : k4 ∉ moK l35 k37 := key_neM (r := r113) (w := 3) hnd 1 0 rfl rfl rfl
 have g_k37_k4 := moK_ne d_k37_k4
 refine tq [] rfl hmn (qm (.one (moC l35 k37))) ?_
 refine tq [] rfl (hm0 rfl) (qm (.one (sF r70 s3))) ?_
 refine tq [] rfl (hm0 rfl) (qm (iO n36)) ?_
 refine tq [] rfl (hm0 rfl) (q_ixS rfl rfl h40a h40 (el25.trans (congrArg some h40b.symm))) ?_
 refine tq [] rfl (hm0 rfl) (q_fieldI rfl fa71_0 rfl) ?_
 refine tq [] rfl (hm0 rfl) (q_loadI (v := iO n41) rfl sz3 (map_get h40) rfl rfl) ?_
 refine tq [] rfl (hm0 rfl) (qm (.one (sF r70 s3))) ?_
 refine tq [] rfl (hm0 rfl) (qm (iO n36)) ?_
 refine tq [] rfl (hm0 rfl) (q_ixS rfl rfl h40a h40 (el25.trans (congrArg some h40b.symm))) ?_
 refine tq [] rfl (hm0 rfl) (q_fieldI rfl fa71_1 rfl) ?_
 refine tq [] rfl (hm0 rfl) (q_loadI (v := iO n42) rfl sz2 (map_get h40) rfl rfl) ?_
 refine tq [] rfl (hm0 rfl) (q_build (cs := [iI 0, iI n41, iI n42]) ty114 rfl pl114 rfl) ?_
 refine tn_new rfl rfl rfl [] (by decide) rfl (hm0 rfl) rfl rfl (hkc (ne_new (key_lt hlt 0 rfl)) (hkM (e_k37.imp id fun h => by omega) hkn)) (q_bslice (cs := [iI 0, iI n41, iI n42]) (es := (([(0, n41, n42)] : List (Int × Int × Int))).map (rowC r113)) ty112 rfl ty114 rfl rfl rfl rfl rfl) ?_
 obtain ⟨_, h47, h⟩ := bindS h
 obtain ⟨h47b, rfl⟩ := app_some h47
 refine tn_appM (r := r113) (l := l35) 0 2 rfl rfl rfl rfl [2, 0] (by decide) rfl (hm0 rfl) rfl rfl (hkc (ne_add rfl) (hkc (ne_new (key_lt hlt 0 rfl)) (hkM (e_k37.imp id fun h => by omega) hkn))) rfl rfl (el_ownM (l := ([(0, n41, n42)] : List (Int × Int × Int))) 1 rfl) rfl rfl h47 (fun y => rfl) el112 ty112 rfl rfl rfl rfl rfl ?_
 refine tq [] rfl (hm0 rfl) (qa (.one (moC (l35 ++ ([(0, n41, n42)] : List (Int × Int × Int))) (bb45 + 13)))) ?_
 refine tn_end (bN (eS (lO ?_)))
 refine pq (qm (iO n36)) ?_
 refine pq (qb p_addY) ?_
 refine pq (qa (iO (IntKind.i64.wrap (n36 + 1)))) ?_
 refine oE ?_
 obtain rfl := sj h
 exact E_next (bb45 + 13) (ups_self ⟨rfl, rfl, rfl, rfl, rfl, rfl, trivial⟩) [2, 0] (by decide) rfl
 replace h := ifF c38 h
 refine pq (qb (p_lss_fZ c38)) ?_
 refine oE (eS (cF rfl (L_exit ?_)))
 refine E_seqX ?_
 obtain rfl := sj h
 refine E_out ?_
 exact (E_exit k37 (ups_self ⟨rfl, rfl, rfl, rfl, trivial⟩) [0, 1] (by decide) rfl)
 rintro (l48 | u) h
 refine J_x (fun k49 g => ?_)
 replace h := elimL h
 refine bH (eS (lS (lO ?_)))
 refine pq (qm (iO n1)) ?_
 refine pq (qm (.one (moC l48 k49))) ?_
 obtain ⟨⟨s51, n52⟩, h50, h⟩ := bindS h
 refine pq (qc (.tup [.one (sC r113 s51), iO n52]) [iO n1, .one (moC l48 k49)] (ref05_Combine_r (m + 0) h50) (vw_cons (vd_one vc_v) (vw_cons (vd_one (vc_M (r := r113) 1 rfl (fun x h m => rfl))) vw_nil))) ?_
 refine pq (qm (.tup [.one (sC r113 s51), iO n52])) ?_
 refine pq (q_ext (v := .one (sC r113 s51)) rfl rfl) ?_
 refine pq (q_ext (v := iO n52) rfl rfl) ?_
 refine pq (qa (.one (sC r113 s51))) ?_
 refine pq (qa (iO n52)) ?_
 refine oE (eS (lS (lS (lO ?_))))
 refine pq (qm (iO n52)) ?_
 by_cases c53 : n52 ≠ 0
 replace h := ifT c53 h
 refine pq (qb (p_neq_tZ c53)) ?_
 refine oE (eS (cT rfl (lS (lO ?_))))
 refine pq (q_build (cs := [iI 0, nC]) ty39 rfl pl39 rfl) ?_
 refine pq (qm (iO n52)) ?_
 refine ow [[iI 0, nC]] 0 sz39 ?_
 refine pq (qa (iO n52)) ?_
 refine oE (eS (lR (eR ?_)))
 obtain rfl := sj h
 exact E_endF (.inr rfl) (res_cell (d := .agg [iI 0, nC]) 0 rfl sz39 rfl rfl rfl rfl (res_tmp rfl res_nil)) (vw_cons (vd_agg (vc_cons vc_v (vc_cons vc_s vc_nil))) (vw_cons (vd_one vc_v) vw_nil)) oW rfl rfl
 replace h := ifF c53 h
 refine pq (qb (p_neq_fZ c53)) ?_
 refine oE (eS (cF rfl (lK (eS (lS (lO ?_))))))
 refine pq (qm (iO n2)) ?_
 refine pq (q_build (cs := [iI n2, nC]) ty39 rfl pl39 rfl) ?_
 refine ol_new rfl rfl rfl (q_alloc ty39 (row := [iI 0, nC]) rfl rfl) (fun k54 => ?_)
 refine ow [[iI n2, nC]] 0 sz39 ?_
 refine oE (eS (lS (lS (lO ?_))))
 refine pq (qa (iO 0)) ?_
 refine oE (eS (lB ?_))
 refine L_addM (α := Int × Int) r70 2 ?_
 let S2 : (Int × (List (Int × Int))) → Nat → (Nat → D) → Nat → D := fun a kt g => ups g [(6, .one (.ptr k4 0 0)), (8, .one (sC r113 s51)), (11, .one (.ptr k54 0 0)), (12, .one (iI a.1))]
 let SL2 : (Int × (List (Int × Int))) → Nat → BL := fun a kt => ([[(k4, 2, [[iI 0, nC]])], [(k54, 2, [[iI n2, moC a.2 kt]])], moL r70 2 a.2 kt] : BL)
 let G2 : ((Int × (Sl (Int × Int))) × Int) → Ex → St → Prop := fun u => endQ E1 [.cell 6 39, .tmp 7] (.fresh, [.agg (r38 u.1), .one (iT .i64 u.2)])
 let Sx2 : (List (Int × Int)) → Nat → (Nat → D) → Nat → D := fun a kt g => ups g [(6, .one (.ptr k4 0 0)), (11, .one (.ptr k54 0 0))]
 let SLx2 : (List (Int × Int)) → Nat → BL := fun a kt => ([[(k4, 2, [[iI 0, nC]])], [(k54, 2, [[iI n2, moC a kt]])], moL r70 2 a kt] : BL)
 let J2 : ((List (Int × Int)) ⊕ ((Int × (Sl (Int × Int))) × Int)) → Ex → St → Prop := JX 95 2 Sx2 SLx2 G2
 refine L_loopS (ref09_Of_b2 s51) S2 SL2 J2 JX_n (0, ([] : List (Int × Int))) h 1087 (ups_self ⟨rfl, rfl, rfl, rfl, trivial⟩) [2, 1, 0] (by decide) rfl ?_ ?_
 rintro ⟨n89, l90⟩ k91 g out h
 change ref09_Of_b2 s51 (n89, l90) = some out at h
 unfold ref09_Of_b2 at h
 refine lS (lS (lO ?_))
 refine pq (qm (iO n89)) ?_
 refine pq (qm (.one (sC r113 s51))) ?_
 refine pq (q_lenS rfl ty112 rfl rfl rfl rfl) ?_
 by_cases c92 : n89 < ((s51.l.length : Nat) : Int)
 replace h := ifT c92 h
 refine pq (qb (p_lss_tZ c92)) ?_
 refine oE (eS (cT rfl (lK (eS (lS (lB ?_))))))
 refine L_norm (L2 := ([[(k4, 2, [[iI 0, nC]])], [(k54, 2, [[iI n2, moC l90 k91]])], moL r70 2 l90 k91] : BL)) [0, 1, 2] (by decide) rfl ?_
 refine L_turn 17 rfl [[], [], [], [], [], [], [], [], [], [], [], [], [], [], moK l90 k91, [], [k54]] [(false, []), (false, []), (false, []), (false, []), (false, []), (false, []), (false, []), (false, []), (false, []), (false, []), (false, []), (false, []), (false, []), (true, []), (true, []), (false, []), (false, [])] [[2, 3, 4, 5, 6, 7, 8, 9, 10, 11, 12, 13], [2, 3, 4, 5, 6, 7, 8, 9, 10, 11, 12, 13], [0, 1, 3, 7, 8, 9, 10, 11], [0, 1, 2, 7, 8, 9, 10, 11], [0, 1, 7, 8, 9, 10, 11], [0, 1, 7, 8, 9, 10, 11], [0, 1, 7, 8, 9, 10, 11], [0, 1, 2, 3, 4, 5, 6, 8], [0, 1, 2, 3, 4, 5, 6, 7], [0, 1, 2, 3, 4, 5, 6], [0, 1, 2, 3, 4, 5, 6], [0, 1, 2, 3, 4, 5, 6], [0, 1], [0, 1], [], [], []] (by kernel_rfl) (by kernel_rfl) (by kernel_rfl) ?_ (fun bb93 hlt hnd => ?_)
 intro bb93 hlt hnd
 have e_k4 : k4 < bb93 := key_lt hlt 0 rfl
 have e_k54 : k54 < bb93 := key_lt hlt 1 rfl
 have e_k91 : l90 = [] ∨ k91 < bb93 := key_ltM (r := r70) (w := 2) hlt 2 rfl
 have f_k91 := moK_lt e_k91
 have d_k54_k4 : k54 ≠ k4 := key_ne hnd 1 0 rfl rfl rfl
 have d_k91_k4 : k4 ∉ moK l90 k91 := key_neM (r := r70) (w := 2) hnd 2 0 rfl rfl rfl
 have g_k91_k4 := moK_ne d_k91_k4
 have d_k91_k54 : k54 ∉ moK l90 k91 := key_neM (r := r70) (w := 2) hnd 2 1 rfl rfl rfl
 have g_k91_k54 := moK_ne d_k91_k54
 exact ⟨(by first | (simp [DJ]; done) | (simp [DJ]; omega) | (simp [DJ]; assumption) | (simp_all [DJ]; done) | (simp_all [DJ]; omega)), (by first | (simp [DJ]; done) | (simp [DJ]; omega) | (simp [DJ]; assumption) | (simp_all [DJ]; done) | (simp_all [DJ]; omega))⟩
 have e_k4 : k4 < bb93 := key_lt hlt 0 rfl
 have e_k54 : k54 < bb93 := key_lt hlt 1 rfl
 have e_k91 : l90 = [] ∨ k91 < bb93 := key_ltM (r := r70) (w := 2) hlt 2 rfl
 have f_k91 := moK_lt e_k91
 have d_k54_k4 : k54 ≠ k4 := key_ne hnd 1 0 rfl rfl rfl
 have d_k91_k4 : k4 ∉ moK l90 k91 := key_neM (r := r70) (w := 2) hnd 2 0 rfl rfl rfl
 have g_k91_k4 := moK_ne d_k91_k4
 have d_k91_k54 : k54 ∉ moK l90 k91 := key_neM (r := r70) (w := 2) hnd 2 1 rfl rfl rfl
 have g_k91_k54 := moK_ne d_k91_k54
 refine tq [] rfl hmn (q_fieldP rfl fa39_1 rfl) ?_
 refine tq [1] rfl (hmc (nin_cons (ne_new (key_lt hlt 1 rfl)) nin_nil) hmn) (ql (.one (moC l90 k91)) 0 sz25) ?_
 refine tq [] rfl (hm0 rfl) (qm (.one (sC r113 s51))) ?_
 refine tq [] rfl (hm0 rfl) (qm (iO n89)) ?_
 obtain ⟨⟨n102, n103, n104⟩, h101, h⟩ := bindS h
 obtain ⟨h101a, h101b, h101⟩ := atS_some h101
 refine tq [] rfl (hm0 rfl) (q_ixS rfl rfl h101a h101 (el112.trans (congrArg some h101b.symm))) ?_
 refine tq [] rfl (hm0 rfl) (q_fieldI rfl fa114_1 rfl) ?_
 refine tq [] rfl (hm0 rfl) (q_loadI (v := iO n103) rfl sz3 (map_get h101) rfl rfl) ?_
 refine tq [] rfl (hm0 rfl) (qm (.one (sC r113 s51))) ?_
 refine tq [] rfl (hm0 rfl) (qm (iO n89)) ?_
 refine tq [] rfl (hm0 rfl) (q_ixS rfl rfl h101a h101 (el112.trans (congrArg some h101b.symm))) ?_
 refine tq [] rfl (hm0 rfl) (q_fieldI rfl fa114_2 rfl) ?_
 refine tq [] rfl (hm0 rfl) (q_loadI (v := iO n104) rfl sz2 (map_get h101) rfl rfl) ?_
 refine tq [] rfl (hm0 rfl) (q_build (cs := [iI n103, iI n104]) ty71 rfl pl71 rfl) ?_
 refine tn_new rfl rfl rfl [] (by decide) rfl (hm0 rfl) rfl rfl (hkc (ne_new (key_lt hlt 0 rfl)) (hkc (ne_new (key_lt hlt 1 rfl)) (hkM (e_k91.imp id fun h => by omega) hkn))) (q_bslice (cs := [iI n103, iI n104]) (es := (([(n103, n104)] : List (Int × Int))).map (rowC r70)) ty25 rfl ty71 rfl rfl rfl rfl rfl) ?_
 obtain ⟨_, h105, h⟩ := bindS h
 obtain ⟨h105b, rfl⟩ := app_some h105
 refine tn_appM (r := r70) (l := l90) 0 3 rfl rfl rfl rfl [3, 0] (by decide) rfl (hm0 rfl) rfl rfl (hkc (ne_add rfl) (hkc (ne_new (key_lt hlt 0 rfl)) (hkc (ne_new (key_lt hlt 1 rfl)) (hkM (e_k91.imp id fun h => by omega) hkn)))) rfl rfl (el_ownM (l := ([(n103, n104)] : List (Int × Int))) 1 rfl) rfl rfl h105 (fun y => rfl) el25 ty25 rfl rfl rfl rfl rfl ?_
 refine tq [] rfl (hm0 rfl) (q_fieldP rfl fa39_1 rfl) ?_
 refine tn_wr rfl rfl [3] (by decide) rfl (hm0 rfl) rfl (q_store (es' := [[iI n2, moC (l90 ++ ([(n103, n104)] : List (Int × Int))) (bb93 + 14)]]) 0 rfl rfl rfl sz25 rfl rfl rfl rfl rfl) (q := 3) rfl rfl ?_
 refine tn_end (bN (eS (lO ?_)))
 refine pq (qm (iO n89)) ?_
 refine pq (qb p_addY) ?_
 refine pq (qa (iO (IntKind.i64.wrap (n89 + 1)))) ?_
 refine oE ?_
 obtain rfl := sj h
 exact E_next (bb93 + 14) (ups_self ⟨rfl, rfl, rfl, rfl, trivial⟩) [2, 3, 0] (by decide) rfl
 replace h := ifF c92 h
 refine pq (qb (p_lss_fZ c92)) ?_
 refine oE (eS (cF rfl (L_exit ?_)))
 refine E_seqX ?_
 obtain rfl := sj h
 refine E_out ?_
 exact (E_exit k91 (ups_self ⟨rfl, rfl, trivial⟩) [0, 1, 2] (by decide) rfl)
 rintro (l106 | u) h
 refine J_x (fun k107 g => ?_)
 replace h := elimL h
 refine bH (eS (lS (lO ?_)))
 refine pq (ql (.agg [iI n2, moC l106 k107]) 1 sz39) ?_
 refine ow [[iI n2, moC l106 k107]] 0 sz39 ?_
 refine pq (qa (iO 0)) ?_
 refine oE (eS (lR ?_))
 obtain rfl := sj h
 exact E_endF (.inr rfl) (res_cell (d := .agg [iI n2, moC l106 k107]) 0 rfl sz39 rfl rfl rfl rfl (res_tmp rfl res_nil)) (vw_cons (vd_agg (vc_cons vc_v (vc_cons (vc_M (r := r70) 2 rfl (fun x h m => rfl)) vc_nil))) (vw_cons (vd_one vc_v) vw_nil)) oW rfl rfl
 obtain rfl := Option.some.inj (elimR h)
 exact J_up (fun s hs => hs)
 obtain rfl := Option.some.inj (elimR h)
 exact J_up (fun s hs => hs)
noncomputable def law09_Some_b1 (s2 : Sl (Int × Int)) (n4 : Int) (a : (List (Int × Int)) × Int) : Option (((List (Int × Int)) × Int) ⊕ ((List (Int × Int)) ⊕ (Int × (Sl (Int × Int))))) :=
 match a with
 | (l42, n43) => (if n43 < ((s2.l.length : Nat) : Int) then (if n43 < 60 then (if n4 > 0 then ((atS 2 s2 n43).bind fun (n50, n51) => (if n50 ≥ 0 then ((modO n50 n4).bind fun n57 => ((app l42 ([(n57, n51)] : List (Int × Int))).bind fun _ => some (.inl ((l42 ++ ([(n57, n51)] : List (Int × Int))), (IntKind.i64.wrap (n43 + 1)))))) else some (.inl (l42, (IntKind.i64.wrap (n43 + 1)))))) else some (.inr (.inl l42))) else some (.inr (.inl l42))) else some (.inr (.inl l42)))
noncomputable def law09_Some (n1 : Int) (s2 : Sl (Int × Int)) : Option ((Int × (Sl (Int × Int)))) :=
 ((modO (IntKind.i64.wrap n1) 60).bind fun n4 => ((loopO (law09_Some_b1 s2 n4) (([] : List (Int × Int)), 0)).bind (Sum.elim (fun l60 => ((ref09_Of 1 n4 (mo 2 l60)).bind fun ((n63, s64), n65) => some (n63, s64))) (fun u => some u))))
theorem law09_Some_r (m : Nat) {n1 : Int} {s2 : Sl (Int × Int)} {out : (Int × (Sl (Int × Int)))} (h : law09_Some n1 s2 = some out) : RunsP E1 (m + 5) 31 [.one (iT .u8 n1), .one (Sl.t r70 s2)] (.fresh, [.agg (r38 out)]) := by
 refine fn_F rfl (by rw [E1_fn]; exact show fiOf Tryd.prog 31 = _ by unfold fiOf; rw [Tryd.func31]; unfold Tryd.f31; rfl) rfl ?_
 dsimp only
 unfold law09_Some at h
 refine lS (lO ?_)
 refine ol_new rfl rfl rfl (q_alloc ty39 (row := [iI 0, nC]) rfl rfl) (fun k3 => ?_)
 refine oN ?_
 refine pq (qm (.one (iC .u8 n1))) ?_
 refine pq (q_conv rfl (cv5_3_u8 _) rfl) ?_
 obtain ⟨n4, h5, h⟩ := bindS h
 refine pq (q_bin rfl rfl (modO_p h5) rfl) ?_
 refine pq (qa (iO n4)) ?_
 refine oN ?_
 refine pq (qa (.one nC)) ?_
 refine oE (eS (lS (lS (lO ?_))))
 refine pq (qa (iO 0)) ?_
 refine oE (eS (lB ?_))
 refine L_addM (α := Int × Int) r70 2 ?_
 let S1 : ((List (Int × Int)) × Int) → Nat → (Nat → D) → Nat → D := fun a kt g => ups g [(1, .one (sF r70 s2)), (4, .one (.ptr k3 0 0)), (5, iO n4), (6, .one (moC a.1 kt)), (7, .one (iI a.2))]
 let SL1 : ((List (Int × Int)) × Int) → Nat → BL := fun a kt => ([[(k3, 2, [[iI 0, nC]])], moL r70 2 a.1 kt] : BL)
 let G1 : (Int × (Sl (Int × Int))) → Ex → St → Prop := fun u => endQ E1 [.cell 4 39] (.fresh, [.agg (r38 u)])
 let Sx1 : (List (Int × Int)) → Nat → (Nat → D) → Nat → D := fun a kt g => ups g [(4, .one (.ptr k3 0 0)), (5, iO n4), (6, .one (moC a kt))]
 let SLx1 : (List (Int × Int)) → Nat → BL := fun a kt => ([[(k3, 2, [[iI 0, nC]])], moL r70 2 a kt] : BL)
 let J1 : ((List (Int × Int)) ⊕ (Int × (Sl (Int × Int)))) → Ex → St → Prop := JX 56 0 Sx1 SLx1 G1
 refine L_loopS (law09_Some_b1 s2 n4) S1 SL1 J1 JX_n (([] : List (Int × Int)), 0) h 1040 (ups_self ⟨rfl, rfl, rfl, rfl, rfl, trivial⟩) [1, 0] (by decide) rfl ?_ ?_
 rintro ⟨l42, n43⟩ k44 g out h
 change law09_Some_b1 s2 n4 (l42, n43) = some out at h
 unfold law09_Some_b1 at h
 refine lS (lS (lO ?_))
 refine pq (qm (iO n43)) ?_
 refine pq (qm (.one (sF r70 s2))) ?_
 refine pq (q_lenS rfl ty25 rfl rfl rfl rfl) ?_
 by_cases c45 : n43 < ((s2.l.length : Nat) : Int)
 replace h := ifT c45 h
 refine pq (qb (p_lss_tZ c45)) ?_
 refine pq (qm bt) ?_
 refine pq (qm (iO n43)) ?_
 by_cases c46 : n43 < 60
 replace h := ifT c46 h
 refine pq (qb (p_lss_tZ c46)) ?_
 refine pq (qpt bt) ?_
 refine pq (qm bt) ?_
 refine pq (qm (iO n4)) ?_
 by_cases c47 : n4 > 0
 replace h := ifT c47 h
 refine pq (qb (p_gtr_tZ c47)) ?_
 refine pq (qpt bt) ?_
 refine oE (eS (cT rfl (lK (eS (lS (lB (lS (lO ?_))))))))
 refine pq (qm (.one (sF r70 s2))) ?_
 refine pq (qm (iO n43)) ?_
 obtain ⟨⟨n50, n51⟩, h49, h⟩ := bindS h
 obtain ⟨h49a, h49b, h49⟩ := atS_some h49
 refine pq (q_ixS rfl rfl h49a h49 (el25.trans (congrArg some h49b.symm))) ?_
 refine pq (q_fieldI rfl fa71_0 rfl) ?_
 refine pq (q_loadI (v := iO n50) rfl sz3 (map_get h49) rfl rfl) ?_
 by_cases c52 : n50 ≥ 0
 replace h := ifT c52 h
 refine pq (qb (p_geq_tZ c52)) ?_
 refine oE (eS (cT rfl ?_))
 refine L_norm (L2 := ([[(k3, 2, [[iI 0, nC]])], moL r70 2 l42 k44] : BL)) [0, 1] (by decide) rfl ?_
 refine L_turn 17 rfl [[], [], [], [], [], [], [], [], [], [], [], [], [], [], [], moK l42 k44, []] [(false, []), (false, []), (false, []), (false, []), (false, []), (false, []), (false, []), (false, []), (false, []), (false, []), (false, []), (false, []), (false, []), (false, []), (true, []), (true, []), (false, [])] [[1, 2, 3, 4, 5, 6, 7, 8, 9, 10, 11, 12, 13, 14], [0, 2, 6, 8, 9, 10, 11, 12], [0, 1, 6, 8, 9, 10, 11, 12], [0, 6, 8, 9, 10, 11, 12], [0, 6, 8, 9, 10, 11, 12], [0, 6, 8, 9, 10, 11, 12], [0, 1, 2, 3, 4, 5, 8, 9, 10, 11, 12], [0, 8, 9, 10, 11, 12], [0, 1, 2, 3, 4, 5, 6, 7, 9], [0, 1, 2, 3, 4, 5, 6, 7, 8], [0, 1, 2, 3, 4, 5, 6, 7], [0, 1, 2, 3, 4, 5, 6, 7], [0, 1, 2, 3, 4, 5, 6, 7], [0], [0], [], []] (by kernel_rfl) (by kernel_rfl) (by kernel_rfl) ?_ (fun bb53 hlt hnd => ?_)
 intro bb53 hlt hnd
 have e_k3 : k3 < bb53 := key_lt hlt 0 rfl
 have e_k44 : l42 = [] ∨ k44 < bb53 := key_ltM (r := r70) (w := 2) hlt 1 rfl
 have f_k44 := moK_lt e_k44
 have d_k44_k3 : k3 ∉ moK l42 k44 := key_neM (r := r70) (w := 2) hnd 1 0 rfl rfl rfl
 have g_k44_k3 := moK_ne d_k44_k3
 exact ⟨(by first | (simp [DJ]; done) | (simp [DJ]; omega) | (simp [DJ]; assumption) | (simp_all [DJ]; done) | (simp_all [DJ]; omega)), (by first | (simp [DJ]; done) | (simp [DJ]; omega) | (simp [DJ]; assumption) | (simp_all [DJ]; done) | (simp_all [DJ]; omega))⟩
 have e_k3 : k3 < bb53 := key_lt hlt 0 rfl
 have e_k44 : l42 = [] ∨ k44 < bb53 := key_ltM (r := r70) (w := 2) hlt 1 rfl
 have f_k44 := moK_lt e_k44
 have d_k44_k3 : k3 ∉ moK l42 k44 := key_neM (r := r70) (w := 2) hnd 1 0 rfl rfl rfl
 have g_k44_k3 := moK_ne d_k44_k3
 refine tq [] rfl hmn (qm (.one (moC l42 k44))) ?_
 refine tq [] rfl (hm0 rfl) (qm (.one (sF r70 s2))) ?_
 refine tq [] rfl (hm0 rfl) (qm (iO n43)) ?_
 refine tq [] rfl (hm0 rfl) (q_ixS rfl rfl h49a h49 (el25.trans (congrArg some h49b.symm))) ?_
 refine tq [] rfl (hm0 rfl) (q_fieldI rfl fa71_0 rfl) ?_
 refine tq [] rfl (hm0 rfl) (q_loadI (v := iO n50) rfl sz3 (map_get h49) rfl rfl) ?_
 refine tq [] rfl (hm0 rfl) (qm (iO n4)) ?_
 obtain ⟨n57, h58, h⟩ := bindS h
 refine tq [] rfl (hm0 rfl) (q_bin rfl rfl (modO_p h58) rfl) ?_
 refine tq [] rfl (hm0 rfl) (qm (.one (sF r70 s2))) ?_
 refine tq [] rfl (hm0 rfl) (qm (iO n43)) ?_
 refine tq [] rfl (hm0 rfl) (q_ixS rfl rfl h49a h49 (el25.trans (congrArg some h49b.symm))) ?_
 refine tq [] rfl (hm0 rfl) (q_fieldI rfl fa71_1 rfl) ?_
 refine tq [] rfl (hm0 rfl) (q_loadI (v := iO n51) rfl sz2 (map_get h49) rfl rfl) ?_
 refine tq [] rfl (hm0 rfl) (q_build (cs := [iI n57, iI n51]) ty71 rfl pl71 rfl) ?_
 refine tn_new rfl rfl rfl [] (by decide) rfl (hm0 rfl) rfl rfl (hkc (ne_new (key_lt hlt 0 rfl)) (hkM (e_k44.imp id fun h => by omega) hkn)) (q_bslice (cs := [iI n57, iI n51]) (es := (([(n57, n51)] : List (Int × Int))).map (rowC r70)) ty25 rfl ty71 rfl rfl rfl rfl rfl) ?_
 obtain ⟨_, h59, h⟩ := bindS h
 obtain ⟨h59b, rfl⟩ := app_some h59
 refine tn_appM (r := r70) (l := l42) 0 2 rfl rfl rfl rfl [2, 0] (by decide) rfl (hm0 rfl) rfl rfl (hkc (ne_add rfl) (hkc (ne_new (key_lt hlt 0 rfl)) (hkM (e_k44.imp id fun h => by omega) hkn))) rfl rfl (el_ownM (l := ([(n57, n51)] : List (Int × Int))) 1 rfl) rfl rfl h59 (fun y => rfl) el25 ty25 rfl rfl rfl rfl rfl ?_
 refine tq [] rfl (hm0 rfl) (qa (.one (moC (l42 ++ ([(n57, n51)] : List (Int × Int))) (bb53 + 15)))) ?_
 refine tn_end (bN (eS (lO ?_)))
 refine pq (qm (iO n43)) ?_
 refine pq (qb p_addY) ?_
 refine pq (qa (iO (IntKind.i64.wrap (n43 + 1)))) ?_
 refine oE ?_
 obtain rfl := sj h
 exact E_next (bb53 + 15) (ups_self ⟨rfl, rfl, rfl, rfl, rfl, trivial⟩) [2, 0] (by decide) rfl
 replace h := ifF c52 h
 refine pq (qb (p_geq_fZ c52)) ?_
 refine oE (eS (cF rfl (lK (bN (eS (lO ?_))))))
 refine pq (qm (iO n43)) ?_
 refine pq (qb p_addY) ?_
 refine pq (qa (iO (IntKind.i64.wrap (n43 + 1)))) ?_
 refine oE ?_
 obtain rfl := sj h
 exact E_next k44 (ups_self ⟨rfl, rfl, rfl, rfl, rfl, trivial⟩) [0, 1] (by decide) rfl
 replace h := ifF c47 h
 refine pq (qb (p_gtr_fZ c47)) ?_
 refine pq (qpt bf) ?_
 refine oE (eS (cF rfl (L_exit ?_)))
 refine E_seqX ?_
 obtain rfl := sj h
 refine E_out ?_
 exact (E_exit k44 (ups_self ⟨rfl, rfl, rfl, trivial⟩) [0, 1] (by decide) rfl)
 replace h := ifF c46 h
 refine pq (qb (p_lss_fZ c46)) ?_
 refine pq (qpt bf) ?_
 refine pq (qm bf) ?_
 iterate 2 refine os ?_
 refine pq (qpf bf) ?_
 refine oE (eS (cF rfl (L_exit ?_)))
 refine E_seqX ?_
 obtain rfl := sj h
 refine E_out ?_
 exact (E_exit k44 (ups_self ⟨rfl, rfl, rfl, trivial⟩) [0, 1] (by decide) rfl)
 replace h := ifF c45 h
 refine pq (qb (p_lss_fZ c45)) ?_
 refine pq (qm bf) ?_
 iterate 2 refine os ?_
 refine pq (qpf bf) ?_
 refine pq (qm bf) ?_
 iterate 2 refine os ?_
 refine pq (qpf bf) ?_
 refine oE (eS (cF rfl (L_exit ?_)))
 refine E_seqX ?_
 obtain rfl := sj h
 refine E_out ?_
 exact (E_exit k44 (ups_self ⟨rfl, rfl, rfl, trivial⟩) [0, 1] (by decide) rfl)
 rintro (l60 | u) h
 refine J_x (fun k61 g => ?_)
 replace h := elimL h
 refine bH (eS (lS (lO ?_)))
 refine pq (qm (iO n4)) ?_
 refine pq (qm (.one (moC l60 k61))) ?_
 obtain ⟨⟨⟨n63, s64⟩, n65⟩, h62, h⟩ := bindS h
 refine pq (qc (.tup [.agg [iI n63, sC r70 s64], iO n65]) [iO 1, iO n4, .one (moC l60 k61)] (ref09_Of_r (m + 0) h62) (vw_cons (vd_one vc_v) (vw_cons (vd_one vc_v) (vw_cons (vd_one (vc_M (r := r70) 1 rfl (fun x h m => rfl))) vw_nil)))) ?_
 refine pq (qm (.tup [.agg [iI n63, sC r70 s64], iO n65])) ?_
 refine pq (q_ext (v := .agg [iI n63, sC r70 s64]) rfl rfl) ?_
 refine pq (q_ext (v := iO n65) rfl rfl) ?_
 refine ol_new rfl rfl rfl (q_alloc ty39 (row := [iI 0, nC]) rfl rfl) (fun k66 => ?_)
 refine ow [[iI n63, sC r70 s64]] 0 sz39 ?_
 refine pq (qa (iO n65)) ?_
 refine oN ?_
 refine pq (ql (.agg [iI n63, sC r70 s64]) 0 sz39) ?_
 refine ow [[iI n63, sC r70 s64]] 1 sz39 ?_
 refine oE (eS (lR ?_))
 obtain rfl := sj h
 exact E_endF (.inr rfl) (res_cell (d := .agg [iI n63, sC r70 s64]) 1 rfl sz39 rfl rfl rfl rfl res_nil) (vw_cons (vd_agg (vc_cons vc_v (vc_cons vc_s vc_nil))) vw_nil) oG rfl rfl
 obtain rfl := Option.some.inj (elimR h)
 exact J_up (fun s hs => hs)
noncomputable def law13_Task_Vector_b1 (n1 : Int) (s16 : Sl (Int × Int)) (a : (List (Int × Int)) × Int) : Option (((List (Int × Int)) × Int) ⊕ ((List (Int × Int)) ⊕ (Int × (Sl (Int × Int))))) :=
 match a with
 | (l64, n65) => (if n65 < ((s16.l.length : Nat) : Int) then ((atS 2 s16 n65).bind fun (n80, n81) => ((law13_Right n1).bind fun n83 => ((law02_Value n83 n81).bind fun n85 => ((app l64 ([(n80, n85)] : List (Int × Int))).bind fun _ => some (.inl ((l64 ++ ([(n80, n85)] : List (Int × Int))), (IntKind.i64.wrap (n65 + 1)))))))) else some (.inr (.inl l64)))
noncomputable def law13_Task_Vector (a0 : Int × (Int × Int) × (Sl (Int × Int × Int)) × (Sl (Int × Int)) × (Sl (Int × Int)) × Sl (Int) × Bool) (s9 : Sl (Int × Int)) : Option ((Int × (Sl (Int × Int)))) :=
 match a0 with
 | (n1, (n2, n3), s4, s5, s6, s7, b8) => ((law07_Size n3).bind fun n13 => ((law09_Some (IntKind.u8.wrap n13) s9).bind fun (n15, s16) => ((loopO (law13_Task_Vector_b1 n1 s16) (([] : List (Int × Int)), 0)).bind (Sum.elim (fun l87 => some (n15, (mo 2 l87))) (fun u => some u)))))
theorem law13_Task_Vector_r (m : Nat) {a0 : Int × (Int × Int) × (Sl (Int × Int × Int)) × (Sl (Int × Int)) × (Sl (Int × Int)) × Sl (Int) × Bool} {s9 : Sl (Int × Int)} {out : (Int × (Sl (Int × Int)))} (h : law13_Task_Vector a0 s9 = some out) : RunsP E1 (m + 6) 10 [.agg (r27 a0), .one (Sl.t r70 s9)] (.fresh, [.agg (r38 out)]) := by
 obtain ⟨n1, ⟨n2, n3⟩, s4, s5, s6, s7, b8⟩ := a0
 refine fn_F rfl (by rw [E1_fn]; exact show fiOf Tryd.prog 10 = _ by unfold fiOf; rw [Tryd.func10]; unfold Tryd.f10; rfl) rfl ?_
 dsimp only
 unfold law13_Task_Vector at h
 refine lS (lO ?_)
 refine ol_new rfl rfl rfl (q_box ty28 rfl (cs := [iI n1, iC .u8 n2, iC .u8 n3, sF r92 s4, sF r70 s5, sF r70 s6, sF r60 s7, bC b8]) rfl rfl) (fun k10 => ?_)
 refine ol_new rfl rfl rfl (q_alloc ty39 (row := [iI 0, nC]) rfl rfl) (fun k11 => ?_)
 refine oN ?_
 refine pq (q_fieldP rfl fa28_1 rfl) ?_
 refine pq (q_ixA (a := 1) ty23 rfl ty5 rfl rfl rfl rfl) ?_
 refine pq (ql (.one (iC .u8 n3)) 1 sz5) ?_
 obtain ⟨n13, h12, h⟩ := bindS h
 refine pq (qc (iO n13) [.one (iC .u8 n3)] (law07_Size_r (m + 4) h12) (vw_cons (vd_one vc_v) vw_nil)) ?_
 refine pq (q_conv rfl (cv3_5_i64 _) rfl) ?_
 refine pq (qm (.one (sF r70 s9))) ?_
 obtain ⟨⟨n15, s16⟩, h14, h⟩ := bindS h
 refine pq (qc (.agg [iI n15, sC r70 s16]) [.one (iC .u8 (IntKind.u8.wrap n13)), .one (sF r70 s9)] (law09_Some_r (m + 0) h14) (vw_cons (vd_one vc_v) (vw_cons (vd_one vc_s) vw_nil))) ?_
 refine ol_new rfl rfl rfl (q_alloc ty39 (row := [iI 0, nC]) rfl rfl) (fun k17 => ?_)
 refine ow [[iI n15, sC r70 s16]] 0 sz39 ?_
 refine oN ?_
 refine pq (qa (.one nC)) ?_
 refine oE (eS (lS (lS (lO ?_))))
 refine pq (qa (iO 0)) ?_
 refine oE (eS (lB ?_))
 refine L_addM (α := Int × Int) r70 2 ?_
 let S1 : ((List (Int × Int)) × Int) → Nat → (Nat → D) → Nat → D := fun a kt g => ups g [(2, .one (.ptr k10 0 0)), (4, .one (.ptr k11 0 0)), (5, .one (.ptr k17 0 0)), (6, .one (moC a.1 kt)), (7, .one (iI a.2))]
 let SL1 : ((List (Int × Int)) × Int) → Nat → BL := fun a kt => ([[(k10, 8, [[iI n1, iC .u8 n2, iC .u8 n3, sF r92 s4, sF r70 s5, sF r70 s6, sF r60 s7, bC b8]])], [(k11, 2, [[iI 0, nC]])], [(k17, 2, [[iI n15, sC r70 s16]])], moL r70 2 a.1 kt] : BL)
 let G1 : (Int × (Sl (Int × Int))) → Ex → St → Prop := fun u => endQ E1 [.cell 4 39] (.fresh, [.agg (r38 u)])
 let Sx1 : (List (Int × Int)) → Nat → (Nat → D) → Nat → D := fun a kt g => ups g [(4, .one (.ptr k11 0 0)), (5, .one (.ptr k17 0 0)), (6, .one (moC a kt))]
 let SLx1 : (List (Int × Int)) → Nat → BL := fun a kt => ([[(k11, 2, [[iI 0, nC]])], [(k17, 2, [[iI n15, sC r70 s16]])], moL r70 2 a kt] : BL)
 let J1 : ((List (Int × Int)) ⊕ (Int × (Sl (Int × Int)))) → Ex → St → Prop := JX 46 0 Sx1 SLx1 G1
 refine L_loopS (law13_Task_Vector_b1 n1 s16) S1 SL1 J1 JX_n (([] : List (Int × Int)), 0) h 1062 (ups_self ⟨rfl, rfl, rfl, rfl, rfl, trivial⟩) [3, 2, 1, 0] (by decide) rfl ?_ ?_
 rintro ⟨l64, n65⟩ k66 g out h
 change law13_Task_Vector_b1 n1 s16 (l64, n65) = some out at h
 unfold law13_Task_Vector_b1 at h
 refine lS (lS (lO ?_))
 refine pq (qm (iO n65)) ?_
 refine pq (q_fieldP rfl fa39_1 rfl) ?_
 refine pq (ql (.one (sC r70 s16)) 2 sz25) ?_
 refine pq (q_lenS rfl ty25 rfl rfl rfl rfl) ?_
 by_cases c67 : n65 < ((s16.l.length : Nat) : Int)
 replace h := ifT c67 h
 refine pq (qb (p_lss_tZ c67)) ?_
 refine oE (eS (cT rfl (lK (eS (lS (lB ?_))))))
 refine L_norm (L2 := ([[(k10, 8, [[iI n1, iC .u8 n2, iC .u8 n3, sF r92 s4, sF r70 s5, sF r70 s6, sF r60 s7, bC b8]])], [(k11, 2, [[iI 0, nC]])], [(k17, 2, [[iI n15, sC r70 s16]])], moL r70 2 l64 k66] : BL)) [0, 1, 2, 3] (by decide) rfl ?_
 refine L_turn 21 rfl [[], [], [], [], [], [], [], [], [], [], [], [], [], [], [], [], [], [], [], moK l64 k66, []] [(false, []), (false, []), (false, []), (false, []), (false, []), (false, []), (false, []), (false, []), (false, []), (false, []), (false, []), (false, []), (false, []), (false, []), (false, []), (false, []), (false, []), (false, []), (true, []), (true, []), (false, [])] [[1, 2, 3, 4, 5, 6, 7, 8, 9, 10, 11, 12, 13, 14, 15, 16, 17, 18], [0, 3, 7, 8, 9, 10, 11, 12, 13, 14, 15, 16], [0, 3, 7, 8, 9, 10, 11, 12, 13, 14, 15, 16], [0, 1, 2, 7, 8, 9, 10, 11, 12, 13, 14, 15, 16], [0, 7, 8, 9, 10, 11, 12, 13, 14, 15, 16], [0, 7, 8, 9, 10, 11, 12, 13, 14, 15, 16], [0, 7, 8, 9, 10, 11, 12, 13, 14, 15, 16], [0, 1, 2, 3, 4, 5, 6, 10, 11, 12, 13, 14, 15], [0, 1, 2, 3, 4, 5, 6, 10, 11, 12, 13, 14, 15], [0, 1, 2, 3, 4, 5, 6, 10, 11, 12, 13, 14, 15], [0, 1, 2, 3, 4, 5, 6, 7, 8, 9, 12], [0, 1, 2, 3, 4, 5, 6, 7, 8, 9, 12], [0, 1, 2, 3, 4, 5, 6, 7, 8, 9, 10, 11], [0, 1, 2, 3, 4, 5, 6, 7, 8, 9], [0, 1, 2, 3, 4, 5, 6, 7, 8, 9], [0, 1, 2, 3, 4, 5, 6, 7, 8, 9], [0, 1, 2, 3, 4, 5, 6], [0], [0], [], []] (by kernel_rfl) (by kernel_rfl) (by kernel_rfl) ?_ (fun bb68 hlt hnd => ?_)
 intro bb68 hlt hnd
 have e_k10 : k10 < bb68 := key_lt hlt 0 rfl
 have e_k11 : k11 < bb68 := key_lt hlt 1 rfl
 have e_k17 : k17 < bb68 := key_lt hlt 2 rfl
 have e_k66 : l64 = [] ∨ k66 < bb68 := key_ltM (r := r70) (w := 2) hlt 3 rfl
 have f_k66 := moK_lt e_k66
 have d_k66_k10 : k10 ∉ moK l64 k66 := key_neM (r := r70) (w := 2) hnd 3 0 rfl rfl rfl
 have g_k66_k10 := moK_ne d_k66_k10
 have d_k66_k11 : k11 ∉ moK l64 k66 := key_neM (r := r70) (w := 2) hnd 3 1 rfl rfl rfl
 have g_k66_k11 := moK_ne d_k66_k11
 have d_k66_k17 : k17 ∉ moK l64 k66 := key_neM (r := r70) (w := 2) hnd 3 2 rfl rfl rfl
 have g_k66_k17 := moK_ne d_k66_k17
 exact ⟨(by first | (simp [DJ]; done) | (simp [DJ]; omega) | (simp [DJ]; assumption) | (simp_all [DJ]; done) | (simp_all [DJ]; omega)), (by first | (simp [DJ]; done) | (simp [DJ]; omega) | (simp [DJ]; assumption) | (simp_all [DJ]; done) | (simp_all [DJ]; omega))⟩
 have e_k10 : k10 < bb68 := key_lt hlt 0 rfl
 have e_k11 : k11 < bb68 := key_lt hlt 1 rfl
 have e_k17 : k17 < bb68 := key_lt hlt 2 rfl
 have e_k66 : l64 = [] ∨ k66 < bb68 := key_ltM (r := r70) (w := 2) hlt 3 rfl
 have f_k66 := moK_lt e_k66
 have d_k66_k10 : k10 ∉ moK l64 k66 := key_neM (r := r70) (w := 2) hnd 3 0 rfl rfl rfl
 have g_k66_k10 := moK_ne d_k66_k10
 have d_k66_k11 : k11 ∉ moK l64 k66 := key_neM (r := r70) (w := 2) hnd 3 1 rfl rfl rfl
 have g_k66_k11 := moK_ne d_k66_k11
 have d_k66_k17 : k17 ∉ moK l64 k66 := key_neM (r := r70) (w := 2) hnd 3 2 rfl rfl rfl
 have g_k66_k17 := moK_ne d_k66_k17
 refine tq [] rfl hmn (qm (.one (moC l64 k66))) ?_
 refine tq [] rfl (hm0 rfl) (q_fieldP rfl fa39_1 rfl) ?_
 refine tq [2] rfl (hm0 rfl) (ql (.one (sC r70 s16)) 0 sz25) ?_
 refine tq [] rfl (hm0 rfl) (qm (iO n65)) ?_
 obtain ⟨⟨n80, n81⟩, h79, h⟩ := bindS h
 obtain ⟨h79a, h79b, h79⟩ := atS_some h79
 refine tq [] rfl (hm0 rfl) (q_ixS rfl rfl h79a h79 (el25.trans (congrArg some h79b.symm))) ?_
 refine tq [] rfl (hm0 rfl) (q_fieldI rfl fa71_0 rfl) ?_
 refine tq [] rfl (hm0 rfl) (q_loadI (v := iO n80) rfl sz3 (map_get h79) rfl rfl) ?_
 refine tq [] rfl (hm0 rfl) (q_fieldP rfl fa28_0 rfl) ?_
 refine tq [0] rfl (hm0 rfl) (ql (iO n1) 0 sz22) ?_
 obtain ⟨n83, h82, h⟩ := bindS h
 refine tq [] rfl (hm0 rfl) (qc (iO n83) [iO n1] (law13_Right_r (m + 4) h82) (vw_cons (vd_one vc_v) vw_nil)) ?_
 refine tq [] rfl (hm0 rfl) (q_fieldP rfl fa39_1 rfl) ?_
 refine tq [2] rfl (hm0 rfl) (ql (.one (sC r70 s16)) 0 sz25) ?_
 refine tq [] rfl (hm0 rfl) (qm (iO n65)) ?_
 refine tq [] rfl (hm0 rfl) (q_ixS rfl rfl h79a h79 (el25.trans (congrArg some h79b.symm))) ?_
 refine tq [] rfl (hm0 rfl) (q_fieldI rfl fa71_1 rfl) ?_
 refine tq [] rfl (hm0 rfl) (q_loadI (v := iO n81) rfl sz2 (map_get h79) rfl rfl) ?_
 obtain ⟨n85, h84, h⟩ := bindS h
 refine tq [] rfl (hm0 rfl) (qc (iO n85) [iO n83, iO n81] (law02_Value_r (m + 4) h84) (vw_cons (vd_one vc_v) (vw_cons (vd_one vc_v) vw_nil))) ?_
 refine tq [] rfl (hm0 rfl) (q_build (cs := [iI n80, iI n85]) ty71 rfl pl71 rfl) ?_
 refine tn_new rfl rfl rfl [] (by decide) rfl (hm0 rfl) rfl rfl (hkc (ne_new (key_lt hlt 0 rfl)) (hkc (ne_new (key_lt hlt 1 rfl)) (hkc (ne_new (key_lt hlt 2 rfl)) (hkM (e_k66.imp id fun h => by omega) hkn)))) (q_bslice (cs := [iI n80, iI n85]) (es := (([(n80, n85)] : List (Int × Int))).map (rowC r70)) ty25 rfl ty71 rfl rfl rfl rfl rfl) ?_
 obtain ⟨_, h86, h⟩ := bindS h
 obtain ⟨h86b, rfl⟩ := app_some h86
 refine tn_appM (r := r70) (l := l64) 0 4 rfl rfl rfl rfl [4, 0] (by decide) rfl (hm0 rfl) rfl rfl (hkc (ne_add rfl) (hkc (ne_new (key_lt hlt 0 rfl)) (hkc (ne_new (key_lt hlt 1 rfl)) (hkc (ne_new (key_lt hlt 2 rfl)) (hkM (e_k66.imp id fun h => by omega) hkn))))) rfl rfl (el_ownM (l := ([(n80, n85)] : List (Int × Int))) 1 rfl) rfl rfl h86 (fun y => rfl) el25 ty25 rfl rfl rfl rfl rfl ?_
 refine tq [] rfl (hm0 rfl) (qa (.one (moC (l64 ++ ([(n80, n85)] : List (Int × Int))) (bb68 + 19)))) ?_
 refine tn_end (bN (eS (lO ?_)))
 refine pq (qm (iO n65)) ?_
 refine pq (qb p_addY) ?_
 refine pq (qa (iO (IntKind.i64.wrap (n65 + 1)))) ?_
 refine oE ?_
 obtain rfl := sj h
 exact E_next (bb68 + 19) (ups_self ⟨rfl, rfl, rfl, rfl, rfl, trivial⟩) [2, 3, 4, 0] (by decide) rfl
 replace h := ifF c67 h
 refine pq (qb (p_lss_fZ c67)) ?_
 refine oE (eS (cF rfl (L_exit ?_)))
 refine E_seqX ?_
 obtain rfl := sj h
 refine E_out ?_
 exact (E_exit k66 (ups_self ⟨rfl, rfl, rfl, trivial⟩) [1, 2, 3] (by decide) rfl)
 rintro (l87 | u) h
 refine J_x (fun k88 g => ?_)
 replace h := elimL h
 refine bH (eS (lS (lO ?_)))
 refine pq (q_fieldP rfl fa39_0 rfl) ?_
 refine pq (ql (iO n15) 1 sz3) ?_
 refine pq (qm (.one (moC l87 k88))) ?_
 refine pq (q_build (cs := [iI n15, moC l87 k88]) ty39 rfl pl39 rfl) ?_
 refine ow [[iI n15, moC l87 k88]] 0 sz39 ?_
 refine oE (eS (lR ?_))
 obtain rfl := sj h
 exact E_endF (.inr rfl) (res_cell (d := .agg [iI n15, moC l87 k88]) 0 rfl sz39 rfl rfl rfl rfl res_nil) (vw_cons (vd_agg (vc_cons vc_v (vc_cons (vc_M (r := r70) 2 rfl (fun x h m => rfl)) vc_nil))) vw_nil) oG rfl rfl
 obtain rfl := Option.some.inj (elimR h)
 exact J_up (fun s hs => hs)
noncomputable def ref03_New (n1 : Int) : Option (List (Int)) :=
 ((ref03_words n1).bind fun n3 => ((lenOk n3).bind fun _ => some (List.replicate n3.toNat (0 : Int))))
theorem ref03_New_r (m : Nat) {n1 : Int} {out : List (Int)} (h : ref03_New n1 = some out) : RunsP E1 (m + 2) 58 [.one (iT .i64 n1)] (.own, [.one (.s true 1 ((out).map r60))]) := by
 refine fn_O rfl (by rw [E1_fn]; exact show fiOf Tryd.prog 58 = _ by unfold fiOf; rw [Tryd.func58]; unfold Tryd.f58; rfl) rfl ?_
 dsimp only
 unfold ref03_New at h
 refine lS (lO ?_)
 refine pq (qa (.one nC)) ?_
 refine oN ?_
 refine pq (qm (iO n1)) ?_
 obtain ⟨n3, h2, h⟩ := bindS h
 refine pq (qc (iO n3) [iO n1] (ref03_words_r (m + 0) h2) (vw_cons (vd_one vc_v) vw_nil)) ?_
 obtain ⟨u4, h5, h⟩ := bindS h
 refine ol_new rfl rfl rfl (q_mkslice (r := rowC r60) (a := (0 : Int)) ty26 rfl ty60 rfl rfl (lenOk_some h5).1 (lenOk_some h5).2 rfl rfl) (fun k6 => ?_)
 refine pq (qa (.one (.own k6 0 ((List.replicate n3.toNat (0 : Int))).length))) ?_
 refine oE (eS (lR ?_))
 obtain rfl := sj h
 exact E_endO (r := r60) 0 (.inr rfl) (res_tmp rfl res_nil) rfl (fun x h m => rfl) (fun x => rfl)
noncomputable def ref03_set (s1 : Sl (Int)) (n2 : Int) (b3 : Bool) : Option (List (Int)) :=
 ((app ([] : List (Int)) s1.l).bind fun _ => (if n2 < 0 then some (([] : List (Int)) ++ s1.l) else ((divO .i64 n2 64).bind fun n8 => (if n8 ≥ ((s1.l.length : Nat) : Int) then some (([] : List (Int)) ++ s1.l) else ((modO n2 64).bind fun n11 => ((shl1 .u64 1 (IntKind.u64.wrap n11)).bind fun n13 => (if b3 = true then ((atS 1 (mo 1 (([] : List (Int)) ++ s1.l)) n8).bind fun n20 => some ((([] : List (Int)) ++ s1.l).set n8.toNat (orI .u64 n20 n13))) else ((atS 1 (mo 1 (([] : List (Int)) ++ s1.l)) n8).bind fun n17 => some ((([] : List (Int)) ++ s1.l).set n8.toNat (andNotI .u64 n17 n13))))))))))
theorem ref03_set_r (m : Nat) {s1 : Sl (Int)} {n2 : Int} {b3 : Bool} {out : List (Int)} (h : ref03_set s1 n2 b3 = some out) : RunsP E1 (m + 1) 85 [.one (Sl.t r60 s1), .one (iT .i64 n2), .one (bT b3)] (resM 1 r60 out) := by
 refine fn_M rfl (by rw [E1_fn]; exact show fiOf Tryd.prog 85 = _ by unfold fiOf; rw [Tryd.func85]; unfold Tryd.f85; rfl) rfl ?_
 dsimp only
 unfold ref03_set at h
 refine lS (lO ?_)
 refine pq (qa (.one nC)) ?_
 refine oN ?_
 refine pq (qa (.one nC)) ?_
 refine oN ?_
 refine pq (qm (.one nC)) ?_
 refine pq (qm (.one (sF r60 s1))) ?_
 refine ol_addM (α := Int) r60 1 ?_
 obtain ⟨_, h4, h⟩ := bindS h
 obtain ⟨h4b, rfl⟩ := app_some h4
 refine ol_appM (r := r60) (l := ([] : List (Int))) (ys := s1.l) 0 rfl rfl rfl rfl rfl rfl (el_dat (fr := false) (r := r60) (fun x => rfl)) rfl h4 (fun y => rfl) el26 ty26 rfl rfl rfl rfl rfl (fun k6 => ?_)
 refine pq (qa (.one (moC (([] : List (Int)) ++ s1.l) k6))) ?_
 refine oE (eS (lS (lS (lO ?_))))
 refine pq (qm (iO n2)) ?_
 by_cases c7 : n2 < 0
 replace h := ifT c7 h
 refine pq (qb (p_lss_tZ c7)) ?_
 refine pq (qm bt) ?_
 iterate 5 refine os ?_
 refine pq (qpt bt) ?_
 refine oE (eS (cT rfl (lS (lO ?_))))
 refine pq (qm (.one (moC (([] : List (Int)) ++ s1.l) k6))) ?_
 refine pq (qa (.one (moC (([] : List (Int)) ++ s1.l) k6))) ?_
 refine oE (eS (lR (eR ?_)))
 obtain rfl := sj h
 exact E_endM (r := r60) 0 (.inr rfl) (res_tmp rfl res_nil) rfl (fun x h m => rfl) (fun x => rfl)
 replace h := ifF c7 h
 refine pq (qb (p_lss_fZ c7)) ?_
 refine pq (qm bf) ?_
 refine pq (qm (iO n2)) ?_
 obtain ⟨n8, h9, h⟩ := bindS h
 refine pq (q_bin rfl rfl (divO_p h9) rfl) ?_
 refine pq (qm (.one (sF r60 s1))) ?_
 refine pq (q_lenS rfl ty26 rfl rfl rfl rfl) ?_
 by_cases c10 : n8 ≥ ((s1.l.length : Nat) : Int)
 replace h := ifT c10 h
 refine pq (qb (p_geq_tZ c10)) ?_
 refine pq (qpf bt) ?_
 refine oE (eS (cT rfl (lS (lO ?_))))
 refine pq (qm (.one (moC (([] : List (Int)) ++ s1.l) k6))) ?_
 refine pq (qa (.one (moC (([] : List (Int)) ++ s1.l) k6))) ?_
 refine oE (eS (lR (eR ?_)))
 obtain rfl := sj h
 exact E_endM (r := r60) 0 (.inr rfl) (res_tmp rfl res_nil) rfl (fun x h m => rfl) (fun x => rfl)
 replace h := ifF c10 h
 refine pq (qb (p_geq_fZ c10)) ?_
 refine pq (qpf bf) ?_
 refine oE (eS (cF rfl (lK (eS (lS (lO ?_))))))
 refine pq (qm (iO n2)) ?_
 obtain ⟨n11, h12, h⟩ := bindS h
 refine pq (q_bin rfl rfl (modO_p h12) rfl) ?_
 refine pq (q_conv rfl (cv3_110_i64 _) rfl) ?_
 obtain ⟨n13, h14, h⟩ := bindS h
 refine pq (q_bin rfl rfl (p_shl h14) rfl) ?_
 refine pq (qa (.one (uI n13))) ?_
 refine oE (eS (lS (lS (lO ?_))))
 refine pq (qm (bO b3)) ?_
 refine oE (eS ?_)
 rcases b3 with _ | _
 replace h := wF h
 refine cF rfl (lO ?_)
 refine pq (qm (.one (moC (([] : List (Int)) ++ s1.l) k6))) ?_
 refine pq (qm (iO n2)) ?_
 refine pq (q_bin rfl rfl (divO_p h9) rfl) ?_
 refine pq (qm (.one (moC (([] : List (Int)) ++ s1.l) k6))) ?_
 refine pq (qm (iO n2)) ?_
 refine pq (q_bin rfl rfl (divO_p h9) rfl) ?_
 obtain ⟨n17, h16, h⟩ := bindS h
 obtain ⟨h16a, h16⟩ := atM_some h16
 refine pq (q_ixM (r := r60) 0 rfl rfl h16a h16 rfl el26) ?_
 refine pq (q_loadP (v := .one (uI n17)) 0 rfl sz60 (segM (r := r60) rfl h16) (map_get h16) rfl rfl) ?_
 refine pq (qm (.one (uI n13))) ?_
 refine pq (q_bin rfl rfl (p_andNot _ _ _ _ _ _ _) rfl) ?_
 refine pq (q_ixM (r := r60) 0 rfl rfl h16a h16 rfl el26) ?_
 refine ol_wr rfl rfl (q_store (e' := rowC r60 (andNotI .u64 n17 n13)) (es' := (((([] : List (Int)) ++ s1.l).set n8.toNat (andNotI .u64 n17 n13))).map (rowC r60)) 0 rfl rfl rfl sz60 rfl (segM (r := r60) rfl h16) (map_get h16) rfl map_set) (congrArg (fun z => List.set _ 0 z) (setM (r := r60) h16)) ?_
 refine ol_re 7 (v := .one (moC ((([] : List (Int)) ++ s1.l).set n8.toNat (andNotI .u64 n17 n13)) k6)) (Eq.trans (b := .one (moC (([] : List (Int)) ++ s1.l) k6)) rfl (congrArg D.one moC_set)) ?_
 refine ol_re 11 (v := .one (moC ((([] : List (Int)) ++ s1.l).set n8.toNat (andNotI .u64 n17 n13)) k6)) (Eq.trans (b := .one (moC (([] : List (Int)) ++ s1.l) k6)) rfl (congrArg D.one moC_set)) ?_
 refine ol_re 38 (v := .one (moC ((([] : List (Int)) ++ s1.l).set n8.toNat (andNotI .u64 n17 n13)) k6)) (Eq.trans (b := .one (moC (([] : List (Int)) ++ s1.l) k6)) rfl (congrArg D.one moC_set)) ?_
 refine ol_re 41 (v := .one (moC ((([] : List (Int)) ++ s1.l).set n8.toNat (andNotI .u64 n17 n13)) k6)) (Eq.trans (b := .one (moC (([] : List (Int)) ++ s1.l) k6)) rfl (congrArg D.one moC_set)) ?_
 refine oN ?_
 refine pq (qm (.one (moC ((([] : List (Int)) ++ s1.l).set n8.toNat (andNotI .u64 n17 n13)) k6))) ?_
 refine pq (qa (.one (moC ((([] : List (Int)) ++ s1.l).set n8.toNat (andNotI .u64 n17 n13)) k6))) ?_
 refine oE (eS (lR ?_))
 obtain rfl := sj h
 exact E_endM (r := r60) 0 (.inr rfl) (res_tmp rfl res_nil) rfl (fun x h m => rfl) (fun x => rfl)
 replace h := wT h
 refine cT rfl (lO ?_)
 refine pq (qm (.one (moC (([] : List (Int)) ++ s1.l) k6))) ?_
 refine pq (qm (iO n2)) ?_
 refine pq (q_bin rfl rfl (divO_p h9) rfl) ?_
 refine pq (qm (.one (moC (([] : List (Int)) ++ s1.l) k6))) ?_
 refine pq (qm (iO n2)) ?_
 refine pq (q_bin rfl rfl (divO_p h9) rfl) ?_
 obtain ⟨n20, h19, h⟩ := bindS h
 obtain ⟨h19a, h19⟩ := atM_some h19
 refine pq (q_ixM (r := r60) 0 rfl rfl h19a h19 rfl el26) ?_
 refine pq (q_loadP (v := .one (uI n20)) 0 rfl sz60 (segM (r := r60) rfl h19) (map_get h19) rfl rfl) ?_
 refine pq (qm (.one (uI n13))) ?_
 refine pq (q_bin rfl rfl (p_or _ _ _ _ _ _ _) rfl) ?_
 refine pq (q_ixM (r := r60) 0 rfl rfl h19a h19 rfl el26) ?_
 refine ol_wr rfl rfl (q_store (e' := rowC r60 (orI .u64 n20 n13)) (es' := (((([] : List (Int)) ++ s1.l).set n8.toNat (orI .u64 n20 n13))).map (rowC r60)) 0 rfl rfl rfl sz60 rfl (segM (r := r60) rfl h19) (map_get h19) rfl map_set) (congrArg (fun z => List.set _ 0 z) (setM (r := r60) h19)) ?_
 refine ol_re 7 (v := .one (moC ((([] : List (Int)) ++ s1.l).set n8.toNat (orI .u64 n20 n13)) k6)) (Eq.trans (b := .one (moC (([] : List (Int)) ++ s1.l) k6)) rfl (congrArg D.one moC_set)) ?_
 refine ol_re 11 (v := .one (moC ((([] : List (Int)) ++ s1.l).set n8.toNat (orI .u64 n20 n13)) k6)) (Eq.trans (b := .one (moC (([] : List (Int)) ++ s1.l) k6)) rfl (congrArg D.one moC_set)) ?_
 refine ol_re 27 (v := .one (moC ((([] : List (Int)) ++ s1.l).set n8.toNat (orI .u64 n20 n13)) k6)) (Eq.trans (b := .one (moC (([] : List (Int)) ++ s1.l) k6)) rfl (congrArg D.one moC_set)) ?_
 refine ol_re 30 (v := .one (moC ((([] : List (Int)) ++ s1.l).set n8.toNat (orI .u64 n20 n13)) k6)) (Eq.trans (b := .one (moC (([] : List (Int)) ++ s1.l) k6)) rfl (congrArg D.one moC_set)) ?_
 refine oN ?_
 refine pq (qm (.one (moC ((([] : List (Int)) ++ s1.l).set n8.toNat (orI .u64 n20 n13)) k6))) ?_
 refine pq (qa (.one (moC ((([] : List (Int)) ++ s1.l).set n8.toNat (orI .u64 n20 n13)) k6))) ?_
 refine oE (eS (lR ?_))
 obtain rfl := sj h
 exact E_endM (r := r60) 0 (.inr rfl) (res_tmp rfl res_nil) rfl (fun x h m => rfl) (fun x => rfl)
noncomputable def ref03_Put (s1 : Sl (Int)) (n2 : Int) : Option (List (Int)) :=
 ((ref03_set s1 n2 true).bind fun s4 => some s4)
theorem ref03_Put_r (m : Nat) {s1 : Sl (Int)} {n2 : Int} {out : List (Int)} (h : ref03_Put s1 n2 = some out) : RunsP E1 (m + 2) 62 [.one (Sl.t r60 s1), .one (iT .i64 n2)] (resM 1 r60 out) := by
 refine fn_M rfl (by rw [E1_fn]; exact show fiOf Tryd.prog 62 = _ by unfold fiOf; rw [Tryd.func62]; unfold Tryd.f62; rfl) rfl ?_
 dsimp only
 unfold ref03_Put at h
 refine lS (lO ?_)
 refine pq (qa (.one nC)) ?_
 refine oN ?_
 refine pq (qm (.one (sF r60 s1))) ?_
 refine pq (qm (iO n2)) ?_
 obtain ⟨s4, h3, h⟩ := bindS h
 refine ol_callM (r := r60) (l := s4) (args := [.one (sF r60 s1), iO n2, bt]) (ref03_set_r (m + 0) h3) rfl rfl rfl rfl rfl rfl (vw_cons (vd_one vc_s) (vw_cons (vd_one vc_v) (vw_cons (vd_one vc_v) vw_nil))) rfl (fun k5 => ?_)
 refine pq (qa (.one (moC s4 k5))) ?_
 refine oE (eS (lR ?_))
 obtain rfl := sj h
 exact E_endM (r := r60) 0 (.inr rfl) (res_tmp rfl res_nil) rfl (fun x h m => rfl) (fun x => rfl)
noncomputable def ref03_Of_b1 (n1 : Int) (s2 : Sl (Int)) (a : List (Int) × Int) : Option ((List (Int) × Int) ⊕ ((List (Int)) ⊕ (List (Int)))) :=
 match a with
 | (l29, n30) => (if n30 < ((s2.l.length : Nat) : Int) then ((atS 1 s2 n30).bind fun n35 => (if n35 ≥ 0 then (if n35 < n1 then (if n35 < 4096 then ((ref03_Put (⟨true, 1, l29⟩ : Sl (Int)) n35).bind fun s40 => ((neL s40).bind fun _ => some (.inl (s40, (IntKind.i64.wrap (n30 + 1)))))) else some (.inl (l29, (IntKind.i64.wrap (n30 + 1))))) else some (.inl (l29, (IntKind.i64.wrap (n30 + 1))))) else some (.inl (l29, (IntKind.i64.wrap (n30 + 1)))))) else some (.inr (.inl l29)))
noncomputable def ref03_Of (n1 : Int) (s2 : Sl (Int)) : Option (List (Int)) :=
 ((ref03_New n1).bind fun s4 => ((loopO (ref03_Of_b1 n1 s2) (s4, 0)).bind (Sum.elim (fun l43 => some l43) (fun u => some u))))
theorem ref03_Of_r (m : Nat) {n1 : Int} {s2 : Sl (Int)} {out : List (Int)} (h : ref03_Of n1 s2 = some out) : RunsP E1 (m + 3) 30 [.one (iT .i64 n1), .one (Sl.t r3 s2)] (.own, [.one (.s true 1 ((out).map r60))]) := by
 refine fn_O rfl (by rw [E1_fn]; exact show fiOf Tryd.prog 30 = _ by unfold fiOf; rw [Tryd.func30]; unfold Tryd.f30; rfl) rfl ?_
 dsimp only
 unfold ref03_Of at h
 refine lS (lO ?_)
 refine pq (qa (.one nC)) ?_
 refine oN ?_
 refine pq (qm (iO n1)) ?_
 obtain ⟨s4, h3, h⟩ := bindS h
 refine ol_new rfl rfl rfl (q_callO (args := [iO n1]) (ref03_New_r (m + 0) h3) rfl rfl (vw_cons (vd_one vc_v) vw_nil) rfl) (fun k5 => ?_)
 refine pq (qa (.one (.own k5 0 (s4).length))) ?_
 refine oE (eS (lS (lS (lO ?_))))
 refine pq (qa (iO 0)) ?_
 refine oE (eS (lB ?_))
 let S1 : (List (Int) × Int) → Nat → (Nat → D) → Nat → D := fun a kt g => ups g [(0, iO n1), (1, .one (sF r3 s2)), (5, .one (.own kt 0 (a.1).length)), (6, .one (iI a.2))]
 let SL1 : (List (Int) × Int) → Nat → BL := fun a kt => ([[(kt, 1, (a.1).map (rowC r60))]] : BL)
 let G1 : (List (Int)) → Ex → St → Prop := fun u => endQ E1 [.tmp 4] (.own, [.one (.s true 1 ((u).map r60))])
 let Sx1 : (List (Int)) → Nat → (Nat → D) → Nat → D := fun a kt g => ups g [(5, .one (.own kt 0 (a).length))]
 let SLx1 : (List (Int)) → Nat → BL := fun a kt => ([[(kt, 1, (a).map (rowC r60))]] : BL)
 let J1 : ((List (Int)) ⊕ (List (Int))) → Ex → St → Prop := JX 42 0 Sx1 SLx1 G1
 refine L_loopS (ref03_Of_b1 n1 s2) S1 SL1 J1 JX_n (s4, 0) h k5 (ups_self ⟨rfl, rfl, rfl, rfl, trivial⟩) [0] (by decide) rfl ?_ ?_
 rintro ⟨l29, n30⟩ k31 g out h
 change ref03_Of_b1 n1 s2 (l29, n30) = some out at h
 unfold ref03_Of_b1 at h
 refine lS (lS (lO ?_))
 refine pq (qm (iO n30)) ?_
 refine pq (qm (.one (sF r3 s2))) ?_
 refine pq (q_lenS rfl ty30 rfl rfl rfl rfl) ?_
 by_cases c32 : n30 < ((s2.l.length : Nat) : Int)
 replace h := ifT c32 h
 refine pq (qb (p_lss_tZ c32)) ?_
 refine oE (eS (cT rfl (lK (eS (lS (lB (lS (lO ?_))))))))
 refine pq (qm (.one (sF r3 s2))) ?_
 refine pq (qm (iO n30)) ?_
 obtain ⟨n35, h34, h⟩ := bindS h
 obtain ⟨h34a, h34b, h34⟩ := atS_some h34
 refine pq (q_ixS rfl rfl h34a h34 (el30.trans (congrArg some h34b.symm))) ?_
 refine pq (q_loadI (v := iO n35) rfl sz3 (map_get h34) rfl rfl) ?_
 by_cases c36 : n35 ≥ 0
 replace h := ifT c36 h
 refine pq (qb (p_geq_tZ c36)) ?_
 refine pq (qm bt) ?_
 refine pq (qm (.one (sF r3 s2))) ?_
 refine pq (qm (iO n30)) ?_
 refine pq (q_ixS rfl rfl h34a h34 (el30.trans (congrArg some h34b.symm))) ?_
 refine pq (q_loadI (v := iO n35) rfl sz3 (map_get h34) rfl rfl) ?_
 refine pq (qm (iO n1)) ?_
 by_cases c37 : n35 < n1
 replace h := ifT c37 h
 refine pq (qb (p_lss_tZ c37)) ?_
 refine pq (qpt bt) ?_
 refine pq (qm bt) ?_
 refine pq (qm (.one (sF r3 s2))) ?_
 refine pq (qm (iO n30)) ?_
 refine pq (q_ixS rfl rfl h34a h34 (el30.trans (congrArg some h34b.symm))) ?_
 refine pq (q_loadI (v := iO n35) rfl sz3 (map_get h34) rfl rfl) ?_
 by_cases c38 : n35 < 4096
 replace h := ifT c38 h
 refine pq (qb (p_lss_tZ c38)) ?_
 refine pq (qpt bt) ?_
 refine oE (eS (cT rfl (lO ?_)))
 refine pq (qm (.one (.own k31 0 (l29).length))) ?_
 refine pq (qm (.one (sF r3 s2))) ?_
 refine pq (qm (iO n30)) ?_
 refine pq (q_ixS rfl rfl h34a h34 (el30.trans (congrArg some h34b.symm))) ?_
 refine pq (q_loadI (v := iO n35) rfl sz3 (map_get h34) rfl rfl) ?_
 obtain ⟨s40, h39, h⟩ := bindS h
 refine ol_callM (r := r60) (l := s40) (args := [.one (.own k31 0 (l29).length), iO n35]) (ref03_Put_r (m + 0) h39) rfl rfl rfl rfl rfl rfl (vw_cons (vd_one (vc_own (r := r60) 0 rfl (fun x h m => rfl))) (vw_cons (vd_one vc_v) vw_nil)) rfl (fun k41 => ?_)
 refine pq (qa (.one (moC s40 k41))) ?_
 refine oE (bN (eS (lO ?_)))
 refine pq (qm (iO n30)) ?_
 refine pq (qb p_addY) ?_
 refine pq (qa (iO (IntKind.i64.wrap (n30 + 1)))) ?_
 refine oE ?_
 obtain ⟨_, h42, h⟩ := bindS h
 refine E_re 5 (v := .one (.own k41 0 (s40).length)) (Eq.trans (b := .one (moC s40 k41)) rfl (congrArg D.one (ne_moC h42).symm)) ?_
 refine E_reS 0 rfl (ne_moL h42).symm ?_
 obtain rfl := sj h
 exact E_next k41 (ups_self ⟨rfl, rfl, rfl, rfl, trivial⟩) [0] (by decide) rfl
 replace h := ifF c38 h
 refine pq (qb (p_lss_fZ c38)) ?_
 refine pq (qpt bf) ?_
 refine oE (eS (cF rfl (lK (bN (eS (lO ?_))))))
 refine pq (qm (iO n30)) ?_
 refine pq (qb p_addY) ?_
 refine pq (qa (iO (IntKind.i64.wrap (n30 + 1)))) ?_
 refine oE ?_
 obtain rfl := sj h
 exact E_next k31 (ups_self ⟨rfl, rfl, rfl, rfl, trivial⟩) [0] (by decide) rfl
 replace h := ifF c37 h
 refine pq (qb (p_lss_fZ c37)) ?_
 refine pq (qpt bf) ?_
 refine pq (qm bf) ?_
 iterate 5 refine os ?_
 refine pq (qpf bf) ?_
 refine oE (eS (cF rfl (lK (bN (eS (lO ?_))))))
 refine pq (qm (iO n30)) ?_
 refine pq (qb p_addY) ?_
 refine pq (qa (iO (IntKind.i64.wrap (n30 + 1)))) ?_
 refine oE ?_
 obtain rfl := sj h
 exact E_next k31 (ups_self ⟨rfl, rfl, rfl, rfl, trivial⟩) [0] (by decide) rfl
 replace h := ifF c36 h
 refine pq (qb (p_geq_fZ c36)) ?_
 refine pq (qm bf) ?_
 iterate 6 refine os ?_
 refine pq (qpf bf) ?_
 refine pq (qm bf) ?_
 iterate 5 refine os ?_
 refine pq (qpf bf) ?_
 refine oE (eS (cF rfl (lK (bN (eS (lO ?_))))))
 refine pq (qm (iO n30)) ?_
 refine pq (qb p_addY) ?_
 refine pq (qa (iO (IntKind.i64.wrap (n30 + 1)))) ?_
 refine oE ?_
 obtain rfl := sj h
 exact E_next k31 (ups_self ⟨rfl, rfl, rfl, rfl, trivial⟩) [0] (by decide) rfl
 replace h := ifF c32 h
 refine pq (qb (p_lss_fZ c32)) ?_
 refine oE (eS (cF rfl (L_exit ?_)))
 refine E_seqX ?_
 obtain rfl := sj h
 refine E_out ?_
 exact (E_exit k31 (ups_self ⟨rfl, trivial⟩) [0] (by decide) rfl)
 rintro (l43 | u) h
 refine J_x (fun k44 g => ?_)
 replace h := elimL h
 refine bH (eS (lS (lO ?_)))
 refine pq (qm (.one (.own k44 0 (l43).length))) ?_
 refine pq (qa (.one (.own k44 0 (l43).length))) ?_
 refine oE (eS (lR ?_))
 obtain rfl := sj h
 exact E_endO (r := r60) 0 (.inr rfl) (res_tmp rfl res_nil) rfl (fun x h m => rfl) (fun x => rfl)
 obtain rfl := Option.some.inj (elimR h)
 exact J_up (fun s hs => hs)
noncomputable def ref10_Of_b1 (s7 : Sl (Int × Int)) (a : List (Int) × Int × List (Int)) : Option ((List (Int) × Int × List (Int)) ⊕ ((List (Int) × List (Int)) ⊕ (Int × Sl (Int) × Sl (Int)))) :=
 match a with
 | (l58, n59, l60) => (if n59 < ((s7.l.length : Nat) : Int) then ((atS 2 s7 n59).bind fun (n66, n67) => ((app l58 ([n66] : List (Int))).bind fun _ => ((atL l60 n66).bind fun n77 => some (.inl ((l58 ++ ([n66] : List (Int))), (IntKind.i64.wrap (n59 + 1)), (l60.set n66.toNat n67)))))) else some (.inr (.inl (l58, l60))))
noncomputable def ref10_Of_b2 (s7 : Sl (Int × Int)) (a : List (Int) × Int × List (Int)) : Option ((List (Int) × Int × List (Int)) ⊕ ((List (Int) × List (Int)) ⊕ (Int × Sl (Int) × Sl (Int)))) :=
 match a with
 | (l133, n134, l135) => (if n134 < ((s7.l.length : Nat) : Int) then ((atS 2 s7 n134).bind fun (n141, n142) => ((app l133 ([n141] : List (Int))).bind fun _ => ((atL l135 n141).bind fun n152 => some (.inl ((l133 ++ ([n141] : List (Int))), (IntKind.i64.wrap (n134 + 1)), (l135.set n141.toNat n142)))))) else some (.inr (.inl (l133, l135))))
noncomputable def ref10_Of_b3 (s7 : Sl (Int × Int)) (a : List (Int) × Int × List (Int)) : Option ((List (Int) × Int × List (Int)) ⊕ ((List (Int) × List (Int)) ⊕ (Int × Sl (Int) × Sl (Int)))) :=
 match a with
 | (l207, n208, l209) => (if n208 < ((s7.l.length : Nat) : Int) then ((atS 2 s7 n208).bind fun (n215, n216) => ((app l207 ([n215] : List (Int))).bind fun _ => ((atL l209 n215).bind fun n226 => some (.inl ((l207 ++ ([n215] : List (Int))), (IntKind.i64.wrap (n208 + 1)), (l209.set n215.toNat n216)))))) else some (.inr (.inl (l207, l209))))
noncomputable def ref10_Of (a0 : Int × (Sl (Int × Int))) : Option ((Int × Sl (Int) × Sl (Int))) :=
 match a0 with
 | (n1, s2) => ((ref09_Sure (n1, s2)).bind fun (n6, s7) => (if n6 < 0 then ((ref03_New 0).bind fun s17 => ((lenOk 0).bind fun _ => ((loopO (ref10_Of_b1 s7) (([] : List (Int)), 0, (List.replicate (0 : Int).toNat (0 : Int)))).bind (Sum.elim (fun ⟨l78, l79⟩ => ((ref03_Of n6 (mo 1 l78)).bind fun s83 => some (0, (⟨true, 1, s83⟩ : Sl (Int)), (⟨true, 1, l79⟩ : Sl (Int))))) (fun u => some u))))) else (if n6 > 4096 then ((ref03_New 0).bind fun s92 => ((lenOk 0).bind fun _ => ((loopO (ref10_Of_b2 s7) (([] : List (Int)), 0, (List.replicate (0 : Int).toNat (0 : Int)))).bind (Sum.elim (fun ⟨l153, l154⟩ => ((ref03_Of n6 (mo 1 l153)).bind fun s158 => some (0, (⟨true, 1, s158⟩ : Sl (Int)), (⟨true, 1, l154⟩ : Sl (Int))))) (fun u => some u))))) else ((ref03_New n6).bind fun s166 => ((lenOk n6).bind fun _ => ((loopO (ref10_Of_b3 s7) (([] : List (Int)), 0, (List.replicate n6.toNat (0 : Int)))).bind (Sum.elim (fun ⟨l227, l228⟩ => ((ref03_Of n6 (mo 1 l227)).bind fun s232 => some (n6, (⟨true, 1, s232⟩ : Sl (Int)), (⟨true, 1, l228⟩ : Sl (Int))))) (fun u => some u))))))))
theorem ref10_Of_r (m : Nat) {a0 : Int × (Sl (Int × Int))} {out : (Int × Sl (Int) × Sl (Int))} (h : ref10_Of a0 = some out) : RunsP E1 (m + 4) 9 [.agg (r38 a0)] (.fresh, [.agg (r35 out)]) := by
 obtain ⟨n1, s2⟩ := a0
 refine fn_F rfl (by rw [E1_fn]; exact show fiOf Tryd.prog 9 = _ by unfold fiOf; rw [Tryd.func9]; unfold Tryd.f9; rfl) rfl ?_
 dsimp only
 unfold ref10_Of at h
 refine lS (lO ?_)
 refine ol_new rfl rfl rfl (q_box ty39 rfl (cs := [iI n1, sF r70 s2]) rfl rfl) (fun k3 => ?_)
 refine ol_new rfl rfl rfl (q_alloc ty36 (row := [iI 0, nC, nC]) rfl rfl) (fun k4 => ?_)
 refine oN ?_
 refine pq (ql (.agg [iI n1, sF r70 s2]) 1 sz39) ?_
 obtain ⟨⟨n6, s7⟩, h5, h⟩ := bindS h
 refine ol_putX rfl rfl rfl (q_callX (v := fun fr8 => .agg [iI n6, .p fr8 (Sl.t r70 s7)]) (args := [.agg [iI n1, sF r70 s2]]) (ref09_Sure_r (m + 1) h5) rfl rfl (vw_cons (vd_agg (vc_cons vc_v (vc_cons vc_s vc_nil))) vw_nil) rfl rfl (fun fr => rfl)) (fun fr8 => ?_)
 refine ow [[iI n6, .p fr8 (Sl.t r70 s7)]] 1 sz39 ?_
 refine oN ?_
 refine pq (q_fieldP rfl fa39_0 rfl) ?_
 refine pq (ql (iO n6) 1 sz3) ?_
 refine ol_scallN (args := [iO n6]) rfl rfl rfl ax25 (by rw [E1_fn]; exact show fiOf Tryd.prog 25 = _ by unfold fiOf; rw [Tryd.func25]; unfold Tryd.f25; rfl) rfl rfl rfl ?_
 dsimp only
 refine lS (lO ?_)
 refine ol_new rfl rfl rfl (q_alloc ty36 (row := [iI 0, nC, nC]) rfl rfl) (fun k9 => ?_)
 refine oE (eS (lS (lS (lO ?_))))
 refine pq (qm (iO n6)) ?_
 by_cases c10 : n6 < 0
 replace h := ifT c10 h
 refine pq (qb (p_lss_tZ c10)) ?_
 refine pq (qm bt) ?_
 iterate 2 refine os ?_
 refine pq (qpt bt) ?_
 refine oE (eS (cT rfl (lO ?_)))
 refine pq (qa (iO 0)) ?_
 refine oE (eS (lS ?_))
 refine L_norm (L2 := ([[(k9, 3, [[iI 0, nC, nC]])], [(k4, 3, [[iI 0, nC, nC]])], [(k3, 2, [[iI n6, .p fr8 (Sl.t r70 s7)]])]] : BL)) [0, 1, 2] (by decide) rfl ?_
 refine L_turn 7 rfl [[], [], [], [], [], [], [k9]] [(false, []), (false, []), (true, []), (false, []), (true, []), (false, []), (false, [])] [[1, 2, 3, 4], [0, 3, 4], [0, 3, 4], [0, 1, 2], [0, 1, 2], [], []] (by kernel_rfl) (by kernel_rfl) (by kernel_rfl) ?_ (fun bb11 hlt hnd => ?_)
 intro bb11 hlt hnd
 exact ⟨⟨djE, ⟨djE, ⟨djE, ⟨djE, ⟨djE, ⟨djE, ⟨djN, trivial⟩⟩⟩⟩⟩⟩⟩, (ltO_cons ltK_nil (ltO_cons ltK_nil (ltO_cons ltK_nil (ltO_cons ltK_nil (ltO_cons ltK_nil (ltO_cons ltK_nil (ltO_cons (ltK_cons (key_lt hlt 0 rfl) ltK_nil) ltO_nil)))))))⟩
 refine tq [] rfl hmn (qm (iO 0)) ?_
 refine tq [] rfl hmn (qm (iO 0)) ?_
 obtain ⟨s17, h16, h⟩ := bindS h
 refine tn_new rfl rfl rfl [] (by decide) rfl hmn rfl rfl (hkc (ne_new (key_lt hlt 0 rfl)) (hkc (ne_new (key_lt hlt 1 rfl)) (hkc (ne_new (key_lt hlt 2 rfl)) hkn))) (q_callO (args := [iO 0]) (ref03_New_r (m + 0) h16) rfl rfl (vw_cons (vd_one vc_v) vw_nil) rfl) ?_
 refine tq [] rfl hmn (qm (iO 0)) ?_
 obtain ⟨u18, h19, h⟩ := bindS h
 refine tn_new rfl rfl rfl [] (by decide) rfl hmn rfl rfl (hkc (ne_add rfl) (hkc (ne_new (key_lt hlt 0 rfl)) (hkc (ne_new (key_lt hlt 1 rfl)) (hkc (ne_new (key_lt hlt 2 rfl)) hkn)))) (q_mkslice (r := rowC r2) (a := (0 : Int)) ty31 rfl ty2 rfl rfl (lenOk_some h19).1 (lenOk_some h19).2 rfl rfl) ?_
 refine tq [] rfl (hm0 rfl) (q_build (cs := [iI 0, .own (bb11 + 2) 0 (s17).length, .own (bb11 + 4) 0 ((List.replicate (0 : Int).toNat (0 : Int))).length]) ty36 rfl pl36 rfl) ?_
 refine tn_wr rfl rfl [2] (by decide) rfl (hm0 rfl) rfl (q_store (es' := [[iI 0, .own (bb11 + 2) 0 (s17).length, .own (bb11 + 4) 0 ((List.replicate (0 : Int).toNat (0 : Int))).length]]) 0 rfl rfl rfl sz36 rfl rfl rfl rfl rfl) (q := 2) rfl rfl ?_
 refine tn_end (eS (lR ?_))
 refine E_call (v := .agg [iI 0, .own (bb11 + 2) 0 (s17).length, .own (bb11 + 4) 0 ((List.replicate (0 : Int).toNat (0 : Int))).length]) (.inr rfl) (res_cell (d := .agg [iI 0, .own (bb11 + 2) 0 (s17).length, .own (bb11 + 4) 0 ((List.replicate (0 : Int).toNat (0 : Int))).length]) 2 rfl sz36 rfl rfl rfl rfl res_nil) rfl ?_
 refine ol_new rfl rfl rfl (q_alloc ty36 (row := [iI 0, nC, nC]) rfl rfl) (fun k20 => ?_)
 refine ow [[iI 0, .own (bb11 + 2) 0 (s17).length, .own (bb11 + 4) 0 ((List.replicate (0 : Int).toNat (0 : Int))).length]] 0 sz36 ?_
 refine oN ?_
 refine pq (qa (.one nC)) ?_
 refine oE (eS (lS (lS (lO ?_))))
 refine pq (qa (iO 0)) ?_
 refine oE (eS (lB ?_))
 refine L_addM (α := Int) r3 1 ?_
 let S1 : (List (Int) × Int × List (Int)) → (Nat × Nat) → (Nat → D) → Nat → D := fun a kt g => ups g [(1, .one (.ptr k3 0 0)), (2, .one (.ptr k4 0 0)), (3, .one (.ptr k20 0 0)), (4, .one (moC a.1 kt.1)), (5, .one (iI a.2.1))]
 let SL1 : (List (Int) × Int × List (Int)) → (Nat × Nat) → BL := fun a kt => ([[(k3, 2, [[iI n6, .p fr8 (Sl.t r70 s7)]])], [(k4, 3, [[iI 0, nC, nC]])], [(k20, 3, [[iI 0, .own (bb11 + 2) 0 (s17).length, .own kt.2 0 (a.2.2).length]])], [((bb11 + 2), 1, (s17).map (rowC r60))], moL r3 1 a.1 kt.1, [(kt.2, 1, (a.2.2).map (rowC r2))]] : BL)
 let G1 : (Int × Sl (Int) × Sl (Int)) → Ex → St → Prop := fun u => endQ E1 [.cell 2 36] (.fresh, [.agg (r35 u)])
 let Sx1 : (List (Int) × List (Int)) → (Nat × Nat) → (Nat → D) → Nat → D := fun a kt g => ups g [(1, .one (.ptr k3 0 0)), (2, .one (.ptr k4 0 0)), (3, .one (.ptr k20 0 0)), (4, .one (moC a.1 kt.1))]
 let SLx1 : (List (Int) × List (Int)) → (Nat × Nat) → BL := fun a kt => ([[(k3, 2, [[iI n6, .p fr8 (Sl.t r70 s7)]])], [(k4, 3, [[iI 0, nC, nC]])], [(k20, 3, [[iI 0, .own (bb11 + 2) 0 (s17).length, .own kt.2 0 (a.2).length]])], [((bb11 + 2), 1, (s17).map (rowC r60))], moL r3 1 a.1 kt.1, [(kt.2, 1, (a.2).map (rowC r2))]] : BL)
 let J1 : ((List (Int) × List (Int)) ⊕ (Int × Sl (Int) × Sl (Int))) → Ex → St → Prop := JX 48 0 Sx1 SLx1 G1
 refine L_loopS (ref10_Of_b1 s7) S1 SL1 J1 JX_n (([] : List (Int)), 0, (List.replicate (0 : Int).toNat (0 : Int))) h (1056, (bb11 + 4)) (ups_self ⟨rfl, rfl, rfl, rfl, rfl, trivial⟩) [6, 5, 1, 3, 0, 2] (by decide) rfl ?_ ?_
 rintro ⟨l58, n59, l60⟩ ⟨k61, k62⟩ g out h
 change ref10_Of_b1 s7 (l58, n59, l60) = some out at h
 unfold ref10_Of_b1 at h
 refine lS (lS (lO ?_))
 refine pq (qm (iO n59)) ?_
 refine pq (q_fieldP rfl fa39_1 rfl) ?_
 refine pq (ql (.one (.p fr8 (Sl.t r70 s7))) 0 sz25) ?_
 refine pq (q_lenS rfl ty25 rfl rfl rfl rfl) ?_
 by_cases c63 : n59 < ((s7.l.length : Nat) : Int)
 replace h := ifT c63 h
 refine pq (qb (p_lss_tZ c63)) ?_
 refine oE (eS (cT rfl (lK (eS (lS (lB (lS (lO ?_))))))))
 refine pq (qm (.one (moC l58 k61))) ?_
 refine pq (q_fieldP rfl fa39_1 rfl) ?_
 refine pq (ql (.one (.p fr8 (Sl.t r70 s7))) 0 sz25) ?_
 refine pq (qm (iO n59)) ?_
 obtain ⟨⟨n66, n67⟩, h65, h⟩ := bindS h
 obtain ⟨h65a, h65b, h65⟩ := atS_some h65
 refine pq (q_ixS rfl rfl h65a h65 (el25.trans (congrArg some h65b.symm))) ?_
 refine pq (q_fieldI rfl fa71_0 rfl) ?_
 refine pq (q_loadI (v := iO n66) rfl sz3 (map_get h65) rfl rfl) ?_
 refine ol_new rfl rfl rfl (q_bslice (cs := [iI n66]) (es := (([n66] : List (Int))).map (rowC r3)) ty30 rfl ty3 rfl rfl rfl rfl rfl) (fun k68 => ?_)
 obtain ⟨_, h69, h⟩ := bindS h
 obtain ⟨h69b, rfl⟩ := app_some h69
 refine ol_appM (r := r3) (l := l58) (ys := ([n66] : List (Int))) 5 rfl rfl rfl rfl rfl rfl (el_ownM (l := ([n66] : List (Int))) 0 rfl) rfl h69 (fun y => rfl) el30 ty30 rfl rfl rfl rfl rfl (fun k70 => ?_)
 refine pq (qa (.one (moC (l58 ++ ([n66] : List (Int))) k70))) ?_
 refine oE (eS ?_)
 refine L_norm (L2 := ([moL r3 1 (l58 ++ ([n66] : List (Int))) k70, [(k3, 2, [[iI n6, .p fr8 (Sl.t r70 s7)]])], [(k4, 3, [[iI 0, nC, nC]])], [(k20, 3, [[iI 0, .own (bb11 + 2) 0 (s17).length, .own k62 0 (l60).length]])], [((bb11 + 2), 1, (s17).map (rowC r60))], [(k62, 1, (l60).map (rowC r2))]] : BL)) [0, 2, 3, 4, 5, 6] (by decide) rfl ?_
 refine L_turn 16 rfl [[], [], [], [], [], [], [], [], [], [], [], [], [], [], [], [k62]] [(false, []), (false, []), (false, []), (false, []), (false, []), (false, []), (false, []), (false, []), (false, []), (false, []), (false, []), (false, []), (false, []), (false, []), (false, []), (false, [])] [[2, 3, 4, 5, 6, 7, 8, 9, 10, 11, 12, 13], [2, 3, 4, 5, 6, 7, 8, 9, 10, 11, 12, 13], [0, 1, 4, 8, 9, 10, 11, 12, 13], [0, 1, 4, 8, 9, 10, 11, 12, 13], [0, 1, 2, 3, 8, 9, 10, 11, 12, 13], [0, 1, 8, 9, 10, 11, 12, 13], [0, 1, 8, 9, 10, 11, 12, 13], [0, 1, 8, 9, 10, 11, 12, 13], [0, 1, 2, 3, 4, 5, 6, 7, 10], [0, 1, 2, 3, 4, 5, 6, 7, 10], [0, 1, 2, 3, 4, 5, 6, 7, 8, 9], [0, 1, 2, 3, 4, 5, 6, 7], [0, 1, 2, 3, 4, 5, 6, 7], [0, 1, 2, 3, 4, 5, 6, 7], [], []] (by kernel_rfl) (by kernel_rfl) (by kernel_rfl) ?_ (fun bb71 hlt hnd => ?_)
 intro bb71 hlt hnd
 exact ⟨⟨djE, ⟨djE, ⟨djE, ⟨djE, ⟨djE, ⟨djE, ⟨djE, ⟨djE, ⟨djE, ⟨djE, ⟨djE, ⟨djE, ⟨djE, ⟨djE, ⟨djE, ⟨djN, trivial⟩⟩⟩⟩⟩⟩⟩⟩⟩⟩⟩⟩⟩⟩⟩⟩, (ltO_cons ltK_nil (ltO_cons ltK_nil (ltO_cons ltK_nil (ltO_cons ltK_nil (ltO_cons ltK_nil (ltO_cons ltK_nil (ltO_cons ltK_nil (ltO_cons ltK_nil (ltO_cons ltK_nil (ltO_cons ltK_nil (ltO_cons ltK_nil (ltO_cons ltK_nil (ltO_cons ltK_nil (ltO_cons ltK_nil (ltO_cons ltK_nil (ltO_cons (ltK_cons (key_lt hlt 5 rfl) ltK_nil) ltO_nil))))))))))))))))⟩
 have e_k70 : (l58 ++ ([n66] : List (Int))) = [] ∨ k70 < bb71 := key_ltM (r := r3) (w := 1) hlt 0 rfl
 refine tq [] rfl (hm0 rfl) (q_fieldP rfl fa36_2 rfl) ?_
 refine tq [3] rfl (hm0 rfl) (ql (.one (.own k62 0 (l60).length)) 0 sz31) ?_
 refine tq [] rfl (hm0 rfl) (q_fieldP rfl fa39_1 rfl) ?_
 refine tq [1] rfl (hm0 rfl) (ql (.one (.p fr8 (Sl.t r70 s7))) 0 sz25) ?_
 refine tq [] rfl (hm0 rfl) (qm (iO n59)) ?_
 refine tq [] rfl (hm0 rfl) (q_ixS rfl rfl h65a h65 (el25.trans (congrArg some h65b.symm))) ?_
 refine tq [] rfl (hm0 rfl) (q_fieldI rfl fa71_0 rfl) ?_
 refine tq [] rfl (hm0 rfl) (q_loadI (v := iO n66) rfl sz3 (map_get h65) rfl rfl) ?_
 refine tq [] rfl (hm0 rfl) (q_fieldP rfl fa39_1 rfl) ?_
 refine tq [1] rfl (hm0 rfl) (ql (.one (.p fr8 (Sl.t r70 s7))) 0 sz25) ?_
 refine tq [] rfl (hm0 rfl) (qm (iO n59)) ?_
 refine tq [] rfl (hm0 rfl) (q_ixS rfl rfl h65a h65 (el25.trans (congrArg some h65b.symm))) ?_
 refine tq [] rfl (hm0 rfl) (q_fieldI rfl fa71_1 rfl) ?_
 refine tq [] rfl (hm0 rfl) (q_loadI (v := iO n67) rfl sz2 (map_get h65) rfl rfl) ?_
 obtain ⟨n77, h76, h⟩ := bindS h
 obtain ⟨h76a, h76⟩ := atL_some h76
 refine tq [5] rfl (hm0 rfl) (q_ixO 0 rfl rfl h76a h76 rfl el31) ?_
 refine tn_wr rfl rfl [5] (by decide) rfl (hm0 rfl) rfl (q_store (e' := rowC r2 n67) (es' := ((l60.set n66.toNat n67)).map (rowC r2)) 0 rfl rfl rfl sz2 rfl rfl (map_get h76) rfl map_set) (q := 5) rfl rfl ?_
 refine tn_re 28 (v := .one (.own k62 0 ((l60.set n66.toNat n67)).length)) (Eq.trans (b := .one (.own k62 0 (l60).length)) rfl (congrArg D.one own_setC)) ?_
 refine tn_reS 3 (s' := [(k20, 3, [[iI 0, .own (bb11 + 2) 0 (s17).length, .own k62 0 ((l60.set n66.toNat n67)).length]])]) rfl (congrArg (fun z => ([(k20, 3, [[iI 0, .own (bb11 + 2) 0 (s17).length, z]])] : List B1)) own_setC) ?_
 refine tn_end (bN (eS (lO ?_)))
 refine pq (qm (iO n59)) ?_
 refine pq (qb p_addY) ?_
 refine pq (qa (iO (IntKind.i64.wrap (n59 + 1)))) ?_
 refine oE ?_
 obtain rfl := sj h
 exact E_next (k70, k62) (ups_self ⟨rfl, rfl, rfl, rfl, rfl, trivial⟩) [1, 2, 3, 4, 0, 5] (by decide) rfl
 replace h := ifF c63 h
 refine pq (qb (p_lss_fZ c63)) ?_
 refine oE (eS (cF rfl (L_exit ?_)))
 refine E_seqX ?_
 obtain rfl := sj h
 refine E_out ?_
 exact (E_exit (k61, k62) (ups_self ⟨rfl, rfl, rfl, rfl, trivial⟩) [0, 1, 2, 3, 4, 5] (by decide) rfl)
 rintro (⟨l78, l79⟩ | u) h
 refine J_x (fun kt g => ?_)
 rcases kt with ⟨k80, k81⟩
 replace h := elimL h
 refine bH (eS (lS (lO ?_)))
 refine pq (q_fieldP rfl fa39_0 rfl) ?_
 refine pq (ql (iO n6) 0 sz3) ?_
 refine pq (qm (.one (moC l78 k80))) ?_
 obtain ⟨s83, h82, h⟩ := bindS h
 refine ol_new rfl rfl rfl (q_callO (args := [iO n6, .one (moC l78 k80)]) (ref03_Of_r (m + 0) h82) rfl rfl (vw_cons (vd_one vc_v) (vw_cons (vd_one (vc_M (r := r3) 4 rfl (fun x h m => rfl))) vw_nil)) rfl) (fun k84 => ?_)
 refine pq (q_fieldP rfl fa36_1 rfl) ?_
 refine ow [[iI 0, .own k84 0 (s83).length, .own k81 0 (l79).length]] 3 sz26 ?_
 refine oN ?_
 refine pq (ql (.agg [iI 0, .own k84 0 (s83).length, .own k81 0 (l79).length]) 3 sz36) ?_
 refine ow [[iI 0, .own k84 0 (s83).length, .own k81 0 (l79).length]] 2 sz36 ?_
 refine oE (eS (lR ?_))
 obtain rfl := sj h
 exact E_endF (.inr rfl) (res_cell (d := .agg [iI 0, .own k84 0 (s83).length, .own k81 0 (l79).length]) 2 rfl sz36 rfl rfl rfl rfl res_nil) (vw_cons (vd_agg (vc_cons vc_v (vc_cons (vc_own (r := r60) 0 rfl (fun x h m => rfl)) (vc_cons (vc_own (r := r2) 6 rfl (fun x h m => rfl)) vc_nil)))) vw_nil) oG rfl rfl
 obtain rfl := Option.some.inj (elimR h)
 exact J_up (fun s hs => hs)
 replace h := ifF c10 h
 refine pq (qb (p_lss_fZ c10)) ?_
 refine pq (qm bf) ?_
 refine pq (qm (iO n6)) ?_
 by_cases c85 : n6 > 4096
 replace h := ifT c85 h
 refine pq (qb (p_gtr_tZ c85)) ?_
 refine pq (qpf bt) ?_
 refine oE (eS (cT rfl (lO ?_)))
 refine pq (qa (iO 0)) ?_
 refine oE (eS (lS ?_))
 refine L_norm (L2 := ([[(k9, 3, [[iI 0, nC, nC]])], [(k4, 3, [[iI 0, nC, nC]])], [(k3, 2, [[iI n6, .p fr8 (Sl.t r70 s7)]])]] : BL)) [0, 1, 2] (by decide) rfl ?_
 refine L_turn 7 rfl [[], [], [], [], [], [], [k9]] [(false, []), (false, []), (true, []), (false, []), (true, []), (false, []), (false, [])] [[1, 2, 3, 4], [0, 3, 4], [0, 3, 4], [0, 1, 2], [0, 1, 2], [], []] (by kernel_rfl) (by kernel_rfl) (by kernel_rfl) ?_ (fun bb86 hlt hnd => ?_)
 intro bb86 hlt hnd
 exact ⟨⟨djE, ⟨djE, ⟨djE, ⟨djE, ⟨djE, ⟨djE, ⟨djN, trivial⟩⟩⟩⟩⟩⟩⟩, (ltO_cons ltK_nil (ltO_cons ltK_nil (ltO_cons ltK_nil (ltO_cons ltK_nil (ltO_cons ltK_nil (ltO_cons ltK_nil (ltO_cons (ltK_cons (key_lt hlt 0 rfl) ltK_nil) ltO_nil)))))))⟩
 refine tq [] rfl hmn (qm (iO 0)) ?_
 refine tq [] rfl hmn (qm (iO 0)) ?_
 obtain ⟨s92, h91, h⟩ := bindS h
 refine tn_new rfl rfl rfl [] (by decide) rfl hmn rfl rfl (hkc (ne_new (key_lt hlt 0 rfl)) (hkc (ne_new (key_lt hlt 1 rfl)) (hkc (ne_new (key_lt hlt 2 rfl)) hkn))) (q_callO (args := [iO 0]) (ref03_New_r (m + 0) h91) rfl rfl (vw_cons (vd_one vc_v) vw_nil) rfl) ?_
 refine tq [] rfl hmn (qm (iO 0)) ?_
 obtain ⟨u93, h94, h⟩ := bindS h
 refine tn_new rfl rfl rfl [] (by decide) rfl hmn rfl rfl (hkc (ne_add rfl) (hkc (ne_new (key_lt hlt 0 rfl)) (hkc (ne_new (key_lt hlt 1 rfl)) (hkc (ne_new (key_lt hlt 2 rfl)) hkn)))) (q_mkslice (r := rowC r2) (a := (0 : Int)) ty31 rfl ty2 rfl rfl (lenOk_some h94).1 (lenOk_some h94).2 rfl rfl) ?_
 refine tq [] rfl (hm0 rfl) (q_build (cs := [iI 0, .own (bb86 + 2) 0 (s92).length, .own (bb86 + 4) 0 ((List.replicate (0 : Int).toNat (0 : Int))).length]) ty36 rfl pl36 rfl) ?_
 refine tn_wr rfl rfl [2] (by decide) rfl (hm0 rfl) rfl (q_store (es' := [[iI 0, .own (bb86 + 2) 0 (s92).length, .own (bb86 + 4) 0 ((List.replicate (0 : Int).toNat (0 : Int))).length]]) 0 rfl rfl rfl sz36 rfl rfl rfl rfl rfl) (q := 2) rfl rfl ?_
 refine tn_end (eS (lR ?_))
 refine E_call (v := .agg [iI 0, .own (bb86 + 2) 0 (s92).length, .own (bb86 + 4) 0 ((List.replicate (0 : Int).toNat (0 : Int))).length]) (.inr rfl) (res_cell (d := .agg [iI 0, .own (bb86 + 2) 0 (s92).length, .own (bb86 + 4) 0 ((List.replicate (0 : Int).toNat (0 : Int))).length]) 2 rfl sz36 rfl rfl rfl rfl res_nil) rfl ?_
 refine ol_new rfl rfl rfl (q_alloc ty36 (row := [iI 0, nC, nC]) rfl rfl) (fun k95 => ?_)
 refine ow [[iI 0, .own (bb86 + 2) 0 (s92).length, .own (bb86 + 4) 0 ((List.replicate (0 : Int).toNat (0 : Int))).length]] 0 sz36 ?_
 refine oN ?_
 refine pq (qa (.one nC)) ?_
 refine oE (eS (lS (lS (lO ?_))))
 refine pq (qa (iO 0)) ?_
 refine oE (eS (lB ?_))
 refine L_addM (α := Int) r3 1 ?_
 let S2 : (List (Int) × Int × List (Int)) → (Nat × Nat) → (Nat → D) → Nat → D := fun a kt g => ups g [(1, .one (.ptr k3 0 0)), (2, .one (.ptr k4 0 0)), (3, .one (.ptr k95 0 0)), (4, .one (moC a.1 kt.1)), (5, .one (iI a.2.1))]
 let SL2 : (List (Int) × Int × List (Int)) → (Nat × Nat) → BL := fun a kt => ([[(k3, 2, [[iI n6, .p fr8 (Sl.t r70 s7)]])], [(k4, 3, [[iI 0, nC, nC]])], [(k95, 3, [[iI 0, .own (bb86 + 2) 0 (s92).length, .own kt.2 0 (a.2.2).length]])], [((bb86 + 2), 1, (s92).map (rowC r60))], moL r3 1 a.1 kt.1, [(kt.2, 1, (a.2.2).map (rowC r2))]] : BL)
 let G2 : (Int × Sl (Int) × Sl (Int)) → Ex → St → Prop := fun u => endQ E1 [.cell 2 36] (.fresh, [.agg (r35 u)])
 let Sx2 : (List (Int) × List (Int)) → (Nat × Nat) → (Nat → D) → Nat → D := fun a kt g => ups g [(1, .one (.ptr k3 0 0)), (2, .one (.ptr k4 0 0)), (3, .one (.ptr k95 0 0)), (4, .one (moC a.1 kt.1))]
 let SLx2 : (List (Int) × List (Int)) → (Nat × Nat) → BL := fun a kt => ([[(k3, 2, [[iI n6, .p fr8 (Sl.t r70 s7)]])], [(k4, 3, [[iI 0, nC, nC]])], [(k95, 3, [[iI 0, .own (bb86 + 2) 0 (s92).length, .own kt.2 0 (a.2).length]])], [((bb86 + 2), 1, (s92).map (rowC r60))], moL r3 1 a.1 kt.1, [(kt.2, 1, (a.2).map (rowC r2))]] : BL)
 let J2 : ((List (Int) × List (Int)) ⊕ (Int × Sl (Int) × Sl (Int))) → Ex → St → Prop := JX 48 0 Sx2 SLx2 G2
 refine L_loopS (ref10_Of_b2 s7) S2 SL2 J2 JX_n (([] : List (Int)), 0, (List.replicate (0 : Int).toNat (0 : Int))) h (1131, (bb86 + 4)) (ups_self ⟨rfl, rfl, rfl, rfl, rfl, trivial⟩) [6, 5, 1, 3, 0, 2] (by decide) rfl ?_ ?_
 rintro ⟨l133, n134, l135⟩ ⟨k136, k137⟩ g out h
 change ref10_Of_b2 s7 (l133, n134, l135) = some out at h
 unfold ref10_Of_b2 at h
 refine lS (lS (lO ?_))
 refine pq (qm (iO n134)) ?_
 refine pq (q_fieldP rfl fa39_1 rfl) ?_
 refine pq (ql (.one (.p fr8 (Sl.t r70 s7))) 0 sz25) ?_
 refine pq (q_lenS rfl ty25 rfl rfl rfl rfl) ?_
 by_cases c138 : n134 < ((s7.l.length : Nat) : Int)
 replace h := ifT c138 h
 refine pq (qb (p_lss_tZ c138)) ?_
 refine oE (eS (cT rfl (lK (eS (lS (lB (lS (lO ?_))))))))
 refine pq (qm (.one (moC l133 k136))) ?_
 refine pq (q_fieldP rfl fa39_1 rfl) ?_
 refine pq (ql (.one (.p fr8 (Sl.t r70 s7))) 0 sz25) ?_
 refine pq (qm (iO n134)) ?_
 obtain ⟨⟨n141, n142⟩, h140, h⟩ := bindS h
 obtain ⟨h140a, h140b, h140⟩ := atS_some h140
 refine pq (q_ixS rfl rfl h140a h140 (el25.trans (congrArg some h140b.symm))) ?_
 refine pq (q_fieldI rfl fa71_0 rfl) ?_
 refine pq (q_loadI (v := iO n141) rfl sz3 (map_get h140) rfl rfl) ?_
 refine ol_new rfl rfl rfl (q_bslice (cs := [iI n141]) (es := (([n141] : List (Int))).map (rowC r3)) ty30 rfl ty3 rfl rfl rfl rfl rfl) (fun k143 => ?_)
 obtain ⟨_, h144, h⟩ := bindS h
 obtain ⟨h144b, rfl⟩ := app_some h144
 refine ol_appM (r := r3) (l := l133) (ys := ([n141] : List (Int))) 5 rfl rfl rfl rfl rfl rfl (el_ownM (l := ([n141] : List (Int))) 0 rfl) rfl h144 (fun y => rfl) el30 ty30 rfl rfl rfl rfl rfl (fun k145 => ?_)
 refine pq (qa (.one (moC (l133 ++ ([n141] : List (Int))) k145))) ?_
 refine oE (eS ?_)
 refine L_norm (L2 := ([moL r3 1 (l133 ++ ([n141] : List (Int))) k145, [(k3, 2, [[iI n6, .p fr8 (Sl.t r70 s7)]])], [(k4, 3, [[iI 0, nC, nC]])], [(k95, 3, [[iI 0, .own (bb86 + 2) 0 (s92).length, .own k137 0 (l135).length]])], [((bb86 + 2), 1, (s92).map (rowC r60))], [(k137, 1, (l135).map (rowC r2))]] : BL)) [0, 2, 3, 4, 5, 6] (by decide) rfl ?_
 refine L_turn 16 rfl [[], [], [], [], [], [], [], [], [], [], [], [], [], [], [], [k137]] [(false, []), (false, []), (false, []), (false, []), (false, []), (false, []), (false, []), (false, []), (false, []), (false, []), (false, []), (false, []), (false, []), (false, []), (false, []), (false, [])] [[2, 3, 4, 5, 6, 7, 8, 9, 10, 11, 12, 13], [2, 3, 4, 5, 6, 7, 8, 9, 10, 11, 12, 13], [0, 1, 4, 8, 9, 10, 11, 12, 13], [0, 1, 4, 8, 9, 10, 11, 12, 13], [0, 1, 2, 3, 8, 9, 10, 11, 12, 13], [0, 1, 8, 9, 10, 11, 12, 13], [0, 1, 8, 9, 10, 11, 12, 13], [0, 1, 8, 9, 10, 11, 12, 13], [0, 1, 2, 3, 4, 5, 6, 7, 10], [0, 1, 2, 3, 4, 5, 6, 7, 10], [0, 1, 2, 3, 4, 5, 6, 7, 8, 9], [0, 1, 2, 3, 4, 5, 6, 7], [0, 1, 2, 3, 4, 5, 6, 7], [0, 1, 2, 3, 4, 5, 6, 7], [], []] (by kernel_rfl) (by kernel_rfl) (by kernel_rfl) ?_ (fun bb146 hlt hnd => ?_)
 intro bb146 hlt hnd
 exact ⟨⟨djE, ⟨djE, ⟨djE, ⟨djE, ⟨djE, ⟨djE, ⟨djE, ⟨djE, ⟨djE, ⟨djE, ⟨djE, ⟨djE, ⟨djE, ⟨djE, ⟨djE, ⟨djN, trivial⟩⟩⟩⟩⟩⟩⟩⟩⟩⟩⟩⟩⟩⟩⟩⟩, (ltO_cons ltK_nil (ltO_cons ltK_nil (ltO_cons ltK_nil (ltO_cons ltK_nil (ltO_cons ltK_nil (ltO_cons ltK_nil (ltO_cons ltK_nil (ltO_cons ltK_nil (ltO_cons ltK_nil (ltO_cons ltK_nil (ltO_cons ltK_nil (ltO_cons ltK_nil (ltO_cons ltK_nil (ltO_cons ltK_nil (ltO_cons ltK_nil (ltO_cons (ltK_cons (key_lt hlt 5 rfl) ltK_nil) ltO_nil))))))))))))))))⟩
 have e_k145 : (l133 ++ ([n141] : List (Int))) = [] ∨ k145 < bb146 := key_ltM (r := r3) (w := 1) hlt 0 rfl
 refine tq [] rfl (hm0 rfl) (q_fieldP rfl fa36_2 rfl) ?_
 refine tq [3] rfl (hm0 rfl) (ql (.one (.own k137 0 (l135).length)) 0 sz31) ?_
 refine tq [] rfl (hm0 rfl) (q_fieldP rfl fa39_1 rfl) ?_
 refine tq [1] rfl (hm0 rfl) (ql (.one (.p fr8 (Sl.t r70 s7))) 0 sz25) ?_
 refine tq [] rfl (hm0 rfl) (qm (iO n134)) ?_
 refine tq [] rfl (hm0 rfl) (q_ixS rfl rfl h140a h140 (el25.trans (congrArg some h140b.symm))) ?_
 refine tq [] rfl (hm0 rfl) (q_fieldI rfl fa71_0 rfl) ?_
 refine tq [] rfl (hm0 rfl) (q_loadI (v := iO n141) rfl sz3 (map_get h140) rfl rfl) ?_
 refine tq [] rfl (hm0 rfl) (q_fieldP rfl fa39_1 rfl) ?_
 refine tq [1] rfl (hm0 rfl) (ql (.one (.p fr8 (Sl.t r70 s7))) 0 sz25) ?_
 refine tq [] rfl (hm0 rfl) (qm (iO n134)) ?_
 refine tq [] rfl (hm0 rfl) (q_ixS rfl rfl h140a h140 (el25.trans (congrArg some h140b.symm))) ?_
 refine tq [] rfl (hm0 rfl) (q_fieldI rfl fa71_1 rfl) ?_
 refine tq [] rfl (hm0 rfl) (q_loadI (v := iO n142) rfl sz2 (map_get h140) rfl rfl) ?_
 obtain ⟨n152, h151, h⟩ := bindS h
 obtain ⟨h151a, h151⟩ := atL_some h151
 refine tq [5] rfl (hm0 rfl) (q_ixO 0 rfl rfl h151a h151 rfl el31) ?_
 refine tn_wr rfl rfl [5] (by decide) rfl (hm0 rfl) rfl (q_store (e' := rowC r2 n142) (es' := ((l135.set n141.toNat n142)).map (rowC r2)) 0 rfl rfl rfl sz2 rfl rfl (map_get h151) rfl map_set) (q := 5) rfl rfl ?_
 refine tn_re 28 (v := .one (.own k137 0 ((l135.set n141.toNat n142)).length)) (Eq.trans (b := .one (.own k137 0 (l135).length)) rfl (congrArg D.one own_setC)) ?_
 refine tn_reS 3 (s' := [(k95, 3, [[iI 0, .own (bb86 + 2) 0 (s92).length, .own k137 0 ((l135.set n141.toNat n142)).length]])]) rfl (congrArg (fun z => ([(k95, 3, [[iI 0, .own (bb86 + 2) 0 (s92).length, z]])] : List B1)) own_setC) ?_
 refine tn_end (bN (eS (lO ?_)))
 refine pq (qm (iO n134)) ?_
 refine pq (qb p_addY) ?_
 refine pq (qa (iO (IntKind.i64.wrap (n134 + 1)))) ?_
 refine oE ?_
 obtain rfl := sj h
 exact E_next (k145, k137) (ups_self ⟨rfl, rfl, rfl, rfl, rfl, trivial⟩) [1, 2, 3, 4, 0, 5] (by decide) rfl
 replace h := ifF c138 h
 refine pq (qb (p_lss_fZ c138)) ?_
 refine oE (eS (cF rfl (L_exit ?_)))
 refine E_seqX ?_
 obtain rfl := sj h
 refine E_out ?_
 exact (E_exit (k136, k137) (ups_self ⟨rfl, rfl, rfl, rfl, trivial⟩) [0, 1, 2, 3, 4, 5] (by decide) rfl)
 rintro (⟨l153, l154⟩ | u) h
 refine J_x (fun kt g => ?_)
 rcases kt with ⟨k155, k156⟩
 replace h := elimL h
 refine bH (eS (lS (lO ?_)))
 refine pq (q_fieldP rfl fa39_0 rfl) ?_
 refine pq (ql (iO n6) 0 sz3) ?_
 refine pq (qm (.one (moC l153 k155))) ?_
 obtain ⟨s158, h157, h⟩ := bindS h
 refine ol_new rfl rfl rfl (q_callO (args := [iO n6, .one (moC l153 k155)]) (ref03_Of_r (m + 0) h157) rfl rfl (vw_cons (vd_one vc_v) (vw_cons (vd_one (vc_M (r := r3) 4 rfl (fun x h m => rfl))) vw_nil)) rfl) (fun k159 => ?_)
 refine pq (q_fieldP rfl fa36_1 rfl) ?_
 refine ow [[iI 0, .own k159 0 (s158).length, .own k156 0 (l154).length]] 3 sz26 ?_
 refine oN ?_
 refine pq (ql (.agg [iI 0, .own k159 0 (s158).length, .own k156 0 (l154).length]) 3 sz36) ?_
 refine ow [[iI 0, .own k159 0 (s158).length, .own k156 0 (l154).length]] 2 sz36 ?_
 refine oE (eS (lR ?_))
 obtain rfl := sj h
 exact E_endF (.inr rfl) (res_cell (d := .agg [iI 0, .own k159 0 (s158).length, .own k156 0 (l154).length]) 2 rfl sz36 rfl rfl rfl rfl res_nil) (vw_cons (vd_agg (vc_cons vc_v (vc_cons (vc_own (r := r60) 0 rfl (fun x h m => rfl)) (vc_cons (vc_own (r := r2) 6 rfl (fun x h m => rfl)) vc_nil)))) vw_nil) oG rfl rfl
 obtain rfl := Option.some.inj (elimR h)
 exact J_up (fun s hs => hs)
 replace h := ifF c85 h
 refine pq (qb (p_gtr_fZ c85)) ?_
 refine pq (qpf bf) ?_
 refine oE (eS (cF rfl (lK (eS (lS ?_)))))
 refine L_norm (L2 := ([[(k9, 3, [[iI 0, nC, nC]])], [(k4, 3, [[iI 0, nC, nC]])], [(k3, 2, [[iI n6, .p fr8 (Sl.t r70 s7)]])]] : BL)) [0, 1, 2] (by decide) rfl ?_
 refine L_turn 7 rfl [[], [], [], [], [], [], [k9]] [(false, []), (false, []), (true, []), (false, []), (true, []), (false, []), (false, [])] [[1, 2, 3, 4], [0, 3, 4], [0, 3, 4], [0, 1, 2], [0, 1, 2], [], []] (by kernel_rfl) (by kernel_rfl) (by kernel_rfl) ?_ (fun bb160 hlt hnd => ?_)
 intro bb160 hlt hnd
 exact ⟨⟨djE, ⟨djE, ⟨djE, ⟨djE, ⟨djE, ⟨djE, ⟨djN, trivial⟩⟩⟩⟩⟩⟩⟩, (ltO_cons ltK_nil (ltO_cons ltK_nil (ltO_cons ltK_nil (ltO_cons ltK_nil (ltO_cons ltK_nil (ltO_cons ltK_nil (ltO_cons (ltK_cons (key_lt hlt 0 rfl) ltK_nil) ltO_nil)))))))⟩
 refine tq [] rfl hmn (qm (iO n6)) ?_
 refine tq [] rfl hmn (qm (iO n6)) ?_
 obtain ⟨s166, h165, h⟩ := bindS h
 refine tn_new rfl rfl rfl [] (by decide) rfl hmn rfl rfl (hkc (ne_new (key_lt hlt 0 rfl)) (hkc (ne_new (key_lt hlt 1 rfl)) (hkc (ne_new (key_lt hlt 2 rfl)) hkn))) (q_callO (args := [iO n6]) (ref03_New_r (m + 0) h165) rfl rfl (vw_cons (vd_one vc_v) vw_nil) rfl) ?_
 refine tq [] rfl hmn (qm (iO n6)) ?_
 obtain ⟨u167, h168, h⟩ := bindS h
 refine tn_new rfl rfl rfl [] (by decide) rfl hmn rfl rfl (hkc (ne_add rfl) (hkc (ne_new (key_lt hlt 0 rfl)) (hkc (ne_new (key_lt hlt 1 rfl)) (hkc (ne_new (key_lt hlt 2 rfl)) hkn)))) (q_mkslice (r := rowC r2) (a := (0 : Int)) ty31 rfl ty2 rfl rfl (lenOk_some h168).1 (lenOk_some h168).2 rfl rfl) ?_
 refine tq [] rfl (hm0 rfl) (q_build (cs := [iI n6, .own (bb160 + 2) 0 (s166).length, .own (bb160 + 4) 0 ((List.replicate n6.toNat (0 : Int))).length]) ty36 rfl pl36 rfl) ?_
 refine tn_wr rfl rfl [2] (by decide) rfl (hm0 rfl) rfl (q_store (es' := [[iI n6, .own (bb160 + 2) 0 (s166).length, .own (bb160 + 4) 0 ((List.replicate n6.toNat (0 : Int))).length]]) 0 rfl rfl rfl sz36 rfl rfl rfl rfl rfl) (q := 2) rfl rfl ?_
 refine tn_end (eS (lR ?_))
 refine E_call (v := .agg [iI n6, .own (bb160 + 2) 0 (s166).length, .own (bb160 + 4) 0 ((List.replicate n6.toNat (0 : Int))).length]) (.inr rfl) (res_cell (d := .agg [iI n6, .own (bb160 + 2) 0 (s166).length, .own (bb160 + 4) 0 ((List.replicate n6.toNat (0 : Int))).length]) 2 rfl sz36 rfl rfl rfl rfl res_nil) rfl ?_
 refine ol_new rfl rfl rfl (q_alloc ty36 (row := [iI 0, nC, nC]) rfl rfl) (fun k169 => ?_)
 refine ow [[iI n6, .own (bb160 + 2) 0 (s166).length, .own (bb160 + 4) 0 ((List.replicate n6.toNat (0 : Int))).length]] 0 sz36 ?_
 refine oN ?_
 refine pq (qa (.one nC)) ?_
 refine oE (eS (lS (lS (lO ?_))))
 refine pq (qa (iO 0)) ?_
 refine oE (eS (lB ?_))
 refine L_addM (α := Int) r3 1 ?_
 let S3 : (List (Int) × Int × List (Int)) → (Nat × Nat) → (Nat → D) → Nat → D := fun a kt g => ups g [(1, .one (.ptr k3 0 0)), (2, .one (.ptr k4 0 0)), (3, .one (.ptr k169 0 0)), (4, .one (moC a.1 kt.1)), (5, .one (iI a.2.1))]
 let SL3 : (List (Int) × Int × List (Int)) → (Nat × Nat) → BL := fun a kt => ([[(k3, 2, [[iI n6, .p fr8 (Sl.t r70 s7)]])], [(k4, 3, [[iI 0, nC, nC]])], [(k169, 3, [[iI n6, .own (bb160 + 2) 0 (s166).length, .own kt.2 0 (a.2.2).length]])], [((bb160 + 2), 1, (s166).map (rowC r60))], moL r3 1 a.1 kt.1, [(kt.2, 1, (a.2.2).map (rowC r2))]] : BL)
 let G3 : (Int × Sl (Int) × Sl (Int)) → Ex → St → Prop := fun u => endQ E1 [.cell 2 36] (.fresh, [.agg (r35 u)])
 let Sx3 : (List (Int) × List (Int)) → (Nat × Nat) → (Nat → D) → Nat → D := fun a kt g => ups g [(1, .one (.ptr k3 0 0)), (2, .one (.ptr k4 0 0)), (3, .one (.ptr k169 0 0)), (4, .one (moC a.1 kt.1))]
 let SLx3 : (List (Int) × List (Int)) → (Nat × Nat) → BL := fun a kt => ([[(k3, 2, [[iI n6, .p fr8 (Sl.t r70 s7)]])], [(k4, 3, [[iI 0, nC, nC]])], [(k169, 3, [[iI n6, .own (bb160 + 2) 0 (s166).length, .own kt.2 0 (a.2).length]])], [((bb160 + 2), 1, (s166).map (rowC r60))], moL r3 1 a.1 kt.1, [(kt.2, 1, (a.2).map (rowC r2))]] : BL)
 let J3 : ((List (Int) × List (Int)) ⊕ (Int × Sl (Int) × Sl (Int))) → Ex → St → Prop := JX 48 0 Sx3 SLx3 G3
 refine L_loopS (ref10_Of_b3 s7) S3 SL3 J3 JX_n (([] : List (Int)), 0, (List.replicate n6.toNat (0 : Int))) h (1205, (bb160 + 4)) (ups_self ⟨rfl, rfl, rfl, rfl, rfl, trivial⟩) [6, 5, 1, 3, 0, 2] (by decide) rfl ?_ ?_
 rintro ⟨l207, n208, l209⟩ ⟨k210, k211⟩ g out h
 change ref10_Of_b3 s7 (l207, n208, l209) = some out at h
 unfold ref10_Of_b3 at h
 refine lS (lS (lO ?_))
 refine pq (qm (iO n208)) ?_
 refine pq (q_fieldP rfl fa39_1 rfl) ?_
 refine pq (ql (.one (.p fr8 (Sl.t r70 s7))) 0 sz25) ?_
 refine pq (q_lenS rfl ty25 rfl rfl rfl rfl) ?_
 by_cases c212 : n208 < ((s7.l.length : Nat) : Int)
 replace h := ifT c212 h
 refine pq (qb (p_lss_tZ c212)) ?_
 refine oE (eS (cT rfl (lK (eS (lS (lB (lS (lO ?_))))))))
 refine pq (qm (.one (moC l207 k210))) ?_
 refine pq (q_fieldP rfl fa39_1 rfl) ?_
 refine pq (ql (.one (.p fr8 (Sl.t r70 s7))) 0 sz25) ?_
 refine pq (qm (iO n208)) ?_
 obtain ⟨⟨n215, n216⟩, h214, h⟩ := bindS h
 obtain ⟨h214a, h214b, h214⟩ := atS_some h214
 refine pq (q_ixS rfl rfl h214a h214 (el25.trans (congrArg some h214b.symm))) ?_
 refine pq (q_fieldI rfl fa71_0 rfl) ?_
 refine pq (q_loadI (v := iO n215) rfl sz3 (map_get h214) rfl rfl) ?_
 refine ol_new rfl rfl rfl (q_bslice (cs := [iI n215]) (es := (([n215] : List (Int))).map (rowC r3)) ty30 rfl ty3 rfl rfl rfl rfl rfl) (fun k217 => ?_)
 obtain ⟨_, h218, h⟩ := bindS h
 obtain ⟨h218b, rfl⟩ := app_some h218
 refine ol_appM (r := r3) (l := l207) (ys := ([n215] : List (Int))) 5 rfl rfl rfl rfl rfl rfl (el_ownM (l := ([n215] : List (Int))) 0 rfl) rfl h218 (fun y => rfl) el30 ty30 rfl rfl rfl rfl rfl (fun k219 => ?_)
 refine pq (qa (.one (moC (l207 ++ ([n215] : List (Int))) k219))) ?_
 refine oE (eS ?_)
 refine L_norm (L2 := ([moL r3 1 (l207 ++ ([n215] : List (Int))) k219, [(k3, 2, [[iI n6, .p fr8 (Sl.t r70 s7)]])], [(k4, 3, [[iI 0, nC, nC]])], [(k169, 3, [[iI n6, .own (bb160 + 2) 0 (s166).length, .own k211 0 (l209).length]])], [((bb160 + 2), 1, (s166).map (rowC r60))], [(k211, 1, (l209).map (rowC r2))]] : BL)) [0, 2, 3, 4, 5, 6] (by decide) rfl ?_
 refine L_turn 16 rfl [[], [], [], [], [], [], [], [], [], [], [], [], [], [], [], [k211]] [(false, []), (false, []), (false, []), (false, []), (false, []), (false, []), (false, []), (false, []), (false, []), (false, []), (false, []), (false, []), (false, []), (false, []), (false, []), (false, [])] [[2, 3, 4, 5, 6, 7, 8, 9, 10, 11, 12, 13], [2, 3, 4, 5, 6, 7, 8, 9, 10, 11, 12, 13], [0, 1, 4, 8, 9, 10, 11, 12, 13], [0, 1, 4, 8, 9, 10, 11, 12, 13], [0, 1, 2, 3, 8, 9, 10, 11, 12, 13], [0, 1, 8, 9, 10, 11, 12, 13], [0, 1, 8, 9, 10, 11, 12, 13], [0, 1, 8, 9, 10, 11, 12, 13], [0, 1, 2, 3, 4, 5, 6, 7, 10], [0, 1, 2, 3, 4, 5, 6, 7, 10], [0, 1, 2, 3, 4, 5, 6, 7, 8, 9], [0, 1, 2, 3, 4, 5, 6, 7], [0, 1, 2, 3, 4, 5, 6, 7], [0, 1, 2, 3, 4, 5, 6, 7], [], []] (by kernel_rfl) (by kernel_rfl) (by kernel_rfl) ?_ (fun bb220 hlt hnd => ?_)
 intro bb220 hlt hnd
 exact ⟨⟨djE, ⟨djE, ⟨djE, ⟨djE, ⟨djE, ⟨djE, ⟨djE, ⟨djE, ⟨djE, ⟨djE, ⟨djE, ⟨djE, ⟨djE, ⟨djE, ⟨djE, ⟨djN, trivial⟩⟩⟩⟩⟩⟩⟩⟩⟩⟩⟩⟩⟩⟩⟩⟩, (ltO_cons ltK_nil (ltO_cons ltK_nil (ltO_cons ltK_nil (ltO_cons ltK_nil (ltO_cons ltK_nil (ltO_cons ltK_nil (ltO_cons ltK_nil (ltO_cons ltK_nil (ltO_cons ltK_nil (ltO_cons ltK_nil (ltO_cons ltK_nil (ltO_cons ltK_nil (ltO_cons ltK_nil (ltO_cons ltK_nil (ltO_cons ltK_nil (ltO_cons (ltK_cons (key_lt hlt 5 rfl) ltK_nil) ltO_nil))))))))))))))))⟩
 have e_k219 : (l207 ++ ([n215] : List (Int))) = [] ∨ k219 < bb220 := key_ltM (r := r3) (w := 1) hlt 0 rfl
 refine tq [] rfl (hm0 rfl) (q_fieldP rfl fa36_2 rfl) ?_
 refine tq [3] rfl (hm0 rfl) (ql (.one (.own k211 0 (l209).length)) 0 sz31) ?_
 refine tq [] rfl (hm0 rfl) (q_fieldP rfl fa39_1 rfl) ?_
 refine tq [1] rfl (hm0 rfl) (ql (.one (.p fr8 (Sl.t r70 s7))) 0 sz25) ?_
 refine tq [] rfl (hm0 rfl) (qm (iO n208)) ?_
 refine tq [] rfl (hm0 rfl) (q_ixS rfl rfl h214a h214 (el25.trans (congrArg some h214b.symm))) ?_
 refine tq [] rfl (hm0 rfl) (q_fieldI rfl fa71_0 rfl) ?_
 refine tq [] rfl (hm0 rfl) (q_loadI (v := iO n215) rfl sz3 (map_get h214) rfl rfl) ?_
 refine tq [] rfl (hm0 rfl) (q_fieldP rfl fa39_1 rfl) ?_
 refine tq [1] rfl (hm0 rfl) (ql (.one (.p fr8 (Sl.t r70 s7))) 0 sz25) ?_
 refine tq [] rfl (hm0 rfl) (qm (iO n208)) ?_
 refine tq [] rfl (hm0 rfl) (q_ixS rfl rfl h214a h214 (el25.trans (congrArg some h214b.symm))) ?_
 refine tq [] rfl (hm0 rfl) (q_fieldI rfl fa71_1 rfl) ?_
 refine tq [] rfl (hm0 rfl) (q_loadI (v := iO n216) rfl sz2 (map_get h214) rfl rfl) ?_
 obtain ⟨n226, h225, h⟩ := bindS h
 obtain ⟨h225a, h225⟩ := atL_some h225
 refine tq [5] rfl (hm0 rfl) (q_ixO 0 rfl rfl h225a h225 rfl el31) ?_
 refine tn_wr rfl rfl [5] (by decide) rfl (hm0 rfl) rfl (q_store (e' := rowC r2 n216) (es' := ((l209.set n215.toNat n216)).map (rowC r2)) 0 rfl rfl rfl sz2 rfl rfl (map_get h225) rfl map_set) (q := 5) rfl rfl ?_
 refine tn_re 28 (v := .one (.own k211 0 ((l209.set n215.toNat n216)).length)) (Eq.trans (b := .one (.own k211 0 (l209).length)) rfl (congrArg D.one own_setC)) ?_
 refine tn_reS 3 (s' := [(k169, 3, [[iI n6, .own (bb160 + 2) 0 (s166).length, .own k211 0 ((l209.set n215.toNat n216)).length]])]) rfl (congrArg (fun z => ([(k169, 3, [[iI n6, .own (bb160 + 2) 0 (s166).length, z]])] : List B1)) own_setC) ?_
 refine tn_end (bN (eS (lO ?_)))
 refine pq (qm (iO n208)) ?_
 refine pq (qb p_addY) ?_
 refine pq (qa (iO (IntKind.i64.wrap (n208 + 1)))) ?_
 refine oE ?_
 obtain rfl := sj h
 exact E_next (k219, k211) (ups_self ⟨rfl, rfl, rfl, rfl, rfl, trivial⟩) [1, 2, 3, 4, 0, 5] (by decide) rfl
 replace h := ifF c212 h
 refine pq (qb (p_lss_fZ c212)) ?_
 refine oE (eS (cF rfl (L_exit ?_)))
 refine E_seqX ?_
 obtain rfl := sj h
 refine E_out ?_
 exact (E_exit (k210, k211) (ups_self ⟨rfl, rfl, rfl, rfl, trivial⟩) [0, 1, 2, 3, 4, 5] (by decide) rfl)
 rintro (⟨l227, l228⟩ | u) h
 refine J_x (fun kt g => ?_)
 rcases kt with ⟨k229, k230⟩
 replace h := elimL h
 refine bH (eS (lS (lO ?_)))
 refine pq (q_fieldP rfl fa39_0 rfl) ?_
 refine pq (ql (iO n6) 0 sz3) ?_
 refine pq (qm (.one (moC l227 k229))) ?_
 obtain ⟨s232, h231, h⟩ := bindS h
 refine ol_new rfl rfl rfl (q_callO (args := [iO n6, .one (moC l227 k229)]) (ref03_Of_r (m + 0) h231) rfl rfl (vw_cons (vd_one vc_v) (vw_cons (vd_one (vc_M (r := r3) 4 rfl (fun x h m => rfl))) vw_nil)) rfl) (fun k233 => ?_)
 refine pq (q_fieldP rfl fa36_1 rfl) ?_
 refine ow [[iI n6, .own k233 0 (s232).length, .own k230 0 (l228).length]] 3 sz26 ?_
 refine oN ?_
 refine pq (ql (.agg [iI n6, .own k233 0 (s232).length, .own k230 0 (l228).length]) 3 sz36) ?_
 refine ow [[iI n6, .own k233 0 (s232).length, .own k230 0 (l228).length]] 2 sz36 ?_
 refine oE (eS (lR ?_))
 obtain rfl := sj h
 exact E_endF (.inr rfl) (res_cell (d := .agg [iI n6, .own k233 0 (s232).length, .own k230 0 (l228).length]) 2 rfl sz36 rfl rfl rfl rfl res_nil) (vw_cons (vd_agg (vc_cons vc_v (vc_cons (vc_own (r := r60) 0 rfl (fun x h m => rfl)) (vc_cons (vc_own (r := r2) 6 rfl (fun x h m => rfl)) vc_nil)))) vw_nil) oG rfl rfl
 obtain rfl := Option.some.inj (elimR h)
 exact J_up (fun s hs => hs)
end Ev
end Go.Proofs.YtlcfdmjkbaegpaaDoor
