import Derived.Test.YtlcfdmjkbaegpaaDoorLyPPP
import Derived.Test.YtlcfdmjkbaegpaaDoorEvZ
import Derived.Test.YtlcfdmjkbaegpaaDoorLy2
namespace Go.Proofs.YtlcfdmjkbaegpaaDoor
namespace Ev
open Go
set_option linter.unusedVariables false
set_option linter.unusedSimpArgs false
set_option maxRecDepth 100000
set_option maxHeartbeats 1000000
attribute [local irreducible] OpsL StL TnL WpL EndL
noncomputable def ref10_New (n1 : Int) : Option ((Int × Sl (Int) × Sl (Int))) :=
 (if n1 < 0 then ((ref03_New 0).bind fun s10 => ((lenOk 0).bind fun _ => some (0, (⟨true, 1, s10⟩ : Sl (Int)), (⟨true, 1, (List.replicate (0 : Int).toNat (0 : Int))⟩ : Sl (Int))))) else (if n1 > 4096 then ((ref03_New 0).bind fun s20 => ((lenOk 0).bind fun _ => some (0, (⟨true, 1, s20⟩ : Sl (Int)), (⟨true, 1, (List.replicate (0 : Int).toNat (0 : Int))⟩ : Sl (Int))))) else ((ref03_New n1).bind fun s29 => ((lenOk n1).bind fun _ => some (n1, (⟨true, 1, s29⟩ : Sl (Int)), (⟨true, 1, (List.replicate n1.toNat (0 : Int))⟩ : Sl (Int)))))))
theorem ref10_New_r (m : Nat) {n1 : Int} {out : (Int × Sl (Int) × Sl (Int))} (h : ref10_New n1 = some out) : RunsP EP (m + 2) 25 [.one (iT .i64 n1)] (.fresh, [.agg (r35 out)]) := by
 refine fn_F rfl (by rw [EP_fn]; exact show fiOf Tryd.prog 25 = _ by unfold fiOf; rw [Tryd.func25]; unfold Tryd.f25; rfl) rfl ?_
 dsimp only
 unfold ref10_New at h
 refine lS (lO ?_)
 refine ol_new rfl rfl rfl (q_alloc ty36 (row := [iI 0, nC, nC]) rfl rfl) (fun k2 => ?_)
 refine oE (eS (lS (lS (lO ?_))))
 refine pq (qm (iO n1)) ?_
 by_cases c3 : n1 < 0
 replace h := ifT c3 h
 refine pq (qb (p_lss_tZ c3)) ?_
 refine pq (qm bt) ?_
 iterate 2 refine os ?_
 refine pq (qpt bt) ?_
 refine oE (eS (cT rfl (lO ?_)))
 refine pq (qa (iO 0)) ?_
 refine oE (eS (lS ?_))
 refine L_norm (L2 := ([[(k2, 3, [[iI 0, nC, nC]])]] : BL)) [0] (by decide) rfl ?_
 refine L_turn 7 rfl [[], [], [], [], [], [], [k2]] [(false, []), (false, []), (true, []), (false, []), (true, []), (false, []), (false, [])] [[1, 2, 3, 4], [0, 3, 4], [0, 3, 4], [0, 1, 2], [0, 1, 2], [], []] (by kernel_rfl) (by kernel_rfl) (by kernel_rfl) ?_ (fun bb4 hlt hnd => ?_)
 intro bb4 hlt hnd
 exact ⟨⟨djE, ⟨djE, ⟨djE, ⟨djE, ⟨djE, ⟨djE, ⟨djN, trivial⟩⟩⟩⟩⟩⟩⟩, (ltO_cons ltK_nil (ltO_cons ltK_nil (ltO_cons ltK_nil (ltO_cons ltK_nil (ltO_cons ltK_nil (ltO_cons ltK_nil (ltO_cons (ltK_cons (key_lt hlt 0 rfl) ltK_nil) ltO_nil)))))))⟩
 refine tq [] rfl hmn (qm (iO 0)) ?_
 refine tq [] rfl hmn (qm (iO 0)) ?_
 obtain ⟨s10, h9, h⟩ := bindS h
 refine tn_new rfl rfl rfl [] (by decide) rfl hmn rfl rfl (hkc (ne_new (key_lt hlt 0 rfl)) hkn) (q_callO (args := [iO 0]) (ref03_New_r3 (m + 0) h9) rfl rfl (vw_cons (vd_one vc_v) vw_nil) rfl) ?_
 refine tq [] rfl hmn (qm (iO 0)) ?_
 obtain ⟨u11, h12, h⟩ := bindS h
 refine tn_new rfl rfl rfl [] (by decide) rfl hmn rfl rfl (hkc (ne_add rfl) (hkc (ne_new (key_lt hlt 0 rfl)) hkn)) (q_mkslice (r := rowC r2) (a := (0 : Int)) ty31 rfl ty2 rfl rfl (lenOk_some h12).1 (lenOk_some h12).2 rfl rfl) ?_
 refine tq [] rfl (hm0 rfl) (q_build (cs := [iI 0, .own (bb4 + 2) 0 (s10).length, .own (bb4 + 4) 0 ((List.replicate (0 : Int).toNat (0 : Int))).length]) ty36 rfl pl36 rfl) ?_
 refine tn_wr rfl rfl [2] (by decide) rfl (hm0 rfl) rfl (q_store (es' := [[iI 0, .own (bb4 + 2) 0 (s10).length, .own (bb4 + 4) 0 ((List.replicate (0 : Int).toNat (0 : Int))).length]]) 0 rfl rfl rfl sz36 rfl rfl rfl rfl rfl) (q := 2) rfl rfl ?_
 refine tn_end (eS (lR ?_))
 obtain rfl := sj h
 exact E_endF (.inr rfl) (res_cell (d := .agg [iI 0, .own (bb4 + 2) 0 (s10).length, .own (bb4 + 4) 0 ((List.replicate (0 : Int).toNat (0 : Int))).length]) 2 rfl sz36 rfl rfl rfl rfl res_nil) (vw_cons (vd_agg (vc_cons vc_v (vc_cons (vc_own (r := r60) 1 rfl (fun x h m => rfl)) (vc_cons (vc_own (r := r2) 0 rfl (fun x h m => rfl)) vc_nil)))) vw_nil) oG rfl rfl
 replace h := ifF c3 h
 refine pq (qb (p_lss_fZ c3)) ?_
 refine pq (qm bf) ?_
 refine pq (qm (iO n1)) ?_
 by_cases c13 : n1 > 4096
 replace h := ifT c13 h
 refine pq (qb (p_gtr_tZ c13)) ?_
 refine pq (qpf bt) ?_
 refine oE (eS (cT rfl (lO ?_)))
 refine pq (qa (iO 0)) ?_
 refine oE (eS (lS ?_))
 refine L_norm (L2 := ([[(k2, 3, [[iI 0, nC, nC]])]] : BL)) [0] (by decide) rfl ?_
 refine L_turn 7 rfl [[], [], [], [], [], [], [k2]] [(false, []), (false, []), (true, []), (false, []), (true, []), (false, []), (false, [])] [[1, 2, 3, 4], [0, 3, 4], [0, 3, 4], [0, 1, 2], [0, 1, 2], [], []] (by kernel_rfl) (by kernel_rfl) (by kernel_rfl) ?_ (fun bb14 hlt hnd => ?_)
 intro bb14 hlt hnd
 exact ⟨⟨djE, ⟨djE, ⟨djE, ⟨djE, ⟨djE, ⟨djE, ⟨djN, trivial⟩⟩⟩⟩⟩⟩⟩, (ltO_cons ltK_nil (ltO_cons ltK_nil (ltO_cons ltK_nil (ltO_cons ltK_nil (ltO_cons ltK_nil (ltO_cons ltK_nil (ltO_cons (ltK_cons (key_lt hlt 0 rfl) ltK_nil) ltO_nil)))))))⟩
 refine tq [] rfl hmn (qm (iO 0)) ?_
 refine tq [] rfl hmn (qm (iO 0)) ?_
 obtain ⟨s20, h19, h⟩ := bindS h
 refine tn_new rfl rfl rfl [] (by decide) rfl hmn rfl rfl (hkc (ne_new (key_lt hlt 0 rfl)) hkn) (q_callO (args := [iO 0]) (ref03_New_r3 (m + 0) h19) rfl rfl (vw_cons (vd_one vc_v) vw_nil) rfl) ?_
 refine tq [] rfl hmn (qm (iO 0)) ?_
 obtain ⟨u21, h22, h⟩ := bindS h
 refine tn_new rfl rfl rfl [] (by decide) rfl hmn rfl rfl (hkc (ne_add rfl) (hkc (ne_new (key_lt hlt 0 rfl)) hkn)) (q_mkslice (r := rowC r2) (a := (0 : Int)) ty31 rfl ty2 rfl rfl (lenOk_some h22).1 (lenOk_some h22).2 rfl rfl) ?_
 refine tq [] rfl (hm0 rfl) (q_build (cs := [iI 0, .own (bb14 + 2) 0 (s20).length, .own (bb14 + 4) 0 ((List.replicate (0 : Int).toNat (0 : Int))).length]) ty36 rfl pl36 rfl) ?_
 refine tn_wr rfl rfl [2] (by decide) rfl (hm0 rfl) rfl (q_store (es' := [[iI 0, .own (bb14 + 2) 0 (s20).length, .own (bb14 + 4) 0 ((List.replicate (0 : Int).toNat (0 : Int))).length]]) 0 rfl rfl rfl sz36 rfl rfl rfl rfl rfl) (q := 2) rfl rfl ?_
 refine tn_end (eS (lR ?_))
 obtain rfl := sj h
 exact E_endF (.inr rfl) (res_cell (d := .agg [iI 0, .own (bb14 + 2) 0 (s20).length, .own (bb14 + 4) 0 ((List.replicate (0 : Int).toNat (0 : Int))).length]) 2 rfl sz36 rfl rfl rfl rfl res_nil) (vw_cons (vd_agg (vc_cons vc_v (vc_cons (vc_own (r := r60) 1 rfl (fun x h m => rfl)) (vc_cons (vc_own (r := r2) 0 rfl (fun x h m => rfl)) vc_nil)))) vw_nil) oG rfl rfl
 replace h := ifF c13 h
 refine pq (qb (p_gtr_fZ c13)) ?_
 refine pq (qpf bf) ?_
 refine oE (eS (cF rfl (lK (eS (lS ?_)))))
 refine L_norm (L2 := ([[(k2, 3, [[iI 0, nC, nC]])]] : BL)) [0] (by decide) rfl ?_
 refine L_turn 7 rfl [[], [], [], [], [], [], [k2]] [(false, []), (false, []), (true, []), (false, []), (true, []), (false, []), (false, [])] [[1, 2, 3, 4], [0, 3, 4], [0, 3, 4], [0, 1, 2], [0, 1, 2], [], []] (by kernel_rfl) (by kernel_rfl) (by kernel_rfl) ?_ (fun bb23 hlt hnd => ?_)
 intro bb23 hlt hnd
 exact ⟨⟨djE, ⟨djE, ⟨djE, ⟨djE, ⟨djE, ⟨djE, ⟨djN, trivial⟩⟩⟩⟩⟩⟩⟩, (ltO_cons ltK_nil (ltO_cons ltK_nil (ltO_cons ltK_nil (ltO_cons ltK_nil (ltO_cons ltK_nil (ltO_cons ltK_nil (ltO_cons (ltK_cons (key_lt hlt 0 rfl) ltK_nil) ltO_nil)))))))⟩
 refine tq [] rfl hmn (qm (iO n1)) ?_
 refine tq [] rfl hmn (qm (iO n1)) ?_
 obtain ⟨s29, h28, h⟩ := bindS h
 refine tn_new rfl rfl rfl [] (by decide) rfl hmn rfl rfl (hkc (ne_new (key_lt hlt 0 rfl)) hkn) (q_callO (args := [iO n1]) (ref03_New_r3 (m + 0) h28) rfl rfl (vw_cons (vd_one vc_v) vw_nil) rfl) ?_
 refine tq [] rfl hmn (qm (iO n1)) ?_
 obtain ⟨u30, h31, h⟩ := bindS h
 refine tn_new rfl rfl rfl [] (by decide) rfl hmn rfl rfl (hkc (ne_add rfl) (hkc (ne_new (key_lt hlt 0 rfl)) hkn)) (q_mkslice (r := rowC r2) (a := (0 : Int)) ty31 rfl ty2 rfl rfl (lenOk_some h31).1 (lenOk_some h31).2 rfl rfl) ?_
 refine tq [] rfl (hm0 rfl) (q_build (cs := [iI n1, .own (bb23 + 2) 0 (s29).length, .own (bb23 + 4) 0 ((List.replicate n1.toNat (0 : Int))).length]) ty36 rfl pl36 rfl) ?_
 refine tn_wr rfl rfl [2] (by decide) rfl (hm0 rfl) rfl (q_store (es' := [[iI n1, .own (bb23 + 2) 0 (s29).length, .own (bb23 + 4) 0 ((List.replicate n1.toNat (0 : Int))).length]]) 0 rfl rfl rfl sz36 rfl rfl rfl rfl rfl) (q := 2) rfl rfl ?_
 refine tn_end (eS (lR ?_))
 obtain rfl := sj h
 exact E_endF (.inr rfl) (res_cell (d := .agg [iI n1, .own (bb23 + 2) 0 (s29).length, .own (bb23 + 4) 0 ((List.replicate n1.toNat (0 : Int))).length]) 2 rfl sz36 rfl rfl rfl rfl res_nil) (vw_cons (vd_agg (vc_cons vc_v (vc_cons (vc_own (r := r60) 1 rfl (fun x h m => rfl)) (vc_cons (vc_own (r := r2) 0 rfl (fun x h m => rfl)) vc_nil)))) vw_nil) oG rfl rfl
noncomputable def law13_PullParts_b1 (s46 : Sl (Int × (Int × Int))) (s49 : Sl (Int × (Int × Int))) (s52 : Sl (Int × (Int × Int))) (a : Int × Int × Int) : Option ((Int × Int × Int) ⊕ (Unit ⊕ Bool)) :=
 match a with
 | (n168, n169, n170) => (if n170 < ((s52.l.length : Nat) : Int) then (if n168 < ((s46.l.length : Nat) : Int) then ((atS 3 s46 n168).bind fun (n175, (n176, n177)) => ((atS 3 s52 n170).bind fun (n180, (n181, n182)) => (if n175 = n180 ∧ n176 = n181 ∧ n177 = n182 then some (.inl ((IntKind.i64.wrap (n168 + 1)), n169, (IntKind.i64.wrap (n170 + 1)))) else (if n169 < ((s49.l.length : Nat) : Int) then ((atS 3 s49 n169).bind fun (n187, (n188, n189)) => (if n187 = n180 ∧ n188 = n181 ∧ n189 = n182 then some (.inl (n168, (IntKind.i64.wrap (n169 + 1)), (IntKind.i64.wrap (n170 + 1)))) else some (.inr (.inr false)))) else some (.inr (.inr false)))))) else (if n169 < ((s49.l.length : Nat) : Int) then ((atS 3 s49 n169).bind fun (n194, (n195, n196)) => ((atS 3 s52 n170).bind fun (n199, (n200, n201)) => (if n194 = n199 ∧ n195 = n200 ∧ n196 = n201 then some (.inl (n168, (IntKind.i64.wrap (n169 + 1)), (IntKind.i64.wrap (n170 + 1)))) else some (.inr (.inr false))))) else some (.inr (.inr false)))) else some (.inr (.inl ())))
noncomputable def law13_PullParts (a0 : Int × (Int × Int) × (Sl (Int × Int × Int)) × (Sl (Int × Int)) × (Sl (Int × Int)) × Sl (Int) × Bool) : Option (Bool) :=
 match a0 with
 | (n1, (n2, n3), s4, s5, s6, s7, b8) => ((law13_Right n1).bind fun n11 => ((law13_Task_Matrix (n1, (n2, n3), s4, s5, s6, s7, b8)).bind fun (n30, n31, s32, s33, s34) => ((law13_Task_Vector (n1, (n2, n3), s4, s5, s6, s7, b8) s5).bind fun (n36, s37) => ((ref10_Of (n36, s37)).bind fun (n39, s40, s41) => ((law13_Task_Rows (n1, (n2, n3), s4, s5, s6, s7, b8)).bind fun s43 => ((pull_Sums n11 (n30, n31, s32, s33, s34) (n39, s40, s41) s43 false).bind fun (s46, n47) => ((pull_Sums n11 (n30, n31, s32, s33, s34) (n39, s40, s41) s43 true).bind fun (s49, n50) => ((pull_Sums n11 (n30, n31, s32, s33, s34) (n39, s40, s41) (⟨false, 0, []⟩ : Sl (Int)) true).bind fun (s52, n53) => ((ref10_New n31).bind fun (n55, s56, s57) => ((pull_Sums n11 (n30, n31, s32, s33, s34) (n55, s56, s57) (⟨false, 0, []⟩ : Sl (Int)) true).bind fun (s59, n60) => (if n47 ≠ 0 then some false else (if n50 ≠ 0 then some false else (if n53 ≠ 0 then some false else (if n60 ≠ 0 then some false else (if (IntKind.i64.wrap (((s46.l.length : Nat) : Int) + ((s49.l.length : Nat) : Int))) ≠ ((s52.l.length : Nat) : Int) then some false else (if ((s59.l.length : Nat) : Int) ≠ 0 then some false else ((loopO (law13_PullParts_b1 s46 s49 s52) (0, 0, 0)).bind (Sum.elim (fun _ => ((FL).bind fun b204 => some b204)) (fun u => some u)))))))))))))))))))
theorem law13_PullParts_r (m : Nat) {a0 : Int × (Int × Int) × (Sl (Int × Int × Int)) × (Sl (Int × Int)) × (Sl (Int × Int)) × Sl (Int) × Bool} {out : Bool} (h : law13_PullParts a0 = some out) : RunsP EP (m + 3) 6 [.agg (r27 a0)] (.fresh, [.one (bT out)]) := by
 obtain ⟨n1, ⟨n2, n3⟩, s4, s5, s6, s7, b8⟩ := a0
 refine fn_F rfl (by rw [EP_fn]; exact show fiOf Tryd.prog 6 = _ by unfold fiOf; rw [Tryd.func6]; unfold Tryd.f6; rfl) rfl ?_
 dsimp only
 unfold law13_PullParts at h
 refine lS (lO ?_)
 refine ol_new rfl rfl rfl (q_box ty28 rfl (cs := [iI n1, iC .u8 n2, iC .u8 n3, sF r92 s4, sF r70 s5, sF r70 s6, sF r60 s7, bC b8]) rfl rfl) (fun k9 => ?_)
 refine pq (qa bf) ?_
 refine oN ?_
 refine pq (q_fieldP rfl fa28_0 rfl) ?_
 refine pq (ql (iO n1) 0 sz22) ?_
 obtain ⟨n11, h10, h⟩ := bindS h
 refine pq (qc (iO n11) [iO n1] (law13_Right_r3 (m + 1) h10) (vw_cons (vd_one vc_v) vw_nil)) ?_
 refine pq (qa (iO n11)) ?_
 refine oE (eS (lS ?_))
 refine L_norm (L2 := ([[(k9, 8, [[iI n1, iC .u8 n2, iC .u8 n3, sF r92 s4, sF r70 s5, sF r70 s6, sF r60 s7, bC b8]])]] : BL)) [0] (by decide) rfl ?_
 refine L_turn 14 rfl [[], [], [], [], [], [], [], [], [], [], [], [], [], []] [(false, []), (false, []), (false, []), (false, []), (false, []), (false, []), (false, []), (false, []), (false, []), (true, []), (true, []), (false, [9]), (false, [10]), (false, [])] [[2, 3, 4, 7, 9, 10], [2, 3, 4, 7, 9, 10], [0, 1, 3, 4, 7, 9, 10], [0, 1, 2, 7, 9, 10], [0, 1, 2, 7, 9, 10], [7, 9, 10], [7, 9, 10], [0, 1, 2, 3, 4, 5, 6, 9, 10], [9, 10], [0, 1, 2, 3, 4, 5, 6, 7, 8, 10], [0, 1, 2, 3, 4, 5, 6, 7, 8, 9], [], [], []] (by kernel_rfl) (by kernel_rfl) (by kernel_rfl) ?_ (fun bb12 hlt hnd => ?_)
 intro bb12 hlt hnd
 exact ⟨⟨djE, ⟨djE, ⟨djE, ⟨djE, ⟨djE, ⟨djE, ⟨djE, ⟨djE, ⟨djE, ⟨djE, ⟨djE, ⟨djE, ⟨djE, ⟨djE, trivial⟩⟩⟩⟩⟩⟩⟩⟩⟩⟩⟩⟩⟩⟩, (ltO_cons ltK_nil (ltO_cons ltK_nil (ltO_cons ltK_nil (ltO_cons ltK_nil (ltO_cons ltK_nil (ltO_cons ltK_nil (ltO_cons ltK_nil (ltO_cons ltK_nil (ltO_cons ltK_nil (ltO_cons ltK_nil (ltO_cons ltK_nil (ltO_cons ltK_nil (ltO_cons ltK_nil (ltO_cons ltK_nil ltO_nil))))))))))))))⟩
 refine tq [0] rfl (hmc (nin_cons (ne_new (key_lt hlt 0 rfl)) (nin_cons (ne_new (key_lt hlt 0 rfl)) nin_nil)) hmn) (ql (.agg [iI n1, iC .u8 n2, iC .u8 n3, sF r92 s4, sF r70 s5, sF r70 s6, sF r60 s7, bC b8]) 0 sz28) ?_
 obtain ⟨⟨n30, n31, s32, s33, s34⟩, h29, h⟩ := bindS h
 refine tq [] rfl hmn (qc (.agg [iI n30, iI n31, sC r3 s32, sC r3 s33, sC r2 s34]) [.agg [iI n1, iC .u8 n2, iC .u8 n3, sF r92 s4, sF r70 s5, sF r70 s6, sF r60 s7, bC b8]] (law13_Task_Matrix_r3 (m + 1) h29) (vw_cons (vd_agg (vc_cons vc_v (vc_cons vc_v (vc_cons vc_v (vc_cons vc_s (vc_cons vc_s (vc_cons vc_s (vc_cons vc_s (vc_cons vc_v vc_nil))))))))) vw_nil)) ?_
 refine tq [0] rfl (hmc (nin_cons (ne_new (key_lt hlt 0 rfl)) (nin_cons (ne_new (key_lt hlt 0 rfl)) nin_nil)) hmn) (ql (.agg [iI n1, iC .u8 n2, iC .u8 n3, sF r92 s4, sF r70 s5, sF r70 s6, sF r60 s7, bC b8]) 0 sz28) ?_
 refine tq [] rfl hmn (q_fieldP rfl fa28_3 rfl) ?_
 refine tq [0] rfl (hmc (nin_cons (ne_new (key_lt hlt 0 rfl)) (nin_cons (ne_new (key_lt hlt 0 rfl)) nin_nil)) hmn) (ql (.one (sF r70 s5)) 0 sz25) ?_
 obtain ⟨⟨n36, s37⟩, h35, h⟩ := bindS h
 refine tq [] rfl hmn (qc (.agg [iI n36, sC r70 s37]) [.agg [iI n1, iC .u8 n2, iC .u8 n3, sF r92 s4, sF r70 s5, sF r70 s6, sF r60 s7, bC b8], .one (sF r70 s5)] (law13_Task_Vector_r3 (m + 1) h35) (vw_cons (vd_agg (vc_cons vc_v (vc_cons vc_v (vc_cons vc_v (vc_cons vc_s (vc_cons vc_s (vc_cons vc_s (vc_cons vc_s (vc_cons vc_v vc_nil))))))))) (vw_cons (vd_one vc_s) vw_nil))) ?_
 obtain ⟨⟨n39, s40, s41⟩, h38, h⟩ := bindS h
 refine tq [] rfl hmn (qc (.agg [iI n39, sC r60 s40, sC r2 s41]) [.agg [iI n36, sC r70 s37]] (ref10_Of_r3 (m + 1) h38) (vw_cons (vd_agg (vc_cons vc_v (vc_cons vc_s vc_nil))) vw_nil)) ?_
 refine tq [0] rfl (hmc (nin_cons (ne_new (key_lt hlt 0 rfl)) (nin_cons (ne_new (key_lt hlt 0 rfl)) nin_nil)) hmn) (ql (.agg [iI n1, iC .u8 n2, iC .u8 n3, sF r92 s4, sF r70 s5, sF r70 s6, sF r60 s7, bC b8]) 0 sz28) ?_
 obtain ⟨s43, h42, h⟩ := bindS h
 refine tn_putX rfl rfl rfl [] (by decide) rfl hmn rfl (q_callX (v := fun fr44 => .one (.p fr44 (Sl.t r60 s43))) (args := [.agg [iI n1, iC .u8 n2, iC .u8 n3, sF r92 s4, sF r70 s5, sF r70 s6, sF r60 s7, bC b8]]) (law13_Task_Rows_r3 (m + 1) h42) rfl rfl (vw_cons (vd_agg (vc_cons vc_v (vc_cons vc_v (vc_cons vc_v (vc_cons vc_s (vc_cons vc_s (vc_cons vc_s (vc_cons vc_s (vc_cons vc_v vc_nil))))))))) vw_nil) rfl rfl (fun fr => rfl)) (fun fr44 => ?_)
 refine tn_new rfl rfl rfl [] (by decide) rfl hmn rfl rfl (hkc (ne_new (key_lt hlt 0 rfl)) hkn) (q_alloc ty33 (row := [iI 0, iI 0, nC, nC, nC]) rfl rfl) ?_
 refine tn_new rfl rfl rfl [] (by decide) rfl hmn rfl rfl (hkc (ne_add rfl) (hkc (ne_new (key_lt hlt 0 rfl)) hkn)) (q_alloc ty36 (row := [iI 0, nC, nC]) rfl rfl) ?_
 refine tn_wr rfl rfl [1] (by decide) rfl (hm0 rfl) rfl (q_store (es' := [[iI n30, iI n31, sC r3 s32, sC r3 s33, sC r2 s34]]) 0 rfl rfl rfl sz33 rfl rfl rfl rfl rfl) (q := 1) rfl rfl ?_
 refine tn_wr rfl rfl [0] (by decide) rfl (hm0 rfl) rfl (q_store (es' := [[iI n39, sC r60 s40, sC r2 s41]]) 0 rfl rfl rfl sz36 rfl rfl rfl rfl rfl) (q := 0) rfl rfl ?_
 refine tq [] rfl (hm0 rfl) (qa (.one (.p fr44 (Sl.t r60 s43)))) ?_
 refine tn_end (eS (lS (lO ?_)))
 refine pq (qm (iO n11)) ?_
 refine pq (ql (.agg [iI n30, iI n31, sC r3 s32, sC r3 s33, sC r2 s34]) 1 sz33) ?_
 refine pq (ql (.agg [iI n39, sC r60 s40, sC r2 s41]) 0 sz36) ?_
 refine pq (qm (.one (.p fr44 (Sl.t r60 s43)))) ?_
 obtain ⟨⟨s46, n47⟩, h45, h⟩ := bindS h
 refine pq (qc (.tup [.one (sC r63 s46), iO n47]) [iO n11, .agg [iI n30, iI n31, sC r3 s32, sC r3 s33, sC r2 s34], .agg [iI n39, sC r60 s40, sC r2 s41], .one (.p fr44 (Sl.t r60 s43)), bf] (pull_Sums_r3 (m + 1) h45) (vw_cons (vd_one vc_v) (vw_cons (vd_agg (vc_cons vc_v (vc_cons vc_v (vc_cons vc_s (vc_cons vc_s (vc_cons vc_s vc_nil)))))) (vw_cons (vd_agg (vc_cons vc_v (vc_cons vc_s (vc_cons vc_s vc_nil)))) (vw_cons (vd_one vc_s) (vw_cons (vd_one vc_v) vw_nil)))))) ?_
 refine pq (qm (.tup [.one (sC r63 s46), iO n47])) ?_
 refine pq (q_ext (v := .one (sC r63 s46)) rfl rfl) ?_
 refine pq (q_ext (v := iO n47) rfl rfl) ?_
 refine pq (qa (.one (sC r63 s46))) ?_
 refine pq (qa (iO n47)) ?_
 refine oN ?_
 refine pq (qm (iO n11)) ?_
 refine pq (ql (.agg [iI n30, iI n31, sC r3 s32, sC r3 s33, sC r2 s34]) 1 sz33) ?_
 refine pq (ql (.agg [iI n39, sC r60 s40, sC r2 s41]) 0 sz36) ?_
 refine pq (qm (.one (.p fr44 (Sl.t r60 s43)))) ?_
 obtain ⟨⟨s49, n50⟩, h48, h⟩ := bindS h
 refine pq (qc (.tup [.one (sC r63 s49), iO n50]) [iO n11, .agg [iI n30, iI n31, sC r3 s32, sC r3 s33, sC r2 s34], .agg [iI n39, sC r60 s40, sC r2 s41], .one (.p fr44 (Sl.t r60 s43)), bt] (pull_Sums_r3 (m + 1) h48) (vw_cons (vd_one vc_v) (vw_cons (vd_agg (vc_cons vc_v (vc_cons vc_v (vc_cons vc_s (vc_cons vc_s (vc_cons vc_s vc_nil)))))) (vw_cons (vd_agg (vc_cons vc_v (vc_cons vc_s (vc_cons vc_s vc_nil)))) (vw_cons (vd_one vc_s) (vw_cons (vd_one vc_v) vw_nil)))))) ?_
 refine pq (qm (.tup [.one (sC r63 s49), iO n50])) ?_
 refine pq (q_ext (v := .one (sC r63 s49)) rfl rfl) ?_
 refine pq (q_ext (v := iO n50) rfl rfl) ?_
 refine pq (qa (.one (sC r63 s49))) ?_
 refine pq (qa (iO n50)) ?_
 refine oN ?_
 refine pq (qm (iO n11)) ?_
 refine pq (ql (.agg [iI n30, iI n31, sC r3 s32, sC r3 s33, sC r2 s34]) 1 sz33) ?_
 refine pq (ql (.agg [iI n39, sC r60 s40, sC r2 s41]) 0 sz36) ?_
 obtain ⟨⟨s52, n53⟩, h51, h⟩ := bindS h
 refine pq (qc (.tup [.one (sC r63 s52), iO n53]) [iO n11, .agg [iI n30, iI n31, sC r3 s32, sC r3 s33, sC r2 s34], .agg [iI n39, sC r60 s40, sC r2 s41], .one nC, bt] (pull_Sums_r3 (m + 1) h51) (vw_cons (vd_one vc_v) (vw_cons (vd_agg (vc_cons vc_v (vc_cons vc_v (vc_cons vc_s (vc_cons vc_s (vc_cons vc_s vc_nil)))))) (vw_cons (vd_agg (vc_cons vc_v (vc_cons vc_s (vc_cons vc_s vc_nil)))) (vw_cons (vd_one vc_s) (vw_cons (vd_one vc_v) vw_nil)))))) ?_
 refine pq (qm (.tup [.one (sC r63 s52), iO n53])) ?_
 refine pq (q_ext (v := .one (sC r63 s52)) rfl rfl) ?_
 refine pq (q_ext (v := iO n53) rfl rfl) ?_
 refine pq (qa (.one (sC r63 s52))) ?_
 refine pq (qa (iO n53)) ?_
 refine oE (eS (lS ?_))
 refine L_still (by kernel_rfl) ?_
 refine sq (qm (iO n11)) ?_
 refine sq (ql (.agg [iI n30, iI n31, sC r3 s32, sC r3 s33, sC r2 s34]) 1 sz33) ?_
 refine sq (q_fieldP rfl fa33_1 rfl) ?_
 refine sq (ql (iO n31) 1 sz3) ?_
 obtain ⟨⟨n55, s56, s57⟩, h54, h⟩ := bindS h
 refine sq (qc (.agg [iI n55, sC r60 s56, sC r2 s57]) [iO n31] (ref10_New_r (m + 0) h54) (vw_cons (vd_one vc_v) vw_nil)) ?_
 obtain ⟨⟨s59, n60⟩, h58, h⟩ := bindS h
 refine sq (qc (.tup [.one (sC r63 s59), iO n60]) [iO n11, .agg [iI n30, iI n31, sC r3 s32, sC r3 s33, sC r2 s34], .agg [iI n55, sC r60 s56, sC r2 s57], .one nC, bt] (pull_Sums_r3 (m + 1) h58) (vw_cons (vd_one vc_v) (vw_cons (vd_agg (vc_cons vc_v (vc_cons vc_v (vc_cons vc_s (vc_cons vc_s (vc_cons vc_s vc_nil)))))) (vw_cons (vd_agg (vc_cons vc_v (vc_cons vc_s (vc_cons vc_s vc_nil)))) (vw_cons (vd_one vc_s) (vw_cons (vd_one vc_v) vw_nil)))))) ?_
 refine sq (qm (.tup [.one (sC r63 s59), iO n60])) ?_
 refine sq (q_ext (v := .one (sC r63 s59)) rfl rfl) ?_
 refine sq (q_ext (v := iO n60) rfl rfl) ?_
 refine sq (qa (.one (sC r63 s59))) ?_
 refine sq (qa (iO n60)) ?_
 refine st_end (eS (lS (lS (lO ?_))))
 refine pq (qm (iO n47)) ?_
 by_cases c61 : n47 ≠ 0
 replace h := ifT c61 h
 refine pq (qb (p_neq_tZ c61)) ?_
 refine pq (qm bt) ?_
 iterate 2 refine os ?_
 refine pq (qpt bt) ?_
 refine pq (qm bt) ?_
 iterate 2 refine os ?_
 refine pq (qpt bt) ?_
 refine pq (qm bt) ?_
 iterate 2 refine os ?_
 refine pq (qpt bt) ?_
 refine pq (qm bt) ?_
 iterate 8 refine os ?_
 refine pq (qpt bt) ?_
 refine pq (qm bt) ?_
 iterate 3 refine os ?_
 refine pq (qpt bt) ?_
 refine oE (eS (cT rfl (lS (lO ?_))))
 refine pq (qa bf) ?_
 refine oE (eS (lR (eR ?_)))
 obtain rfl := sj h
 exact eF1
 replace h := ifF c61 h
 refine pq (qb (p_neq_fZ c61)) ?_
 refine pq (qm bf) ?_
 refine pq (qm (iO n50)) ?_
 by_cases c62 : n50 ≠ 0
 replace h := ifT c62 h
 refine pq (qb (p_neq_tZ c62)) ?_
 refine pq (qpf bt) ?_
 refine pq (qm bt) ?_
 iterate 2 refine os ?_
 refine pq (qpt bt) ?_
 refine pq (qm bt) ?_
 iterate 2 refine os ?_
 refine pq (qpt bt) ?_
 refine pq (qm bt) ?_
 iterate 8 refine os ?_
 refine pq (qpt bt) ?_
 refine pq (qm bt) ?_
 iterate 3 refine os ?_
 refine pq (qpt bt) ?_
 refine oE (eS (cT rfl (lS (lO ?_))))
 refine pq (qa bf) ?_
 refine oE (eS (lR (eR ?_)))
 obtain rfl := sj h
 exact eF1
 replace h := ifF c62 h
 refine pq (qb (p_neq_fZ c62)) ?_
 refine pq (qpf bf) ?_
 refine pq (qm bf) ?_
 refine pq (qm (iO n53)) ?_
 by_cases c63 : n53 ≠ 0
 replace h := ifT c63 h
 refine pq (qb (p_neq_tZ c63)) ?_
 refine pq (qpf bt) ?_
 refine pq (qm bt) ?_
 iterate 2 refine os ?_
 refine pq (qpt bt) ?_
 refine pq (qm bt) ?_
 iterate 8 refine os ?_
 refine pq (qpt bt) ?_
 refine pq (qm bt) ?_
 iterate 3 refine os ?_
 refine pq (qpt bt) ?_
 refine oE (eS (cT rfl (lS (lO ?_))))
 refine pq (qa bf) ?_
 refine oE (eS (lR (eR ?_)))
 obtain rfl := sj h
 exact eF1
 replace h := ifF c63 h
 refine pq (qb (p_neq_fZ c63)) ?_
 refine pq (qpf bf) ?_
 refine pq (qm bf) ?_
 refine pq (qm (iO n60)) ?_
 by_cases c64 : n60 ≠ 0
 replace h := ifT c64 h
 refine pq (qb (p_neq_tZ c64)) ?_
 refine pq (qpf bt) ?_
 refine pq (qm bt) ?_
 iterate 8 refine os ?_
 refine pq (qpt bt) ?_
 refine pq (qm bt) ?_
 iterate 3 refine os ?_
 refine pq (qpt bt) ?_
 refine oE (eS (cT rfl (lS (lO ?_))))
 refine pq (qa bf) ?_
 refine oE (eS (lR (eR ?_)))
 obtain rfl := sj h
 exact eF1
 replace h := ifF c64 h
 refine pq (qb (p_neq_fZ c64)) ?_
 refine pq (qpf bf) ?_
 refine pq (qm bf) ?_
 refine pq (qm (.one (sC r63 s46))) ?_
 refine pq (q_lenS rfl ty29 rfl rfl rfl rfl) ?_
 refine pq (qm (.one (sC r63 s49))) ?_
 refine pq (q_lenS rfl ty29 rfl rfl rfl rfl) ?_
 refine pq (qb p_addY) ?_
 refine pq (qm (.one (sC r63 s52))) ?_
 refine pq (q_lenS rfl ty29 rfl rfl rfl rfl) ?_
 by_cases c65 : (IntKind.i64.wrap (((s46.l.length : Nat) : Int) + ((s49.l.length : Nat) : Int))) ≠ ((s52.l.length : Nat) : Int)
 replace h := ifT c65 h
 refine pq (qb (p_neq_tZ c65)) ?_
 refine pq (qpf bt) ?_
 refine pq (qm bt) ?_
 iterate 3 refine os ?_
 refine pq (qpt bt) ?_
 refine oE (eS (cT rfl (lS (lO ?_))))
 refine pq (qa bf) ?_
 refine oE (eS (lR (eR ?_)))
 obtain rfl := sj h
 exact eF1
 replace h := ifF c65 h
 refine pq (qb (p_neq_fZ c65)) ?_
 refine pq (qpf bf) ?_
 refine pq (qm bf) ?_
 refine pq (qm (.one (sC r63 s59))) ?_
 refine pq (q_lenS rfl ty29 rfl rfl rfl rfl) ?_
 by_cases c66 : ((s59.l.length : Nat) : Int) ≠ 0
 replace h := ifT c66 h
 refine pq (qb (p_neq_tZ c66)) ?_
 refine pq (qpf bt) ?_
 refine oE (eS (cT rfl (lS (lO ?_))))
 refine pq (qa bf) ?_
 refine oE (eS (lR (eR ?_)))
 obtain rfl := sj h
 exact eF1
 replace h := ifF c66 h
 refine pq (qb (p_neq_fZ c66)) ?_
 refine pq (qpf bf) ?_
 refine oE (eS (cF rfl (lK (eS (lS (lO ?_))))))
 refine pq (qa (iO 0)) ?_
 refine pq (qa (iO 0)) ?_
 refine oE (eS (lS (lS (lO ?_))))
 refine pq (qa (iO 0)) ?_
 refine oE (eS (lB ?_))
 let S1 : (Int × Int × Int) → Unit → (Nat → D) → Nat → D := fun a kt g => ups g [(7, .one (sC r63 s46)), (9, .one (sC r63 s49)), (11, .one (sC r63 s52)), (15, .one (iI a.1)), (16, .one (iI a.2.1)), (17, .one (iI a.2.2))]
 let SL1 : (Int × Int × Int) → Unit → BL := fun a kt => ([] : BL)
 let G1 : Bool → Ex → St → Prop := fun u => endQ EP [.tmp 2] (.fresh, [.one (bT u)])
 let Sx1 : Unit → Unit → (Nat → D) → Nat → D := fun a kt g => ups g []
 let SLx1 : Unit → Unit → BL := fun a kt => ([] : BL)
 let J1 : (Unit ⊕ Bool) → Ex → St → Prop := JX 134 0 Sx1 SLx1 G1
 refine L_loopS (law13_PullParts_b1 s46 s49 s52) S1 SL1 J1 JX_n (0, 0, 0) h () (ups_self ⟨rfl, rfl, rfl, rfl, rfl, rfl, trivial⟩) [] (by decide) rfl ?_ ?_
 rintro ⟨n168, n169, n170⟩ _ g out h
 change law13_PullParts_b1 s46 s49 s52 (n168, n169, n170) = some out at h
 unfold law13_PullParts_b1 at h
 refine lS (lS (lO ?_))
 refine pq (qm (iO n170)) ?_
 refine pq (qm (.one (sC r63 s52))) ?_
 refine pq (q_lenS rfl ty29 rfl rfl rfl rfl) ?_
 by_cases c171 : n170 < ((s52.l.length : Nat) : Int)
 replace h := ifT c171 h
 refine pq (qb (p_lss_tZ c171)) ?_
 refine oE (eS (cT rfl (lK (eS (lS (lB (lB (lS ?_))))))))
 refine L_still (by kernel_rfl) ?_
 refine sq (qm (iO n168)) ?_
 refine sq (qm (.one (sC r63 s46))) ?_
 refine sq (q_lenS rfl ty29 rfl rfl rfl rfl) ?_
 by_cases c172 : n168 < ((s46.l.length : Nat) : Int)
 replace h := ifT c172 h
 refine sq (qb (p_lss_tZ c172)) ?_
 refine sq (qm bt) ?_
 refine sq (qm (.one (sC r63 s46))) ?_
 refine sq (qm (iO n168)) ?_
 obtain ⟨⟨n175, ⟨n176, n177⟩⟩, h174, h⟩ := bindS h
 obtain ⟨h174a, h174b, h174⟩ := atS_some h174
 refine sq (q_ixS rfl rfl h174a h174 (el29.trans (congrArg some h174b.symm))) ?_
 refine sq (q_loadI (v := .agg [iI n175, iI n176, uI n177]) rfl sz64 (map_get h174) rfl rfl) ?_
 refine sq (qm (.one (sC r63 s52))) ?_
 refine sq (qm (iO n170)) ?_
 obtain ⟨⟨n180, ⟨n181, n182⟩⟩, h179, h⟩ := bindS h
 obtain ⟨h179a, h179b, h179⟩ := atS_some h179
 refine sq (q_ixS rfl rfl h179a h179 (el29.trans (congrArg some h179b.symm))) ?_
 refine sq (q_loadI (v := .agg [iI n180, iI n181, uI n182]) rfl sz64 (map_get h179) rfl rfl) ?_
 by_cases c183 : n175 = n180 ∧ n176 = n181 ∧ n177 = n182
 replace h := ifT c183 h
 refine sq (q_binA rfl rfl (by rfl) (by rfl) (eqeqlA64_t _ _ c183) rfl) ?_
 refine sq (qpt bt) ?_
 refine sq (qa bt) ?_
 refine st_end (eS (cT rfl (lO ?_)))
 refine pq (qm (iO n168)) ?_
 refine pq (qb p_addY) ?_
 refine pq (qa (iO (IntKind.i64.wrap (n168 + 1)))) ?_
 refine oE (bN (bN (eS (lO ?_))))
 refine pq (qm (iO n170)) ?_
 refine pq (qb p_addY) ?_
 refine pq (qa (iO (IntKind.i64.wrap (n170 + 1)))) ?_
 refine oE ?_
 obtain rfl := sj h
 exact E_next () (ups_self ⟨rfl, rfl, rfl, rfl, rfl, rfl, trivial⟩) [] (by decide) rfl
 replace h := ifF c183 h
 refine sq (q_binA rfl rfl (by rfl) (by rfl) (eqeqlA64_f _ _ c183) rfl) ?_
 refine sq (qpt bf) ?_
 refine sq (qa bf) ?_
 refine st_end (eS (cF rfl (lS ?_)))
 refine L_still (by kernel_rfl) ?_
 refine sq (qm (iO n169)) ?_
 refine sq (qm (.one (sC r63 s49))) ?_
 refine sq (q_lenS rfl ty29 rfl rfl rfl rfl) ?_
 by_cases c184 : n169 < ((s49.l.length : Nat) : Int)
 replace h := ifT c184 h
 refine sq (qb (p_lss_tZ c184)) ?_
 refine sq (qm bt) ?_
 refine sq (qm (.one (sC r63 s49))) ?_
 refine sq (qm (iO n169)) ?_
 obtain ⟨⟨n187, ⟨n188, n189⟩⟩, h186, h⟩ := bindS h
 obtain ⟨h186a, h186b, h186⟩ := atS_some h186
 refine sq (q_ixS rfl rfl h186a h186 (el29.trans (congrArg some h186b.symm))) ?_
 refine sq (q_loadI (v := .agg [iI n187, iI n188, uI n189]) rfl sz64 (map_get h186) rfl rfl) ?_
 refine sq (qm (.one (sC r63 s52))) ?_
 refine sq (qm (iO n170)) ?_
 refine sq (q_ixS rfl rfl h179a h179 (el29.trans (congrArg some h179b.symm))) ?_
 refine sq (q_loadI (v := .agg [iI n180, iI n181, uI n182]) rfl sz64 (map_get h179) rfl rfl) ?_
 by_cases c190 : n187 = n180 ∧ n188 = n181 ∧ n189 = n182
 replace h := ifT c190 h
 refine sq (q_binA rfl rfl (by rfl) (by rfl) (eqeqlA64_t _ _ c190) rfl) ?_
 refine sq (qpt bt) ?_
 refine sq (qa bt) ?_
 refine st_end (eS (cT rfl (lO ?_)))
 refine pq (qm (iO n169)) ?_
 refine pq (qb p_addY) ?_
 refine pq (qa (iO (IntKind.i64.wrap (n169 + 1)))) ?_
 refine oE (bN (bN (eS (lO ?_))))
 refine pq (qm (iO n170)) ?_
 refine pq (qb p_addY) ?_
 refine pq (qa (iO (IntKind.i64.wrap (n170 + 1)))) ?_
 refine oE ?_
 obtain rfl := sj h
 exact E_next () (ups_self ⟨rfl, rfl, rfl, rfl, rfl, rfl, trivial⟩) [] (by decide) rfl
 replace h := ifF c190 h
 refine sq (q_binA rfl rfl (by rfl) (by rfl) (eqeqlA64_f _ _ c190) rfl) ?_
 refine sq (qpt bf) ?_
 refine sq (qa bf) ?_
 refine st_end (eS (cF rfl (lS (lO ?_))))
 refine pq (qa bf) ?_
 refine oE (eS (lR (bR (bR (eR ?_)))))
 obtain rfl := sj h
 exact E_out (E_up (eF1))
 replace h := ifF c184 h
 refine sq (qb (p_lss_fZ c184)) ?_
 refine sq (qm bf) ?_
 iterate 9 refine ss ?_
 refine sq (qpf bf) ?_
 refine sq (qa bf) ?_
 refine st_end (eS (cF rfl (lS (lO ?_))))
 refine pq (qa bf) ?_
 refine oE (eS (lR (bR (bR (eR ?_)))))
 obtain rfl := sj h
 exact E_out (E_up (eF1))
 replace h := ifF c172 h
 refine sq (qb (p_lss_fZ c172)) ?_
 refine sq (qm bf) ?_
 iterate 9 refine ss ?_
 refine sq (qpf bf) ?_
 refine sq (qa bf) ?_
 refine st_end (eS (cF rfl (lS ?_)))
 refine L_still (by kernel_rfl) ?_
 refine sq (qm (iO n169)) ?_
 refine sq (qm (.one (sC r63 s49))) ?_
 refine sq (q_lenS rfl ty29 rfl rfl rfl rfl) ?_
 by_cases c191 : n169 < ((s49.l.length : Nat) : Int)
 replace h := ifT c191 h
 refine sq (qb (p_lss_tZ c191)) ?_
 refine sq (qm bt) ?_
 refine sq (qm (.one (sC r63 s49))) ?_
 refine sq (qm (iO n169)) ?_
 obtain ⟨⟨n194, ⟨n195, n196⟩⟩, h193, h⟩ := bindS h
 obtain ⟨h193a, h193b, h193⟩ := atS_some h193
 refine sq (q_ixS rfl rfl h193a h193 (el29.trans (congrArg some h193b.symm))) ?_
 refine sq (q_loadI (v := .agg [iI n194, iI n195, uI n196]) rfl sz64 (map_get h193) rfl rfl) ?_
 refine sq (qm (.one (sC r63 s52))) ?_
 refine sq (qm (iO n170)) ?_
 obtain ⟨⟨n199, ⟨n200, n201⟩⟩, h198, h⟩ := bindS h
 obtain ⟨h198a, h198b, h198⟩ := atS_some h198
 refine sq (q_ixS rfl rfl h198a h198 (el29.trans (congrArg some h198b.symm))) ?_
 refine sq (q_loadI (v := .agg [iI n199, iI n200, uI n201]) rfl sz64 (map_get h198) rfl rfl) ?_
 by_cases c202 : n194 = n199 ∧ n195 = n200 ∧ n196 = n201
 replace h := ifT c202 h
 refine sq (q_binA rfl rfl (by rfl) (by rfl) (eqeqlA64_t _ _ c202) rfl) ?_
 refine sq (qpt bt) ?_
 refine sq (qa bt) ?_
 refine st_end (eS (cT rfl (lO ?_)))
 refine pq (qm (iO n169)) ?_
 refine pq (qb p_addY) ?_
 refine pq (qa (iO (IntKind.i64.wrap (n169 + 1)))) ?_
 refine oE (bN (bN (eS (lO ?_))))
 refine pq (qm (iO n170)) ?_
 refine pq (qb p_addY) ?_
 refine pq (qa (iO (IntKind.i64.wrap (n170 + 1)))) ?_
 refine oE ?_
 obtain rfl := sj h
 exact E_next () (ups_self ⟨rfl, rfl, rfl, rfl, rfl, rfl, trivial⟩) [] (by decide) rfl
 replace h := ifF c202 h
 refine sq (q_binA rfl rfl (by rfl) (by rfl) (eqeqlA64_f _ _ c202) rfl) ?_
 refine sq (qpt bf) ?_
 refine sq (qa bf) ?_
 refine st_end (eS (cF rfl (lS (lO ?_))))
 refine pq (qa bf) ?_
 refine oE (eS (lR (bR (bR (eR ?_)))))
 obtain rfl := sj h
 exact E_out (E_up (eF1))
 replace h := ifF c191 h
 refine sq (qb (p_lss_fZ c191)) ?_
 refine sq (qm bf) ?_
 iterate 9 refine ss ?_
 refine sq (qpf bf) ?_
 refine sq (qa bf) ?_
 refine st_end (eS (cF rfl (lS (lO ?_))))
 refine pq (qa bf) ?_
 refine oE (eS (lR (bR (bR (eR ?_)))))
 obtain rfl := sj h
 exact E_out (E_up (eF1))
 replace h := ifF c171 h
 refine pq (qb (p_lss_fZ c171)) ?_
 refine oE (eS (cF rfl (L_exit ?_)))
 refine E_seqX ?_
 obtain rfl := sj h
 refine E_out ?_
 exact (E_exit () (ups_self trivial) [] (by decide) rfl)
 rintro (_ | u) h
 refine J_x (fun kt g => ?_)
 replace h := elimL h
 refine bH (eS (lS (lO ?_)))
 obtain ⟨b204, h203, h⟩ := bindS h
 refine pq (qc (bO b204) [] (FL_r3 (m + 1) h203) vw_nil) ?_
 refine pq (qa (bO b204)) ?_
 refine oE (eS (lR ?_))
 obtain rfl := sj h
 exact eF1
 obtain rfl := Option.some.inj (elimR h)
 exact J_up (fun s hs => hs)
end Ev
end Go.Proofs.YtlcfdmjkbaegpaaDoor
