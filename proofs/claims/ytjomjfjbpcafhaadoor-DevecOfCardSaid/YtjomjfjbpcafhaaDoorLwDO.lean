import Derived.Test.YtjomjfjbpcafhaaDoorLyPDO
import Derived.Test.YtjomjfjbpcafhaaDoorEvZ
import Derived.Test.YtjomjfjbpcafhaaDoorLy2
namespace Go.Proofs.YtjomjfjbpcafhaaDoor
namespace Ev
open Go
set_option linter.unusedVariables false
set_option linter.unusedSimpArgs false
set_option maxRecDepth 100000
set_option maxHeartbeats 1000000
attribute [local irreducible] OpsL StL TnL WpL EndL
noncomputable def devec_New (n1 : Int) : Option ((Int × Sl (Int) × Sl (Int))) :=
 (if n1 < 0 then some (0, (⟨false, 0, []⟩ : Sl (Int)), (⟨false, 0, []⟩ : Sl (Int))) else (if n1 > 4096 then some (0, (⟨false, 0, []⟩ : Sl (Int)), (⟨false, 0, []⟩ : Sl (Int))) else ((flags_New n1).bind fun s11 => ((lenOk n1).bind fun _ => some (n1, (⟨true, 1, s11⟩ : Sl (Int)), (⟨true, 1, (List.replicate n1.toNat (0 : Int))⟩ : Sl (Int)))))))
theorem devec_New_r (m : Nat) {n1 : Int} {out : (Int × Sl (Int) × Sl (Int))} (h : devec_New n1 = some out) : RunsP EP (m + 2) 20 [.one (iT .i64 n1)] (.fresh, [.agg (r24 out)]) := by
 refine fn_F rfl (by rw [EP_fn]; exact show fiOf Tryd.prog 20 = _ by unfold fiOf; rw [Tryd.func20]; unfold Tryd.f20; rfl) rfl ?_
 dsimp only
 unfold devec_New at h
 refine lS (lO ?_)
 refine ol_new rfl rfl rfl (q_alloc ty25 (row := [iI 0, nC, nC]) rfl rfl) (fun k2 => ?_)
 refine oE (eS (lS (lS (lO ?_))))
 refine pq (qm (iO n1)) ?_
 by_cases c3 : n1 < 0
 replace h := ifT c3 h
 refine pq (qb (p_lss_tZ c3)) ?_
 refine pq (qm bt) ?_
 iterate 2 refine os ?_
 refine pq (qpt bt) ?_
 refine oE (eS (cT rfl (lS (lO ?_))))
 refine pq (q_build (cs := [iI 0, nC, nC]) ty25 rfl pl25 rfl) ?_
 refine ow [[iI 0, nC, nC]] 0 sz25 ?_
 refine oE (eS (lR (eR ?_)))
 obtain rfl := sj h
 exact E_endF (.inr rfl) (res_cell (d := .agg [iI 0, nC, nC]) 0 rfl sz25 rfl rfl rfl rfl res_nil) (vw_cons (vd_agg (vc_cons vc_v (vc_cons vc_s (vc_cons vc_s vc_nil)))) vw_nil) oG rfl rfl
 replace h := ifF c3 h
 refine pq (qb (p_lss_fZ c3)) ?_
 refine pq (qm bf) ?_
 refine pq (qm (iO n1)) ?_
 by_cases c4 : n1 > 4096
 replace h := ifT c4 h
 refine pq (qb (p_gtr_tZ c4)) ?_
 refine pq (qpf bt) ?_
 refine oE (eS (cT rfl (lS (lO ?_))))
 refine pq (q_build (cs := [iI 0, nC, nC]) ty25 rfl pl25 rfl) ?_
 refine ow [[iI 0, nC, nC]] 0 sz25 ?_
 refine oE (eS (lR (eR ?_)))
 obtain rfl := sj h
 exact E_endF (.inr rfl) (res_cell (d := .agg [iI 0, nC, nC]) 0 rfl sz25 rfl rfl rfl rfl res_nil) (vw_cons (vd_agg (vc_cons vc_v (vc_cons vc_s (vc_cons vc_s vc_nil)))) vw_nil) oG rfl rfl
 replace h := ifF c4 h
 refine pq (qb (p_gtr_fZ c4)) ?_
 refine pq (qpf bf) ?_
 refine oE (eS (cF rfl (lK (eS (lS ?_)))))
 refine L_norm (L2 := ([[(k2, 3, [[iI 0, nC, nC]])]] : BL)) [0] (by decide) rfl ?_
 refine L_turn 7 rfl [[], [], [], [], [], [], [k2]] [(false, []), (false, []), (true, []), (false, []), (true, []), (false, []), (false, [])] [[1, 2, 3, 4], [0, 3, 4], [0, 3, 4], [0, 1, 2], [0, 1, 2], [], []] (by kernel_rfl) (by kernel_rfl) (by kernel_rfl) ?_ (fun bb5 hlt hnd => ?_)
 intro bb5 hlt hnd
 exact ⟨⟨djE, ⟨djE, ⟨djE, ⟨djE, ⟨djE, ⟨djE, ⟨djN, trivial⟩⟩⟩⟩⟩⟩⟩, (ltO_cons ltK_nil (ltO_cons ltK_nil (ltO_cons ltK_nil (ltO_cons ltK_nil (ltO_cons ltK_nil (ltO_cons ltK_nil (ltO_cons (ltK_cons (key_lt hlt 0 rfl) ltK_nil) ltO_nil)))))))⟩
 refine tq [] rfl hmn (qm (iO n1)) ?_
 refine tq [] rfl hmn (qm (iO n1)) ?_
 obtain ⟨s11, h10, h⟩ := bindS h
 refine tn_new rfl rfl rfl [] (by decide) rfl hmn rfl rfl (hkc (ne_new (key_lt hlt 0 rfl)) hkn) (q_callO (args := [iO n1]) (flags_New_r3 (m + 0) h10) rfl rfl (vw_cons (vd_one vc_v) vw_nil) rfl) ?_
 refine tq [] rfl hmn (qm (iO n1)) ?_
 obtain ⟨u12, h13, h⟩ := bindS h
 refine tn_new rfl rfl rfl [] (by decide) rfl hmn rfl rfl (hkc (ne_add rfl) (hkc (ne_new (key_lt hlt 0 rfl)) hkn)) (q_mkslice (r := rowC r2) (a := (0 : Int)) ty23 rfl ty2 rfl rfl (lenOk_some h13).1 (lenOk_some h13).2 rfl rfl) ?_
 refine tq [] rfl (hm0 rfl) (q_build (cs := [iI n1, .own (bb5 + 2) 0 (s11).length, .own (bb5 + 4) 0 ((List.replicate n1.toNat (0 : Int))).length]) ty25 rfl pl25 rfl) ?_
 refine tn_wr rfl rfl [2] (by decide) rfl (hm0 rfl) rfl (q_store (es' := [[iI n1, .own (bb5 + 2) 0 (s11).length, .own (bb5 + 4) 0 ((List.replicate n1.toNat (0 : Int))).length]]) 0 rfl rfl rfl sz25 rfl rfl rfl rfl rfl) (q := 2) rfl rfl ?_
 refine tn_end (eS (lR ?_))
 obtain rfl := sj h
 exact E_endF (.inr rfl) (res_cell (d := .agg [iI n1, .own (bb5 + 2) 0 (s11).length, .own (bb5 + 4) 0 ((List.replicate n1.toNat (0 : Int))).length]) 2 rfl sz25 rfl rfl rfl rfl res_nil) (vw_cons (vd_agg (vc_cons vc_v (vc_cons (vc_own (r := r85) 1 rfl (fun x h m => rfl)) (vc_cons (vc_own (r := r2) 0 rfl (fun x h m => rfl)) vc_nil)))) vw_nil) oG rfl rfl
noncomputable def ref10_New (n1 : Int) : Option ((Int × Sl (Int) × Sl (Int))) :=
 (if n1 < 0 then ((ref03_New 0).bind fun s10 => ((lenOk 0).bind fun _ => some (0, (⟨true, 1, s10⟩ : Sl (Int)), (⟨true, 1, (List.replicate (0 : Int).toNat (0 : Int))⟩ : Sl (Int))))) else (if n1 > 4096 then ((ref03_New 0).bind fun s20 => ((lenOk 0).bind fun _ => some (0, (⟨true, 1, s20⟩ : Sl (Int)), (⟨true, 1, (List.replicate (0 : Int).toNat (0 : Int))⟩ : Sl (Int))))) else ((ref03_New n1).bind fun s29 => ((lenOk n1).bind fun _ => some (n1, (⟨true, 1, s29⟩ : Sl (Int)), (⟨true, 1, (List.replicate n1.toNat (0 : Int))⟩ : Sl (Int)))))))
theorem ref10_New_r (m : Nat) {n1 : Int} {out : (Int × Sl (Int) × Sl (Int))} (h : ref10_New n1 = some out) : RunsP EP (m + 2) 21 [.one (iT .i64 n1)] (.fresh, [.agg (r24 out)]) := by
 refine fn_F rfl (by rw [EP_fn]; exact show fiOf Tryd.prog 21 = _ by unfold fiOf; rw [Tryd.func21]; unfold Tryd.f21; rfl) rfl ?_
 dsimp only
 unfold ref10_New at h
 refine lS (lO ?_)
 refine ol_new rfl rfl rfl (q_alloc ty25 (row := [iI 0, nC, nC]) rfl rfl) (fun k2 => ?_)
 refine oE (eS (lS (lS (lO ?_))))
 refine pq (qm (iO n1)) ?_
 by_cases c3 : n1 < 0
 replace h := ifT c3 h
 refine pq (qb (p_lss_tZ c3)) ?_
 refine pq (qm bt) ?_
 iterate 2 refine os ?_
 refine pq (qpt bt) ?_
 refine oE (eS (cT rfl (lO ?_)))
 refine pq (qa (iO 0)) ?_
 refine oE (eS (lS ?_))
 refine L_norm (L2 := ([[(k2, 3, [[iI 0, nC, nC]])]] : BL)) [0] (by decide) rfl ?_
 refine L_turn 7 rfl [[], [], [], [], [], [], [k2]] [(false, []), (false, []), (true, []), (false, []), (true, []), (false, []), (false, [])] [[1, 2, 3, 4], [0, 3, 4], [0, 3, 4], [0, 1, 2], [0, 1, 2], [], []] (by kernel_rfl) (by kernel_rfl) (by kernel_rfl) ?_ (fun bb4 hlt hnd => ?_)
 intro bb4 hlt hnd
 exact ⟨⟨djE, ⟨djE, ⟨djE, ⟨djE, ⟨djE, ⟨djE, ⟨djN, trivial⟩⟩⟩⟩⟩⟩⟩, (ltO_cons ltK_nil (ltO_cons ltK_nil (ltO_cons ltK_nil (ltO_cons ltK_nil (ltO_cons ltK_nil (ltO_cons ltK_nil (ltO_cons (ltK_cons (key_lt hlt 0 rfl) ltK_nil) ltO_nil)))))))⟩
 refine tq [] rfl hmn (qm (iO 0)) ?_
 refine tq [] rfl hmn (qm (iO 0)) ?_
 obtain ⟨s10, h9, h⟩ := bindS h
 refine tn_new rfl rfl rfl [] (by decide) rfl hmn rfl rfl (hkc (ne_new (key_lt hlt 0 rfl)) hkn) (q_callO (args := [iO 0]) (ref03_New_r3 (m + 0) h9) rfl rfl (vw_cons (vd_one vc_v) vw_nil) rfl) ?_
 refine tq [] rfl hmn (qm (iO 0)) ?_
 obtain ⟨u11, h12, h⟩ := bindS h
 refine tn_new rfl rfl rfl [] (by decide) rfl hmn rfl rfl (hkc (ne_add rfl) (hkc (ne_new (key_lt hlt 0 rfl)) hkn)) (q_mkslice (r := rowC r2) (a := (0 : Int)) ty23 rfl ty2 rfl rfl (lenOk_some h12).1 (lenOk_some h12).2 rfl rfl) ?_
 refine tq [] rfl (hm0 rfl) (q_build (cs := [iI 0, .own (bb4 + 2) 0 (s10).length, .own (bb4 + 4) 0 ((List.replicate (0 : Int).toNat (0 : Int))).length]) ty25 rfl pl25 rfl) ?_
 refine tn_wr rfl rfl [2] (by decide) rfl (hm0 rfl) rfl (q_store (es' := [[iI 0, .own (bb4 + 2) 0 (s10).length, .own (bb4 + 4) 0 ((List.replicate (0 : Int).toNat (0 : Int))).length]]) 0 rfl rfl rfl sz25 rfl rfl rfl rfl rfl) (q := 2) rfl rfl ?_
 refine tn_end (eS (lR ?_))
 obtain rfl := sj h
 exact E_endF (.inr rfl) (res_cell (d := .agg [iI 0, .own (bb4 + 2) 0 (s10).length, .own (bb4 + 4) 0 ((List.replicate (0 : Int).toNat (0 : Int))).length]) 2 rfl sz25 rfl rfl rfl rfl res_nil) (vw_cons (vd_agg (vc_cons vc_v (vc_cons (vc_own (r := r85) 1 rfl (fun x h m => rfl)) (vc_cons (vc_own (r := r2) 0 rfl (fun x h m => rfl)) vc_nil)))) vw_nil) oG rfl rfl
 replace h := ifF c3 h
 refine pq (qb (p_lss_fZ c3)) ?_
 refine pq (qm bf) ?_
 refine pq (qm (iO n1)) ?_
 by_cases c13 : n1 > 4096
 replace h := ifT c13 h
 refine pq (qb (p_gtr_tZ c13)) ?_
 refine pq (qpf bt) ?_
 refine oE (eS (cT rfl (lO ?_)))
 refine pq (qa (iO 0)) ?_
 refine oE (eS (lS ?_))
 refine L_norm (L2 := ([[(k2, 3, [[iI 0, nC, nC]])]] : BL)) [0] (by decide) rfl ?_
 refine L_turn 7 rfl [[], [], [], [], [], [], [k2]] [(false, []), (false, []), (true, []), (false, []), (true, []), (false, []), (false, [])] [[1, 2, 3, 4], [0, 3, 4], [0, 3, 4], [0, 1, 2], [0, 1, 2], [], []] (by kernel_rfl) (by kernel_rfl) (by kernel_rfl) ?_ (fun bb14 hlt hnd => ?_)
 intro bb14 hlt hnd
 exact ⟨⟨djE, ⟨djE, ⟨djE, ⟨djE, ⟨djE, ⟨djE, ⟨djN, trivial⟩⟩⟩⟩⟩⟩⟩, (ltO_cons ltK_nil (ltO_cons ltK_nil (ltO_cons ltK_nil (ltO_cons ltK_nil (ltO_cons ltK_nil (ltO_cons ltK_nil (ltO_cons (ltK_cons (key_lt hlt 0 rfl) ltK_nil) ltO_nil)))))))⟩
 refine tq [] rfl hmn (qm (iO 0)) ?_
 refine tq [] rfl hmn (qm (iO 0)) ?_
 obtain ⟨s20, h19, h⟩ := bindS h
 refine tn_new rfl rfl rfl [] (by decide) rfl hmn rfl rfl (hkc (ne_new (key_lt hlt 0 rfl)) hkn) (q_callO (args := [iO 0]) (ref03_New_r3 (m + 0) h19) rfl rfl (vw_cons (vd_one vc_v) vw_nil) rfl) ?_
 refine tq [] rfl hmn (qm (iO 0)) ?_
 obtain ⟨u21, h22, h⟩ := bindS h
 refine tn_new rfl rfl rfl [] (by decide) rfl hmn rfl rfl (hkc (ne_add rfl) (hkc (ne_new (key_lt hlt 0 rfl)) hkn)) (q_mkslice (r := rowC r2) (a := (0 : Int)) ty23 rfl ty2 rfl rfl (lenOk_some h22).1 (lenOk_some h22).2 rfl rfl) ?_
 refine tq [] rfl (hm0 rfl) (q_build (cs := [iI 0, .own (bb14 + 2) 0 (s20).length, .own (bb14 + 4) 0 ((List.replicate (0 : Int).toNat (0 : Int))).length]) ty25 rfl pl25 rfl) ?_
 refine tn_wr rfl rfl [2] (by decide) rfl (hm0 rfl) rfl (q_store (es' := [[iI 0, .own (bb14 + 2) 0 (s20).length, .own (bb14 + 4) 0 ((List.replicate (0 : Int).toNat (0 : Int))).length]]) 0 rfl rfl rfl sz25 rfl rfl rfl rfl rfl) (q := 2) rfl rfl ?_
 refine tn_end (eS (lR ?_))
 obtain rfl := sj h
 exact E_endF (.inr rfl) (res_cell (d := .agg [iI 0, .own (bb14 + 2) 0 (s20).length, .own (bb14 + 4) 0 ((List.replicate (0 : Int).toNat (0 : Int))).length]) 2 rfl sz25 rfl rfl rfl rfl res_nil) (vw_cons (vd_agg (vc_cons vc_v (vc_cons (vc_own (r := r85) 1 rfl (fun x h m => rfl)) (vc_cons (vc_own (r := r2) 0 rfl (fun x h m => rfl)) vc_nil)))) vw_nil) oG rfl rfl
 replace h := ifF c13 h
 refine pq (qb (p_gtr_fZ c13)) ?_
 refine pq (qpf bf) ?_
 refine oE (eS (cF rfl (lK (eS (lS ?_)))))
 refine L_norm (L2 := ([[(k2, 3, [[iI 0, nC, nC]])]] : BL)) [0] (by decide) rfl ?_
 refine L_turn 7 rfl [[], [], [], [], [], [], [k2]] [(false, []), (false, []), (true, []), (false, []), (true, []), (false, []), (false, [])] [[1, 2, 3, 4], [0, 3, 4], [0, 3, 4], [0, 1, 2], [0, 1, 2], [], []] (by kernel_rfl) (by kernel_rfl) (by kernel_rfl) ?_ (fun bb23 hlt hnd => ?_)
 intro bb23 hlt hnd
 exact ⟨⟨djE, ⟨djE, ⟨djE, ⟨djE, ⟨djE, ⟨djE, ⟨djN, trivial⟩⟩⟩⟩⟩⟩⟩, (ltO_cons ltK_nil (ltO_cons ltK_nil (ltO_cons ltK_nil (ltO_cons ltK_nil (ltO_cons ltK_nil (ltO_cons ltK_nil (ltO_cons (ltK_cons (key_lt hlt 0 rfl) ltK_nil) ltO_nil)))))))⟩
 refine tq [] rfl hmn (qm (iO n1)) ?_
 refine tq [] rfl hmn (qm (iO n1)) ?_
 obtain ⟨s29, h28, h⟩ := bindS h
 refine tn_new rfl rfl rfl [] (by decide) rfl hmn rfl rfl (hkc (ne_new (key_lt hlt 0 rfl)) hkn) (q_callO (args := [iO n1]) (ref03_New_r3 (m + 0) h28) rfl rfl (vw_cons (vd_one vc_v) vw_nil) rfl) ?_
 refine tq [] rfl hmn (qm (iO n1)) ?_
 obtain ⟨u30, h31, h⟩ := bindS h
 refine tn_new rfl rfl rfl [] (by decide) rfl hmn rfl rfl (hkc (ne_add rfl) (hkc (ne_new (key_lt hlt 0 rfl)) hkn)) (q_mkslice (r := rowC r2) (a := (0 : Int)) ty23 rfl ty2 rfl rfl (lenOk_some h31).1 (lenOk_some h31).2 rfl rfl) ?_
 refine tq [] rfl (hm0 rfl) (q_build (cs := [iI n1, .own (bb23 + 2) 0 (s29).length, .own (bb23 + 4) 0 ((List.replicate n1.toNat (0 : Int))).length]) ty25 rfl pl25 rfl) ?_
 refine tn_wr rfl rfl [2] (by decide) rfl (hm0 rfl) rfl (q_store (es' := [[iI n1, .own (bb23 + 2) 0 (s29).length, .own (bb23 + 4) 0 ((List.replicate n1.toNat (0 : Int))).length]]) 0 rfl rfl rfl sz25 rfl rfl rfl rfl rfl) (q := 2) rfl rfl ?_
 refine tn_end (eS (lR ?_))
 obtain rfl := sj h
 exact E_endF (.inr rfl) (res_cell (d := .agg [iI n1, .own (bb23 + 2) 0 (s29).length, .own (bb23 + 4) 0 ((List.replicate n1.toNat (0 : Int))).length]) 2 rfl sz25 rfl rfl rfl rfl res_nil) (vw_cons (vd_agg (vc_cons vc_v (vc_cons (vc_own (r := r85) 1 rfl (fun x h m => rfl)) (vc_cons (vc_own (r := r2) 0 rfl (fun x h m => rfl)) vc_nil)))) vw_nil) oG rfl rfl
noncomputable def law10_DevecOf (a0 : Int × Sl (Int) × Sl (Int)) (a1 : Int × (Sl (Int × Int))) (n6 : Int) : Option (Bool) :=
 match a0, a1 with
 | (n1, s2, s3), (n4, s5) => ((law09_Few (n4, s5)).bind fun (n10, s11) => ((FL).bind fun b14 => (if b14 = true then ((law10_small (n1, s2, s3)).bind fun b16 => (if b16 = true then ((devec_Right (n1, s2, s3)).bind fun b38 => ((ref10_Right (n1, s2, s3)).bind fun b40 => (if b38 = true then (if b40 = true then ((devec_Back (n1, s2, s3)).bind fun (n70, s71) => ((ref10_Back (n1, s2, s3)).bind fun (n73, s74) => ((ref09_Same (n70, s71) (n73, s74)).bind fun b76 => (if b76 = true then ((devec_Of (n10, s11)).bind fun (n78, s79, s80) => ((ref10_Of (n10, s11)).bind fun (n82, s83, s84) => ((ref10_Same (n78, s79, s80) (n82, s83, s84)).bind fun b86 => (if b86 = true then ((devec_New n6).bind fun (n88, s89, s90) => ((ref10_New n6).bind fun (n92, s93, s94) => ((ref10_Same (n88, s89, s90) (n92, s93, s94)).bind fun b96 => some b96))) else some false)))) else some false)))) else some false) else (if b40 = true then some false else ((devec_Back (n1, s2, s3)).bind fun (n42, s43) => ((ref10_Back (n1, s2, s3)).bind fun (n45, s46) => ((ref09_Same (n42, s43) (n45, s46)).bind fun b48 => (if b48 = true then ((devec_Of (n10, s11)).bind fun (n50, s51, s52) => ((ref10_Of (n10, s11)).bind fun (n54, s55, s56) => ((ref10_Same (n50, s51, s52) (n54, s55, s56)).bind fun b58 => (if b58 = true then ((devec_New n6).bind fun (n60, s61, s62) => ((ref10_New n6).bind fun (n64, s65, s66) => ((ref10_Same (n60, s61, s62) (n64, s65, s66)).bind fun b68 => some b68))) else some false)))) else some false)))))))) else ((devec_Of (n10, s11)).bind fun (n18, s19, s20) => ((ref10_Of (n10, s11)).bind fun (n22, s23, s24) => ((ref10_Same (n18, s19, s20) (n22, s23, s24)).bind fun b26 => (if b26 = true then ((devec_New n6).bind fun (n28, s29, s30) => ((ref10_New n6).bind fun (n32, s33, s34) => ((ref10_Same (n28, s29, s30) (n32, s33, s34)).bind fun b36 => some b36))) else some false)))))) else some false)))
theorem law10_DevecOf_r (m : Nat) {a0 : Int × Sl (Int) × Sl (Int)} {a1 : Int × (Sl (Int × Int))} {n6 : Int} {out : Bool} (h : law10_DevecOf a0 a1 n6 = some out) : RunsP EP (m + 3) 3 [.agg (r24 a0), .agg (r27 a1), .one (iT .i64 n6)] (.fresh, [.one (bT out)]) := by
 obtain ⟨n1, s2, s3⟩ := a0
 obtain ⟨n4, s5⟩ := a1
 refine fn_F rfl (by rw [EP_fn]; exact show fiOf Tryd.prog 3 = _ by unfold fiOf; rw [Tryd.func3]; unfold Tryd.f3; rfl) rfl ?_
 dsimp only
 unfold law10_DevecOf at h
 refine lS (lO ?_)
 refine ol_new rfl rfl rfl (q_box ty25 rfl (cs := [iI n1, sF r85 s2, sF r2 s3]) rfl rfl) (fun k7 => ?_)
 refine ol_new rfl rfl rfl (q_box ty28 rfl (cs := [iI n4, sF r38 s5]) rfl rfl) (fun k8 => ?_)
 refine pq (qa bf) ?_
 refine oN ?_
 refine pq (ql (.agg [iI n4, sF r38 s5]) 0 sz28) ?_
 obtain ⟨⟨n10, s11⟩, h9, h⟩ := bindS h
 refine ol_putX rfl rfl rfl (q_callX (v := fun fr12 => .agg [iI n10, .p fr12 (Sl.t r38 s11)]) (args := [.agg [iI n4, sF r38 s5]]) (law09_Few_r3 (m + 1) h9) rfl rfl (vw_cons (vd_agg (vc_cons vc_v (vc_cons vc_s vc_nil))) vw_nil) rfl rfl (fun fr => rfl)) (fun fr12 => ?_)
 refine ow [[iI n10, .p fr12 (Sl.t r38 s11)]] 0 sz28 ?_
 refine oE (eS (lS ?_))
 refine L_still (by kernel_rfl) ?_
 obtain ⟨b14, h13, h⟩ := bindS h
 refine sq (qc (bO b14) [] (FL_r3 (m + 1) h13) vw_nil) ?_
 refine sq (qm (bO b14)) ?_
 rcases b14 with _ | _
 replace h := wF h
 iterate 17 refine ss ?_
 refine sq (qpf bf) ?_
 refine sq (qm bf) ?_
 iterate 5 refine ss ?_
 refine sq (qpf bf) ?_
 refine sq (qm bf) ?_
 iterate 5 refine ss ?_
 refine sq (qpf bf) ?_
 refine sq (qa bf) ?_
 refine st_end (eS (lR ?_))
 obtain rfl := sj h
 exact eF1
 replace h := wT h
 refine sq (ql (.agg [iI n1, sF r85 s2, sF r2 s3]) 1 sz25) ?_
 obtain ⟨b16, h15, h⟩ := bindS h
 refine sq (qc (bO b16) [.agg [iI n1, sF r85 s2, sF r2 s3]] (law10_small_r3 (m + 1) h15) (vw_cons (vd_agg (vc_cons vc_v (vc_cons vc_s (vc_cons vc_s vc_nil)))) vw_nil)) ?_
 rcases b16 with _ | _
 replace h := wF h
 refine sq (q_not rfl) ?_
 refine sq (qm bt) ?_
 iterate 12 refine ss ?_
 refine sq (qpt bt) ?_
 refine sq (qpt bt) ?_
 refine sq (qm bt) ?_
 refine sq (ql (.agg [iI n10, .p fr12 (Sl.t r38 s11)]) 0 sz28) ?_
 obtain ⟨⟨n18, s19, s20⟩, h17, h⟩ := bindS h
 refine sq (qc (.agg [iI n18, sC r85 s19, sC r2 s20]) [.agg [iI n10, .p fr12 (Sl.t r38 s11)]] (devec_Of_r3 (m + 1) h17) (vw_cons (vd_agg (vc_cons vc_v (vc_cons vc_s vc_nil))) vw_nil)) ?_
 refine sq (ql (.agg [iI n10, .p fr12 (Sl.t r38 s11)]) 0 sz28) ?_
 obtain ⟨⟨n22, s23, s24⟩, h21, h⟩ := bindS h
 refine sq (qc (.agg [iI n22, sC r85 s23, sC r2 s24]) [.agg [iI n10, .p fr12 (Sl.t r38 s11)]] (ref10_Of_r3 (m + 1) h21) (vw_cons (vd_agg (vc_cons vc_v (vc_cons vc_s vc_nil))) vw_nil)) ?_
 obtain ⟨b26, h25, h⟩ := bindS h
 refine sq (qc (bO b26) [.agg [iI n18, sC r85 s19, sC r2 s20], .agg [iI n22, sC r85 s23, sC r2 s24]] (ref10_Same_r3 (m + 1) h25) (vw_cons (vd_agg (vc_cons vc_v (vc_cons vc_s (vc_cons vc_s vc_nil)))) (vw_cons (vd_agg (vc_cons vc_v (vc_cons vc_s (vc_cons vc_s vc_nil)))) vw_nil))) ?_
 refine sq (qpt (bO b26)) ?_
 refine sq (qm (bO b26)) ?_
 rcases b26 with _ | _
 replace h := wF h
 iterate 5 refine ss ?_
 refine sq (qpf bf) ?_
 refine sq (qa bf) ?_
 refine st_end (eS (lR ?_))
 obtain rfl := sj h
 exact eF1
 replace h := wT h
 refine sq (qm (iO n6)) ?_
 obtain ⟨⟨n28, s29, s30⟩, h27, h⟩ := bindS h
 refine sq (qc (.agg [iI n28, sC r85 s29, sC r2 s30]) [iO n6] (devec_New_r (m + 0) h27) (vw_cons (vd_one vc_v) vw_nil)) ?_
 refine sq (qm (iO n6)) ?_
 obtain ⟨⟨n32, s33, s34⟩, h31, h⟩ := bindS h
 refine sq (qc (.agg [iI n32, sC r85 s33, sC r2 s34]) [iO n6] (ref10_New_r (m + 0) h31) (vw_cons (vd_one vc_v) vw_nil)) ?_
 obtain ⟨b36, h35, h⟩ := bindS h
 refine sq (qc (bO b36) [.agg [iI n28, sC r85 s29, sC r2 s30], .agg [iI n32, sC r85 s33, sC r2 s34]] (ref10_Same_r3 (m + 1) h35) (vw_cons (vd_agg (vc_cons vc_v (vc_cons vc_s (vc_cons vc_s vc_nil)))) (vw_cons (vd_agg (vc_cons vc_v (vc_cons vc_s (vc_cons vc_s vc_nil)))) vw_nil))) ?_
 refine sq (qpt (bO b36)) ?_
 refine sq (qa (bO b36)) ?_
 refine st_end (eS (lR ?_))
 obtain rfl := sj h
 exact eF1
 replace h := wT h
 refine sq (q_not rfl) ?_
 refine sq (qm bf) ?_
 refine sq (ql (.agg [iI n1, sF r85 s2, sF r2 s3]) 1 sz25) ?_
 obtain ⟨b38, h37, h⟩ := bindS h
 refine sq (qc (bO b38) [.agg [iI n1, sF r85 s2, sF r2 s3]] (devec_Right_r3 (m + 1) h37) (vw_cons (vd_agg (vc_cons vc_v (vc_cons vc_s (vc_cons vc_s vc_nil)))) vw_nil)) ?_
 refine sq (ql (.agg [iI n1, sF r85 s2, sF r2 s3]) 1 sz25) ?_
 obtain ⟨b40, h39, h⟩ := bindS h
 refine sq (qc (bO b40) [.agg [iI n1, sF r85 s2, sF r2 s3]] (ref10_Right_r3 (m + 1) h39) (vw_cons (vd_agg (vc_cons vc_v (vc_cons vc_s (vc_cons vc_s vc_nil)))) vw_nil)) ?_
 rcases b38 with _ | _
 replace h := wF h
 rcases b40 with _ | _
 replace h := wF h
 refine sq (q_binB rfl rfl (eqeqlB4 _ _ _ _) rfl) ?_
 refine sq (qm bt) ?_
 refine sq (ql (.agg [iI n1, sF r85 s2, sF r2 s3]) 1 sz25) ?_
 obtain ⟨⟨n42, s43⟩, h41, h⟩ := bindS h
 refine sq (qc (.agg [iI n42, sC r38 s43]) [.agg [iI n1, sF r85 s2, sF r2 s3]] (devec_Back_r3 (m + 1) h41) (vw_cons (vd_agg (vc_cons vc_v (vc_cons vc_s (vc_cons vc_s vc_nil)))) vw_nil)) ?_
 refine sq (ql (.agg [iI n1, sF r85 s2, sF r2 s3]) 1 sz25) ?_
 obtain ⟨⟨n45, s46⟩, h44, h⟩ := bindS h
 refine sq (qc (.agg [iI n45, sC r38 s46]) [.agg [iI n1, sF r85 s2, sF r2 s3]] (ref10_Back_r3 (m + 1) h44) (vw_cons (vd_agg (vc_cons vc_v (vc_cons vc_s (vc_cons vc_s vc_nil)))) vw_nil)) ?_
 obtain ⟨b48, h47, h⟩ := bindS h
 refine sq (qc (bO b48) [.agg [iI n42, sC r38 s43], .agg [iI n45, sC r38 s46]] (ref09_Same_r3 (m + 1) h47) (vw_cons (vd_agg (vc_cons vc_v (vc_cons vc_s vc_nil))) (vw_cons (vd_agg (vc_cons vc_v (vc_cons vc_s vc_nil))) vw_nil))) ?_
 refine sq (qpt (bO b48)) ?_
 refine sq (qpf (bO b48)) ?_
 refine sq (qpt (bO b48)) ?_
 refine sq (qm (bO b48)) ?_
 rcases b48 with _ | _
 replace h := wF h
 iterate 5 refine ss ?_
 refine sq (qpf bf) ?_
 refine sq (qm bf) ?_
 iterate 5 refine ss ?_
 refine sq (qpf bf) ?_
 refine sq (qa bf) ?_
 refine st_end (eS (lR ?_))
 obtain rfl := sj h
 exact eF1
 replace h := wT h
 refine sq (ql (.agg [iI n10, .p fr12 (Sl.t r38 s11)]) 0 sz28) ?_
 obtain ⟨⟨n50, s51, s52⟩, h49, h⟩ := bindS h
 refine sq (qc (.agg [iI n50, sC r85 s51, sC r2 s52]) [.agg [iI n10, .p fr12 (Sl.t r38 s11)]] (devec_Of_r3 (m + 1) h49) (vw_cons (vd_agg (vc_cons vc_v (vc_cons vc_s vc_nil))) vw_nil)) ?_
 refine sq (ql (.agg [iI n10, .p fr12 (Sl.t r38 s11)]) 0 sz28) ?_
 obtain ⟨⟨n54, s55, s56⟩, h53, h⟩ := bindS h
 refine sq (qc (.agg [iI n54, sC r85 s55, sC r2 s56]) [.agg [iI n10, .p fr12 (Sl.t r38 s11)]] (ref10_Of_r3 (m + 1) h53) (vw_cons (vd_agg (vc_cons vc_v (vc_cons vc_s vc_nil))) vw_nil)) ?_
 obtain ⟨b58, h57, h⟩ := bindS h
 refine sq (qc (bO b58) [.agg [iI n50, sC r85 s51, sC r2 s52], .agg [iI n54, sC r85 s55, sC r2 s56]] (ref10_Same_r3 (m + 1) h57) (vw_cons (vd_agg (vc_cons vc_v (vc_cons vc_s (vc_cons vc_s vc_nil)))) (vw_cons (vd_agg (vc_cons vc_v (vc_cons vc_s (vc_cons vc_s vc_nil)))) vw_nil))) ?_
 refine sq (qpt (bO b58)) ?_
 refine sq (qm (bO b58)) ?_
 rcases b58 with _ | _
 replace h := wF h
 iterate 5 refine ss ?_
 refine sq (qpf bf) ?_
 refine sq (qa bf) ?_
 refine st_end (eS (lR ?_))
 obtain rfl := sj h
 exact eF1
 replace h := wT h
 refine sq (qm (iO n6)) ?_
 obtain ⟨⟨n60, s61, s62⟩, h59, h⟩ := bindS h
 refine sq (qc (.agg [iI n60, sC r85 s61, sC r2 s62]) [iO n6] (devec_New_r (m + 0) h59) (vw_cons (vd_one vc_v) vw_nil)) ?_
 refine sq (qm (iO n6)) ?_
 obtain ⟨⟨n64, s65, s66⟩, h63, h⟩ := bindS h
 refine sq (qc (.agg [iI n64, sC r85 s65, sC r2 s66]) [iO n6] (ref10_New_r (m + 0) h63) (vw_cons (vd_one vc_v) vw_nil)) ?_
 obtain ⟨b68, h67, h⟩ := bindS h
 refine sq (qc (bO b68) [.agg [iI n60, sC r85 s61, sC r2 s62], .agg [iI n64, sC r85 s65, sC r2 s66]] (ref10_Same_r3 (m + 1) h67) (vw_cons (vd_agg (vc_cons vc_v (vc_cons vc_s (vc_cons vc_s vc_nil)))) (vw_cons (vd_agg (vc_cons vc_v (vc_cons vc_s (vc_cons vc_s vc_nil)))) vw_nil))) ?_
 refine sq (qpt (bO b68)) ?_
 refine sq (qa (bO b68)) ?_
 refine st_end (eS (lR ?_))
 obtain rfl := sj h
 exact eF1
 replace h := wT h
 refine sq (q_binB rfl rfl (eqeqlB4 _ _ _ _) rfl) ?_
 refine sq (qm bf) ?_
 iterate 5 refine ss ?_
 refine sq (qpf bf) ?_
 refine sq (qpf bf) ?_
 refine sq (qpt bf) ?_
 refine sq (qm bf) ?_
 iterate 5 refine ss ?_
 refine sq (qpf bf) ?_
 refine sq (qm bf) ?_
 iterate 5 refine ss ?_
 refine sq (qpf bf) ?_
 refine sq (qa bf) ?_
 refine st_end (eS (lR ?_))
 obtain rfl := sj h
 exact eF1
 replace h := wT h
 rcases b40 with _ | _
 replace h := wF h
 refine sq (q_binB rfl rfl (eqeqlB4 _ _ _ _) rfl) ?_
 refine sq (qm bf) ?_
 iterate 5 refine ss ?_
 refine sq (qpf bf) ?_
 refine sq (qpf bf) ?_
 refine sq (qpt bf) ?_
 refine sq (qm bf) ?_
 iterate 5 refine ss ?_
 refine sq (qpf bf) ?_
 refine sq (qm bf) ?_
 iterate 5 refine ss ?_
 refine sq (qpf bf) ?_
 refine sq (qa bf) ?_
 refine st_end (eS (lR ?_))
 obtain rfl := sj h
 exact eF1
 replace h := wT h
 refine sq (q_binB rfl rfl (eqeqlB4 _ _ _ _) rfl) ?_
 refine sq (qm bt) ?_
 refine sq (ql (.agg [iI n1, sF r85 s2, sF r2 s3]) 1 sz25) ?_
 obtain ⟨⟨n70, s71⟩, h69, h⟩ := bindS h
 refine sq (qc (.agg [iI n70, sC r38 s71]) [.agg [iI n1, sF r85 s2, sF r2 s3]] (devec_Back_r3 (m + 1) h69) (vw_cons (vd_agg (vc_cons vc_v (vc_cons vc_s (vc_cons vc_s vc_nil)))) vw_nil)) ?_
 refine sq (ql (.agg [iI n1, sF r85 s2, sF r2 s3]) 1 sz25) ?_
 obtain ⟨⟨n73, s74⟩, h72, h⟩ := bindS h
 refine sq (qc (.agg [iI n73, sC r38 s74]) [.agg [iI n1, sF r85 s2, sF r2 s3]] (ref10_Back_r3 (m + 1) h72) (vw_cons (vd_agg (vc_cons vc_v (vc_cons vc_s (vc_cons vc_s vc_nil)))) vw_nil)) ?_
 obtain ⟨b76, h75, h⟩ := bindS h
 refine sq (qc (bO b76) [.agg [iI n70, sC r38 s71], .agg [iI n73, sC r38 s74]] (ref09_Same_r3 (m + 1) h75) (vw_cons (vd_agg (vc_cons vc_v (vc_cons vc_s vc_nil))) (vw_cons (vd_agg (vc_cons vc_v (vc_cons vc_s vc_nil))) vw_nil))) ?_
 refine sq (qpt (bO b76)) ?_
 refine sq (qpf (bO b76)) ?_
 refine sq (qpt (bO b76)) ?_
 refine sq (qm (bO b76)) ?_
 rcases b76 with _ | _
 replace h := wF h
 iterate 5 refine ss ?_
 refine sq (qpf bf) ?_
 refine sq (qm bf) ?_
 iterate 5 refine ss ?_
 refine sq (qpf bf) ?_
 refine sq (qa bf) ?_
 refine st_end (eS (lR ?_))
 obtain rfl := sj h
 exact eF1
 replace h := wT h
 refine sq (ql (.agg [iI n10, .p fr12 (Sl.t r38 s11)]) 0 sz28) ?_
 obtain ⟨⟨n78, s79, s80⟩, h77, h⟩ := bindS h
 refine sq (qc (.agg [iI n78, sC r85 s79, sC r2 s80]) [.agg [iI n10, .p fr12 (Sl.t r38 s11)]] (devec_Of_r3 (m + 1) h77) (vw_cons (vd_agg (vc_cons vc_v (vc_cons vc_s vc_nil))) vw_nil)) ?_
 refine sq (ql (.agg [iI n10, .p fr12 (Sl.t r38 s11)]) 0 sz28) ?_
 obtain ⟨⟨n82, s83, s84⟩, h81, h⟩ := bindS h
 refine sq (qc (.agg [iI n82, sC r85 s83, sC r2 s84]) [.agg [iI n10, .p fr12 (Sl.t r38 s11)]] (ref10_Of_r3 (m + 1) h81) (vw_cons (vd_agg (vc_cons vc_v (vc_cons vc_s vc_nil))) vw_nil)) ?_
 obtain ⟨b86, h85, h⟩ := bindS h
 refine sq (qc (bO b86) [.agg [iI n78, sC r85 s79, sC r2 s80], .agg [iI n82, sC r85 s83, sC r2 s84]] (ref10_Same_r3 (m + 1) h85) (vw_cons (vd_agg (vc_cons vc_v (vc_cons vc_s (vc_cons vc_s vc_nil)))) (vw_cons (vd_agg (vc_cons vc_v (vc_cons vc_s (vc_cons vc_s vc_nil)))) vw_nil))) ?_
 refine sq (qpt (bO b86)) ?_
 refine sq (qm (bO b86)) ?_
 rcases b86 with _ | _
 replace h := wF h
 iterate 5 refine ss ?_
 refine sq (qpf bf) ?_
 refine sq (qa bf) ?_
 refine st_end (eS (lR ?_))
 obtain rfl := sj h
 exact eF1
 replace h := wT h
 refine sq (qm (iO n6)) ?_
 obtain ⟨⟨n88, s89, s90⟩, h87, h⟩ := bindS h
 refine sq (qc (.agg [iI n88, sC r85 s89, sC r2 s90]) [iO n6] (devec_New_r (m + 0) h87) (vw_cons (vd_one vc_v) vw_nil)) ?_
 refine sq (qm (iO n6)) ?_
 obtain ⟨⟨n92, s93, s94⟩, h91, h⟩ := bindS h
 refine sq (qc (.agg [iI n92, sC r85 s93, sC r2 s94]) [iO n6] (ref10_New_r (m + 0) h91) (vw_cons (vd_one vc_v) vw_nil)) ?_
 obtain ⟨b96, h95, h⟩ := bindS h
 refine sq (qc (bO b96) [.agg [iI n88, sC r85 s89, sC r2 s90], .agg [iI n92, sC r85 s93, sC r2 s94]] (ref10_Same_r3 (m + 1) h95) (vw_cons (vd_agg (vc_cons vc_v (vc_cons vc_s (vc_cons vc_s vc_nil)))) (vw_cons (vd_agg (vc_cons vc_v (vc_cons vc_s (vc_cons vc_s vc_nil)))) vw_nil))) ?_
 refine sq (qpt (bO b96)) ?_
 refine sq (qa (bO b96)) ?_
 refine st_end (eS (lR ?_))
 obtain rfl := sj h
 exact eF1
end Ev
end Go.Proofs.YtjomjfjbpcafhaaDoor
