/- Functions of the program as functions on data, and that they are. -/
import Derived.Test.YtlcfdmjkbaegpaaEvZ
import Derived.Test.YtlcfdmjkbaegpaaLf1
import Derived.Test.YtlcfdmjkbaegpaaLf5
import Derived.Test.YtlcfdmjkbaegpaaLf6
import Derived.Test.YtlcfdmjkbaegpaaLy1
import Derived.Test.YtlcfdmjkbaegpaaLy2
namespace Go.Proofs.Ytlcfdmjkbaegpaa
namespace Ev
open Go
set_option linter.unusedVariables false
set_option linter.unusedSimpArgs false
set_option maxRecDepth 100000
set_option maxHeartbeats 1000000
attribute [local irreducible] OpsL StL TnL WpL EndL
noncomputable def ring_Zero (n1 : Int) : Option (Int) :=
  (if n1 = 1 then some 4611686018427387904 else (if n1 = 3 then some 4611686018427387904 else (if n1 = 4 then some 4611686018427387904 else some 0)))
theorem ring_Zero_r (m : Nat) {n1 : Int} {out : Int} (h : ring_Zero n1 = some out) : RunsP E1 (m + 1) 54 [.one (iT .i64 n1)] (.fresh, [.one (iT .i64 out)]) := by
 refine fn_F rfl (by rw [E1_fn]; exact show fiOf Try.prog 54 = _ by unfold fiOf; rw [Try.func54]; unfold Try.f54; rfl) rfl ?_
 dsimp only
 unfold ring_Zero at h
 refine lS (lO ?_)
 refine pq (qa (iO 0)) ?_
 refine oE (eS (lS (lS (lO ?_))))
 refine pq (qm (iO n1)) ?_
 refine oE (eS (lB (lS (lS (lO ?_)))))
 by_cases c2 : n1 = 1
 replace h := ifT c2 h
 refine pq (qb (p_eql_tZ c2)) ?_
 refine pq (qa bt) ?_
 refine oE (eS (cT rfl (lK (eS (cT rfl (lS (lO ?_)))))))
 refine pq (qa (iO 4611686018427387904)) ?_
 refine oE (eS (lR (bR (eR ?_))))
 obtain rfl := sj h
 exact eF1
 replace h := ifF c2 h
 refine pq (qb (p_eql_fZ c2)) ?_
 refine pq (qa bf) ?_
 refine oE (eS (cF rfl (lS (lO ?_))))
 by_cases c3 : n1 = 3
 replace h := ifT c3 h
 refine pq (qb (p_eql_tZ c3)) ?_
 refine pq (qa bt) ?_
 refine oE (eS (cT rfl (lK (eS (cT rfl (lS (lO ?_)))))))
 refine pq (qa (iO 4611686018427387904)) ?_
 refine oE (eS (lR (bR (eR ?_))))
 obtain rfl := sj h
 exact eF1
 replace h := ifF c3 h
 refine pq (qb (p_eql_fZ c3)) ?_
 refine pq (qa bf) ?_
 refine oE (eS (cF rfl (lO ?_)))
 by_cases c4 : n1 = 4
 replace h := ifT c4 h
 refine pq (qb (p_eql_tZ c4)) ?_
 refine pq (qa bt) ?_
 refine oE (eS (cT rfl (lS (lO ?_))))
 refine pq (qa (iO 4611686018427387904)) ?_
 refine oE (eS (lR (bR (eR ?_))))
 obtain rfl := sj h
 exact eF1
 replace h := ifF c4 h
 refine pq (qb (p_eql_fZ c4)) ?_
 refine pq (qa bf) ?_
 refine oE (eS (cF rfl (lK (bN (eS (lS (lO ?_)))))))
 refine pq (qa (iO 0)) ?_
 refine oE (eS (lR ?_))
 obtain rfl := sj h
 exact eF1

noncomputable def fold_sure (a0 : Int × (Sl (Int × Int))) : Option ((Int × (Sl (Int × Int)))) :=
  match a0 with
  | (n1, s2) => ((spvec_Right (n1, s2)).bind fun b6 => (if b6 = true then some (n1, s2) else some (0, (⟨false, 0, []⟩ : Sl (Int × Int)))))
theorem fold_sure_r (m : Nat) {a0 : Int × (Sl (Int × Int))} {out : (Int × (Sl (Int × Int)))} (h : fold_sure a0 = some out) : RunsX E1 (m + 3) 55 [.agg (r24 a0)] [.agg (r24 out)] := by
 obtain ⟨n1, s2⟩ := a0
 refine fn_X rfl (by rw [E1_fn]; exact show fiOf Try.prog 55 = _ by unfold fiOf; rw [Try.func55]; unfold Try.f55; rfl) rfl ?_
 dsimp only
 unfold fold_sure at h
 refine lS (lO ?_)
 refine ol_new rfl rfl rfl (q_box ty25 rfl (cs := [iI n1, sF r56 s2]) rfl rfl) (fun k3 => ?_)
 refine ol_new rfl rfl rfl (q_alloc ty25 (row := [iI 0, nC]) rfl rfl) (fun k4 => ?_)
 refine oE (eS (lS (lS (lO ?_))))
 refine pq (ql (.agg [iI n1, sF r56 s2]) 1 sz25) ?_
 obtain ⟨b6, h5, h⟩ := bindS h
 refine pq (qc (bO b6) [.agg [iI n1, sF r56 s2]] (spvec_Right_r (m + 0) h5) (vw_cons (vd_agg (vc_cons vc_v (vc_cons vc_s vc_nil))) vw_nil)) ?_
 refine oE (eS ?_)
 rcases b6 with _ | _
 replace h := wF h
 refine cF rfl (lK (eS (lS (lO ?_))))
 refine pq (q_build (cs := [iI 0, nC]) ty25 rfl pl25 rfl) ?_
 refine ow [[iI 0, nC]] 0 sz25 ?_
 refine oE (eS (lR ?_))
 obtain rfl := sj h
 exact E_endX (.inr rfl) (res_cell (d := .agg [iI 0, nC]) 0 rfl sz25 rfl rfl rfl rfl res_nil) (vw_cons (vd_agg (vc_cons vc_v (vc_cons vc_s vc_nil))) vw_nil) oG rfl
 replace h := wT h
 refine cT rfl (lS (lO ?_))
 refine pq (ql (.agg [iI n1, sF r56 s2]) 1 sz25) ?_
 refine ow [[iI n1, sF r56 s2]] 0 sz25 ?_
 refine oE (eS (lR (eR ?_)))
 obtain rfl := sj h
 exact E_endX (.inr rfl) (res_cell (d := .agg [iI n1, sF r56 s2]) 0 rfl sz25 rfl rfl rfl rfl res_nil) (vw_cons (vd_agg (vc_cons vc_v (vc_cons vc_s vc_nil))) vw_nil) oG rfl

noncomputable def ring_Narrow (n1 : Int) (a1 : Int × Int) : Option (Int × Bool) :=
  match a1 with
  | (n2, n3) => ((wide_Narrow (n2, n3)).bind fun (n6, b7) => some (n6, b7))
theorem ring_Narrow_r (m : Nat) {n1 : Int} {a1 : Int × Int} {out : Int × Bool} (h : ring_Narrow n1 a1 = some out) : RunsP E1 (m + 3) 56 [.one (iT .i64 n1), .agg (r65 a1)] (.fresh, [.one (iT .i64 out.1), .one (bT out.2)]) := by
 obtain ⟨n2, n3⟩ := a1
 refine fn_F rfl (by rw [E1_fn]; exact show fiOf Try.prog 56 = _ by unfold fiOf; rw [Try.func56]; unfold Try.f56; rfl) rfl ?_
 dsimp only
 unfold ring_Narrow at h
 refine lS (lO ?_)
 refine ol_new rfl rfl rfl (q_box ty66 rfl (cs := [iI n2, uI n3]) rfl rfl) (fun k4 => ?_)
 refine pq (qa (iO 0)) ?_
 refine pq (qa bf) ?_
 refine oN ?_
 refine pq (ql (.agg [iI n2, uI n3]) 0 sz66) ?_
 obtain ⟨⟨n6, b7⟩, h5, h⟩ := bindS h
 refine pq (qc (.tup [iO n6, bO b7]) [.agg [iI n2, uI n3]] (wide_Narrow_r (m + 0) h5) (vw_cons (vd_agg (vc_cons vc_v (vc_cons vc_v vc_nil))) vw_nil)) ?_
 refine pq (q_ext (v := iO n6) rfl rfl) ?_
 refine pq (q_ext (v := bO b7) rfl rfl) ?_
 refine pq (qa (iO n6)) ?_
 refine pq (qa (bO b7)) ?_
 refine oE (eS (lR ?_))
 obtain rfl := sj h
 exact E_endF (.inr rfl) (res_tmp rfl (res_tmp rfl res_nil)) (vw_cons (vd_one vc_v) (vw_cons (vd_one vc_v) vw_nil)) oW rfl rfl

noncomputable def fold_Reduce_b1 (n1 : Int) (s15 : Sl (Int × Int)) (a : Int × Int × Int) : Option ((Int × Int × Int) ⊕ ((Int × Int) ⊕ (Int × Int))) :=
  match a with
  | (n66, n67, n68) => (if n66 < ((s15.l.length : Nat) : Int) then ((atS 2 s15 n66).bind fun (n72, n73) => (if n66 = 0 then ((wide_Of n73).bind fun (n77, n78) => some (.inl ((IntKind.i64.wrap (n66 + 1)), n77, n78))) else ((wide_Of n73).bind fun (n87, n88) => ((ring_Add n1 (n67, n68) (n87, n88)).bind fun (n90, n91) => some (.inl ((IntKind.i64.wrap (n66 + 1)), n90, n91)))))) else some (.inr (.inl (n67, n68))))
noncomputable def fold_Reduce (n1 : Int) (a1 : Int × (Sl (Int × Int))) : Option (Int × Int) :=
  match a1 with
  | (n2, s3) => ((ring_Is n1).bind fun b6 => (if b6 = true then ((ring_Zero n1).bind fun n8 => ((wide_Of n8).bind fun (n10, n11) => ((fold_sure (n2, s3)).bind fun (n14, s15) => ((loopO (fold_Reduce_b1 n1 s15) (0, n10, n11)).bind (Sum.elim (fun ⟨n92, n93⟩ => ((ring_Narrow n1 (n92, n93)).bind fun (n95, b96) => (if b96 = true then some (n95, 0) else some (0, 12)))) (fun u => some u)))))) else some (0, 8)))
theorem fold_Reduce_r (m : Nat) {n1 : Int} {a1 : Int × (Sl (Int × Int))} {out : Int × Int} (h : fold_Reduce n1 a1 = some out) : RunsP E1 (m + 4) 27 [.one (iT .i64 n1), .agg (r24 a1)] (.fresh, [.one (iT .i64 out.1), .one (iT .i64 out.2)]) := by
 obtain ⟨n2, s3⟩ := a1
 refine fn_F rfl (by rw [E1_fn]; exact show fiOf Try.prog 27 = _ by unfold fiOf; rw [Try.func27]; unfold Try.f27; rfl) rfl ?_
 dsimp only
 unfold fold_Reduce at h
 refine lS (lO ?_)
 refine ol_new rfl rfl rfl (q_box ty25 rfl (cs := [iI n2, sF r56 s3]) rfl rfl) (fun k4 => ?_)
 refine pq (qa (iO 0)) ?_
 refine pq (qa (iO 0)) ?_
 refine oE (eS (lS (lS (lO ?_))))
 refine pq (qm (iO n1)) ?_
 obtain ⟨b6, h5, h⟩ := bindS h
 refine pq (qc (bO b6) [iO n1] (ring_Is_r (m + 2) h5) (vw_cons (vd_one vc_v) vw_nil)) ?_
 rcases b6 with _ | _
 replace h := wF h
 refine pq (q_not rfl) ?_
 refine oE (eS (cT rfl (lS (lO ?_))))
 refine pq (qa (iO 0)) ?_
 refine pq (qa (iO 8)) ?_
 refine oE (eS (lR (eR ?_)))
 obtain rfl := sj h
 exact E_endF (.inr rfl) (res_tmp rfl (res_tmp rfl res_nil)) (vw_cons (vd_one vc_v) (vw_cons (vd_one vc_v) vw_nil)) oW rfl rfl
 replace h := wT h
 refine pq (q_not rfl) ?_
 refine oE (eS (cF rfl (lK (eS (lS (lO ?_))))))
 refine pq (qm (iO n1)) ?_
 obtain ⟨n8, h7, h⟩ := bindS h
 refine pq (qc (iO n8) [iO n1] (ring_Zero_r (m + 2) h7) (vw_cons (vd_one vc_v) vw_nil)) ?_
 obtain ⟨⟨n10, n11⟩, h9, h⟩ := bindS h
 refine pq (qc (.agg [iI n10, uI n11]) [iO n8] (wide_Of_r (m + 2) h9) (vw_cons (vd_one vc_v) vw_nil)) ?_
 refine ol_new rfl rfl rfl (q_alloc ty66 (row := [iI 0, uI 0]) rfl rfl) (fun k12 => ?_)
 refine ow [[iI n10, uI n11]] 0 sz66 ?_
 refine oE (eS (lS (lS (lO ?_))))
 refine pq (ql (.agg [iI n2, sF r56 s3]) 1 sz25) ?_
 obtain ⟨⟨n14, s15⟩, h13, h⟩ := bindS h
 refine ol_putX rfl rfl rfl (q_callX (v := fun fr16 => .agg [iI n14, .p fr16 (Sl.t r56 s15)]) (args := [.agg [iI n2, sF r56 s3]]) (fold_sure_r (m + 0) h13) rfl rfl (vw_cons (vd_agg (vc_cons vc_v (vc_cons vc_s vc_nil))) vw_nil) rfl rfl (fun fr => rfl)) (fun fr16 => ?_)
 refine pq (q_fieldV (v := .one (.p fr16 (Sl.t r56 s15))) rfl fa25_1 rfl rfl) ?_
 refine pq (q_lenS rfl ty23 rfl rfl rfl rfl) ?_
 refine pq (qm (iO 0)) ?_
 refine oE (eS (lB ?_))
 let S1 : (Int × Int × Int) → Unit → (Nat → D) → Nat → D := fun a kt g => ups g [(0, iO n1), (6, .one (.ptr k12 0 0)), (19, .one (.p fr16 (Sl.t r56 s15))), (20, .one (iI ((s15.l.length : Nat) : Int))), (21, .one (iI a.1))]
 let SL1 : (Int × Int × Int) → Unit → BL := fun a kt => ([[(k12, 2, [[iI a.2.1, uI a.2.2]])]] : BL)
 let G1 : (Int × Int) → Ex → St → Prop := fun u => endQ E1 [.tmp 4, .tmp 5] (.fresh, [.one (iT .i64 u.1), .one (iT .i64 u.2)])
 let Sx1 : (Int × Int) → Unit → (Nat → D) → Nat → D := fun a kt g => ups g [(0, iO n1), (6, .one (.ptr k12 0 0))]
 let SLx1 : (Int × Int) → Unit → BL := fun a kt => ([[(k12, 2, [[iI a.1, uI a.2]])]] : BL)
 let J1 : ((Int × Int) ⊕ (Int × Int)) → Ex → St → Prop := JX 47 0 Sx1 SLx1 G1
 refine L_loopS (fold_Reduce_b1 n1 s15) S1 SL1 J1 JX_n (0, n10, n11) h () (ups_self ⟨rfl, rfl, rfl, rfl, rfl, trivial⟩) [0] (by decide) rfl ?_ ?_
 rintro ⟨n66, n67, n68⟩ _ g out h
 change fold_Reduce_b1 n1 s15 (n66, n67, n68) = some out at h
 unfold fold_Reduce_b1 at h
 refine lS (lO ?_)
 by_cases c69 : n66 < ((s15.l.length : Nat) : Int)
 replace h := ifT c69 h
 refine pq (qb (p_lss_tZ c69)) ?_
 refine oE (eS (lS (cT rfl (lK (eS (lS (lB (lS (lO ?_)))))))))
 refine pq (qm (iO n66)) ?_
 obtain ⟨⟨n72, n73⟩, h71, h⟩ := bindS h
 obtain ⟨h71a, h71b, h71⟩ := atS_some h71
 refine pq (q_ixS rfl rfl h71a h71 (el23.trans (congrArg some h71b.symm))) ?_
 refine pq (q_loadI (v := .agg [iI n72, iI n73]) rfl sz57 (map_get h71) rfl rfl) ?_
 refine ol_new rfl rfl rfl (q_alloc ty57 (row := [iI 0, iI 0]) rfl rfl) (fun k74 => ?_)
 refine pq (qa (iO n66)) ?_
 refine ow [[iI n72, iI n73]] 0 sz57 ?_
 refine oN ?_
 refine pq (qm (iO n66)) ?_
 by_cases c75 : n66 = 0
 replace h := ifT c75 h
 refine pq (qb (p_eql_tZ c75)) ?_
 refine oE (eS (cT rfl (lO ?_)))
 refine pq (q_fieldP rfl fa57_1 rfl) ?_
 refine pq (ql (iO n73) 0 sz2) ?_
 obtain ⟨⟨n77, n78⟩, h76, h⟩ := bindS h
 refine pq (qc (.agg [iI n77, uI n78]) [iO n73] (wide_Of_r (m + 2) h76) (vw_cons (vd_one vc_v) vw_nil)) ?_
 refine ow [[iI n77, uI n78]] 1 sz66 ?_
 refine oE (bN (eS (lO ?_)))
 refine pq (qb p_addY) ?_
 refine pq (qm (iO (IntKind.i64.wrap (n66 + 1)))) ?_
 refine oE ?_
 obtain rfl := sj h
 exact E_next () (ups_self ⟨rfl, rfl, rfl, rfl, rfl, trivial⟩) [1] (by decide) rfl
 replace h := ifF c75 h
 refine pq (qb (p_eql_fZ c75)) ?_
 refine oE (eS (cF rfl ?_))
 refine L_norm (L2 := ([[(k74, 2, [[iI n72, iI n73]])], [(k12, 2, [[iI n67, uI n68]])]] : BL)) [0, 1] (by decide) rfl ?_
 refine L_turn 7 rfl [[], [], [], [], [], [], [k12]] [(false, []), (false, []), (false, []), (false, []), (false, []), (false, []), (false, [])] [[1, 2, 3, 4], [0, 2, 3, 4], [0, 1], [0, 1], [0, 1], [], []] (by kernel_rfl) (by kernel_rfl) (by kernel_rfl) ?_ (fun bb79 hlt hnd => ?_)
 intro bb79 hlt hnd
 exact ⟨⟨djE, ⟨djE, ⟨djE, ⟨djE, ⟨djE, ⟨djE, ⟨djN, trivial⟩⟩⟩⟩⟩⟩⟩, (ltO_cons ltK_nil (ltO_cons ltK_nil (ltO_cons ltK_nil (ltO_cons ltK_nil (ltO_cons ltK_nil (ltO_cons ltK_nil (ltO_cons (ltK_cons (key_lt hlt 1 rfl) ltK_nil) ltO_nil)))))))⟩
 refine tq [] rfl (hm0 rfl) (qm (iO n1)) ?_
 refine tq [1] rfl (hm0 rfl) (ql (.agg [iI n67, uI n68]) 0 sz66) ?_
 refine tq [] rfl (hm0 rfl) (q_fieldP rfl fa57_1 rfl) ?_
 refine tq [0] rfl (hm0 rfl) (ql (iO n73) 0 sz2) ?_
 obtain ⟨⟨n87, n88⟩, h86, h⟩ := bindS h
 refine tq [] rfl (hm0 rfl) (qc (.agg [iI n87, uI n88]) [iO n73] (wide_Of_r (m + 2) h86) (vw_cons (vd_one vc_v) vw_nil)) ?_
 obtain ⟨⟨n90, n91⟩, h89, h⟩ := bindS h
 refine tq [] rfl (hm0 rfl) (qc (.agg [iI n90, uI n91]) [iO n1, .agg [iI n67, uI n68], .agg [iI n87, uI n88]] (ring_Add_r (m + 0) h89) (vw_cons (vd_one vc_v) (vw_cons (vd_agg (vc_cons vc_v (vc_cons vc_v vc_nil))) (vw_cons (vd_agg (vc_cons vc_v (vc_cons vc_v vc_nil))) vw_nil)))) ?_
 refine tn_wr rfl rfl [1] (by decide) rfl (hm0 rfl) rfl (q_store (es' := [[iI n90, uI n91]]) 0 rfl rfl rfl sz66 rfl rfl rfl rfl rfl) (q := 1) rfl rfl ?_
 refine tn_end (bN (eS (lO ?_)))
 refine pq (qb p_addY) ?_
 refine pq (qm (iO (IntKind.i64.wrap (n66 + 1)))) ?_
 refine oE ?_
 obtain rfl := sj h
 exact E_next () (ups_self ⟨rfl, rfl, rfl, rfl, rfl, trivial⟩) [1] (by decide) rfl
 replace h := ifF c69 h
 refine pq (qb (p_lss_fZ c69)) ?_
 refine oE (eS (lS (cF rfl (L_exit ?_))))
 refine E_seqX ?_
 obtain rfl := sj h
 refine E_out ?_
 exact (E_exit () (ups_self ⟨rfl, rfl, trivial⟩) [0] (by decide) rfl)
 rintro (⟨n92, n93⟩ | u) h
 refine J_x (fun kt g => ?_)
 replace h := elimL h
 refine bH (eS (lS (lO ?_)))
 refine pq (qm (iO n1)) ?_
 refine pq (ql (.agg [iI n92, uI n93]) 0 sz66) ?_
 obtain ⟨⟨n95, b96⟩, h94, h⟩ := bindS h
 refine pq (qc (.tup [iO n95, bO b96]) [iO n1, .agg [iI n92, uI n93]] (ring_Narrow_r (m + 0) h94) (vw_cons (vd_one vc_v) (vw_cons (vd_agg (vc_cons vc_v (vc_cons vc_v vc_nil))) vw_nil))) ?_
 refine pq (qm (.tup [iO n95, bO b96])) ?_
 refine pq (q_ext (v := iO n95) rfl rfl) ?_
 refine pq (q_ext (v := bO b96) rfl rfl) ?_
 refine pq (qa (iO n95)) ?_
 refine pq (qa (bO b96)) ?_
 refine oE (eS (lS (lS (lO ?_))))
 refine pq (qm (bO b96)) ?_
 rcases b96 with _ | _
 replace h := wF h
 refine pq (q_not rfl) ?_
 refine oE (eS (cT rfl (lS (lO ?_))))
 refine pq (qa (iO 0)) ?_
 refine pq (qa (iO 12)) ?_
 refine oE (eS (lR (eR ?_)))
 obtain rfl := sj h
 exact E_endF (.inr rfl) (res_tmp rfl (res_tmp rfl res_nil)) (vw_cons (vd_one vc_v) (vw_cons (vd_one vc_v) vw_nil)) oW rfl rfl
 replace h := wT h
 refine pq (q_not rfl) ?_
 refine oE (eS (cF rfl (lK (eS (lS (lO ?_))))))
 refine pq (qm (iO n95)) ?_
 refine pq (qa (iO n95)) ?_
 refine pq (qa (iO 0)) ?_
 refine oE (eS (lR ?_))
 obtain rfl := sj h
 exact E_endF (.inr rfl) (res_tmp rfl (res_tmp rfl res_nil)) (vw_cons (vd_one vc_v) (vw_cons (vd_one vc_v) vw_nil)) oW rfl rfl
 obtain rfl := Option.some.inj (elimR h)
 exact J_up (fun s hs => hs)

noncomputable def fold_Holds (n1 : Int) (n2 : Int) (n3 : Int) : Option (Bool) :=
  (if n1 = 2 then (if n3 < n2 then some true else some false) else (if n1 = 1 then (if n2 < n3 then some true else some false) else (if n1 = 3 then (if n2 = n3 then some true else some false) else (if n1 = 4 then (if n2 = n3 then some false else some true) else some false))))
theorem fold_Holds_r (m : Nat) {n1 : Int} {n2 : Int} {n3 : Int} {out : Bool} (h : fold_Holds n1 n2 n3 = some out) : RunsP E1 (m + 1) 57 [.one (iT .i64 n1), .one (iT .i64 n2), .one (iT .i64 n3)] (.fresh, [.one (bT out)]) := by
 refine fn_F rfl (by rw [E1_fn]; exact show fiOf Try.prog 57 = _ by unfold fiOf; rw [Try.func57]; unfold Try.f57; rfl) rfl ?_
 dsimp only
 unfold fold_Holds at h
 refine lS (lO ?_)
 refine pq (qa bf) ?_
 refine oE (eS (lS (lS (lO ?_))))
 refine pq (qm (iO n1)) ?_
 refine oE (eS (lB (lS (lB (lS (lB (lS (lB (lS (lS (lS (lO ?_))))))))))))
 by_cases c4 : n1 = 2
 replace h := ifT c4 h
 refine pq (qb (p_eql_tZ c4)) ?_
 refine pq (qa bt) ?_
 refine oE (eS (cT rfl (L_exit ?_)))
 refine E_seqX ?_
 refine E_seqX ?_
 refine bH (eS (lO ?_))
 refine pq (qm (iO n3)) ?_
 refine pq (qm (iO n2)) ?_
 refine pq (qa (iO n3)) ?_
 refine pq (qa (iO n2)) ?_
 refine oE (bN (eS (lS (lS (lO ?_)))))
 refine pq (qm (iO n3)) ?_
 refine pq (qm (iO n2)) ?_
 by_cases c5 : n3 < n2
 replace h := ifT c5 h
 refine pq (qb (p_lss_tZ c5)) ?_
 refine pq (qa bt) ?_
 refine oE (eS (lR (eR (bR (eR (bR (eR ?_)))))))
 obtain rfl := sj h
 exact eF1
 replace h := ifF c5 h
 refine pq (qb (p_lss_fZ c5)) ?_
 refine pq (qa bf) ?_
 refine oE (eS (lR (eR (bR (eR (bR (eR ?_)))))))
 obtain rfl := sj h
 exact eF1
 replace h := ifF c4 h
 refine pq (qb (p_eql_fZ c4)) ?_
 refine pq (qa bf) ?_
 refine oE (eS (cF rfl (lK (eS (lS (lS (lO ?_)))))))
 by_cases c6 : n1 = 1
 replace h := ifT c6 h
 refine pq (qb (p_eql_tZ c6)) ?_
 refine pq (qa bt) ?_
 refine oE (eS (cT rfl (L_exit ?_)))
 refine E_seqX ?_
 refine E_seqX ?_
 refine E_blkX rfl ?_
 refine E_seqX ?_
 refine bH (eS (lS (lS (lO ?_))))
 refine pq (qm (iO n2)) ?_
 refine pq (qm (iO n3)) ?_
 by_cases c7 : n2 < n3
 replace h := ifT c7 h
 refine pq (qb (p_lss_tZ c7)) ?_
 refine pq (qa bt) ?_
 refine oE (eS (lR (eR (bR (eR (bR (eR ?_)))))))
 obtain rfl := sj h
 exact eF1
 replace h := ifF c7 h
 refine pq (qb (p_lss_fZ c7)) ?_
 refine pq (qa bf) ?_
 refine oE (eS (lR (eR (bR (eR (bR (eR ?_)))))))
 obtain rfl := sj h
 exact eF1
 replace h := ifF c6 h
 refine pq (qb (p_eql_fZ c6)) ?_
 refine pq (qa bf) ?_
 refine oE (eS (cF rfl (lK (eS (lS (lS (lO ?_)))))))
 by_cases c8 : n1 = 3
 replace h := ifT c8 h
 refine pq (qb (p_eql_tZ c8)) ?_
 refine pq (qa bt) ?_
 refine oE (eS (cT rfl (lK (eS (cT rfl (L_exit ?_))))))
 refine E_seqX ?_
 refine E_blkX rfl ?_
 refine E_seqX ?_
 refine E_blkX rfl ?_
 refine E_seqX ?_
 refine bH (eS (lS (lS (lO ?_))))
 refine pq (qm (iO n2)) ?_
 refine pq (qm (iO n3)) ?_
 by_cases c9 : n2 = n3
 replace h := ifT c9 h
 refine pq (qb (p_eql_tZ c9)) ?_
 refine pq (qm (iO n1)) ?_
 refine pq (qb (p_eql_tZ c8)) ?_
 refine pq (q_binB rfl rfl (eqeqlB4 _ _ _ _) rfl) ?_
 refine pq (qa bt) ?_
 refine oE (eS (lR (eR (bR (eR ?_)))))
 obtain rfl := sj h
 exact eF1
 replace h := ifF c9 h
 refine pq (qb (p_eql_fZ c9)) ?_
 refine pq (qm (iO n1)) ?_
 refine pq (qb (p_eql_tZ c8)) ?_
 refine pq (q_binB rfl rfl (eqeqlB4 _ _ _ _) rfl) ?_
 refine pq (qa bf) ?_
 refine oE (eS (lR (eR (bR (eR ?_)))))
 obtain rfl := sj h
 exact eF1
 replace h := ifF c8 h
 refine pq (qb (p_eql_fZ c8)) ?_
 refine pq (qa bf) ?_
 refine oE (eS (cF rfl (lO ?_)))
 by_cases c10 : n1 = 4
 replace h := ifT c10 h
 refine pq (qb (p_eql_tZ c10)) ?_
 refine pq (qa bt) ?_
 refine oE (eS (cT rfl (L_exit ?_)))
 refine E_seqX ?_
 refine E_blkX rfl ?_
 refine E_seqX ?_
 refine E_blkX rfl ?_
 refine E_seqX ?_
 refine bH (eS (lS (lS (lO ?_))))
 refine pq (qm (iO n2)) ?_
 refine pq (qm (iO n3)) ?_
 by_cases c11 : n2 = n3
 replace h := ifT c11 h
 refine pq (qb (p_eql_tZ c11)) ?_
 refine pq (qm (iO n1)) ?_
 refine pq (qb (p_eql_fZ c8)) ?_
 refine pq (q_binB rfl rfl (eqeqlB4 _ _ _ _) rfl) ?_
 refine pq (qa bf) ?_
 refine oE (eS (lR (eR (bR (eR ?_)))))
 obtain rfl := sj h
 exact eF1
 replace h := ifF c11 h
 refine pq (qb (p_eql_fZ c11)) ?_
 refine pq (qm (iO n1)) ?_
 refine pq (qb (p_eql_fZ c8)) ?_
 refine pq (q_binB rfl rfl (eqeqlB4 _ _ _ _) rfl) ?_
 refine pq (qa bt) ?_
 refine oE (eS (lR (eR (bR (eR ?_)))))
 obtain rfl := sj h
 exact eF1
 replace h := ifF c10 h
 refine pq (qb (p_eql_fZ c10)) ?_
 refine pq (qa bf) ?_
 refine oE (eS (cF rfl (lK (eS (L_exit ?_)))))
 refine E_blkX rfl ?_
 refine E_seqX ?_
 refine E_blkX rfl ?_
 refine E_seqX ?_
 refine E_blkX rfl ?_
 refine E_seqX ?_
 refine bH (eS (lS (lO ?_)))
 refine pq (qa bf) ?_
 refine oE (eS (lR ?_))
 obtain rfl := sj h
 exact eF1

noncomputable def fold_Where_b1 (n3 : Int) (n4 : Int) (s9 : Sl (Int × Int)) (a : Int × (List (Int × Int))) : Option ((Int × (List (Int × Int))) ⊕ ((List (Int × Int)) ⊕ (Int × (Sl (Int × Int))))) :=
  match a with
  | (n52, l53) => (if n52 < ((s9.l.length : Nat) : Int) then ((atS 2 s9 n52).bind fun (n58, n59) => ((fold_Holds n3 n59 n4).bind fun b62 => (if b62 = true then ((app l53 ([(n58, n59)] : List (Int × Int))).bind fun _ => some (.inl ((IntKind.i64.wrap (n52 + 1)), (l53 ++ ([(n58, n59)] : List (Int × Int)))))) else some (.inl ((IntKind.i64.wrap (n52 + 1)), l53))))) else some (.inr (.inl l53)))
noncomputable def fold_Where (a0 : Int × (Sl (Int × Int))) (n3 : Int) (n4 : Int) : Option ((Int × (Sl (Int × Int)))) :=
  match a0 with
  | (n1, s2) => ((fold_sure (n1, s2)).bind fun (n8, s9) => ((loopO (fold_Where_b1 n3 n4 s9) (0, ([] : List (Int × Int)))).bind (Sum.elim (fun l66 => some (n8, (mo 2 l66))) (fun u => some u))))
theorem fold_Where_r (m : Nat) {a0 : Int × (Sl (Int × Int))} {n3 : Int} {n4 : Int} {out : (Int × (Sl (Int × Int)))} (h : fold_Where a0 n3 n4 = some out) : RunsP E1 (m + 4) 28 [.agg (r24 a0), .one (iT .i64 n3), .one (iT .i64 n4)] (.fresh, [.agg (r24 out)]) := by
 obtain ⟨n1, s2⟩ := a0
 refine fn_F rfl (by rw [E1_fn]; exact show fiOf Try.prog 28 = _ by unfold fiOf; rw [Try.func28]; unfold Try.f28; rfl) rfl ?_
 dsimp only
 unfold fold_Where at h
 refine lS (lO ?_)
 refine ol_new rfl rfl rfl (q_box ty25 rfl (cs := [iI n1, sF r56 s2]) rfl rfl) (fun k5 => ?_)
 refine ol_new rfl rfl rfl (q_alloc ty25 (row := [iI 0, nC]) rfl rfl) (fun k6 => ?_)
 refine oN ?_
 refine pq (ql (.agg [iI n1, sF r56 s2]) 1 sz25) ?_
 obtain ⟨⟨n8, s9⟩, h7, h⟩ := bindS h
 refine ol_putX rfl rfl rfl (q_callX (v := fun fr10 => .agg [iI n8, .p fr10 (Sl.t r56 s9)]) (args := [.agg [iI n1, sF r56 s2]]) (fold_sure_r (m + 0) h7) rfl rfl (vw_cons (vd_agg (vc_cons vc_v (vc_cons vc_s vc_nil))) vw_nil) rfl rfl (fun fr => rfl)) (fun fr10 => ?_)
 refine ow [[iI n8, .p fr10 (Sl.t r56 s9)]] 1 sz25 ?_
 refine oN ?_
 refine pq (q_fieldP rfl fa25_0 rfl) ?_
 refine pq (ql (iO n8) 1 sz3) ?_
 refine pq (q_build (cs := [iI n8, nC]) ty25 rfl pl25 rfl) ?_
 refine ol_new rfl rfl rfl (q_alloc ty25 (row := [iI 0, nC]) rfl rfl) (fun k11 => ?_)
 refine ow [[iI n8, nC]] 0 sz25 ?_
 refine oE (eS (lS (lS (lO ?_))))
 refine pq (q_fieldP rfl fa25_1 rfl) ?_
 refine pq (ql (.one (.p fr10 (Sl.t r56 s9))) 2 sz23) ?_
 refine pq (q_lenS rfl ty23 rfl rfl rfl rfl) ?_
 refine pq (qm (iO 0)) ?_
 refine oE (eS (lB ?_))
 refine L_addM (α := Int × Int) r56 2 ?_
 let S1 : (Int × (List (Int × Int))) → Nat → (Nat → D) → Nat → D := fun a kt g => ups g [(1, iO n3), (2, iO n4), (6, .one (.ptr k6 0 0)), (7, .one (.ptr k11 0 0)), (16, .one (.p fr10 (Sl.t r56 s9))), (17, .one (iI ((s9.l.length : Nat) : Int))), (18, .one (iI a.1))]
 let SL1 : (Int × (List (Int × Int))) → Nat → BL := fun a kt => ([[(k6, 2, [[iI 0, nC]])], [(k11, 2, [[iI n8, moC a.2 kt]])], moL r56 2 a.2 kt] : BL)
 let G1 : (Int × (Sl (Int × Int))) → Ex → St → Prop := fun u => endQ E1 [.cell 6 25] (.fresh, [.agg (r24 u)])
 let Sx1 : (List (Int × Int)) → Nat → (Nat → D) → Nat → D := fun a kt g => ups g [(6, .one (.ptr k6 0 0)), (7, .one (.ptr k11 0 0))]
 let SLx1 : (List (Int × Int)) → Nat → BL := fun a kt => ([[(k6, 2, [[iI 0, nC]])], [(k11, 2, [[iI n8, moC a kt]])], moL r56 2 a kt] : BL)
 let J1 : ((List (Int × Int)) ⊕ (Int × (Sl (Int × Int)))) → Ex → St → Prop := JX 35 0 Sx1 SLx1 G1
 refine L_loopS (fold_Where_b1 n3 n4 s9) S1 SL1 J1 JX_n (0, ([] : List (Int × Int))) h 1050 (ups_self ⟨rfl, rfl, rfl, rfl, rfl, rfl, rfl, trivial⟩) [2, 1, 0] (by decide) rfl ?_ ?_
 rintro ⟨n52, l53⟩ k54 g out h
 change fold_Where_b1 n3 n4 s9 (n52, l53) = some out at h
 unfold fold_Where_b1 at h
 refine lS (lO ?_)
 by_cases c55 : n52 < ((s9.l.length : Nat) : Int)
 replace h := ifT c55 h
 refine pq (qb (p_lss_tZ c55)) ?_
 refine oE (eS (lS (cT rfl (lK (eS (lS (lB (lS (lO ?_)))))))))
 obtain ⟨⟨n58, n59⟩, h57, h⟩ := bindS h
 obtain ⟨h57a, h57b, h57⟩ := atS_some h57
 refine pq (q_ixS rfl rfl h57a h57 (el23.trans (congrArg some h57b.symm))) ?_
 refine pq (q_loadI (v := .agg [iI n58, iI n59]) rfl sz57 (map_get h57) rfl rfl) ?_
 refine ol_new rfl rfl rfl (q_alloc ty57 (row := [iI 0, iI 0]) rfl rfl) (fun k60 => ?_)
 refine ow [[iI n58, iI n59]] 0 sz57 ?_
 refine oN ?_
 refine pq (qm (iO n3)) ?_
 refine pq (q_fieldP rfl fa57_1 rfl) ?_
 refine pq (ql (iO n59) 0 sz2) ?_
 refine pq (qm (iO n4)) ?_
 obtain ⟨b62, h61, h⟩ := bindS h
 refine pq (qc (bO b62) [iO n3, iO n59, iO n4] (fold_Holds_r (m + 2) h61) (vw_cons (vd_one vc_v) (vw_cons (vd_one vc_v) (vw_cons (vd_one vc_v) vw_nil)))) ?_
 refine oE (eS ?_)
 rcases b62 with _ | _
 replace h := wF h
 refine cF rfl (lK (bN (eS (lO ?_))))
 refine pq (qb p_addY) ?_
 refine pq (qm (iO (IntKind.i64.wrap (n52 + 1)))) ?_
 refine oE ?_
 obtain rfl := sj h
 exact E_next k54 (ups_self ⟨rfl, rfl, rfl, rfl, rfl, rfl, rfl, trivial⟩) [1, 2, 3] (by decide) rfl
 replace h := wT h
 refine cT rfl (lO ?_)
 refine pq (q_fieldP rfl fa25_1 rfl) ?_
 refine pq (ql (.one (moC l53 k54)) 2 sz23) ?_
 refine pq (ql (.agg [iI n58, iI n59]) 0 sz57) ?_
 refine ol_new rfl rfl rfl (q_bslice (cs := [iI n58, iI n59]) (es := (([(n58, n59)] : List (Int × Int))).map (rowC r56)) ty23 rfl ty57 rfl rfl rfl rfl rfl) (fun k63 => ?_)
 obtain ⟨_, h64, h⟩ := bindS h
 obtain ⟨h64b, rfl⟩ := app_some h64
 refine ol_appM (r := r56) (l := l53) (ys := ([(n58, n59)] : List (Int × Int))) 4 rfl rfl rfl rfl rfl rfl (el_ownM (l := ([(n58, n59)] : List (Int × Int))) 0 rfl) rfl h64 (fun y => rfl) el23 ty23 rfl rfl rfl rfl rfl (fun k65 => ?_)
 refine pq (q_fieldP rfl fa25_1 rfl) ?_
 refine ow [[iI n8, moC (l53 ++ ([(n58, n59)] : List (Int × Int))) k65]] 4 sz23 ?_
 refine oE (bN (eS (lO ?_)))
 refine pq (qb p_addY) ?_
 refine pq (qm (iO (IntKind.i64.wrap (n52 + 1)))) ?_
 refine oE ?_
 obtain rfl := sj h
 exact E_next k65 (ups_self ⟨rfl, rfl, rfl, rfl, rfl, rfl, rfl, trivial⟩) [3, 4, 0] (by decide) rfl
 replace h := ifF c55 h
 refine pq (qb (p_lss_fZ c55)) ?_
 refine oE (eS (lS (cF rfl (L_exit ?_))))
 refine E_seqX ?_
 obtain rfl := sj h
 refine E_out ?_
 exact (E_exit k54 (ups_self ⟨rfl, rfl, trivial⟩) [0, 1, 2] (by decide) rfl)
 rintro (l66 | u) h
 refine J_x (fun k67 g => ?_)
 replace h := elimL h
 refine bH (eS (lS (lO ?_)))
 refine pq (ql (.agg [iI n8, moC l66 k67]) 1 sz25) ?_
 refine ow [[iI n8, moC l66 k67]] 0 sz25 ?_
 refine oE (eS (lR ?_))
 obtain rfl := sj h
 exact E_endF (.inr rfl) (res_cell (d := .agg [iI n8, moC l66 k67]) 0 rfl sz25 rfl rfl rfl rfl res_nil) (vw_cons (vd_agg (vc_cons vc_v (vc_cons (vc_M (r := r56) 2 rfl (fun x h m => rfl)) vc_nil))) vw_nil) oG rfl rfl
 obtain rfl := Option.some.inj (elimR h)
 exact J_up (fun s hs => hs)

noncomputable def ref09_Places_b1 (s6 : Sl (Int × Int)) (a : List (Int) × Int) : Option ((List (Int) × Int) ⊕ ((List (Int)) ⊕ (List (Int)))) :=
  match a with
  | (l29, n30) => (if n30 < ((s6.l.length : Nat) : Int) then ((atS 2 s6 n30).bind fun (n35, n36) => ((app l29 ([n35] : List (Int))).bind fun _ => some (.inl ((l29 ++ ([n35] : List (Int))), (IntKind.i64.wrap (n30 + 1)))))) else some (.inr (.inl l29)))
noncomputable def ref09_Places (a0 : Int × (Sl (Int × Int))) : Option (List (Int)) :=
  match a0 with
  | (n1, s2) => ((ref09_Sure (n1, s2)).bind fun (n5, s6) => ((loopO (ref09_Places_b1 s6) (([] : List (Int)), 0)).bind (Sum.elim (fun l40 => some l40) (fun u => some u))))
theorem ref09_Places_r (m : Nat) {a0 : Int × (Sl (Int × Int))} {out : List (Int)} (h : ref09_Places a0 = some out) : RunsP E1 (m + 3) 30 [.agg (r24 a0)] (resM 1 r3 out) := by
 obtain ⟨n1, s2⟩ := a0
 refine fn_M rfl (by rw [E1_fn]; exact show fiOf Try.prog 30 = _ by unfold fiOf; rw [Try.func30]; unfold Try.f30; rfl) rfl ?_
 dsimp only
 unfold ref09_Places at h
 refine lS (lO ?_)
 refine ol_new rfl rfl rfl (q_box ty25 rfl (cs := [iI n1, sF r56 s2]) rfl rfl) (fun k3 => ?_)
 refine pq (qa (.one nC)) ?_
 refine oN ?_
 refine pq (ql (.agg [iI n1, sF r56 s2]) 0 sz25) ?_
 obtain ⟨⟨n5, s6⟩, h4, h⟩ := bindS h
 refine ol_putX rfl rfl rfl (q_callX (v := fun fr7 => .agg [iI n5, .p fr7 (Sl.t r56 s6)]) (args := [.agg [iI n1, sF r56 s2]]) (ref09_Sure_r (m + 0) h4) rfl rfl (vw_cons (vd_agg (vc_cons vc_v (vc_cons vc_s vc_nil))) vw_nil) rfl rfl (fun fr => rfl)) (fun fr7 => ?_)
 refine ow [[iI n5, .p fr7 (Sl.t r56 s6)]] 0 sz25 ?_
 refine oN ?_
 refine pq (qa (.one nC)) ?_
 refine oE (eS (lS (lS (lO ?_))))
 refine pq (qa (iO 0)) ?_
 refine oE (eS (lB ?_))
 refine L_addM (α := Int) r3 1 ?_
 let S1 : (List (Int) × Int) → Nat → (Nat → D) → Nat → D := fun a kt g => ups g [(1, .one (.ptr k3 0 0)), (3, .one (moC a.1 kt)), (4, .one (iI a.2))]
 let SL1 : (List (Int) × Int) → Nat → BL := fun a kt => ([[(k3, 2, [[iI n5, .p fr7 (Sl.t r56 s6)]])], moL r3 1 a.1 kt] : BL)
 let G1 : (List (Int)) → Ex → St → Prop := fun u => endQ E1 [.tmp 2] (resM 1 r3 u)
 let Sx1 : (List (Int)) → Nat → (Nat → D) → Nat → D := fun a kt g => ups g [(3, .one (moC a kt))]
 let SLx1 : (List (Int)) → Nat → BL := fun a kt => ([moL r3 1 a kt] : BL)
 let J1 : ((List (Int)) ⊕ (List (Int))) → Ex → St → Prop := JX 24 0 Sx1 SLx1 G1
 refine L_loopS (ref09_Places_b1 s6) S1 SL1 J1 JX_n (([] : List (Int)), 0) h 1027 (ups_self ⟨rfl, rfl, rfl, trivial⟩) [1, 0] (by decide) rfl ?_ ?_
 rintro ⟨l29, n30⟩ k31 g out h
 change ref09_Places_b1 s6 (l29, n30) = some out at h
 unfold ref09_Places_b1 at h
 refine lS (lS (lO ?_))
 refine pq (qm (iO n30)) ?_
 refine pq (q_fieldP rfl fa25_1 rfl) ?_
 refine pq (ql (.one (.p fr7 (Sl.t r56 s6))) 0 sz23) ?_
 refine pq (q_lenS rfl ty23 rfl rfl rfl rfl) ?_
 by_cases c32 : n30 < ((s6.l.length : Nat) : Int)
 replace h := ifT c32 h
 refine pq (qb (p_lss_tZ c32)) ?_
 refine oE (eS (cT rfl (lK (eS (lS (lB (lO ?_)))))))
 refine pq (qm (.one (moC l29 k31))) ?_
 refine pq (q_fieldP rfl fa25_1 rfl) ?_
 refine pq (ql (.one (.p fr7 (Sl.t r56 s6))) 0 sz23) ?_
 refine pq (qm (iO n30)) ?_
 obtain ⟨⟨n35, n36⟩, h34, h⟩ := bindS h
 obtain ⟨h34a, h34b, h34⟩ := atS_some h34
 refine pq (q_ixS rfl rfl h34a h34 (el23.trans (congrArg some h34b.symm))) ?_
 refine pq (q_fieldI rfl fa57_0 rfl) ?_
 refine pq (q_loadI (v := iO n35) rfl sz3 (map_get h34) rfl rfl) ?_
 refine ol_new rfl rfl rfl (q_bslice (cs := [iI n35]) (es := (([n35] : List (Int))).map (rowC r3)) ty54 rfl ty3 rfl rfl rfl rfl rfl) (fun k37 => ?_)
 obtain ⟨_, h38, h⟩ := bindS h
 obtain ⟨h38b, rfl⟩ := app_some h38
 refine ol_appM (r := r3) (l := l29) (ys := ([n35] : List (Int))) 2 rfl rfl rfl rfl rfl rfl (el_ownM (l := ([n35] : List (Int))) 0 rfl) rfl h38 (fun y => rfl) el54 ty54 rfl rfl rfl rfl rfl (fun k39 => ?_)
 refine pq (qa (.one (moC (l29 ++ ([n35] : List (Int))) k39))) ?_
 refine oE (bN (eS (lO ?_)))
 refine pq (qm (iO n30)) ?_
 refine pq (qb p_addY) ?_
 refine pq (qa (iO (IntKind.i64.wrap (n30 + 1)))) ?_
 refine oE ?_
 obtain rfl := sj h
 exact E_next k39 (ups_self ⟨rfl, rfl, rfl, trivial⟩) [2, 0] (by decide) rfl
 replace h := ifF c32 h
 refine pq (qb (p_lss_fZ c32)) ?_
 refine oE (eS (cF rfl (L_exit ?_)))
 refine E_seqX ?_
 obtain rfl := sj h
 refine E_out ?_
 exact (E_exit k31 (ups_self ⟨rfl, trivial⟩) [1] (by decide) rfl)
 rintro (l40 | u) h
 refine J_x (fun k41 g => ?_)
 replace h := elimL h
 refine bH (eS (lS (lO ?_)))
 refine pq (qm (.one (moC l40 k41))) ?_
 refine pq (qa (.one (moC l40 k41))) ?_
 refine oE (eS (lR ?_))
 obtain rfl := sj h
 exact E_endM (r := r3) 0 (.inr rfl) (res_tmp rfl res_nil) rfl (fun x h m => rfl) (fun x => rfl)
 obtain rfl := Option.some.inj (elimR h)
 exact J_up (fun s hs => hs)

noncomputable def ref03_words (n1 : Int) : Option (Int) :=
  (if n1 > 4096 then (if (4096 : Int) < 1 then some 0 else ((divO .i64 (IntKind.i64.wrap (4096 + 63)) 64).bind fun n4 => some n4)) else (if n1 < 1 then some 0 else ((divO .i64 (IntKind.i64.wrap (n1 + 63)) 64).bind fun n7 => some n7)))
theorem ref03_words_r (m : Nat) {n1 : Int} {out : Int} (h : ref03_words n1 = some out) : RunsP E1 (m + 1) 75 [.one (iT .i64 n1)] (.fresh, [.one (iT .i64 out)]) := by
 refine fn_F rfl (by rw [E1_fn]; exact show fiOf Try.prog 75 = _ by unfold fiOf; rw [Try.func75]; unfold Try.f75; rfl) rfl ?_
 dsimp only
 unfold ref03_words at h
 refine lS (lO ?_)
 refine pq (qa (iO 0)) ?_
 refine oE (eS (lS (lS (lO ?_))))
 refine pq (qm (iO n1)) ?_
 by_cases c2 : n1 > 4096
 replace h := ifT c2 h
 refine pq (qb (p_gtr_tZ c2)) ?_
 refine oE (eS (cT rfl (lO ?_)))
 refine pq (qa (iO 4096)) ?_
 refine oE (eS (lS (lS (lO ?_))))
 refine pq (qm (iO 4096)) ?_
 by_cases c3 : (4096 : Int) < 1
 replace h := ifT c3 h
 refine pq (qb (p_lss_tZ c3)) ?_
 refine oE (eS (cT rfl (lS (lO ?_))))
 refine pq (qa (iO 0)) ?_
 refine oE (eS (lR (eR ?_)))
 obtain rfl := sj h
 exact eF1
 replace h := ifF c3 h
 refine pq (qb (p_lss_fZ c3)) ?_
 refine oE (eS (cF rfl (lK (eS (lS (lO ?_))))))
 refine pq (qm (iO 4096)) ?_
 refine pq (qb p_addY) ?_
 obtain ⟨n4, h5, h⟩ := bindS h
 refine pq (q_bin rfl rfl (divO_p h5) rfl) ?_
 refine pq (qa (iO n4)) ?_
 refine oE (eS (lR ?_))
 obtain rfl := sj h
 exact eF1
 replace h := ifF c2 h
 refine pq (qb (p_gtr_fZ c2)) ?_
 refine oE (eS (cF rfl (lK (eS (lS (lS (lO ?_)))))))
 refine pq (qm (iO n1)) ?_
 by_cases c6 : n1 < 1
 replace h := ifT c6 h
 refine pq (qb (p_lss_tZ c6)) ?_
 refine oE (eS (cT rfl (lS (lO ?_))))
 refine pq (qa (iO 0)) ?_
 refine oE (eS (lR (eR ?_)))
 obtain rfl := sj h
 exact eF1
 replace h := ifF c6 h
 refine pq (qb (p_lss_fZ c6)) ?_
 refine oE (eS (cF rfl (lK (eS (lS (lO ?_))))))
 refine pq (qm (iO n1)) ?_
 refine pq (qb p_addY) ?_
 obtain ⟨n7, h8, h⟩ := bindS h
 refine pq (q_bin rfl rfl (divO_p h8) rfl) ?_
 refine pq (qa (iO n7)) ?_
 refine oE (eS (lR ?_))
 obtain rfl := sj h
 exact eF1

noncomputable def ref03_New (n1 : Int) : Option (List (Int)) :=
  ((ref03_words n1).bind fun n3 => ((lenOk n3).bind fun _ => some (List.replicate n3.toNat (0 : Int))))
theorem ref03_New_r (m : Nat) {n1 : Int} {out : List (Int)} (h : ref03_New n1 = some out) : RunsP E1 (m + 2) 58 [.one (iT .i64 n1)] (.own, [.one (.s true 1 ((out).map r61))]) := by
 refine fn_O rfl (by rw [E1_fn]; exact show fiOf Try.prog 58 = _ by unfold fiOf; rw [Try.func58]; unfold Try.f58; rfl) rfl ?_
 dsimp only
 unfold ref03_New at h
 refine lS (lO ?_)
 refine pq (qa (.one nC)) ?_
 refine oN ?_
 refine pq (qm (iO n1)) ?_
 obtain ⟨n3, h2, h⟩ := bindS h
 refine pq (qc (iO n3) [iO n1] (ref03_words_r (m + 0) h2) (vw_cons (vd_one vc_v) vw_nil)) ?_
 obtain ⟨u4, h5, h⟩ := bindS h
 refine ol_new rfl rfl rfl (q_mkslice (r := rowC r61) (a := (0 : Int)) ty33 rfl ty61 rfl rfl (lenOk_some h5).1 (lenOk_some h5).2 rfl rfl) (fun k6 => ?_)
 refine pq (qa (.one (.own k6 0 ((List.replicate n3.toNat (0 : Int))).length))) ?_
 refine oE (eS (lR ?_))
 obtain rfl := sj h
 exact E_endO (r := r61) 0 (.inr rfl) (res_tmp rfl res_nil) rfl (fun x h m => rfl) (fun x => rfl)

noncomputable def ref03_set (s1 : Sl (Int)) (n2 : Int) (b3 : Bool) : Option (List (Int)) :=
  ((app ([] : List (Int)) s1.l).bind fun _ => (if n2 < 0 then some (([] : List (Int)) ++ s1.l) else ((divO .i64 n2 64).bind fun n8 => (if n8 ≥ ((s1.l.length : Nat) : Int) then some (([] : List (Int)) ++ s1.l) else ((modO n2 64).bind fun n11 => ((shl1 .u64 1 (IntKind.u64.wrap n11)).bind fun n13 => (if b3 = true then ((atS 1 (mo 1 (([] : List (Int)) ++ s1.l)) n8).bind fun n20 => some ((([] : List (Int)) ++ s1.l).set n8.toNat (orI .u64 n20 n13))) else ((atS 1 (mo 1 (([] : List (Int)) ++ s1.l)) n8).bind fun n17 => some ((([] : List (Int)) ++ s1.l).set n8.toNat (andNotI .u64 n17 n13))))))))))
theorem ref03_set_r (m : Nat) {s1 : Sl (Int)} {n2 : Int} {b3 : Bool} {out : List (Int)} (h : ref03_set s1 n2 b3 = some out) : RunsP E1 (m + 1) 76 [.one (Sl.t r61 s1), .one (iT .i64 n2), .one (bT b3)] (resM 1 r61 out) := by
 refine fn_M rfl (by rw [E1_fn]; exact show fiOf Try.prog 76 = _ by unfold fiOf; rw [Try.func76]; unfold Try.f76; rfl) rfl ?_
 dsimp only
 unfold ref03_set at h
 refine lS (lO ?_)
 refine pq (qa (.one nC)) ?_
 refine oN ?_
 refine pq (qa (.one nC)) ?_
 refine oN ?_
 refine pq (qm (.one nC)) ?_
 refine pq (qm (.one (sF r61 s1))) ?_
 refine ol_addM (α := Int) r61 1 ?_
 obtain ⟨_, h4, h⟩ := bindS h
 obtain ⟨h4b, rfl⟩ := app_some h4
 refine ol_appM (r := r61) (l := ([] : List (Int))) (ys := s1.l) 0 rfl rfl rfl rfl rfl rfl (el_dat (fr := false) (r := r61) (fun x => rfl)) rfl h4 (fun y => rfl) el33 ty33 rfl rfl rfl rfl rfl (fun k6 => ?_)
 refine pq (qa (.one (moC (([] : List (Int)) ++ s1.l) k6))) ?_
 refine oE (eS (lS (lS (lO ?_))))
 refine pq (qm (iO n2)) ?_
 by_cases c7 : n2 < 0
 replace h := ifT c7 h
 refine pq (qb (p_lss_tZ c7)) ?_
 refine pq (qm bt) ?_
 iterate 5 refine os ?_
 refine pq (qpt bt) ?_
 refine oE (eS (cT rfl (lS (lO ?_))))
 refine pq (qm (.one (moC (([] : List (Int)) ++ s1.l) k6))) ?_
 refine pq (qa (.one (moC (([] : List (Int)) ++ s1.l) k6))) ?_
 refine oE (eS (lR (eR ?_)))
 obtain rfl := sj h
 exact E_endM (r := r61) 0 (.inr rfl) (res_tmp rfl res_nil) rfl (fun x h m => rfl) (fun x => rfl)
 replace h := ifF c7 h
 refine pq (qb (p_lss_fZ c7)) ?_
 refine pq (qm bf) ?_
 refine pq (qm (iO n2)) ?_
 obtain ⟨n8, h9, h⟩ := bindS h
 refine pq (q_bin rfl rfl (divO_p h9) rfl) ?_
 refine pq (qm (.one (sF r61 s1))) ?_
 refine pq (q_lenS rfl ty33 rfl rfl rfl rfl) ?_
 by_cases c10 : n8 ≥ ((s1.l.length : Nat) : Int)
 replace h := ifT c10 h
 refine pq (qb (p_geq_tZ c10)) ?_
 refine pq (qpf bt) ?_
 refine oE (eS (cT rfl (lS (lO ?_))))
 refine pq (qm (.one (moC (([] : List (Int)) ++ s1.l) k6))) ?_
 refine pq (qa (.one (moC (([] : List (Int)) ++ s1.l) k6))) ?_
 refine oE (eS (lR (eR ?_)))
 obtain rfl := sj h
 exact E_endM (r := r61) 0 (.inr rfl) (res_tmp rfl res_nil) rfl (fun x h m => rfl) (fun x => rfl)
 replace h := ifF c10 h
 refine pq (qb (p_geq_fZ c10)) ?_
 refine pq (qpf bf) ?_
 refine oE (eS (cF rfl (lK (eS (lS (lO ?_))))))
 refine pq (qm (iO n2)) ?_
 obtain ⟨n11, h12, h⟩ := bindS h
 refine pq (q_bin rfl rfl (modO_p h12) rfl) ?_
 refine pq (q_conv rfl (cv3_90_i64 _) rfl) ?_
 obtain ⟨n13, h14, h⟩ := bindS h
 refine pq (q_bin rfl rfl (p_shl h14) rfl) ?_
 refine pq (qa (.one (uI n13))) ?_
 refine oE (eS (lS (lS (lO ?_))))
 refine pq (qm (bO b3)) ?_
 refine oE (eS ?_)
 rcases b3 with _ | _
 replace h := wF h
 refine cF rfl (lO ?_)
 refine pq (qm (.one (moC (([] : List (Int)) ++ s1.l) k6))) ?_
 refine pq (qm (iO n2)) ?_
 refine pq (q_bin rfl rfl (divO_p h9) rfl) ?_
 refine pq (qm (.one (moC (([] : List (Int)) ++ s1.l) k6))) ?_
 refine pq (qm (iO n2)) ?_
 refine pq (q_bin rfl rfl (divO_p h9) rfl) ?_
 obtain ⟨n17, h16, h⟩ := bindS h
 obtain ⟨h16a, h16⟩ := atM_some h16
 refine pq (q_ixM (r := r61) 0 rfl rfl h16a h16 rfl el33) ?_
 refine pq (q_loadP (v := .one (uI n17)) 0 rfl sz61 (segM (r := r61) rfl h16) (map_get h16) rfl rfl) ?_
 refine pq (qm (.one (uI n13))) ?_
 refine pq (q_bin rfl rfl (p_andNot _ _ _ _ _ _ _) rfl) ?_
 refine pq (q_ixM (r := r61) 0 rfl rfl h16a h16 rfl el33) ?_
 refine ol_wr rfl rfl (q_store (e' := rowC r61 (andNotI .u64 n17 n13)) (es' := (((([] : List (Int)) ++ s1.l).set n8.toNat (andNotI .u64 n17 n13))).map (rowC r61)) 0 rfl rfl rfl sz61 rfl (segM (r := r61) rfl h16) (map_get h16) rfl map_set) (congrArg (fun z => List.set _ 0 z) (setM (r := r61) h16)) ?_
 refine ol_re 7 (v := .one (moC ((([] : List (Int)) ++ s1.l).set n8.toNat (andNotI .u64 n17 n13)) k6)) (Eq.trans (b := .one (moC (([] : List (Int)) ++ s1.l) k6)) rfl (congrArg D.one moC_set)) ?_
 refine ol_re 11 (v := .one (moC ((([] : List (Int)) ++ s1.l).set n8.toNat (andNotI .u64 n17 n13)) k6)) (Eq.trans (b := .one (moC (([] : List (Int)) ++ s1.l) k6)) rfl (congrArg D.one moC_set)) ?_
 refine ol_re 38 (v := .one (moC ((([] : List (Int)) ++ s1.l).set n8.toNat (andNotI .u64 n17 n13)) k6)) (Eq.trans (b := .one (moC (([] : List (Int)) ++ s1.l) k6)) rfl (congrArg D.one moC_set)) ?_
 refine ol_re 41 (v := .one (moC ((([] : List (Int)) ++ s1.l).set n8.toNat (andNotI .u64 n17 n13)) k6)) (Eq.trans (b := .one (moC (([] : List (Int)) ++ s1.l) k6)) rfl (congrArg D.one moC_set)) ?_
 refine oN ?_
 refine pq (qm (.one (moC ((([] : List (Int)) ++ s1.l).set n8.toNat (andNotI .u64 n17 n13)) k6))) ?_
 refine pq (qa (.one (moC ((([] : List (Int)) ++ s1.l).set n8.toNat (andNotI .u64 n17 n13)) k6))) ?_
 refine oE (eS (lR ?_))
 obtain rfl := sj h
 exact E_endM (r := r61) 0 (.inr rfl) (res_tmp rfl res_nil) rfl (fun x h m => rfl) (fun x => rfl)
 replace h := wT h
 refine cT rfl (lO ?_)
 refine pq (qm (.one (moC (([] : List (Int)) ++ s1.l) k6))) ?_
 refine pq (qm (iO n2)) ?_
 refine pq (q_bin rfl rfl (divO_p h9) rfl) ?_
 refine pq (qm (.one (moC (([] : List (Int)) ++ s1.l) k6))) ?_
 refine pq (qm (iO n2)) ?_
 refine pq (q_bin rfl rfl (divO_p h9) rfl) ?_
 obtain ⟨n20, h19, h⟩ := bindS h
 obtain ⟨h19a, h19⟩ := atM_some h19
 refine pq (q_ixM (r := r61) 0 rfl rfl h19a h19 rfl el33) ?_
 refine pq (q_loadP (v := .one (uI n20)) 0 rfl sz61 (segM (r := r61) rfl h19) (map_get h19) rfl rfl) ?_
 refine pq (qm (.one (uI n13))) ?_
 refine pq (q_bin rfl rfl (p_or _ _ _ _ _ _ _) rfl) ?_
 refine pq (q_ixM (r := r61) 0 rfl rfl h19a h19 rfl el33) ?_
 refine ol_wr rfl rfl (q_store (e' := rowC r61 (orI .u64 n20 n13)) (es' := (((([] : List (Int)) ++ s1.l).set n8.toNat (orI .u64 n20 n13))).map (rowC r61)) 0 rfl rfl rfl sz61 rfl (segM (r := r61) rfl h19) (map_get h19) rfl map_set) (congrArg (fun z => List.set _ 0 z) (setM (r := r61) h19)) ?_
 refine ol_re 7 (v := .one (moC ((([] : List (Int)) ++ s1.l).set n8.toNat (orI .u64 n20 n13)) k6)) (Eq.trans (b := .one (moC (([] : List (Int)) ++ s1.l) k6)) rfl (congrArg D.one moC_set)) ?_
 refine ol_re 11 (v := .one (moC ((([] : List (Int)) ++ s1.l).set n8.toNat (orI .u64 n20 n13)) k6)) (Eq.trans (b := .one (moC (([] : List (Int)) ++ s1.l) k6)) rfl (congrArg D.one moC_set)) ?_
 refine ol_re 27 (v := .one (moC ((([] : List (Int)) ++ s1.l).set n8.toNat (orI .u64 n20 n13)) k6)) (Eq.trans (b := .one (moC (([] : List (Int)) ++ s1.l) k6)) rfl (congrArg D.one moC_set)) ?_
 refine ol_re 30 (v := .one (moC ((([] : List (Int)) ++ s1.l).set n8.toNat (orI .u64 n20 n13)) k6)) (Eq.trans (b := .one (moC (([] : List (Int)) ++ s1.l) k6)) rfl (congrArg D.one moC_set)) ?_
 refine oN ?_
 refine pq (qm (.one (moC ((([] : List (Int)) ++ s1.l).set n8.toNat (orI .u64 n20 n13)) k6))) ?_
 refine pq (qa (.one (moC ((([] : List (Int)) ++ s1.l).set n8.toNat (orI .u64 n20 n13)) k6))) ?_
 refine oE (eS (lR ?_))
 obtain rfl := sj h
 exact E_endM (r := r61) 0 (.inr rfl) (res_tmp rfl res_nil) rfl (fun x h m => rfl) (fun x => rfl)

noncomputable def ref03_Put (s1 : Sl (Int)) (n2 : Int) : Option (List (Int)) :=
  ((ref03_set s1 n2 true).bind fun s4 => some s4)
theorem ref03_Put_r (m : Nat) {s1 : Sl (Int)} {n2 : Int} {out : List (Int)} (h : ref03_Put s1 n2 = some out) : RunsP E1 (m + 2) 59 [.one (Sl.t r61 s1), .one (iT .i64 n2)] (resM 1 r61 out) := by
 refine fn_M rfl (by rw [E1_fn]; exact show fiOf Try.prog 59 = _ by unfold fiOf; rw [Try.func59]; unfold Try.f59; rfl) rfl ?_
 dsimp only
 unfold ref03_Put at h
 refine lS (lO ?_)
 refine pq (qa (.one nC)) ?_
 refine oN ?_
 refine pq (qm (.one (sF r61 s1))) ?_
 refine pq (qm (iO n2)) ?_
 obtain ⟨s4, h3, h⟩ := bindS h
 refine ol_callM (r := r61) (l := s4) (args := [.one (sF r61 s1), iO n2, bt]) (ref03_set_r (m + 0) h3) rfl rfl rfl rfl rfl rfl (vw_cons (vd_one vc_s) (vw_cons (vd_one vc_v) (vw_cons (vd_one vc_v) vw_nil))) rfl (fun k5 => ?_)
 refine pq (qa (.one (moC s4 k5))) ?_
 refine oE (eS (lR ?_))
 obtain rfl := sj h
 exact E_endM (r := r61) 0 (.inr rfl) (res_tmp rfl res_nil) rfl (fun x h m => rfl) (fun x => rfl)

noncomputable def ref03_Of_b1 (n1 : Int) (s2 : Sl (Int)) (a : List (Int) × Int) : Option ((List (Int) × Int) ⊕ ((List (Int)) ⊕ (List (Int)))) :=
  match a with
  | (l29, n30) => (if n30 < ((s2.l.length : Nat) : Int) then ((atS 1 s2 n30).bind fun n35 => (if n35 ≥ 0 then (if n35 < n1 then (if n35 < 4096 then ((ref03_Put (⟨true, 1, l29⟩ : Sl (Int)) n35).bind fun s40 => ((neL s40).bind fun _ => some (.inl (s40, (IntKind.i64.wrap (n30 + 1)))))) else some (.inl (l29, (IntKind.i64.wrap (n30 + 1))))) else some (.inl (l29, (IntKind.i64.wrap (n30 + 1))))) else some (.inl (l29, (IntKind.i64.wrap (n30 + 1)))))) else some (.inr (.inl l29)))
noncomputable def ref03_Of (n1 : Int) (s2 : Sl (Int)) : Option (List (Int)) :=
  ((ref03_New n1).bind fun s4 => ((loopO (ref03_Of_b1 n1 s2) (s4, 0)).bind (Sum.elim (fun l43 => some l43) (fun u => some u))))
theorem ref03_Of_r (m : Nat) {n1 : Int} {s2 : Sl (Int)} {out : List (Int)} (h : ref03_Of n1 s2 = some out) : RunsP E1 (m + 3) 29 [.one (iT .i64 n1), .one (Sl.t r3 s2)] (.own, [.one (.s true 1 ((out).map r61))]) := by
 refine fn_O rfl (by rw [E1_fn]; exact show fiOf Try.prog 29 = _ by unfold fiOf; rw [Try.func29]; unfold Try.f29; rfl) rfl ?_
 dsimp only
 unfold ref03_Of at h
 refine lS (lO ?_)
 refine pq (qa (.one nC)) ?_
 refine oN ?_
 refine pq (qm (iO n1)) ?_
 obtain ⟨s4, h3, h⟩ := bindS h
 refine ol_new rfl rfl rfl (q_callO (args := [iO n1]) (ref03_New_r (m + 0) h3) rfl rfl (vw_cons (vd_one vc_v) vw_nil) rfl) (fun k5 => ?_)
 refine pq (qa (.one (.own k5 0 (s4).length))) ?_
 refine oE (eS (lS (lS (lO ?_))))
 refine pq (qa (iO 0)) ?_
 refine oE (eS (lB ?_))
 let S1 : (List (Int) × Int) → Nat → (Nat → D) → Nat → D := fun a kt g => ups g [(0, iO n1), (1, .one (sF r3 s2)), (5, .one (.own kt 0 (a.1).length)), (6, .one (iI a.2))]
 let SL1 : (List (Int) × Int) → Nat → BL := fun a kt => ([[(kt, 1, (a.1).map (rowC r61))]] : BL)
 let G1 : (List (Int)) → Ex → St → Prop := fun u => endQ E1 [.tmp 4] (.own, [.one (.s true 1 ((u).map r61))])
 let Sx1 : (List (Int)) → Nat → (Nat → D) → Nat → D := fun a kt g => ups g [(5, .one (.own kt 0 (a).length))]
 let SLx1 : (List (Int)) → Nat → BL := fun a kt => ([[(kt, 1, (a).map (rowC r61))]] : BL)
 let J1 : ((List (Int)) ⊕ (List (Int))) → Ex → St → Prop := JX 42 0 Sx1 SLx1 G1
 refine L_loopS (ref03_Of_b1 n1 s2) S1 SL1 J1 JX_n (s4, 0) h k5 (ups_self ⟨rfl, rfl, rfl, rfl, trivial⟩) [0] (by decide) rfl ?_ ?_
 rintro ⟨l29, n30⟩ k31 g out h
 change ref03_Of_b1 n1 s2 (l29, n30) = some out at h
 unfold ref03_Of_b1 at h
 refine lS (lS (lO ?_))
 refine pq (qm (iO n30)) ?_
 refine pq (qm (.one (sF r3 s2))) ?_
 refine pq (q_lenS rfl ty54 rfl rfl rfl rfl) ?_
 by_cases c32 : n30 < ((s2.l.length : Nat) : Int)
 replace h := ifT c32 h
 refine pq (qb (p_lss_tZ c32)) ?_
 refine oE (eS (cT rfl (lK (eS (lS (lB (lS (lO ?_))))))))
 refine pq (qm (.one (sF r3 s2))) ?_
 refine pq (qm (iO n30)) ?_
 obtain ⟨n35, h34, h⟩ := bindS h
 obtain ⟨h34a, h34b, h34⟩ := atS_some h34
 refine pq (q_ixS rfl rfl h34a h34 (el54.trans (congrArg some h34b.symm))) ?_
 refine pq (q_loadI (v := iO n35) rfl sz3 (map_get h34) rfl rfl) ?_
 by_cases c36 : n35 ≥ 0
 replace h := ifT c36 h
 refine pq (qb (p_geq_tZ c36)) ?_
 refine pq (qm bt) ?_
 refine pq (qm (.one (sF r3 s2))) ?_
 refine pq (qm (iO n30)) ?_
 refine pq (q_ixS rfl rfl h34a h34 (el54.trans (congrArg some h34b.symm))) ?_
 refine pq (q_loadI (v := iO n35) rfl sz3 (map_get h34) rfl rfl) ?_
 refine pq (qm (iO n1)) ?_
 by_cases c37 : n35 < n1
 replace h := ifT c37 h
 refine pq (qb (p_lss_tZ c37)) ?_
 refine pq (qpt bt) ?_
 refine pq (qm bt) ?_
 refine pq (qm (.one (sF r3 s2))) ?_
 refine pq (qm (iO n30)) ?_
 refine pq (q_ixS rfl rfl h34a h34 (el54.trans (congrArg some h34b.symm))) ?_
 refine pq (q_loadI (v := iO n35) rfl sz3 (map_get h34) rfl rfl) ?_
 by_cases c38 : n35 < 4096
 replace h := ifT c38 h
 refine pq (qb (p_lss_tZ c38)) ?_
 refine pq (qpt bt) ?_
 refine oE (eS (cT rfl (lO ?_)))
 refine pq (qm (.one (.own k31 0 (l29).length))) ?_
 refine pq (qm (.one (sF r3 s2))) ?_
 refine pq (qm (iO n30)) ?_
 refine pq (q_ixS rfl rfl h34a h34 (el54.trans (congrArg some h34b.symm))) ?_
 refine pq (q_loadI (v := iO n35) rfl sz3 (map_get h34) rfl rfl) ?_
 obtain ⟨s40, h39, h⟩ := bindS h
 refine ol_callM (r := r61) (l := s40) (args := [.one (.own k31 0 (l29).length), iO n35]) (ref03_Put_r (m + 0) h39) rfl rfl rfl rfl rfl rfl (vw_cons (vd_one (vc_own (r := r61) 0 rfl (fun x h m => rfl))) (vw_cons (vd_one vc_v) vw_nil)) rfl (fun k41 => ?_)
 refine pq (qa (.one (moC s40 k41))) ?_
 refine oE (bN (eS (lO ?_)))
 refine pq (qm (iO n30)) ?_
 refine pq (qb p_addY) ?_
 refine pq (qa (iO (IntKind.i64.wrap (n30 + 1)))) ?_
 refine oE ?_
 obtain ⟨_, h42, h⟩ := bindS h
 refine E_re 5 (v := .one (.own k41 0 (s40).length)) (Eq.trans (b := .one (moC s40 k41)) rfl (congrArg D.one (ne_moC h42).symm)) ?_
 refine E_reS 0 rfl (ne_moL h42).symm ?_
 obtain rfl := sj h
 exact E_next k41 (ups_self ⟨rfl, rfl, rfl, rfl, trivial⟩) [0] (by decide) rfl
 replace h := ifF c38 h
 refine pq (qb (p_lss_fZ c38)) ?_
 refine pq (qpt bf) ?_
 refine oE (eS (cF rfl (lK (bN (eS (lO ?_))))))
 refine pq (qm (iO n30)) ?_
 refine pq (qb p_addY) ?_
 refine pq (qa (iO (IntKind.i64.wrap (n30 + 1)))) ?_
 refine oE ?_
 obtain rfl := sj h
 exact E_next k31 (ups_self ⟨rfl, rfl, rfl, rfl, trivial⟩) [0] (by decide) rfl
 replace h := ifF c37 h
 refine pq (qb (p_lss_fZ c37)) ?_
 refine pq (qpt bf) ?_
 refine pq (qm bf) ?_
 iterate 5 refine os ?_
 refine pq (qpf bf) ?_
 refine oE (eS (cF rfl (lK (bN (eS (lO ?_))))))
 refine pq (qm (iO n30)) ?_
 refine pq (qb p_addY) ?_
 refine pq (qa (iO (IntKind.i64.wrap (n30 + 1)))) ?_
 refine oE ?_
 obtain rfl := sj h
 exact E_next k31 (ups_self ⟨rfl, rfl, rfl, rfl, trivial⟩) [0] (by decide) rfl
 replace h := ifF c36 h
 refine pq (qb (p_geq_fZ c36)) ?_
 refine pq (qm bf) ?_
 iterate 6 refine os ?_
 refine pq (qpf bf) ?_
 refine pq (qm bf) ?_
 iterate 5 refine os ?_
 refine pq (qpf bf) ?_
 refine oE (eS (cF rfl (lK (bN (eS (lO ?_))))))
 refine pq (qm (iO n30)) ?_
 refine pq (qb p_addY) ?_
 refine pq (qa (iO (IntKind.i64.wrap (n30 + 1)))) ?_
 refine oE ?_
 obtain rfl := sj h
 exact E_next k31 (ups_self ⟨rfl, rfl, rfl, rfl, trivial⟩) [0] (by decide) rfl
 replace h := ifF c32 h
 refine pq (qb (p_lss_fZ c32)) ?_
 refine oE (eS (cF rfl (L_exit ?_)))
 refine E_seqX ?_
 obtain rfl := sj h
 refine E_out ?_
 exact (E_exit k31 (ups_self ⟨rfl, trivial⟩) [0] (by decide) rfl)
 rintro (l43 | u) h
 refine J_x (fun k44 g => ?_)
 replace h := elimL h
 refine bH (eS (lS (lO ?_)))
 refine pq (qm (.one (.own k44 0 (l43).length))) ?_
 refine pq (qa (.one (.own k44 0 (l43).length))) ?_
 refine oE (eS (lR ?_))
 obtain rfl := sj h
 exact E_endO (r := r61) 0 (.inr rfl) (res_tmp rfl res_nil) rfl (fun x h m => rfl) (fun x => rfl)
 obtain rfl := Option.some.inj (elimR h)
 exact J_up (fun s hs => hs)

noncomputable def fold_Least_b1 (s7 : Sl (Int × Int)) (a : Int × Int × Int) : Option ((Int × Int × Int) ⊕ ((Int × Int) ⊕ ((Int × Int) × Bool))) :=
  match a with
  | (n32, n33, n34) => (if n32 < ((s7.l.length : Nat) : Int) then ((atS 2 s7 n32).bind fun (n38, n39) => (if n39 < n34 then some (.inl ((IntKind.i64.wrap (n32 + 1)), n38, n39)) else some (.inl ((IntKind.i64.wrap (n32 + 1)), n33, n34)))) else some (.inr (.inl (n33, n34))))
noncomputable def fold_Least (a0 : Int × (Sl (Int × Int))) : Option ((Int × Int) × Bool) :=
  match a0 with
  | (n1, s2) => ((fold_sure (n1, s2)).bind fun (n6, s7) => (if ((s7.l.length : Nat) : Int) = 0 then some ((0, 0), false) else ((atS 2 s7 0).bind fun (n12, n13) => ((loopO (fold_Least_b1 s7) (0, n12, n13)).bind (Sum.elim (fun ⟨n42, n43⟩ => some ((n42, n43), true)) (fun u => some u))))))
theorem fold_Least_r (m : Nat) {a0 : Int × (Sl (Int × Int))} {out : (Int × Int) × Bool} (h : fold_Least a0 = some out) : RunsP E1 (m + 4) 31 [.agg (r24 a0)] (.fresh, [.agg (r56 out.1), .one (bT out.2)]) := by
 obtain ⟨n1, s2⟩ := a0
 refine fn_F rfl (by rw [E1_fn]; exact show fiOf Try.prog 31 = _ by unfold fiOf; rw [Try.func31]; unfold Try.f31; rfl) rfl ?_
 dsimp only
 unfold fold_Least at h
 refine lS (lO ?_)
 refine ol_new rfl rfl rfl (q_box ty25 rfl (cs := [iI n1, sF r56 s2]) rfl rfl) (fun k3 => ?_)
 refine ol_new rfl rfl rfl (q_alloc ty57 (row := [iI 0, iI 0]) rfl rfl) (fun k4 => ?_)
 refine pq (qa bf) ?_
 refine oN ?_
 refine pq (ql (.agg [iI n1, sF r56 s2]) 1 sz25) ?_
 obtain ⟨⟨n6, s7⟩, h5, h⟩ := bindS h
 refine ol_putX rfl rfl rfl (q_callX (v := fun fr8 => .agg [iI n6, .p fr8 (Sl.t r56 s7)]) (args := [.agg [iI n1, sF r56 s2]]) (fold_sure_r (m + 0) h5) rfl rfl (vw_cons (vd_agg (vc_cons vc_v (vc_cons vc_s vc_nil))) vw_nil) rfl rfl (fun fr => rfl)) (fun fr8 => ?_)
 refine pq (q_fieldV (v := .one (.p fr8 (Sl.t r56 s7))) rfl fa25_1 rfl rfl) ?_
 refine pq (qa (.one (.p fr8 (Sl.t r56 s7)))) ?_
 refine oE (eS (lS (lS (lO ?_))))
 refine pq (qm (.one (.p fr8 (Sl.t r56 s7)))) ?_
 refine pq (q_lenS rfl ty23 rfl rfl rfl rfl) ?_
 by_cases c9 : ((s7.l.length : Nat) : Int) = 0
 replace h := ifT c9 h
 refine pq (qb (p_eql_tZ c9)) ?_
 refine oE (eS (cT rfl (lS (lO ?_))))
 refine pq (q_build (cs := [iI 0, iI 0]) ty57 rfl pl57 rfl) ?_
 refine ow [[iI 0, iI 0]] 0 sz57 ?_
 refine pq (qa bf) ?_
 refine oE (eS (lR (eR ?_)))
 obtain rfl := sj h
 exact E_endF (.inr rfl) (res_cell (d := .agg [iI 0, iI 0]) 0 rfl sz57 rfl rfl rfl rfl (res_tmp rfl res_nil)) (vw_cons (vd_agg (vc_cons vc_v (vc_cons vc_v vc_nil))) (vw_cons (vd_one vc_v) vw_nil)) oW rfl rfl
 replace h := ifF c9 h
 refine pq (qb (p_eql_fZ c9)) ?_
 refine oE (eS (cF rfl (lK (eS (lS (lO ?_))))))
 refine pq (qm (.one (.p fr8 (Sl.t r56 s7)))) ?_
 obtain ⟨⟨n12, n13⟩, h11, h⟩ := bindS h
 obtain ⟨h11a, h11b, h11⟩ := atS_some h11
 refine pq (q_ixS rfl rfl h11a h11 (el23.trans (congrArg some h11b.symm))) ?_
 refine pq (q_loadI (v := .agg [iI n12, iI n13]) rfl sz57 (map_get h11) rfl rfl) ?_
 refine ol_new rfl rfl rfl (q_alloc ty57 (row := [iI 0, iI 0]) rfl rfl) (fun k14 => ?_)
 refine ow [[iI n12, iI n13]] 0 sz57 ?_
 refine oE (eS (lS (lS (lO ?_))))
 refine pq (qm (.one (.p fr8 (Sl.t r56 s7)))) ?_
 refine pq (q_lenS rfl ty23 rfl rfl rfl rfl) ?_
 refine pq (qm (iO 0)) ?_
 refine oE (eS (lB ?_))
 let S1 : (Int × Int × Int) → Unit → (Nat → D) → Nat → D := fun a kt g => ups g [(2, .one (.ptr k4 0 0)), (5, .one (.ptr k14 0 0)), (18, .one (.p fr8 (Sl.t r56 s7))), (19, .one (iI ((s7.l.length : Nat) : Int))), (20, .one (iI a.1))]
 let SL1 : (Int × Int × Int) → Unit → BL := fun a kt => ([[(k4, 2, [[iI 0, iI 0]])], [(k14, 2, [[iI a.2.1, iI a.2.2]])]] : BL)
 let G1 : ((Int × Int) × Bool) → Ex → St → Prop := fun u => endQ E1 [.cell 2 57, .tmp 3] (.fresh, [.agg (r56 u.1), .one (bT u.2)])
 let Sx1 : (Int × Int) → Unit → (Nat → D) → Nat → D := fun a kt g => ups g [(2, .one (.ptr k4 0 0)), (5, .one (.ptr k14 0 0))]
 let SLx1 : (Int × Int) → Unit → BL := fun a kt => ([[(k4, 2, [[iI 0, iI 0]])], [(k14, 2, [[iI a.1, iI a.2]])]] : BL)
 let J1 : ((Int × Int) ⊕ ((Int × Int) × Bool)) → Ex → St → Prop := JX 32 0 Sx1 SLx1 G1
 refine L_loopS (fold_Least_b1 s7) S1 SL1 J1 JX_n (0, n12, n13) h () (ups_self ⟨rfl, rfl, rfl, rfl, rfl, trivial⟩) [1, 0] (by decide) rfl ?_ ?_
 rintro ⟨n32, n33, n34⟩ _ g out h
 change fold_Least_b1 s7 (n32, n33, n34) = some out at h
 unfold fold_Least_b1 at h
 refine lS (lO ?_)
 by_cases c35 : n32 < ((s7.l.length : Nat) : Int)
 replace h := ifT c35 h
 refine pq (qb (p_lss_tZ c35)) ?_
 refine oE (eS (lS (cT rfl (lK (eS (lS (lB (lS (lO ?_)))))))))
 obtain ⟨⟨n38, n39⟩, h37, h⟩ := bindS h
 obtain ⟨h37a, h37b, h37⟩ := atS_some h37
 refine pq (q_ixS rfl rfl h37a h37 (el23.trans (congrArg some h37b.symm))) ?_
 refine pq (q_loadI (v := .agg [iI n38, iI n39]) rfl sz57 (map_get h37) rfl rfl) ?_
 refine ol_new rfl rfl rfl (q_alloc ty57 (row := [iI 0, iI 0]) rfl rfl) (fun k40 => ?_)
 refine ow [[iI n38, iI n39]] 0 sz57 ?_
 refine oN ?_
 refine pq (q_fieldP rfl fa57_1 rfl) ?_
 refine pq (ql (iO n39) 0 sz2) ?_
 refine pq (q_fieldP rfl fa57_1 rfl) ?_
 refine pq (ql (iO n34) 2 sz2) ?_
 by_cases c41 : n39 < n34
 replace h := ifT c41 h
 refine pq (qb (p_lss_tZ c41)) ?_
 refine oE (eS (cT rfl (lO ?_)))
 refine pq (ql (.agg [iI n38, iI n39]) 0 sz57) ?_
 refine ow [[iI n38, iI n39]] 2 sz57 ?_
 refine oE (bN (eS (lO ?_)))
 refine pq (qb p_addY) ?_
 refine pq (qm (iO (IntKind.i64.wrap (n32 + 1)))) ?_
 refine oE ?_
 obtain rfl := sj h
 exact E_next () (ups_self ⟨rfl, rfl, rfl, rfl, rfl, trivial⟩) [1, 2] (by decide) rfl
 replace h := ifF c41 h
 refine pq (qb (p_lss_fZ c41)) ?_
 refine oE (eS (cF rfl (lK (bN (eS (lO ?_))))))
 refine pq (qb p_addY) ?_
 refine pq (qm (iO (IntKind.i64.wrap (n32 + 1)))) ?_
 refine oE ?_
 obtain rfl := sj h
 exact E_next () (ups_self ⟨rfl, rfl, rfl, rfl, rfl, trivial⟩) [1, 2] (by decide) rfl
 replace h := ifF c35 h
 refine pq (qb (p_lss_fZ c35)) ?_
 refine oE (eS (lS (cF rfl (L_exit ?_))))
 refine E_seqX ?_
 obtain rfl := sj h
 refine E_out ?_
 exact (E_exit () (ups_self ⟨rfl, rfl, trivial⟩) [0, 1] (by decide) rfl)
 rintro (⟨n42, n43⟩ | u) h
 refine J_x (fun kt g => ?_)
 replace h := elimL h
 refine bH (eS (lS (lO ?_)))
 refine pq (ql (.agg [iI n42, iI n43]) 1 sz57) ?_
 refine ow [[iI n42, iI n43]] 0 sz57 ?_
 refine pq (qa bt) ?_
 refine oE (eS (lR ?_))
 obtain rfl := sj h
 exact E_endF (.inr rfl) (res_cell (d := .agg [iI n42, iI n43]) 0 rfl sz57 rfl rfl rfl rfl (res_tmp rfl res_nil)) (vw_cons (vd_agg (vc_cons vc_v (vc_cons vc_v vc_nil))) (vw_cons (vd_one vc_v) vw_nil)) oW rfl rfl
 obtain rfl := Option.some.inj (elimR h)
 exact J_up (fun s hs => hs)
end Ev
end Go.Proofs.Ytlcfdmjkbaegpaa
