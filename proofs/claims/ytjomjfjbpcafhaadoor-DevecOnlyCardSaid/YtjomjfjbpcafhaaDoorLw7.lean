/- Functions of the program as functions on data, and that they are. -/
import Derived.Test.YtjomjfjbpcafhaaDoorEvZ
import Derived.Test.YtjomjfjbpcafhaaDoorLf1
import Derived.Test.YtjomjfjbpcafhaaDoorLf2
import Derived.Test.YtjomjfjbpcafhaaDoorLf3
import Derived.Test.YtjomjfjbpcafhaaDoorLf4
import Derived.Test.YtjomjfjbpcafhaaDoorLf9
import Derived.Test.YtjomjfjbpcafhaaDoorLy1
import Derived.Test.YtjomjfjbpcafhaaDoorLy2
namespace Go.Proofs.YtjomjfjbpcafhaaDoor
namespace Ev
open Go
set_option linter.unusedVariables false
set_option linter.unusedSimpArgs false
set_option maxRecDepth 100000
set_option maxHeartbeats 1000000
attribute [local irreducible] OpsL StL TnL WpL EndL
noncomputable def law10_DevecOnly_b1 (n11 : Int) (s12 : Sl (Int)) (s13 : Sl (Int)) (n27 : Int) (s28 : Sl (Int)) (s29 : Sl (Int)) (n33 : Int) (s34 : Sl (Int)) (s35 : Sl (Int)) (n63 : Int) : Option (Int ⊕ (Unit ⊕ Bool)) :=
  (if n63 < n11 then ((devec_Get (n11, s12, s13) n63).bind fun (n66, b67) => ((devec_Get (n27, s28, s29) n63).bind fun (n69, b70) => ((devec_Get (n33, s34, s35) n63).bind fun (n72, b73) => (if b70 = true then (if b73 = true then some (.inr (.inr false)) else (if b67 = true then (if n66 ≠ (IntKind.i64.wrap (n69 + n72)) then some (.inr (.inr false)) else some (.inl (IntKind.i64.wrap (n63 + 1)))) else some (.inr (.inr false)))) else (if b67 = true then (if b73 = true then (if n66 ≠ (IntKind.i64.wrap (n69 + n72)) then some (.inr (.inr false)) else some (.inl (IntKind.i64.wrap (n63 + 1)))) else some (.inr (.inr false))) else (if b73 = true then some (.inr (.inr false)) else (if n66 ≠ (IntKind.i64.wrap (n69 + n72)) then some (.inr (.inr false)) else some (.inl (IntKind.i64.wrap (n63 + 1)))))))))) else some (.inr (.inl ())))
noncomputable def law10_DevecOnly (n1 : Int) (s2 : Sl (Int × Int)) (s3 : Sl (Int)) : Option (Bool) :=
  (if ((s3.l.length : Nat) : Int) > 5 then ((FL).bind fun b6 => some b6) else ((law09_Some n1 s2).bind fun (n8, s9) => ((devec_Of (n8, s9)).bind fun (n11, s12, s13) => ((devec_Only (n11, s12, s13) s3).bind fun (n27, s28, s29) => ((ref03_Flip s3 n11).bind fun s31 => ((devec_Only (n11, s12, s13) (⟨true, 1, s31⟩ : Sl (Int))).bind fun (n33, s34, s35) => ((loopO (law10_DevecOnly_b1 n11 s12 s13 n27 s28 s29 n33 s34 s35) 0).bind (Sum.elim (fun _ => ((FL).bind fun b78 => (if b78 = true then ((devec_Count (n27, s28, s29)).bind fun n80 => ((devec_Count (n33, s34, s35)).bind fun n82 => ((devec_Count (n11, s12, s13)).bind fun n84 => (if (IntKind.i64.wrap (n80 + n82)) = n84 then some true else some false)))) else some false))) (fun u => some u)))))))))
theorem law10_DevecOnly_r (m : Nat) {n1 : Int} {s2 : Sl (Int × Int)} {s3 : Sl (Int)} {out : Bool} (h : law10_DevecOnly n1 s2 s3 = some out) : RunsP E1 (m + 8) 7 [.one (iT .u8 n1), .one (Sl.t r38 s2), .one (Sl.t r85 s3)] (.fresh, [.one (bT out)]) := by
 refine fn_F rfl (by rw [E1_fn]; exact show fiOf Tryd.prog 7 = _ by unfold fiOf; rw [Tryd.func7]; unfold Tryd.f7; rfl) rfl ?_
 dsimp only
 unfold law10_DevecOnly at h
 refine lS (lO ?_)
 refine pq (qa bf) ?_
 refine oE (eS (lS (lS (lO ?_))))
 refine pq (qm (.one (sF r85 s3))) ?_
 refine pq (q_lenS rfl ty22 rfl rfl rfl rfl) ?_
 by_cases c4 : ((s3.l.length : Nat) : Int) > 5
 replace h := ifT c4 h
 refine pq (qb (p_gtr_tZ c4)) ?_
 refine oE (eS (cT rfl (lS (lO ?_))))
 obtain ⟨b6, h5, h⟩ := bindS h
 refine pq (qc (bO b6) [] (FL_r (m + 6) h5) vw_nil) ?_
 refine pq (qa (bO b6)) ?_
 refine oE (eS (lR (eR ?_)))
 obtain rfl := sj h
 exact eF1
 replace h := ifF c4 h
 refine pq (qb (p_gtr_fZ c4)) ?_
 refine oE (eS (cF rfl (lK (eS (lS (lO ?_))))))
 refine pq (qm (.one (iC .u8 n1))) ?_
 refine pq (qm (.one (sF r38 s2))) ?_
 obtain ⟨⟨n8, s9⟩, h7, h⟩ := bindS h
 refine pq (qc (.agg [iI n8, sC r38 s9]) [.one (iC .u8 n1), .one (sF r38 s2)] (law09_Some_r (m + 2) h7) (vw_cons (vd_one vc_v) (vw_cons (vd_one vc_s) vw_nil))) ?_
 obtain ⟨⟨n11, s12, s13⟩, h10, h⟩ := bindS h
 refine pq (qc (.agg [iI n11, sC r85 s12, sC r2 s13]) [.agg [iI n8, sC r38 s9]] (devec_Of_r (m + 2) h10) (vw_cons (vd_agg (vc_cons vc_v (vc_cons vc_s vc_nil))) vw_nil)) ?_
 refine ol_new rfl rfl rfl (q_alloc ty25 (row := [iI 0, nC, nC]) rfl rfl) (fun k14 => ?_)
 refine ow [[iI n11, sC r85 s12, sC r2 s13]] 0 sz25 ?_
 refine oE (eS (lS ?_))
 refine L_norm (L2 := ([[(k14, 3, [[iI n11, sC r85 s12, sC r2 s13]])]] : BL)) [0] (by decide) rfl ?_
 refine L_turn 13 rfl [[], [], [], [], [], [], [], [], [], [], [], [], []] [(false, []), (false, []), (false, []), (false, []), (false, []), (false, []), (false, []), (true, []), (false, []), (true, []), (true, []), (false, [9]), (false, [10])] [[1, 3, 4, 5, 6, 9, 10], [0, 3, 4, 5, 6, 9, 10], [3, 4, 5, 6, 9, 10], [0, 1, 2, 4, 5, 6, 7, 9, 10], [0, 1, 2, 3, 5, 6, 9, 10], [0, 1, 2, 3, 4, 9, 10], [0, 1, 2, 3, 4, 9, 10], [3, 9, 10], [9, 10], [0, 1, 2, 3, 4, 5, 6, 7, 8, 10], [0, 1, 2, 3, 4, 5, 6, 7, 8, 9], [], []] (by kernel_rfl) (by kernel_rfl) (by kernel_rfl) ?_ (fun bb15 hlt hnd => ?_)
 intro bb15 hlt hnd
 exact ⟨⟨djE, ⟨djE, ⟨djE, ⟨djE, ⟨djE, ⟨djE, ⟨djE, ⟨djE, ⟨djE, ⟨djE, ⟨djE, ⟨djE, ⟨djE, trivial⟩⟩⟩⟩⟩⟩⟩⟩⟩⟩⟩⟩⟩, (ltO_cons ltK_nil (ltO_cons ltK_nil (ltO_cons ltK_nil (ltO_cons ltK_nil (ltO_cons ltK_nil (ltO_cons ltK_nil (ltO_cons ltK_nil (ltO_cons ltK_nil (ltO_cons ltK_nil (ltO_cons ltK_nil (ltO_cons ltK_nil (ltO_cons ltK_nil (ltO_cons ltK_nil ltO_nil)))))))))))))⟩
 refine tq [0] rfl (hmc (nin_cons (ne_new (key_lt hlt 0 rfl)) (nin_cons (ne_new (key_lt hlt 0 rfl)) nin_nil)) hmn) (ql (.agg [iI n11, sC r85 s12, sC r2 s13]) 0 sz25) ?_
 refine tq [] rfl hmn (qm (.one (sF r85 s3))) ?_
 obtain ⟨⟨n27, s28, s29⟩, h26, h⟩ := bindS h
 refine tq [] rfl hmn (qc (.agg [iI n27, sC r85 s28, sC r2 s29]) [.agg [iI n11, sC r85 s12, sC r2 s13], .one (sF r85 s3)] (devec_Only_r (m + 0) h26) (vw_cons (vd_agg (vc_cons vc_v (vc_cons vc_s (vc_cons vc_s vc_nil)))) (vw_cons (vd_one vc_s) vw_nil))) ?_
 refine tq [0] rfl (hmc (nin_cons (ne_new (key_lt hlt 0 rfl)) (nin_cons (ne_new (key_lt hlt 0 rfl)) (nin_cons (ne_new (key_lt hlt 0 rfl)) nin_nil))) hmn) (ql (.agg [iI n11, sC r85 s12, sC r2 s13]) 0 sz25) ?_
 refine tq [] rfl hmn (qm (.one (sF r85 s3))) ?_
 refine tq [] rfl hmn (q_fieldP rfl fa25_0 rfl) ?_
 refine tq [0] rfl (hmc (nin_cons (ne_new (key_lt hlt 0 rfl)) (nin_cons (ne_new (key_lt hlt 0 rfl)) nin_nil)) hmn) (ql (iO n11) 0 sz3) ?_
 obtain ⟨s31, h30, h⟩ := bindS h
 refine tn_new rfl rfl rfl [] (by decide) rfl hmn rfl rfl (hkc (ne_new (key_lt hlt 0 rfl)) hkn) (q_callO (args := [.one (sF r85 s3), iO n11]) (ref03_Flip_r (m + 4) h30) rfl rfl (vw_cons (vd_one vc_s) (vw_cons (vd_one vc_v) vw_nil)) rfl) ?_
 obtain ⟨⟨n33, s34, s35⟩, h32, h⟩ := bindS h
 refine tq [0] rfl (hmc (nin_cons (ne_add rfl) (nin_cons (ne_add rfl) nin_nil)) hmn) (qc (.agg [iI n33, sC r85 s34, sC r2 s35]) [.agg [iI n11, sC r85 s12, sC r2 s13], .one (.own (bb15 + 7) 0 (s31).length)] (devec_Only_r (m + 0) h32) (vw_cons (vd_agg (vc_cons vc_v (vc_cons vc_s (vc_cons vc_s vc_nil)))) (vw_cons (vd_one (vc_own (r := r85) 0 rfl (fun x h m => rfl))) vw_nil))) ?_
 refine tn_new rfl rfl rfl [] (by decide) rfl hmn rfl rfl (hkc (ne_add rfl) (hkc (ne_new (key_lt hlt 0 rfl)) hkn)) (q_alloc ty25 (row := [iI 0, nC, nC]) rfl rfl) ?_
 refine tn_new rfl rfl rfl [] (by decide) rfl hmn rfl rfl (hkc (ne_add rfl) (hkc (ne_add rfl) (hkc (ne_new (key_lt hlt 0 rfl)) hkn))) (q_alloc ty25 (row := [iI 0, nC, nC]) rfl rfl) ?_
 refine tn_wr rfl rfl [1] (by decide) rfl (hm0 rfl) rfl (q_store (es' := [[iI n27, sC r85 s28, sC r2 s29]]) 0 rfl rfl rfl sz25 rfl rfl rfl rfl rfl) (q := 1) rfl rfl ?_
 refine tn_wr rfl rfl [0] (by decide) rfl (hm0 rfl) rfl (q_store (es' := [[iI n33, sC r85 s34, sC r2 s35]]) 0 rfl rfl rfl sz25 rfl rfl rfl rfl rfl) (q := 0) rfl rfl ?_
 refine tn_end (eS (lS (lS (lO ?_))))
 refine pq (qa (iO 0)) ?_
 refine oE (eS (lB ?_))
 let S1 : Int → Unit → (Nat → D) → Nat → D := fun a kt g => ups g [(7, .one (.ptr k14 0 0)), (8, .one (.ptr (bb15 + 9) 0 0)), (9, .one (.ptr (bb15 + 10) 0 0)), (10, iO a)]
 let SL1 : Int → Unit → BL := fun a kt => ([[(k14, 3, [[iI n11, sC r85 s12, sC r2 s13]])], [((bb15 + 9), 3, [[iI n27, sC r85 s28, sC r2 s29]])], [((bb15 + 10), 3, [[iI n33, sC r85 s34, sC r2 s35]])]] : BL)
 let G1 : Bool → Ex → St → Prop := fun u => endQ E1 [.tmp 6] (.fresh, [.one (bT u)])
 let Sx1 : Unit → Unit → (Nat → D) → Nat → D := fun a kt g => ups g [(7, .one (.ptr k14 0 0)), (8, .one (.ptr (bb15 + 9) 0 0)), (9, .one (.ptr (bb15 + 10) 0 0))]
 let SLx1 : Unit → Unit → BL := fun a kt => ([[(k14, 3, [[iI n11, sC r85 s12, sC r2 s13]])], [((bb15 + 9), 3, [[iI n27, sC r85 s28, sC r2 s29]])], [((bb15 + 10), 3, [[iI n33, sC r85 s34, sC r2 s35]])]] : BL)
 let J1 : (Unit ⊕ Bool) → Ex → St → Prop := JX 88 0 Sx1 SLx1 G1
 refine L_loopS (law10_DevecOnly_b1 n11 s12 s13 n27 s28 s29 n33 s34 s35) S1 SL1 J1 JX_n 0 h () (ups_self ⟨rfl, rfl, rfl, rfl, trivial⟩) [3, 1, 0] (by decide) rfl ?_ ?_
 rintro n63 _ g out h
 change law10_DevecOnly_b1 n11 s12 s13 n27 s28 s29 n33 s34 s35 n63 = some out at h
 unfold law10_DevecOnly_b1 at h
 refine lS (lS (lO ?_))
 refine pq (qm (iO n63)) ?_
 refine pq (q_fieldP rfl fa25_0 rfl) ?_
 refine pq (ql (iO n11) 0 sz3) ?_
 by_cases c64 : n63 < n11
 replace h := ifT c64 h
 refine pq (qb (p_lss_tZ c64)) ?_
 refine oE (eS (cT rfl (lK (eS (lS (lB (lS (lO ?_))))))))
 refine pq (ql (.agg [iI n11, sC r85 s12, sC r2 s13]) 0 sz25) ?_
 refine pq (qm (iO n63)) ?_
 obtain ⟨⟨n66, b67⟩, h65, h⟩ := bindS h
 refine pq (qc (.tup [iO n66, bO b67]) [.agg [iI n11, sC r85 s12, sC r2 s13], iO n63] (devec_Get_r (m + 0) h65) (vw_cons (vd_agg (vc_cons vc_v (vc_cons vc_s (vc_cons vc_s vc_nil)))) (vw_cons (vd_one vc_v) vw_nil))) ?_
 refine pq (qm (.tup [iO n66, bO b67])) ?_
 refine pq (q_ext (v := iO n66) rfl rfl) ?_
 refine pq (q_ext (v := bO b67) rfl rfl) ?_
 refine pq (qa (iO n66)) ?_
 refine pq (qa (bO b67)) ?_
 refine oN ?_
 refine pq (ql (.agg [iI n27, sC r85 s28, sC r2 s29]) 1 sz25) ?_
 refine pq (qm (iO n63)) ?_
 obtain ⟨⟨n69, b70⟩, h68, h⟩ := bindS h
 refine pq (qc (.tup [iO n69, bO b70]) [.agg [iI n27, sC r85 s28, sC r2 s29], iO n63] (devec_Get_r (m + 0) h68) (vw_cons (vd_agg (vc_cons vc_v (vc_cons vc_s (vc_cons vc_s vc_nil)))) (vw_cons (vd_one vc_v) vw_nil))) ?_
 refine pq (qm (.tup [iO n69, bO b70])) ?_
 refine pq (q_ext (v := iO n69) rfl rfl) ?_
 refine pq (q_ext (v := bO b70) rfl rfl) ?_
 refine pq (qa (iO n69)) ?_
 refine pq (qa (bO b70)) ?_
 refine oN ?_
 refine pq (ql (.agg [iI n33, sC r85 s34, sC r2 s35]) 2 sz25) ?_
 refine pq (qm (iO n63)) ?_
 obtain ⟨⟨n72, b73⟩, h71, h⟩ := bindS h
 refine pq (qc (.tup [iO n72, bO b73]) [.agg [iI n33, sC r85 s34, sC r2 s35], iO n63] (devec_Get_r (m + 0) h71) (vw_cons (vd_agg (vc_cons vc_v (vc_cons vc_s (vc_cons vc_s vc_nil)))) (vw_cons (vd_one vc_v) vw_nil))) ?_
 refine pq (qm (.tup [iO n72, bO b73])) ?_
 refine pq (q_ext (v := iO n72) rfl rfl) ?_
 refine pq (q_ext (v := bO b73) rfl rfl) ?_
 refine pq (qa (iO n72)) ?_
 refine pq (qa (bO b73)) ?_
 refine oN ?_
 refine pq (qm (bO b70)) ?_
 refine pq (qm (bO b70)) ?_
 rcases b70 with _ | _
 replace h := wF h
 refine os ?_
 refine pq (qpf bf) ?_
 refine pq (qm bf) ?_
 refine pq (qm (bO b67)) ?_
 refine pq (qm bf) ?_
 refine pq (qm bf) ?_
 refine pq (qm (bO b73)) ?_
 refine pq (qpf (bO b73)) ?_
 rcases b67 with _ | _
 replace h := wF h
 rcases b73 with _ | _
 replace h := wF h
 refine pq (q_binB rfl rfl (eqneqB4 _ _ _ _) rfl) ?_
 refine pq (qpf bf) ?_
 refine pq (qm bf) ?_
 refine pq (qm (iO n66)) ?_
 refine pq (qm (iO n69)) ?_
 refine pq (qm (iO n72)) ?_
 refine pq (qb p_addY) ?_
 by_cases c74 : n66 ≠ (IntKind.i64.wrap (n69 + n72))
 replace h := ifT c74 h
 refine pq (qb (p_neq_tZ c74)) ?_
 refine pq (qpf bt) ?_
 refine oE (eS (cT rfl (lS (lO ?_))))
 refine pq (qa bf) ?_
 refine oE (eS (lR (bR (eR ?_))))
 obtain rfl := sj h
 exact E_out (E_up (eF1))
 replace h := ifF c74 h
 refine pq (qb (p_neq_fZ c74)) ?_
 refine pq (qpf bf) ?_
 refine oE (eS (cF rfl (lK (bN (eS (lO ?_))))))
 refine pq (qm (iO n63)) ?_
 refine pq (qb p_addY) ?_
 refine pq (qa (iO (IntKind.i64.wrap (n63 + 1)))) ?_
 refine oE ?_
 obtain rfl := sj h
 exact E_next () (ups_self ⟨rfl, rfl, rfl, rfl, trivial⟩) [0, 1, 2] (by decide) rfl
 replace h := wT h
 refine pq (q_binB rfl rfl (eqneqB4 _ _ _ _) rfl) ?_
 refine pq (qpf bt) ?_
 refine pq (qm bt) ?_
 iterate 5 refine os ?_
 refine pq (qpt bt) ?_
 refine oE (eS (cT rfl (lS (lO ?_))))
 refine pq (qa bf) ?_
 refine oE (eS (lR (bR (eR ?_))))
 obtain rfl := sj h
 exact E_out (E_up (eF1))
 replace h := wT h
 rcases b73 with _ | _
 replace h := wF h
 refine pq (q_binB rfl rfl (eqneqB4 _ _ _ _) rfl) ?_
 refine pq (qpf bt) ?_
 refine pq (qm bt) ?_
 iterate 5 refine os ?_
 refine pq (qpt bt) ?_
 refine oE (eS (cT rfl (lS (lO ?_))))
 refine pq (qa bf) ?_
 refine oE (eS (lR (bR (eR ?_))))
 obtain rfl := sj h
 exact E_out (E_up (eF1))
 replace h := wT h
 refine pq (q_binB rfl rfl (eqneqB4 _ _ _ _) rfl) ?_
 refine pq (qpf bf) ?_
 refine pq (qm bf) ?_
 refine pq (qm (iO n66)) ?_
 refine pq (qm (iO n69)) ?_
 refine pq (qm (iO n72)) ?_
 refine pq (qb p_addY) ?_
 by_cases c75 : n66 ≠ (IntKind.i64.wrap (n69 + n72))
 replace h := ifT c75 h
 refine pq (qb (p_neq_tZ c75)) ?_
 refine pq (qpf bt) ?_
 refine oE (eS (cT rfl (lS (lO ?_))))
 refine pq (qa bf) ?_
 refine oE (eS (lR (bR (eR ?_))))
 obtain rfl := sj h
 exact E_out (E_up (eF1))
 replace h := ifF c75 h
 refine pq (qb (p_neq_fZ c75)) ?_
 refine pq (qpf bf) ?_
 refine oE (eS (cF rfl (lK (bN (eS (lO ?_))))))
 refine pq (qm (iO n63)) ?_
 refine pq (qb p_addY) ?_
 refine pq (qa (iO (IntKind.i64.wrap (n63 + 1)))) ?_
 refine oE ?_
 obtain rfl := sj h
 exact E_next () (ups_self ⟨rfl, rfl, rfl, rfl, trivial⟩) [0, 1, 2] (by decide) rfl
 replace h := wT h
 refine pq (qm (bO b73)) ?_
 refine pq (qpt (bO b73)) ?_
 refine pq (qm (bO b73)) ?_
 rcases b73 with _ | _
 replace h := wF h
 refine pq (qm (bO b67)) ?_
 refine pq (qm bt) ?_
 refine pq (qm bt) ?_
 refine os ?_
 refine pq (qpt bt) ?_
 rcases b67 with _ | _
 replace h := wF h
 refine pq (q_binB rfl rfl (eqneqB4 _ _ _ _) rfl) ?_
 refine pq (qpf bt) ?_
 refine pq (qm bt) ?_
 iterate 5 refine os ?_
 refine pq (qpt bt) ?_
 refine oE (eS (cT rfl (lS (lO ?_))))
 refine pq (qa bf) ?_
 refine oE (eS (lR (bR (eR ?_))))
 obtain rfl := sj h
 exact E_out (E_up (eF1))
 replace h := wT h
 refine pq (q_binB rfl rfl (eqneqB4 _ _ _ _) rfl) ?_
 refine pq (qpf bf) ?_
 refine pq (qm bf) ?_
 refine pq (qm (iO n66)) ?_
 refine pq (qm (iO n69)) ?_
 refine pq (qm (iO n72)) ?_
 refine pq (qb p_addY) ?_
 by_cases c76 : n66 ≠ (IntKind.i64.wrap (n69 + n72))
 replace h := ifT c76 h
 refine pq (qb (p_neq_tZ c76)) ?_
 refine pq (qpf bt) ?_
 refine oE (eS (cT rfl (lS (lO ?_))))
 refine pq (qa bf) ?_
 refine oE (eS (lR (bR (eR ?_))))
 obtain rfl := sj h
 exact E_out (E_up (eF1))
 replace h := ifF c76 h
 refine pq (qb (p_neq_fZ c76)) ?_
 refine pq (qpf bf) ?_
 refine oE (eS (cF rfl (lK (bN (eS (lO ?_))))))
 refine pq (qm (iO n63)) ?_
 refine pq (qb p_addY) ?_
 refine pq (qa (iO (IntKind.i64.wrap (n63 + 1)))) ?_
 refine oE ?_
 obtain rfl := sj h
 exact E_next () (ups_self ⟨rfl, rfl, rfl, rfl, trivial⟩) [0, 1, 2] (by decide) rfl
 replace h := wT h
 iterate 6 refine os ?_
 refine pq (qpt bt) ?_
 refine pq (qm bt) ?_
 iterate 5 refine os ?_
 refine pq (qpt bt) ?_
 refine oE (eS (cT rfl (lS (lO ?_))))
 refine pq (qa bf) ?_
 refine oE (eS (lR (bR (eR ?_))))
 obtain rfl := sj h
 exact E_out (E_up (eF1))
 replace h := ifF c64 h
 refine pq (qb (p_lss_fZ c64)) ?_
 refine oE (eS (cF rfl (L_exit ?_)))
 refine E_seqX ?_
 obtain rfl := sj h
 refine E_out ?_
 exact (E_exit () (ups_self ⟨rfl, rfl, rfl, trivial⟩) [0, 1, 2] (by decide) rfl)
 rintro (_ | u) h
 refine J_x (fun kt g => ?_)
 replace h := elimL h
 refine bH (eS (lS ?_))
 refine L_still (by kernel_rfl) ?_
 obtain ⟨b78, h77, h⟩ := bindS h
 refine sq (qc (bO b78) [] (FL_r (m + 6) h77) vw_nil) ?_
 refine sq (qm (bO b78)) ?_
 rcases b78 with _ | _
 replace h := wF h
 iterate 8 refine ss ?_
 refine sq (qpf bf) ?_
 refine sq (qa bf) ?_
 refine st_end (eS (lR ?_))
 obtain rfl := sj h
 exact eF1
 replace h := wT h
 refine sq (ql (.agg [iI n27, sC r85 s28, sC r2 s29]) 1 sz25) ?_
 obtain ⟨n80, h79, h⟩ := bindS h
 refine sq (qc (iO n80) [.agg [iI n27, sC r85 s28, sC r2 s29]] (devec_Count_r (m + 0) h79) (vw_cons (vd_agg (vc_cons vc_v (vc_cons vc_s (vc_cons vc_s vc_nil)))) vw_nil)) ?_
 refine sq (ql (.agg [iI n33, sC r85 s34, sC r2 s35]) 2 sz25) ?_
 obtain ⟨n82, h81, h⟩ := bindS h
 refine sq (qc (iO n82) [.agg [iI n33, sC r85 s34, sC r2 s35]] (devec_Count_r (m + 0) h81) (vw_cons (vd_agg (vc_cons vc_v (vc_cons vc_s (vc_cons vc_s vc_nil)))) vw_nil)) ?_
 refine sq (qb p_addY) ?_
 refine sq (ql (.agg [iI n11, sC r85 s12, sC r2 s13]) 0 sz25) ?_
 obtain ⟨n84, h83, h⟩ := bindS h
 refine sq (qc (iO n84) [.agg [iI n11, sC r85 s12, sC r2 s13]] (devec_Count_r (m + 0) h83) (vw_cons (vd_agg (vc_cons vc_v (vc_cons vc_s (vc_cons vc_s vc_nil)))) vw_nil)) ?_
 by_cases c85 : (IntKind.i64.wrap (n80 + n82)) = n84
 replace h := ifT c85 h
 refine sq (qb (p_eql_tZ c85)) ?_
 refine sq (qpt bt) ?_
 refine sq (qa bt) ?_
 refine st_end (eS (lR ?_))
 obtain rfl := sj h
 exact eF1
 replace h := ifF c85 h
 refine sq (qb (p_eql_fZ c85)) ?_
 refine sq (qpt bf) ?_
 refine sq (qa bf) ?_
 refine st_end (eS (lR ?_))
 obtain rfl := sj h
 exact eF1
 obtain rfl := Option.some.inj (elimR h)
 exact J_up (fun s hs => hs)
end Ev
end Go.Proofs.YtjomjfjbpcafhaaDoor
