/- Functions of the program as functions on data, and that they are. -/
import Derived.Test.YtlcfdmjkbaegpaaEvZ
import Derived.Test.YtlcfdmjkbaegpaaLf1
import Derived.Test.YtlcfdmjkbaegpaaLf16
import Derived.Test.YtlcfdmjkbaegpaaLf3
import Derived.Test.YtlcfdmjkbaegpaaLf4
import Derived.Test.YtlcfdmjkbaegpaaLf5
import Derived.Test.YtlcfdmjkbaegpaaLf7
import Derived.Test.YtlcfdmjkbaegpaaLy1
namespace Go.Proofs.Ytlcfdmjkbaegpaa
namespace Ev
open Go
set_option linter.unusedVariables false
set_option linter.unusedSimpArgs false
set_option maxRecDepth 100000
set_option maxHeartbeats 1000000
attribute [local irreducible] OpsL StL TnL WpL EndL
noncomputable def top_TopLeast (n1 : Int) (a1 : (Sl (Int × Int)) × (Sl (Int × Int))) (n4 : Int) : Option (Bool) :=
  match a1 with
  | (s2, s3) => ((law09_Some n1 s2).bind fun (n14, s15) => ((law09_Some n1 s3).bind fun (n17, s18) => ((blend_Union 1 (n14, s15) (n17, s18)).bind fun ((n20, s21), n22) => ((fold_Reduce 1 (n20, s21)).bind fun (n25, n26) => ((fold_Where (n20, s21) 1 n4).bind fun (n29, s30) => ((ref09_Places (n29, s30)).bind fun s32 => (match s32 with | [] => ((ref03_Of n20 (⟨false, 0, []⟩ : Sl (Int))).bind fun s46 => ((blend_Mask (n20, s21) (⟨true, 1, s46⟩ : Sl (Int)) true).bind fun (n48, s49) => ((blend_Over (n29, s30) (n48, s49)).bind fun ((n51, s52), n53) => ((fold_Least (n14, s15)).bind fun ((n55, n56), b57) => ((fold_Least (n17, s18)).bind fun ((n60, n61), b62) => (if b57 = true then (if b62 = true then (if n61 < n56 then ((fold_Least (1, (⟨true, 2, ([(0, 3)] : List (Int × Int))⟩ : Sl (Int × Int)))).bind fun ((n106, n107), b108) => (if n107 = 3 then (if n22 = 0 then (if n26 = 0 then (if n25 = n61 then (if n53 = 0 then ((ref09_Same (n51, s52) (n20, s21)).bind fun b116 => some b116) else some false) else some false) else some false) else some false) else some false)) else ((fold_Least (1, (⟨true, 2, ([(0, 3)] : List (Int × Int))⟩ : Sl (Int × Int)))).bind fun ((n119, n120), b121) => (if n120 = 3 then (if n22 = 0 then (if n26 = 0 then (if n25 = n56 then (if n53 = 0 then ((ref09_Same (n51, s52) (n20, s21)).bind fun b129 => some b129) else some false) else some false) else some false) else some false) else some false))) else ((fold_Least (1, (⟨true, 2, ([(0, 3)] : List (Int × Int))⟩ : Sl (Int × Int)))).bind fun ((n92, n93), b94) => (if n93 = 3 then (if n22 = 0 then (if n26 = 0 then (if n25 = n56 then (if n53 = 0 then ((ref09_Same (n51, s52) (n20, s21)).bind fun b102 => some b102) else some false) else some false) else some false) else some false) else some false))) else (if b62 = true then ((fold_Least (1, (⟨true, 2, ([(0, 3)] : List (Int × Int))⟩ : Sl (Int × Int)))).bind fun ((n79, n80), b81) => (if n80 = 3 then (if n22 = 0 then (if n26 = 0 then (if n25 = n61 then (if n53 = 0 then ((ref09_Same (n51, s52) (n20, s21)).bind fun b89 => some b89) else some false) else some false) else some false) else some false) else some false)) else ((fold_Least (1, (⟨true, 2, ([(0, 3)] : List (Int × Int))⟩ : Sl (Int × Int)))).bind fun ((n66, n67), b68) => (if n67 = 3 then (if n22 = 0 then (if n26 = 0 then (if n25 = 4611686018427387904 then (if n53 = 0 then ((ref09_Same (n51, s52) (n20, s21)).bind fun b76 => some b76) else some false) else some false) else some false) else some false) else some false))))))))) | y33 :: t34 => ((ref03_Of n20 (⟨true, 1, (y33 :: t34)⟩ : Sl (Int))).bind fun s141 => ((blend_Mask (n20, s21) (⟨true, 1, s141⟩ : Sl (Int)) true).bind fun (n143, s144) => ((blend_Over (n29, s30) (n143, s144)).bind fun ((n146, s147), n148) => ((fold_Least (n14, s15)).bind fun ((n150, n151), b152) => ((fold_Least (n17, s18)).bind fun ((n155, n156), b157) => (if b152 = true then (if b157 = true then (if n156 < n151 then ((fold_Least (1, (⟨true, 2, ([(0, 3)] : List (Int × Int))⟩ : Sl (Int × Int)))).bind fun ((n201, n202), b203) => (if n202 = 3 then (if n22 = 0 then (if n26 = 0 then (if n25 = n156 then (if n148 = 0 then ((ref09_Same (n146, s147) (n20, s21)).bind fun b211 => some b211) else some false) else some false) else some false) else some false) else some false)) else ((fold_Least (1, (⟨true, 2, ([(0, 3)] : List (Int × Int))⟩ : Sl (Int × Int)))).bind fun ((n214, n215), b216) => (if n215 = 3 then (if n22 = 0 then (if n26 = 0 then (if n25 = n151 then (if n148 = 0 then ((ref09_Same (n146, s147) (n20, s21)).bind fun b224 => some b224) else some false) else some false) else some false) else some false) else some false))) else ((fold_Least (1, (⟨true, 2, ([(0, 3)] : List (Int × Int))⟩ : Sl (Int × Int)))).bind fun ((n187, n188), b189) => (if n188 = 3 then (if n22 = 0 then (if n26 = 0 then (if n25 = n151 then (if n148 = 0 then ((ref09_Same (n146, s147) (n20, s21)).bind fun b197 => some b197) else some false) else some false) else some false) else some false) else some false))) else (if b157 = true then ((fold_Least (1, (⟨true, 2, ([(0, 3)] : List (Int × Int))⟩ : Sl (Int × Int)))).bind fun ((n174, n175), b176) => (if n175 = 3 then (if n22 = 0 then (if n26 = 0 then (if n25 = n156 then (if n148 = 0 then ((ref09_Same (n146, s147) (n20, s21)).bind fun b184 => some b184) else some false) else some false) else some false) else some false) else some false)) else ((fold_Least (1, (⟨true, 2, ([(0, 3)] : List (Int × Int))⟩ : Sl (Int × Int)))).bind fun ((n161, n162), b163) => (if n162 = 3 then (if n22 = 0 then (if n26 = 0 then (if n25 = 4611686018427387904 then (if n148 = 0 then ((ref09_Same (n146, s147) (n20, s21)).bind fun b171 => some b171) else some false) else some false) else some false) else some false) else some false))))))))))))))))
theorem top_TopLeast_r (m : Nat) {n1 : Int} {a1 : (Sl (Int × Int)) × (Sl (Int × Int))} {n4 : Int} {out : Bool} (h : top_TopLeast n1 a1 n4 = some out) : RunsP E1 (m + 7) 9 [.one (iT .u8 n1), .agg (r46 a1), .one (iT .i64 n4)] (.fresh, [.one (bT out)]) := by
 obtain ⟨s2, s3⟩ := a1
 refine fn_F rfl (by rw [E1_fn]; exact show fiOf Try.prog 9 = _ by unfold fiOf; rw [Try.func9]; unfold Try.f9; rfl) rfl ?_
 dsimp only
 unfold top_TopLeast at h
 refine lS (lO ?_)
 refine ol_new rfl rfl rfl (q_box ty46 rfl (cs := [sF r56 s2, sF r56 s3]) rfl rfl) (fun k5 => ?_)
 refine pq (qa bf) ?_
 refine oE (eS (lS ?_))
 refine L_norm (L2 := ([[(k5, 2, [[sF r56 s2, sF r56 s3]])]] : BL)) [0] (by decide) rfl ?_
 refine L_turn 12 rfl [[], [], [], [], [], [], [], [], [], [], [], []] [(false, []), (false, []), (false, []), (false, []), (false, []), (false, []), (false, []), (false, []), (true, []), (true, []), (false, [8]), (false, [9])] [[1, 2, 4, 5, 6, 8, 9], [0, 4, 5, 6, 8, 9], [0, 4, 5, 6, 8, 9], [4, 5, 6, 8, 9], [0, 1, 2, 3, 5, 6, 8, 9], [0, 1, 2, 3, 4, 8, 9], [0, 1, 2, 3, 4, 8, 9], [8, 9], [0, 1, 2, 3, 4, 5, 6, 7, 9], [0, 1, 2, 3, 4, 5, 6, 7, 8], [], []] (by kernel_rfl) (by kernel_rfl) (by kernel_rfl) ?_ (fun bb6 hlt hnd => ?_)
 intro bb6 hlt hnd
 exact ⟨⟨djE, ⟨djE, ⟨djE, ⟨djE, ⟨djE, ⟨djE, ⟨djE, ⟨djE, ⟨djE, ⟨djE, ⟨djE, ⟨djE, trivial⟩⟩⟩⟩⟩⟩⟩⟩⟩⟩⟩⟩, (ltO_cons ltK_nil (ltO_cons ltK_nil (ltO_cons ltK_nil (ltO_cons ltK_nil (ltO_cons ltK_nil (ltO_cons ltK_nil (ltO_cons ltK_nil (ltO_cons ltK_nil (ltO_cons ltK_nil (ltO_cons ltK_nil (ltO_cons ltK_nil (ltO_cons ltK_nil ltO_nil))))))))))))⟩
 refine tq [] rfl hmn (qm (.one (iC .u8 n1))) ?_
 refine tq [] rfl hmn (q_ixA (a := 0) ty46 rfl ty23 rfl rfl rfl rfl) ?_
 refine tq [0] rfl (hmc (nin_cons (ne_new (key_lt hlt 0 rfl)) (nin_cons (ne_new (key_lt hlt 0 rfl)) nin_nil)) hmn) (ql (.one (sF r56 s2)) 0 sz23) ?_
 obtain ⟨⟨n14, s15⟩, h13, h⟩ := bindS h
 refine tq [] rfl hmn (qc (.agg [iI n14, sC r56 s15]) [.one (iC .u8 n1), .one (sF r56 s2)] (law09_Some_r (m + 1) h13) (vw_cons (vd_one vc_v) (vw_cons (vd_one vc_s) vw_nil))) ?_
 refine tq [] rfl hmn (qm (.one (iC .u8 n1))) ?_
 refine tq [] rfl hmn (q_ixA (a := 1) ty46 rfl ty23 rfl rfl rfl rfl) ?_
 refine tq [0] rfl (hmc (nin_cons (ne_new (key_lt hlt 0 rfl)) (nin_cons (ne_new (key_lt hlt 0 rfl)) nin_nil)) hmn) (ql (.one (sF r56 s3)) 0 sz23) ?_
 obtain ⟨⟨n17, s18⟩, h16, h⟩ := bindS h
 refine tq [] rfl hmn (qc (.agg [iI n17, sC r56 s18]) [.one (iC .u8 n1), .one (sF r56 s3)] (law09_Some_r (m + 1) h16) (vw_cons (vd_one vc_v) (vw_cons (vd_one vc_s) vw_nil))) ?_
 refine tn_new rfl rfl rfl [] (by decide) rfl hmn rfl rfl (hkc (ne_new (key_lt hlt 0 rfl)) hkn) (q_alloc ty25 (row := [iI 0, nC]) rfl rfl) ?_
 refine tn_new rfl rfl rfl [] (by decide) rfl hmn rfl rfl (hkc (ne_add rfl) (hkc (ne_new (key_lt hlt 0 rfl)) hkn)) (q_alloc ty25 (row := [iI 0, nC]) rfl rfl) ?_
 refine tn_wr rfl rfl [1] (by decide) rfl (hm0 rfl) rfl (q_store (es' := [[iI n14, sC r56 s15]]) 0 rfl rfl rfl sz25 rfl rfl rfl rfl rfl) (q := 1) rfl rfl ?_
 refine tn_wr rfl rfl [0] (by decide) rfl (hm0 rfl) rfl (q_store (es' := [[iI n17, sC r56 s18]]) 0 rfl rfl rfl sz25 rfl rfl rfl rfl rfl) (q := 0) rfl rfl ?_
 refine tn_end (eS (lS (lO ?_)))
 refine pq (ql (.agg [iI n14, sC r56 s15]) 1 sz25) ?_
 refine pq (ql (.agg [iI n17, sC r56 s18]) 0 sz25) ?_
 obtain ⟨⟨⟨n20, s21⟩, n22⟩, h19, h⟩ := bindS h
 refine pq (qc (.tup [.agg [iI n20, sC r56 s21], iO n22]) [iO 1, .agg [iI n14, sC r56 s15], .agg [iI n17, sC r56 s18]] (blend_Union_r (m + 0) h19) (vw_cons (vd_one vc_v) (vw_cons (vd_agg (vc_cons vc_v (vc_cons vc_s vc_nil))) (vw_cons (vd_agg (vc_cons vc_v (vc_cons vc_s vc_nil))) vw_nil)))) ?_
 refine pq (qm (.tup [.agg [iI n20, sC r56 s21], iO n22])) ?_
 refine pq (q_ext (v := .agg [iI n20, sC r56 s21]) rfl rfl) ?_
 refine pq (q_ext (v := iO n22) rfl rfl) ?_
 refine ol_new rfl rfl rfl (q_alloc ty25 (row := [iI 0, nC]) rfl rfl) (fun k23 => ?_)
 refine ow [[iI n20, sC r56 s21]] 0 sz25 ?_
 refine pq (qa (iO n22)) ?_
 refine oN ?_
 refine pq (ql (.agg [iI n20, sC r56 s21]) 0 sz25) ?_
 obtain ⟨⟨n25, n26⟩, h24, h⟩ := bindS h
 refine pq (qc (.tup [iO n25, iO n26]) [iO 1, .agg [iI n20, sC r56 s21]] (fold_Reduce_r (m + 2) h24) (vw_cons (vd_one vc_v) (vw_cons (vd_agg (vc_cons vc_v (vc_cons vc_s vc_nil))) vw_nil))) ?_
 refine pq (qm (.tup [iO n25, iO n26])) ?_
 refine pq (q_ext (v := iO n25) rfl rfl) ?_
 refine pq (q_ext (v := iO n26) rfl rfl) ?_
 refine pq (qa (iO n25)) ?_
 refine pq (qa (iO n26)) ?_
 refine oE (eS (lS ?_))
 obtain ⟨⟨n29, s30⟩, h28, h⟩ := bindS h
 obtain ⟨s32, h31, h⟩ := bindS h
 rcases s32 with _ | ⟨y33, t34⟩
 dsimp only at h
 refine L_norm (L2 := ([[(k23, 2, [[iI n20, sC r56 s21]])], [((bb6 + 9), 2, [[iI n17, sC r56 s18]])], [((bb6 + 8), 2, [[iI n14, sC r56 s15]])]] : BL)) [0, 1, 2] (by decide) rfl ?_
 refine L_turn 19 rfl [[], [], [], [], [], [], [], [], [], [], [], [], [], [], [], [], [], [], []] [(false, []), (false, []), (false, []), (false, []), (false, []), (false, []), (false, []), (false, []), (false, []), (false, []), (true, []), (false, []), (false, []), (false, []), (false, []), (false, []), (true, []), (false, [16]), (false, [])] [[1, 3, 4, 5, 6, 7, 16], [0, 3, 4, 5, 6, 7, 16], [3, 4, 5, 6, 7, 16], [0, 1, 2, 4, 5, 6, 7, 8, 9, 10, 16], [0, 1, 2, 3, 6, 7, 8, 9, 16], [0, 1, 2, 3, 6, 7, 8, 9, 16], [0, 1, 2, 3, 4, 5, 7, 16], [0, 1, 2, 3, 4, 5, 6, 16], [3, 4, 5, 16], [3, 4, 5, 16], [3, 16], [16], [16], [16], [15, 16], [14, 16, 17], [0, 1, 2, 3, 4, 5, 6, 7, 8, 9, 10, 11, 12, 13, 14, 15], [15], []] (by kernel_rfl) (by kernel_rfl) (by kernel_rfl) ?_ (fun bb35 hlt hnd => ?_)
 intro bb35 hlt hnd
 exact ⟨⟨djE, ⟨djE, ⟨djE, ⟨djE, ⟨djE, ⟨djE, ⟨djE, ⟨djE, ⟨djE, ⟨djE, ⟨djE, ⟨djE, ⟨djE, ⟨djE, ⟨djE, ⟨djE, ⟨djE, ⟨djE, ⟨djE, trivial⟩⟩⟩⟩⟩⟩⟩⟩⟩⟩⟩⟩⟩⟩⟩⟩⟩⟩⟩, (ltO_cons ltK_nil (ltO_cons ltK_nil (ltO_cons ltK_nil (ltO_cons ltK_nil (ltO_cons ltK_nil (ltO_cons ltK_nil (ltO_cons ltK_nil (ltO_cons ltK_nil (ltO_cons ltK_nil (ltO_cons ltK_nil (ltO_cons ltK_nil (ltO_cons ltK_nil (ltO_cons ltK_nil (ltO_cons ltK_nil (ltO_cons ltK_nil (ltO_cons ltK_nil (ltO_cons ltK_nil (ltO_cons ltK_nil (ltO_cons ltK_nil ltO_nil)))))))))))))))))))⟩
 refine tq [0] rfl (hmc (nin_cons (ne_new (key_lt hlt 0 rfl)) nin_nil) hmn) (ql (.agg [iI n20, sC r56 s21]) 0 sz25) ?_
 refine tq [] rfl hmn (qm (iO n4)) ?_
 refine tq [] rfl hmn (qc (.agg [iI n29, sC r56 s30]) [.agg [iI n20, sC r56 s21], iO 1, iO n4] (fold_Where_r (m + 2) h28) (vw_cons (vd_agg (vc_cons vc_v (vc_cons vc_s vc_nil))) (vw_cons (vd_one vc_v) (vw_cons (vd_one vc_v) vw_nil)))) ?_
 refine tq [0] rfl (hmc (nin_cons (ne_new (key_lt hlt 0 rfl)) (nin_cons (ne_new (key_lt hlt 0 rfl)) nin_nil)) hmn) (ql (.agg [iI n20, sC r56 s21]) 0 sz25) ?_
 refine tq [] rfl hmn (q_fieldP rfl fa25_0 rfl) ?_
 refine tq [0] rfl (hmc (nin_cons (ne_new (key_lt hlt 0 rfl)) nin_nil) hmn) (ql (iO n20) 0 sz3) ?_
 refine tq [0] rfl (hmc (nin_cons (ne_new (key_lt hlt 0 rfl)) nin_nil) hmn) (ql (.agg [iI n20, sC r56 s21]) 0 sz25) ?_
 refine tq [] rfl hmn (qm (iO n4)) ?_
 refine tq [] rfl hmn (qc (.agg [iI n29, sC r56 s30]) [.agg [iI n20, sC r56 s21], iO 1, iO n4] (fold_Where_r (m + 2) h28) (vw_cons (vd_agg (vc_cons vc_v (vc_cons vc_s vc_nil))) (vw_cons (vd_one vc_v) (vw_cons (vd_one vc_v) vw_nil)))) ?_
 refine tq [] rfl hmn (qc (.one nC) [.agg [iI n29, sC r56 s30]] (ref09_Places_r (m + 3) h31) (vw_cons (vd_agg (vc_cons vc_v (vc_cons vc_s vc_nil))) vw_nil)) ?_
 obtain ⟨s46, h45, h⟩ := bindS h
 refine tn_new rfl rfl rfl [] (by decide) rfl hmn rfl rfl (hkc (ne_new (key_lt hlt 0 rfl)) (hkc (ne_new (key_lt hlt 1 rfl)) (hkc (ne_new (key_lt hlt 2 rfl)) hkn))) (q_callO (args := [iO n20, .one nC]) (ref03_Of_r (m + 3) h45) rfl rfl (vw_cons (vd_one vc_v) (vw_cons (vd_one vc_s) vw_nil)) rfl) ?_
 obtain ⟨⟨n48, s49⟩, h47, h⟩ := bindS h
 refine tq [0] rfl (hmc (nin_cons (ne_add rfl) nin_nil) hmn) (qc (.agg [iI n48, sC r56 s49]) [.agg [iI n20, sC r56 s21], .one (.own (bb35 + 10) 0 (s46).length), bt] (blend_Mask_r (m + 2) h47) (vw_cons (vd_agg (vc_cons vc_v (vc_cons vc_s vc_nil))) (vw_cons (vd_one (vc_own (r := r61) 0 rfl (fun x h m => rfl))) (vw_cons (vd_one vc_v) vw_nil)))) ?_
 obtain ⟨⟨⟨n51, s52⟩, n53⟩, h50, h⟩ := bindS h
 refine tq [] rfl hmn (qc (.tup [.agg [iI n51, sC r56 s52], iO n53]) [.agg [iI n29, sC r56 s30], .agg [iI n48, sC r56 s49]] (blend_Over_r (m + 1) h50) (vw_cons (vd_agg (vc_cons vc_v (vc_cons vc_s vc_nil))) (vw_cons (vd_agg (vc_cons vc_v (vc_cons vc_s vc_nil))) vw_nil))) ?_
 refine tq [] rfl hmn (qm (.tup [.agg [iI n51, sC r56 s52], iO n53])) ?_
 refine tq [] rfl hmn (q_ext (v := .agg [iI n51, sC r56 s52]) rfl rfl) ?_
 refine tq [] rfl hmn (q_ext (v := iO n53) rfl rfl) ?_
 refine tn_new rfl rfl rfl [] (by decide) rfl hmn rfl rfl (hkc (ne_add rfl) (hkc (ne_new (key_lt hlt 0 rfl)) (hkc (ne_new (key_lt hlt 1 rfl)) (hkc (ne_new (key_lt hlt 2 rfl)) hkn)))) (q_alloc ty25 (row := [iI 0, nC]) rfl rfl) ?_
 refine tn_wr rfl rfl [0] (by decide) rfl (hm0 rfl) rfl (q_store (es' := [[iI n51, sC r56 s52]]) 0 rfl rfl rfl sz25 rfl rfl rfl rfl rfl) (q := 0) rfl rfl ?_
 refine tq [] rfl (hm0 rfl) (qa (iO n53)) ?_
 refine tn_end (eS (lS (lO ?_)))
 refine pq (ql (.agg [iI n14, sC r56 s15]) 4 sz25) ?_
 obtain ⟨⟨⟨n55, n56⟩, b57⟩, h54, h⟩ := bindS h
 refine pq (qc (.tup [.agg [iI n55, iI n56], bO b57]) [.agg [iI n14, sC r56 s15]] (fold_Least_r (m + 2) h54) (vw_cons (vd_agg (vc_cons vc_v (vc_cons vc_s vc_nil))) vw_nil)) ?_
 refine pq (qm (.tup [.agg [iI n55, iI n56], bO b57])) ?_
 refine pq (q_ext (v := .agg [iI n55, iI n56]) rfl rfl) ?_
 refine pq (q_ext (v := bO b57) rfl rfl) ?_
 refine ol_new rfl rfl rfl (q_alloc ty57 (row := [iI 0, iI 0]) rfl rfl) (fun k58 => ?_)
 refine ow [[iI n55, iI n56]] 0 sz57 ?_
 refine pq (qa (bO b57)) ?_
 refine oN ?_
 refine pq (ql (.agg [iI n17, sC r56 s18]) 4 sz25) ?_
 obtain ⟨⟨⟨n60, n61⟩, b62⟩, h59, h⟩ := bindS h
 refine pq (qc (.tup [.agg [iI n60, iI n61], bO b62]) [.agg [iI n17, sC r56 s18]] (fold_Least_r (m + 2) h59) (vw_cons (vd_agg (vc_cons vc_v (vc_cons vc_s vc_nil))) vw_nil)) ?_
 refine pq (qm (.tup [.agg [iI n60, iI n61], bO b62])) ?_
 refine pq (q_ext (v := .agg [iI n60, iI n61]) rfl rfl) ?_
 refine pq (q_ext (v := bO b62) rfl rfl) ?_
 refine ol_new rfl rfl rfl (q_alloc ty57 (row := [iI 0, iI 0]) rfl rfl) (fun k63 => ?_)
 refine ow [[iI n60, iI n61]] 0 sz57 ?_
 refine pq (qa (bO b62)) ?_
 refine oN ?_
 refine pq (qa (iO 4611686018427387904)) ?_
 refine oE (eS (lS (lS (lO ?_))))
 refine pq (qm (bO b57)) ?_
 refine oE (eS ?_)
 rcases b57 with _ | _
 replace h := wF h
 refine cF rfl (lK (eS (lS (lS (lO ?_)))))
 refine pq (qm (bO b62)) ?_
 refine pq (qm (bO b62)) ?_
 rcases b62 with _ | _
 replace h := wF h
 iterate 8 refine os ?_
 refine pq (qpf bf) ?_
 refine oE (eS (cF rfl (lK (eS (lS (lO ?_))))))
 refine pq (q_build (cs := [iI 0, iI 3]) ty57 rfl pl57 rfl) ?_
 refine ol_new rfl rfl rfl (q_bslice (cs := [iI 0, iI 3]) (es := (([(0, 3)] : List (Int × Int))).map (rowC r56)) ty23 rfl ty57 rfl rfl rfl rfl rfl) (fun k64 => ?_)
 refine pq (q_build (cs := [iI 1, .own k64 0 (([(0, 3)] : List (Int × Int))).length]) ty25 rfl pl25 rfl) ?_
 obtain ⟨⟨⟨n66, n67⟩, b68⟩, h65, h⟩ := bindS h
 refine pq (qc (.tup [.agg [iI n66, iI n67], bO b68]) [.agg [iI 1, .own k64 0 (([(0, 3)] : List (Int × Int))).length]] (fold_Least_r (m + 2) h65) (vw_cons (vd_agg (vc_cons vc_v (vc_cons (vc_own (r := r56) 0 rfl (fun x h m => rfl)) vc_nil))) vw_nil)) ?_
 refine pq (qm (.tup [.agg [iI n66, iI n67], bO b68])) ?_
 refine pq (q_ext (v := .agg [iI n66, iI n67]) rfl rfl) ?_
 refine pq (q_ext (v := bO b68) rfl rfl) ?_
 refine ol_new rfl rfl rfl (q_alloc ty57 (row := [iI 0, iI 0]) rfl rfl) (fun k69 => ?_)
 refine ow [[iI n66, iI n67]] 0 sz57 ?_
 refine pq (qa (bO b68)) ?_
 refine oN ?_
 refine pq (q_fieldP rfl fa57_1 rfl) ?_
 refine pq (ql (iO n67) 0 sz2) ?_
 by_cases c70 : n67 = 3
 replace h := ifT c70 h
 refine pq (qb (p_eql_tZ c70)) ?_
 refine pq (qm bt) ?_
 refine pq (qm (iO n22)) ?_
 by_cases c71 : n22 = 0
 replace h := ifT c71 h
 refine pq (qb (p_eql_tZ c71)) ?_
 refine pq (qpt bt) ?_
 refine pq (qm bt) ?_
 refine pq (qm (iO n26)) ?_
 by_cases c72 : n26 = 0
 replace h := ifT c72 h
 refine pq (qb (p_eql_tZ c72)) ?_
 refine pq (qpt bt) ?_
 refine pq (qm bt) ?_
 refine pq (qm (iO n25)) ?_
 refine pq (qm (iO 4611686018427387904)) ?_
 by_cases c73 : n25 = 4611686018427387904
 replace h := ifT c73 h
 refine pq (qb (p_eql_tZ c73)) ?_
 refine pq (qpt bt) ?_
 refine pq (qm bt) ?_
 refine pq (qm (iO n53)) ?_
 by_cases c74 : n53 = 0
 replace h := ifT c74 h
 refine pq (qb (p_eql_tZ c74)) ?_
 refine pq (qpt bt) ?_
 refine pq (qm bt) ?_
 refine pq (ql (.agg [iI n51, sC r56 s52]) 4 sz25) ?_
 refine pq (ql (.agg [iI n20, sC r56 s21]) 6 sz25) ?_
 obtain ⟨b76, h75, h⟩ := bindS h
 refine pq (qc (bO b76) [.agg [iI n51, sC r56 s52], .agg [iI n20, sC r56 s21]] (ref09_Same_r (m + 4) h75) (vw_cons (vd_agg (vc_cons vc_v (vc_cons vc_s vc_nil))) (vw_cons (vd_agg (vc_cons vc_v (vc_cons vc_s vc_nil))) vw_nil))) ?_
 refine pq (qpt (bO b76)) ?_
 refine pq (qa (bO b76)) ?_
 refine oE (eS (lR ?_))
 obtain rfl := sj h
 exact eF1
 replace h := ifF c74 h
 refine pq (qb (p_eql_fZ c74)) ?_
 refine pq (qpt bf) ?_
 refine pq (qm bf) ?_
 iterate 3 refine os ?_
 refine pq (qpf bf) ?_
 refine pq (qa bf) ?_
 refine oE (eS (lR ?_))
 obtain rfl := sj h
 exact eF1
 replace h := ifF c73 h
 refine pq (qb (p_eql_fZ c73)) ?_
 refine pq (qpt bf) ?_
 refine pq (qm bf) ?_
 iterate 2 refine os ?_
 refine pq (qpf bf) ?_
 refine pq (qm bf) ?_
 iterate 3 refine os ?_
 refine pq (qpf bf) ?_
 refine pq (qa bf) ?_
 refine oE (eS (lR ?_))
 obtain rfl := sj h
 exact eF1
 replace h := ifF c72 h
 refine pq (qb (p_eql_fZ c72)) ?_
 refine pq (qpt bf) ?_
 refine pq (qm bf) ?_
 iterate 3 refine os ?_
 refine pq (qpf bf) ?_
 refine pq (qm bf) ?_
 iterate 2 refine os ?_
 refine pq (qpf bf) ?_
 refine pq (qm bf) ?_
 iterate 3 refine os ?_
 refine pq (qpf bf) ?_
 refine pq (qa bf) ?_
 refine oE (eS (lR ?_))
 obtain rfl := sj h
 exact eF1
 replace h := ifF c71 h
 refine pq (qb (p_eql_fZ c71)) ?_
 refine pq (qpt bf) ?_
 refine pq (qm bf) ?_
 iterate 2 refine os ?_
 refine pq (qpf bf) ?_
 refine pq (qm bf) ?_
 iterate 3 refine os ?_
 refine pq (qpf bf) ?_
 refine pq (qm bf) ?_
 iterate 2 refine os ?_
 refine pq (qpf bf) ?_
 refine pq (qm bf) ?_
 iterate 3 refine os ?_
 refine pq (qpf bf) ?_
 refine pq (qa bf) ?_
 refine oE (eS (lR ?_))
 obtain rfl := sj h
 exact eF1
 replace h := ifF c70 h
 refine pq (qb (p_eql_fZ c70)) ?_
 refine pq (qm bf) ?_
 iterate 2 refine os ?_
 refine pq (qpf bf) ?_
 refine pq (qm bf) ?_
 iterate 2 refine os ?_
 refine pq (qpf bf) ?_
 refine pq (qm bf) ?_
 iterate 3 refine os ?_
 refine pq (qpf bf) ?_
 refine pq (qm bf) ?_
 iterate 2 refine os ?_
 refine pq (qpf bf) ?_
 refine pq (qm bf) ?_
 iterate 3 refine os ?_
 refine pq (qpf bf) ?_
 refine pq (qa bf) ?_
 refine oE (eS (lR ?_))
 obtain rfl := sj h
 exact eF1
 replace h := wT h
 refine pq (qm bf) ?_
 refine pq (q_not rfl) ?_
 refine pq (qm bt) ?_
 iterate 4 refine os ?_
 refine pq (qpt bt) ?_
 refine pq (qpt bt) ?_
 refine oE (eS (cT rfl (lO ?_)))
 refine pq (q_fieldP rfl fa57_1 rfl) ?_
 refine pq (ql (iO n61) 0 sz2) ?_
 refine pq (qa (iO n61)) ?_
 refine oN ?_
 refine pq (q_build (cs := [iI 0, iI 3]) ty57 rfl pl57 rfl) ?_
 refine ol_new rfl rfl rfl (q_bslice (cs := [iI 0, iI 3]) (es := (([(0, 3)] : List (Int × Int))).map (rowC r56)) ty23 rfl ty57 rfl rfl rfl rfl rfl) (fun k77 => ?_)
 refine pq (q_build (cs := [iI 1, .own k77 0 (([(0, 3)] : List (Int × Int))).length]) ty25 rfl pl25 rfl) ?_
 obtain ⟨⟨⟨n79, n80⟩, b81⟩, h78, h⟩ := bindS h
 refine pq (qc (.tup [.agg [iI n79, iI n80], bO b81]) [.agg [iI 1, .own k77 0 (([(0, 3)] : List (Int × Int))).length]] (fold_Least_r (m + 2) h78) (vw_cons (vd_agg (vc_cons vc_v (vc_cons (vc_own (r := r56) 0 rfl (fun x h m => rfl)) vc_nil))) vw_nil)) ?_
 refine pq (qm (.tup [.agg [iI n79, iI n80], bO b81])) ?_
 refine pq (q_ext (v := .agg [iI n79, iI n80]) rfl rfl) ?_
 refine pq (q_ext (v := bO b81) rfl rfl) ?_
 refine ol_new rfl rfl rfl (q_alloc ty57 (row := [iI 0, iI 0]) rfl rfl) (fun k82 => ?_)
 refine ow [[iI n79, iI n80]] 0 sz57 ?_
 refine pq (qa (bO b81)) ?_
 refine oN ?_
 refine pq (q_fieldP rfl fa57_1 rfl) ?_
 refine pq (ql (iO n80) 0 sz2) ?_
 by_cases c83 : n80 = 3
 replace h := ifT c83 h
 refine pq (qb (p_eql_tZ c83)) ?_
 refine pq (qm bt) ?_
 refine pq (qm (iO n22)) ?_
 by_cases c84 : n22 = 0
 replace h := ifT c84 h
 refine pq (qb (p_eql_tZ c84)) ?_
 refine pq (qpt bt) ?_
 refine pq (qm bt) ?_
 refine pq (qm (iO n26)) ?_
 by_cases c85 : n26 = 0
 replace h := ifT c85 h
 refine pq (qb (p_eql_tZ c85)) ?_
 refine pq (qpt bt) ?_
 refine pq (qm bt) ?_
 refine pq (qm (iO n25)) ?_
 refine pq (qm (iO n61)) ?_
 by_cases c86 : n25 = n61
 replace h := ifT c86 h
 refine pq (qb (p_eql_tZ c86)) ?_
 refine pq (qpt bt) ?_
 refine pq (qm bt) ?_
 refine pq (qm (iO n53)) ?_
 by_cases c87 : n53 = 0
 replace h := ifT c87 h
 refine pq (qb (p_eql_tZ c87)) ?_
 refine pq (qpt bt) ?_
 refine pq (qm bt) ?_
 refine pq (ql (.agg [iI n51, sC r56 s52]) 4 sz25) ?_
 refine pq (ql (.agg [iI n20, sC r56 s21]) 6 sz25) ?_
 obtain ⟨b89, h88, h⟩ := bindS h
 refine pq (qc (bO b89) [.agg [iI n51, sC r56 s52], .agg [iI n20, sC r56 s21]] (ref09_Same_r (m + 4) h88) (vw_cons (vd_agg (vc_cons vc_v (vc_cons vc_s vc_nil))) (vw_cons (vd_agg (vc_cons vc_v (vc_cons vc_s vc_nil))) vw_nil))) ?_
 refine pq (qpt (bO b89)) ?_
 refine pq (qa (bO b89)) ?_
 refine oE (eS (lR ?_))
 obtain rfl := sj h
 exact eF1
 replace h := ifF c87 h
 refine pq (qb (p_eql_fZ c87)) ?_
 refine pq (qpt bf) ?_
 refine pq (qm bf) ?_
 iterate 3 refine os ?_
 refine pq (qpf bf) ?_
 refine pq (qa bf) ?_
 refine oE (eS (lR ?_))
 obtain rfl := sj h
 exact eF1
 replace h := ifF c86 h
 refine pq (qb (p_eql_fZ c86)) ?_
 refine pq (qpt bf) ?_
 refine pq (qm bf) ?_
 iterate 2 refine os ?_
 refine pq (qpf bf) ?_
 refine pq (qm bf) ?_
 iterate 3 refine os ?_
 refine pq (qpf bf) ?_
 refine pq (qa bf) ?_
 refine oE (eS (lR ?_))
 obtain rfl := sj h
 exact eF1
 replace h := ifF c85 h
 refine pq (qb (p_eql_fZ c85)) ?_
 refine pq (qpt bf) ?_
 refine pq (qm bf) ?_
 iterate 3 refine os ?_
 refine pq (qpf bf) ?_
 refine pq (qm bf) ?_
 iterate 2 refine os ?_
 refine pq (qpf bf) ?_
 refine pq (qm bf) ?_
 iterate 3 refine os ?_
 refine pq (qpf bf) ?_
 refine pq (qa bf) ?_
 refine oE (eS (lR ?_))
 obtain rfl := sj h
 exact eF1
 replace h := ifF c84 h
 refine pq (qb (p_eql_fZ c84)) ?_
 refine pq (qpt bf) ?_
 refine pq (qm bf) ?_
 iterate 2 refine os ?_
 refine pq (qpf bf) ?_
 refine pq (qm bf) ?_
 iterate 3 refine os ?_
 refine pq (qpf bf) ?_
 refine pq (qm bf) ?_
 iterate 2 refine os ?_
 refine pq (qpf bf) ?_
 refine pq (qm bf) ?_
 iterate 3 refine os ?_
 refine pq (qpf bf) ?_
 refine pq (qa bf) ?_
 refine oE (eS (lR ?_))
 obtain rfl := sj h
 exact eF1
 replace h := ifF c83 h
 refine pq (qb (p_eql_fZ c83)) ?_
 refine pq (qm bf) ?_
 iterate 2 refine os ?_
 refine pq (qpf bf) ?_
 refine pq (qm bf) ?_
 iterate 2 refine os ?_
 refine pq (qpf bf) ?_
 refine pq (qm bf) ?_
 iterate 3 refine os ?_
 refine pq (qpf bf) ?_
 refine pq (qm bf) ?_
 iterate 2 refine os ?_
 refine pq (qpf bf) ?_
 refine pq (qm bf) ?_
 iterate 3 refine os ?_
 refine pq (qpf bf) ?_
 refine pq (qa bf) ?_
 refine oE (eS (lR ?_))
 obtain rfl := sj h
 exact eF1
 replace h := wT h
 refine cT rfl (lO ?_)
 refine pq (q_fieldP rfl fa57_1 rfl) ?_
 refine pq (ql (iO n56) 1 sz2) ?_
 refine pq (qa (iO n56)) ?_
 refine oE (eS (lS (lS (lO ?_))))
 refine pq (qm (bO b62)) ?_
 refine pq (qm (bO b62)) ?_
 rcases b62 with _ | _
 replace h := wF h
 iterate 8 refine os ?_
 refine pq (qpf bf) ?_
 refine oE (eS (cF rfl (lK (eS (lS (lO ?_))))))
 refine pq (q_build (cs := [iI 0, iI 3]) ty57 rfl pl57 rfl) ?_
 refine ol_new rfl rfl rfl (q_bslice (cs := [iI 0, iI 3]) (es := (([(0, 3)] : List (Int × Int))).map (rowC r56)) ty23 rfl ty57 rfl rfl rfl rfl rfl) (fun k90 => ?_)
 refine pq (q_build (cs := [iI 1, .own k90 0 (([(0, 3)] : List (Int × Int))).length]) ty25 rfl pl25 rfl) ?_
 obtain ⟨⟨⟨n92, n93⟩, b94⟩, h91, h⟩ := bindS h
 refine pq (qc (.tup [.agg [iI n92, iI n93], bO b94]) [.agg [iI 1, .own k90 0 (([(0, 3)] : List (Int × Int))).length]] (fold_Least_r (m + 2) h91) (vw_cons (vd_agg (vc_cons vc_v (vc_cons (vc_own (r := r56) 0 rfl (fun x h m => rfl)) vc_nil))) vw_nil)) ?_
 refine pq (qm (.tup [.agg [iI n92, iI n93], bO b94])) ?_
 refine pq (q_ext (v := .agg [iI n92, iI n93]) rfl rfl) ?_
 refine pq (q_ext (v := bO b94) rfl rfl) ?_
 refine ol_new rfl rfl rfl (q_alloc ty57 (row := [iI 0, iI 0]) rfl rfl) (fun k95 => ?_)
 refine ow [[iI n92, iI n93]] 0 sz57 ?_
 refine pq (qa (bO b94)) ?_
 refine oN ?_
 refine pq (q_fieldP rfl fa57_1 rfl) ?_
 refine pq (ql (iO n93) 0 sz2) ?_
 by_cases c96 : n93 = 3
 replace h := ifT c96 h
 refine pq (qb (p_eql_tZ c96)) ?_
 refine pq (qm bt) ?_
 refine pq (qm (iO n22)) ?_
 by_cases c97 : n22 = 0
 replace h := ifT c97 h
 refine pq (qb (p_eql_tZ c97)) ?_
 refine pq (qpt bt) ?_
 refine pq (qm bt) ?_
 refine pq (qm (iO n26)) ?_
 by_cases c98 : n26 = 0
 replace h := ifT c98 h
 refine pq (qb (p_eql_tZ c98)) ?_
 refine pq (qpt bt) ?_
 refine pq (qm bt) ?_
 refine pq (qm (iO n25)) ?_
 refine pq (qm (iO n56)) ?_
 by_cases c99 : n25 = n56
 replace h := ifT c99 h
 refine pq (qb (p_eql_tZ c99)) ?_
 refine pq (qpt bt) ?_
 refine pq (qm bt) ?_
 refine pq (qm (iO n53)) ?_
 by_cases c100 : n53 = 0
 replace h := ifT c100 h
 refine pq (qb (p_eql_tZ c100)) ?_
 refine pq (qpt bt) ?_
 refine pq (qm bt) ?_
 refine pq (ql (.agg [iI n51, sC r56 s52]) 4 sz25) ?_
 refine pq (ql (.agg [iI n20, sC r56 s21]) 6 sz25) ?_
 obtain ⟨b102, h101, h⟩ := bindS h
 refine pq (qc (bO b102) [.agg [iI n51, sC r56 s52], .agg [iI n20, sC r56 s21]] (ref09_Same_r (m + 4) h101) (vw_cons (vd_agg (vc_cons vc_v (vc_cons vc_s vc_nil))) (vw_cons (vd_agg (vc_cons vc_v (vc_cons vc_s vc_nil))) vw_nil))) ?_
 refine pq (qpt (bO b102)) ?_
 refine pq (qa (bO b102)) ?_
 refine oE (eS (lR ?_))
 obtain rfl := sj h
 exact eF1
 replace h := ifF c100 h
 refine pq (qb (p_eql_fZ c100)) ?_
 refine pq (qpt bf) ?_
 refine pq (qm bf) ?_
 iterate 3 refine os ?_
 refine pq (qpf bf) ?_
 refine pq (qa bf) ?_
 refine oE (eS (lR ?_))
 obtain rfl := sj h
 exact eF1
 replace h := ifF c99 h
 refine pq (qb (p_eql_fZ c99)) ?_
 refine pq (qpt bf) ?_
 refine pq (qm bf) ?_
 iterate 2 refine os ?_
 refine pq (qpf bf) ?_
 refine pq (qm bf) ?_
 iterate 3 refine os ?_
 refine pq (qpf bf) ?_
 refine pq (qa bf) ?_
 refine oE (eS (lR ?_))
 obtain rfl := sj h
 exact eF1
 replace h := ifF c98 h
 refine pq (qb (p_eql_fZ c98)) ?_
 refine pq (qpt bf) ?_
 refine pq (qm bf) ?_
 iterate 3 refine os ?_
 refine pq (qpf bf) ?_
 refine pq (qm bf) ?_
 iterate 2 refine os ?_
 refine pq (qpf bf) ?_
 refine pq (qm bf) ?_
 iterate 3 refine os ?_
 refine pq (qpf bf) ?_
 refine pq (qa bf) ?_
 refine oE (eS (lR ?_))
 obtain rfl := sj h
 exact eF1
 replace h := ifF c97 h
 refine pq (qb (p_eql_fZ c97)) ?_
 refine pq (qpt bf) ?_
 refine pq (qm bf) ?_
 iterate 2 refine os ?_
 refine pq (qpf bf) ?_
 refine pq (qm bf) ?_
 iterate 3 refine os ?_
 refine pq (qpf bf) ?_
 refine pq (qm bf) ?_
 iterate 2 refine os ?_
 refine pq (qpf bf) ?_
 refine pq (qm bf) ?_
 iterate 3 refine os ?_
 refine pq (qpf bf) ?_
 refine pq (qa bf) ?_
 refine oE (eS (lR ?_))
 obtain rfl := sj h
 exact eF1
 replace h := ifF c96 h
 refine pq (qb (p_eql_fZ c96)) ?_
 refine pq (qm bf) ?_
 iterate 2 refine os ?_
 refine pq (qpf bf) ?_
 refine pq (qm bf) ?_
 iterate 2 refine os ?_
 refine pq (qpf bf) ?_
 refine pq (qm bf) ?_
 iterate 3 refine os ?_
 refine pq (qpf bf) ?_
 refine pq (qm bf) ?_
 iterate 2 refine os ?_
 refine pq (qpf bf) ?_
 refine pq (qm bf) ?_
 iterate 3 refine os ?_
 refine pq (qpf bf) ?_
 refine pq (qa bf) ?_
 refine oE (eS (lR ?_))
 obtain rfl := sj h
 exact eF1
 replace h := wT h
 refine pq (qm bt) ?_
 refine pq (q_not rfl) ?_
 refine pq (qm bf) ?_
 refine pq (q_fieldP rfl fa57_1 rfl) ?_
 refine pq (ql (iO n61) 0 sz2) ?_
 refine pq (qm (iO n56)) ?_
 by_cases c103 : n61 < n56
 replace h := ifT c103 h
 refine pq (qb (p_lss_tZ c103)) ?_
 refine pq (qpf bt) ?_
 refine pq (qpt bt) ?_
 refine oE (eS (cT rfl (lO ?_)))
 refine pq (q_fieldP rfl fa57_1 rfl) ?_
 refine pq (ql (iO n61) 0 sz2) ?_
 refine pq (qa (iO n61)) ?_
 refine oN ?_
 refine pq (q_build (cs := [iI 0, iI 3]) ty57 rfl pl57 rfl) ?_
 refine ol_new rfl rfl rfl (q_bslice (cs := [iI 0, iI 3]) (es := (([(0, 3)] : List (Int × Int))).map (rowC r56)) ty23 rfl ty57 rfl rfl rfl rfl rfl) (fun k104 => ?_)
 refine pq (q_build (cs := [iI 1, .own k104 0 (([(0, 3)] : List (Int × Int))).length]) ty25 rfl pl25 rfl) ?_
 obtain ⟨⟨⟨n106, n107⟩, b108⟩, h105, h⟩ := bindS h
 refine pq (qc (.tup [.agg [iI n106, iI n107], bO b108]) [.agg [iI 1, .own k104 0 (([(0, 3)] : List (Int × Int))).length]] (fold_Least_r (m + 2) h105) (vw_cons (vd_agg (vc_cons vc_v (vc_cons (vc_own (r := r56) 0 rfl (fun x h m => rfl)) vc_nil))) vw_nil)) ?_
 refine pq (qm (.tup [.agg [iI n106, iI n107], bO b108])) ?_
 refine pq (q_ext (v := .agg [iI n106, iI n107]) rfl rfl) ?_
 refine pq (q_ext (v := bO b108) rfl rfl) ?_
 refine ol_new rfl rfl rfl (q_alloc ty57 (row := [iI 0, iI 0]) rfl rfl) (fun k109 => ?_)
 refine ow [[iI n106, iI n107]] 0 sz57 ?_
 refine pq (qa (bO b108)) ?_
 refine oN ?_
 refine pq (q_fieldP rfl fa57_1 rfl) ?_
 refine pq (ql (iO n107) 0 sz2) ?_
 by_cases c110 : n107 = 3
 replace h := ifT c110 h
 refine pq (qb (p_eql_tZ c110)) ?_
 refine pq (qm bt) ?_
 refine pq (qm (iO n22)) ?_
 by_cases c111 : n22 = 0
 replace h := ifT c111 h
 refine pq (qb (p_eql_tZ c111)) ?_
 refine pq (qpt bt) ?_
 refine pq (qm bt) ?_
 refine pq (qm (iO n26)) ?_
 by_cases c112 : n26 = 0
 replace h := ifT c112 h
 refine pq (qb (p_eql_tZ c112)) ?_
 refine pq (qpt bt) ?_
 refine pq (qm bt) ?_
 refine pq (qm (iO n25)) ?_
 refine pq (qm (iO n61)) ?_
 by_cases c113 : n25 = n61
 replace h := ifT c113 h
 refine pq (qb (p_eql_tZ c113)) ?_
 refine pq (qpt bt) ?_
 refine pq (qm bt) ?_
 refine pq (qm (iO n53)) ?_
 by_cases c114 : n53 = 0
 replace h := ifT c114 h
 refine pq (qb (p_eql_tZ c114)) ?_
 refine pq (qpt bt) ?_
 refine pq (qm bt) ?_
 refine pq (ql (.agg [iI n51, sC r56 s52]) 4 sz25) ?_
 refine pq (ql (.agg [iI n20, sC r56 s21]) 6 sz25) ?_
 obtain ⟨b116, h115, h⟩ := bindS h
 refine pq (qc (bO b116) [.agg [iI n51, sC r56 s52], .agg [iI n20, sC r56 s21]] (ref09_Same_r (m + 4) h115) (vw_cons (vd_agg (vc_cons vc_v (vc_cons vc_s vc_nil))) (vw_cons (vd_agg (vc_cons vc_v (vc_cons vc_s vc_nil))) vw_nil))) ?_
 refine pq (qpt (bO b116)) ?_
 refine pq (qa (bO b116)) ?_
 refine oE (eS (lR ?_))
 obtain rfl := sj h
 exact eF1
 replace h := ifF c114 h
 refine pq (qb (p_eql_fZ c114)) ?_
 refine pq (qpt bf) ?_
 refine pq (qm bf) ?_
 iterate 3 refine os ?_
 refine pq (qpf bf) ?_
 refine pq (qa bf) ?_
 refine oE (eS (lR ?_))
 obtain rfl := sj h
 exact eF1
 replace h := ifF c113 h
 refine pq (qb (p_eql_fZ c113)) ?_
 refine pq (qpt bf) ?_
 refine pq (qm bf) ?_
 iterate 2 refine os ?_
 refine pq (qpf bf) ?_
 refine pq (qm bf) ?_
 iterate 3 refine os ?_
 refine pq (qpf bf) ?_
 refine pq (qa bf) ?_
 refine oE (eS (lR ?_))
 obtain rfl := sj h
 exact eF1
 replace h := ifF c112 h
 refine pq (qb (p_eql_fZ c112)) ?_
 refine pq (qpt bf) ?_
 refine pq (qm bf) ?_
 iterate 3 refine os ?_
 refine pq (qpf bf) ?_
 refine pq (qm bf) ?_
 iterate 2 refine os ?_
 refine pq (qpf bf) ?_
 refine pq (qm bf) ?_
 iterate 3 refine os ?_
 refine pq (qpf bf) ?_
 refine pq (qa bf) ?_
 refine oE (eS (lR ?_))
 obtain rfl := sj h
 exact eF1
 replace h := ifF c111 h
 refine pq (qb (p_eql_fZ c111)) ?_
 refine pq (qpt bf) ?_
 refine pq (qm bf) ?_
 iterate 2 refine os ?_
 refine pq (qpf bf) ?_
 refine pq (qm bf) ?_
 iterate 3 refine os ?_
 refine pq (qpf bf) ?_
 refine pq (qm bf) ?_
 iterate 2 refine os ?_
 refine pq (qpf bf) ?_
 refine pq (qm bf) ?_
 iterate 3 refine os ?_
 refine pq (qpf bf) ?_
 refine pq (qa bf) ?_
 refine oE (eS (lR ?_))
 obtain rfl := sj h
 exact eF1
 replace h := ifF c110 h
 refine pq (qb (p_eql_fZ c110)) ?_
 refine pq (qm bf) ?_
 iterate 2 refine os ?_
 refine pq (qpf bf) ?_
 refine pq (qm bf) ?_
 iterate 2 refine os ?_
 refine pq (qpf bf) ?_
 refine pq (qm bf) ?_
 iterate 3 refine os ?_
 refine pq (qpf bf) ?_
 refine pq (qm bf) ?_
 iterate 2 refine os ?_
 refine pq (qpf bf) ?_
 refine pq (qm bf) ?_
 iterate 3 refine os ?_
 refine pq (qpf bf) ?_
 refine pq (qa bf) ?_
 refine oE (eS (lR ?_))
 obtain rfl := sj h
 exact eF1
 replace h := ifF c103 h
 refine pq (qb (p_lss_fZ c103)) ?_
 refine pq (qpf bf) ?_
 refine pq (qpt bf) ?_
 refine oE (eS (cF rfl (lK (eS (lS (lO ?_))))))
 refine pq (q_build (cs := [iI 0, iI 3]) ty57 rfl pl57 rfl) ?_
 refine ol_new rfl rfl rfl (q_bslice (cs := [iI 0, iI 3]) (es := (([(0, 3)] : List (Int × Int))).map (rowC r56)) ty23 rfl ty57 rfl rfl rfl rfl rfl) (fun k117 => ?_)
 refine pq (q_build (cs := [iI 1, .own k117 0 (([(0, 3)] : List (Int × Int))).length]) ty25 rfl pl25 rfl) ?_
 obtain ⟨⟨⟨n119, n120⟩, b121⟩, h118, h⟩ := bindS h
 refine pq (qc (.tup [.agg [iI n119, iI n120], bO b121]) [.agg [iI 1, .own k117 0 (([(0, 3)] : List (Int × Int))).length]] (fold_Least_r (m + 2) h118) (vw_cons (vd_agg (vc_cons vc_v (vc_cons (vc_own (r := r56) 0 rfl (fun x h m => rfl)) vc_nil))) vw_nil)) ?_
 refine pq (qm (.tup [.agg [iI n119, iI n120], bO b121])) ?_
 refine pq (q_ext (v := .agg [iI n119, iI n120]) rfl rfl) ?_
 refine pq (q_ext (v := bO b121) rfl rfl) ?_
 refine ol_new rfl rfl rfl (q_alloc ty57 (row := [iI 0, iI 0]) rfl rfl) (fun k122 => ?_)
 refine ow [[iI n119, iI n120]] 0 sz57 ?_
 refine pq (qa (bO b121)) ?_
 refine oN ?_
 refine pq (q_fieldP rfl fa57_1 rfl) ?_
 refine pq (ql (iO n120) 0 sz2) ?_
 by_cases c123 : n120 = 3
 replace h := ifT c123 h
 refine pq (qb (p_eql_tZ c123)) ?_
 refine pq (qm bt) ?_
 refine pq (qm (iO n22)) ?_
 by_cases c124 : n22 = 0
 replace h := ifT c124 h
 refine pq (qb (p_eql_tZ c124)) ?_
 refine pq (qpt bt) ?_
 refine pq (qm bt) ?_
 refine pq (qm (iO n26)) ?_
 by_cases c125 : n26 = 0
 replace h := ifT c125 h
 refine pq (qb (p_eql_tZ c125)) ?_
 refine pq (qpt bt) ?_
 refine pq (qm bt) ?_
 refine pq (qm (iO n25)) ?_
 refine pq (qm (iO n56)) ?_
 by_cases c126 : n25 = n56
 replace h := ifT c126 h
 refine pq (qb (p_eql_tZ c126)) ?_
 refine pq (qpt bt) ?_
 refine pq (qm bt) ?_
 refine pq (qm (iO n53)) ?_
 by_cases c127 : n53 = 0
 replace h := ifT c127 h
 refine pq (qb (p_eql_tZ c127)) ?_
 refine pq (qpt bt) ?_
 refine pq (qm bt) ?_
 refine pq (ql (.agg [iI n51, sC r56 s52]) 4 sz25) ?_
 refine pq (ql (.agg [iI n20, sC r56 s21]) 6 sz25) ?_
 obtain ⟨b129, h128, h⟩ := bindS h
 refine pq (qc (bO b129) [.agg [iI n51, sC r56 s52], .agg [iI n20, sC r56 s21]] (ref09_Same_r (m + 4) h128) (vw_cons (vd_agg (vc_cons vc_v (vc_cons vc_s vc_nil))) (vw_cons (vd_agg (vc_cons vc_v (vc_cons vc_s vc_nil))) vw_nil))) ?_
 refine pq (qpt (bO b129)) ?_
 refine pq (qa (bO b129)) ?_
 refine oE (eS (lR ?_))
 obtain rfl := sj h
 exact eF1
 replace h := ifF c127 h
 refine pq (qb (p_eql_fZ c127)) ?_
 refine pq (qpt bf) ?_
 refine pq (qm bf) ?_
 iterate 3 refine os ?_
 refine pq (qpf bf) ?_
 refine pq (qa bf) ?_
 refine oE (eS (lR ?_))
 obtain rfl := sj h
 exact eF1
 replace h := ifF c126 h
 refine pq (qb (p_eql_fZ c126)) ?_
 refine pq (qpt bf) ?_
 refine pq (qm bf) ?_
 iterate 2 refine os ?_
 refine pq (qpf bf) ?_
 refine pq (qm bf) ?_
 iterate 3 refine os ?_
 refine pq (qpf bf) ?_
 refine pq (qa bf) ?_
 refine oE (eS (lR ?_))
 obtain rfl := sj h
 exact eF1
 replace h := ifF c125 h
 refine pq (qb (p_eql_fZ c125)) ?_
 refine pq (qpt bf) ?_
 refine pq (qm bf) ?_
 iterate 3 refine os ?_
 refine pq (qpf bf) ?_
 refine pq (qm bf) ?_
 iterate 2 refine os ?_
 refine pq (qpf bf) ?_
 refine pq (qm bf) ?_
 iterate 3 refine os ?_
 refine pq (qpf bf) ?_
 refine pq (qa bf) ?_
 refine oE (eS (lR ?_))
 obtain rfl := sj h
 exact eF1
 replace h := ifF c124 h
 refine pq (qb (p_eql_fZ c124)) ?_
 refine pq (qpt bf) ?_
 refine pq (qm bf) ?_
 iterate 2 refine os ?_
 refine pq (qpf bf) ?_
 refine pq (qm bf) ?_
 iterate 3 refine os ?_
 refine pq (qpf bf) ?_
 refine pq (qm bf) ?_
 iterate 2 refine os ?_
 refine pq (qpf bf) ?_
 refine pq (qm bf) ?_
 iterate 3 refine os ?_
 refine pq (qpf bf) ?_
 refine pq (qa bf) ?_
 refine oE (eS (lR ?_))
 obtain rfl := sj h
 exact eF1
 replace h := ifF c123 h
 refine pq (qb (p_eql_fZ c123)) ?_
 refine pq (qm bf) ?_
 iterate 2 refine os ?_
 refine pq (qpf bf) ?_
 refine pq (qm bf) ?_
 iterate 2 refine os ?_
 refine pq (qpf bf) ?_
 refine pq (qm bf) ?_
 iterate 3 refine os ?_
 refine pq (qpf bf) ?_
 refine pq (qm bf) ?_
 iterate 2 refine os ?_
 refine pq (qpf bf) ?_
 refine pq (qm bf) ?_
 iterate 3 refine os ?_
 refine pq (qpf bf) ?_
 refine pq (qa bf) ?_
 refine oE (eS (lR ?_))
 obtain rfl := sj h
 exact eF1
 dsimp only at h
 refine L_norm (L2 := ([[(k23, 2, [[iI n20, sC r56 s21]])], [((bb6 + 9), 2, [[iI n17, sC r56 s18]])], [((bb6 + 8), 2, [[iI n14, sC r56 s15]])]] : BL)) [0, 1, 2] (by decide) rfl ?_
 refine L_turn 19 rfl [[], [], [], [], [], [], [], [], [], [], [], [], [], [], [], [], [], [], []] [(false, []), (false, []), (false, []), (false, []), (false, []), (false, []), (false, []), (false, []), (false, []), (true, []), (true, []), (false, []), (false, []), (false, []), (false, []), (false, []), (true, []), (false, [16]), (false, [])] [[1, 3, 4, 5, 6, 7, 16], [0, 3, 4, 5, 6, 7, 16], [3, 4, 5, 6, 7, 16], [0, 1, 2, 4, 5, 6, 7, 8, 9, 10, 16], [0, 1, 2, 3, 6, 7, 8, 9, 16], [0, 1, 2, 3, 6, 7, 8, 9, 16], [0, 1, 2, 3, 4, 5, 7, 16], [0, 1, 2, 3, 4, 5, 6, 16], [3, 4, 5, 16], [3, 4, 5, 16], [3, 16], [16], [16], [16], [15, 16], [14, 16, 17], [0, 1, 2, 3, 4, 5, 6, 7, 8, 9, 10, 11, 12, 13, 14, 15], [15], []] (by kernel_rfl) (by kernel_rfl) (by kernel_rfl) ?_ (fun bb130 hlt hnd => ?_)
 intro bb130 hlt hnd
 exact ⟨⟨djE, ⟨djE, ⟨djE, ⟨djE, ⟨djE, ⟨djE, ⟨djE, ⟨djE, ⟨djE, ⟨djE, ⟨djE, ⟨djE, ⟨djE, ⟨djE, ⟨djE, ⟨djE, ⟨djE, ⟨djE, ⟨djE, trivial⟩⟩⟩⟩⟩⟩⟩⟩⟩⟩⟩⟩⟩⟩⟩⟩⟩⟩⟩, (ltO_cons ltK_nil (ltO_cons ltK_nil (ltO_cons ltK_nil (ltO_cons ltK_nil (ltO_cons ltK_nil (ltO_cons ltK_nil (ltO_cons ltK_nil (ltO_cons ltK_nil (ltO_cons ltK_nil (ltO_cons ltK_nil (ltO_cons ltK_nil (ltO_cons ltK_nil (ltO_cons ltK_nil (ltO_cons ltK_nil (ltO_cons ltK_nil (ltO_cons ltK_nil (ltO_cons ltK_nil (ltO_cons ltK_nil (ltO_cons ltK_nil ltO_nil)))))))))))))))))))⟩
 refine tq [0] rfl (hmc (nin_cons (ne_new (key_lt hlt 0 rfl)) nin_nil) hmn) (ql (.agg [iI n20, sC r56 s21]) 0 sz25) ?_
 refine tq [] rfl hmn (qm (iO n4)) ?_
 refine tq [] rfl hmn (qc (.agg [iI n29, sC r56 s30]) [.agg [iI n20, sC r56 s21], iO 1, iO n4] (fold_Where_r (m + 2) h28) (vw_cons (vd_agg (vc_cons vc_v (vc_cons vc_s vc_nil))) (vw_cons (vd_one vc_v) (vw_cons (vd_one vc_v) vw_nil)))) ?_
 refine tq [0] rfl (hmc (nin_cons (ne_new (key_lt hlt 0 rfl)) (nin_cons (ne_new (key_lt hlt 0 rfl)) (nin_cons (ne_new (key_lt hlt 0 rfl)) nin_nil))) hmn) (ql (.agg [iI n20, sC r56 s21]) 0 sz25) ?_
 refine tq [] rfl hmn (q_fieldP rfl fa25_0 rfl) ?_
 refine tq [0] rfl (hmc (nin_cons (ne_new (key_lt hlt 0 rfl)) (nin_cons (ne_new (key_lt hlt 0 rfl)) nin_nil)) hmn) (ql (iO n20) 0 sz3) ?_
 refine tq [0] rfl (hmc (nin_cons (ne_new (key_lt hlt 0 rfl)) nin_nil) hmn) (ql (.agg [iI n20, sC r56 s21]) 0 sz25) ?_
 refine tq [] rfl hmn (qm (iO n4)) ?_
 refine tq [] rfl hmn (qc (.agg [iI n29, sC r56 s30]) [.agg [iI n20, sC r56 s21], iO 1, iO n4] (fold_Where_r (m + 2) h28) (vw_cons (vd_agg (vc_cons vc_v (vc_cons vc_s vc_nil))) (vw_cons (vd_one vc_v) (vw_cons (vd_one vc_v) vw_nil)))) ?_
 refine tn_new rfl rfl rfl [] (by decide) rfl hmn rfl rfl (hkc (ne_new (key_lt hlt 0 rfl)) (hkc (ne_new (key_lt hlt 1 rfl)) (hkc (ne_new (key_lt hlt 2 rfl)) hkn))) (q_callO (r := r3) (l := (y33 :: t34)) (args := [.agg [iI n29, sC r56 s30]]) (ref09_Places_r (m + 3) h31) rfl rfl (vw_cons (vd_agg (vc_cons vc_v (vc_cons vc_s vc_nil))) vw_nil) rfl) ?_
 obtain ⟨s141, h140, h⟩ := bindS h
 refine tn_new rfl rfl rfl [0] (by decide) rfl (hmc (nin_cons (ne_add rfl) nin_nil) hmn) rfl rfl (hkc (ne_add rfl) (hkc (ne_new (key_lt hlt 0 rfl)) (hkc (ne_new (key_lt hlt 1 rfl)) (hkc (ne_new (key_lt hlt 2 rfl)) hkn)))) (q_callO (args := [iO n20, .one (.own (bb130 + 9) 0 ((y33 :: t34)).length)]) (ref03_Of_r (m + 3) h140) rfl rfl (vw_cons (vd_one vc_v) (vw_cons (vd_one (vc_own (r := r3) 0 rfl (fun x h m => rfl))) vw_nil)) rfl) ?_
 obtain ⟨⟨n143, s144⟩, h142, h⟩ := bindS h
 refine tq [0] rfl (hmc (nin_cons (ne_add rfl) nin_nil) hmn) (qc (.agg [iI n143, sC r56 s144]) [.agg [iI n20, sC r56 s21], .one (.own (bb130 + 10) 0 (s141).length), bt] (blend_Mask_r (m + 2) h142) (vw_cons (vd_agg (vc_cons vc_v (vc_cons vc_s vc_nil))) (vw_cons (vd_one (vc_own (r := r61) 0 rfl (fun x h m => rfl))) (vw_cons (vd_one vc_v) vw_nil)))) ?_
 obtain ⟨⟨⟨n146, s147⟩, n148⟩, h145, h⟩ := bindS h
 refine tq [] rfl hmn (qc (.tup [.agg [iI n146, sC r56 s147], iO n148]) [.agg [iI n29, sC r56 s30], .agg [iI n143, sC r56 s144]] (blend_Over_r (m + 1) h145) (vw_cons (vd_agg (vc_cons vc_v (vc_cons vc_s vc_nil))) (vw_cons (vd_agg (vc_cons vc_v (vc_cons vc_s vc_nil))) vw_nil))) ?_
 refine tq [] rfl hmn (qm (.tup [.agg [iI n146, sC r56 s147], iO n148])) ?_
 refine tq [] rfl hmn (q_ext (v := .agg [iI n146, sC r56 s147]) rfl rfl) ?_
 refine tq [] rfl hmn (q_ext (v := iO n148) rfl rfl) ?_
 refine tn_new rfl rfl rfl [] (by decide) rfl hmn rfl rfl (hkc (ne_add rfl) (hkc (ne_add rfl) (hkc (ne_new (key_lt hlt 0 rfl)) (hkc (ne_new (key_lt hlt 1 rfl)) (hkc (ne_new (key_lt hlt 2 rfl)) hkn))))) (q_alloc ty25 (row := [iI 0, nC]) rfl rfl) ?_
 refine tn_wr rfl rfl [0] (by decide) rfl (hm0 rfl) rfl (q_store (es' := [[iI n146, sC r56 s147]]) 0 rfl rfl rfl sz25 rfl rfl rfl rfl rfl) (q := 0) rfl rfl ?_
 refine tq [] rfl (hm0 rfl) (qa (iO n148)) ?_
 refine tn_end (eS (lS (lO ?_)))
 refine pq (ql (.agg [iI n14, sC r56 s15]) 5 sz25) ?_
 obtain ⟨⟨⟨n150, n151⟩, b152⟩, h149, h⟩ := bindS h
 refine pq (qc (.tup [.agg [iI n150, iI n151], bO b152]) [.agg [iI n14, sC r56 s15]] (fold_Least_r (m + 2) h149) (vw_cons (vd_agg (vc_cons vc_v (vc_cons vc_s vc_nil))) vw_nil)) ?_
 refine pq (qm (.tup [.agg [iI n150, iI n151], bO b152])) ?_
 refine pq (q_ext (v := .agg [iI n150, iI n151]) rfl rfl) ?_
 refine pq (q_ext (v := bO b152) rfl rfl) ?_
 refine ol_new rfl rfl rfl (q_alloc ty57 (row := [iI 0, iI 0]) rfl rfl) (fun k153 => ?_)
 refine ow [[iI n150, iI n151]] 0 sz57 ?_
 refine pq (qa (bO b152)) ?_
 refine oN ?_
 refine pq (ql (.agg [iI n17, sC r56 s18]) 5 sz25) ?_
 obtain ⟨⟨⟨n155, n156⟩, b157⟩, h154, h⟩ := bindS h
 refine pq (qc (.tup [.agg [iI n155, iI n156], bO b157]) [.agg [iI n17, sC r56 s18]] (fold_Least_r (m + 2) h154) (vw_cons (vd_agg (vc_cons vc_v (vc_cons vc_s vc_nil))) vw_nil)) ?_
 refine pq (qm (.tup [.agg [iI n155, iI n156], bO b157])) ?_
 refine pq (q_ext (v := .agg [iI n155, iI n156]) rfl rfl) ?_
 refine pq (q_ext (v := bO b157) rfl rfl) ?_
 refine ol_new rfl rfl rfl (q_alloc ty57 (row := [iI 0, iI 0]) rfl rfl) (fun k158 => ?_)
 refine ow [[iI n155, iI n156]] 0 sz57 ?_
 refine pq (qa (bO b157)) ?_
 refine oN ?_
 refine pq (qa (iO 4611686018427387904)) ?_
 refine oE (eS (lS (lS (lO ?_))))
 refine pq (qm (bO b152)) ?_
 refine oE (eS ?_)
 rcases b152 with _ | _
 replace h := wF h
 refine cF rfl (lK (eS (lS (lS (lO ?_)))))
 refine pq (qm (bO b157)) ?_
 refine pq (qm (bO b157)) ?_
 rcases b157 with _ | _
 replace h := wF h
 iterate 8 refine os ?_
 refine pq (qpf bf) ?_
 refine oE (eS (cF rfl (lK (eS (lS (lO ?_))))))
 refine pq (q_build (cs := [iI 0, iI 3]) ty57 rfl pl57 rfl) ?_
 refine ol_new rfl rfl rfl (q_bslice (cs := [iI 0, iI 3]) (es := (([(0, 3)] : List (Int × Int))).map (rowC r56)) ty23 rfl ty57 rfl rfl rfl rfl rfl) (fun k159 => ?_)
 refine pq (q_build (cs := [iI 1, .own k159 0 (([(0, 3)] : List (Int × Int))).length]) ty25 rfl pl25 rfl) ?_
 obtain ⟨⟨⟨n161, n162⟩, b163⟩, h160, h⟩ := bindS h
 refine pq (qc (.tup [.agg [iI n161, iI n162], bO b163]) [.agg [iI 1, .own k159 0 (([(0, 3)] : List (Int × Int))).length]] (fold_Least_r (m + 2) h160) (vw_cons (vd_agg (vc_cons vc_v (vc_cons (vc_own (r := r56) 0 rfl (fun x h m => rfl)) vc_nil))) vw_nil)) ?_
 refine pq (qm (.tup [.agg [iI n161, iI n162], bO b163])) ?_
 refine pq (q_ext (v := .agg [iI n161, iI n162]) rfl rfl) ?_
 refine pq (q_ext (v := bO b163) rfl rfl) ?_
 refine ol_new rfl rfl rfl (q_alloc ty57 (row := [iI 0, iI 0]) rfl rfl) (fun k164 => ?_)
 refine ow [[iI n161, iI n162]] 0 sz57 ?_
 refine pq (qa (bO b163)) ?_
 refine oN ?_
 refine pq (q_fieldP rfl fa57_1 rfl) ?_
 refine pq (ql (iO n162) 0 sz2) ?_
 by_cases c165 : n162 = 3
 replace h := ifT c165 h
 refine pq (qb (p_eql_tZ c165)) ?_
 refine pq (qm bt) ?_
 refine pq (qm (iO n22)) ?_
 by_cases c166 : n22 = 0
 replace h := ifT c166 h
 refine pq (qb (p_eql_tZ c166)) ?_
 refine pq (qpt bt) ?_
 refine pq (qm bt) ?_
 refine pq (qm (iO n26)) ?_
 by_cases c167 : n26 = 0
 replace h := ifT c167 h
 refine pq (qb (p_eql_tZ c167)) ?_
 refine pq (qpt bt) ?_
 refine pq (qm bt) ?_
 refine pq (qm (iO n25)) ?_
 refine pq (qm (iO 4611686018427387904)) ?_
 by_cases c168 : n25 = 4611686018427387904
 replace h := ifT c168 h
 refine pq (qb (p_eql_tZ c168)) ?_
 refine pq (qpt bt) ?_
 refine pq (qm bt) ?_
 refine pq (qm (iO n148)) ?_
 by_cases c169 : n148 = 0
 replace h := ifT c169 h
 refine pq (qb (p_eql_tZ c169)) ?_
 refine pq (qpt bt) ?_
 refine pq (qm bt) ?_
 refine pq (ql (.agg [iI n146, sC r56 s147]) 4 sz25) ?_
 refine pq (ql (.agg [iI n20, sC r56 s21]) 7 sz25) ?_
 obtain ⟨b171, h170, h⟩ := bindS h
 refine pq (qc (bO b171) [.agg [iI n146, sC r56 s147], .agg [iI n20, sC r56 s21]] (ref09_Same_r (m + 4) h170) (vw_cons (vd_agg (vc_cons vc_v (vc_cons vc_s vc_nil))) (vw_cons (vd_agg (vc_cons vc_v (vc_cons vc_s vc_nil))) vw_nil))) ?_
 refine pq (qpt (bO b171)) ?_
 refine pq (qa (bO b171)) ?_
 refine oE (eS (lR ?_))
 obtain rfl := sj h
 exact eF1
 replace h := ifF c169 h
 refine pq (qb (p_eql_fZ c169)) ?_
 refine pq (qpt bf) ?_
 refine pq (qm bf) ?_
 iterate 3 refine os ?_
 refine pq (qpf bf) ?_
 refine pq (qa bf) ?_
 refine oE (eS (lR ?_))
 obtain rfl := sj h
 exact eF1
 replace h := ifF c168 h
 refine pq (qb (p_eql_fZ c168)) ?_
 refine pq (qpt bf) ?_
 refine pq (qm bf) ?_
 iterate 2 refine os ?_
 refine pq (qpf bf) ?_
 refine pq (qm bf) ?_
 iterate 3 refine os ?_
 refine pq (qpf bf) ?_
 refine pq (qa bf) ?_
 refine oE (eS (lR ?_))
 obtain rfl := sj h
 exact eF1
 replace h := ifF c167 h
 refine pq (qb (p_eql_fZ c167)) ?_
 refine pq (qpt bf) ?_
 refine pq (qm bf) ?_
 iterate 3 refine os ?_
 refine pq (qpf bf) ?_
 refine pq (qm bf) ?_
 iterate 2 refine os ?_
 refine pq (qpf bf) ?_
 refine pq (qm bf) ?_
 iterate 3 refine os ?_
 refine pq (qpf bf) ?_
 refine pq (qa bf) ?_
 refine oE (eS (lR ?_))
 obtain rfl := sj h
 exact eF1
 replace h := ifF c166 h
 refine pq (qb (p_eql_fZ c166)) ?_
 refine pq (qpt bf) ?_
 refine pq (qm bf) ?_
 iterate 2 refine os ?_
 refine pq (qpf bf) ?_
 refine pq (qm bf) ?_
 iterate 3 refine os ?_
 refine pq (qpf bf) ?_
 refine pq (qm bf) ?_
 iterate 2 refine os ?_
 refine pq (qpf bf) ?_
 refine pq (qm bf) ?_
 iterate 3 refine os ?_
 refine pq (qpf bf) ?_
 refine pq (qa bf) ?_
 refine oE (eS (lR ?_))
 obtain rfl := sj h
 exact eF1
 replace h := ifF c165 h
 refine pq (qb (p_eql_fZ c165)) ?_
 refine pq (qm bf) ?_
 iterate 2 refine os ?_
 refine pq (qpf bf) ?_
 refine pq (qm bf) ?_
 iterate 2 refine os ?_
 refine pq (qpf bf) ?_
 refine pq (qm bf) ?_
 iterate 3 refine os ?_
 refine pq (qpf bf) ?_
 refine pq (qm bf) ?_
 iterate 2 refine os ?_
 refine pq (qpf bf) ?_
 refine pq (qm bf) ?_
 iterate 3 refine os ?_
 refine pq (qpf bf) ?_
 refine pq (qa bf) ?_
 refine oE (eS (lR ?_))
 obtain rfl := sj h
 exact eF1
 replace h := wT h
 refine pq (qm bf) ?_
 refine pq (q_not rfl) ?_
 refine pq (qm bt) ?_
 iterate 4 refine os ?_
 refine pq (qpt bt) ?_
 refine pq (qpt bt) ?_
 refine oE (eS (cT rfl (lO ?_)))
 refine pq (q_fieldP rfl fa57_1 rfl) ?_
 refine pq (ql (iO n156) 0 sz2) ?_
 refine pq (qa (iO n156)) ?_
 refine oN ?_
 refine pq (q_build (cs := [iI 0, iI 3]) ty57 rfl pl57 rfl) ?_
 refine ol_new rfl rfl rfl (q_bslice (cs := [iI 0, iI 3]) (es := (([(0, 3)] : List (Int × Int))).map (rowC r56)) ty23 rfl ty57 rfl rfl rfl rfl rfl) (fun k172 => ?_)
 refine pq (q_build (cs := [iI 1, .own k172 0 (([(0, 3)] : List (Int × Int))).length]) ty25 rfl pl25 rfl) ?_
 obtain ⟨⟨⟨n174, n175⟩, b176⟩, h173, h⟩ := bindS h
 refine pq (qc (.tup [.agg [iI n174, iI n175], bO b176]) [.agg [iI 1, .own k172 0 (([(0, 3)] : List (Int × Int))).length]] (fold_Least_r (m + 2) h173) (vw_cons (vd_agg (vc_cons vc_v (vc_cons (vc_own (r := r56) 0 rfl (fun x h m => rfl)) vc_nil))) vw_nil)) ?_
 refine pq (qm (.tup [.agg [iI n174, iI n175], bO b176])) ?_
 refine pq (q_ext (v := .agg [iI n174, iI n175]) rfl rfl) ?_
 refine pq (q_ext (v := bO b176) rfl rfl) ?_
 refine ol_new rfl rfl rfl (q_alloc ty57 (row := [iI 0, iI 0]) rfl rfl) (fun k177 => ?_)
 refine ow [[iI n174, iI n175]] 0 sz57 ?_
 refine pq (qa (bO b176)) ?_
 refine oN ?_
 refine pq (q_fieldP rfl fa57_1 rfl) ?_
 refine pq (ql (iO n175) 0 sz2) ?_
 by_cases c178 : n175 = 3
 replace h := ifT c178 h
 refine pq (qb (p_eql_tZ c178)) ?_
 refine pq (qm bt) ?_
 refine pq (qm (iO n22)) ?_
 by_cases c179 : n22 = 0
 replace h := ifT c179 h
 refine pq (qb (p_eql_tZ c179)) ?_
 refine pq (qpt bt) ?_
 refine pq (qm bt) ?_
 refine pq (qm (iO n26)) ?_
 by_cases c180 : n26 = 0
 replace h := ifT c180 h
 refine pq (qb (p_eql_tZ c180)) ?_
 refine pq (qpt bt) ?_
 refine pq (qm bt) ?_
 refine pq (qm (iO n25)) ?_
 refine pq (qm (iO n156)) ?_
 by_cases c181 : n25 = n156
 replace h := ifT c181 h
 refine pq (qb (p_eql_tZ c181)) ?_
 refine pq (qpt bt) ?_
 refine pq (qm bt) ?_
 refine pq (qm (iO n148)) ?_
 by_cases c182 : n148 = 0
 replace h := ifT c182 h
 refine pq (qb (p_eql_tZ c182)) ?_
 refine pq (qpt bt) ?_
 refine pq (qm bt) ?_
 refine pq (ql (.agg [iI n146, sC r56 s147]) 4 sz25) ?_
 refine pq (ql (.agg [iI n20, sC r56 s21]) 7 sz25) ?_
 obtain ⟨b184, h183, h⟩ := bindS h
 refine pq (qc (bO b184) [.agg [iI n146, sC r56 s147], .agg [iI n20, sC r56 s21]] (ref09_Same_r (m + 4) h183) (vw_cons (vd_agg (vc_cons vc_v (vc_cons vc_s vc_nil))) (vw_cons (vd_agg (vc_cons vc_v (vc_cons vc_s vc_nil))) vw_nil))) ?_
 refine pq (qpt (bO b184)) ?_
 refine pq (qa (bO b184)) ?_
 refine oE (eS (lR ?_))
 obtain rfl := sj h
 exact eF1
 replace h := ifF c182 h
 refine pq (qb (p_eql_fZ c182)) ?_
 refine pq (qpt bf) ?_
 refine pq (qm bf) ?_
 iterate 3 refine os ?_
 refine pq (qpf bf) ?_
 refine pq (qa bf) ?_
 refine oE (eS (lR ?_))
 obtain rfl := sj h
 exact eF1
 replace h := ifF c181 h
 refine pq (qb (p_eql_fZ c181)) ?_
 refine pq (qpt bf) ?_
 refine pq (qm bf) ?_
 iterate 2 refine os ?_
 refine pq (qpf bf) ?_
 refine pq (qm bf) ?_
 iterate 3 refine os ?_
 refine pq (qpf bf) ?_
 refine pq (qa bf) ?_
 refine oE (eS (lR ?_))
 obtain rfl := sj h
 exact eF1
 replace h := ifF c180 h
 refine pq (qb (p_eql_fZ c180)) ?_
 refine pq (qpt bf) ?_
 refine pq (qm bf) ?_
 iterate 3 refine os ?_
 refine pq (qpf bf) ?_
 refine pq (qm bf) ?_
 iterate 2 refine os ?_
 refine pq (qpf bf) ?_
 refine pq (qm bf) ?_
 iterate 3 refine os ?_
 refine pq (qpf bf) ?_
 refine pq (qa bf) ?_
 refine oE (eS (lR ?_))
 obtain rfl := sj h
 exact eF1
 replace h := ifF c179 h
 refine pq (qb (p_eql_fZ c179)) ?_
 refine pq (qpt bf) ?_
 refine pq (qm bf) ?_
 iterate 2 refine os ?_
 refine pq (qpf bf) ?_
 refine pq (qm bf) ?_
 iterate 3 refine os ?_
 refine pq (qpf bf) ?_
 refine pq (qm bf) ?_
 iterate 2 refine os ?_
 refine pq (qpf bf) ?_
 refine pq (qm bf) ?_
 iterate 3 refine os ?_
 refine pq (qpf bf) ?_
 refine pq (qa bf) ?_
 refine oE (eS (lR ?_))
 obtain rfl := sj h
 exact eF1
 replace h := ifF c178 h
 refine pq (qb (p_eql_fZ c178)) ?_
 refine pq (qm bf) ?_
 iterate 2 refine os ?_
 refine pq (qpf bf) ?_
 refine pq (qm bf) ?_
 iterate 2 refine os ?_
 refine pq (qpf bf) ?_
 refine pq (qm bf) ?_
 iterate 3 refine os ?_
 refine pq (qpf bf) ?_
 refine pq (qm bf) ?_
 iterate 2 refine os ?_
 refine pq (qpf bf) ?_
 refine pq (qm bf) ?_
 iterate 3 refine os ?_
 refine pq (qpf bf) ?_
 refine pq (qa bf) ?_
 refine oE (eS (lR ?_))
 obtain rfl := sj h
 exact eF1
 replace h := wT h
 refine cT rfl (lO ?_)
 refine pq (q_fieldP rfl fa57_1 rfl) ?_
 refine pq (ql (iO n151) 1 sz2) ?_
 refine pq (qa (iO n151)) ?_
 refine oE (eS (lS (lS (lO ?_))))
 refine pq (qm (bO b157)) ?_
 refine pq (qm (bO b157)) ?_
 rcases b157 with _ | _
 replace h := wF h
 iterate 8 refine os ?_
 refine pq (qpf bf) ?_
 refine oE (eS (cF rfl (lK (eS (lS (lO ?_))))))
 refine pq (q_build (cs := [iI 0, iI 3]) ty57 rfl pl57 rfl) ?_
 refine ol_new rfl rfl rfl (q_bslice (cs := [iI 0, iI 3]) (es := (([(0, 3)] : List (Int × Int))).map (rowC r56)) ty23 rfl ty57 rfl rfl rfl rfl rfl) (fun k185 => ?_)
 refine pq (q_build (cs := [iI 1, .own k185 0 (([(0, 3)] : List (Int × Int))).length]) ty25 rfl pl25 rfl) ?_
 obtain ⟨⟨⟨n187, n188⟩, b189⟩, h186, h⟩ := bindS h
 refine pq (qc (.tup [.agg [iI n187, iI n188], bO b189]) [.agg [iI 1, .own k185 0 (([(0, 3)] : List (Int × Int))).length]] (fold_Least_r (m + 2) h186) (vw_cons (vd_agg (vc_cons vc_v (vc_cons (vc_own (r := r56) 0 rfl (fun x h m => rfl)) vc_nil))) vw_nil)) ?_
 refine pq (qm (.tup [.agg [iI n187, iI n188], bO b189])) ?_
 refine pq (q_ext (v := .agg [iI n187, iI n188]) rfl rfl) ?_
 refine pq (q_ext (v := bO b189) rfl rfl) ?_
 refine ol_new rfl rfl rfl (q_alloc ty57 (row := [iI 0, iI 0]) rfl rfl) (fun k190 => ?_)
 refine ow [[iI n187, iI n188]] 0 sz57 ?_
 refine pq (qa (bO b189)) ?_
 refine oN ?_
 refine pq (q_fieldP rfl fa57_1 rfl) ?_
 refine pq (ql (iO n188) 0 sz2) ?_
 by_cases c191 : n188 = 3
 replace h := ifT c191 h
 refine pq (qb (p_eql_tZ c191)) ?_
 refine pq (qm bt) ?_
 refine pq (qm (iO n22)) ?_
 by_cases c192 : n22 = 0
 replace h := ifT c192 h
 refine pq (qb (p_eql_tZ c192)) ?_
 refine pq (qpt bt) ?_
 refine pq (qm bt) ?_
 refine pq (qm (iO n26)) ?_
 by_cases c193 : n26 = 0
 replace h := ifT c193 h
 refine pq (qb (p_eql_tZ c193)) ?_
 refine pq (qpt bt) ?_
 refine pq (qm bt) ?_
 refine pq (qm (iO n25)) ?_
 refine pq (qm (iO n151)) ?_
 by_cases c194 : n25 = n151
 replace h := ifT c194 h
 refine pq (qb (p_eql_tZ c194)) ?_
 refine pq (qpt bt) ?_
 refine pq (qm bt) ?_
 refine pq (qm (iO n148)) ?_
 by_cases c195 : n148 = 0
 replace h := ifT c195 h
 refine pq (qb (p_eql_tZ c195)) ?_
 refine pq (qpt bt) ?_
 refine pq (qm bt) ?_
 refine pq (ql (.agg [iI n146, sC r56 s147]) 4 sz25) ?_
 refine pq (ql (.agg [iI n20, sC r56 s21]) 7 sz25) ?_
 obtain ⟨b197, h196, h⟩ := bindS h
 refine pq (qc (bO b197) [.agg [iI n146, sC r56 s147], .agg [iI n20, sC r56 s21]] (ref09_Same_r (m + 4) h196) (vw_cons (vd_agg (vc_cons vc_v (vc_cons vc_s vc_nil))) (vw_cons (vd_agg (vc_cons vc_v (vc_cons vc_s vc_nil))) vw_nil))) ?_
 refine pq (qpt (bO b197)) ?_
 refine pq (qa (bO b197)) ?_
 refine oE (eS (lR ?_))
 obtain rfl := sj h
 exact eF1
 replace h := ifF c195 h
 refine pq (qb (p_eql_fZ c195)) ?_
 refine pq (qpt bf) ?_
 refine pq (qm bf) ?_
 iterate 3 refine os ?_
 refine pq (qpf bf) ?_
 refine pq (qa bf) ?_
 refine oE (eS (lR ?_))
 obtain rfl := sj h
 exact eF1
 replace h := ifF c194 h
 refine pq (qb (p_eql_fZ c194)) ?_
 refine pq (qpt bf) ?_
 refine pq (qm bf) ?_
 iterate 2 refine os ?_
 refine pq (qpf bf) ?_
 refine pq (qm bf) ?_
 iterate 3 refine os ?_
 refine pq (qpf bf) ?_
 refine pq (qa bf) ?_
 refine oE (eS (lR ?_))
 obtain rfl := sj h
 exact eF1
 replace h := ifF c193 h
 refine pq (qb (p_eql_fZ c193)) ?_
 refine pq (qpt bf) ?_
 refine pq (qm bf) ?_
 iterate 3 refine os ?_
 refine pq (qpf bf) ?_
 refine pq (qm bf) ?_
 iterate 2 refine os ?_
 refine pq (qpf bf) ?_
 refine pq (qm bf) ?_
 iterate 3 refine os ?_
 refine pq (qpf bf) ?_
 refine pq (qa bf) ?_
 refine oE (eS (lR ?_))
 obtain rfl := sj h
 exact eF1
 replace h := ifF c192 h
 refine pq (qb (p_eql_fZ c192)) ?_
 refine pq (qpt bf) ?_
 refine pq (qm bf) ?_
 iterate 2 refine os ?_
 refine pq (qpf bf) ?_
 refine pq (qm bf) ?_
 iterate 3 refine os ?_
 refine pq (qpf bf) ?_
 refine pq (qm bf) ?_
 iterate 2 refine os ?_
 refine pq (qpf bf) ?_
 refine pq (qm bf) ?_
 iterate 3 refine os ?_
 refine pq (qpf bf) ?_
 refine pq (qa bf) ?_
 refine oE (eS (lR ?_))
 obtain rfl := sj h
 exact eF1
 replace h := ifF c191 h
 refine pq (qb (p_eql_fZ c191)) ?_
 refine pq (qm bf) ?_
 iterate 2 refine os ?_
 refine pq (qpf bf) ?_
 refine pq (qm bf) ?_
 iterate 2 refine os ?_
 refine pq (qpf bf) ?_
 refine pq (qm bf) ?_
 iterate 3 refine os ?_
 refine pq (qpf bf) ?_
 refine pq (qm bf) ?_
 iterate 2 refine os ?_
 refine pq (qpf bf) ?_
 refine pq (qm bf) ?_
 iterate 3 refine os ?_
 refine pq (qpf bf) ?_
 refine pq (qa bf) ?_
 refine oE (eS (lR ?_))
 obtain rfl := sj h
 exact eF1
 replace h := wT h
 refine pq (qm bt) ?_
 refine pq (q_not rfl) ?_
 refine pq (qm bf) ?_
 refine pq (q_fieldP rfl fa57_1 rfl) ?_
 refine pq (ql (iO n156) 0 sz2) ?_
 refine pq (qm (iO n151)) ?_
 by_cases c198 : n156 < n151
 replace h := ifT c198 h
 refine pq (qb (p_lss_tZ c198)) ?_
 refine pq (qpf bt) ?_
 refine pq (qpt bt) ?_
 refine oE (eS (cT rfl (lO ?_)))
 refine pq (q_fieldP rfl fa57_1 rfl) ?_
 refine pq (ql (iO n156) 0 sz2) ?_
 refine pq (qa (iO n156)) ?_
 refine oN ?_
 refine pq (q_build (cs := [iI 0, iI 3]) ty57 rfl pl57 rfl) ?_
 refine ol_new rfl rfl rfl (q_bslice (cs := [iI 0, iI 3]) (es := (([(0, 3)] : List (Int × Int))).map (rowC r56)) ty23 rfl ty57 rfl rfl rfl rfl rfl) (fun k199 => ?_)
 refine pq (q_build (cs := [iI 1, .own k199 0 (([(0, 3)] : List (Int × Int))).length]) ty25 rfl pl25 rfl) ?_
 obtain ⟨⟨⟨n201, n202⟩, b203⟩, h200, h⟩ := bindS h
 refine pq (qc (.tup [.agg [iI n201, iI n202], bO b203]) [.agg [iI 1, .own k199 0 (([(0, 3)] : List (Int × Int))).length]] (fold_Least_r (m + 2) h200) (vw_cons (vd_agg (vc_cons vc_v (vc_cons (vc_own (r := r56) 0 rfl (fun x h m => rfl)) vc_nil))) vw_nil)) ?_
 refine pq (qm (.tup [.agg [iI n201, iI n202], bO b203])) ?_
 refine pq (q_ext (v := .agg [iI n201, iI n202]) rfl rfl) ?_
 refine pq (q_ext (v := bO b203) rfl rfl) ?_
 refine ol_new rfl rfl rfl (q_alloc ty57 (row := [iI 0, iI 0]) rfl rfl) (fun k204 => ?_)
 refine ow [[iI n201, iI n202]] 0 sz57 ?_
 refine pq (qa (bO b203)) ?_
 refine oN ?_
 refine pq (q_fieldP rfl fa57_1 rfl) ?_
 refine pq (ql (iO n202) 0 sz2) ?_
 by_cases c205 : n202 = 3
 replace h := ifT c205 h
 refine pq (qb (p_eql_tZ c205)) ?_
 refine pq (qm bt) ?_
 refine pq (qm (iO n22)) ?_
 by_cases c206 : n22 = 0
 replace h := ifT c206 h
 refine pq (qb (p_eql_tZ c206)) ?_
 refine pq (qpt bt) ?_
 refine pq (qm bt) ?_
 refine pq (qm (iO n26)) ?_
 by_cases c207 : n26 = 0
 replace h := ifT c207 h
 refine pq (qb (p_eql_tZ c207)) ?_
 refine pq (qpt bt) ?_
 refine pq (qm bt) ?_
 refine pq (qm (iO n25)) ?_
 refine pq (qm (iO n156)) ?_
 by_cases c208 : n25 = n156
 replace h := ifT c208 h
 refine pq (qb (p_eql_tZ c208)) ?_
 refine pq (qpt bt) ?_
 refine pq (qm bt) ?_
 refine pq (qm (iO n148)) ?_
 by_cases c209 : n148 = 0
 replace h := ifT c209 h
 refine pq (qb (p_eql_tZ c209)) ?_
 refine pq (qpt bt) ?_
 refine pq (qm bt) ?_
 refine pq (ql (.agg [iI n146, sC r56 s147]) 4 sz25) ?_
 refine pq (ql (.agg [iI n20, sC r56 s21]) 7 sz25) ?_
 obtain ⟨b211, h210, h⟩ := bindS h
 refine pq (qc (bO b211) [.agg [iI n146, sC r56 s147], .agg [iI n20, sC r56 s21]] (ref09_Same_r (m + 4) h210) (vw_cons (vd_agg (vc_cons vc_v (vc_cons vc_s vc_nil))) (vw_cons (vd_agg (vc_cons vc_v (vc_cons vc_s vc_nil))) vw_nil))) ?_
 refine pq (qpt (bO b211)) ?_
 refine pq (qa (bO b211)) ?_
 refine oE (eS (lR ?_))
 obtain rfl := sj h
 exact eF1
 replace h := ifF c209 h
 refine pq (qb (p_eql_fZ c209)) ?_
 refine pq (qpt bf) ?_
 refine pq (qm bf) ?_
 iterate 3 refine os ?_
 refine pq (qpf bf) ?_
 refine pq (qa bf) ?_
 refine oE (eS (lR ?_))
 obtain rfl := sj h
 exact eF1
 replace h := ifF c208 h
 refine pq (qb (p_eql_fZ c208)) ?_
 refine pq (qpt bf) ?_
 refine pq (qm bf) ?_
 iterate 2 refine os ?_
 refine pq (qpf bf) ?_
 refine pq (qm bf) ?_
 iterate 3 refine os ?_
 refine pq (qpf bf) ?_
 refine pq (qa bf) ?_
 refine oE (eS (lR ?_))
 obtain rfl := sj h
 exact eF1
 replace h := ifF c207 h
 refine pq (qb (p_eql_fZ c207)) ?_
 refine pq (qpt bf) ?_
 refine pq (qm bf) ?_
 iterate 3 refine os ?_
 refine pq (qpf bf) ?_
 refine pq (qm bf) ?_
 iterate 2 refine os ?_
 refine pq (qpf bf) ?_
 refine pq (qm bf) ?_
 iterate 3 refine os ?_
 refine pq (qpf bf) ?_
 refine pq (qa bf) ?_
 refine oE (eS (lR ?_))
 obtain rfl := sj h
 exact eF1
 replace h := ifF c206 h
 refine pq (qb (p_eql_fZ c206)) ?_
 refine pq (qpt bf) ?_
 refine pq (qm bf) ?_
 iterate 2 refine os ?_
 refine pq (qpf bf) ?_
 refine pq (qm bf) ?_
 iterate 3 refine os ?_
 refine pq (qpf bf) ?_
 refine pq (qm bf) ?_
 iterate 2 refine os ?_
 refine pq (qpf bf) ?_
 refine pq (qm bf) ?_
 iterate 3 refine os ?_
 refine pq (qpf bf) ?_
 refine pq (qa bf) ?_
 refine oE (eS (lR ?_))
 obtain rfl := sj h
 exact eF1
 replace h := ifF c205 h
 refine pq (qb (p_eql_fZ c205)) ?_
 refine pq (qm bf) ?_
 iterate 2 refine os ?_
 refine pq (qpf bf) ?_
 refine pq (qm bf) ?_
 iterate 2 refine os ?_
 refine pq (qpf bf) ?_
 refine pq (qm bf) ?_
 iterate 3 refine os ?_
 refine pq (qpf bf) ?_
 refine pq (qm bf) ?_
 iterate 2 refine os ?_
 refine pq (qpf bf) ?_
 refine pq (qm bf) ?_
 iterate 3 refine os ?_
 refine pq (qpf bf) ?_
 refine pq (qa bf) ?_
 refine oE (eS (lR ?_))
 obtain rfl := sj h
 exact eF1
 replace h := ifF c198 h
 refine pq (qb (p_lss_fZ c198)) ?_
 refine pq (qpf bf) ?_
 refine pq (qpt bf) ?_
 refine oE (eS (cF rfl (lK (eS (lS (lO ?_))))))
 refine pq (q_build (cs := [iI 0, iI 3]) ty57 rfl pl57 rfl) ?_
 refine ol_new rfl rfl rfl (q_bslice (cs := [iI 0, iI 3]) (es := (([(0, 3)] : List (Int × Int))).map (rowC r56)) ty23 rfl ty57 rfl rfl rfl rfl rfl) (fun k212 => ?_)
 refine pq (q_build (cs := [iI 1, .own k212 0 (([(0, 3)] : List (Int × Int))).length]) ty25 rfl pl25 rfl) ?_
 obtain ⟨⟨⟨n214, n215⟩, b216⟩, h213, h⟩ := bindS h
 refine pq (qc (.tup [.agg [iI n214, iI n215], bO b216]) [.agg [iI 1, .own k212 0 (([(0, 3)] : List (Int × Int))).length]] (fold_Least_r (m + 2) h213) (vw_cons (vd_agg (vc_cons vc_v (vc_cons (vc_own (r := r56) 0 rfl (fun x h m => rfl)) vc_nil))) vw_nil)) ?_
 refine pq (qm (.tup [.agg [iI n214, iI n215], bO b216])) ?_
 refine pq (q_ext (v := .agg [iI n214, iI n215]) rfl rfl) ?_
 refine pq (q_ext (v := bO b216) rfl rfl) ?_
 refine ol_new rfl rfl rfl (q_alloc ty57 (row := [iI 0, iI 0]) rfl rfl) (fun k217 => ?_)
 refine ow [[iI n214, iI n215]] 0 sz57 ?_
 refine pq (qa (bO b216)) ?_
 refine oN ?_
 refine pq (q_fieldP rfl fa57_1 rfl) ?_
 refine pq (ql (iO n215) 0 sz2) ?_
 by_cases c218 : n215 = 3
 replace h := ifT c218 h
 refine pq (qb (p_eql_tZ c218)) ?_
 refine pq (qm bt) ?_
 refine pq (qm (iO n22)) ?_
 by_cases c219 : n22 = 0
 replace h := ifT c219 h
 refine pq (qb (p_eql_tZ c219)) ?_
 refine pq (qpt bt) ?_
 refine pq (qm bt) ?_
 refine pq (qm (iO n26)) ?_
 by_cases c220 : n26 = 0
 replace h := ifT c220 h
 refine pq (qb (p_eql_tZ c220)) ?_
 refine pq (qpt bt) ?_
 refine pq (qm bt) ?_
 refine pq (qm (iO n25)) ?_
 refine pq (qm (iO n151)) ?_
 by_cases c221 : n25 = n151
 replace h := ifT c221 h
 refine pq (qb (p_eql_tZ c221)) ?_
 refine pq (qpt bt) ?_
 refine pq (qm bt) ?_
 refine pq (qm (iO n148)) ?_
 by_cases c222 : n148 = 0
 replace h := ifT c222 h
 refine pq (qb (p_eql_tZ c222)) ?_
 refine pq (qpt bt) ?_
 refine pq (qm bt) ?_
 refine pq (ql (.agg [iI n146, sC r56 s147]) 4 sz25) ?_
 refine pq (ql (.agg [iI n20, sC r56 s21]) 7 sz25) ?_
 obtain ⟨b224, h223, h⟩ := bindS h
 refine pq (qc (bO b224) [.agg [iI n146, sC r56 s147], .agg [iI n20, sC r56 s21]] (ref09_Same_r (m + 4) h223) (vw_cons (vd_agg (vc_cons vc_v (vc_cons vc_s vc_nil))) (vw_cons (vd_agg (vc_cons vc_v (vc_cons vc_s vc_nil))) vw_nil))) ?_
 refine pq (qpt (bO b224)) ?_
 refine pq (qa (bO b224)) ?_
 refine oE (eS (lR ?_))
 obtain rfl := sj h
 exact eF1
 replace h := ifF c222 h
 refine pq (qb (p_eql_fZ c222)) ?_
 refine pq (qpt bf) ?_
 refine pq (qm bf) ?_
 iterate 3 refine os ?_
 refine pq (qpf bf) ?_
 refine pq (qa bf) ?_
 refine oE (eS (lR ?_))
 obtain rfl := sj h
 exact eF1
 replace h := ifF c221 h
 refine pq (qb (p_eql_fZ c221)) ?_
 refine pq (qpt bf) ?_
 refine pq (qm bf) ?_
 iterate 2 refine os ?_
 refine pq (qpf bf) ?_
 refine pq (qm bf) ?_
 iterate 3 refine os ?_
 refine pq (qpf bf) ?_
 refine pq (qa bf) ?_
 refine oE (eS (lR ?_))
 obtain rfl := sj h
 exact eF1
 replace h := ifF c220 h
 refine pq (qb (p_eql_fZ c220)) ?_
 refine pq (qpt bf) ?_
 refine pq (qm bf) ?_
 iterate 3 refine os ?_
 refine pq (qpf bf) ?_
 refine pq (qm bf) ?_
 iterate 2 refine os ?_
 refine pq (qpf bf) ?_
 refine pq (qm bf) ?_
 iterate 3 refine os ?_
 refine pq (qpf bf) ?_
 refine pq (qa bf) ?_
 refine oE (eS (lR ?_))
 obtain rfl := sj h
 exact eF1
 replace h := ifF c219 h
 refine pq (qb (p_eql_fZ c219)) ?_
 refine pq (qpt bf) ?_
 refine pq (qm bf) ?_
 iterate 2 refine os ?_
 refine pq (qpf bf) ?_
 refine pq (qm bf) ?_
 iterate 3 refine os ?_
 refine pq (qpf bf) ?_
 refine pq (qm bf) ?_
 iterate 2 refine os ?_
 refine pq (qpf bf) ?_
 refine pq (qm bf) ?_
 iterate 3 refine os ?_
 refine pq (qpf bf) ?_
 refine pq (qa bf) ?_
 refine oE (eS (lR ?_))
 obtain rfl := sj h
 exact eF1
 replace h := ifF c218 h
 refine pq (qb (p_eql_fZ c218)) ?_
 refine pq (qm bf) ?_
 iterate 2 refine os ?_
 refine pq (qpf bf) ?_
 refine pq (qm bf) ?_
 iterate 2 refine os ?_
 refine pq (qpf bf) ?_
 refine pq (qm bf) ?_
 iterate 3 refine os ?_
 refine pq (qpf bf) ?_
 refine pq (qm bf) ?_
 iterate 2 refine os ?_
 refine pq (qpf bf) ?_
 refine pq (qm bf) ?_
 iterate 3 refine os ?_
 refine pq (qpf bf) ?_
 refine pq (qa bf) ?_
 refine oE (eS (lR ?_))
 obtain rfl := sj h
 exact eF1
end Ev
end Go.Proofs.Ytlcfdmjkbaegpaa
